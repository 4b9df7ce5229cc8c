/- Layer expr, plain: what is read of words, as nodes that tell how far back their expressions stand. Layer expr, plain: reading takes words, and ends. Layer expr, plain: nodes as a stack of runs; what is read is one run. Layer expr, plain: more fuel changes nothing; what is read, by rules. Layer expr, plain: what is read is read again in deeper levels, with a closing parenthesis behind, but for places; or it is too deep. Layer expr, plain: texts in parentheses, with an operator between. Layer expr, plain: what the words of a text are: not too long, places from 1 on. Layer expr, plain: what is left is the end of what was there. Layer expr, plain: where each node's run begins. -/
import Derived.Test.YtgmjpcaennmgoaaGreatDoorTH
import Derived.Test.YtgmjpcaennmgoaaGreatDoorKT
import Derived.Test.YtgmjpcaennmgoaaGreatDoorTV
namespace Go.Proofs.YtgmjpcaennmgoaaGreatDoor
open Go.ChangeShapes Go.WideShapes Go.ChangeAt Go.RowKit Go.Lib
set_option linter.unusedVariables false
set_option linter.unusedSimpArgs false
set_option maxRecDepth 100000

/-- A node: op, value, name, how far back each of its expressions stands, place. -/
structure Nd where
  op : Int
  vk : Int
  vn : Int
  vs : List UInt8
  nm : List UInt8
  ks : List Nat
  ln : Int
  cl : Int
deriving DecidableEq
/-- What is read: nodes, and the words behind them; or an error, and the words from that on at which it can't go on. -/
inductive Rz where
  | out
  | ok (ns : List Nd) (r : List Tk)
  | no (e : Int) (r : List Tk)
def Rz.bnd : Rz → (List Nd → List Tk → Rz) → Rz
  | .out, _ => .out
  | .ok ns r, f => f ns r
  | .no e r, _ => .no e r
/-- The next word, or none. -/
def wordL : List Tk → Tk
  | [] => Tk.zero
  | x :: _ => x
def isT (x : Tk) (s : List UInt8) : Bool := (x.k == 1 || x.k == 7) && x.t == s
def isL (s : List UInt8) (l : List Tk) : Bool := isT (wordL l) s
/-- An infix operator's op, and its level. -/
def inOp (s : List UInt8) : Nat × Nat :=
  if s = [111, 114] then (4, 0) else if s = [97, 110, 100] then (5, 1) else if s = [61] then (7, 3) else if s = [60, 62] then (8, 3) else if s = [60] then (9, 3)
  else if s = [60, 61] then (10, 3) else if s = [62] then (11, 3) else if s = [62, 61] then (12, 3) else if s = [43] then (13, 4) else if s = [45] then (14, 4)
  else if s = [42] then (15, 5) else if s = [47] then (16, 5) else (0, 0)
def inT (L : Nat) (x : Tk) : Nat := if (inOp x.t).2 = L ∧ isT x x.t = true then (inOp x.t).1 else 0
def inL (L : Nat) (l : List Tk) : Nat := inT L (wordL l)
/-- A call's op, and how many expressions it has. -/
def callL (s : List UInt8) : Option (Nat × Nat × Nat) :=
  if s = [97, 98, 115] then some (18, 1, 1) else if s = [109, 105, 110] then some (19, 1, 8) else if s = [109, 97, 120] then some (20, 1, 8) else if s = [109, 111, 100] then some (21, 2, 2)
  else if s = [108, 101, 110, 103, 116, 104] then some (22, 1, 1) else if s = [117, 112, 112, 101, 114] then some (23, 1, 1) else if s = [99, 111, 110, 116, 97, 105, 110, 115] then some (24, 2, 2)
  else if s = [115, 116, 97, 114, 116, 115] then some (25, 2, 2) else if s = [105, 102] then some (26, 3, 3) else none
inductive Md where
  | lvl (L : Nat)
  | tail (L : Nat) (ns : List Nd)
  | args (op lo hi : Nat) (ln cl : Int) (ns : List Nd) (ks : List Nat)
def ndOp (op : Nat) (ks : List Nat) (x : Tk) : Nd := ⟨op, 0, 0, [], [], ks, x.ln, x.cl⟩
def ndLit (vk vn : Int) (vs : List UInt8) (x : Tk) : Nd := ⟨1, vk, vn, vs, [], [], x.ln, x.cl⟩
/-- The word that stands ahead at a level, its op. -/
def preW (L : Nat) : List UInt8 := if L = 2 then [110, 111, 116] else [45]
def preO (L : Nat) : Nat := if L = 2 then 6 else 17
/-- An infix operator, and what stands behind it. -/
def pairP (rec : Md → Nat → List Tk → Rz) (L : Nat) (ns : List Nd) (o : Nat) (l : List Tk) : Rz :=
  (rec (.lvl (L + 1)) o l.tail).bnd fun ns2 r => .ok (ns ++ ns2 ++ [ndOp (inL L l) [ns2.length + 1, 1] (wordL l)]) r
def callP (rec : Md → Nat → List Tk → Rz) (c : Nat × Nat × Nat) (o : Nat) (l : List Tk) : Rz :=
  if isL [40] l.tail = false then .no 4 l.tail
  else if o = 12 then .no 12 l.tail
  else (rec (.lvl 0) (o + 1) l.tail.tail).bnd fun ns r => rec (.args c.1 c.2.1 c.2.2 (wordL l).ln (wordL l).cl ns [ns.length - 1]) (o + 1) r
def nameP (rec : Md → Nat → List Tk → Rz) (o : Nat) (l : List Tk) : Rz :=
  if (wordL l).t = [116, 114, 117, 101] then .ok [ndLit 4 1 [] (wordL l)] l.tail
  else if (wordL l).t = [102, 97, 108, 115, 101] then .ok [ndLit 4 0 [] (wordL l)] l.tail
  else if (wordL l).t = [110, 117, 108, 108] then .ok [ndLit 0 0 [] (wordL l)] l.tail
  else match callL (wordL l).t with
    | none => .no 4 l
    | some c => callP rec c o l
def groupP (rec : Md → Nat → List Tk → Rz) (o : Nat) (l : List Tk) : Rz :=
  if o = 12 then .no 12 l else (rec (.lvl 0) (o + 1) l.tail).bnd fun ns r => if isL [41] r then .ok ns r.tail else .no 4 r
def atomP (rec : Md → Nat → List Tk → Rz) (o : Nat) (l : List Tk) : Rz :=
  if (wordL l).k = 4 ∨ (wordL l).k = 5 ∨ (wordL l).k = 6 then .ok [ndLit (wordL l).vk (wordL l).vn (wordL l).vs (wordL l)] l.tail
  else if (wordL l).k = 2 then .ok [⟨2, 0, 0, [], (wordL l).t, [], (wordL l).ln, (wordL l).cl⟩] l.tail
  else if (wordL l).k = 3 then .ok [⟨3, 0, 0, [], [], [], (wordL l).ln, (wordL l).cl⟩] l.tail
  else if (wordL l).k = 1 then nameP rec o l
  else if (wordL l).k = 7 ∧ (wordL l).t = [40] then groupP rec o l
  else .no 4 l
def preP (rec : Md → Nat → List Tk → Rz) (L : Nat) (o : Nat) (l : List Tk) : Rz :=
  if isL (preW L) l = false then rec (.lvl (L + 1)) o l
  else if o = 12 then .no 12 l
  else (rec (.lvl L) (o + 1) l.tail).bnd fun ns r => .ok (ns ++ [ndOp (preO L) [1] (wordL l)]) r
def cmpP (rec : Md → Nat → List Tk → Rz) (o : Nat) (l : List Tk) : Rz :=
  (rec (.lvl 4) o l).bnd fun ns r => if inL 3 r = 0 then .ok ns r else pairP rec 3 ns o r
def argsP (rec : Md → Nat → List Tk → Rz) (op lo hi : Nat) (ln cl : Int) (ns : List Nd) (ks : List Nat) (o : Nat) (l : List Tk) : Rz :=
  if isL [44] l then
    if ks.length = hi then .no 14 l else (rec (.lvl 0) o l.tail).bnd fun ns2 r => rec (.args op lo hi ln cl (ns ++ ns2) (ks ++ [ns.length + ns2.length - 1])) o r
  else if isL [41] l = true ∧ ks.length < lo then .no 14 l
  else if isL [41] l then .ok (ns ++ [⟨op, 0, 0, [], [], ks.map (ns.length - ·), ln, cl⟩]) l.tail
  else .no 4 l
def P : Nat → Md → Nat → List Tk → Rz
  | 0, _, _, _ => .out
  | F + 1, .lvl L, o, l =>
    if L = 7 then atomP (P F) o l
    else if L = 2 ∨ L = 6 then preP (P F) L o l
    else if L = 3 then cmpP (P F) o l
    else (P F (.lvl (L + 1)) o l).bnd fun ns r => P F (.tail L ns) o r
  | F + 1, .tail L ns, o, l => if inL L l = 0 then .ok ns l else (pairP (P F) L ns o l).bnd fun ns' r => P F (.tail L ns') o r
  | F + 1, .args op lo hi ln cl ns ks, o, l => argsP (P F) op lo hi ln cl ns ks o l

theorem bnd_out {x : Rz} {f : List Nd → List Tk → Rz} (h : x.bnd f ≠ .out) : x ≠ .out := by
  rintro rfl
  exact h rfl
theorem bnd_ok {x : Rz} {f : List Nd → List Tk → Rz} {ns : List Nd} {r : List Tk} (h : x.bnd f = .ok ns r) : ∃ ns' r', x = .ok ns' r' ∧ f ns' r' = .ok ns r := by
  cases x with
  | out => cases h
  | no e r => cases h
  | ok a b => exact ⟨a, b, rfl, h⟩

/-- The tree of a whole text's words: nodes; or an error, and how many words stand from there on. -/
def fuelOf (l : List Tk) : Nat := 10 * l.length + 20
def parseX (l : List Tk) : Rz := P (fuelOf l) (.lvl 0) 0 l
end Go.Proofs.YtgmjpcaennmgoaaGreatDoor
namespace Go.Proofs.YtgmjpcaennmgoaaGreatDoor
open Go.ChangeShapes Go.WideShapes Go.ChangeAt Go.RowKit Go.Lib
set_option linter.unusedVariables false
set_option linter.unusedSimpArgs false
set_option maxRecDepth 100000

theorem isL_ne {s : List UInt8} {l : List Tk} (h : isL s l = true) : l ≠ [] := by
  rintro rfl
  simp [isL, isT, wordL, Tk.zero] at h
theorem inL_ne {L : Nat} {l : List Tk} (h : inL L l ≠ 0) : l ≠ [] := by
  rintro rfl
  simp [inL, inT, isT, wordL, Tk.zero] at h
theorem word_ne {l : List Tk} (h : (wordL l).k ≠ 0) : l ≠ [] := by
  rintro rfl
  exact h rfl
theorem tail_lt {l : List Tk} (h : l ≠ []) : l.tail.length + 1 = l.length := by
  cases l with
  | nil => exact absurd rfl h
  | cons x r => rfl
/-- How many words are taken at least. -/
def Md.min : Md → Nat
  | .lvl _ => 1
  | .tail _ _ => 0
  | .args .. => 1
def Takes (rec : Md → Nat → List Tk → Rz) : Prop := ∀ m o l ns r, rec m o l = .ok ns r → r.length + m.min ≤ l.length
theorem Takes.pair {rec : Md → Nat → List Tk → Rz} (h : Takes rec) {L : Nat} {ns : List Nd} {o : Nat} {l : List Tk} {ns' : List Nd} {r : List Tk} (hl : l ≠ []) (he : pairP rec L ns o l = .ok ns' r) : r.length + 2 ≤ l.length := by
  obtain ⟨a, b, h1, h2⟩ := bnd_ok he
  injection h2 with h2 h3
  have h4 := h _ _ _ _ _ h1
  have h5 := tail_lt hl
  simp only [Md.min] at h4
  rw [← h3]
  omega
theorem Takes.atom {rec : Md → Nat → List Tk → Rz} (h : Takes rec) {o : Nat} {l : List Tk} {ns' : List Nd} {r : List Tk} (he : atomP rec o l = .ok ns' r) : r.length + 1 ≤ l.length := by
  unfold atomP at he
  split at he
  · rename_i hk
    have hl := word_ne (l := l) (by omega)
    injection he with _ h3
    have h5 := tail_lt hl
    rw [← h3]
    omega
  split at he
  · have hl := word_ne (l := l) (by omega)
    injection he with _ h3
    have h5 := tail_lt hl
    rw [← h3]
    omega
  split at he
  · have hl := word_ne (l := l) (by omega)
    injection he with _ h3
    have h5 := tail_lt hl
    rw [← h3]
    omega
  split at he
  · have hl := word_ne (l := l) (by omega)
    have h5 := tail_lt hl
    unfold nameP at he
    split at he
    · injection he with _ h3
      rw [← h3]
      omega
    split at he
    · injection he with _ h3
      rw [← h3]
      omega
    split at he
    · injection he with _ h3
      rw [← h3]
      omega
    split at he
    · cases he
    · unfold callP at he
      split at he
      · cases he
      split at he
      · cases he
      obtain ⟨a, b, h1, h2⟩ := bnd_ok he
      have h6 := h _ _ _ _ _ h1
      have h7 := h _ _ _ _ _ h2
      simp only [Md.min, List.length_tail] at h6 h7 h5
      omega
  split at he
  · have hl := word_ne (l := l) (by omega)
    have h5 := tail_lt hl
    unfold groupP at he
    split at he
    · cases he
    obtain ⟨a, b, h1, h2⟩ := bnd_ok he
    have h6 := h _ _ _ _ _ h1
    simp only [Md.min] at h6
    split at h2
    · rename_i hi
      have h8 := tail_lt (isL_ne hi)
      injection h2 with _ h3
      rw [← h3]
      omega
    · cases h2
  · cases he
theorem Takes.pre {rec : Md → Nat → List Tk → Rz} (h : Takes rec) {L o : Nat} {l : List Tk} {ns' : List Nd} {r : List Tk} (he : preP rec L o l = .ok ns' r) : r.length + 1 ≤ l.length := by
  unfold preP at he
  split at he
  · exact h _ _ _ _ _ he
  · rename_i hi
    have h8 := tail_lt (isL_ne (by simpa using hi))
    split at he
    · cases he
    obtain ⟨a, b, h1, h2⟩ := bnd_ok he
    have h6 := h _ _ _ _ _ h1
    injection h2 with _ h3
    simp only [Md.min] at h6
    rw [← h3]
    omega
theorem Takes.cmp {rec : Md → Nat → List Tk → Rz} (h : Takes rec) {o : Nat} {l : List Tk} {ns' : List Nd} {r : List Tk} (he : cmpP rec o l = .ok ns' r) : r.length + 1 ≤ l.length := by
  obtain ⟨a, b, h1, h2⟩ := bnd_ok he
  have h6 := h _ _ _ _ _ h1
  simp only [Md.min] at h6
  split at h2
  · injection h2 with _ h3
    rw [← h3]
    omega
  · rename_i hi
    have h7 := h.pair (inL_ne hi) h2
    omega
theorem Takes.args {rec : Md → Nat → List Tk → Rz} (h : Takes rec) {op lo hi : Nat} {ln cl : Int} {ns : List Nd} {ks : List Nat} {o : Nat} {l : List Tk} {ns' : List Nd} {r : List Tk} (he : argsP rec op lo hi ln cl ns ks o l = .ok ns' r) : r.length + 1 ≤ l.length := by
  unfold argsP at he
  split at he
  · rename_i hi
    have h8 := tail_lt (isL_ne hi)
    split at he
    · cases he
    obtain ⟨a, b, h1, h2⟩ := bnd_ok he
    have h6 := h _ _ _ _ _ h1
    have h7 := h _ _ _ _ _ h2
    simp only [Md.min] at h6 h7
    omega
  split at he
  · cases he
  split at he
  · rename_i hi
    have h8 := tail_lt (isL_ne hi)
    injection he with _ h3
    rw [← h3]
    omega
  · cases he
theorem takes : ∀ F, Takes (P F)
  | 0 => fun m o l ns r h => by cases h
  | F + 1 => by
    have ih := takes F
    intro m o l ns r h
    cases m with
    | lvl L =>
      unfold P at h
      split at h
      · exact ih.atom h
      split at h
      · exact ih.pre h
      split at h
      · exact ih.cmp h
      · obtain ⟨a, b, h1, h2⟩ := bnd_ok h
        have h6 := ih _ _ _ _ _ h1
        have h7 := ih _ _ _ _ _ h2
        simp only [Md.min] at h6 h7 ⊢
        omega
    | tail L ns0 =>
      unfold P at h
      split at h
      · injection h with _ h3
        simp only [Md.min]
        rw [← h3]
        omega
      · rename_i hi
        obtain ⟨a, b, h1, h2⟩ := bnd_ok h
        have h6 := ih.pair (inL_ne hi) h1
        have h7 := ih _ _ _ _ _ h2
        simp only [Md.min] at h7 ⊢
        omega
    | args op lo hi ln cl ns0 ks =>
      unfold P at h
      exact ih.args h
/-- How much fuel is enough. -/
def Md.need (l : List Tk) : Md → Nat
  | .lvl L => 10 * l.length + (8 - L)
  | .tail _ _ => 10 * l.length + 9
  | .args .. => 10 * l.length + 9
def Md.fit : Md → Prop
  | .lvl L => L ≤ 7
  | .tail L _ => L ≤ 6
  | .args .. => True
def Ends (F : Nat) : Prop := ∀ m o l, m.fit → m.need l ≤ F → P F m o l ≠ .out
theorem bnd_in {x : Rz} {f : List Nd → List Tk → Rz} (h : x ≠ .out) (hf : ∀ ns r, x = .ok ns r → f ns r ≠ .out) : x.bnd f ≠ .out := by
  cases x with
  | out => exact absurd rfl h
  | no e r => intro hh; cases hh
  | ok a b => exact hf a b rfl
theorem Ends.pair {F : Nat} (h : Ends F) {L : Nat} (hL : L ≤ 6) {ns : List Nd} {o : Nat} {l : List Tk} (hl : l ≠ []) (hF : 10 * l.length ≤ F + 2) : pairP (P F) L ns o l ≠ .out := by
  have h5 := tail_lt hl
  refine bnd_in (h _ _ _ (by simp only [Md.fit]; omega) (by simp only [Md.need]; omega)) (fun _ _ _ hh => by cases hh)
theorem ends : ∀ F, Ends F
  | 0 => fun m o l hf h => by cases m <;> simp only [Md.need, Md.fit] at h hf <;> omega
  | F + 1 => by
    have ih := ends F
    intro m o l hf hn
    cases m with
    | lvl L =>
      simp only [Md.need, Md.fit] at hn hf
      unfold P
      split
      · subst L
        unfold atomP
        split
        · intro hh; cases hh
        split
        · intro hh; cases hh
        split
        · intro hh; cases hh
        split
        · have hl := word_ne (l := l) (by omega)
          have h5 := tail_lt hl
          unfold nameP
          split
          · intro hh; cases hh
          split
          · intro hh; cases hh
          split
          · intro hh; cases hh
          split
          · intro hh; cases hh
          · unfold callP
            split
            · intro hh; cases hh
            rename_i hi
            have h8 := tail_lt (isL_ne (by simpa using hi))
            split
            · intro hh; cases hh
            refine bnd_in (ih _ _ _ (by simp only [Md.fit]; omega) (by simp only [Md.need]; omega)) (fun a b h1 => ?_)
            have h6 := takes F _ _ _ _ _ h1
            simp only [Md.min] at h6
            exact ih _ _ _ trivial (by simp only [Md.need]; omega)
        split
        · have hl := word_ne (l := l) (by omega)
          have h5 := tail_lt hl
          unfold groupP
          split
          · intro hh; cases hh
          refine bnd_in (ih _ _ _ (by simp only [Md.fit]; omega) (by simp only [Md.need]; omega)) (fun a b h1 => ?_)
          split <;> (intro hh; cases hh)
        · intro hh; cases hh
      split
      · unfold preP
        split
        · exact ih _ _ _ (by simp only [Md.fit]; omega) (by simp only [Md.need]; omega)
        · rename_i hi
          have h8 := tail_lt (isL_ne (by simpa using hi))
          split
          · intro hh; cases hh
          exact bnd_in (ih _ _ _ (by simp only [Md.fit]; omega) (by simp only [Md.need]; omega)) (fun _ _ _ hh => by cases hh)
      split
      · unfold cmpP
        refine bnd_in (ih _ _ _ (by simp only [Md.fit]; omega) (by simp only [Md.need]; omega)) (fun a b h1 => ?_)
        have h6 := takes F _ _ _ _ _ h1
        simp only [Md.min] at h6
        split
        · intro hh; cases hh
        · rename_i hi
          exact ih.pair (by omega) (inL_ne hi) (by omega)
      · refine bnd_in (ih _ _ _ (by simp only [Md.fit]; omega) (by simp only [Md.need]; omega)) (fun a b h1 => ?_)
        have h6 := takes F _ _ _ _ _ h1
        simp only [Md.min] at h6
        exact ih _ _ _ (by simp only [Md.fit]; omega) (by simp only [Md.need]; omega)
    | tail L ns0 =>
      simp only [Md.need, Md.fit] at hn hf
      unfold P
      split
      · intro hh; cases hh
      · rename_i hi
        refine bnd_in (ih.pair hf (inL_ne hi) (by omega)) (fun a b h1 => ?_)
        have h6 := (takes F).pair (inL_ne hi) h1
        exact ih _ _ _ (by simp only [Md.fit]; omega) (by simp only [Md.need]; omega)
    | args op lo hi ln cl ns0 ks =>
      simp only [Md.need, Md.fit] at hn hf
      unfold P argsP
      split
      · rename_i hi
        have h8 := tail_lt (isL_ne hi)
        split
        · intro hh; cases hh
        refine bnd_in (ih _ _ _ (by simp only [Md.fit]; omega) (by simp only [Md.need]; omega)) (fun a b h1 => ?_)
        have h6 := takes F _ _ _ _ _ h1
        simp only [Md.min] at h6
        exact ih _ _ _ trivial (by simp only [Md.need]; omega)
      split
      · intro hh; cases hh
      split <;> (intro hh; cases hh)
theorem parseX_in (l : List Tk) : parseX l ≠ .out := ends _ _ _ _ (by simp only [Md.fit]; omega) (by simp only [Md.need, fuelOf]; omega)
end Go.Proofs.YtgmjpcaennmgoaaGreatDoor
namespace Go.Proofs.YtgmjpcaennmgoaaGreatDoor
open Go.ChangeShapes Go.WideShapes Go.ChangeAt Go.RowKit Go.Lib
set_option linter.unusedVariables false
set_option linter.unusedSimpArgs false
set_option maxRecDepth 100000

/-- The runs that a node at place i stands on, from the right one on: where the first one begins, and the runs that are left. -/
def pops (i : Nat) : List Nat → Nat → List Nat → Option (Nat × List Nat)
  | [], f, s => some (f, s)
  | _ :: _, _, [] => none
  | d :: ds, f, g :: s => if i + 1 = f + d ∧ 1 ≤ f then pops i ds g s else none
/-- Where the runs begin behind these nodes, the last one first. -/
def exec : List Nd → Nat → List Nat → Option (List Nat)
  | [], _, s => some s
  | x :: l, i, s => match pops i x.ks.reverse i s with
    | some (f, s') => exec l (i + 1) (f :: s')
    | none => none
theorem exec_app : ∀ (l1 l2 : List Nd) (i : Nat) (s : List Nat), exec (l1 ++ l2) i s = (exec l1 i s).bind (exec l2 (i + l1.length))
  | [], l2, i, s => rfl
  | x :: l1, l2, i, s => by
    rw [List.cons_append]
    unfold exec
    cases h : pops i x.ks.reverse i s with
    | none => rfl
    | some p =>
      simp only
      rw [exec_app l1 l2, List.length_cons, Nat.add_assoc i 1, Nat.add_comm 1]
/-- One run. -/
structure Tr (l : List Nd) : Prop where
  pos : 1 ≤ l.length
  run : ∀ i s, exec l i s = some (i :: s)
theorem Tr.leaf {x : Nd} (h : x.ks = []) : Tr [x] := ⟨Nat.le_refl _, fun i s => by simp [exec, h, pops]⟩
theorem Tr.pre {l : List Nd} (hl : Tr l) {x : Nd} (h : x.ks = [1]) : Tr (l ++ [x]) := ⟨by simp, fun i s => by
  have hp := hl.pos
  rw [exec_app, hl.run, Option.bind_some]
  unfold exec
  rw [h]
  have h1 : 1 ≤ i + l.length := by omega
  simp only [List.reverse_cons, List.reverse_nil, List.nil_append, pops, h1, and_true, if_true]
  rfl⟩
theorem Tr.pair {l l2 : List Nd} (hl : Tr l) (h2 : Tr l2) {x : Nd} (h : x.ks = [l2.length + 1, 1]) : Tr (l ++ l2 ++ [x]) := ⟨by simp; omega, fun i s => by
  have hp := hl.pos
  have hp2 := h2.pos
  rw [exec_app, exec_app, hl.run, Option.bind_some, h2.run, Option.bind_some]
  unfold exec
  rw [h]
  have h1 : 1 ≤ i + (l.length + l2.length) := by omega
  have h2 : i + (l.length + l2.length) + 1 = i + l.length + (l2.length + 1) ∧ 1 ≤ i + l.length := ⟨by omega, by omega⟩
  simp only [List.reverse_cons, List.reverse_nil, List.nil_append, List.cons_append, pops, List.length_append, h1, and_true, if_true, if_pos h2]
  rfl⟩
/-- Runs side by side, and where they end. -/
inductive Ag : List Nd → List Nat → Prop
  | one {ns : List Nd} : Tr ns → Ag ns [ns.length - 1]
  | more {ns ns2 : List Nd} {ks : List Nat} : Ag ns ks → Tr ns2 → Ag (ns ++ ns2) (ks ++ [ns.length + ns2.length - 1])
theorem Ag.pops {ns : List Nd} {ks : List Nat} (h : Ag ns ks) : 1 ≤ ns.length ∧ ∀ i s, ∃ fs, exec ns i s = some (fs ++ s) ∧ ∀ M, ns.length ≤ M → pops (i + M) (ks.map (M - ·)).reverse (i + ns.length) (fs ++ s) = some (i, s) := by
  induction h with
  | one ht =>
    have hp := ht.pos
    refine ⟨hp, fun i s => ⟨[i], ht.run i s, fun M hM => ?_⟩⟩
    simp only [List.map_cons, List.map_nil, List.reverse_cons, List.reverse_nil, List.nil_append, List.cons_append, YtgmjpcaennmgoaaGreatDoor.pops]
    rw [if_pos ⟨by omega, by omega⟩]
  | @more ns ns2 ks h ht ih =>
    obtain ⟨hp, ih⟩ := ih
    have hp2 := ht.pos
    refine ⟨by rw [List.length_append]; omega, fun i s => ?_⟩
    obtain ⟨fs, h1, h2⟩ := ih i s
    refine ⟨(i + ns.length) :: fs, ?_, fun M hM => ?_⟩
    · rw [exec_app, h1, Option.bind_some, ht.run]
      rfl
    · rw [List.length_append] at hM ⊢
      simp only [List.map_append, List.map_cons, List.map_nil, List.reverse_append, List.reverse_cons, List.reverse_nil, List.nil_append, List.cons_append, YtgmjpcaennmgoaaGreatDoor.pops]
      rw [if_pos ⟨by omega, by omega⟩]
      exact h2 M (by omega)
theorem Ag.len {ns : List Nd} {ks : List Nat} (h : Ag ns ks) : 1 ≤ ks.length := by
  cases h <;> simp
theorem Tr.call {ns : List Nd} {ks : List Nat} (h : Ag ns ks) {x : Nd} (hx : x.ks = ks.map (ns.length - ·)) : Tr (ns ++ [x]) := ⟨by simp, fun i s => by
  obtain ⟨hp, h⟩ := h.pops
  obtain ⟨fs, h1, h2⟩ := h i s
  rw [exec_app, h1, Option.bind_some]
  unfold exec
  rw [hx, h2 _ (Nat.le_refl _)]
  rfl⟩

/-- How few, and how many, expressions a node of an op has. -/
def kidN (op : Int) : Nat × Nat :=
  if (4 ≤ op ∧ op ≤ 5) ∨ (7 ≤ op ∧ op ≤ 16) ∨ op = 21 ∨ op = 24 ∨ op = 25 then (2, 2)
  else if op = 6 ∨ op = 17 ∨ op = 18 ∨ op = 22 ∨ op = 23 then (1, 1)
  else if op = 19 ∨ op = 20 then (1, 8)
  else if op = 26 then (3, 3) else (0, 0)
/-- A word as layer 6 tells it. -/
structure WdOk (x : Tk) : Prop where
  ln : 1 ≤ x.ln
  cl : 1 ≤ x.cl
  nm : x.k = 2 → isName x.t = true
/-- A node as it may be. -/
structure NdOk (x : Nd) : Prop where
  lo : 1 ≤ x.op
  hi : x.op ≤ 26
  few : (kidN x.op).1 ≤ x.ks.length
  many : x.ks.length ≤ (kidN x.op).2
  ln : 1 ≤ x.ln
  cl : 1 ≤ x.cl
  val : x.op ≠ 1 → x.vk = 0 ∧ x.vn = 0 ∧ x.vs = []
  nm : x.op ≠ 2 → x.nm = []
  name : x.op = 2 → isName x.nm = true
def AllOk (ns : List Nd) : Prop := ∀ x ∈ ns, NdOk x
theorem AllOk.app {a b : List Nd} (h : AllOk a) (k : AllOk b) : AllOk (a ++ b) := fun x hx => by
  rcases List.mem_append.1 hx with hx | hx
  · exact h x hx
  · exact k x hx
theorem AllOk.one {x : Nd} (h : NdOk x) : AllOk [x] := fun y hy => by
  rcases List.mem_singleton.1 hy with rfl
  exact h
theorem ite_mem {α : Type} {c : Prop} [Decidable c] {a b : α} {l : List α} (ha : a ∈ l) (hb : b ∈ l) : (if c then a else b) ∈ l := by split <;> assumption
theorem inOp_facts (s : List UInt8) : (inOp s).1 = 0 ∨ ((kidN ((inOp s).1 : Nat)) = (2, 2) ∧ 4 ≤ (inOp s).1 ∧ (inOp s).1 ≤ 16 ∧ (inOp s).1 ≠ 6) := by
  have h : inOp s ∈ [(4, 0), (5, 1), (7, 3), (8, 3), (9, 3), (10, 3), (11, 3), (12, 3), (13, 4), (14, 4), (15, 5), (16, 5), (0, 0)] := by
    unfold inOp
    repeat' (first | apply ite_mem | decide)
  revert h
  generalize inOp s = c
  intro h
  simp only [List.mem_cons, List.not_mem_nil, or_false] at h
  rcases h with rfl | rfl | rfl | rfl | rfl | rfl | rfl | rfl | rfl | rfl | rfl | rfl | rfl
  all_goals first | exact Or.inl rfl | exact Or.inr (by decide)
theorem inL_facts {L : Nat} {l : List Tk} (h : inL L l ≠ 0) : kidN ((inL L l : Nat) : Int) = (2, 2) ∧ 4 ≤ inL L l ∧ inL L l ≤ 16 := by
  unfold inL inT at h ⊢
  split at h
  · rename_i hc
    rw [if_pos hc]
    rcases inOp_facts (wordL l).t with h0 | ⟨h1, h2, h3, _⟩
    · exact absurd h0 h
    · exact ⟨h1, h2, h3⟩
  · exact absurd rfl h
theorem call_facts {s : List UInt8} {c : Nat × Nat × Nat} (h : callL s = some c) : kidN ((c.1 : Nat) : Int) = c.2 ∧ 18 ≤ c.1 ∧ c.1 ≤ 26 ∧ 1 ≤ c.2.1 ∧ c.2.1 ≤ c.2.2 := by
  unfold callL at h
  repeat' split at h
  all_goals first | (cases h; done) | (injection h with h; subst h; decide)
def Fine (l : List Tk) : Prop := ∀ x ∈ l, WdOk x
theorem Fine.tail {l : List Tk} (h : Fine l) : Fine l.tail := fun x hx => h x (List.mem_of_mem_tail hx)
theorem Fine.word {l : List Tk} (h : Fine l) (hl : l ≠ []) : WdOk (wordL l) := by
  cases l with
  | nil => exact absurd rfl hl
  | cons x r => exact h x (by simp [wordL])
theorem ndOp_ok {op : Nat} {ks : List Nat} {x : Tk} (hx : WdOk x) (h1 : 1 ≤ op) (h2 : op ≤ 26) (h3 : (kidN (op : Int)).1 ≤ ks.length) (h4 : ks.length ≤ (kidN (op : Int)).2) (h5 : op ≠ 1) (h6 : op ≠ 2) : NdOk (ndOp op ks x) :=
  ⟨by simp only [ndOp]; omega, by simp only [ndOp]; omega, h3, h4, hx.ln, hx.cl, fun _ => ⟨rfl, rfl, rfl⟩, fun _ => rfl, fun h => by simp only [ndOp] at h; omega⟩
theorem ndLit_ok {vk vn : Int} {vs : List UInt8} {x : Tk} (hx : WdOk x) : NdOk (ndLit vk vn vs x) :=
  ⟨by simp [ndLit], by simp [ndLit], by simp [ndLit, kidN], by simp [ndLit, kidN], hx.ln, hx.cl, fun h => absurd rfl h, fun _ => rfl, fun h => by simp [ndLit] at h⟩
/-- What has been read so far. -/
def Md.Pre : Md → Prop
  | .lvl _ => True
  | .tail _ ns => Tr ns ∧ AllOk ns
  | .args op lo hi ln cl ns ks => Ag ns ks ∧ AllOk ns ∧ kidN (op : Int) = (lo, hi) ∧ 18 ≤ op ∧ op ≤ 26 ∧ ks.length ≤ hi ∧ 1 ≤ ln ∧ 1 ≤ cl
def Sound (rec : Md → Nat → List Tk → Rz) : Prop := ∀ m o l ns r, rec m o l = .ok ns r → Fine l → m.Pre → Tr ns ∧ AllOk ns ∧ Fine r
theorem Sound.pair {rec : Md → Nat → List Tk → Rz} (h : Sound rec) {L : Nat} {ns0 : List Nd} {o : Nat} {l : List Tk} {ns : List Nd} {r : List Tk} (hi : inL L l ≠ 0) (he : pairP rec L ns0 o l = .ok ns r) (hf : Fine l) (h0 : Tr ns0 ∧ AllOk ns0) : Tr ns ∧ AllOk ns ∧ Fine r := by
  obtain ⟨a, b, h1, h2⟩ := bnd_ok he
  obtain ⟨t1, t2, t3⟩ := h _ _ _ _ _ h1 hf.tail trivial
  obtain ⟨k1, k2, k3⟩ := inL_facts hi
  injection h2 with h2 h3
  subst h2 h3
  refine ⟨h0.1.pair t1 rfl, (h0.2.app t2).app (AllOk.one (ndOp_ok (hf.word (inL_ne hi)) (by omega) (by omega) (by rw [k1]; simp) (by rw [k1]; simp) (by omega) (by omega))), t3⟩
theorem sound : ∀ F, Sound (P F)
  | 0 => fun m o l ns r h => by cases h
  | F + 1 => by
    have ih := sound F
    intro m o l ns r h hf hp
    cases m with
    | lvl L =>
      unfold P at h
      split at h
      · unfold atomP at h
        split at h
        · rename_i hk
          have hl := word_ne (l := l) (by omega)
          injection h with h2 h3
          subst h2 h3
          exact ⟨Tr.leaf rfl, AllOk.one (ndLit_ok (hf.word hl)), hf.tail⟩
        split at h
        · rename_i hk
          have hl := word_ne (l := l) (by omega)
          injection h with h2 h3
          subst h2 h3
          have hw := hf.word hl
          exact ⟨Tr.leaf rfl, AllOk.one ⟨by simp, by simp, by simp [kidN], by simp [kidN], hw.ln, hw.cl, fun _ => ⟨rfl, rfl, rfl⟩, fun h => absurd rfl h, fun _ => hw.nm hk⟩, hf.tail⟩
        split at h
        · rename_i hk
          have hl := word_ne (l := l) (by omega)
          injection h with h2 h3
          subst h2 h3
          have hw := hf.word hl
          exact ⟨Tr.leaf rfl, AllOk.one ⟨by simp, by simp, by simp [kidN], by simp [kidN], hw.ln, hw.cl, fun _ => ⟨rfl, rfl, rfl⟩, fun _ => rfl, fun h => by simp at h⟩, hf.tail⟩
        split at h
        · have hl := word_ne (l := l) (by omega)
          have hw := hf.word hl
          unfold nameP at h
          split at h
          · injection h with h2 h3
            subst h2 h3
            exact ⟨Tr.leaf rfl, AllOk.one (ndLit_ok hw), hf.tail⟩
          split at h
          · injection h with h2 h3
            subst h2 h3
            exact ⟨Tr.leaf rfl, AllOk.one (ndLit_ok hw), hf.tail⟩
          split at h
          · injection h with h2 h3
            subst h2 h3
            exact ⟨Tr.leaf rfl, AllOk.one (ndLit_ok hw), hf.tail⟩
          split at h
          · cases h
          · rename_i c hc
            unfold callP at h
            split at h
            · cases h
            split at h
            · cases h
            obtain ⟨a, b, h1, h2⟩ := bnd_ok h
            obtain ⟨t1, t2, t3⟩ := ih _ _ _ _ _ h1 hf.tail.tail trivial
            obtain ⟨k1, k2, k3, k4, k5⟩ := call_facts hc
            exact ih _ _ _ _ _ h2 t3 ⟨Ag.one t1, t2, k1, k2, k3, by simp; omega, hw.ln, hw.cl⟩
        split at h
        · unfold groupP at h
          split at h
          · cases h
          obtain ⟨a, b, h1, h2⟩ := bnd_ok h
          obtain ⟨t1, t2, t3⟩ := ih _ _ _ _ _ h1 hf.tail trivial
          split at h2
          · injection h2 with h2 h3
            subst h2 h3
            exact ⟨t1, t2, t3.tail⟩
          · cases h2
        · cases h
      split at h
      · unfold preP at h
        split at h
        · exact ih _ _ _ _ _ h hf trivial
        · rename_i hi
          split at h
          · cases h
          obtain ⟨a, b, h1, h2⟩ := bnd_ok h
          obtain ⟨t1, t2, t3⟩ := ih _ _ _ _ _ h1 hf.tail trivial
          injection h2 with h2 h3
          subst h2 h3
          have hw := hf.word (isL_ne (by simpa using hi))
          refine ⟨t1.pre rfl, t2.app (AllOk.one ?_), t3⟩
          unfold preO
          split
          · exact ndOp_ok hw (by omega) (by omega) (by decide) (by decide) (by omega) (by omega)
          · exact ndOp_ok hw (by omega) (by omega) (by decide) (by decide) (by omega) (by omega)
      split at h
      · unfold cmpP at h
        obtain ⟨a, b, h1, h2⟩ := bnd_ok h
        obtain ⟨t1, t2, t3⟩ := ih _ _ _ _ _ h1 hf trivial
        split at h2
        · injection h2 with h2 h3
          subst h2 h3
          exact ⟨t1, t2, t3⟩
        · rename_i hi
          exact ih.pair hi h2 t3 ⟨t1, t2⟩
      · obtain ⟨a, b, h1, h2⟩ := bnd_ok h
        obtain ⟨t1, t2, t3⟩ := ih _ _ _ _ _ h1 hf trivial
        exact ih _ _ _ _ _ h2 t3 ⟨t1, t2⟩
    | tail L ns0 =>
      unfold P at h
      split at h
      · injection h with h2 h3
        subst h2 h3
        exact ⟨hp.1, hp.2, hf⟩
      · rename_i hi
        obtain ⟨a, b, h1, h2⟩ := bnd_ok h
        obtain ⟨t1, t2, t3⟩ := ih.pair hi h1 hf hp
        exact ih _ _ _ _ _ h2 t3 ⟨t1, t2⟩
    | args op lo hi ln cl ns0 ks =>
      obtain ⟨p1, p2, p3, p4, p5, p6, p7, p8⟩ := hp
      unfold P argsP at h
      split at h
      · split at h
        · cases h
        rename_i hks
        obtain ⟨a, b, h1, h2⟩ := bnd_ok h
        obtain ⟨t1, t2, t3⟩ := ih _ _ _ _ _ h1 hf.tail trivial
        exact ih _ _ _ _ _ h2 t3 ⟨p1.more t1, p2.app t2, p3, p4, p5, by simp; omega, p7, p8⟩
      split at h
      · cases h
      rename_i hlo
      split at h
      · rename_i hcl
        injection h with h2 h3
        subst h2 h3
        have h9 : lo ≤ ks.length := by
          rcases Nat.lt_or_ge ks.length lo with hlt | hge
          · exact absurd ⟨hcl, hlt⟩ hlo
          · exact hge
        refine ⟨Tr.call p1 rfl, p2.app (AllOk.one ⟨by simp only; omega, by simp only; omega, by simp only [List.length_map]; rw [p3]; exact h9, by simp only [List.length_map]; rw [p3]; exact p6, p7, p8, fun _ => ⟨rfl, rfl, rfl⟩, fun _ => rfl, fun h => by simp only at h; omega⟩), hf.tail⟩
      · cases h
end Go.Proofs.YtgmjpcaennmgoaaGreatDoor
namespace Go.Proofs.YtgmjpcaennmgoaaGreatDoor
open Go.ChangeShapes Go.WideShapes Go.ChangeAt Go.RowKit Go.Lib
set_option linter.unusedVariables false
set_option linter.unusedSimpArgs false
set_option maxRecDepth 100000

def Le (r1 r2 : Md → Nat → List Tk → Rz) : Prop := ∀ m o l, r1 m o l ≠ .out → r2 m o l = r1 m o l
theorem bnd_le {x y : Rz} {f g : List Nd → List Tk → Rz} (h : x ≠ .out → y = x) (hf : ∀ ns r, f ns r ≠ .out → g ns r = f ns r) (ho : x.bnd f ≠ .out) : y.bnd g = x.bnd f := by
  have hx := bnd_out ho
  rw [h hx]
  cases x with
  | out => rfl
  | no e r => rfl
  | ok ns r => exact hf ns r ho
theorem ite_le {c : Prop} [Decidable c] {a b a' b' : Rz} (ha : a ≠ .out → a' = a) (hb : b ≠ .out → b' = b) : (if c then a else b) ≠ .out → (if c then a' else b') = if c then a else b := by
  split <;> assumption
section
variable {r1 r2 : Md → Nat → List Tk → Rz}
theorem Le.pair (h : Le r1 r2) {L : Nat} {ns : List Nd} {o : Nat} {l : List Tk} (ho : pairP r1 L ns o l ≠ .out) : pairP r2 L ns o l = pairP r1 L ns o l := bnd_le (h _ _ _) (fun _ _ _ => rfl) ho
theorem Le.call (h : Le r1 r2) {c : Nat × Nat × Nat} {o : Nat} {l : List Tk} (ho : callP r1 c o l ≠ .out) : callP r2 c o l = callP r1 c o l :=
  ite_le (fun _ => rfl) (ite_le (fun _ => rfl) (bnd_le (h _ _ _) (fun _ _ => h _ _ _))) ho
theorem Le.name (h : Le r1 r2) {o : Nat} {l : List Tk} (ho : nameP r1 o l ≠ .out) : nameP r2 o l = nameP r1 o l := by
  revert ho
  unfold nameP
  refine ite_le (fun _ => rfl) (ite_le (fun _ => rfl) (ite_le (fun _ => rfl) ?_))
  cases callL (wordL l).t with
  | none => exact fun _ => rfl
  | some c => exact h.call
theorem Le.atom (h : Le r1 r2) {o : Nat} {l : List Tk} (ho : atomP r1 o l ≠ .out) : atomP r2 o l = atomP r1 o l :=
  ite_le (fun _ => rfl) (ite_le (fun _ => rfl) (ite_le (fun _ => rfl) (ite_le h.name (ite_le (ite_le (fun _ => rfl) (bnd_le (h _ _ _) (fun _ _ _ => rfl))) (fun _ => rfl))))) ho
theorem Le.pre (h : Le r1 r2) {L o : Nat} {l : List Tk} (ho : preP r1 L o l ≠ .out) : preP r2 L o l = preP r1 L o l :=
  ite_le (h _ _ _) (ite_le (fun _ => rfl) (bnd_le (h _ _ _) (fun _ _ _ => rfl))) ho
theorem Le.cmp (h : Le r1 r2) {o : Nat} {l : List Tk} (ho : cmpP r1 o l ≠ .out) : cmpP r2 o l = cmpP r1 o l :=
  bnd_le (h _ _ _) (fun _ _ => ite_le (fun _ => rfl) h.pair) ho
theorem Le.args (h : Le r1 r2) {op lo hi : Nat} {ln cl : Int} {ns : List Nd} {ks : List Nat} {o : Nat} {l : List Tk} (ho : argsP r1 op lo hi ln cl ns ks o l ≠ .out) : argsP r2 op lo hi ln cl ns ks o l = argsP r1 op lo hi ln cl ns ks o l :=
  ite_le (ite_le (fun _ => rfl) (bnd_le (h _ _ _) (fun _ _ => h _ _ _))) (ite_le (fun _ => rfl) (ite_le (fun _ => rfl) (fun _ => rfl))) ho
end
theorem P_lvl (F L o : Nat) (l : List Tk) : P (F + 1) (.lvl L) o l = if L = 7 then atomP (P F) o l
    else if L = 2 ∨ L = 6 then preP (P F) L o l
    else if L = 3 then cmpP (P F) o l
    else (P F (.lvl (L + 1)) o l).bnd fun ns r => P F (.tail L ns) o r := by rw [P]
theorem P_tail (F L : Nat) (ns : List Nd) (o : Nat) (l : List Tk) : P (F + 1) (.tail L ns) o l = if inL L l = 0 then .ok ns l else (pairP (P F) L ns o l).bnd fun ns' r => P F (.tail L ns') o r := by rw [P]
theorem P_args (F op lo hi : Nat) (ln cl : Int) (ns : List Nd) (ks : List Nat) (o : Nat) (l : List Tk) : P (F + 1) (.args op lo hi ln cl ns ks) o l = argsP (P F) op lo hi ln cl ns ks o l := by rw [P]
theorem P_more : ∀ F, Le (P F) (P (F + 1))
  | 0 => fun m o l h => absurd (by rw [P]) h
  | F + 1 => by
    have ih := P_more F
    intro m o l
    cases m with
    | lvl L =>
      rw [P_lvl F, P_lvl (F + 1)]
      exact ite_le ih.atom (ite_le ih.pre (ite_le ih.cmp (bnd_le (ih _ _ _) (fun _ _ => ih _ _ _))))
    | tail L ns =>
      rw [P_tail F, P_tail (F + 1)]
      exact ite_le (fun _ => rfl) (bnd_le ih.pair (fun _ _ => ih _ _ _))
    | args op lo hi ln cl ns ks =>
      rw [P_args F, P_args (F + 1)]
      exact ih.args
theorem P_le {F : Nat} : ∀ d, Le (P F) (P (F + d))
  | 0 => fun _ _ _ _ => rfl
  | d + 1 => fun m o l h => by
    have e := P_le (F := F) d m o l h
    rw [← Nat.add_assoc, P_more (F + d) m o l (by rw [e]; exact h), e]
/-- What is read at last. -/
def Ev (m : Md) (o : Nat) (l : List Tk) (X : Rz) : Prop := X ≠ .out ∧ ∃ F, P F m o l = X
theorem Ev.at {m : Md} {o : Nat} {l : List Tk} {X : Rz} (h : Ev m o l X) : ∃ F, ∀ d, P (F + d) m o l = X := by
  obtain ⟨hx, F, hF⟩ := h
  exact ⟨F, fun d => by rw [P_le d m o l (by rw [hF]; exact hx), hF]⟩
theorem Ev.det {m : Md} {o : Nat} {l : List Tk} {X Y : Rz} (h : Ev m o l X) (k : Ev m o l Y) : X = Y := by
  obtain ⟨F, h⟩ := h.at
  obtain ⟨G, k⟩ := k.at
  rw [← h G, ← k F, Nat.add_comm]
theorem Ev.whole {l : List Tk} {X : Rz} (h : Ev (.lvl 0) 0 l X) : parseX l = X := Ev.det ⟨parseX_in l, _, rfl⟩ h
theorem ok_in {ns : List Nd} {r : List Tk} : Rz.ok ns r ≠ .out := fun h => by cases h
theorem no_in {e : Int} {r : List Tk} : Rz.no e r ≠ .out := fun h => by cases h
section
variable {o : Nat} {l : List Tk}
theorem Ev.group {X : Rz} (hw : (wordL l).k = 7) (ht : (wordL l).t = [40]) (ho : o ≠ 12) (h : Ev (.lvl 0) (o + 1) l.tail X) (hX : (X.bnd fun ns r => if isL [41] r then .ok ns r.tail else .no 4 r) ≠ .out) :
    Ev (.lvl 7) o l (X.bnd fun ns r => if isL [41] r then .ok ns r.tail else .no 4 r) := by
  obtain ⟨_, F, hF⟩ := h
  refine ⟨hX, F + 1, ?_⟩
  rw [P_lvl, if_pos rfl]
  unfold atomP
  rw [if_neg (by omega), if_neg (by omega), if_neg (by omega), if_neg (by omega), if_pos ⟨hw, ht⟩]
  unfold groupP
  rw [if_neg ho, hF]
theorem Ev.group12 (hw : (wordL l).k = 7) (ht : (wordL l).t = [40]) (ho : o = 12) : Ev (.lvl 7) o l (.no 12 l) := by
  refine ⟨no_in, 1, ?_⟩
  rw [P_lvl, if_pos rfl]
  unfold atomP
  rw [if_neg (by omega), if_neg (by omega), if_neg (by omega), if_neg (by omega), if_pos ⟨hw, ht⟩]
  unfold groupP
  rw [if_pos ho]
/-- A level that hands on what the next one tells. -/
def Hands (L : Nat) (l : List Tk) : Rz → Prop
  | .out => False
  | .ok _ r => ((L = 2 ∨ L = 6) ∨ inL L r = 0) ∧ (L = 2 ∨ L = 6 → isL (preW L) l = false)
  | .no _ _ => L = 2 ∨ L = 6 → isL (preW L) l = false
theorem Ev.down {L : Nat} {X : Rz} (hL : L ≤ 6) (h : Ev (.lvl (L + 1)) o l X) (hh : Hands L l X) : Ev (.lvl L) o l X := by
  obtain ⟨F, hF⟩ := h.at
  refine ⟨h.1, F + 2, ?_⟩
  rw [P_lvl, if_neg (by omega)]
  have h1 := hF 1
  by_cases h26 : L = 2 ∨ L = 6
  · rw [if_pos h26]
    unfold preP
    cases X with
    | out => exact absurd rfl h.1
    | ok ns r => rw [if_pos (hh.2 h26)]; exact h1
    | no e r => rw [if_pos (hh h26)]; exact h1
  rw [if_neg h26]
  by_cases h3 : L = 3
  · subst h3
    rw [if_pos rfl]
    unfold cmpP
    rw [h1]
    cases X with
    | out => exact absurd rfl h.1
    | ok ns r =>
      show (if inL 3 r = 0 then Rz.ok ns r else _) = _
      rw [if_pos (hh.1.resolve_left h26)]
    | no e r => rfl
  rw [if_neg h3, h1]
  cases X with
  | out => exact absurd rfl h.1
  | ok ns r =>
    show P (F + 1) (.tail L ns) o r = _
    rw [P_tail, if_pos (hh.1.resolve_left h26)]
  | no e r => rfl
theorem Ev.rise {X : Rz} {K : Nat} : ∀ d, K + d ≤ 7 → Ev (.lvl (K + d)) o l X → (∀ L, K ≤ L → L < K + d → Hands L l X) → Ev (.lvl K) o l X
  | 0, _, h, _ => h
  | d + 1, hd, h, hh => Ev.rise d (by omega) (Ev.down (by omega) h (hh (K + d) (by omega) (by omega))) (fun L h1 h2 => hh L h1 (by omega))
theorem Ev.infix {L : Nat} {ns : List Nd} {r : List Tk} {X : Rz} (hL : L = 0 ∨ L = 1 ∨ L = 3 ∨ L = 4 ∨ L = 5) (h : Ev (.lvl (L + 1)) o l (.ok ns r)) (hi : inL L r ≠ 0) (k : Ev (.lvl (L + 1)) o r.tail X) (hr : ∀ ns2 r2, X = .ok ns2 r2 → inL L r2 = 0) :
    Ev (.lvl L) o l (X.bnd fun ns2 r2 => .ok (ns ++ ns2 ++ [ndOp (inL L r) [ns2.length + 1, 1] (wordL r)]) r2) := by
  obtain ⟨F, hF⟩ := h.at
  obtain ⟨G, hG⟩ := k.at
  have h1 : P (F + (G + 1) + 1) (.lvl (L + 1)) o l = .ok ns r := hF (G + 1 + 1)
  have h2 : P (F + (G + 1)) (.lvl (L + 1)) o r.tail = X := by rw [show F + (G + 1) = G + (F + 1) by omega]; exact hG (F + 1)
  have h2' : P (F + (G + 1) + 1) (.lvl (L + 1)) o r.tail = X := by rw [show F + (G + 1) + 1 = G + (F + 2) by omega]; exact hG (F + 2)
  refine ⟨?_, F + (G + 1) + 1 + 1, ?_⟩
  · cases X with
    | out => exact absurd rfl k.1
    | ok a b => exact ok_in
    | no a b => exact no_in
  rw [P_lvl, if_neg (by omega), if_neg (by omega)]
  by_cases h3 : L = 3
  · subst h3
    rw [if_pos rfl]
    unfold cmpP
    rw [h1]
    show (if inL 3 r = 0 then Rz.ok ns r else _) = _
    rw [if_neg hi]
    unfold pairP
    rw [h2']
  rw [if_neg h3, h1]
  show P (F + (G + 1) + 1) (.tail L ns) o r = _
  rw [P_tail, if_neg hi]
  unfold pairP
  rw [h2]
  cases X with
  | out => exact absurd rfl k.1
  | no a b => rfl
  | ok a b =>
    show P (F + (G + 1)) (.tail L _) o b = _
    rw [← Nat.add_assoc, P_tail, if_pos (hr a b rfl)]
    rfl
end
end Go.Proofs.YtgmjpcaennmgoaaGreatDoor
namespace Go.Proofs.YtgmjpcaennmgoaaGreatDoor
open Go.ChangeShapes Go.WideShapes Go.ChangeAt Go.RowKit Go.Lib
set_option linter.unusedVariables false
set_option linter.unusedSimpArgs false
set_option maxRecDepth 100000

def Nd.bare (x : Nd) : Nd := { x with ln := 0, cl := 0 }
theorem bare_k {x y : Tk} (h : x.bare = y.bare) : x.k = y.k := by have e := congrArg Tk.k h; exact e
theorem bare_t {x y : Tk} (h : x.bare = y.bare) : x.t = y.t := by have e := congrArg Tk.t h; exact e
theorem bare_vk {x y : Tk} (h : x.bare = y.bare) : x.vk = y.vk := by have e := congrArg Tk.vk h; exact e
theorem bare_vn {x y : Tk} (h : x.bare = y.bare) : x.vn = y.vn := by have e := congrArg Tk.vn h; exact e
theorem bare_vs {x y : Tk} (h : x.bare = y.bare) : x.vs = y.vs := by have e := congrArg Tk.vs h; exact e
theorem isT_bare {x y : Tk} (h : x.bare = y.bare) (s : List UInt8) : isT x s = isT y s := by
  have h1 : x.k = y.k := bare_k h
  have h2 : x.t = y.t := bare_t h
  unfold isT
  rw [h1, h2]
theorem inT_bare {x y : Tk} (h : x.bare = y.bare) (L : Nat) : inT L x = inT L y := by
  have h2 : x.t = y.t := bare_t h
  unfold inT
  rw [h2, isT_bare h]
/-- The words of a, but for places, and those of e behind. -/
def Bq (e a b : List Tk) : Prop := b.map Tk.bare = a.map Tk.bare ++ e
structure Cl (e : List Tk) : Prop where
  cons : ∃ c e2, e = c :: e2 ∧ c.k = 7 ∧ c.t = [41]
theorem Bq.cons {e a b : List Tk} (h : Bq e a b) (ha : a ≠ []) : (wordL b).bare = (wordL a).bare ∧ Bq e a.tail b.tail ∧ b ≠ [] := by
  cases a with
  | nil => exact absurd rfl ha
  | cons x a =>
    cases b with
    | nil => simp [Bq] at h
    | cons y b =>
      simp only [Bq, List.map_cons, List.cons_append, List.cons.injEq] at h
      exact ⟨h.1, h.2, by simp⟩
theorem Bq.nil {e b : List Tk} (h : Bq e [] b) (he : Cl e) : (wordL b).k = 7 ∧ (wordL b).t = [41] := by
  obtain ⟨c, e2, rfl, h1, h2⟩ := he.cons
  cases b with
  | nil => simp [Bq] at h
  | cons y b =>
    simp only [Bq, List.map_cons, List.map_nil, List.nil_append, List.cons.injEq] at h
    have k1 : y.k = c.k := by have e := congrArg Tk.k h.1; exact e
    have k2 : y.t = c.t := by have e := congrArg Tk.t h.1; exact e
    exact ⟨k1.trans h1, k2.trans h2⟩
theorem Bq.is {e a b : List Tk} (h : Bq e a b) (he : Cl e) {s : List UInt8} (hs : s ≠ [41]) : isL s b = isL s a := by
  by_cases ha : a = []
  · subst ha
    obtain ⟨h1, h2⟩ := h.nil he
    unfold isL isT
    rw [h1, h2]
    have : (([41] : List UInt8) == s) = false := beq_false_of_ne (fun e => hs e.symm)
    rw [this]
    simp [wordL, Tk.zero]
  · exact isT_bare (h.cons ha).1 s
theorem Bq.inf {e a b : List Tk} (h : Bq e a b) (he : Cl e) (L : Nat) : inL L b = inL L a := by
  by_cases ha : a = []
  · subst ha
    obtain ⟨h1, h2⟩ := h.nil he
    unfold inL inT
    rw [h2, show (inOp [41]) = (0, 0) from rfl]
    simp [wordL, Tk.zero, isT]
  · exact inT_bare (h.cons ha).1 L
theorem Bq.shut {e a b : List Tk} (h : Bq e a b) (ha : isL [41] a = true) : isL [41] b = true := by
  rw [← ha]
  exact isT_bare (h.cons (isL_ne ha)).1 _
inductive Sim : Md → Md → Prop
  | lvl (L : Nat) : Sim (.lvl L) (.lvl L)
  | tail (L : Nat) {ns ns' : List Nd} : ns'.map Nd.bare = ns.map Nd.bare → Sim (.tail L ns) (.tail L ns')
  | args (op lo hi : Nat) {ln cl ln' cl' : Int} {ns ns' : List Nd} (ks : List Nat) : ns'.map Nd.bare = ns.map Nd.bare → Sim (.args op lo hi ln cl ns ks) (.args op lo hi ln' cl' ns' ks)
def Out (e : List Tk) (ns : List Nd) (r : List Tk) (X : Rz) : Prop := (∃ ns' r', X = .ok ns' r' ∧ ns'.map Nd.bare = ns.map Nd.bare ∧ Bq e r r') ∨ ∃ r', X = .no 12 r'
theorem Out.bnd {e : List Tk} {ns ns2 : List Nd} {r r2 : List Tk} {X : Rz} {f : List Nd → List Tk → Rz} (h : Out e ns r X) (hf : ∀ ns' r', ns'.map Nd.bare = ns.map Nd.bare → Bq e r r' → Out e ns2 r2 (f ns' r')) : Out e ns2 r2 (X.bnd f) := by
  rcases h with ⟨ns', r', rfl, h1, h2⟩ | ⟨r', rfl⟩
  · exact hf ns' r' h1 h2
  · exact Or.inr ⟨r', rfl⟩
theorem Out.ok {e : List Tk} {ns ns' : List Nd} {r r' : List Tk} (h : ns'.map Nd.bare = ns.map Nd.bare) (k : Bq e r r') : Out e ns r (.ok ns' r') := Or.inl ⟨ns', r', rfl, h, k⟩
theorem len_bare {a b : List Nd} (h : a.map Nd.bare = b.map Nd.bare) : a.length = b.length := by
  have := congrArg List.length h
  simpa using this
def Ext (e : List Tk) (rec : Md → Nat → List Tk → Rz) : Prop := ∀ m m' o o' l l' ns r, Sim m m' → o ≤ o' → o' ≤ 12 → Bq e l l' → rec m o l = .ok ns r → Out e ns r (rec m' o' l')
section
variable {e : List Tk} {rec : Md → Nat → List Tk → Rz} {o o' : Nat} {l l' r : List Tk} {ns : List Nd}
theorem Ext.pair (h : Ext e rec) (he : Cl e) (ho : o ≤ o') (ho' : o' ≤ 12) (hq : Bq e l l') {L : Nat} (hi : inL L l ≠ 0) {ns0 ns0' : List Nd} (h0 : ns0'.map Nd.bare = ns0.map Nd.bare) (hk : pairP rec L ns0 o l = .ok ns r) : Out e ns r (pairP rec L ns0' o' l') := by
  obtain ⟨a, b, h1, h2⟩ := bnd_ok hk
  obtain ⟨w1, w2, w3⟩ := hq.cons (inL_ne hi)
  injection h2 with h2 h3
  subst h2 h3
  refine (h _ _ _ _ _ _ _ _ (.lvl _) ho ho' w2 h1).bnd (fun ns' r' g1 g2 => Out.ok ?_ g2)
  rw [List.map_append, List.map_append, List.map_append, List.map_append, h0, g1, hq.inf he, len_bare g1]
  rfl
theorem Ext.call (h : Ext e rec) (he : Cl e) (ho : o ≤ o') (ho' : o' ≤ 12) (hq : Bq e l l') (hl : l ≠ []) {c : Nat × Nat × Nat} (hk : callP rec c o l = .ok ns r) : Out e ns r (callP rec c o' l') := by
  obtain ⟨w1, w2, w3⟩ := hq.cons hl
  unfold callP at hk ⊢
  split at hk
  · cases hk
  rename_i hp
  have hp : isL [40] l.tail = true := by simpa using hp
  split at hk
  · cases hk
  obtain ⟨a, b, h1, h2⟩ := bnd_ok hk
  rw [w2.is he (by decide), hp, if_neg (by decide)]
  by_cases h12 : o' = 12
  · rw [if_pos h12]
    exact Or.inr ⟨_, rfl⟩
  rw [if_neg h12]
  have w4 := (w2.cons (isL_ne hp)).2.1
  refine (h _ _ _ _ _ _ _ _ (.lvl _) (by omega) (by omega) w4 h1).bnd (fun ns' r' g1 g2 => ?_)
  rw [len_bare g1]
  exact h _ _ _ _ _ _ _ _ (.args _ _ _ _ g1) (by omega) (by omega) g2 h2
theorem Ext.atom (h : Ext e rec) (he : Cl e) (ho : o ≤ o') (ho' : o' ≤ 12) (hq : Bq e l l') (hk : atomP rec o l = .ok ns r) : Out e ns r (atomP rec o' l') := by
  by_cases hl : l = []
  · subst hl
    exact absurd hk (by simp [atomP, wordL, Tk.zero])
  obtain ⟨w1, w2, w3⟩ := hq.cons hl
  have e1 : (wordL l').k = (wordL l).k := bare_k w1
  have e2 : (wordL l').t = (wordL l).t := bare_t w1
  have e3 : (wordL l').vk = (wordL l).vk := bare_vk w1
  have e4 : (wordL l').vn = (wordL l).vn := bare_vn w1
  have e5 : (wordL l').vs = (wordL l).vs := bare_vs w1
  unfold atomP at hk ⊢
  rw [e1, e2, e3, e4, e5]
  split at hk
  · rename_i hc
    rw [if_pos hc]
    injection hk with h1 h2
    subst h1 h2
    exact Out.ok rfl w2
  rename_i hc
  rw [if_neg hc]
  split at hk
  · rename_i hc
    rw [if_pos hc]
    injection hk with h1 h2
    subst h1 h2
    exact Out.ok rfl w2
  rename_i hc
  rw [if_neg hc]
  split at hk
  · rename_i hc
    rw [if_pos hc]
    injection hk with h1 h2
    subst h1 h2
    exact Out.ok rfl w2
  rename_i hc
  rw [if_neg hc]
  split at hk
  · rename_i hc
    rw [if_pos hc]
    unfold nameP at hk ⊢
    rw [e2]
    split at hk
    · rename_i hc
      rw [if_pos hc]
      injection hk with h1 h2
      subst h1 h2
      exact Out.ok rfl w2
    rename_i hc
    rw [if_neg hc]
    split at hk
    · rename_i hc
      rw [if_pos hc]
      injection hk with h1 h2
      subst h1 h2
      exact Out.ok rfl w2
    rename_i hc
    rw [if_neg hc]
    split at hk
    · rename_i hc
      rw [if_pos hc]
      injection hk with h1 h2
      subst h1 h2
      exact Out.ok rfl w2
    rename_i hc
    rw [if_neg hc]
    cases hcl : callL (wordL l).t with
    | none => rw [hcl] at hk; cases hk
    | some c => rw [hcl] at hk; exact h.call he ho ho' hq hl hk
  rename_i hc
  rw [if_neg hc]
  split at hk
  · rename_i hc
    rw [if_pos hc]
    unfold groupP at hk ⊢
    split at hk
    · cases hk
    obtain ⟨a, b, h1, h2⟩ := bnd_ok hk
    by_cases h12 : o' = 12
    · rw [if_pos h12]
      exact Or.inr ⟨_, rfl⟩
    rw [if_neg h12]
    refine (h _ _ _ _ _ _ _ _ (.lvl _) (by omega) (by omega) w2 h1).bnd (fun ns' r' g1 g2 => ?_)
    split at h2
    · rename_i hs
      rw [if_pos (g2.shut hs)]
      injection h2 with h3 h4
      subst h3 h4
      exact Out.ok g1 (g2.cons (isL_ne hs)).2.1
    · cases h2
  · cases hk
theorem preW_ne (L : Nat) : preW L ≠ [41] := by
  unfold preW
  split <;> decide
theorem Ext.pre (h : Ext e rec) (he : Cl e) (ho : o ≤ o') (ho' : o' ≤ 12) (hq : Bq e l l') {L : Nat} (hk : preP rec L o l = .ok ns r) : Out e ns r (preP rec L o' l') := by
  unfold preP at hk ⊢
  rw [hq.is he (preW_ne L)]
  split at hk
  · rename_i hc
    rw [if_pos hc]
    exact h _ _ _ _ _ _ _ _ (.lvl _) ho ho' hq hk
  rename_i hc
  rw [if_neg hc]
  split at hk
  · cases hk
  obtain ⟨a, b, h1, h2⟩ := bnd_ok hk
  injection h2 with h2 h3
  subst h2 h3
  by_cases h12 : o' = 12
  · rw [if_pos h12]
    exact Or.inr ⟨_, rfl⟩
  rw [if_neg h12]
  obtain ⟨w1, w2, w3⟩ := hq.cons (isL_ne (by simpa using hc))
  refine (h _ _ _ _ _ _ _ _ (.lvl _) (by omega) (by omega) w2 h1).bnd (fun ns' r' g1 g2 => Out.ok ?_ g2)
  rw [List.map_append, List.map_append, g1]
  rfl
theorem Ext.cmp (h : Ext e rec) (he : Cl e) (ho : o ≤ o') (ho' : o' ≤ 12) (hq : Bq e l l') (hk : cmpP rec o l = .ok ns r) : Out e ns r (cmpP rec o' l') := by
  obtain ⟨a, b, h1, h2⟩ := bnd_ok hk
  refine (h _ _ _ _ _ _ _ _ (.lvl _) ho ho' hq h1).bnd (fun ns' r' g1 g2 => ?_)
  rw [g2.inf he]
  split at h2
  · rename_i hc
    rw [if_pos hc]
    injection h2 with h3 h4
    subst h3 h4
    exact Out.ok g1 g2
  · rename_i hc
    rw [if_neg hc]
    exact h.pair he ho ho' g2 hc g1 h2
theorem Ext.args (h : Ext e rec) (he : Cl e) (ho : o ≤ o') (ho' : o' ≤ 12) (hq : Bq e l l') {op lo hi : Nat} {ln cl ln' cl' : Int} {ns0 ns0' : List Nd} {ks : List Nat} (h0 : ns0'.map Nd.bare = ns0.map Nd.bare) (hk : argsP rec op lo hi ln cl ns0 ks o l = .ok ns r) : Out e ns r (argsP rec op lo hi ln' cl' ns0' ks o' l') := by
  unfold argsP at hk ⊢
  rw [hq.is he (by decide)]
  split at hk
  · rename_i hc
    rw [if_pos hc]
    split at hk
    · cases hk
    rename_i hm
    rw [if_neg hm]
    obtain ⟨a, b, h1, h2⟩ := bnd_ok hk
    obtain ⟨w1, w2, w3⟩ := hq.cons (isL_ne hc)
    refine (h _ _ _ _ _ _ _ _ (.lvl _) ho ho' w2 h1).bnd (fun ns' r' g1 g2 => ?_)
    rw [len_bare h0, len_bare g1]
    exact h _ _ _ _ _ _ _ _ (.args _ _ _ _ (by rw [List.map_append, List.map_append, h0, g1])) ho ho' g2 h2
  rename_i hc
  rw [if_neg hc]
  split at hk
  · cases hk
  rename_i hlo
  split at hk
  · rename_i hs
    rw [hq.shut hs, if_neg (fun hh => hlo ⟨hs, hh.2⟩), if_pos rfl]
    injection hk with h3 h4
    subst h3 h4
    refine Out.ok ?_ (hq.cons (isL_ne hs)).2.1
    rw [List.map_append, List.map_append, h0, len_bare h0]
    rfl
  · cases hk
end
theorem ext {e : List Tk} (he : Cl e) : ∀ F, Ext e (P F)
  | 0 => by
    intro m m' o o' l l' ns r hm ho ho' hq h
    cases h
  | F + 1 => by
    have ih := ext he F
    intro m m' o o' l l' ns r hm ho ho' hq h
    cases hm with
    | lvl L =>
      rw [P_lvl] at h ⊢
      split at h
      · rename_i hc
        rw [if_pos hc]
        exact ih.atom he ho ho' hq h
      rename_i hc
      rw [if_neg hc]
      split at h
      · rename_i hc
        rw [if_pos hc]
        exact ih.pre he ho ho' hq h
      rename_i hc
      rw [if_neg hc]
      split at h
      · rename_i hc
        rw [if_pos hc]
        exact ih.cmp he ho ho' hq h
      rename_i hc
      rw [if_neg hc]
      obtain ⟨a, b, h1, h2⟩ := bnd_ok h
      exact (ih _ _ _ _ _ _ _ _ (.lvl _) ho ho' hq h1).bnd (fun ns' r' g1 g2 => ih _ _ _ _ _ _ _ _ (.tail _ g1) ho ho' g2 h2)
    | tail L h0 =>
      rw [P_tail] at h ⊢
      rw [hq.inf he]
      split at h
      · rename_i hc
        rw [if_pos hc]
        injection h with h3 h4
        subst h3 h4
        exact Out.ok h0 hq
      · rename_i hc
        rw [if_neg hc]
        obtain ⟨a, b, h1, h2⟩ := bnd_ok h
        exact (ih.pair he ho ho' hq hc h0 h1).bnd (fun ns' r' g1 g2 => ih _ _ _ _ _ _ _ _ (.tail _ g1) ho ho' g2 h2)
    | args op lo hi ks h0 =>
      rw [P_args] at h ⊢
      exact ih.args he ho ho' hq h0 h
end Go.Proofs.YtgmjpcaennmgoaaGreatDoor
namespace Go.Proofs.YtgmjpcaennmgoaaGreatDoor
open Go.ChangeShapes Go.WideShapes Go.ChangeAt Go.RowKit Go.Lib
set_option linter.unusedVariables false
set_option linter.unusedSimpArgs false
set_option maxRecDepth 100000

theorem skip_same : ∀ (m : Bool) (l : List UInt8) (L C L2 C2 : Nat), (skipL m l L C).1 = (skipL m l L2 C2).1
  | m, [], L, C, L2, C2 => by cases m <;> rfl
  | true, c :: r, L, C, L2, C2 => by
    unfold skipL
    split
    · exact skip_same false r _ _ _ _
    · exact skip_same true r _ _ _ _
  | false, c :: r, L, C, L2, C2 => by
    unfold skipL
    split
    · exact skip_same false r _ _ _ _
    split
    · exact skip_same false r _ _ _ _
    split
    · exact skip_same true r _ _ _ _
    · rfl
theorem skip_other {l l' : List UInt8} {L C L' C' : Nat} (h : skipL false l L C = (l', L', C')) (L2 C2 : Nat) : ∃ L3 C3, skipL false l L2 C2 = (l', L3, C3) := by
  have := skip_same false l L2 C2 L C
  rw [h] at this
  have this : (skipL false l L2 C2).1 = l' := this
  exact ⟨(skipL false l L2 C2).2.1, (skipL false l L2 C2).2.2, by rw [← this]⟩
/-- The same words wherever the text begins. -/
theorem Wds.any {s : List UInt8} {L C : Nat} {T : List Tk} {E ln cl : Int} (h : Wds s L C T E ln cl) : ∀ L2 C2, ∃ (T2 : List Tk) (ln2 cl2 : Int), Wds s L2 C2 T2 E ln2 cl2 ∧ T2.map Tk.bare = T.map Tk.bare := by
  induction h with
  | done hs =>
    intro L2 C2
    obtain ⟨L3, C3, g⟩ := skip_other hs L2 C2
    exact ⟨[], 0, 0, .done g, rfl⟩
  | bad hs h1 =>
    intro L2 C2
    obtain ⟨L3, C3, g⟩ := skip_other hs L2 C2
    exact ⟨[], _, _, .bad g h1, rfl⟩
  | @word l L C c r L' C' T E ln cl hs h1 _ ih =>
    intro L2 C2
    obtain ⟨L3, C3, g⟩ := skip_other hs L2 C2
    obtain ⟨T2, ln2, cl2, h2, h3⟩ := ih L3 (C3 + wlen (c :: r))
    refine ⟨_, ln2, cl2, .word g h1 h2, ?_⟩
    rw [List.map_cons, List.map_cons, h3]
    rfl
/-- A sign of one byte that no other joins. -/
theorem sign_one {c : UInt8} (hc : c = 40 ∨ c = 41) (x : List UInt8) : wlen (c :: x) = 1 ∧ meanW (c :: x) = (⟨7, [c], 0, 0, [], 0, 0⟩, 0) := by
  have hk : kindL (c :: x) = 7 := by
    rcases hc with rfl | rfl <;> rfl
  have hp : pair (c :: x) = false := by
    cases x with
    | nil => rfl
    | cons d y => rcases hc with rfl | rfl <;> simp [pair]
  have hw : wlen (c :: x) = 1 := by
    unfold wlen
    rw [hk]
    show goL (sgnS (pair (c :: x))) true x + 1 = 1
    rw [hp]
    cases x with
    | nil => rfl
    | cons d y => rw [sgn_true]; rfl
  refine ⟨hw, ?_⟩
  unfold meanW
  rw [hk, hw]
  rfl
theorem skip_sign {c : UInt8} (hc : c = 40 ∨ c = 41) (x : List UInt8) (L C : Nat) : skipL false (c :: x) L C = (c :: x, L, C) := by
  rcases hc with rfl | rfl <;> rfl
abbrev sgT (c : UInt8) (L C : Nat) : Tk := ⟨7, [c], 0, 0, [], L, C⟩
theorem Wds.sign {c : UInt8} (hc : c = 40 ∨ c = 41) {x : List UInt8} {L C : Nat} {T : List Tk} {E ln cl : Int} (h : Wds x L (C + 1) T E ln cl) : Wds (c :: x) L C (sgT c L C :: T) E ln cl := by
  obtain ⟨hw, hm⟩ := sign_one hc x
  have := Wds.word (skip_sign hc x L C) (by rw [hm]) (T := T) (E := E) (ln := ln) (cl := cl) (by rw [hw]; exact h)
  rw [hm] at this
  exact this
theorem Wds.nil (L C : Nat) : Wds [] L C [] 0 0 0 := .done rfl
/-- A text in parentheses, a line's end ahead of the last one. -/
def wrapB (s : List UInt8) : List UInt8 := 40 :: (s ++ [10, 41])
theorem wrap_words {s : List UInt8} {T : List Tk} {L0 C0 : Nat} {a b : Int} (h : Wds s L0 C0 T 0 a b) (L C : Nat) : ∃ (T2 : List Tk) (c : Tk), Wds (wrapB s) L C (sgT 40 L C :: (T2 ++ [c])) 0 0 0 ∧ T2.map Tk.bare = T.map Tk.bare ∧ c.bare = sgT 41 0 0 := by
  obtain ⟨T2, ln2, cl2, h2, h3⟩ := h.any L (C + 1)
  refine ⟨T2, sgT 41 (L + lines s + 1) 1, ?_, h3, rfl⟩
  exact Wds.sign (Or.inl rfl) (h2.join rfl (Wds.sign (Or.inr rfl) (Wds.nil _ _)))
/-- The texts of the operators, in the order of their numbers. -/
def opB : List (List UInt8) := [[111, 114], [97, 110, 100], [61], [60, 62], [60], [60, 61], [62], [62, 61], [43], [45], [42], [47]]
theorem op_good : ∀ u ∈ opB, u ≠ [] ∧ (meanW u).2 = 0 ∧ wlen u = u.length ∧ (meanW u).1.t = u ∧ isT (meanW u).1 u = true ∧ (inOp u).1 ≠ 0 := by
  intro u hu
  simp only [opB, List.mem_cons, List.not_mem_nil, or_false] at hu
  rcases hu with rfl | rfl | rfl | rfl | rfl | rfl | rfl | rfl | rfl | rfl | rfl | rfl
  all_goals exact ⟨by decide, by rfl, by rfl, by rfl, by rfl, by decide⟩
theorem op_words {u : List UInt8} (hu : u ∈ opB) {t : List UInt8} {T : List Tk} (h : ∀ L C, ∃ T2 : List Tk, Wds t L C T2 0 0 0 ∧ T2.map Tk.bare = T) (L C : Nat) : ∃ T2 : List Tk, Wds (32 :: (u ++ 32 :: t)) L C T2 0 0 0 ∧ T2.map Tk.bare = (meanW u).1.bare :: T := by
  obtain ⟨h1, h2, h3, _⟩ := op_good u hu
  obtain ⟨_, hw, hm⟩ := word_ext h1 h2 (Or.inr rfl : Stop 32) t
  obtain ⟨T2, g1, g2⟩ := h L (C + 1 + wlen u + 1)
  have g3 : Wds (32 :: t) L (C + 1 + wlen u) T2 0 0 0 := Wds.skip (by rfl) g1
  have hs : skipL false (32 :: (u ++ 32 :: t)) L C = (u ++ 32 :: t, L, C + 1) := skip_word h2 (32 :: t) L (C + 1)
  refine ⟨_, Wds.word' hs (by simp) (by rw [hm]; exact h2) (T := T2) (E := 0) (ln := 0) (cl := 0) ?_, ?_⟩
  · rw [hw, drop_app (by rw [h3]; exact Nat.le_refl _), h3, List.drop_length]
    rw [h3] at g3
    exact g3
  · rw [List.map_cons, g2, hm]
    rfl
/-- Two texts in parentheses, with an operator between. -/
def joinO (s u t : List UInt8) : List UInt8 := wrapB s ++ 32 :: (u ++ 32 :: wrapB t)
theorem join_words {s t u : List UInt8} (hu : u ∈ opB) {T1 T2 : List Tk} {L1 C1 L2 C2 : Nat} {a b c d : Int} (h1 : Wds s L1 C1 T1 0 a b) (h2 : Wds t L2 C2 T2 0 c d) :
    ∃ (A B : List Tk), Wds (joinO s u t) 1 1 (sgT 40 1 1 :: (A ++ B)) 0 0 0 ∧ A.map Tk.bare = T1.map Tk.bare ∧ B.map Tk.bare = sgT 41 0 0 :: (meanW u).1.bare :: sgT 40 0 0 :: (T2.map Tk.bare ++ [sgT 41 0 0]) := by
  have hR : ∀ L C, ∃ T3 : List Tk, Wds (wrapB t) L C T3 0 0 0 ∧ T3.map Tk.bare = sgT 40 0 0 :: (T2.map Tk.bare ++ [sgT 41 0 0]) := fun L C => by
    obtain ⟨T3, c, g1, g2, g3⟩ := wrap_words h2 L C
    refine ⟨_, g1, ?_⟩
    rw [List.map_cons, List.map_append, List.map_cons, List.map_nil, g2, g3]
    rfl
  obtain ⟨A, ln2, cl2, k1, k2⟩ := h1.any 1 2
  obtain ⟨B, g1, g2⟩ := op_words hu hR (1 + lines s + 1) 2
  refine ⟨A, sgT 41 (1 + lines s + 1) 1 :: B, ?_, k2, ?_⟩
  · have := Wds.sign (Or.inl rfl : (40 : UInt8) = 40 ∨ (40 : UInt8) = 41) (k1.join rfl (Wds.sign (Or.inr rfl : (41 : UInt8) = 40 ∨ (41 : UInt8) = 41) g1))
    unfold joinO wrapB
    rw [List.cons_append, List.append_assoc]
    exact this
  · rw [List.map_cons, g2]
    rfl
end Go.Proofs.YtgmjpcaennmgoaaGreatDoor
namespace Go.Proofs.YtgmjpcaennmgoaaGreatDoor
open Go.ChangeShapes Go.WideShapes Go.ChangeAt Go.RowKit Go.Lib
set_option linter.unusedVariables false
set_option linter.unusedSimpArgs false
set_option maxRecDepth 100000

theorem unq_len : ∀ l : List UInt8, (unqL l).length ≤ l.length
  | [] => Nat.le_refl _
  | [c] => Nat.le_refl _
  | c :: d :: r => by
    unfold unqL
    have h1 := unq_len r
    have h2 := unq_len (d :: r)
    simp only [List.length_cons] at h2
    split
    · simp only [List.length_cons]; omega
    · simp only [List.length_cons]; omega
theorem read_len (l : List UInt8) : (readL l).s.length ≤ l.length := by
  cases l with
  | nil => simp [readL]
  | cons c r =>
    rw [readL]
    repeat' split
    all_goals first
      | (simp; done)
      | (have h1 := unq_len (Lib.trimSuffix r [34])
         have h2 := Lib.trimSuffix_le r [34]
         simp only [List.length_cons]
         omega)
theorem parse_len (l : List UInt8) : (parseL l).s.length ≤ l.length := by
  have := read_len l
  unfold parseL
  repeat' split
  all_goals first | exact this | simp
theorem mean_ok {l : List UInt8} (h : (meanW l).2 = 0) : (meanW l).1.t.length ≤ l.length ∧ (meanW l).1.vs.length ≤ l.length ∧ ((meanW l).1.k = 2 → isName (meanW l).1.t = true) := by
  have hu : (l.take (wlen l)).length ≤ l.length := by rw [List.length_take]; omega
  unfold meanW at h ⊢
  revert hu h
  generalize l.take (wlen l) = u
  generalize kindL l = k
  intro h hu
  have ht : u.tail.length ≤ u.length := by rw [List.length_tail]; omega
  have hp := parse_len u
  have nam : ∀ (k : Int) (v : List UInt8), (namedL k v).2 = 0 → namedL k v = (⟨k, v, 0, 0, [], 0, 0⟩, 0) ∧ isName v = true := fun k v hv => by
    unfold namedL at hv ⊢
    split at hv
    · rename_i hn
      exact ⟨if_pos hn, hn⟩
    · cases hv
  have val : ∀ (k : Int), k ≠ 2 → (valuedL k u).2 = 0 → (valuedL k u).1.t.length ≤ l.length ∧ (valuedL k u).1.vs.length ≤ l.length ∧ ((valuedL k u).1.k = 2 → isName (valuedL k u).1.t = true) := fun k hk hv => by
    unfold valuedL at hv ⊢
    split at hv
    · cases hv
    rename_i c1
    rw [if_neg c1]
    split at hv
    · cases hv
    rename_i c2
    rw [if_neg c2]
    refine ⟨?_, ?_, fun h => absurd h hk⟩
    · simp only
      split
      · rw [List.length_take, List.length_tail]; omega
      · exact hu
    · simp only; omega
  unfold meanL at h ⊢
  split at h
  · rename_i c
    rw [if_pos c, (nam _ _ h).1]
    exact ⟨hu, by simp, fun h => by simp at h⟩
  rename_i c
  rw [if_neg c]
  split at h
  · rename_i c
    rw [if_pos c, (nam _ _ h).1]
    exact ⟨by simp only; omega, by simp, fun _ => (nam _ _ h).2⟩
  rename_i c
  rw [if_neg c]
  split at h
  · rename_i c
    rw [if_pos c]
    split at h
    · rename_i c
      rw [if_pos c, (nam _ _ c).1]
      exact ⟨by simp only; omega, by simp only; omega, fun h => by simp at h⟩
    · rename_i c
      exact absurd h c
  rename_i c
  rw [if_neg c]
  split at h
  · rename_i c
    rw [if_pos c]
    exact val 4 (by decide) h
  rename_i c
  rw [if_neg c]
  split at h
  · rename_i c
    rw [if_pos c]
    exact val 5 (by decide) h
  rename_i c
  rw [if_neg c]
  split at h
  · rename_i c
    rw [if_pos c]
    exact ⟨by simp, by simp, fun h => by simp at h⟩
  rename_i c
  rw [if_neg c]
  split at h
  · rename_i c
    rw [if_pos c]
    exact ⟨hu, by simp, fun h => by simp at h⟩
  · cases h
theorem skip_bnd : ∀ (m : Bool) (l : List UInt8) (L C : Nat), 1 ≤ C → L ≤ (skipL m l L C).2.1 ∧ 1 ≤ (skipL m l L C).2.2 ∧ (skipL m l L C).2.1 + (skipL m l L C).1.length ≤ L + l.length ∧ (skipL m l L C).2.2 + (skipL m l L C).1.length ≤ C + l.length
  | m, [], L, C, h => by cases m <;> simp [skipL] <;> omega
  | true, c :: r, L, C, h => by
    unfold skipL
    split
    · have := skip_bnd false r (L + 1) 1 (Nat.le_refl _)
      simp only [List.length_cons]
      omega
    · have := skip_bnd true r L (C + 1) (by omega)
      simp only [List.length_cons]
      omega
  | false, c :: r, L, C, h => by
    unfold skipL
    split
    · have := skip_bnd false r L (C + 1) (by omega)
      simp only [List.length_cons]
      omega
    split
    · have := skip_bnd false r (L + 1) 1 (Nat.le_refl _)
      simp only [List.length_cons]
      omega
    split
    · have := skip_bnd true r L (C + 1) (by omega)
      simp only [List.length_cons]
      omega
    · simp only [List.length_cons]
      omega
/-- A word of a text that is not too long. -/
structure WdB (M : Nat) (x : Tk) : Prop extends WdOk x where
  lnM : x.ln ≤ M
  clM : x.cl ≤ M
  tM : x.t.length ≤ M
  vM : x.vs.length ≤ M
theorem Wds.fine {s : List UInt8} {L C : Nat} {T : List Tk} {E ln cl : Int} (h : Wds s L C T E ln cl) : ∀ (M : Nat), 1 ≤ L → 1 ≤ C → L + s.length ≤ M → C + s.length ≤ M → ∀ x ∈ T, WdB M x := by
  induction h with
  | done hs => intro M _ _ _ _ x hx; cases hx
  | bad hs h1 => intro M _ _ _ _ x hx; cases hx
  | @word l L C c r L' C' T E ln cl hs h1 _ ih =>
    intro M hL hC hM1 hM2 x hx
    have hb := skip_bnd false l L C hC
    rw [hs] at hb
    simp only at hb
    have hl := take_len (l := c :: r) (by simp)
    have hle := wlen_le (l := c :: r) (by simp)
    obtain ⟨m1, m2, m3⟩ := mean_ok h1
    rcases List.mem_cons.1 hx with rfl | hx
    · exact ⟨⟨by simp only [Tk.at]; omega, by simp only [Tk.at]; omega, m3⟩, by simp only [Tk.at]; omega, by simp only [Tk.at]; omega, by simp only [Tk.at]; omega, by simp only [Tk.at]; omega⟩
    · exact ih M (by omega) (by omega) (by rw [List.length_drop]; omega) (by rw [List.length_drop]; omega) x hx
end Go.Proofs.YtgmjpcaennmgoaaGreatDoor
namespace Go.Proofs.YtgmjpcaennmgoaaGreatDoor
open Go.ChangeShapes Go.WideShapes Go.ChangeAt Go.RowKit Go.Lib
set_option linter.unusedVariables false
set_option linter.unusedSimpArgs false
set_option maxRecDepth 100000

def Rz.suf (l : List Tk) : Rz → Prop
  | .ok _ r => r <:+ l
  | .no _ r => r <:+ l
  | .out => True
theorem suf_bnd {l : List Tk} {x : Rz} {f : List Nd → List Tk → Rz} (h : x.suf l) (hf : ∀ ns r, r <:+ l → (f ns r).suf l) : (x.bnd f).suf l := by
  cases x with
  | out => trivial
  | no e r => exact h
  | ok ns r => exact hf ns r h
theorem suf_ite {l : List Tk} {c : Prop} [Decidable c] {a b : Rz} (ha : a.suf l) (hb : b.suf l) : (if c then a else b).suf l := by split <;> assumption
theorem Rz.suf.up {l l' : List Tk} {x : Rz} (h : x.suf l') (hl : l' <:+ l) : x.suf l := by
  cases x with
  | out => trivial
  | no e r => exact h.trans hl
  | ok ns r => exact h.trans hl
theorem sufs : ∀ F m o l, (P F m o l).suf l
  | 0, m, o, l => trivial
  | F + 1, m, o, l => by
    have ih : ∀ m o l l', l' <:+ l → (P F m o l').suf l := fun m o l l' h => (sufs F m o l').up h
    have s0 : ∀ l : List Tk, l <:+ l := fun l => List.suffix_refl l
    have s1 : ∀ l : List Tk, l.tail <:+ l := fun l => List.tail_suffix l
    have s2 : ∀ l l' : List Tk, l' <:+ l → l'.tail <:+ l := fun l l' h => (List.tail_suffix l').trans h
    have hp : ∀ L ns o l l', l' <:+ l → (pairP (P F) L ns o l').suf l := fun L ns o l l' h => suf_bnd (ih _ _ _ _ (s2 _ _ h)) (fun _ _ h => h)
    cases m with
    | lvl L =>
      rw [P_lvl]
      refine suf_ite ?_ (suf_ite ?_ (suf_ite ?_ (suf_bnd (ih _ _ _ _ (s0 l)) (fun _ _ h => ih _ _ _ _ h))))
      · refine suf_ite (s1 l) (suf_ite (s1 l) (suf_ite (s1 l) (suf_ite ?_ (suf_ite ?_ (s0 l)))))
        · refine suf_ite (s1 l) (suf_ite (s1 l) (suf_ite (s1 l) ?_))
          cases callL (wordL l).t with
          | none => exact s0 l
          | some c => exact suf_ite (s1 l) (suf_ite (s1 l) (suf_bnd (ih _ _ _ _ (s2 _ _ (s1 l))) (fun _ _ h => ih _ _ _ _ h)))
        · exact suf_ite (s0 l) (suf_bnd (ih _ _ _ _ (s1 l)) (fun _ _ h => suf_ite (s2 _ _ h) h))
      · exact suf_ite (ih _ _ _ _ (s0 l)) (suf_ite (s0 l) (suf_bnd (ih _ _ _ _ (s1 l)) (fun _ _ h => h)))
      · exact suf_bnd (ih _ _ _ _ (s0 l)) (fun _ _ h => suf_ite h (hp _ _ _ _ _ h))
    | tail L ns =>
      rw [P_tail]
      exact suf_ite (s0 l) (suf_bnd (hp _ _ _ _ _ (s0 l)) (fun _ _ h => ih _ _ _ _ h))
    | args op lo hi ln cl ns ks =>
      rw [P_args]
      exact suf_ite (suf_ite (s0 l) (suf_bnd (ih _ _ _ _ (s1 l)) (fun _ _ h => ih _ _ _ _ h))) (suf_ite (s0 l) (suf_ite (s1 l) (s0 l)))
theorem suf_drop {r l : List Tk} (h : r <:+ l) : ∃ n, r = l.drop n ∧ n ≤ l.length := by
  obtain ⟨p, rfl⟩ := h
  exact ⟨p.length, by simp, by simp⟩
theorem parseX_no {A : List Tk} {e : Int} {r : List Tk} (h : parseX A = .no e r) : ∃ n, r = A.drop n ∧ n ≤ A.length := by
  have := sufs (fuelOf A) (.lvl 0) 0 A
  rw [show P (fuelOf A) (.lvl 0) 0 A = .no e r from h] at this
  exact suf_drop this
theorem parseX_ok {A : List Tk} {ns : List Nd} {r : List Tk} (h : parseX A = .ok ns r) : ∃ n, r = A.drop n ∧ n ≤ A.length := by
  have := sufs (fuelOf A) (.lvl 0) 0 A
  rw [show P (fuelOf A) (.lvl 0) 0 A = .ok ns r from h] at this
  exact suf_drop this
end Go.Proofs.YtgmjpcaennmgoaaGreatDoor
namespace Go.Proofs.YtgmjpcaennmgoaaGreatDoor
open Go.ChangeShapes Go.WideShapes Go.ChangeAt Go.RowKit Go.Lib
set_option linter.unusedVariables false
set_option linter.unusedSimpArgs false
set_option maxRecDepth 100000

/-- The runs that end ahead of a place, by where each node's run begins. -/
def Chn (F : List Nat) : Nat → List Nat → Prop
  | _, [] => True
  | p, g :: s => 1 ≤ p ∧ F[p - 1]? = some g ∧ g < p ∧ Chn F g s
/-- A node's expressions, from the right one on. -/
def wlk (F : List Nat) (i : Nat) : List Nat → Nat → Nat → Prop
  | [], f, e => f = e
  | d :: ds, f, e => i + 1 = f + d ∧ 1 ≤ f ∧ ∃ g, F[f - 1]? = some g ∧ g < f ∧ wlk F i ds g e
theorem pops_wlk {F : List Nat} {i : Nat} : ∀ (ds : List Nat) (f : Nat) (s : List Nat) (f' : Nat) (s' : List Nat), pops i ds f s = some (f', s') → Chn F f s → wlk F i ds f f' ∧ f' ≤ f ∧ Chn F f' s'
  | [], f, s, f', s', h, hc => by
    unfold pops at h
    injection h with h
    injection h with h1 h2
    subst h1 h2
    exact ⟨rfl, Nat.le_refl _, hc⟩
  | d :: ds, f, [], f', s', h, hc => by
    unfold pops at h
    cases h
  | d :: ds, f, g :: s, f', s', h, hc => by
    unfold pops at h
    split at h
    · rename_i hd
      obtain ⟨c1, c2, c3, c4⟩ := hc
      obtain ⟨h1, h2, h3⟩ := pops_wlk ds g s f' s' h c4
      exact ⟨⟨hd.1, hd.2, g, c2, c3, h1⟩, by omega, h3⟩
    · cases h
theorem chn_app {F : List Nat} (v : List Nat) : ∀ (s : List Nat) (p : Nat), p ≤ F.length → Chn F p s → Chn (F ++ v) p s
  | [], p, hp, h => trivial
  | g :: s, p, hp, h => by
    obtain ⟨h1, h2, h3, h4⟩ := h
    exact ⟨h1, by rw [List.getElem?_append_left (by omega)]; exact h2, h3, chn_app v s g (by omega) h4⟩
theorem wlk_app {F : List Nat} (v : List Nat) {i : Nat} : ∀ (ds : List Nat) (f e : Nat), f ≤ F.length → wlk F i ds f e → wlk (F ++ v) i ds f e
  | [], f, e, hf, h => h
  | d :: ds, f, e, hf, h => by
    obtain ⟨h1, h2, g, h3, h4, h5⟩ := h
    exact ⟨h1, h2, g, by rw [List.getElem?_append_left (by omega)]; exact h3, h4, wlk_app v ds g e (by omega) h5⟩
theorem exec_firsts : ∀ (l : List Nd) (i : Nat) (s F t : List Nat), F.length = i → Chn F i s → exec l i s = some t → ∃ F', F'.length = l.length ∧ Chn (F ++ F') (i + l.length) t ∧ ∀ (j : Nat) (x : Nd), l[j]? = some x → ∃ e, (F ++ F')[i + j]? = some e ∧ wlk (F ++ F') (i + j) x.ks.reverse (i + j) e
  | [], i, s, F, t, hF, hc, h => by
    unfold exec at h
    injection h with h
    subst h
    exact ⟨[], rfl, by simpa using hc, fun j x hx => by simp at hx⟩
  | y :: l, i, s, F, t, hF, hc, h => by
    unfold exec at h
    cases hp : pops i y.ks.reverse i s with
    | none => rw [hp] at h; cases h
    | some q =>
      obtain ⟨f, s'⟩ := q
      rw [hp] at h
      simp only at h
      obtain ⟨w1, w2, w3⟩ := pops_wlk _ _ _ _ _ hp hc
      have hc' : Chn (F ++ [f]) (i + 1) (f :: s') := ⟨by omega, by rw [List.getElem?_append_right (by omega)]; simp [hF], by omega, chn_app [f] _ _ (by omega) w3⟩
      obtain ⟨F', e1, e2, e3⟩ := exec_firsts l (i + 1) (f :: s') (F ++ [f]) t (by simp [hF]) hc' h
      refine ⟨f :: F', by simp [e1], ?_, fun j x hx => ?_⟩
      · rw [List.append_assoc] at e2
        rw [List.length_cons, show i + (l.length + 1) = i + 1 + l.length by omega]
        exact e2
      · cases j with
        | zero =>
          simp only [List.getElem?_cons_zero, Option.some.injEq] at hx
          subst hx
          refine ⟨f, ?_, ?_⟩
          · rw [Nat.add_zero, List.getElem?_append_right (by omega)]
            simp [hF]
          · rw [Nat.add_zero]
            exact wlk_app (f :: F') _ _ _ (by omega) w1
        | succ j =>
          simp only [List.getElem?_cons_succ] at hx
          obtain ⟨e, h1, h2⟩ := e3 j x hx
          rw [List.append_assoc] at h1 h2
          rw [show i + (j + 1) = i + 1 + j by omega]
          exact ⟨e, h1, h2⟩
/-- A whole tree. -/
theorem tree_firsts {T : List Nd} (h : Tr T) : ∃ F : List Nat, F.length = T.length ∧ F[T.length - 1]? = some 0 ∧ ∀ (i : Nat) (x : Nd), T[i]? = some x → ∃ e, F[i]? = some e ∧ wlk F i x.ks.reverse i e := by
  obtain ⟨F, e1, e2, e3⟩ := exec_firsts T 0 [] [] [0] rfl trivial (h.run 0 [])
  simp only [List.nil_append, Nat.zero_add] at e2 e3
  exact ⟨F, e1, e2.2.1, e3⟩
end Go.Proofs.YtgmjpcaennmgoaaGreatDoor
