/- Maps of numbers: tokens by their numbers, sets of numbers, and sets by a number. -/
import Derived.Test.YtfgdgnkihiokoaaBA
namespace Go.Proofs.Ytfgdgnkihiokoaa
open Go.ChangeShapes Go.WideShapes Go.ChangeAt Go.RowKit Go.Lib
set_option linter.unusedVariables false
set_option linter.unusedSimpArgs false
set_option maxRecDepth 100000

/-- A map by rising numbers, as it reads. -/
def zents (l : List (Int × Value)) : List (Lit × DataW Value) := l.map fun x => (Lit.int .i64 x.1, .held x.2)
def Dz (l : List (Int × Value)) : DataW Value := .map (zents l)
theorem Dz_size (l : List (Int × Value)) : Maps.size (Dz l) = l.length := by simp [Dz, zents, Maps.size]
theorem Dz_at {E : List (Int × Value)} (hu : E.Pairwise (fun x y => x.1 < y.1)) {x : Int × Value} (hx : x ∈ E) (z : DataW Value) : (Dz E).atKey (.int .i64 x.1) z = .held x.2 := by
  unfold DataW.atKey Dz
  simp only
  have : (zents E).find? (fun p => p.1.sameKey (.int .i64 x.1)) = some (Lit.int .i64 x.1, .held x.2) := by
    unfold zents
    induction E with
    | nil => cases hx
    | cons y r ih =>
      obtain ⟨h1, h2⟩ := List.pairwise_cons.1 hu
      rw [List.map_cons, List.find?_cons]
      rcases List.mem_cons.1 hx with rfl | hx'
      · simp [lit_same]
      · have := h1 x hx'
        rw [lit_same, decide_eq_false (by omega)]
        exact ih h2 hx'
  rw [this]
theorem Dz_no {E : List (Int × Value)} {id : Int} (hx : ∀ x ∈ E, x.1 ≠ id) (z : DataW Value) : (Dz E).atKey (.int .i64 id) z = z := by
  unfold DataW.atKey Dz
  simp only
  have : (zents E).find? (fun p => p.1.sameKey (.int .i64 id)) = none := by
    rw [List.find?_eq_none]
    intro p hp
    obtain ⟨x, hx', rfl⟩ := List.mem_map.1 hp
    simp only
    rw [lit_same]
    simpa using hx x hx'
  rw [this]
theorem Dz_has (E : List (Int × Value)) (kl : Lit) : Maps.has (Dz E) kl = true ↔ ∃ x ∈ E, kl = .int .i64 x.1 := by
  show (zents E).any (fun p => p.1.sameKey kl) = true ↔ _
  rw [List.any_eq_true]
  constructor
  · rintro ⟨p, hp, h⟩
    obtain ⟨x, hx, rfl⟩ := List.mem_map.1 hp
    exact ⟨x, hx, (WideAt.sameKey_eq h).symm⟩
  · rintro ⟨x, hx, rfl⟩
    exact ⟨_, List.mem_map.2 ⟨x, hx, rfl⟩, by simp only; rw [lit_same]; simp⟩
theorem ins_end : ∀ (r : List (Lit × DataW Value)) (id : Int) (d : DataW Value), (∀ p ∈ r, ∃ i, p.1 = .int .i64 i ∧ i < id) → DataW.insert (.int .i64 id, d) r = r ++ [(.int .i64 id, d)]
  | [], _, _, _ => rfl
  | y :: r, id, d, h => by
    obtain ⟨i, e, hi⟩ := h y (by simp)
    obtain ⟨yk, yd⟩ := y
    simp only at e
    subst e
    unfold DataW.insert
    rw [if_neg (by simp [Lit.before]; omega), ins_end r id d (fun p hp => h p (by simp [hp]))]
    rfl
theorem Dz_put {E : List (Int × Value)} {x : Int × Value} (hx : ∀ y ∈ E, y.1 < x.1) : (Dz E).put (.int .i64 x.1) (.held x.2) = Dz (E ++ [x]) := by
  show DataW.map (DataW.insert _ ((zents E).filter fun p => !p.1.sameKey (.int .i64 x.1))) = _
  have hf : (zents E).filter (fun p => !p.1.sameKey (.int .i64 x.1)) = zents E := by
    rw [List.filter_eq_self]
    intro p hp
    obtain ⟨y, hy, rfl⟩ := List.mem_map.1 hp
    simp only
    rw [lit_same]
    have := hx y hy
    simp
    omega
  rw [hf, ins_end]
  · simp [Dz, zents]
  · intro p hp
    obtain ⟨y, hy, rfl⟩ := List.mem_map.1 hp
    exact ⟨_, rfl, hx y hy⟩
theorem Dz_del (E : List (Int × Value)) (id : Int) : (Dz E).del (.int .i64 id) = Dz (E.filter fun x => decide (x.1 ≠ id)) := by
  show DataW.map ((zents E).filter fun p => !p.1.sameKey (.int .i64 id)) = _
  unfold Dz zents
  rw [List.filter_map]
  congr 2
  apply List.filter_congr
  intro x _
  simp [lit_same]

/-! ## sets of numbers -/
def se (l : List Int) : List (Int × Value) := l.map fun i => (i, .agg #[])
structure Us (w : World) (g : Nat) (l : List Int) (cap : Nat) : Prop where
  own : w.ownsMap Try.prog 3 Rm g cap (Dz (se l))
  up : l.Pairwise (· < ·)
  low : ∀ i ∈ l, I64 i
theorem Us.lt {w : World} {g : Nat} {l : List Int} {cap : Nat} (h : Us w g l cap) : g < w.heap.size := h.own.lt
theorem Us.chg {S : Nat → Prop} {w w' : World} {g : Nat} {l : List Int} {cap : Nat} (h : Us w g l cap) (hc : Chg S w w') (hs : ¬ S g) : Us w' g l cap := ⟨own_chg h.own hc hs, h.up, h.low⟩
theorem Us.mono {w : World} {g : Nat} {l : List Int} {cap cap' : Nat} (h : Us w g l cap) (hc : cap ≤ cap') : Us w g l cap' := ⟨h.own.mono hc, h.up, h.low⟩
theorem se_del (l : List Int) (i : Int) : (se l).filter (fun x => decide (x.1 ≠ i)) = se (l.filter fun x => decide (x ≠ i)) := by
  unfold se; rw [List.filter_map]; rfl

/-! ## sets by a number -/
def Bk (b : Nat) (G : Int → Option Nat) (j : Nat) : Prop := j = b ∨ ∃ k, G k = some j
structure Ix (w : World) (b : Nat) (G : Int → Option Nat) (P : Prs) (cap : Nat) (D : DataW Value) : Prop where
  own : w.ownsMap Try.prog 3 Rm b cap D
  at_ : ∀ k g, G k = some g → ∀ z, D.atKey (.int .i64 k) z = .held (.map (some g))
  no : ∀ k, G k = none → Maps.has D (.int .i64 k) = false
  sets : ∀ k g, G k = some g → sel P k ≠ [] ∧ Us w g (sel P k) cap
  none_ : ∀ k, G k = none → sel P k = []
  inj : ∀ k k' g, G k = some g → G k' = some g → k = k'
  ne : ∀ k, G k ≠ some b
theorem Ix.lt {w : World} {b : Nat} {G : Int → Option Nat} {P : Prs} {cap : Nat} {D : DataW Value} (h : Ix w b G P cap D) {j : Nat} (hj : Bk b G j) : j < w.heap.size := by
  rcases hj with rfl | ⟨k, hk⟩
  · exact h.own.lt
  · exact (h.sets k j hk).2.lt
theorem Ix.chg {S : Nat → Prop} {w w' : World} {b : Nat} {G : Int → Option Nat} {P : Prs} {cap : Nat} {D : DataW Value} (h : Ix w b G P cap D) (hc : Chg S w w') (hs : ∀ j, Bk b G j → ¬ S j) : Ix w' b G P cap D :=
  ⟨own_chg h.own hc (hs b (Or.inl rfl)), h.at_, h.no, fun k g hg => ⟨(h.sets k g hg).1, (h.sets k g hg).2.chg hc (hs g (Or.inr ⟨k, hg⟩))⟩, h.none_, h.inj, h.ne⟩
theorem Ix.mono {w : World} {b : Nat} {G : Int → Option Nat} {P : Prs} {cap cap' : Nat} {D : DataW Value} (h : Ix w b G P cap D) (hc : cap ≤ cap') : Ix w b G P cap' D :=
  ⟨h.own.mono hc, h.at_, h.no, fun k g hg => ⟨(h.sets k g hg).1, (h.sets k g hg).2.mono hc⟩, h.none_, h.inj, h.ne⟩

theorem zero58 (w : World) : (zeroValue 58).run Try.prog w = .ok (.map none) w := by kernel_rfl
theorem zero32 (w : World) : (zeroValue 32).run Try.prog w = .ok (.agg #[.int .i64 0, .int .i64 0, .int .i64 0, .int .i64 0]) w := by kernel_rfl
/-- What the set of a number is: none, where there is none. -/
theorem Ix.look {w : World} {b : Nat} {G : Int → Option Nat} {P : Prs} {cap : Nat} {D : DataW Value} (h : Ix w b G P cap D) {k : Int} (hk : I64 k) :
    (Instr.lookup 51 (.map (some b)) (.int .i64 k) false).run Try.prog w = .ok (.map (G k)) w := by
  obtain ⟨v, ps, hrun, hv⟩ := h.own.lookup keyed3 Try.underlying51 (zero58 w) (show Rm (.map none) = some (.held (.map none), []) from rfl) (key_int hk)
  rcases hg : G k with _ | g
  · rw [Maps.atKey_of_not_has (h.no k hg)] at hv
    have e : v = .map none := (by simpa [Rm] using hv : _ ∧ _).1
    rw [e] at hrun
    exact hrun
  · rw [h.at_ k g hg] at hv
    have e : v = .map (some g) := (by simpa [Rm] using hv : _ ∧ _).1
    rw [e] at hrun
    exact hrun

/-! ## tokens by their numbers -/
abbrev tv (t : Tk) : Value := .agg #[.int .i64 t.id, .int .i64 t.par, .int .i64 t.node, .int .i64 t.fact]
def te (L : List Tk) : List (Int × Value) := L.map fun t => (t.id, tv t)
theorem te_up {L : List Tk} (h : L.Pairwise (fun x y => x.id < y.id)) : (te L).Pairwise (fun x y => x.1 < y.1) := by
  unfold te; rw [List.pairwise_map]; exact h
theorem tok_look {w : World} {b cap : Nat} {L : List Tk} (h : w.ownsMap Try.prog 3 Rm b cap (Dz (te L))) (hu : L.Pairwise (fun x y => x.id < y.id)) {i : Int} (hi : I64 i) :
    (Instr.lookup 49 (.map (some b)) (.int .i64 i) false).run Try.prog w = .ok (tv ((getT L i).getD noTk)) w ∧
    (Instr.lookup 49 (.map (some b)) (.int .i64 i) true).run Try.prog w = .ok (.tuple #[tv ((getT L i).getD noTk), .bool (getT L i).isSome]) w := by
  have hz : Rm (tv noTk) = some (.held (tv noTk), []) := rfl
  obtain ⟨v, ps, hrun, hv⟩ := h.look_ok keyed3 Try.underlying49 (zero32 w) hz (key_int hi)
  obtain ⟨v', ps', hrun', hv'⟩ := h.lookup keyed3 Try.underlying49 (zero32 w) hz (key_int hi)
  rcases hg : getT L i with _ | t
  · have hx : ∀ x ∈ te L, x.1 ≠ i := fun x hx e => by
      obtain ⟨t, ht, rfl⟩ := List.mem_map.1 hx
      exact getT_none hg t ht e
    rw [Dz_no hx] at hv hv'
    have e1 : v = tv noTk := (by simpa [Rm] using hv : _ ∧ _).1
    have e2 : v' = tv noTk := (by simpa [Rm] using hv' : _ ∧ _).1
    have hh : Maps.has (Dz (te L)) (.int .i64 i) = false := by
      rw [Bool.eq_false_iff]
      intro e
      obtain ⟨x, hx1, e⟩ := (Dz_has _ _).1 e
      exact hx x hx1 (by injection e with _ e; exact e.symm)
    rw [hh, e1] at hrun
    rw [e2] at hrun'
    exact ⟨hrun', hrun⟩
  · obtain ⟨ht, rfl⟩ := getT_some hg
    have hm : (t.id, tv t) ∈ te L := List.mem_map.2 ⟨t, ht, rfl⟩
    rw [Dz_at (te_up hu) hm] at hv hv'
    have e1 : v = tv t := (by simpa [Rm] using hv : _ ∧ _).1
    have e2 : v' = tv t := (by simpa [Rm] using hv' : _ ∧ _).1
    have hh : Maps.has (Dz (te L)) (.int .i64 t.id) = true := (Dz_has _ _).2 ⟨_, hm, rfl⟩
    rw [hh, e1] at hrun
    rw [e2] at hrun'
    exact ⟨hrun', hrun⟩

theorem run_neq58 (b : Option Nat) (W : World) : (binOp .eql 58 (.map b) (.map none)).run Try.prog W = .ok (.bool (b == none)) W := by
  rcases b with _ | b <;> rfl
end Go.Proofs.Ytfgdgnkihiokoaa
