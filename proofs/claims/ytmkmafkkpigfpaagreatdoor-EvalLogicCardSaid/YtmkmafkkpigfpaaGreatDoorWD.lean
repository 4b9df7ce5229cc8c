/- Layer expr: whether two trees are the same (the program's, the document's). A tree by its nodes, their expressions by their places. Layer eval, plain: what an expression answers. Layer eval: an answer's block; small calls. what is asked of all values. what is reckoned with one value, with two. -/
import Derived.Deep.RegionWith
import Derived.Test.YtmkmafkkpigfpaaGreatDoorKG
namespace Go.Proofs.YtmkmafkkpigfpaaGreatDoor
open Go.ChangeShapes Go.WideShapes Go.ChangeAt Go.RowKit Go.Lib
set_option linter.unusedVariables false
set_option linter.unusedSimpArgs false
set_option maxRecDepth 100000
structure Na where
 op:Int
 vk:Int
 vn:Int
 vs:List UInt8
 nm:List UInt8
 ks:List Int
 ln:Int
 cl:Int
deriving DecidableEq
def Na.bare (x:Na):Na:={ x with ln:=0,cl:=0 }
def absT (T:List Nd):List Na:=T.mapIdx fun i x=>⟨x.op,x.vk,x.vn,x.vs,x.nm,(x.ks.map (i-·)).map fun k:Nat=>(k:Int),x.ln,x.cl⟩
theorem abs_at {T:List Nd} {i:Nat} {y:Na} (h:(absT T)[i]?=some y):∃ x,T[i]?=some x∧y=⟨x.op,x.vk,x.vn,x.vs,x.nm,(x.ks.map (i-·)).map fun k:Nat=>(k:Int),x.ln,x.cl⟩:=by
 unfold absT at h
 rw [List.getElem?_mapIdx] at h
 cases hx:T[i]? with
 | none=>rw [hx] at h;cases h
 | some x=>
   rw [hx] at h
   injection h with h
   exact ⟨x,rfl,h.symm⟩
def FewZ (T:List Na):Prop:=∀ x∈T,x.ks.length≤1000000
def Kz (w : World) (v : Value) (ks : List Int) : Prop := ∃ oa cap, v = .slice oa ks.length cap ∧ ks.length ≤ cap ∧ cap ≤ maxLen ∧ ∀ (j : Nat) (k : Int), ks[j]? = some k → ∃ g, oa = some ⟨g, 0, none⟩ ∧ g < w.heap.size ∧ w.heap[g]?.isSome = true ∧ w.cell? ⟨g, j, none⟩ = some (.int .i64 k)
theorem Kz.old {w w' : World} {v : Value} {ks : List Int} (h : Kz w v ks) (ho : Old w w') : Kz w' v ks := by
  obtain ⟨oa, cap, h1, h2, h3, h4⟩ := h
  refine ⟨oa, cap, h1, h2, h3, fun i x hx => ?_⟩
  obtain ⟨g, e, hg, hs, a0⟩ := h4 i x hx
  exact ⟨g, e, Nat.lt_of_lt_of_le hg ho.size, by rw [ho.block g hg]; exact hs, (ho.cell hg).trans a0⟩
theorem Kw.kz {w : World} {v : Value} {ks : List Nat} (h : Kw w v ks) : Kz w v (ks.map fun k : Nat => (k : Int)) := by
  obtain ⟨oa, cap, h1, h2, h3, h4⟩ := h
  refine ⟨oa, cap, by rw [List.length_map]; exact h1, by rw [List.length_map]; exact h2, h3, fun j k hk => ?_⟩
  rw [List.getElem?_map] at hk
  cases hj : ks[j]? with
  | none => rw [hj] at hk; cases hk
  | some x =>
    rw [hj] at hk
    injection hk with hk
    subst hk
    exact h4 j x hj
def Tz (w : World) (v : Value) (T : List Na) : Prop := ∃ oa cap, v = .slice oa T.length cap ∧ T.length ≤ cap ∧ cap ≤ maxLen ∧ ∀ (i : Nat) (x : Na), T[i]? = some x → ∃ g kv, oa = some ⟨g, 0, none⟩ ∧ g < w.heap.size ∧ w.heap[g]?.isSome = true ∧ w.cell? ⟨g, i * 8, none⟩ = some (.int .u8 x.op) ∧ w.cell? ⟨g, i * 8 + 1, none⟩ = some (.int .u8 x.vk) ∧ w.cell? ⟨g, i * 8 + 2, none⟩ = some (.int .i64 x.vn) ∧
    w.cell? ⟨g, i * 8 + 3, none⟩ = some (.string (st x.vs)) ∧ w.cell? ⟨g, i * 8 + 4, none⟩ = some (.string (st x.nm)) ∧ w.cell? ⟨g, i * 8 + 5, none⟩ = some kv ∧ w.cell? ⟨g, i * 8 + 6, none⟩ = some (.int .i64 x.ln) ∧ w.cell? ⟨g, i * 8 + 7, none⟩ = some (.int .i64 x.cl) ∧ Kz w kv x.ks
theorem Tz.old {w w' : World} {v : Value} {T : List Na} (h : Tz w v T) (ho : Old w w') : Tz w' v T := by
  obtain ⟨oa, cap, h1, h2, h3, h4⟩ := h
  refine ⟨oa, cap, h1, h2, h3, fun i x hx => ?_⟩
  obtain ⟨g, kv, e, hg, hs, a0, a1, a2, a3, a4, a5, a6, a7, hk⟩ := h4 i x hx
  exact ⟨g, kv, e, Nat.lt_of_lt_of_le hg ho.size, by rw [ho.block g hg]; exact hs, (ho.cell hg).trans a0, (ho.cell hg).trans a1, (ho.cell hg).trans a2, (ho.cell hg).trans a3, (ho.cell hg).trans a4, (ho.cell hg).trans a5, (ho.cell hg).trans a6, (ho.cell hg).trans a7, hk.old ho⟩
theorem abs_len (T : List Nd) : (absT T).length = T.length := by simp [absT]
theorem Tw.tz {w : World} {v : Value} {T : List Nd} (h : Tw w v T) : Tz w v (absT T) := by
  obtain ⟨oa, cap, h1, h2, h3, h4⟩ := h
  refine ⟨oa, cap, by rw [abs_len]; exact h1, by rw [abs_len]; exact h2, h3, fun i y hy => ?_⟩
  obtain ⟨x, hx, rfl⟩ := abs_at hy
  obtain ⟨g, kv, e, hg, hs, a0, a1, a2, a3, a4, a5, a6, a7, hk⟩ := h4 i x hx
  exact ⟨g, kv, e, hg, hs, a0, a1, a2, a3, a4, a5, a6, a7, hk.kz⟩
end Go.Proofs.YtmkmafkkpigfpaaGreatDoor
namespace Go.Proofs.YtmkmafkkpigfpaaGreatDoor.V
open Go.ChangeShapes Go.WideShapes Go.ChangeAt Go.RowKit Go.Lib
set_option linter.unusedVariables false
set_option maxRecDepth 100000
structure An where
  v : Vl
  e : Int
abbrev anv (a : An) : Value := .agg #[.int .u8 a.v.k, .int .i64 a.v.n, .string a.v.s, .int .i64 a.e]
abbrev an0 (k n : Int) (s : ByteArray) (e : Int) : An := ⟨⟨k, n, s⟩, e⟩
abbrev anE (e : Int) : An := an0 0 0 ⟨#[]⟩ e
abbrev anT (b : Bool) : An := an0 4 (b01 b) ⟨#[]⟩ 0
def properA (x : Vl) : An := if mayB x.k x.n x.s = true then ⟨x, 0⟩ else anE 2
def kidA (ks : List Int) (at_ : Nat) (i : Nat) : Option Nat :=
  match ks[i]? with
  | some k => if 0 ≤ k ∧ k < at_ then some k.toNat else none
  | none => none
def askA (A : List An) (ks : List Int) (i : Nat) : An :=
  match kidA ks A.length i with
  | some k => A.getD k (anE 0)
  | none => anE 0
def goesB (kind : Int) (x : Vl) : Bool := x.k == kind || x.k == 0
def numB (x : Vl) : Bool := x.k == 1 || x.k == 2 || x.k == 0
def thereB (x : Vl) : Bool := x.k != 0
def truA (a : An) : An := if a.e = 0 ∧ goesB 4 a.v = false then anE 8 else a
def nullA (T : List Na) (at_ : Nat) (ks : List Int) (i : Nat) : Bool :=
  match kidA ks at_ i with
  | some k => match T[k]? with
    | some x => x.op == 1 && x.vk == 0
    | none => false
  | none => false
def leftA (ask : Nat → An) (n : Nat) (R : List Vl → An) : An :=
  match (List.range n).find? (fun i => decide (¬ (ask i).e = 0)) with
  | some i => ask i
  | none => R ((List.range n).map fun i => (ask i).v)
def hd (l : List Vl) (i : Nat) : Vl := l.getD i ⟨0, 0, ⟨#[]⟩⟩
def kindR (kind : Int) (R : List Vl → An) (l : List Vl) : An := if l.all (goesB kind) = false then anE 8 else if l.all thereB = false then anE 0 else R l
def cmpA (p : Int → Bool) (a b : Vl) : An :=
  if thereB a = false ∨ thereB b = false then anE 0 else if cpB a.k b.k = true then anT (p (cpV a.k a.n a.s b.k b.n b.s)) else anE 8
def eqR (nl wanted : Bool) (l : List Vl) : An := if nl = true then anT (((hd l 0).k == (hd l 1).k) == wanted) else cmpA (fun c => (c == 0) == wanted) (hd l 0) (hd l 1)
def ordR (p : Int → Bool) (l : List Vl) : An := if l.all numB = false ∧ l.all (goesB 3) = false then anE 8 else cmpA p (hd l 0) (hd l 1)
def tri (t : Int × Int × Int) : An := an0 t.1 t.2.1 ⟨#[]⟩ t.2.2
def oneR (f : Vl → An) (l : List Vl) : An := f (hd l 0)
def twoR (f : Vl → Vl → An) (l : List Vl) : An := f (hd l 0) (hd l 1)
def negA (a : Vl) : An := tri (sbT 1 0 a.k a.n)
def absA (a : Vl) : An := if numB a = false then anE 8 else if a.n < 0 then negA a else ⟨a, 0⟩
def wholeA (n e : Int) : An := if e = 0 then an0 1 n ⟨#[]⟩ 0 else anE e
def modA (a b : Vl) : An := if b.n = 0 then wholeA 0 10 else wholeA (a.n.tmod b.n) 0
def lenA (a : Vl) : An := wholeA a.s.size 0
def upI (c : Int) : Int := if 97 ≤ c ∧ c ≤ 122 then c - 97 + 65 else c
def upA (a : Vl) : An := an0 3 0 ⟨(Lib.mapD upI a.s.data.toList).toArray⟩ 0
def reckR (op : Int) (n0 n1 : Bool) : Option (Option Nat × (List Vl → An)) :=
  if op = 7 then some (some 2, eqR (n0 || n1) true) else if op = 8 then some (some 2, eqR (n0 || n1) false)
  else if op = 9 then some (some 2, ordR fun c => decide (c < 0)) else if op = 10 then some (some 2, ordR fun c => decide (c ≤ 0))
  else if op = 11 then some (some 2, ordR fun c => decide (0 < c)) else if op = 12 then some (some 2, ordR fun c => decide (0 ≤ c))
  else if op = 13 then some (some 2, twoR fun a b => tri (adT a.k a.n b.k b.n)) else if op = 14 then some (some 2, twoR fun a b => tri (sbT a.k a.n b.k b.n))
  else if op = 15 then some (some 2, twoR fun a b => tri (mlT a.k a.n b.k b.n)) else if op = 16 then some (some 2, twoR fun a b => tri (dvT a.k a.n b.k b.n))
  else if op = 17 then some (some 1, oneR negA) else if op = 18 then some (some 1, oneR absA)
  else if op = 19 then some (none, fun l => tri (fmT lsP l)) else if op = 20 then some (none, fun l => tri (fmT msP l))
  else if op = 21 then some (some 2, kindR 1 (twoR modA)) else if op = 22 then some (some 1, kindR 3 (oneR lenA)) else if op = 23 then some (some 1, kindR 3 (oneR upA))
  else if op = 24 then some (some 2, kindR 3 (twoR fun a b => anT (Lib.contains a.s.data.toList b.s.data.toList))) else if op = 25 then some (some 2, kindR 3 (twoR fun a b => anT (Lib.hasPrefix a.s.data.toList b.s.data.toList)))
  else none
end Go.Proofs.YtmkmafkkpigfpaaGreatDoor.V
namespace Go.Proofs.YtmkmafkkpigfpaaGreatDoor.V
open Go.ChangeShapes Go.WideShapes Go.ChangeAt Go.RowKit Go.Lib
set_option linter.unusedVariables false
set_option linter.unusedSimpArgs false
set_option maxRecDepth 100000
def Bk (w : World) (b : Nat) (cs : Array Value) (t : Nat) : Prop := w.heap[b]? = some (.cells cs t (0, 0))
section
variable {w w' : World} {b t : Nat} {cs : Array Value}
theorem Bk.c (h : Bk w b cs t) (k : Nat) : w.cell? ⟨b, k, none⟩ = cs[k]? := by unfold Bk at h; simp [World.cell?, h]
theorem Bk.f (h : Bk w b cs t) (k : Nat) : w.frozen? ⟨b, k, none⟩ = false := by unfold Bk at h; simp [World.frozen?, h]
theorem Bk.lt (h : Bk w b cs t) : b < w.heap.size := blk_lt h
theorem Bk.old (h : Bk w b cs t) (ho : Old w w') : Bk w' b cs t := (ho.block b h.lt).trans h
theorem Bk.new (w : World) (cs : Array Value) (t : Nat) : Bk (w.alloc (.cells cs t)) w.heap.size cs t := (MapKept.heap_alloc w _).1
theorem Bk.alloc (h : Bk w b cs t) (o : Obj) : Bk (w.alloc o) b cs t := (Below.heap_alloc w o b h.lt).trans h
theorem Bk.set (h : Bk w b cs t) (k : Nat) (u : Value) : Bk (w.setCell ⟨b, k, none⟩ u) b (cs.setIfInBounds k u) t := by
  have hlt := h.lt
  unfold Bk at *
  show (w.heap.modify b _)[b]? = _
  rw [Array.getElem?_modify, if_pos rfl, h]
  simp
theorem Bk.set4 (h : Bk w b cs t) (hz : cs.size = 4) (u0 u1 u2 u3 : Value) : Bk ((((w.setCell ⟨b, 0, none⟩ u0).setCell ⟨b, 1, none⟩ u1).setCell ⟨b, 2, none⟩ u2).setCell ⟨b, 3, none⟩ u3) b #[u0, u1, u2, u3] t := by
  have h4 := (((h.set 0 u0).set 1 u1).set 2 u2).set 3 u3
  obtain ⟨l⟩ := cs
  match l, hz with
  | [a, b', c, d], _ => simpa using h4
end
theorem old4 {W w : World} {b : Nat} (ho : Old W w) (hb : W.heap.size ≤ b) (u0 u1 u2 u3 : Value) : Old W ((((w.setCell ⟨b, 0, none⟩ u0).setCell ⟨b, 1, none⟩ u1).setCell ⟨b, 2, none⟩ u2).setCell ⟨b, 3, none⟩ u3) :=
  (((ho.setCell (p := ⟨b, 0, none⟩) hb u0).setCell (p := ⟨b, 1, none⟩) hb u1).setCell (p := ⟨b, 2, none⟩) hb u2).setCell (p := ⟨b, 3, none⟩) hb u3
abbrev zA : Array Value := #[.int .u8 0, .int .i64 0, .string ⟨#[]⟩, .int .i64 0]
theorem there_any (k n : Int) (s : ByteArray) (w : World) : Calls Tryz.prog 128 #[vl k n s] w fun e w' => e = .returned (.bool (k != 0)) ∧ Old w w' := by
  go_enter Tryz.func128, Tryz.ntmps128
  go_wp2
  go_ret
  exact ⟨rfl, (Old.refl w).alloc _⟩
theorem proper_any (k n : Int) (s : ByteArray) (w : World) : Calls Tryz.prog 32 #[vl k n s] w fun e w' => e = .returned (anv (properA ⟨k, n, s⟩)) ∧ Old w w' := by
  have HO := hid (((Old.refl w).alloc (.cells #[.int .u8 k, .int .i64 n, .string s] 26)).alloc (.cells zA 73))
  have HT := hid (Bk.new (w.alloc (.cells #[.int .u8 k, .int .i64 n, .string s] 26)) zA 73)
  have HV := hid ((Three.new w (.int .u8 k) (.int .i64 n) (.string s)).alloc (.cells zA 73))
  rw [sz_alloc] at HT
  unfold properA
  cases hm : mayB k n s with
  | true =>
    have hm' := fun W => may_any k n s W
    rw [hm] at hm'
    go_enter Tryz.func32, Tryz.ntmps32
    go_wp2_with (first
      | (go_at_call 58; (with_reducible refine (hm' _).mono ?_); rintro e w1 ⟨rfl, o1⟩; have T1 := hid (HT.out.old o1); have V1 := hid (HV.out.old o1); have c0 := T1.out.c 0; have c1 := T1.out.c 1; have c2 := T1.out.c 2; have c3 := T1.out.c 3; have f0 := T1.out.f 0; have f1 := T1.out.f 1; have f2 := T1.out.f 2; have f3 := T1.out.f 3; have d0 := V1.out.c0; have d1 := V1.out.c1; have d2 := V1.out.c2))
    have R := T1.out.set4 rfl (.int .u8 k) (.int .i64 n) (.string s) (.int .i64 0)
    exact bodyPost_ret (v := anv ⟨⟨k, n, s⟩, 0⟩) (by simp [results, Tryz.results32, go_sem, R.c 0, R.c 1, R.c 2, R.c 3]) rfl ⟨rfl, old4 (HO.out.trans o1) (by omega) _ _ _ _⟩
  | false =>
    have hm' := fun W => may_any k n s W
    rw [hm] at hm'
    go_enter Tryz.func32, Tryz.ntmps32
    go_wp2_with (first
      | (go_at_call 58; (with_reducible refine (hm' _).mono ?_); rintro e w1 ⟨rfl, o1⟩; have T1 := hid (HT.out.old o1); have c0 := T1.out.c 0; have c1 := T1.out.c 1; have c2 := T1.out.c 2; have c3 := T1.out.c 3; have f0 := T1.out.f 0; have f1 := T1.out.f 1; have f2 := T1.out.f 2; have f3 := T1.out.f 3))
    have R := T1.out.set4 rfl (.int .u8 0) (.int .i64 0) (.string ⟨#[]⟩) (.int .i64 2)
    exact bodyPost_ret (v := anv (anE 2)) (by simp [results, Tryz.results32, go_sem, R.c 0, R.c 1, R.c 2, R.c 3]) rfl ⟨rfl, old4 (HO.out.trans o1) (by omega) _ _ _ _⟩
def Pr (cf : Nat) (cb : Array Value) (p : Vl → Bool) (w : World) : Prop := ∀ W, Old w W → ∀ (k n : Int) (s : ByteArray), Calls Tryz.prog cf (#[vl k n s] ++ cb) W fun e W' => e = .returned (.bool (p ⟨k, n, s⟩)) ∧ Old W W'
theorem Pr.old {cf : Nat} {cb : Array Value} {p : Vl → Bool} {w w' : World} (h : Pr cf cb p w) (ho : Old w w') : Pr cf cb p w' := fun W hW => h W (ho.trans hW)
theorem all_no {l : List Vl} {k : Nat} {x : Vl} {p : Vl → Bool} (h : l[k]? = some x) (hx : p x = false) : l.all p = false := by
  rw [List.all_eq_false]
  exact ⟨x, List.mem_of_getElem? h, by rw [hx]; decide⟩
theorem allp_any (cf : Nat) (cb : Array Value) (p : Vl → Bool) (hen : ∀ args W, (callFunc cf args).run Tryz.prog W = .ok (.enter cf args) W) (l : List Vl) (v : Value) (w : World) (hl : RV w v l) (hb : l.length ≤ 100000) (hp : Pr cf cb p w) :
    Calls Tryz.prog 104 #[.func (.func cf) #[] cb, v] w fun e w' => e = .returned (.bool (l.all p)) ∧ Old w w' := by
  obtain ⟨oa, c, rfl, a1, a2, a3⟩ := hl
  obtain ⟨n, hn⟩ : ∃ n, n = l.length := ⟨_, rfl⟩
  rw [← hn]
  rw [← hn] at a1 hb
  have HN := hid hn
  have HA := hid a3
  have HP := hid hp
  clear hn a3 hp
  obtain ⟨B, hB⟩ : ∃ B, B = l.all p := ⟨_, rfl⟩
  rw [← hB]
  have HB := hid hB
  clear hB
  go_enter Tryz.func104, Tryz.ntmps104
  go_wp2
  go_loopw [9] (fun i wr => ∃ k : Nat, k ≤ n ∧ i = .int .i64 (k : Int) ∧ Hid ((l.take k).all p = true) ∧ Hid (Old w wr)) (fun i _ => (n - intOf i).toNat)
  case atStart => exact ⟨0, Nat.zero_le _, rfl, hid rfl, hid (Old.refl w)⟩
  case round =>
    obtain ⟨k, hk, rfl, HE, HO⟩ := hrel
    by_cases hkn : k < n
    · have hx : ∃ x, l[k]? = some x := ⟨l[k]'(by rw [← HN.out]; exact hkn), List.getElem?_eq_getElem _⟩
      obtain ⟨x, hx⟩ := hx
      obtain ⟨g, rfl, hgl, c0, c1, c2⟩ := HA.out k x hx
      have d0 := (HO.out.cell hgl).trans c0
      have d1 := (HO.out.cell hgl).trans c1
      have d2 := (HO.out.cell hgl).trans c2
      obtain ⟨xk, xn, xs⟩ := x
      have HX := hid hx
      have HC := fun W (h : Old w W) => HP.out W h xk xn xs
      clear hx c0 c1 c2
      have HW := hid (HO.out.alloc (.cells #[.int .u8 xk, .int .i64 xn, .string xs] 26))
      cases hpx : p ⟨xk, xn, xs⟩ with
      | true =>
        rw [hpx] at HC
        have HPX := hid hpx
        clear hpx
        go_wp2_with (first
          | ((with_reducible refine (HC _ HW.out).mono ?_); rintro e w1 ⟨rfl, o1⟩; have HW1 := hid (HW.out.trans o1); clear o1))
        refine ⟨⟨k + 1, hkn, rfl, hid ?_, HW1⟩, by simp only [intOf]; omega⟩
        rw [take_more HX.out, List.all_append, HE.out, List.all_cons, HPX.out]
        rfl
      | false =>
        rw [hpx] at HC
        have HPX := hid hpx
        clear hpx
        go_wp2_with (first
          | ((with_reducible refine (HC _ HW.out).mono ?_); rintro e w1 ⟨rfl, o1⟩; have HW1 := hid (HW.out.trans o1); clear o1))
        go_ret
        rw [HB.out, all_no HX.out HPX.out]
        exact ⟨rfl, HW1.out⟩
    · have hkn' : k = n := by omega
      subst hkn'
      go_wp2
      go_ret
      have HE' := HE.out
      rw [HN.out, List.take_length] at HE'
      rw [HB.out, HE']
      exact ⟨rfl, HO.out⟩
theorem goesFor_any (kind : Int) (w : World) : Calls Tryz.prog 105 #[.int .u8 kind] w fun e w' => e = .returned (.func (.func 143) #[] #[.pointer (some ⟨w.heap.size, 0, none⟩)]) ∧ w' = w.alloc (.cells #[.int .u8 kind] 5) := by
  go_enter Tryz.func105, Tryz.ntmps105
  go_wp2
  go_ret
  exact ⟨rfl, rfl⟩
theorem goes_any (kind : Int) (g : Nat) (w : World) (hg : w.cell? ⟨g, 0, none⟩ = some (.int .u8 kind)) (hgl : g < w.heap.size) (k n : Int) (s : ByteArray) : Calls Tryz.prog 143 #[vl k n s, .pointer (some ⟨g, 0, none⟩)] w fun e w' => e = .returned (.bool (goesB kind ⟨k, n, s⟩)) ∧ Old w w' := by
  have HO := hid ((Old.refl w).alloc (.cells #[.int .u8 k, .int .i64 n, .string s] 26))
  have hq := (HO.out.cell (p := ⟨g, 0, none⟩) hgl).trans hg
  have HT := hid (Three.new w (.int .u8 k) (.int .i64 n) (.string s))
  unfold goesB
  clear hg
  by_cases h : k = kind
  · subst h
    go_enter Tryz.func143, Tryz.ntmps143
    go_wp2_with fail
    go_ret
    exact ⟨by simp, HO.out⟩
  · have e1 : (k == kind) = false := beq_false_of_ne h
    go_enter Tryz.func143, Tryz.ntmps143
    go_wp2_with (first
      | (go_at_call 128; (with_reducible refine (there_any _ _ _ _).mono ?_); rintro e w1 ⟨rfl, o1⟩; have HW1 := hid (HO.out.trans o1); clear o1))
    go_ret
    refine ⟨?_, HW1.out⟩
    simp only [e1, Bool.false_or]
    cases hk : (k == 0) <;> simp_all
theorem goesFor_pr (kind : Int) (g : Nat) (w : World) (hg : w.cell? ⟨g, 0, none⟩ = some (.int .u8 kind)) (hgl : g < w.heap.size) : Pr 143 #[.pointer (some ⟨g, 0, none⟩)] (goesB kind) w :=
  fun W h k n s => goes_any kind g W ((h.cell (p := ⟨g, 0, none⟩) hgl).trans hg) (Nat.lt_of_lt_of_le hgl h.size) k n s
theorem goesNum_any (k n : Int) (s : ByteArray) (w : World) : Calls Tryz.prog 112 #[vl k n s] w fun e w' => e = .returned (.bool (numB ⟨k, n, s⟩)) ∧ Old w w' := by
  have HO := hid ((Old.refl w).alloc (.cells #[.int .u8 k, .int .i64 n, .string s] 26))
  unfold numB
  by_cases h : k = 1
  · subst h
    go_enter Tryz.func112, Tryz.ntmps112
    go_wp2_with fail
    go_ret
    exact ⟨rfl, HO.out⟩
  · by_cases h2 : k = 2
    · subst h2
      go_enter Tryz.func112, Tryz.ntmps112
      go_wp2_with fail
      go_ret
      exact ⟨rfl, HO.out⟩
    · have e1 : (k == 1) = false := beq_false_of_ne h
      have e2 : (k == 2) = false := beq_false_of_ne h2
      go_enter Tryz.func112, Tryz.ntmps112
      go_wp2_with (first
        | (go_at_call 128; (with_reducible refine (there_any _ _ _ _).mono ?_); rintro e w1 ⟨rfl, o1⟩; have HW1 := hid (HO.out.trans o1); clear o1))
      go_ret
      refine ⟨?_, HW1.out⟩
      simp only [e1, e2, Bool.false_or]
      cases hk : (k == 0) <;> simp_all
theorem num_pr (w : World) : Pr 112 #[] numB w := fun W _ k n s => goesNum_any k n s W
theorem there_pr (w : World) : Pr 128 #[] thereB w := fun W _ k n s => there_any k n s W
abbrev tl (a : An) : Ending := .returned (.tuple #[a.v.v, .int .i64 a.e])
theorem whole_any (n e0 : Int) (w : World) : Calls Tryz.prog 129 #[.int .i64 n, .int .i64 e0] w fun e w' => e = tl (wholeA n e0) ∧ Old w w' := by
  unfold wholeA
  by_cases h : e0 = 0
  · subst h
    go_enter Tryz.func129, Tryz.ntmps129
    go_wp2
    exact bodyPost_ret (v := .tuple #[vl 1 n ⟨#[]⟩, .int .i64 0]) (by simp [results, Tryz.results129, go_sem]) rfl ⟨rfl, (Old.refl w).alloc _⟩
  · rw [if_neg h]
    go_enter Tryz.func129, Tryz.ntmps129
    go_wp2
    exact bodyPost_ret (v := .tuple #[vl 0 0 ⟨#[]⟩, .int .i64 e0]) (by simp [results, Tryz.results129, go_sem]) rfl ⟨rfl, (Old.refl w).alloc _⟩
theorem mod_ev (k n : Int) (s : ByteArray) (k' n' : Int) (s' : ByteArray) (w : World) : Calls Tryz.prog 85 #[vl k n s, vl k' n' s'] w fun e w' => e = tl (modA ⟨k, n, s⟩ ⟨k', n', s'⟩) ∧ Old w w' := by
  have HO := hid ((((Old.refl w).alloc (.cells #[.int .u8 k, .int .i64 n, .string s] 26)).alloc (.cells #[.int .u8 k', .int .i64 n', .string s'] 26)).alloc (.cells #[.int .u8 0, .int .i64 0, .string ⟨#[]⟩] 26))
  have HT := hid (Three.new ((w.alloc (.cells #[.int .u8 k, .int .i64 n, .string s] 26)).alloc (.cells #[.int .u8 k', .int .i64 n', .string s'] 26)) (.int .u8 0) (.int .i64 0) (.string ⟨#[]⟩))
  rw [sz_alloc, sz_alloc] at HT
  have main : ∀ (r er : Int), (∀ W, Calls Tryz.prog 130 #[.int .i64 n, .int .i64 n'] W fun e W' => e = .returned (.tuple #[.int .i64 r, .int .i64 er]) ∧ W = W') → Calls Tryz.prog 85 #[vl k n s, vl k' n' s'] w fun e w' => e = tl (wholeA r er) ∧ Old w w' := by
    intro r er hc
    obtain ⟨A, hA⟩ : ∃ A, A = wholeA r er := ⟨_, rfl⟩
    have HW := hid (fun W => whole_any r er W)
    rw [← hA] at HW ⊢
    clear hA
    go_enter Tryz.func85, Tryz.ntmps85
    go_wp2_with (first
      | (go_at_call 130; (with_reducible refine (hc _).mono ?_); rintro e w1 ⟨rfl, rfl⟩)
      | (go_at_call 129; (with_reducible refine (HW.out _).mono ?_); rintro e w1 ⟨rfl, ho1⟩; have T := hid (HT.out.old ho1); have c0 := T.out.c0; have c1 := T.out.c1; have c2 := T.out.c2; have f0 := T.out.f 0; have f1 := T.out.f 1; have f2 := T.out.f 2))
    have R := T.out.set (.int .u8 A.v.k) (.int .i64 A.v.n) (.string A.v.s)
    exact bodyPost_ret (v := .tuple #[A.v.v, .int .i64 A.e]) (by simp [results, Tryz.results85, go_sem, R.c0, R.c1, R.c2]) rfl ⟨rfl, old3 (HO.out.trans ho1) (by omega) _ _ _⟩
  unfold modA
  by_cases h : n' = 0
  · rw [if_pos h]
    subst h
    exact main 0 10 fun W => mod_zero n W
  · rw [if_neg h]
    exact main _ 0 fun W => mod_any n n' W (beq_false_of_ne h) h
theorem length_ev (k n : Int) (s : ByteArray) (w : World) (hs : s.size ≤ 1000000) : Calls Tryz.prog 86 #[vl k n s] w fun e w' => e = tl (lenA ⟨k, n, s⟩) ∧ Old w w' := by
  have HO := hid (((Old.refl w).alloc (.cells #[.int .u8 k, .int .i64 n, .string s] 26)).alloc (.cells #[.int .u8 0, .int .i64 0, .string ⟨#[]⟩] 26))
  have HT := hid (Three.new (w.alloc (.cells #[.int .u8 k, .int .i64 n, .string s] 26)) (.int .u8 0) (.int .i64 0) (.string ⟨#[]⟩))
  rw [sz_alloc] at HT
  unfold lenA
  obtain ⟨A, hA⟩ : ∃ A, A = wholeA s.size 0 := ⟨_, rfl⟩
  have HW := hid (fun W => whole_any s.size 0 W)
  rw [← hA] at HW
  show Calls Tryz.prog 86 #[vl k n s] w fun e w' => e = tl (wholeA s.size 0) ∧ Old w w'
  rw [← hA]
  clear hA
  go_enter Tryz.func86, Tryz.ntmps86
  go_wp2_with (first
    | (go_at_call 129; (with_reducible refine (HW.out _).mono ?_); rintro e w1 ⟨rfl, ho1⟩; have T := hid (HT.out.old ho1); have c0 := T.out.c0; have c1 := T.out.c1; have c2 := T.out.c2; have f0 := T.out.f 0; have f1 := T.out.f 1; have f2 := T.out.f 2))
  have R := T.out.set (.int .u8 A.v.k) (.int .i64 A.v.n) (.string A.v.s)
  exact bodyPost_ret (v := .tuple #[A.v.v, .int .i64 A.e]) (by simp [results, Tryz.results86, go_sem, R.c0, R.c1, R.c2]) rfl ⟨rfl, old3 (HO.out.trans ho1) (by omega) _ _ _⟩
theorem abs_ev (k n : Int) (s : ByteArray) (w : World) (hn : I64 n) : Calls Tryz.prog 80 #[vl k n s] w fun e w' => e = tl (absA ⟨k, n, s⟩) ∧ Old w w' := by
  have HO := hid (((Old.refl w).alloc (.cells #[.int .u8 k, .int .i64 n, .string s] 26)).alloc (.cells #[.int .u8 0, .int .i64 0, .string ⟨#[]⟩] 26))
  have HT := hid (Three.new (w.alloc (.cells #[.int .u8 k, .int .i64 n, .string s] 26)) (.int .u8 0) (.int .i64 0) (.string ⟨#[]⟩))
  have HV := hid ((Three.new w (.int .u8 k) (.int .i64 n) (.string s)).alloc (.cells #[.int .u8 0, .int .i64 0, .string ⟨#[]⟩] 26))
  rw [sz_alloc] at HT
  have HG := fun W => goesNum_any k n s W
  unfold absA
  cases hb : numB ⟨k, n, s⟩ with
  | false =>
    rw [hb] at HG
    show Calls Tryz.prog 80 #[vl k n s] w fun e w' => e = tl (anE 8) ∧ Old w w'
    go_enter Tryz.func80, Tryz.ntmps80
    go_wp2_with (first
      | (go_at_call 112; (with_reducible refine (HG _).mono ?_); rintro e w1 ⟨rfl, ho1⟩; have T := hid (HT.out.old ho1); have c0 := T.out.c0; have c1 := T.out.c1; have c2 := T.out.c2; have f0 := T.out.f 0; have f1 := T.out.f 1; have f2 := T.out.f 2))
    have R := T.out.set (.int .u8 0) (.int .i64 0) (.string ⟨#[]⟩)
    exact bodyPost_ret (v := .tuple #[vl 0 0 ⟨#[]⟩, .int .i64 8]) (by simp [results, Tryz.results80, go_sem, R.c0, R.c1, R.c2]) rfl ⟨rfl, old3 (HO.out.trans ho1) (by omega) _ _ _⟩
  | true =>
    rw [hb] at HG
    by_cases hn0 : n < 0
    · show Calls Tryz.prog 80 #[vl k n s] w fun e w' => e = tl (if n < 0 then negA ⟨k, n, s⟩ else ⟨⟨k, n, s⟩, 0⟩) ∧ Old w w'
      rw [if_pos hn0]
      unfold negA tri
      have HNG := hid (fun W => vneg_any k n s W hn)
      obtain ⟨A, hA⟩ : ∃ A, A = sbT 1 0 k n := ⟨_, rfl⟩
      show Calls Tryz.prog 80 #[vl k n s] w fun e w' => e = tl (an0 (sbT 1 0 k n).1 (sbT 1 0 k n).2.1 ⟨#[]⟩ (sbT 1 0 k n).2.2) ∧ Old w w'
      rw [← hA] at HNG ⊢
      clear hA
      obtain ⟨a1, a2, a3⟩ := A
      go_enter Tryz.func80, Tryz.ntmps80
      go_wp2_with (first
        | (go_at_call 112; (with_reducible refine (HG _).mono ?_); rintro e w1 ⟨rfl, ho1⟩; have T := hid (HT.out.old ho1); have V1 := hid (HV.out.old ho1); have d0 := V1.out.c0; have d1 := V1.out.c1; have d2 := V1.out.c2)
        | (go_at_call 79; (with_reducible refine (HNG.out _).mono ?_); rintro e w2 ⟨rfl, ho2⟩; have T2 := hid (T.out.old ho2); have c0 := T2.out.c0; have c1 := T2.out.c1; have c2 := T2.out.c2; have f0 := T2.out.f 0; have f1 := T2.out.f 1; have f2 := T2.out.f 2))
      have R := T2.out.set (.int .u8 a1) (.int .i64 a2) (.string ⟨#[]⟩)
      exact bodyPost_ret (v := .tuple #[vl a1 a2 ⟨#[]⟩, .int .i64 a3]) (by simp [results, Tryz.results80, go_sem, R.c0, R.c1, R.c2]) rfl ⟨rfl, old3 ((HO.out.trans ho1).trans ho2) (by omega) _ _ _⟩
    · show Calls Tryz.prog 80 #[vl k n s] w fun e w' => e = tl (if n < 0 then negA ⟨k, n, s⟩ else ⟨⟨k, n, s⟩, 0⟩) ∧ Old w w'
      rw [if_neg hn0]
      go_enter Tryz.func80, Tryz.ntmps80
      go_wp2_with (first
        | (go_at_call 112; (with_reducible refine (HG _).mono ?_); rintro e w1 ⟨rfl, ho1⟩; have T := hid (HT.out.old ho1); have V1 := hid (HV.out.old ho1); have d0 := V1.out.c0; have d1 := V1.out.c1; have d2 := V1.out.c2; have c0 := T.out.c0; have c1 := T.out.c1; have c2 := T.out.c2; have f0 := T.out.f 0; have f1 := T.out.f 1; have f2 := T.out.f 2))
      have R := T.out.set (.int .u8 k) (.int .i64 n) (.string s)
      exact bodyPost_ret (v := .tuple #[vl k n s, .int .i64 0]) (by simp [results, Tryz.results80, go_sem, R.c0, R.c1, R.c2]) rfl ⟨rfl, old3 (HO.out.trans ho1) (by omega) _ _ _⟩
end Go.Proofs.YtmkmafkkpigfpaaGreatDoor.V
