/- Layer value: rows of values, and the kind of what is reckoned with them. -/
import Derived.Test.YtmoomdikgfeifaaVB
namespace Go.Proofs.Ytmoomdikgfeifaa
open Go.ChangeShapes Go.WideShapes Go.ChangeAt Go.RowKit
set_option linter.unusedVariables false

/-- A value: its kind, number and text. -/
structure Vl where
  k : Int
  n : Int
  s : ByteArray
abbrev Vl.v (x : Vl) : Value := vl x.k x.n x.s
/-- The slice v reads as the row l of values. -/
def RV (w : World) (v : Value) (l : List Vl) : Prop :=
  ∃ oa cap, v = .slice oa l.length cap ∧ l.length ≤ cap ∧ cap ≤ maxLen ∧ ∀ j x, l[j]? = some x → ∃ g, oa = some ⟨g, 0, none⟩ ∧ g < w.heap.size ∧ w.cell? ⟨g, j * 3, none⟩ = some (.int .u8 x.k) ∧ w.cell? ⟨g, j * 3 + 1, none⟩ = some (.int .i64 x.n) ∧ w.cell? ⟨g, j * 3 + 2, none⟩ = some (.string x.s)
theorem RV.old {w w' : World} {v : Value} {l : List Vl} (h : RV w v l) (ho : Old w w') : RV w' v l := by
  obtain ⟨oa, cap, rfl, h1, h2, h3⟩ := h
  refine ⟨oa, cap, rfl, h1, h2, fun j x hj => ?_⟩
  obtain ⟨g, rfl, hg, c0, c1, c2⟩ := h3 j x hj
  exact ⟨g, rfl, Nat.lt_of_lt_of_le hg ho.size, (ho.cell hg).trans c0, (ho.cell hg).trans c1, (ho.cell hg).trans c2⟩

/-- Is it a number, or Null? -/
def okK (k : Int) : Bool := k == 0 || k == 1 || k == 2
def kdE (l : List Vl) : Int := if l.all (fun x => okK x.k) then 0 else 8
def kdV (l : List Vl) : Int := if l.all (fun x => okK x.k) then (if l.length = 0 ∨ l.any (fun x => x.k == 0) = true then 0 else if l.any (fun x => x.k == 2) = true then 2 else 1) else 0
/-- The kind so far, and whether one was Null. -/
def kd0 (l : List Vl) : Int := if l.any (fun x => x.k == 2) = true then 2 else 1
def nl0 (n : Nat) (l : List Vl) : Bool := n == 0 || l.any (fun x => x.k == 0)

abbrev kp (k e : Int) : Ending := .returned (.tuple #[.int .u8 k, .int .i64 e])

theorem take_more {l : List Vl} {k : Nat} {x : Vl} (h : l[k]? = some x) : l.take (k + 1) = l.take k ++ [x] := by
  rw [List.take_add_one, h]
  rfl
theorem kd_0 {l : List Vl} {x : Vl} (h : (x.k == 2) = false) : kd0 (l ++ [x]) = kd0 l := by
  unfold kd0
  simp [List.any_append, h]
theorem kd_2 {l : List Vl} {x : Vl} (h : (x.k == 2) = true) : kd0 (l ++ [x]) = 2 := by
  unfold kd0
  simp [List.any_append, h]
theorem nl_0 {n : Nat} {l : List Vl} {x : Vl} (h : (x.k == 0) = true) : nl0 n (l ++ [x]) = true := by
  unfold nl0
  simp [List.any_append, h]
theorem nl_1 {n : Nat} {l : List Vl} {x : Vl} (h : (x.k == 0) = false) : nl0 n (l ++ [x]) = nl0 n l := by
  unfold nl0
  simp [List.any_append, h]
theorem ok_more {l : List Vl} {x : Vl} (h : l.all (fun x => okK x.k) = true) (hx : okK x.k = true) : (l ++ [x]).all (fun x => okK x.k) = true := by
  simp [List.all_append, h, hx]
theorem ok_not {l : List Vl} {k : Nat} {x : Vl} (h : l[k]? = some x) (hx : okK x.k = false) : l.all (fun x => okK x.k) = false := by
  rw [List.all_eq_false]
  exact ⟨x, List.mem_of_getElem? h, by rw [hx]; decide⟩
theorem rkp {a b c d : Int} (h1 : a = c) (h2 : b = d) : kp a b = kp c d := by rw [h1, h2]
theorem iu8 {a b : Int} (h : a = b) : Value.int .u8 a = Value.int .u8 b := by rw [h]
theorem ib {a b : Bool} (h : a = b) : Value.bool a = Value.bool b := by rw [h]
theorem eq_of_beq' {a b : Int} (h : (a == b) = true) : a = b := by simpa using h

theorem kind_any (l : List Vl) (v : Value) (w : World) (hl : RV w v l) (hb : l.length ≤ 100000) : Calls Try.prog 61 #[v] w fun e w' => e = kp (kdV l) (kdE l) ∧ Old w w' := by
  obtain ⟨oa, c, rfl, a1, a2, a3⟩ := hl
  obtain ⟨n, hn⟩ : ∃ n, n = l.length := ⟨_, rfl⟩
  rw [← hn]
  rw [← hn] at a1 hb
  have HN := Lib.hid hn
  have HA := Lib.hid a3
  clear hn a3
  go_enter Try.func61, Try.ntmps61
  go_wp2
  go_loopw [4, 5, 13] (fun kd nu i wr => ∃ k : Nat, k ≤ n ∧ i = .int .i64 (k : Int) ∧ kd = .int .u8 (kd0 (l.take k)) ∧ nu = .bool (nl0 n (l.take k)) ∧ Hid ((l.take k).all (fun x => okK x.k) = true) ∧ Hid (Old w wr)) (fun _ _ i _ => (n - intOf i).toNat)
  case atStart => 
    refine ⟨0, Nat.zero_le _, rfl, rfl, ib ?_, Lib.hid rfl, Lib.hid (Old.refl w)⟩
    unfold nl0
    rw [List.take_zero, List.any_nil, Bool.or_false]
    cases n <;> rfl
  case round =>
    obtain ⟨k, hk, rfl, rfl, rfl, HE, HO⟩ := hrel
    by_cases hkn : k < n
    · have hx : ∃ x, l[k]? = some x := ⟨l[k]'(by rw [← HN.out]; exact hkn), List.getElem?_eq_getElem _⟩
      obtain ⟨x, hx⟩ := hx
      obtain ⟨g, rfl, hgl, c0, c1, c2⟩ := HA.out k x hx
      have d0 := (HO.out.cell hgl).trans c0
      have d1 := (HO.out.cell hgl).trans c1
      have d2 := (HO.out.cell hgl).trans c2
      obtain ⟨xk, xn, xs⟩ := x
      have HX := Lib.hid hx
      clear hx c0 c1 c2
      go_wp2
      · have e := eq_of_beq' ‹(xk == 0) = true›
        refine ⟨⟨k + 1, hkn, rfl, iu8 ?_, ib ?_, Lib.hid ?_, Lib.hid (HO.out.alloc _)⟩, by simp only [intOf]; omega⟩
        · rw [take_more HX.out, kd_0 (by rw [e]; rfl)]
        · rw [take_more HX.out, nl_0 (by rw [e]; rfl)]
        · rw [take_more HX.out]; exact ok_more HE.out (by rw [e]; rfl)
      · have e := eq_of_beq' ‹(xk == 1) = true›
        refine ⟨⟨k + 1, hkn, rfl, iu8 ?_, ib ?_, Lib.hid ?_, Lib.hid (HO.out.alloc _)⟩, by simp only [intOf]; omega⟩
        · rw [take_more HX.out, kd_0 (by rw [e]; rfl)]
        · rw [take_more HX.out, nl_1 (by rw [e]; rfl)]
        · rw [take_more HX.out]; exact ok_more HE.out (by rw [e]; rfl)
      · have e := eq_of_beq' ‹(xk == 2) = true›
        refine ⟨⟨k + 1, hkn, rfl, iu8 ?_, ib ?_, Lib.hid ?_, Lib.hid (HO.out.alloc _)⟩, by simp only [intOf]; omega⟩
        · rw [take_more HX.out, kd_2 (by rw [e]; rfl)]
        · rw [take_more HX.out, nl_1 (by rw [e]; rfl)]
        · rw [take_more HX.out]; exact ok_more HE.out (by rw [e]; rfl)
      · have e : okK xk = false := by unfold okK; rw [‹(xk == 0) = false›, ‹(xk == 1) = false›, ‹(xk == 2) = false›]; rfl
        have hno := ok_not HX.out e
        go_ret2
        refine ⟨rkp ?_ ?_, HO.out.alloc _⟩
        · unfold kdV; rw [hno]; rfl
        · unfold kdE; rw [hno]; rfl
    · have hkn' : k = n := by omega
      subst hkn'
      have HT : l.take k = l := by rw [HN.out, List.take_length]
      have HE' := HE.out
      rw [HT] at HE' ⊢
      have HE' := Lib.hid HE'
      clear HT
      go_wp2
      · have h := ‹nl0 k l = true›
        go_ret2
        refine ⟨rkp ?_ ?_, HO.out⟩
        · unfold kdV
          unfold nl0 at h
          rw [if_pos HE'.out, if_pos]
          have := HN.out
          simpa [← this] using h
        · unfold kdE; rw [if_pos HE'.out]
      · have h := ‹nl0 k l = false›
        go_ret2
        refine ⟨rkp ?_ ?_, HO.out⟩
        · unfold kdV kd0
          unfold nl0 at h
          have hh : ¬ (l.length = 0 ∨ l.any (fun x => x.k == 0) = true) := by
            have := HN.out
            rw [← this]
            rw [Bool.or_eq_false_iff] at h
            rintro (h1 | h1)
            · rw [h1] at h; exact absurd h.1 (by decide)
            · rw [h1] at h; exact absurd h.2 (by decide)
          rw [if_pos HE'.out, if_neg hh]
        · unfold kdE; rw [if_pos HE'.out]

end Go.Proofs.Ytmoomdikgfeifaa
