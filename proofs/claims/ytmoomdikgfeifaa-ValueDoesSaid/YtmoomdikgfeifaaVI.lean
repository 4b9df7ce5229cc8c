/- Layer value: three truths. -/
import Derived.Test.YtmoomdikgfeifaaVF
namespace Go.Proofs.Ytmoomdikgfeifaa
open Go.ChangeShapes Go.WideShapes Go.ChangeAt Go.RowKit
set_option linter.unusedVariables false

/-- A value without a text. -/
abbrev r1 (k n : Int) : Ending := .returned (vl k n ⟨#[]⟩)
def b01 (b : Bool) : Int := if b then 1 else 0

theorem truth_any (b : Bool) (w : World) : Calls Try.prog 53 #[.bool b] w fun e w' => e = r1 4 (b01 b) ∧ Old w w' := by
  cases b
  · go_enter Try.func53, Try.ntmps53
    go_wp2
    exact bodyPost_ret (v := vl 4 0 ⟨#[]⟩) (by simp [results, Try.results53, go_sem]) rfl ⟨rfl, (Old.refl w).alloc _⟩
  · go_enter Try.func53, Try.ntmps53
    go_wp2
    exact bodyPost_ret (v := vl 4 1 ⟨#[]⟩) (by simp [results, Try.results53, go_sem]) rfl ⟨rfl, (Old.refl w).alloc _⟩

def ntT (k n : Int) : Int × Int := if k = 4 then (4, b01 (n == 0)) else (0, 0)
theorem not_any (k n : Int) (s : ByteArray) (w : World) : Calls Try.prog 22 #[vl k n s] w fun e w' => e = r1 (ntT k n).1 (ntT k n).2 ∧ Old w w' := by
  unfold ntT
  by_cases hk : k = 4
  · subst hk
    rw [if_pos rfl]
    have HO := Lib.hid (((Old.refl w).alloc (.cells #[.int .u8 4, .int .i64 n, .string s] 23)).alloc (.cells #[.int .u8 0, .int .i64 0, .string ⟨#[]⟩] 23))
    have HT := Three.new (w.alloc (.cells #[.int .u8 4, .int .i64 n, .string s] 23)) (.int .u8 0) (.int .i64 0) (.string ⟨#[]⟩)
    rw [sz_alloc] at HT
    have HT := Lib.hid HT
    go_enter Try.func22, Try.ntmps22
    go_wp2_with (first
      | (go_at_call 53; (with_reducible refine (truth_any _ _).mono ?_); rintro e w1 ⟨rfl, ho1⟩; have T := Lib.hid (HT.out.old ho1); have c0 := T.out.c0; have c1 := T.out.c1; have c2 := T.out.c2; have f0 := T.out.f 0; have f1 := T.out.f 1; have f2 := T.out.f 2))
    have R := T.out.set (.int .u8 4) (.int .i64 (b01 (n == 0))) (.string ⟨#[]⟩)
    exact bodyPost_ret (v := vl 4 (b01 (n == 0)) ⟨#[]⟩) (by simp [results, Try.results22, go_sem, R.c0, R.c1, R.c2]) rfl ⟨rfl, old3 (HO.out.trans ho1) (by omega) _ _ _⟩
  · rw [if_neg hk]
    go_enter Try.func22, Try.ntmps22
    go_wp2
    exact bodyPost_ret (v := vl 0 0 ⟨#[]⟩) (by simp [results, Try.results22, go_sem]) rfl ⟨rfl, ((Old.refl w).alloc _).alloc _⟩

/-- unless: one that settles it; all known; else Null. -/
def isS (st : Int) (x : Vl) : Bool := x.k == 4 && x.n == st
def unT (st : Int) (l : List Vl) : Int × Int :=
  if l.any (isS st) = true then (4, b01 (st == 1)) else if l.all (fun x => x.k == 4) = true then (4, b01 (st == 0)) else (0, 0)

theorem un_any (st : Int) (l : List Vl) (v : Value) (w : World) (hl : RV w v l) (hb : l.length ≤ 100000) : Calls Try.prog 54 #[.int .i64 st, v] w fun e w' => e = r1 (unT st l).1 (unT st l).2 ∧ Old w w' := by
  obtain ⟨oa, c, rfl, a1, a2, a3⟩ := hl
  obtain ⟨n, hn⟩ : ∃ n, n = l.length := ⟨_, rfl⟩
  rw [← hn]
  rw [← hn] at a1 hb
  have HN := Lib.hid hn
  have HA := Lib.hid a3
  clear hn a3
  have HT := Lib.hid (Three.new w (.int .u8 0) (.int .i64 0) (.string ⟨#[]⟩))
  go_enter Try.func54, Try.ntmps54
  go_wp2
  go_loopw [5, 10] (fun kn i wr => ∃ k : Nat, k ≤ n ∧ i = .int .i64 (k : Int) ∧ kn = .bool ((l.take k).all (fun x => x.k == 4)) ∧ Hid ((l.take k).any (isS st) = false) ∧ Hid (Three wr w.heap.size (.int .u8 0) (.int .i64 0) (.string ⟨#[]⟩)) ∧ Hid (Old w wr)) (fun _ i _ => (n - intOf i).toNat)
  case atStart =>
    exact ⟨0, Nat.zero_le _, rfl, rfl, Lib.hid rfl, HT, Lib.hid ((Old.refl w).alloc _)⟩
  case round =>
    obtain ⟨k, hk, rfl, rfl, HE, HW, HO⟩ := hrel
    by_cases hkn : k < n
    · have hx : ∃ x, l[k]? = some x := ⟨l[k]'(by rw [← HN.out]; exact hkn), List.getElem?_eq_getElem _⟩
      obtain ⟨x, hx⟩ := hx
      obtain ⟨g, rfl, hgl, c0, c1, c2⟩ := HA.out k x hx
      have d0 := (HO.out.cell hgl).trans c0
      have d1 := (HO.out.cell hgl).trans c1
      have d2 := (HO.out.cell hgl).trans c2
      obtain ⟨xk, xn, xs⟩ := x
      have HX := Lib.hid hx
      clear hx c0 c1 c2
      by_cases h4 : xk = 4
      · subst h4
        by_cases hs : xn = st
        · subst hs
          have HW2 := Lib.hid (HW.out.alloc (.cells #[.int .u8 4, .int .i64 xn, .string xs] 23))
          go_wp2_with (first
            | (go_at_call 53; (with_reducible refine (truth_any _ _).mono ?_); rintro e w1 ⟨rfl, ho1⟩; have T := Lib.hid (HW2.out.old ho1); have c0 := T.out.c0; have c1 := T.out.c1; have c2 := T.out.c2; have f0 := T.out.f 0; have f1 := T.out.f 1; have f2 := T.out.f 2))
          have R := T.out.set (.int .u8 4) (.int .i64 (b01 (xn == 1))) (.string ⟨#[]⟩)
          have e : unT xn l = (4, b01 (xn == 1)) := by
            unfold unT
            rw [if_pos]
            rw [List.any_eq_true]
            exact ⟨_, List.mem_of_getElem? HX.out, by unfold isS; simp⟩
          rw [e]
          exact bodyPost_ret (v := vl 4 (b01 (xn == 1)) ⟨#[]⟩) (by simp [results, Try.results54, go_sem, R.c0, R.c1, R.c2]) rfl ⟨rfl, old3 ((HO.out.alloc _).trans ho1) (Nat.le_refl _) _ _ _⟩
        · have hs' : (xn == st) = false := by simpa using hs
          go_wp2
          refine ⟨⟨k + 1, hkn, rfl, ib ?_, Lib.hid ?_, Lib.hid (HW.out.alloc _), Lib.hid (HO.out.alloc _)⟩, by simp only [intOf]; omega⟩
          · rw [take_more HX.out]; simp [List.all_append]
          · rw [take_more HX.out, List.any_append, HE.out]; simp [isS, hs']
      · have h4' : (xk == 4) = false := by simpa using h4
        go_wp2
        refine ⟨⟨k + 1, hkn, rfl, ib ?_, Lib.hid ?_, Lib.hid (HW.out.alloc _), Lib.hid (HO.out.alloc _)⟩, by simp only [intOf]; omega⟩
        · rw [take_more HX.out]; simp [List.all_append, h4']
        · rw [take_more HX.out, List.any_append, HE.out]; simp [isS, h4']
    · have hkn' : k = n := by omega
      subst hkn'
      have HTk : l.take k = l := by rw [HN.out, List.take_length]
      have HE' := HE.out
      rw [HTk] at HE' ⊢
      have HE' := Lib.hid HE'
      clear HTk HE
      have c0 := HW.out.c0
      have c1 := HW.out.c1
      have c2 := HW.out.c2
      have f0 := HW.out.f 0
      have f1 := HW.out.f 1
      have f2 := HW.out.f 2
      by_cases hall : l.all (fun x => x.k == 4) = true
      · rw [hall]
        have HL := Lib.hid hall
        clear hall
        go_wp2_with (first
          | (go_at_call 53; (with_reducible refine (truth_any _ _).mono ?_); clear c0 c1 c2 f0 f1 f2; rintro e w1 ⟨rfl, ho1⟩; have T := Lib.hid (HW.out.old ho1); have c0 := T.out.c0; have c1 := T.out.c1; have c2 := T.out.c2; have f0 := T.out.f 0; have f1 := T.out.f 1; have f2 := T.out.f 2))
        have R := T.out.set (.int .u8 4) (.int .i64 (b01 (st == 0))) (.string ⟨#[]⟩)
        have e : unT st l = (4, b01 (st == 0)) := by
          unfold unT
          rw [if_neg (by rw [HE'.out]; decide), if_pos HL.out]
        rw [e]
        exact bodyPost_ret (v := vl 4 (b01 (st == 0)) ⟨#[]⟩) (by simp [results, Try.results54, go_sem, R.c0, R.c1, R.c2]) rfl ⟨rfl, old3 (HO.out.trans ho1) (Nat.le_refl _) _ _ _⟩
      · have hall' : l.all (fun x => x.k == 4) = false := by simpa using hall
        rw [hall']
        have HL := Lib.hid hall
        clear hall hall'
        go_wp2
        have R := HW.out.set (.int .u8 0) (.int .i64 0) (.string ⟨#[]⟩)
        have e : unT st l = (0, 0) := by
          unfold unT
          rw [if_neg (by rw [HE'.out]; decide), if_neg HL.out]
        rw [e]
        exact bodyPost_ret (v := vl 0 0 ⟨#[]⟩) (by simp [results, Try.results54, go_sem, R.c0, R.c1, R.c2]) rfl ⟨rfl, old3 HO.out (Nat.le_refl _) _ _ _⟩

end Go.Proofs.Ytmoomdikgfeifaa
