/- The document's own numbers: sums, differences and their order, of whole numbers. -/
import Derived.Test.YtcedcfkjoppjdaaGreatDoorRG
namespace Go.Proofs.YtcedcfkjoppjdaaGreatDoor
open Go.ChangeShapes Go.WideShapes Go.ChangeAt Go.RowKit
set_option linter.unusedVariables false

theorem val_up (a b : Nat) : val (upL (dig a) (dig b)) = (a : Int) + b := by rw [upL_val (dig_dg a) (dig_dg b), dig_val, dig_val]
theorem dig_mono {a b : Nat} (h : a ≤ b) : (dig a).length ≤ (dig b).length := by
  rcases Nat.lt_or_ge (dig b).length (dig a).length with h1 | h1
  · have := len_lt (dig_dg b) (dig_dg a) (dig_can a) h1
    rw [dig_val, dig_val] at this
    omega
  · exact h1
theorem val_dn (a b : Nat) (h : b ≤ a) : val (dnL (dig a) (dig b)) = (a : Int) - b := by rw [dnL_val (dig_dg a) (dig_dg b) (dig_mono h) (by rw [dig_val, dig_val]; omega), dig_val, dig_val]

theorem addI (a b : Int) (x y : Value) (w : World) (hx : RN w x a) (hy : RN w y b) (sa : Sm 900 a) (sb : Sm 900 b) : Calls Tryz.prog 76 #[x, y] w (RetI w (a + b)) := by
  obtain ⟨va, rfl, ra⟩ := hx
  obtain ⟨vb, rfl, rb⟩ := hy
  unfold Sm at sa sb
  have hl := upL_len (dig a.natAbs) (dig b.natAbs)
  have hv := val_up a.natAbs b.natAbs
  by_cases hs : decide (a < 0) = decide (b < 0)
  · have hs' : (a < 0 ↔ b < 0) := by simpa using hs
    rw [← hs]
    have h := add_same (decide (a < 0)) va vb w (dig a.natAbs) (dig b.natAbs) (upL (dig a.natAbs) (dig b.natAbs)) _ _ ra rb
      (fun W h1 h2 => up_any _ _ va vb W h1 h2 (dig_dg _) (dig_dg _) (by omega) (by omega))
      (fun v W h => trim_any _ _ v W h (upL_dg (dig_dg _) (dig_dg _)) (by omega))
    refine h.mono fun _ _ h => retI_of h ?_ ?_
    · rw [hv, Bool.eq_iff_iff, Bool.and_eq_true, decide_eq_true_iff, decide_eq_true_iff, decide_eq_true_iff]; omega
    · rw [hv]
      congr 1
      omega
  · have hne : (decide (a < 0) == decide (b < 0)) = false := by simpa using hs
    have hs' : ¬ (a < 0 ↔ b < 0) := by simpa using hs
    clear hs
    have hby := fun W h1 h2 => by_any (dig a.natAbs) (dig b.natAbs) va vb W h1 h2 (dig_dg _) (dig_dg _) (dig_can _) (dig_can _) (by omega) (by omega)
    by_cases hc : b.natAbs ≤ a.natAbs
    · have hv := val_dn a.natAbs b.natAbs hc
      have h := add_ge (decide (a < 0)) (decide (b < 0)) va vb w (dig a.natAbs) (dig b.natAbs) (dnL (dig a.natAbs) (dig b.natAbs)) _ _ ra rb hne _ _ hby (by rw [dig_val, dig_val]; omega)
        (fun W h1 h2 => down_any _ _ va vb W h1 h2 (dig_dg _) (dig_dg _) (by omega) (by omega))
        (fun v W h => trim_any _ _ v W h (dnL_dg (dig_dg _) (dig_dg _)) (by rw [dnL_len]; omega))
      refine h.mono fun _ _ h => retI_of h ?_ ?_
      · rw [hv, Bool.eq_iff_iff, Bool.and_eq_true, decide_eq_true_iff, decide_eq_true_iff, decide_eq_true_iff]; omega
      · rw [hv]
        congr 1
        omega
    · have hv := val_dn b.natAbs a.natAbs (by omega)
      have h := add_lt (decide (a < 0)) (decide (b < 0)) va vb w (dig a.natAbs) (dig b.natAbs) (dnL (dig b.natAbs) (dig a.natAbs)) _ _ ra rb hne _ _ hby (by rw [dig_val, dig_val]; omega)
        (fun W h1 h2 => down_any _ _ vb va W h2 h1 (dig_dg _) (dig_dg _) (by omega) (by omega))
        (fun v W h => trim_any _ _ v W h (dnL_dg (dig_dg _) (dig_dg _)) (by rw [dnL_len]; omega))
      refine h.mono fun _ _ h => retI_of h ?_ ?_
      · rw [hv, Bool.eq_iff_iff, Bool.and_eq_true, decide_eq_true_iff, decide_eq_true_iff, decide_eq_true_iff]; omega
      · rw [hv]
        congr 1
        omega

set_option maxHeartbeats 1600000 in
set_option maxRecDepth 100000 in
theorem neg_walk (na : Bool) (va : Value) (w : World) (da ds : List Int) (sg : Bool) (ha : Rd w va da)
    (htr : ∀ W, Rd W va da → Calls Tryz.prog 50 #[.bool (!na), va] W (RetN W sg ds)) :
    Calls Tryz.prog 77 #[.agg #[.bool na, va]] w (RetN w sg ds) := by
  obtain ⟨oa, ca, rfl, _⟩ := id ha
  obtain ⟨n, hn⟩ : ∃ n, n = da.length := ⟨_, rfl⟩
  rw [← hn] at ha htr ⊢
  clear hn
  have h1 := (Two.new w (.bool na) (.slice oa n ca)).alloc (.cells #[.bool false, .slice none 0 0] 40)
  have h2 := Two.new (w.alloc (.cells #[.bool na, .slice oa n ca] 40)) (.bool false) (.slice none 0 0)
  rw [show (w.alloc (.cells #[.bool na, .slice oa n ca] 40)).heap.size = w.heap.size + 1 by simp] at h2
  have HO := Lib.hid (((Old.refl w).alloc (.cells #[.bool na, .slice oa n ca] 40)).alloc (.cells #[.bool false, .slice none 0 0] 40))
  go_enter Tryz.func77, Tryz.ntmps77
  go_wp2_with fail
  generalize hW : (w.alloc (.cells #[.bool na, .slice oa n ca] 40)).alloc (.cells #[.bool false, .slice none 0 0] 40) = W at *
  clear hW
  refine (htr _ (ha.old HO.out)).mono ?_
  rintro e w2 ⟨v2, rfl, hr2, ho2⟩
  obtain ⟨o2, c2', rfl, _⟩ := id hr2
  have S3 := Lib.hid (h2.old ho2)
  have O3 := Lib.hid (HO.out.trans ho2)
  have R3 := Lib.hid hr2
  have e3 := S3.out.c0
  have e4 := S3.out.c1
  have e5 := S3.out.f 0
  have e6 := S3.out.f 1
  clear hr2 ho2 h1 h2
  go_wp2
  have ht := Two.set S3.out (.bool sg) (.slice o2 ds.length c2')
  exact bodyPost_ret (v := .agg #[.bool sg, .slice o2 ds.length c2']) (by simp [results, Tryz.results77, go_sem, ht.c0, ht.c1]) rfl (ret_two S3.out (by omega) O3.out R3.out)

theorem negI (a : Int) (x : Value) (w : World) (hx : RN w x a) (sa : Sm 900 a) : Calls Tryz.prog 77 #[x] w (RetI w (-a)) := by
  obtain ⟨va, rfl, ra⟩ := hx
  unfold Sm at sa
  have h := neg_walk (decide (a < 0)) va w (dig a.natAbs) _ _ ra (fun W h => trim_any _ _ va W h (dig_dg _) (by omega))
  refine h.mono fun _ _ h => retI_of h ?_ ?_
  · rw [dig_val, Bool.eq_iff_iff, Bool.and_eq_true, Bool.not_eq_true', decide_eq_false_iff_not, decide_eq_true_iff, decide_eq_true_iff]; omega
  · rw [dig_val]
    congr 1
    omega

set_option maxHeartbeats 1600000 in
set_option maxRecDepth 100000 in
theorem sub_walk (na nb : Bool) (oa ob : Option Addr) (la ca lb cb : Nat) (w : World) (a b c n : Int) (hx : RN w (.agg #[.bool na, .slice oa la ca]) a) (hy : RN w (.agg #[.bool nb, .slice ob lb cb]) b)
    (hng : ∀ W, RN W (.agg #[.bool nb, .slice ob lb cb]) b → Calls Tryz.prog 77 #[.agg #[.bool nb, .slice ob lb cb]] W (RetI W c))
    (had : ∀ W z, RN W (.agg #[.bool na, .slice oa la ca]) a → RN W z c → Calls Tryz.prog 76 #[.agg #[.bool na, .slice oa la ca], z] W (RetI W n)) :
    Calls Tryz.prog 53 #[.agg #[.bool na, .slice oa la ca], .agg #[.bool nb, .slice ob lb cb]] w (RetI w n) := by
  have hS := Six.new w (.bool na) (.slice oa la ca) (.bool nb) (.slice ob lb cb)
  have HO := Lib.hid ((((Old.refl w).alloc (.cells #[.bool na, .slice oa la ca] 40)).alloc (.cells #[.bool nb, .slice ob lb cb] 40)).alloc (.cells #[.bool false, .slice none 0 0] 40))
  go_enter Tryz.func53, Tryz.ntmps53
  go_wp2_with fail
  generalize hW : ((w.alloc (.cells #[.bool na, .slice oa la ca] 40)).alloc (.cells #[.bool nb, .slice ob lb cb] 40)).alloc (.cells #[.bool false, .slice none 0 0] 40) = W at *
  clear hW
  have ra := Lib.hid (hx.old HO.out)
  have rb := Lib.hid (hy.old HO.out)
  have c0 := hS.t0.c0
  have c1 := hS.t0.c1
  have c2 := hS.t1.c0
  have c3 := hS.t1.c1
  have S1 := Lib.hid hS
  clear hS
  go_region_held3 (fun w' => w'.cell? ⟨w.heap.size, 0, none⟩ = some (.bool na) ∧ w'.cell? ⟨w.heap.size, 1, none⟩ = some (.slice oa la ca) ∧ w'.cell? ⟨w.heap.size + 1, 0, none⟩ = some (.bool nb) ∧ w'.cell? ⟨w.heap.size + 1, 1, none⟩ = some (.slice ob lb cb))
    (first | exact ⟨c0, c1, c2, c3⟩ | exact ⟨d0, d1, d2, d3⟩ | exact ⟨e0, e1, e2, e9⟩ | exact ⟨cell_far e0 (by omega) _ _, cell_far e1 (by omega) _ _, cell_far e2 (by omega) _ _, cell_far e9 (by omega) _ _⟩ | go_keep)
    (first
      | (go_at_call 77; refine (hng _ ?_).mono ?_; exact rb.out.old (Old.refl _).drew; rintro e w1 ⟨v1, rfl, hr1, ho1⟩; have S2 := Lib.hid (S1.out.old ((Old.refl _).drew.trans ho1)); have d0 := S2.out.t0.c0; have d1 := S2.out.t0.c1; have d2 := S2.out.t1.c0; have d3 := S2.out.t1.c1)
      | (go_at_call 76; refine (had _ _ ?_ hr1).mono ?_; exact ra.out.old ((Old.refl _).drew.trans ho1); rintro e w2 ⟨v2, rfl, ⟨v3, rfl, hr2⟩, ho2⟩; obtain ⟨o2, c2', rfl, _⟩ := id hr2; have S3 := Lib.hid (S2.out.old ho2); have O3 := Lib.hid (HO.out.drew.trans (ho1.trans ho2)); have R3 := Lib.hid hr2; have e0 := S3.out.t0.c0; have e1 := S3.out.t0.c1; have e2 := S3.out.t1.c0; have e9 := S3.out.t1.c1; have e3 := S3.out.t2.c0; have e4 := S3.out.t2.c1; have e5 := S3.out.t2.f 0; have e6 := S3.out.t2.f 1; clear hr1 hr2 ho1 ho2 d0 d1 d2 d3))
  all_goals go_wp2
  all_goals (have ht := S3.out.t2.set (.bool (decide (n < 0))) (.slice o2 (dig n.natAbs).length c2'); exact bodyPost_ret (v := .agg #[.bool (decide (n < 0)), .slice o2 (dig n.natAbs).length c2']) (by simp [results, Tryz.results53, go_sem, ht.c0, ht.c1]) rfl (retI_of (ret_six S3.out (by omega) O3.out R3.out) rfl rfl))

theorem RN.form {w : World} {x : Value} {n : Int} (h : RN w x n) : ∃ na oa la ca, x = .agg #[.bool na, .slice oa la ca] := by
  obtain ⟨v, rfl, hr⟩ := h
  obtain ⟨oa, ca, rfl, _⟩ := hr
  exact ⟨_, _, _, _, rfl⟩
theorem subI (a b : Int) (x y : Value) (w : World) (hx : RN w x a) (hy : RN w y b) (sa : Sm 900 a) (sb : Sm 900 b) : Calls Tryz.prog 53 #[x, y] w (RetI w (a - b)) := by
  obtain ⟨na, oa, la, ca, rfl⟩ := hx.form
  obtain ⟨nb, ob, lb, cb, rfl⟩ := hy.form
  exact sub_walk na nb oa ob la ca lb cb w a b (-b) (a - b) hx hy (fun W h => negI b _ W h sb) (fun W z h1 h2 => addI a (-b) _ z W h1 h2 sa (by unfold Sm at *; rw [Int.natAbs_neg]; exact sb))

/-- It returns -1, 0 or 1: on which side of 0 x less y is. -/
def RetS (w : World) (x y : Int) (e : Ending) (w' : World) : Prop := ∃ r : Int, e = .returned (.int .i64 r) ∧ ((r = -1 ∧ x < y) ∨ (r = 0 ∧ x = y) ∨ (r = 1 ∧ y < x)) ∧ Old w w'

set_option maxHeartbeats 1600000 in
set_option maxRecDepth 100000 in
theorem cmp_walk (na nb : Bool) (oa ob : Option Addr) (la ca lb cb : Nat) (w : World) (a b : Int) (hx : RN w (.agg #[.bool na, .slice oa la ca]) a) (hy : RN w (.agg #[.bool nb, .slice ob lb cb]) b)
    (hsb : ∀ W, RN W (.agg #[.bool na, .slice oa la ca]) a → RN W (.agg #[.bool nb, .slice ob lb cb]) b → Calls Tryz.prog 53 #[.agg #[.bool na, .slice oa la ca], .agg #[.bool nb, .slice ob lb cb]] W (RetI W (a - b))) (sd : Sm 900 (a - b)) :
    Calls Tryz.prog 51 #[.agg #[.bool na, .slice oa la ca], .agg #[.bool nb, .slice ob lb cb]] w (RetS w a b) := by
  have HO := Lib.hid ((((Old.refl w).alloc (.cells #[.bool na, .slice oa la ca] 40)).alloc (.cells #[.bool nb, .slice ob lb cb] 40)))
  go_enter Tryz.func51, Tryz.ntmps51
  go_wp2_with fail
  generalize hW : ((w.alloc (.cells #[.bool na, .slice oa la ca] 40)).alloc (.cells #[.bool nb, .slice ob lb cb] 40)) = W at *
  clear hW
  refine (hsb _ (hx.old HO.out) (hy.old HO.out)).mono ?_
  rintro e w1 ⟨v1, rfl, ⟨v2, rfl, hr1⟩, ho1⟩
  obtain ⟨o2, c2', rfl, _⟩ := id hr1
  have hl : (dig (a - b).natAbs).length = 0 ↔ a = b := by
    rw [List.length_eq_zero_iff, dig_nil]; omega
  unfold Sm at sd
  obtain ⟨n, hn⟩ : ∃ n, n = (dig (a - b).natAbs).length := ⟨_, rfl⟩
  rw [← hn] at hl sd ⊢
  have HL := Lib.hid hl
  have O2 := Lib.hid (HO.out.trans ho1)
  clear hl hr1 ho1 hn hx hy hsb
  by_cases h1 : a - b < 0
  · have hd : decide (a - b < 0) = true := by simpa using h1
    rw [hd]
    go_wp2
    go_ret
    exact ⟨_, rfl, Or.inl ⟨rfl, by omega⟩, O2.out.alloc _⟩
  · have hd : decide (a - b < 0) = false := by simpa using h1
    rw [hd]
    by_cases h2 : n = 0
    · have hab := HL.out.1 h2
      have HAB := Lib.hid hab
      subst h2
      clear hab h1 hd
      go_wp2
      go_ret
      exact ⟨_, rfl, Or.inr (Or.inl ⟨rfl, HAB.out⟩), O2.out.alloc _⟩
    · have hab : b < a := by have := HL.out; omega
      have hp : 0 < n := by omega
      clear h1 hd
      go_wp2
      go_ret
      exact ⟨_, rfl, Or.inr (Or.inr ⟨rfl, hab⟩), O2.out.alloc _⟩

theorem cmpI (a b : Int) (x y : Value) (w : World) (hx : RN w x a) (hy : RN w y b) (sa : Sm 900 a) (sb : Sm 900 b) (sd : Sm 900 (a - b)) : Calls Tryz.prog 51 #[x, y] w (RetS w a b) := by
  obtain ⟨na, oa, la, ca, rfl⟩ := hx.form
  obtain ⟨nb, ob, lb, cb, rfl⟩ := hy.form
  exact cmp_walk na nb oa ob la ca lb cb w a b hx hy (fun W h1 h2 => subI a b _ _ W h1 h2 sa sb) sd

end Go.Proofs.YtcedcfkjoppjdaaGreatDoor
