/- The document's own numbers: sums, differences, order. -/
import Derived.Test.YtcedcfkjoppjdaaGreatDoorRB
import Derived.Test.YtcedcfkjoppjdaaGreatDoorRD
import Derived.Test.YtcedcfkjoppjdaaGreatDoorRE
import Derived.Test.YtcedcfkjoppjdaaGreatDoorRF
import Derived.Deep.RegionHeld3
namespace Go.Proofs.YtcedcfkjoppjdaaGreatDoor
open Go.ChangeShapes Go.WideShapes Go.ChangeAt Go.RowKit
set_option linter.unusedVariables false

/-- The value x reads as the whole number n. -/
def RN (w : World) (x : Value) (n : Int) : Prop := ∃ v, x = .agg #[.bool (decide (n < 0)), v] ∧ Rd w v (dig n.natAbs)
theorem RN.old {w w' : World} {x : Value} {n : Int} (h : RN w x n) (ho : Old w w') : RN w' x n := by
  obtain ⟨v, rfl, hr⟩ := h; exact ⟨v, rfl, hr.old ho⟩
def RetI (w : World) (n : Int) (e : Ending) (w' : World) : Prop := ∃ x, e = .returned x ∧ RN w' x n ∧ Old w w'
theorem retI_of {w w' : World} {e : Ending} {n : Int} {neg : Bool} {ds : List Int} (h : RetN w neg ds e w') (hn : neg = decide (n < 0)) (hd : ds = dig n.natAbs) : RetI w n e w' := by
  obtain ⟨v, rfl, hr, ho⟩ := h
  subst hn hd
  exact ⟨_, rfl, ⟨v, rfl, hr⟩, ho⟩
theorem ofI (n : Int) (w : World) (h : I64 n) : Calls Tryz.prog 16 #[.int .i64 n] w (RetI w n) := (of_any n w h).mono fun _ _ h => retI_of h rfl rfl

/-- A length that may be. -/
def Sm (k : Nat) (n : Int) : Prop := (dig n.natAbs).length ≤ k

/-- The six cells of two boxed numbers and of the result. -/
structure Six (w : World) (B : Nat) (u0 v0 u1 v1 : Value) : Prop where
  t0 : Two w B u0 v0
  t1 : Two w (B + 1) u1 v1
  t2 : Two w (B + 1 + 1) (.bool false) (.slice none 0 0)
theorem Six.old {w w' : World} {B : Nat} {u0 v0 u1 v1 : Value} (h : Six w B u0 v0 u1 v1) (ho : Old w w') : Six w' B u0 v0 u1 v1 := ⟨h.t0.old ho, h.t1.old ho, h.t2.old ho⟩
theorem Six.new (w : World) (u0 v0 u1 v1 : Value) : Six (((w.alloc (.cells #[u0, v0] 40)).alloc (.cells #[u1, v1] 40)).alloc (.cells #[.bool false, .slice none 0 0] 40)) w.heap.size u0 v0 u1 v1 := by
  refine ⟨((Two.new _ _ _).alloc _).alloc _, ?_, ?_⟩
  · have := (Two.new (w.alloc (.cells #[u0, v0] 40)) u1 v1).alloc (.cells #[.bool false, .slice none 0 0] 40)
    simpa using this
  · have := Two.new ((w.alloc (.cells #[u0, v0] 40)).alloc (.cells #[u1, v1] 40)) (.bool false) (.slice none 0 0)
    simpa using this

theorem cell_far {w2 : World} {B b o : Nat} {x : Value} (h : w2.cell? ⟨b, o, none⟩ = some x) (hne : ¬ b = B) (u v : Value) : ((w2.setCell ⟨B, 0, none⟩ u).setCell ⟨B, 1, none⟩ v).cell? ⟨b, o, none⟩ = some x := by
  rw [World.cell?_setCell_other _ _ _ _ (by intro e; exact hne (congrArg Addr.block e).symm), World.cell?_setCell_other _ _ _ _ (by intro e; exact hne (congrArg Addr.block e).symm)]
  exact h
theorem ret_six {W w2 : World} {B : Nat} {u0 v0 u1 v1 : Value} (h : Six w2 B u0 v0 u1 v1) (hb : W.heap.size ≤ B + 1 + 1) (ho : Old W w2) {neg : Bool} {v : Value} {ds : List Int} (hr : Rd w2 v ds) :
    RetN W neg ds (.returned (.agg #[.bool neg, v])) ((w2.setCell ⟨B + 1 + 1, 0, none⟩ (.bool neg)).setCell ⟨B + 1 + 1, 1, none⟩ v) := ret_two h.t2 hb ho hr

set_option maxHeartbeats 1600000 in
set_option maxRecDepth 100000 in
/-- The way of Add on which both signs are the same. -/
theorem add_same (na : Bool) (va vb : Value) (w : World) (da db l ds : List Int) (sg : Bool) (ha : Rd w va da) (hb : Rd w vb db)
    (hup : ∀ W, Rd W va da → Rd W vb db → Calls Tryz.prog 75 #[va, vb] W (RetD W l)) (htr : ∀ v W, Rd W v l → Calls Tryz.prog 50 #[.bool na, v] W (RetN W sg ds)) :
    Calls Tryz.prog 76 #[.agg #[.bool na, va], .agg #[.bool na, vb]] w (RetN w sg ds) := by
  obtain ⟨oa, ca, rfl, _⟩ := id ha
  obtain ⟨ob, cb, rfl, _⟩ := id hb
  obtain ⟨n, hn⟩ : ∃ n, n = da.length := ⟨_, rfl⟩
  obtain ⟨m, hm⟩ : ∃ m, m = db.length := ⟨_, rfl⟩
  rw [← hn] at ha hup ⊢
  rw [← hm] at hb hup ⊢
  clear hn hm
  have hS := Six.new w (.bool na) (.slice oa n ca) (.bool na) (.slice ob m cb)
  have HO := Lib.hid ((((Old.refl w).alloc (.cells #[.bool na, .slice oa n ca] 40)).alloc (.cells #[.bool na, .slice ob m cb] 40)).alloc (.cells #[.bool false, .slice none 0 0] 40))
  have hse : (na == na) = true := by simp
  go_enter Tryz.func76, Tryz.ntmps76
  go_wp2_with fail
  generalize hW : ((w.alloc (.cells #[.bool na, .slice oa n ca] 40)).alloc (.cells #[.bool na, .slice ob m cb] 40)).alloc (.cells #[.bool false, .slice none 0 0] 40) = W at *
  clear hW
  have ra := Lib.hid (ha.old HO.out)
  have rb := Lib.hid (hb.old HO.out)
  have c0 := hS.t0.c0
  have c1 := hS.t0.c1
  have c2 := hS.t1.c1
  have S1 := Lib.hid hS
  clear hS
  go_region_held3 (fun w' => w'.cell? ⟨w.heap.size, 0, none⟩ = some (.bool na) ∧ w'.cell? ⟨w.heap.size, 1, none⟩ = some (.slice oa n ca) ∧ w'.cell? ⟨w.heap.size + 1, 1, none⟩ = some (.slice ob m cb))
    (first | exact ⟨c0, c1, c2⟩ | exact ⟨d0, d1, d2⟩ | exact ⟨e0, e1, e2⟩ | exact ⟨cell_far e0 (by omega) _ _, cell_far e1 (by omega) _ _, cell_far e2 (by omega) _ _⟩ | go_keep)
    (first
      | (go_at_call 75; refine (hup _ ?_ ?_).mono ?_; exact ra.out.old (Old.refl _).drew; exact rb.out.old (Old.refl _).drew; rintro e w1 ⟨v1, rfl, hr1, ho1⟩; have S2 := Lib.hid (S1.out.old ((Old.refl _).drew.trans ho1)); have d0 := S2.out.t0.c0; have d1 := S2.out.t0.c1; have d2 := S2.out.t1.c1)
      | (go_at_call 50; refine (htr _ _ hr1).mono ?_; rintro e w2 ⟨v2, rfl, hr2, ho2⟩; obtain ⟨o2, c2', rfl, _⟩ := id hr2; have S3 := Lib.hid (S2.out.old ho2); have O3 := Lib.hid (HO.out.drew.trans (ho1.trans ho2)); have R3 := Lib.hid hr2; have e0 := S3.out.t0.c0; have e1 := S3.out.t0.c1; have e2 := S3.out.t1.c1; have e3 := S3.out.t2.c0; have e4 := S3.out.t2.c1; have e5 := S3.out.t2.f 0; have e6 := S3.out.t2.f 1; clear hr1 hr2 ho1 ho2 d0 d1 d2))
  all_goals go_wp2
  all_goals (have ht := S3.out.t2.set (.bool sg) (.slice o2 ds.length c2'); exact bodyPost_ret (v := .agg #[.bool sg, .slice o2 ds.length c2']) (by simp [results, Tryz.results76, go_sem, ht.c0, ht.c1]) rfl (ret_six S3.out (by omega) O3.out R3.out))

set_option maxHeartbeats 1600000 in
set_option maxRecDepth 100000 in
/-- The way on which the signs differ, and the first one is not the less. -/
theorem add_ge (na nb : Bool) (va vb : Value) (w : World) (da db l ds : List Int) (sg : Bool) (ha : Rd w va da) (hb : Rd w vb db) (hne : (na == nb) = false) (x y : Int) (hby : ∀ W, Rd W va da → Rd W vb db → Calls Tryz.prog 94 #[va, vb] W (RetC W x y)) (hxy : y ≤ x)
    (hup : ∀ W, Rd W va da → Rd W vb db → Calls Tryz.prog 95 #[va, vb] W (RetD W l)) (htr : ∀ v W, Rd W v l → Calls Tryz.prog 50 #[.bool na, v] W (RetN W sg ds)) :
    Calls Tryz.prog 76 #[.agg #[.bool na, va], .agg #[.bool nb, vb]] w (RetN w sg ds) := by
  obtain ⟨oa, ca, rfl, _⟩ := id ha
  obtain ⟨ob, cb, rfl, _⟩ := id hb
  obtain ⟨n, hn⟩ : ∃ n, n = da.length := ⟨_, rfl⟩
  obtain ⟨m, hm⟩ : ∃ m, m = db.length := ⟨_, rfl⟩
  rw [← hn] at ha hup hby ⊢
  rw [← hm] at hb hup hby ⊢
  clear hn hm
  have hS := Six.new w (.bool na) (.slice oa n ca) (.bool nb) (.slice ob m cb)
  have HO := Lib.hid ((((Old.refl w).alloc (.cells #[.bool na, .slice oa n ca] 40)).alloc (.cells #[.bool nb, .slice ob m cb] 40)).alloc (.cells #[.bool false, .slice none 0 0] 40))
  skip
  go_enter Tryz.func76, Tryz.ntmps76
  go_wp2_with fail
  generalize hW : ((w.alloc (.cells #[.bool na, .slice oa n ca] 40)).alloc (.cells #[.bool nb, .slice ob m cb] 40)).alloc (.cells #[.bool false, .slice none 0 0] 40) = W at *
  clear hW
  refine (hby _ (ha.old HO.out) (hb.old HO.out)).mono ?_
  rintro e w0 ⟨r, rfl, hr1, hr2, ho0⟩
  have hS := hS.old ho0
  have HO := Lib.hid (HO.out.trans ho0)
  have hr0 : 0 ≤ r := by by_cases h : r < 0; exact absurd (hr1.1 h) (by omega); omega
  clear hr1 hr2 ho0 hxy
  go_wp2_with fail
  clear hr0
  obtain ⟨W, rfl⟩ : ∃ W, W = w0 := ⟨_, rfl⟩
  have ra := Lib.hid (ha.old HO.out)
  have rb := Lib.hid (hb.old HO.out)
  have c0 := hS.t0.c0
  have c1 := hS.t0.c1
  have c2 := hS.t1.c1
  have S1 := Lib.hid hS
  clear hS
  go_region_held3 (fun w' => w'.cell? ⟨w.heap.size, 0, none⟩ = some (.bool na) ∧ w'.cell? ⟨w.heap.size, 1, none⟩ = some (.slice oa n ca) ∧ w'.cell? ⟨w.heap.size + 1, 1, none⟩ = some (.slice ob m cb))
    (first | exact ⟨c0, c1, c2⟩ | exact ⟨d0, d1, d2⟩ | exact ⟨e0, e1, e2⟩ | exact ⟨cell_far e0 (by omega) _ _, cell_far e1 (by omega) _ _, cell_far e2 (by omega) _ _⟩ | go_keep)
    (first
      | (go_at_call 95; refine (hup _ ?_ ?_).mono ?_; exact ra.out.old (Old.refl _).drew; exact rb.out.old (Old.refl _).drew; rintro e w1 ⟨v1, rfl, hr1, ho1⟩; have S2 := Lib.hid (S1.out.old ((Old.refl _).drew.trans ho1)); have d0 := S2.out.t0.c0; have d1 := S2.out.t0.c1; have d2 := S2.out.t1.c1)
      | (go_at_call 50; refine (htr _ _ hr1).mono ?_; rintro e w2 ⟨v2, rfl, hr2, ho2⟩; obtain ⟨o2, c2', rfl, _⟩ := id hr2; have S3 := Lib.hid (S2.out.old ho2); have O3 := Lib.hid (HO.out.drew.trans (ho1.trans ho2)); have R3 := Lib.hid hr2; have e0 := S3.out.t0.c0; have e1 := S3.out.t0.c1; have e2 := S3.out.t1.c1; have e3 := S3.out.t2.c0; have e4 := S3.out.t2.c1; have e5 := S3.out.t2.f 0; have e6 := S3.out.t2.f 1; clear hr1 hr2 ho1 ho2 d0 d1 d2))
  all_goals go_wp2
  all_goals (have ht := S3.out.t2.set (.bool sg) (.slice o2 ds.length c2'); exact bodyPost_ret (v := .agg #[.bool sg, .slice o2 ds.length c2']) (by simp [results, Tryz.results76, go_sem, ht.c0, ht.c1]) rfl (ret_six S3.out (by omega) O3.out R3.out))

set_option maxHeartbeats 1600000 in
set_option maxRecDepth 100000 in
/-- The way on which the signs differ, and the first one is the less. -/
theorem add_lt (na nb : Bool) (va vb : Value) (w : World) (da db l ds : List Int) (sg : Bool) (ha : Rd w va da) (hb : Rd w vb db) (hne : (na == nb) = false) (x y : Int) (hby : ∀ W, Rd W va da → Rd W vb db → Calls Tryz.prog 94 #[va, vb] W (RetC W x y)) (hxy : x < y)
    (hup : ∀ W, Rd W va da → Rd W vb db → Calls Tryz.prog 95 #[vb, va] W (RetD W l)) (htr : ∀ v W, Rd W v l → Calls Tryz.prog 50 #[.bool nb, v] W (RetN W sg ds)) :
    Calls Tryz.prog 76 #[.agg #[.bool na, va], .agg #[.bool nb, vb]] w (RetN w sg ds) := by
  obtain ⟨oa, ca, rfl, _⟩ := id ha
  obtain ⟨ob, cb, rfl, _⟩ := id hb
  obtain ⟨n, hn⟩ : ∃ n, n = da.length := ⟨_, rfl⟩
  obtain ⟨m, hm⟩ : ∃ m, m = db.length := ⟨_, rfl⟩
  rw [← hn] at ha hup hby ⊢
  rw [← hm] at hb hup hby ⊢
  clear hn hm
  have hS := Six.new w (.bool na) (.slice oa n ca) (.bool nb) (.slice ob m cb)
  have HO := Lib.hid ((((Old.refl w).alloc (.cells #[.bool na, .slice oa n ca] 40)).alloc (.cells #[.bool nb, .slice ob m cb] 40)).alloc (.cells #[.bool false, .slice none 0 0] 40))
  skip
  go_enter Tryz.func76, Tryz.ntmps76
  go_wp2_with fail
  generalize hW : ((w.alloc (.cells #[.bool na, .slice oa n ca] 40)).alloc (.cells #[.bool nb, .slice ob m cb] 40)).alloc (.cells #[.bool false, .slice none 0 0] 40) = W at *
  clear hW
  refine (hby _ (ha.old HO.out) (hb.old HO.out)).mono ?_
  rintro e w0 ⟨r, rfl, hr1, hr2, ho0⟩
  have hS := hS.old ho0
  have HO := Lib.hid (HO.out.trans ho0)
  have hr0 : r < 0 := hr1.2 hxy
  clear hr1 hr2 ho0 hxy
  go_wp2_with fail
  clear hr0
  obtain ⟨W, rfl⟩ : ∃ W, W = w0 := ⟨_, rfl⟩
  have ra := Lib.hid (ha.old HO.out)
  have rb := Lib.hid (hb.old HO.out)
  have c0 := hS.t1.c0
  have c1 := hS.t1.c1
  have c2 := hS.t0.c1
  have S1 := Lib.hid hS
  clear hS
  go_region_held3 (fun w' => w'.cell? ⟨w.heap.size + 1, 0, none⟩ = some (.bool nb) ∧ w'.cell? ⟨w.heap.size + 1, 1, none⟩ = some (.slice ob m cb) ∧ w'.cell? ⟨w.heap.size, 1, none⟩ = some (.slice oa n ca))
    (first | exact ⟨c0, c1, c2⟩ | exact ⟨d0, d1, d2⟩ | exact ⟨e0, e1, e2⟩ | exact ⟨cell_far e0 (by omega) _ _, cell_far e1 (by omega) _ _, cell_far e2 (by omega) _ _⟩ | go_keep)
    (first
      | (go_at_call 95; refine (hup _ ?_ ?_).mono ?_; exact ra.out.old (Old.refl _).drew; exact rb.out.old (Old.refl _).drew; rintro e w1 ⟨v1, rfl, hr1, ho1⟩; have S2 := Lib.hid (S1.out.old ((Old.refl _).drew.trans ho1)); have d0 := S2.out.t1.c0; have d1 := S2.out.t1.c1; have d2 := S2.out.t0.c1)
      | (go_at_call 50; refine (htr _ _ hr1).mono ?_; rintro e w2 ⟨v2, rfl, hr2, ho2⟩; obtain ⟨o2, c2', rfl, _⟩ := id hr2; have S3 := Lib.hid (S2.out.old ho2); have O3 := Lib.hid (HO.out.drew.trans (ho1.trans ho2)); have R3 := Lib.hid hr2; have e0 := S3.out.t1.c0; have e1 := S3.out.t1.c1; have e2 := S3.out.t0.c1; have e3 := S3.out.t2.c0; have e4 := S3.out.t2.c1; have e5 := S3.out.t2.f 0; have e6 := S3.out.t2.f 1; clear hr1 hr2 ho1 ho2 d0 d1 d2))
  all_goals go_wp2
  all_goals (have ht := S3.out.t2.set (.bool sg) (.slice o2 ds.length c2'); exact bodyPost_ret (v := .agg #[.bool sg, .slice o2 ds.length c2']) (by simp [results, Tryz.results76, go_sem, ht.c0, ht.c1]) rfl (ret_six S3.out (by omega) O3.out R3.out))

end Go.Proofs.YtcedcfkjoppjdaaGreatDoor
