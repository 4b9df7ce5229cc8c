/- The document's own numbers: products. -/
import Derived.Test.YtcedcfkjoppjdaaGreatDoorRI
import Derived.Test.YtcedcfkjoppjdaaGreatDoorRN
import Derived.Laws.MakeOwn
namespace Go.Proofs.YtcedcfkjoppjdaaGreatDoor
open Go.ChangeShapes Go.WideShapes Go.ChangeAt Go.RowKit
set_option linter.unusedVariables false

/-- What holds of memory at the head of each round of Mul's outer loop: the boxes, and the sum so far. -/
structure MlW (w : World) (B : Nat) (u0 v0 u1 v1 : Value) (S : Nat) (wr : World) : Prop where
  six : Six wr B u0 v0 u1 v1
  sum : ∃ o c, Two wr (B + 1 + 1 + 1) (.bool false) (.slice o (dig S).length c) ∧ Rd wr (.slice o (dig S).length c) (dig S)
  old : Old w wr

theorem Two.far {w : World} {b : Nat} {u v : Value} (h : Two w b u v) {p : Addr} (hp : b ≠ p.block) (x : Value) : Two (w.setCell p x) b u v := (Below.heap_setCell w p x b hp).trans h
theorem MlW.next {w wo w3 : World} {B : Nat} {u0 v0 u1 v1 : Value} {S S' : Nat} {o : Option Addr} {c : Nat} (M : MlW w B u0 v0 u1 v1 S wo) (ho : Old wo w3) (hB : w.heap.size ≤ B) (R : Rd w3 (.slice o (dig S').length c) (dig S')) :
    MlW w B u0 v0 u1 v1 S' ((w3.setCell ⟨B + 1 + 1 + 1, 0, none⟩ (.bool false)).setCell ⟨B + 1 + 1 + 1, 1, none⟩ (.slice o (dig S').length c)) := by
  obtain ⟨⟨h0, h1, h2⟩, ⟨o', c', h3, h4⟩, h5⟩ := M
  refine ⟨⟨?_, ?_, ?_⟩, ⟨o, c, (h3.old ho).set _ _, Two.rd2 (h3.old ho) R _ _⟩, ((h5.trans ho).setCell (by show w.heap.size ≤ B + 1 + 1 + 1; omega) _).setCell (by show w.heap.size ≤ B + 1 + 1 + 1; omega) _⟩
  · exact ((h0.old ho).far (by show B ≠ B + 1 + 1 + 1; omega) _).far (by show B ≠ B + 1 + 1 + 1; omega) _
  · exact ((h1.old ho).far (by show B + 1 ≠ B + 1 + 1 + 1; omega) _).far (by show B + 1 ≠ B + 1 + 1 + 1; omega) _
  · exact ((h2.old ho).far (by show B + 1 + 1 ≠ B + 1 + 1 + 1; omega) _).far (by show B + 1 + 1 ≠ B + 1 + 1 + 1; omega) _
def MlR (wo : World) (da : List Int) (d : Int) (i j : Nat) (v : Value) (wr : World) : Prop := wr.ownsRow wo.heap.size 3 1 v (i + j) ((shl i (mlK da d j).1).map (Value.int .i64)) ∧ Below wo.heap.size wo wr
theorem MlR.drewN {wo : World} {da : List Int} {d : Int} {i j : Nat} {v : Value} {wr : World} (h : MlR wo da d i j v wr) (n : Nat) : MlR wo da d i j v (wr.drewN n) := ⟨h.1, ⟨h.2.os, h.2.tape, h.2.output, h.2.size, h.2.block⟩⟩
theorem MlR.next {wo : World} {da : List Int} {d : Int} {i j : Nat} {v v' : Value} {wr w1 : World} {s : Int} {o : Obj} (h : MlR wo da d i j v wr) (hs : s = (mlK da d j).2 + da.getD j 0 * d)
    (hown : w1.ownsRow wo.heap.size 3 1 v' (i + j + 1) ((shl i (mlK da d j).1).map (Value.int .i64) ++ [.int .i64 (s % 10000)])) (hg : (wr.alloc o).grownBy w1 v.ownBlock) : MlR wo da d i (j + 1) v' w1 := by
  refine ⟨?_, ?_⟩
  · have e : shl i (mlK da d (j + 1)).1 = shl i (mlK da d j).1 ++ [s % 10000] := by
      simp only [mlK, shl, ← hs, List.append_assoc]
    rw [e, List.map_append]; exact hown
  · have hz := h.2.size
    refine (h.2.alloc hz o).grown hg (by simp; omega) (fun j hj => (h.1.lt j hj).1)

theorem ml_start {wo w0 : World} {da : List Int} {d : Int} {i : Nat} (hown : w0.ownsRow wo.heap.size 3 1 (.slice (some ⟨wo.heap.size, 0, none⟩) i i) i (madeCells (Value.int .i64 0).cells (i * 1)).toList) (hg : wo.grownBy w0 none) : MlR wo da d i 0 (.slice (some ⟨wo.heap.size, 0, none⟩) i i) w0 := by
  refine ⟨?_, (Below.refl _ _).grown hg (Nat.le_refl _) (fun k h => by cases h)⟩
  have e : (shl i (mlK da d 0).1).map (Value.int .i64) = List.replicate i (Value.int .i64 0) := by simp [shl, mlK]
  rw [e, Nat.add_zero]
  have e2 : (madeCells (Value.int .i64 0).cells (i * 1)).toList = List.replicate i (Value.int .i64 0) := by rw [Nat.mul_one]; exact toList_madeCells_one _ _
  rw [← e2]; exact hown
theorem rd_cell {W : World} {oa : Option Addr} {la ca : Nat} {da : List Int} (h : Rd W (.slice oa la ca) da) {j : Nat} (hj : j < da.length) : ∃ g, oa = some ⟨g, 0, none⟩ ∧ W.cell? ⟨g, j, none⟩ = some (.int .i64 (da.getD j 0)) := by
  obtain ⟨oa', ca', e, _, _, h3⟩ := h
  simp only [Value.slice.injEq] at e
  obtain ⟨rfl, _, rfl⟩ := e
  obtain ⟨g, h4, _, h5⟩ := h3 j hj
  exact ⟨g, h4, h5⟩

set_option maxHeartbeats 3200000 in
set_option maxRecDepth 100000 in
theorem mul_walk2 (na nb : Bool) (oa ob : Option Addr) (la ca lb cb : Nat) (w : World) (da db : List Int) (S : Nat → Nat) (sg : Bool) (ds : List Int)
    (hx : Rd w (.slice oa la ca) da) (hy : Rd w (.slice ob lb cb) db) (ga : Dg da) (gb : Dg db) (hla : la = da.length) (hlb : lb = db.length) (sa : la ≤ 100) (sb : lb ≤ 100)
    (s0 : S 0 = 0) (sS : ∀ i, i < lb → (dig (S i)).length ≤ 500)
    (hup : ∀ i, i < lb → ∀ W u v, Rd W u (dig (S i)) → Rd W v (shl i (mlL da (db.getD i 0))) → Calls Tryz.prog 75 #[u, v] W (RetD W (upL (dig (S i)) (shl i (mlL da (db.getD i 0))))))
    (htr : ∀ i, i < lb → ∀ W v, Rd W v (upL (dig (S i)) (shl i (mlL da (db.getD i 0)))) → Calls Tryz.prog 50 #[.bool false, v] W (RetN W false (dig (S (i + 1)))))
    (hfin : ∀ W v, Rd W v (dig (S lb)) → Calls Tryz.prog 50 #[.bool (na != nb), v] W (RetN W sg ds)) :
    Calls Tryz.prog 52 #[.agg #[.bool na, .slice oa la ca], .agg #[.bool nb, .slice ob lb cb]] w (RetN w sg ds) := by
  obtain ⟨i0, hi, hz0, hz1, hz2⟩ := info_parts info3
  have hS := Six.new w (.bool na) (.slice oa la ca) (.bool nb) (.slice ob lb cb)
  have h3 := Two.new (((w.alloc (.cells #[.bool na, .slice oa la ca] 40)).alloc (.cells #[.bool nb, .slice ob lb cb] 40)).alloc (.cells #[.bool false, .slice none 0 0] 40)) (.bool false) (.slice none 0 0)
  have hz : (((w.alloc (.cells #[.bool na, .slice oa la ca] 40)).alloc (.cells #[.bool nb, .slice ob lb cb] 40)).alloc (.cells #[.bool false, .slice none 0 0] 40)).heap.size = w.heap.size + 1 + 1 + 1 := by simp
  rw [hz] at h3
  have HW : Hid (MlW w w.heap.size (.bool na) (.slice oa la ca) (.bool nb) (.slice ob lb cb) (S 0) ((((w.alloc (.cells #[.bool na, .slice oa la ca] 40)).alloc (.cells #[.bool nb, .slice ob lb cb] 40)).alloc (.cells #[.bool false, .slice none 0 0] 40)).alloc (.cells #[.bool false, .slice none 0 0] 40))) := by
    refine ⟨hS.old ((Old.refl _).alloc _), ⟨none, 0, ?_, ?_⟩, ((((Old.refl _).alloc _).alloc _).alloc _).alloc _⟩
    · rw [s0, dig_zero]; exact h3
    · rw [s0, dig_zero]; exact Rd.nil _
  clear hS h3 hz
  have HUP := Lib.hid hup
  have HTR := Lib.hid htr
  have HFI := Lib.hid hfin
  have HSS := Lib.hid sS
  have HLA := Lib.hid hla
  have HLB := Lib.hid hlb
  clear hup htr hfin sS s0 hla hlb
  go_enter Tryz.func52, Tryz.ntmps52
  go_wp2_with fail
  go_loopw [6] (fun i wr => ∃ k : Nat, k ≤ lb ∧ i = .int .i64 k ∧ Hid (MlW w w.heap.size (.bool na) (.slice oa la ca) (.bool nb) (.slice ob lb cb) (S k) wr)) (fun i _ => lb - (intOf i).toNat)
  case atStart => exact ⟨0, Nat.zero_le _, rfl, HW⟩
  case round =>
    clear HW
    obtain ⟨i, hil, rfl, M⟩ := hrel
    obtain ⟨wo, rfl⟩ : ∃ wo : World, wo = wr := ⟨_, rfl⟩
    have tx := M.out.six.t0.c1
    have ty := M.out.six.t1.c1
    by_cases hlt : i < lb
    · obtain ⟨d, hd⟩ : ∃ d, d = db.getD i 0 := ⟨_, rfl⟩
      have bd := dg_getD gb i
      rw [← hd] at bd
      have HUPi := Lib.hid (HUP.out i hlt)
      have HTRi := Lib.hid (HTR.out i hlt)
      have HSSi := Lib.hid (HSS.out i hlt)
      rw [← hd] at HUPi HTRi
      have HD := Lib.hid hd
      clear hd HUP HTR HFI HSS
      have HDone := Lib.hid (ml_done ga bd)
      have HMore := Lib.hid (fun k => ml_more ga bd k)
      have HCar := Lib.hid (fun k => mlK_m ga bd k)
      have hN := ml_le da d
      have HML : Hid (mlL da d = (mlK da d (mlN da d)).1) := rfl
      generalize hNE : mlN da d = N at *
      clear hNE
      rw [← HLA.out] at hN
      go_wp2_with (at_make; refine wpList_make_full _ rfl _ _ 38 rfl wo.heap.size 3 i0 (.int .i64 0) 1 Tryz.underlying38 hi hz0 hz1 .i64 .i64 _ _ i rfl rfl rfl rfl (by rw [hz2]; omega) (by unfold maxLen; omega) (Nat.le_refl _) ?_; intro w0 hown0 hgrow0)
      have R0 : MlR wo da d i 0 (.slice (some ⟨wo.heap.size, 0, none⟩) i i) w0 := ml_start hown0 hgrow0
      have HR0 := Lib.hid R0
      clear R0 hown0 hgrow0
      go_loopw [7, 8, 9] (fun v m k wr => ∃ (j : Nat) (c : Int), j ≤ N ∧ k = .int .i64 j ∧ m = .int .i64 c ∧ Hid (c = (mlK da d j).2) ∧ Hid (MlR wo da d i j v wr)) (fun _ _ k _ => N - (intOf k).toNat)
      case atStart => exact ⟨0, 0, Nat.zero_le _, rfl, rfl, rfl, HR0⟩
      case round =>
        clear HR0 tx ty
        obtain ⟨j, c, hj, rfl, rfl, HCk, HR⟩ := hrel
        have R := HR.out
        clear HR
        have tx := (R.2.cell (p := ⟨w.heap.size, 1, none⟩) M.out.six.t0.lt).trans M.out.six.t0.c1
        have ty := (R.2.cell (p := ⟨w.heap.size + 1, 1, none⟩) M.out.six.t1.lt).trans M.out.six.t1.c1
        have hc := HCar.out j
        rw [← HCk.out] at hc
        have HO := Lib.hid (M.out.old.trans (Old.ofBelow R.2 (Nat.le_refl _)))
        by_cases hjN : j < N
        · have hm := HMore.out j hjN
          rw [← HCk.out, ← HLA.out] at hm
          by_cases hja : j < la
          · obtain ⟨x, hx'⟩ : ∃ x, x = da.getD j 0 := ⟨_, rfl⟩
            have bx := dg_getD ga j
            rw [← hx'] at bx
            have cx := rd_cell (hx.old HO.out) (HLA.out ▸ hja)
            have cy := rd_cell (hy.old HO.out) (HLB.out ▸ hlt)
            obtain ⟨g, rfl, cx⟩ := cx
            obtain ⟨g', rfl, cy⟩ := cy
            rw [← hx'] at cx
            rw [← HD.out] at cy
            obtain ⟨P, hP⟩ : ∃ P, P = x * d := ⟨_, rfl⟩
            have bP := prod_bd bx bd
            rw [← hP] at bP
            have e1 : IntKind.i64.wrap (x * d) = P := by rw [← hP]; exact IntWalk.i64_in _ (by omega)
            have e2 : IntKind.i64.wrap (c + P) = c + P := IntWalk.i64_in _ (by omega)
            have HSUM : Hid (c + P = (mlK da d j).2 + da.getD j 0 * d) := by show c + P = _; rw [HCk.out, hP, hx']
            clear hm hx' hP
            go_wp2_with fail
            go_quiet (fail)
            have R2 := MlR.drewN R nq
            clear e1 e2 R tx ty cx cy HO
            have R := R2
            clear R2
            generalize wr.drewN nq = WR at *
            go_wp2_with (at_builtin; refine wpList_append_own _ rfl _ _ 38 rfl wo.heap.size 3 i0 (.int .i64 0) 1 8 Tryz.underlying38 hi hz0 hz1 hz2 rfl (by decide) _ _ _ rfl (R.1.alloc _) ⟨WR.heap.size, 0, none⟩ 1 1 [.int .i64 ((c + P) % 10000)] rfl rfl (new_one _ _ _) (one_int _) (by unfold maxLen; omega) (by omega) (by have := R.2.size; simp; omega) ?_)
            intro v' w1 hown' hgrow _
            have R' := R.next (s := c + P) (HSUM.out) hown' hgrow
            have HC' : Hid ((c + P) / 10000 = (mlK da d (j + 1)).2) := by
              show _ = ((mlK da d j).2 + da.getD j 0 * d) / 10000
              rw [← HSUM.out]
            clear hown' hgrow R HCk HSUM
            go_wp2_with fail
            go_roundw
            case rel => exact ⟨j + 1, (c + P) / 10000, by omega, by go_num, rfl, HC', R'⟩
            case measure => simp [intOf]; omega
          · have hc0 : 0 < c := by omega
            have HSUM : Hid (c = (mlK da d j).2 + da.getD j 0 * d) := by show c = _; rw [HCk.out, getD_past (l := da) (by have := HLA.out; omega)]; omega
            clear hm
            obtain ⟨WR, rfl⟩ : ∃ WR : World, WR = wr := ⟨_, rfl⟩
            go_wp2_with (at_builtin; refine wpList_append_own _ rfl _ _ 38 rfl wo.heap.size 3 i0 (.int .i64 0) 1 8 Tryz.underlying38 hi hz0 hz1 hz2 rfl (by decide) _ _ _ rfl (R.1.alloc _) ⟨WR.heap.size, 0, none⟩ 1 1 [.int .i64 ((c) % 10000)] rfl rfl (new_one _ _ _) (one_int _) (by unfold maxLen; omega) (by omega) (by have := R.2.size; simp; omega) ?_)
            intro v' w1 hown' hgrow _
            have R' := R.next (s := c) (HSUM.out) hown' hgrow
            have HC' : Hid ((c) / 10000 = (mlK da d (j + 1)).2) := by
              show _ = ((mlK da d j).2 + da.getD j 0 * d) / 10000
              rw [← HSUM.out]
            clear hown' hgrow R HCk HSUM
            go_wp2_with fail
            go_roundw
            case rel => exact ⟨j + 1, (c) / 10000, by omega, by go_num, rfl, HC', R'⟩
            case measure => simp [intOf]; omega
        · obtain rfl : j = N := by omega
          have hc0 : c = 0 := HCk.out.trans HDone.out
          subst hc0
          have hge : ¬ j < la := by omega
          obtain ⟨so, sc, h3, h4⟩ := M.out.sum
          have ob := Old.ofBelow R.2 (Nat.le_refl _)
          have ts := (h3.old ob).c1
          have R1 := Lib.hid (Rd.of_owns R.1)
          rw [← HML.out] at R1
          clear HMore HCar HDone hc HCk hN
          go_wp2_with fail
          refine (HUPi.out _ _ _ (h4.old ob) R1.out).mono ?_
          rintro e w2 ⟨v2, rfl, hr2, ho2⟩
          go_wp2_with fail
          refine (HTRi.out _ _ hr2).mono ?_
          rintro e w3 ⟨v3, rfl, hr3, ho3⟩
          obtain ⟨o3, c3, rfl, _⟩ := id hr3
          have OB := Lib.hid (ob.trans (ho2.trans ho3))
          have T3 := Lib.hid (h3.old OB.out)
          have M' := Lib.hid (M.out.next OB.out (Nat.le_refl _) hr3)
          have t0 := T3.out.c0
          have t1 := T3.out.c1
          have t2 := T3.out.f 0
          have t3 := T3.out.f 1
          clear h3 h4 ob ts R1 hr2 ho2 hr3 ho3 R tx ty HO
          go_wp2_with fail
          go_roundw
          case rel => exact ⟨i + 1, by omega, by go_num, M'⟩
          case measure => simp [intOf]; omega
    · obtain rfl : i = lb := by omega
      obtain ⟨so, sc, h3, h4⟩ := M.out.sum
      have ts := h3.c1
      have u0 := M.out.six.t0.c0
      have u1 := M.out.six.t1.c0
      clear HUP HTR HSS
      go_wp2_with fail
      refine (HFI.out _ _ h4).mono ?_
      rintro e w3 ⟨v3, rfl, hr3, ho3⟩
      obtain ⟨o3, c3, rfl, _⟩ := id hr3
      have T3 := Lib.hid (M.out.six.t2.old ho3)
      have O3 := Lib.hid (M.out.old.trans ho3)
      have R3 := Lib.hid hr3
      have t0 := T3.out.c0
      have t1 := T3.out.c1
      have t2 := T3.out.f 0
      have t3 := T3.out.f 1
      clear h3 h4 ts hr3 ho3 tx ty u0 u1
      go_wp2_with fail
      have ht := Two.set T3.out (.bool sg) (.slice o3 ds.length c3)
      exact bodyPost_ret (v := .agg #[.bool sg, .slice o3 ds.length c3]) (by simp [results, Tryz.results52, go_sem, ht.c0, ht.c1]) rfl (ret_two T3.out (by omega) O3.out R3.out)

end Go.Proofs.YtcedcfkjoppjdaaGreatDoor
