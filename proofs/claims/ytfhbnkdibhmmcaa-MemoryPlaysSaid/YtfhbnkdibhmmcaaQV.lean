/- Layer memory: Copy. -/
import Derived.Test.YtfhbnkdibhmmcaaQU
namespace Go.Proofs.Ytfhbnkdibhmmcaa
open Go.ChangeShapes Go.WideShapes Go.ChangeAt Go.RowKit Go.Lib
set_option linter.unusedVariables false
set_option linter.unusedSimpArgs false
set_option maxRecDepth 100000
attribute [local go_sem] Oper.semAt_some

set_option maxHeartbeats 1000000 in
theorem copy_any {w : World} {p b lim last : Nat} {L : List Ft} (h : Mem w p b lim last L) :
    Calls Try.prog 16 #[.pointer (some ⟨p, 0, none⟩)] w fun e w' => (∃ p' b', e = .returned (.pointer (some ⟨p', 0, none⟩)) ∧ Mem w' p' b' lim last L ∧ w.heap.size ≤ p' ∧ w.heap.size ≤ b') ∧ Old w w' := by
  obtain ⟨E, rfl, h⟩ := h
  have hm := made_any h
  obtain ⟨c0, c1, c2⟩ := obj_cells h.obj
  have HM := Lib.hid h
  have hp := blk_lt h.obj
  have n0 : ¬ p = w.heap.size := by omega
  have n1 : ¬ p = w.heap.size + 1 := by omega
  have n2 : ¬ p = w.heap.size + 1 + 1 := by omega
  have n3 : ¬ w.heap.size = p := by omega
  have n4 : ¬ w.heap.size + 1 = p := by omega
  have n5 : ¬ w.heap.size + 1 + 1 = p := by omega
  clear h
  refine (callsIn_wide (n := 9)).1 ?_
  have f29 : Fence.wide.fn 29 := trivial
  have f31 : Fence.wide.fn 31 := trivial
  have hmm := @run_makeMap Try.prog
  refine callsIn_of_wp_marks Try.func16 rfl trivial ?_ rfl
  simp only [Try.ntmps16, List.size_toArray, List.length_cons, List.length_nil, Nat.reduceAdd, Nat.reduceSub, Array.replicate_succ, Array.replicate_zero, List.push_toArray, List.append_toArray, List.nil_append, List.cons_append]
  gi_wp2_with (gi_at_call 29; refine (callsIn_wide.2 hm).mono ?_; rintro e w1 ⟨rfl, rfl⟩)
  rename_i Q0 K0 hK0
  have rest : ∀ (cb cp cv : Nat) (W : World), Fc w lim last cb cp cv W → K0 { tmps := #[.pointer (some ⟨p, 0, none⟩), undef, .pointer none, .pointer (some ⟨cv, 0, none⟩), undef, .pointer (some ⟨p, 0, none⟩), .bool true, .bool false, .pointer (some ⟨p, 0, none⟩), .pointer (some ⟨p, 0, none⟩), .pointer (some ⟨p, 0, none⟩), .int .i64 lim, .pointer (some ⟨p, 0, none⟩), .pointer (some ⟨p, 0, none⟩), .pointer (some ⟨p, 1, none⟩), .int .i64 last, .map (some cb), .agg #[.int .i64 lim, .int .i64 last, .map (some cb)], .pointer (some ⟨cp, 0, none⟩), undef, undef, undef, undef, undef, undef, undef, undef, undef, undef, undef], defers := [] } W := by
    intro cb cp cv W hF
    refine hK0 _ _ ?_
    have HF := Lib.hid hF
    clear hF
    gi_wp2_with (gi_at_call 31; refine (callsIn_wide.2 (inorder_any (HM.out.old HF.out.old))).mono ?_; rintro e W0 ⟨⟨B3, B1, v, rfl, hit⟩, ho⟩; have HIT := Lib.hid hit; have HO := Lib.hid ho; clear hit ho)
    have HC0 := Lib.hid (HF.out.old.trans HO.out)
    have HW0 := Lib.hid (HM.out.old HC0.out)
    have hown0 := own_chg HF.out.map (Chg.ofOld (S := fun _ => False) HO.out) (fun e => e)
    have hnoc : ∀ k o u, k = cb → W0.cell? ⟨k, o, none⟩ ≠ some u := by
      rintro k o u rfl e
      obtain ⟨es, clock, hb, _⟩ := hown0
      simp [World.cell?, hb] at e
    have HNC := Lib.hid hnoc
    have hpl : p < w.heap.size ∧ b < w.heap.size := ⟨blk_lt HM.out.obj, HM.out.own.lt⟩
    have HPL := Lib.hid hpl
    have e0 : MemE W0 cp cb lim last [] := ⟨(HO.out.block _ (blk_lt HF.out.obj)).trans HF.out.obj, own_tight hown0, List.Pairwise.nil, fun x hx => (by simp at hx), fun x hx => (by simp at hx), List.Pairwise.nil, Nat.zero_le _, HM.out.lims, HM.out.lasts⟩
    have E0 := Lib.hid e0
    clear hown0 hnoc hpl e0
    refine wpIn_tells rfl (by omega) (gf := 37) (lb := #[.pointer (some ⟨B3, 0, none⟩), .pointer (some ⟨B1, 0, none⟩)]) rfl trivial (enters_of Try.func37 (by kernel_rfl) rfl)
      (tells_any 8 (by omega) p b lim last E v B3 B1 W0.heap.size) rfl (Cc E W0 lim last cb cp cv) (fun k A B h ho => h.old ho) (fun k A l r r' h hl ho => h.put _ hl ho)
      (fun k A h => ?_) ?_ (Cd E W0 W0.heap.size lim last cb cp cv (fun x y => #[.pointer (some ⟨p, 0, none⟩), undef, .pointer none, .pointer (some ⟨cv, 0, none⟩), x, .pointer (some ⟨p, 0, none⟩), .bool true, .bool false, .pointer (some ⟨p, 0, none⟩), .pointer (some ⟨p, 0, none⟩), .pointer (some ⟨p, 0, none⟩), .int .i64 lim, .pointer (some ⟨p, 0, none⟩), .pointer (some ⟨p, 0, none⟩), .pointer (some ⟨p, 1, none⟩), .int .i64 last, .map (some cb), .agg #[.int .i64 lim, .int .i64 last, .map (some cb)], .pointer (some ⟨cp, 0, none⟩), .pointer (some ⟨p, 0, none⟩), .func (.func 37) #[] #[.pointer (some ⟨B3, 0, none⟩), .pointer (some ⟨B1, 0, none⟩)], y, undef, undef, undef, undef, undef, undef, undef, undef]))
      (fun k u a' A l r r' h hl ho => ?_) ?assign ?body ?done
    · refine ⟨HW0.out.chg h.chg (fun e => ?_) (fun e => ?_) (fun k o c e => HNC.out k o _ e), HIT.out.chg h.chg HNC.out, h.chg.size⟩
      · have := HPL.out.1
        have := HF.out.hb
        omega
      · have := HPL.out.2
        have := HF.out.hb
        omega
    · exact ⟨Chg.ofOld (Old.refl _), ⟨[], rfl, E0.out⟩, (HO.out.block _ (blk_lt HF.out.var)).trans HF.out.var⟩
    · obtain ⟨h1, h2, bf, x, y, z, rfl, hf, ha⟩ := h
      exact ⟨h1.put _ hl ho, h2.put _ ho, bf, x, y, z, rfl, hf.put _ ho, ha⟩
    case assign =>
      intro l k u A hi hy hk
      obtain ⟨x, hx, vv, rfl, hown, hs⟩ := id hy
      obtain ⟨oa, cap, rfl⟩ := own_shape hown
      have HI2 := Lib.hid hi
      have HY := Lib.hid hy
      clear hi hy hx hown hs
      gi_wp2
      exact ⟨KeepsFrom.ofOld _ ((Old.refl A).alloc _), HI2.out.old ((Old.refl A).alloc _), HY.out.old ((Old.refl A).alloc _), A.heap.size, _, _, _, rfl, Fb.new A _ _ _, rfl⟩
    case body =>
      intro l k u a' A h hk
      obtain ⟨hC, hY, bf, x, y, z, rfl, hf, rfl⟩ := h
      obtain ⟨xe, hx, vv, e3, hvr, hs⟩ := hY
      simp only [Value.agg.injEq, Array.mk.injEq, List.cons.injEq, and_true] at e3
      obtain ⟨rfl, rfl, rfl⟩ := e3
      have hVR := (CR.owned hvr).vr hs
      obtain ⟨ov, cv', rfl⟩ := own_shape hvr
      have hI : I64 xe.ft.id := by
        have := HM.out.ids xe (List.mem_iff_getElem?.2 ⟨k, hx⟩)
        have := HM.out.lasts
        unfold I64
        show -9223372036854775808 ≤ xe.id ∧ xe.id ≤ 9223372036854775807
        omega
      have hCd := hC.old (Old.refl A).drew
      obtain ⟨hE', hME⟩ := Classical.choose_spec hCd.mem
      obtain ⟨w6, hrun, hown6, hturn6⟩ := hME.own.store keyed3 Try.underlying59 (by have := hME.room; have := HM.out.lims; unfold maxLen; omega) (key_int hI) (show Rm (fv xe.ft.id xe.ft.t (.slice ov xe.ft.l.length cv')) = some (.held (fv xe.ft.id xe.ft.t (.slice ov xe.ft.l.length cv')), []) from rfl)
      have hfin : KeepsFrom W0.heap.size A w6 ∧ Cc E W0 lim last cb cp cv (k + 1) w6 :=
        ⟨⟨(KeepsFrom.of_grownBy (B := W0.heap.size) (W := A.drew) hturn6.grown (fun j e => by cases e; exact E0.out.own.lt)).size, (KeepsFrom.of_grownBy (B := W0.heap.size) (W := A.drew) hturn6.grown (fun j e => by cases e; exact E0.out.own.lt)).same⟩, hCd.more HM.out hx (hVR.old (Old.refl A).drew) hk hown6 hturn6⟩
      obtain ⟨q0, q1, q2⟩ := obj_cells hME.obj
      replace q2 : A.cell? ⟨cp, 2, none⟩ = some (.map (some cb)) := q2
      have v0 := one_cell hC.var
      have d0 := hf.c0
      have d1 := hf.c1
      have d2 := hf.c2
      clear hE' hME hx hVR hvr hs hown6 hturn6 hf hI hC hCd q0 q1 c0 c1 c2 n0 n1 n2 n3 n4 n5 hp hm hmm f29 f31 hK0
      gi_wp2
      gi_region
      all_goals exact hfin
    case done =>
      intro D A hD h hA
      obtain ⟨hch, ⟨E', hE', hME⟩, hvar⟩ := h
      have v0 := one_cell hvar
      gi_wp2
      refine ⟨by simp, .inl ⟨_, _, rfl, run_takeDeferred hA, ?_⟩⟩
      refine ⟨_, results_tmp rfl _ _ _, ⟨cp, cb, rfl, ⟨E', ?_, hME.putD _ hA⟩, HF.out.hp, HF.out.hb⟩, ?_⟩
      · rw [hE', List.take_length]
      · exact (hch.old HC0.out (fun k e => by have := HF.out.hb; omega)).put _ (Nat.le_trans HC0.out.size hD) hA
  gi_region
  · refine rest w.heap.size (w.heap.size + 1) (w.heap.size + 1 + 1) _ ?_
    refine ⟨((((Old.refl w).alloc _).alloc _).alloc _).drew, by omega, by omega, by omega, ?_, ?_, ?_⟩
    · exact (((World.ownsMap_made w Try.prog 3 Rm).alloc _).alloc _).drew
    · exact (three_blk w _ _ _).2.1
    · exact (three_blk w _ _ _).2.2
  · refine rest w.heap.size (w.heap.size + 1 + 1) (w.heap.size + 1) _ ?_
    refine ⟨((((Old.refl w).alloc _).alloc _).alloc _).drew, by omega, by omega, by omega, ?_, ?_, ?_⟩
    · exact (((World.ownsMap_made w Try.prog 3 Rm).alloc _).alloc _).drew
    · exact (three_blk w _ _ _).2.2
    · exact (three_blk w _ _ _).2.1
  · refine rest (w.heap.size + 1) (w.heap.size + 1 + 1) w.heap.size _ ?_
    refine ⟨((((Old.refl w).alloc _).alloc _).alloc _).drew, by omega, by omega, by omega, ?_, ?_, ?_⟩
    · have := World.ownsMap_made (w.alloc (.cells #[.pointer (some ⟨w.heap.size + 1 + 1, 0, none⟩)] 25)) Try.prog 3 Rm
      rw [sz_alloc] at this
      exact (this.alloc _).drew
    · exact (three_blk w _ _ _).2.2
    · exact (three_blk w _ _ _).1

end Go.Proofs.Ytfhbnkdibhmmcaa
