/- Ahead, the document's. -/
import Derived.Test.YtdcfaniimhjghaaOJ
namespace Go.Proofs.Ytdcfaniimhjghaa
open Go.ChangeShapes Go.WideShapes Go.ChangeAt Go.RowKit Go.Lib Go.Sort
set_option linter.unusedVariables false
set_option linter.unusedSimpArgs false
set_option maxRecDepth 100000
set_option maxHeartbeats 3200000

theorem aheadD_sal {s pr qr ps qs : Int} {pt qt : List Int} (h : ps ≠ qs) : aheadD s ⟨pr, pt, ps⟩ ⟨qr, qt, qs⟩ = decide (qs < ps) := by
  unfold aheadD
  rw [if_pos h]
theorem aheadD_vec {s pr qr ps V : Int} {pt qt : List Int} (h : rowC (vec s pt) (vec s qt) = V) (hv : V ≠ 0) : aheadD s ⟨pr, pt, ps⟩ ⟨qr, qt, ps⟩ = (decide (V < 0) == (s == 2)) := by
  unfold aheadD
  rw [if_neg (by simp), if_pos (by rw [h]; exact hv), h]
  congr 1
theorem aheadD_rule {s pr qr ps : Int} {pt qt : List Int} (h : rowC (vec s pt) (vec s qt) = 0) (hr : pr ≠ qr) : aheadD s ⟨pr, pt, ps⟩ ⟨qr, qt, ps⟩ = decide (pr < qr) := by
  unfold aheadD
  rw [if_neg (by simp), if_neg (by rw [h]; simp), if_pos hr]
theorem aheadD_row {s pr qr ps : Int} {pt qt : List Int} (h : rowC (vec s pt) (vec s qt) = 0) (hr : pr = qr) : aheadD s ⟨pr, pt, ps⟩ ⟨qr, qt, ps⟩ = decide (rowC pt qt < 0) := by
  unfold aheadD
  rw [if_neg (by simp), if_neg (by rw [h]; simp), if_neg (by simp [hr])]
theorem ahead_any (s : Int) {w : World} (p q : Aw) (hp : IR w p.2 p.1.tup) (hq : IR w q.2 q.1.tup) (hpl : p.1.tup.length ≤ 100000) (hql : q.1.tup.length ≤ 100000) :
    Calls Try.prog 9 #[.int .u8 s, av p, av q] w fun e w' => e = .returned (.bool (aheadD s p.1 q.1)) ∧ Old w w' := by
  obtain ⟨⟨pr, pt, ps⟩, pv⟩ := p
  obtain ⟨⟨qr, qt, qs⟩, qv⟩ := q
  simp only at hp hq hpl hql
  have HPI := Lib.hid hp
  have HQI := Lib.hid hq
  obtain ⟨oa, ca, rfl⟩ := hp.slice
  obtain ⟨ob, cb, rfl⟩ := hq.slice
  clear hp hq
  unfold av
  simp only
  have HPL := Lib.hid hpl
  have HQL := Lib.hid hql
  generalize hR : aheadD s ⟨pr, pt, ps⟩ ⟨qr, qt, qs⟩ = R
  have HR := Lib.hid hR
  generalize hV : rowC (vec s pt) (vec s qt) = V
  have HV := Lib.hid hV
  clear hR hpl hql hV
  generalize pt.length = n at HPI ⊢
  generalize qt.length = m at HQI ⊢
  have W0 := Lib.hid (((Old.refl w).alloc (.cells #[.int .i64 pr, .slice oa n ca, .int .i64 ps] 25)).alloc (.cells #[.int .i64 qr, .slice ob m cb, .int .i64 qs] 25))
  have b1 := ((Old.refl (w.alloc (.cells #[.int .i64 pr, .slice oa n ca, .int .i64 ps] 25))).alloc (.cells #[.int .i64 qr, .slice ob m cb, .int .i64 qs] 25)).block w.heap.size (by simp)
  rw [(MapKept.heap_alloc w (.cells #[.int .i64 pr, .slice oa n ca, .int .i64 ps] 25)).1] at b1
  have b2 := (MapKept.heap_alloc (w.alloc (.cells #[.int .i64 pr, .slice oa n ca, .int .i64 ps] 25)) (.cells #[.int .i64 qr, .slice ob m cb, .int .i64 qs] 25)).1
  rw [sz_alloc] at b2
  by_cases hs : ps = qs
  · subst hs
    have hsb : (ps != ps) = false := by simp
    go_enter Try.func9, Try.ntmps9
    go_upto_region 3 with fail
    generalize hW : (w.alloc (.cells #[.int .i64 pr, .slice oa n ca, .int .i64 ps] 25)).alloc (.cells #[.int .i64 qr, .slice ob m cb, .int .i64 ps] 25) = wr at W0 b1 b2 ⊢
    clear hW
    have c0 : wr.cell? ⟨w.heap.size, 0, none⟩ = some (.int .i64 pr) := by simp [World.cell?, b1]
    have c1 : wr.cell? ⟨w.heap.size, 1, none⟩ = some (.slice oa n ca) := by simp [World.cell?, b1]
    have c2 : wr.cell? ⟨w.heap.size, 2, none⟩ = some (.int .i64 ps) := by simp [World.cell?, b1]
    have d0 : wr.cell? ⟨w.heap.size + 1, 0, none⟩ = some (.int .i64 qr) := by simp [World.cell?, b2]
    have d1 : wr.cell? ⟨w.heap.size + 1, 1, none⟩ = some (.slice ob m cb) := by simp [World.cell?, b2]
    have d2 : wr.cell? ⟨w.heap.size + 1, 2, none⟩ = some (.int .i64 ps) := by simp [World.cell?, b2]
    have l1 := blk_lt b1
    have l2 := blk_lt b2
    clear b1 b2
    refine wp_region_inv (spOf [.eq (.int .u8 s), .eq (.pointer (some ⟨w.heap.size, 1, none⟩)), .eq (.slice oa n ca), irS (vec s pt), .eq (.int .u8 s), .eq (.pointer (some ⟨w.heap.size + 1, 1, none⟩)), .eq (.slice ob m cb), irS (vec s qt), .eq (.int .i64 V), .eq (.int .i64 V)]) (by kernel_rfl) (by kernel_rfl) (spOf_mono _) ?_ ?_
    · refine ⟨?_, ?_, ?_, ?_, ?_, ?_, ?_, ?_, ?_, ?_, trivial⟩
      · refine step_plain rfl fun ρ w2 ho hr hd => ?_
        have x0 : ρ (.tmp 0) = .int .u8 s := (hr.1 0 rfl).trans rfl
        exact does_move rfl x0 ⟨rfl, Old.refl _⟩
      · refine step_plain rfl fun ρ w2 ho hr hd => ?_
        have x0 : ρ (.tmp 4) = .pointer (some ⟨w.heap.size, 0, none⟩) := (hr.1 4 rfl).trans rfl
        refine does_value (v := .pointer (some ⟨w.heap.size, 1, none⟩)) (w' := w2) ?_ ⟨rfl, Old.refl _⟩
        unfold execOp
        simp only [x0]
        go_simp
      · refine step_plain rfl fun ρ w2 ho hr hd => ?_
        obtain ⟨h0, _⟩ := hd
        have x0 : ρ (.tmp 19) = .pointer (some ⟨w.heap.size, 1, none⟩) := h0 rfl
        have q0 := (ho.cell l1).trans c1
        refine does_value (v := .slice oa n ca) (w' := w2) ?_ ⟨rfl, Old.refl _⟩
        unfold execOp
        simp only [x0]
        go_simp
      · refine step_plain rfl fun ρ w2 ho hr hd => ?_
        obtain ⟨h0, h1, _⟩ := hd
        have x0 : ρ (.tmp 18) = .int .u8 s := h0 rfl
        have x1 : ρ (.tmp 20) = .slice oa n ca := h1 rfl
        exact does_call2 rfl (hr.2.2.2 _) x0 x1 rfl ((rvector_any s (HPI.out.old (W0.out.trans ho)) HPL.out).mono fun e w' ⟨v, he, hi, ho2⟩ => ⟨v, he, hi, ho2⟩)
      · refine step_plain rfl fun ρ w2 ho hr hd => ?_
        have x0 : ρ (.tmp 0) = .int .u8 s := (hr.1 0 rfl).trans rfl
        exact does_move rfl x0 ⟨rfl, Old.refl _⟩
      · refine step_plain rfl fun ρ w2 ho hr hd => ?_
        have x0 : ρ (.tmp 5) = .pointer (some ⟨w.heap.size + 1, 0, none⟩) := (hr.1 5 rfl).trans rfl
        refine does_value (v := .pointer (some ⟨w.heap.size + 1, 1, none⟩)) (w' := w2) ?_ ⟨rfl, Old.refl _⟩
        unfold execOp
        simp only [x0]
        go_simp
      · refine step_plain rfl fun ρ w2 ho hr hd => ?_
        obtain ⟨h0, _⟩ := hd
        have x0 : ρ (.tmp 23) = .pointer (some ⟨w.heap.size + 1, 1, none⟩) := h0 rfl
        have q0 := (ho.cell l2).trans d1
        refine does_value (v := .slice ob m cb) (w' := w2) ?_ ⟨rfl, Old.refl _⟩
        unfold execOp
        simp only [x0]
        go_simp
      · refine step_plain rfl fun ρ w2 ho hr hd => ?_
        obtain ⟨h0, h1, h2, _⟩ := hd
        have x0 : ρ (.tmp 22) = .int .u8 s := h0 rfl
        have x1 : ρ (.tmp 24) = .slice ob m cb := h1 rfl
        exact does_call2 rfl (hr.2.2.2 _) x0 x1 rfl ((rvector_any s (HQI.out.old (W0.out.trans ho)) HQL.out).mono fun e w' ⟨v, he, hi, ho2⟩ => ⟨v, he, hi, ho2⟩)
      · refine step_plain rfl fun ρ w2 ho hr hd => ?_
        obtain ⟨h0, h1, h2, _⟩ := hd
        have p1 : IR w2 (ρ (.tmp 21)) (vec s pt) := h0 rfl
        have p2 : IR w2 (ρ (.tmp 25)) (vec s qt) := h1 rfl
        exact does_call2 rfl (hr.2.2.2 _) rfl rfl rfl ((rrows_any p1 p2).mono fun e w' h => ⟨_, h.1, congrArg (Value.int .i64) HV.out, h.2⟩)
      · refine step_plain rfl fun ρ w2 ho hr hd => ?_
        obtain ⟨h0, h1, h2, h3, h4, h5, h6, h7, h8, h9, h10, _⟩ := hd
        have x0 : ρ (.tmp 26) = .int .i64 V := h0 rfl
        exact does_assign rfl x0 ⟨rfl, Old.refl _⟩
    · intro a' w' hoE hst hl
      obtain ⟨_, _, _, _, _, _, _, _, _, k9, _⟩ := hl
      have e9 : a'.eval (.tmp 7) = .int .i64 V := k9
      rw [act_fresh hst [false, false, false, false, false, false, false, true, false, false, false, false, false, false, false, false, false, false, true, true, true, true, true, true, true, true, true, false, false, false, false, false, false, false, false, false, false, false, false, false, false, false, false, false, false, false, false, false, false, false] (by kernel_rfl) (by kernel_rfl)]
      simp only [fresh, e9]
      clear hst k9 e9
      have HQ := Lib.hid (W0.out.trans hoE)
      have c0 := (hoE.cell l1).trans c0
      have d0 := (hoE.cell l2).trans d0
      have c1 := (hoE.cell l1).trans c1
      have d1 := (hoE.cell l2).trans d1
      clear hoE
      by_cases hv : V = 0
      · subst hv
        by_cases hr : pr = qr
        · subst hr
          have hrb : (pr != pr) = false := by simp
          have HROW := Lib.hid (rrows_any (HPI.out.old HQ.out) (HQI.out.old HQ.out))
          have HC := Lib.hid (aheadD_row (ps := ps) (pr := pr) (qr := pr) HV.out rfl)
          generalize rowC pt qt = Z at HROW HC
          go_wp2_with (first | (go_at_call 12; (with_reducible refine HROW.out.mono ?_); rintro e w3 ⟨rfl, ho⟩; have HO3 := Lib.hid ho; clear ho))
          go_ret
          refine ⟨?_, HQ.out.trans HO3.out⟩
          rw [← HR.out, HC.out]
          rfl
        · have hrb : (pr != qr) = true := by simpa using hr
          have HC := Lib.hid (aheadD_rule (ps := ps) HV.out hr)
          go_wp2_with fail
          all_goals
            go_ret
            refine ⟨?_, HQ.out⟩
            rw [← HR.out, HC.out]
            first | rfl | (congr 2; simp; omega)
      · have hvb : (V != 0) = true := by simpa using hv
        have HC := Lib.hid (aheadD_vec (pr := pr) (qr := qr) (ps := ps) HV.out hv)
        go_wp2_with fail
        all_goals
          go_ret
          refine ⟨?_, HQ.out⟩
          rw [← HR.out, HC.out]
          first | rfl | (congr 2; simp [*])
  · have hsb : (ps != qs) = true := by simpa using hs
    have HC := Lib.hid (aheadD_sal (s := s) (pr := pr) (qr := qr) (pt := pt) (qt := qt) hs)
    clear b1 b2
    go_enter Try.func9, Try.ntmps9
    go_wp2_with fail
    all_goals
      go_ret
      refine ⟨?_, W0.out⟩
      rw [← HR.out, HC.out]
      first | rfl | (congr 2; simp; omega)
end Go.Proofs.Ytdcfaniimhjghaa
