/- Compare. -/
import Derived.Test.YtdcfaniimhjghaaOI
namespace Go.Proofs.Ytdcfaniimhjghaa
open Go.ChangeShapes Go.WideShapes Go.ChangeAt Go.RowKit Go.Lib Go.Sort
set_option linter.unusedVariables false
set_option linter.unusedSimpArgs false
set_option maxRecDepth 100000
set_option maxHeartbeats 3200000

def lsS (s : Int) : Sp := ⟨fun v w => LS w v s, fun _ _ _ ho h => h.old ho⟩
def irS (l : List Int) : Sp := ⟨fun v w => IR w v l, fun _ _ _ ho h => h.old ho⟩
def rkS (s : Int) (p : Aw) : Sp := ⟨fun v w => ∃ u, v = rv (p, u) ∧ IR w u (vec s p.1.tup), fun _ _ _ ho h => h.elim fun u hu => ⟨u, hu.1, hu.2.old ho⟩⟩
theorem cmp_any (s : Int) {w : World} (p q : Aw) (hp : IR w p.2 p.1.tup) (hq : IR w q.2 q.1.tup) (hpl : p.1.tup.length ≤ 1000000) (hql : q.1.tup.length ≤ 1000000) :
    Calls Try.prog 11 #[.int .u8 s, av p, av q] w fun e w' => e = .returned (.int .i64 (cmpA s p.1 q.1)) ∧ Old w w' := by
  obtain ⟨⟨pr, pt, ps⟩, pv⟩ := p
  obtain ⟨⟨qr, qt, qs⟩, qv⟩ := q
  simp only at hp hq hpl hql
  have HPI := Lib.hid hp
  have HQI := Lib.hid hq
  obtain ⟨oa, ca, rfl⟩ := hp.slice
  obtain ⟨ob, cb, rfl⟩ := hq.slice
  clear hp hq
  unfold av
  simp only
  have HPL := Lib.hid hpl
  have HQL := Lib.hid hql
  generalize hR : cmpA s ⟨pr, pt, ps⟩ ⟨qr, qt, qs⟩ = R
  have HR := Lib.hid hR
  clear hR hpl hql
  generalize pt.length = n at HPI ⊢
  generalize qt.length = m at HQI ⊢
  have W0 := Lib.hid (((Old.refl w).alloc (.cells #[.int .i64 pr, .slice oa n ca, .int .i64 ps] 25)).alloc (.cells #[.int .i64 qr, .slice ob m cb, .int .i64 qs] 25))
  have b1 := ((Old.refl (w.alloc (.cells #[.int .i64 pr, .slice oa n ca, .int .i64 ps] 25))).alloc (.cells #[.int .i64 qr, .slice ob m cb, .int .i64 qs] 25)).block w.heap.size (by simp)
  rw [(MapKept.heap_alloc w (.cells #[.int .i64 pr, .slice oa n ca, .int .i64 ps] 25)).1] at b1
  have b2 := (MapKept.heap_alloc (w.alloc (.cells #[.int .i64 pr, .slice oa n ca, .int .i64 ps] 25)) (.cells #[.int .i64 qr, .slice ob m cb, .int .i64 qs] 25)).1
  rw [sz_alloc] at b2
  go_enter Try.func11, Try.ntmps11
  go_upto_region 1 with fail
  generalize hW : (w.alloc (.cells #[.int .i64 pr, .slice oa n ca, .int .i64 ps] 25)).alloc (.cells #[.int .i64 qr, .slice ob m cb, .int .i64 qs] 25) = wr at W0 b1 b2 ⊢
  clear hW
  have c0 : wr.cell? ⟨w.heap.size, 0, none⟩ = some (.int .i64 pr) := by simp [World.cell?, b1]
  have c1 : wr.cell? ⟨w.heap.size, 1, none⟩ = some (.slice oa n ca) := by simp [World.cell?, b1]
  have c2 : wr.cell? ⟨w.heap.size, 2, none⟩ = some (.int .i64 ps) := by simp [World.cell?, b1]
  have d0 : wr.cell? ⟨w.heap.size + 1, 0, none⟩ = some (.int .i64 qr) := by simp [World.cell?, b2]
  have d1 : wr.cell? ⟨w.heap.size + 1, 1, none⟩ = some (.slice ob m cb) := by simp [World.cell?, b2]
  have d2 : wr.cell? ⟨w.heap.size + 1, 2, none⟩ = some (.int .i64 qs) := by simp [World.cell?, b2]
  have l1 := blk_lt b1
  have l2 := blk_lt b2
  clear b1 b2
  refine wp_region_inv (spOf [.eq (.int .u8 s), lsS s, .eq (.int .u8 s), .eq (.agg #[.int .i64 pr, .slice oa n ca, .int .i64 ps]), rkS s (⟨⟨pr, pt, ps⟩, .slice oa n ca⟩ : Aw), .eq (.int .u8 s), .eq (.agg #[.int .i64 qr, .slice ob m cb, .int .i64 qs]), rkS s (⟨⟨qr, qt, qs⟩, .slice ob m cb⟩ : Aw), .eq (.int .i64 R), .eq (.int .i64 R)]) (by kernel_rfl) (by kernel_rfl) (spOf_mono _) ?_ ?_
  · refine ⟨?_, ?_, ?_, ?_, ?_, ?_, ?_, ?_, ?_, ?_, trivial⟩
    · refine step_plain rfl fun ρ w2 ho hr hd => ?_
      have x0 : ρ (.tmp 0) = .int .u8 s := (hr.1 0 rfl).trans rfl
      exact does_move rfl x0 ⟨rfl, Old.refl _⟩
    · refine step_plain rfl fun ρ w2 ho hr hd => ?_
      obtain ⟨h0, _⟩ := hd
      have x0 : ρ (.tmp 7) = .int .u8 s := h0 rfl
      exact does_call1 rfl (hr.2.2.2 _) x0 rfl ((comparisons_any s w2).mono fun e w' ⟨v, he, hl, ho2⟩ => ⟨v, he, hl, ho2⟩)
    · refine step_plain rfl fun ρ w2 ho hr hd => ?_
      have x0 : ρ (.tmp 0) = .int .u8 s := (hr.1 0 rfl).trans rfl
      exact does_move rfl x0 ⟨rfl, Old.refl _⟩
    · refine step_plain rfl fun ρ w2 ho hr hd => ?_
      have x0 : ρ (.tmp 4) = .pointer (some ⟨w.heap.size, 0, none⟩) := (hr.1 4 rfl).trans rfl
      have q0 := (ho.cell l1).trans c0
      have q1 := (ho.cell l1).trans c1
      have q2 := (ho.cell l1).trans c2
      refine does_value (v := .agg #[.int .i64 pr, .slice oa n ca, .int .i64 ps]) (w' := w2) ?_ ⟨rfl, Old.refl _⟩
      unfold execOp
      simp only [x0]
      go_simp
    · refine step_plain rfl fun ρ w2 ho hr hd => ?_
      obtain ⟨h0, h1, h2, _⟩ := hd
      have x0 : ρ (.tmp 9) = .int .u8 s := h0 rfl
      have x1 : ρ (.tmp 10) = av (⟨⟨pr, pt, ps⟩, .slice oa n ca⟩ : Aw) := h1 rfl
      exact does_call2 rfl (hr.2.2.2 _) x0 x1 rfl ((rank_any s (⟨⟨pr, pt, ps⟩, .slice oa n ca⟩ : Aw) (HPI.out.old (W0.out.trans ho)) HPL.out).mono fun e w' ⟨u, he, hi, ho2⟩ => ⟨_, he, ⟨u, rfl, hi.ir⟩, ho2⟩)
    · refine step_plain rfl fun ρ w2 ho hr hd => ?_
      have x0 : ρ (.tmp 0) = .int .u8 s := (hr.1 0 rfl).trans rfl
      exact does_move rfl x0 ⟨rfl, Old.refl _⟩
    · refine step_plain rfl fun ρ w2 ho hr hd => ?_
      have x0 : ρ (.tmp 5) = .pointer (some ⟨w.heap.size + 1, 0, none⟩) := (hr.1 5 rfl).trans rfl
      have q0 := (ho.cell l2).trans d0
      have q1 := (ho.cell l2).trans d1
      have q2 := (ho.cell l2).trans d2
      refine does_value (v := .agg #[.int .i64 qr, .slice ob m cb, .int .i64 qs]) (w' := w2) ?_ ⟨rfl, Old.refl _⟩
      unfold execOp
      simp only [x0]
      go_simp
    · refine step_plain rfl fun ρ w2 ho hr hd => ?_
      obtain ⟨h0, h1, h2, _⟩ := hd
      have x0 : ρ (.tmp 12) = .int .u8 s := h0 rfl
      have x1 : ρ (.tmp 13) = av (⟨⟨qr, qt, qs⟩, .slice ob m cb⟩ : Aw) := h1 rfl
      exact does_call2 rfl (hr.2.2.2 _) x0 x1 rfl ((rank_any s (⟨⟨qr, qt, qs⟩, .slice ob m cb⟩ : Aw) (HQI.out.old (W0.out.trans ho)) HQL.out).mono fun e w' ⟨u, he, hi, ho2⟩ => ⟨_, he, ⟨u, rfl, hi.ir⟩, ho2⟩)
    · refine step_plain rfl fun ρ w2 ho hr hd => ?_
      obtain ⟨h0, h1, h2, h3, _⟩ := hd
      have p1 : LS w2 (ρ (.tmp 8)) s := h0 rfl
      have p2 : ∃ u, ρ (.tmp 11) = rv ((⟨pr, pt, ps⟩, .slice oa n ca), u) ∧ IR w2 u (vec s pt) := h1 rfl
      have p3 : ∃ u, ρ (.tmp 14) = rv ((⟨qr, qt, qs⟩, .slice ob m cb), u) ∧ IR w2 u (vec s qt) := h2 rfl
      obtain ⟨u1, e1, i1⟩ := p2
      obtain ⟨u2, e2, i2⟩ := p3
      exact does_call3 rfl (hr.2.2.2 _) rfl e1 e2 rfl ((compare_any ((⟨pr, pt, ps⟩, .slice oa n ca), u1) ((⟨qr, qt, qs⟩, .slice ob m cb), u2) p1 ⟨HPI.out.old (W0.out.trans ho), i1⟩ ⟨HQI.out.old (W0.out.trans ho), i2⟩).mono fun e w' h => ⟨_, h.1, congrArg (Value.int .i64) HR.out, h.2.old⟩)
    · refine step_plain rfl fun ρ w2 ho hr hd => ?_
      obtain ⟨h0, h1, h2, h3, h4, h5, h6, h7, h8, h9, h10, _⟩ := hd
      have x0 : ρ (.tmp 15) = .int .i64 R := h0 rfl
      exact does_assign rfl x0 ⟨rfl, Old.refl _⟩
  · intro a' w' hoE hst hl
    obtain ⟨_, _, _, _, _, _, _, _, _, k9, _⟩ := hl
    have e9 : a'.eval (.tmp 6) = .int .i64 R := k9
    rw [act_fresh hst [false, false, false, false, false, false, true, true, true, true, true, true, true, true, true, true] (by kernel_rfl) (by kernel_rfl)]
    simp only [fresh, e9]
    clear hst k9 e9
    have HQ := Lib.hid (W0.out.trans hoE)
    clear hoE
    go_wp2_with fail
    go_ret
    exact ⟨rfl, HQ.out⟩
end Go.Proofs.Ytdcfaniimhjghaa
