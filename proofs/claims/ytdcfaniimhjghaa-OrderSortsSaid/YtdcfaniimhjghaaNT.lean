/- OrderTotal: the law's walk. -/
import Derived.Test.YtdcfaniimhjghaaOM
namespace Go.Proofs.Ytdcfaniimhjghaa
open Go.ChangeShapes Go.WideShapes Go.ChangeAt Go.RowKit Go.Lib Go.Sort
set_option linter.unusedVariables false
set_option linter.unusedSimpArgs false
set_option maxRecDepth 100000
set_option maxHeartbeats 6400000

/-- A new slice of activations. -/
theorem ar_new {W : World} {P : List Aw} {n : Nat} {cs : Array Value} (hP : Tups W P) (hn : n = P.length) (hc : cs.toList = acs P) (hl : n ≤ 1000) {b : Nat} (h : W.heap[b]? = some (.cells cs 25 (0, 0))) : AR W (.slice (some ⟨b, 0, none⟩) n n) P := by
  subst hn
  refine ⟨CR.owned (base := 0) (e := 25) ⟨acs_len P, Or.inr ⟨b, P.length, cs, rfl, Nat.zero_le _, h, Nat.le_refl _, by unfold maxLen; omega, ?_, ?_⟩⟩, hP⟩
  · rw [← acs_len, ← hc]; simp
  · rw [← acs_len, ← hc, List.take_length]
theorem total_any (s : Int) (p q r : Aw) (w : World) (hp : IR w p.2 p.1.tup) (hq : IR w q.2 q.1.tup) (hr : IR w r.2 r.1.tup) :
    Calls Try.prog 4 #[.int .u8 s, av p, av q, av r] w fun e w' => e = .returned (.bool true) ∧ Old w w' := by
  obtain ⟨⟨pr, pt, ps⟩, pv⟩ := p
  obtain ⟨⟨qr, qt, qs⟩, qv⟩ := q
  obtain ⟨⟨rr, rt, rs⟩, rv⟩ := r
  simp only at hp hq hr
  have Ip := Lib.hid hp
  have Iq := Lib.hid hq
  have Ir := Lib.hid hr
  obtain ⟨oa, ca, rfl⟩ := hp.slice
  obtain ⟨ob, cb, rfl⟩ := hq.slice
  obtain ⟨oc, cc, rfl⟩ := hr.slice
  clear hp hq hr
  unfold av
  simp only
  obtain ⟨np, hnp⟩ : ∃ n, n = pt.length := ⟨_, rfl⟩
  obtain ⟨nq, hnq⟩ : ∃ n, n = qt.length := ⟨_, rfl⟩
  obtain ⟨nr, hnr⟩ : ∃ n, n = rt.length := ⟨_, rfl⟩
  rw [← hnp, ← hnq, ← hnr]
  rw [← hnp] at Ip
  rw [← hnq] at Iq
  rw [← hnr] at Ir
  have W0 : Hid (Old w ((((w.alloc (.cells #[.int .i64 pr, .slice oa np ca, .int .i64 ps] 25)).alloc (.cells #[.int .i64 qr, .slice ob nq cb, .int .i64 qs] 25)).alloc (.cells #[.int .i64 rr, .slice oc nr cc, .int .i64 rs] 25)).alloc (.cells #[.int .i64 pr, .slice oa np ca, .int .i64 ps, .int .i64 qr, .slice ob nq cb, .int .i64 qs, .int .i64 rr, .slice oc nr cc, .int .i64 rs] 25))) := Lib.hid (((((Old.refl w).alloc _).alloc _).alloc _).alloc _)
  have Bp : Hid (Bx ((((w.alloc (.cells #[.int .i64 pr, .slice oa np ca, .int .i64 ps] 25)).alloc (.cells #[.int .i64 qr, .slice ob nq cb, .int .i64 qs] 25)).alloc (.cells #[.int .i64 rr, .slice oc nr cc, .int .i64 rs] 25)).alloc (.cells #[.int .i64 pr, .slice oa np ca, .int .i64 ps, .int .i64 qr, .slice ob nq cb, .int .i64 qs, .int .i64 rr, .slice oc nr cc, .int .i64 rs] 25)) w.heap.size (⟨⟨pr, pt, ps⟩, .slice oa np ca⟩ : Aw)) := Lib.hid ((Bx.new w (⟨⟨pr, pt, ps⟩, .slice oa np ca⟩ : Aw)).old ((((Old.refl _).alloc _).alloc _).alloc _))
  have Bq : Hid (Bx ((((w.alloc (.cells #[.int .i64 pr, .slice oa np ca, .int .i64 ps] 25)).alloc (.cells #[.int .i64 qr, .slice ob nq cb, .int .i64 qs] 25)).alloc (.cells #[.int .i64 rr, .slice oc nr cc, .int .i64 rs] 25)).alloc (.cells #[.int .i64 pr, .slice oa np ca, .int .i64 ps, .int .i64 qr, .slice ob nq cb, .int .i64 qs, .int .i64 rr, .slice oc nr cc, .int .i64 rs] 25)) (w.heap.size + 1) (⟨⟨qr, qt, qs⟩, .slice ob nq cb⟩ : Aw)) := Lib.hid (by have := (Bx.new (w.alloc (.cells #[.int .i64 pr, .slice oa np ca, .int .i64 ps] 25)) (⟨⟨qr, qt, qs⟩, .slice ob nq cb⟩ : Aw)).old (((Old.refl _).alloc (.cells #[.int .i64 rr, .slice oc nr cc, .int .i64 rs] 25)).alloc (.cells #[.int .i64 pr, .slice oa np ca, .int .i64 ps, .int .i64 qr, .slice ob nq cb, .int .i64 qs, .int .i64 rr, .slice oc nr cc, .int .i64 rs] 25)); rw [sz_alloc] at this; exact this)
  have Br : Hid (Bx ((((w.alloc (.cells #[.int .i64 pr, .slice oa np ca, .int .i64 ps] 25)).alloc (.cells #[.int .i64 qr, .slice ob nq cb, .int .i64 qs] 25)).alloc (.cells #[.int .i64 rr, .slice oc nr cc, .int .i64 rs] 25)).alloc (.cells #[.int .i64 pr, .slice oa np ca, .int .i64 ps, .int .i64 qr, .slice ob nq cb, .int .i64 qs, .int .i64 rr, .slice oc nr cc, .int .i64 rs] 25)) (w.heap.size + 1 + 1) (⟨⟨rr, rt, rs⟩, .slice oc nr cc⟩ : Aw)) := Lib.hid (by have := (Bx.new ((w.alloc (.cells #[.int .i64 pr, .slice oa np ca, .int .i64 ps] 25)).alloc (.cells #[.int .i64 qr, .slice ob nq cb, .int .i64 qs] 25)) (⟨⟨rr, rt, rs⟩, .slice oc nr cc⟩ : Aw)).old ((Old.refl _).alloc (.cells #[.int .i64 pr, .slice oa np ca, .int .i64 ps, .int .i64 qr, .slice ob nq cb, .int .i64 qs, .int .i64 rr, .slice oc nr cc, .int .i64 rs] 25)); rw [sz_alloc, sz_alloc] at this; exact this)
  have GR := Lib.hid (great_any (w := ((((w.alloc (.cells #[.int .i64 pr, .slice oa np ca, .int .i64 ps] 25)).alloc (.cells #[.int .i64 qr, .slice ob nq cb, .int .i64 qs] 25)).alloc (.cells #[.int .i64 rr, .slice oc nr cc, .int .i64 rs] 25)).alloc (.cells #[.int .i64 pr, .slice oa np ca, .int .i64 ps, .int .i64 qr, .slice ob nq cb, .int .i64 qs, .int .i64 rr, .slice oc nr cc, .int .i64 rs] 25))) (v := .slice (some ⟨w.heap.size + 1 + 1 + 1, 0, none⟩) 3 3) (P := [(⟨⟨pr, pt, ps⟩, .slice oa np ca⟩ : Aw), (⟨⟨qr, qt, qs⟩, .slice ob nq cb⟩ : Aw), (⟨⟨rr, rt, rs⟩, .slice oc nr cc⟩ : Aw)]) (ar_new (n := 3) (P := [(⟨⟨pr, pt, ps⟩, .slice oa np ca⟩ : Aw), (⟨⟨qr, qt, qs⟩, .slice ob nq cb⟩ : Aw), (⟨⟨rr, rt, rs⟩, .slice oc nr cc⟩ : Aw)]) (cs := #[.int .i64 pr, .slice oa np ca, .int .i64 ps, .int .i64 qr, .slice ob nq cb, .int .i64 qs, .int .i64 rr, .slice oc nr cc, .int .i64 rs]) (fun x hx => by
    simp only [List.mem_cons, List.not_mem_nil, or_false] at hx
    rcases hx with rfl | rfl | rfl
    · exact Ip.out.old W0.out
    · exact Iq.out.old W0.out
    · exact Ir.out.old W0.out) rfl rfl (by omega) (by have := (MapKept.heap_alloc (((w.alloc (.cells #[.int .i64 pr, .slice oa np ca, .int .i64 ps] 25)).alloc (.cells #[.int .i64 qr, .slice ob nq cb, .int .i64 qs] 25)).alloc (.cells #[.int .i64 rr, .slice oc nr cc, .int .i64 rs] 25)) (.cells #[.int .i64 pr, .slice oa np ca, .int .i64 ps, .int .i64 qr, .slice ob nq cb, .int .i64 qs, .int .i64 rr, .slice oc nr cc, .int .i64 rs] 25)).1; rw [sz_alloc, sz_alloc, sz_alloc] at this; exact this)) 3)
  simp only [List.map_cons, List.map_nil] at GR
  have K := Lib.hid (fun W => known_any W)
  cases hR : grt [⟨pr, pt, ps⟩, ⟨qr, qt, qs⟩, ⟨rr, rt, rs⟩] 3 with
  | true =>
    rw [hR] at GR
    clear hR Bp Bq Br hnp hnq hnr
    go_enter Try.func4, Try.ntmps4
    go_wp2_with (first | (go_at_call 7; (with_reducible refine GR.out.mono ?_); rintro e w2 ⟨rfl, rfl⟩) | (go_at_call 8; (with_reducible refine (K.out _).mono ?_); rintro e w3 ⟨rfl, ho⟩; have O3 := Lib.hid ho; clear ho))
    go_ret
    exact ⟨rfl, W0.out.trans O3.out⟩
  | false =>
    rw [hR] at GR
    obtain ⟨hl, _⟩ := grt_false hR
    have Lp := Lib.hid (show pt.length ≤ 1000000 by have := hl ⟨pr, pt, ps⟩ (by simp); simp only at this; omega)
    have Lq := Lib.hid (show qt.length ≤ 1000000 by have := hl ⟨qr, qt, qs⟩ (by simp); simp only at this; omega)
    have Lr := Lib.hid (show rt.length ≤ 1000000 by have := hl ⟨rr, rt, rs⟩ (by simp); simp only at this; omega)
    obtain ⟨x, hx⟩ : ∃ x, cmpA s ⟨pr, pt, ps⟩ ⟨qr, qt, qs⟩ = x := ⟨_, rfl⟩
    obtain ⟨y, hy⟩ : ∃ x, cmpA s ⟨qr, qt, qs⟩ ⟨rr, rt, rs⟩ = x := ⟨_, rfl⟩
    obtain ⟨z, hz⟩ : ∃ x, cmpA s ⟨pr, pt, ps⟩ ⟨rr, rt, rs⟩ = x := ⟨_, rfl⟩
    have HX := Lib.hid hx
    have HY := Lib.hid hy
    have HZ := Lib.hid hz
    clear hR hl hnp hnq hnr hx hy hz
    go_enter Try.func4, Try.ntmps4
    go_upto_region 3 with (first | (go_at_call 7; (with_reducible refine GR.out.mono ?_); rintro e w2 ⟨rfl, rfl⟩))
    clear GR
    obtain ⟨g1, hg1⟩ : ∃ g, g = w.heap.size := ⟨_, rfl⟩
    obtain ⟨g2, hg2⟩ : ∃ g, g = w.heap.size + 1 := ⟨_, rfl⟩
    obtain ⟨g3, hg3⟩ : ∃ g, g = w.heap.size + 1 + 1 := ⟨_, rfl⟩
    rw [← hg3] at Br
    rw [← hg2] at Bq
    rw [← hg1] at Bp
    generalize hW : ((((w.alloc (.cells #[.int .i64 pr, .slice oa np ca, .int .i64 ps] 25)).alloc (.cells #[.int .i64 qr, .slice ob nq cb, .int .i64 qs] 25)).alloc (.cells #[.int .i64 rr, .slice oc nr cc, .int .i64 rs] 25)).alloc (.cells #[.int .i64 pr, .slice oa np ca, .int .i64 ps, .int .i64 qr, .slice ob nq cb, .int .i64 qs, .int .i64 rr, .slice oc nr cc, .int .i64 rs] 25)) = wr at W0 Bp Bq Br ⊢
    rw [← hg3, ← hg2, ← hg1]
    clear hW hg1 hg2 hg3
    refine wp_region_inv (spOf [.eq (.int .u8 s), .eq (.agg #[.int .i64 pr, .slice oa np ca, .int .i64 ps]), .eq (.agg #[.int .i64 qr, .slice ob nq cb, .int .i64 qs]), .eq (.int .i64 x), .eq (.int .u8 s), .eq (.agg #[.int .i64 qr, .slice ob nq cb, .int .i64 qs]), .eq (.agg #[.int .i64 rr, .slice oc nr cc, .int .i64 rs]), .eq (.int .i64 y), .eq (.int .u8 s), .eq (.agg #[.int .i64 pr, .slice oa np ca, .int .i64 ps]), .eq (.agg #[.int .i64 rr, .slice oc nr cc, .int .i64 rs]), .eq (.int .i64 z), .eq (.int .i64 x), .eq (.int .i64 y), .eq (.int .i64 z)]) (by kernel_rfl) (by kernel_rfl) (spOf_mono _) ?_ ?_
    · refine ⟨?_, ?_, ?_, ?_, ?_, ?_, ?_, ?_, ?_, ?_, ?_, ?_, ?_, ?_, ?_, trivial⟩
      · refine step_plain rfl fun ρ w2 ho hr hd => ?_
        have x0 : ρ (.tmp 0) = .int .u8 s := (hr.1 0 rfl).trans rfl
        exact does_move rfl x0 ⟨rfl, Old.refl _⟩
      · refine step_plain rfl fun ρ w2 ho hr hd => ?_
        have x0 : ρ (.tmp 5) = .pointer (some ⟨g1, 0, none⟩) := (hr.1 5 rfl).trans rfl
        have q0 := (ho.cell Bp.out.lt).trans Bp.out.c0
        have q1 := (ho.cell Bp.out.lt).trans Bp.out.c1
        have q2 := (ho.cell Bp.out.lt).trans Bp.out.c2
        refine does_value (v := .agg #[.int .i64 pr, .slice oa np ca, .int .i64 ps]) (w' := w2) ?_ ⟨rfl, Old.refl _⟩
        unfold execOp
        simp only [x0]
        go_simp
      · refine step_plain rfl fun ρ w2 ho hr hd => ?_
        have x0 : ρ (.tmp 6) = .pointer (some ⟨g2, 0, none⟩) := (hr.1 6 rfl).trans rfl
        have q0 := (ho.cell Bq.out.lt).trans Bq.out.c0
        have q1 := (ho.cell Bq.out.lt).trans Bq.out.c1
        have q2 := (ho.cell Bq.out.lt).trans Bq.out.c2
        refine does_value (v := .agg #[.int .i64 qr, .slice ob nq cb, .int .i64 qs]) (w' := w2) ?_ ⟨rfl, Old.refl _⟩
        unfold execOp
        simp only [x0]
        go_simp
      · refine step_plain rfl fun ρ w2 ho hr hd => ?_
        obtain ⟨h0, h1, h2, _⟩ := hd
        have x0 : ρ (.tmp 18) = .int .u8 s := h0 rfl
        have x1 : ρ (.tmp 19) = av (⟨⟨pr, pt, ps⟩, .slice oa np ca⟩ : Aw) := h1 rfl
        have x2 : ρ (.tmp 20) = av (⟨⟨qr, qt, qs⟩, .slice ob nq cb⟩ : Aw) := h2 rfl
        exact does_call3 rfl (hr.2.2.2 _) x0 x1 x2 rfl ((cmp_any s (⟨⟨pr, pt, ps⟩, .slice oa np ca⟩ : Aw) (⟨⟨qr, qt, qs⟩, .slice ob nq cb⟩ : Aw) (Ip.out.old (W0.out.trans ho)) (Iq.out.old (W0.out.trans ho)) Lp.out Lq.out).mono fun e w' h => ⟨_, h.1, congrArg (Value.int .i64) HX.out, h.2⟩)
      · refine step_plain rfl fun ρ w2 ho hr hd => ?_
        have x0 : ρ (.tmp 0) = .int .u8 s := (hr.1 0 rfl).trans rfl
        exact does_move rfl x0 ⟨rfl, Old.refl _⟩
      · refine step_plain rfl fun ρ w2 ho hr hd => ?_
        have x0 : ρ (.tmp 6) = .pointer (some ⟨g2, 0, none⟩) := (hr.1 6 rfl).trans rfl
        have q0 := (ho.cell Bq.out.lt).trans Bq.out.c0
        have q1 := (ho.cell Bq.out.lt).trans Bq.out.c1
        have q2 := (ho.cell Bq.out.lt).trans Bq.out.c2
        refine does_value (v := .agg #[.int .i64 qr, .slice ob nq cb, .int .i64 qs]) (w' := w2) ?_ ⟨rfl, Old.refl _⟩
        unfold execOp
        simp only [x0]
        go_simp
      · refine step_plain rfl fun ρ w2 ho hr hd => ?_
        have x0 : ρ (.tmp 7) = .pointer (some ⟨g3, 0, none⟩) := (hr.1 7 rfl).trans rfl
        have q0 := (ho.cell Br.out.lt).trans Br.out.c0
        have q1 := (ho.cell Br.out.lt).trans Br.out.c1
        have q2 := (ho.cell Br.out.lt).trans Br.out.c2
        refine does_value (v := .agg #[.int .i64 rr, .slice oc nr cc, .int .i64 rs]) (w' := w2) ?_ ⟨rfl, Old.refl _⟩
        unfold execOp
        simp only [x0]
        go_simp
      · refine step_plain rfl fun ρ w2 ho hr hd => ?_
        obtain ⟨h0, h1, h2, h3, _⟩ := hd
        have x0 : ρ (.tmp 22) = .int .u8 s := h0 rfl
        have x1 : ρ (.tmp 23) = av (⟨⟨qr, qt, qs⟩, .slice ob nq cb⟩ : Aw) := h1 rfl
        have x2 : ρ (.tmp 24) = av (⟨⟨rr, rt, rs⟩, .slice oc nr cc⟩ : Aw) := h2 rfl
        exact does_call3 rfl (hr.2.2.2 _) x0 x1 x2 rfl ((cmp_any s (⟨⟨qr, qt, qs⟩, .slice ob nq cb⟩ : Aw) (⟨⟨rr, rt, rs⟩, .slice oc nr cc⟩ : Aw) (Iq.out.old (W0.out.trans ho)) (Ir.out.old (W0.out.trans ho)) Lq.out Lr.out).mono fun e w' h => ⟨_, h.1, congrArg (Value.int .i64) HY.out, h.2⟩)
      · refine step_plain rfl fun ρ w2 ho hr hd => ?_
        have x0 : ρ (.tmp 0) = .int .u8 s := (hr.1 0 rfl).trans rfl
        exact does_move rfl x0 ⟨rfl, Old.refl _⟩
      · refine step_plain rfl fun ρ w2 ho hr hd => ?_
        have x0 : ρ (.tmp 5) = .pointer (some ⟨g1, 0, none⟩) := (hr.1 5 rfl).trans rfl
        have q0 := (ho.cell Bp.out.lt).trans Bp.out.c0
        have q1 := (ho.cell Bp.out.lt).trans Bp.out.c1
        have q2 := (ho.cell Bp.out.lt).trans Bp.out.c2
        refine does_value (v := .agg #[.int .i64 pr, .slice oa np ca, .int .i64 ps]) (w' := w2) ?_ ⟨rfl, Old.refl _⟩
        unfold execOp
        simp only [x0]
        go_simp
      · refine step_plain rfl fun ρ w2 ho hr hd => ?_
        have x0 : ρ (.tmp 7) = .pointer (some ⟨g3, 0, none⟩) := (hr.1 7 rfl).trans rfl
        have q0 := (ho.cell Br.out.lt).trans Br.out.c0
        have q1 := (ho.cell Br.out.lt).trans Br.out.c1
        have q2 := (ho.cell Br.out.lt).trans Br.out.c2
        refine does_value (v := .agg #[.int .i64 rr, .slice oc nr cc, .int .i64 rs]) (w' := w2) ?_ ⟨rfl, Old.refl _⟩
        unfold execOp
        simp only [x0]
        go_simp
      · refine step_plain rfl fun ρ w2 ho hr hd => ?_
        obtain ⟨h0, h1, h2, h3, _⟩ := hd
        have x0 : ρ (.tmp 26) = .int .u8 s := h0 rfl
        have x1 : ρ (.tmp 27) = av (⟨⟨pr, pt, ps⟩, .slice oa np ca⟩ : Aw) := h1 rfl
        have x2 : ρ (.tmp 28) = av (⟨⟨rr, rt, rs⟩, .slice oc nr cc⟩ : Aw) := h2 rfl
        exact does_call3 rfl (hr.2.2.2 _) x0 x1 x2 rfl ((cmp_any s (⟨⟨pr, pt, ps⟩, .slice oa np ca⟩ : Aw) (⟨⟨rr, rt, rs⟩, .slice oc nr cc⟩ : Aw) (Ip.out.old (W0.out.trans ho)) (Ir.out.old (W0.out.trans ho)) Lp.out Lr.out).mono fun e w' h => ⟨_, h.1, congrArg (Value.int .i64) HZ.out, h.2⟩)
      · refine step_plain rfl fun ρ w2 ho hr hd => ?_
        obtain ⟨h0, h1, h2, h3, h4, h5, h6, h7, h8, h9, h10, h11, h12, h13, _⟩ := hd
        have x0 : ρ (.tmp 21) = .int .i64 x := h0 rfl
        exact does_assign rfl x0 ⟨rfl, Old.refl _⟩
      · refine step_plain rfl fun ρ w2 ho hr hd => ?_
        obtain ⟨h0, h1, h2, h3, h4, h5, h6, h7, h8, h9, h10, h11, h12, h13, h14, _⟩ := hd
        have x0 : ρ (.tmp 25) = .int .i64 y := h0 rfl
        exact does_assign rfl x0 ⟨rfl, Old.refl _⟩
      · refine step_plain rfl fun ρ w2 ho hr hd => ?_
        obtain ⟨h0, h1, h2, h3, h4, h5, h6, h7, h8, h9, h10, h11, h12, h13, h14, h15, _⟩ := hd
        have x0 : ρ (.tmp 29) = .int .i64 z := h0 rfl
        exact does_assign rfl x0 ⟨rfl, Old.refl _⟩
    · intro a' w' hoE hst hl
      obtain ⟨_, _, _, _, _, _, _, _, _, _, _, _, k12, k13, k14, _⟩ := hl
      have e12 : a'.eval (.tmp 9) = .int .i64 x := k12
      have e13 : a'.eval (.tmp 10) = .int .i64 y := k13
      have e14 : a'.eval (.tmp 11) = .int .i64 z := k14
      rw [act_fresh hst [false, false, false, false, false, false, false, false, false, true, true, true, false, false, false, false, false, false, true, true, true, true, true, true, true, true, true, true, true, true, false, false, false, false, false, false, false, false, false, false, false, false, false, false, false, false, false, false, false, false, false, false, false, false, false, false, false, false, false, false, false, false, false, false, false, false, false, false, false, false, false, false, false, false, false, false, false, false, false, false, false, false, false, false, false, false, false, false] (by kernel_rfl) (by kernel_rfl)]
      simp only [fresh, e12, e13, e14]
      clear hst k12 e12 k13 e13 k14 e14
      have W1 := Lib.hid (W0.out.trans hoE)
      have Bp' := Lib.hid (Bp.out.old hoE)
      have Bq' := Lib.hid (Bq.out.old hoE)
      have Br' := Lib.hid (Br.out.old hoE)
      clear hoE Bp Bq Br
      have e0 := Bp'.out.c0
      have e1 := Bp'.out.c1
      have e2 := Bp'.out.c2
      have f0 := Bq'.out.c0
      have f1 := Bq'.out.c1
      have f2 := Bq'.out.c2
      simp only at e0 e1 e2 f0 f1 f2
      go_upto_region 4 with fail
      go_cut [75] from 18 (fun s75 wx => s75 = .bool false ∧ Hid (Old w' wx))
      case first =>
        have h1 := Lib.hid (cmp_any s (⟨⟨qr, qt, qs⟩, .slice ob nq cb⟩ : Aw) (⟨⟨pr, pt, ps⟩, .slice oa np ca⟩ : Aw) (Iq.out.old W1.out) (Ip.out.old W1.out) Lq.out Lp.out)
        have h2 := Lib.hid (fun W (ho : Old w' W) => same_any (⟨⟨pr, pt, ps⟩, .slice oa np ca⟩ : Aw) (⟨⟨qr, qt, qs⟩, .slice ob nq cb⟩ : Aw) (Ip.out.old (W1.out.trans ho)) (Iq.out.old (W1.out.trans ho)))
        have hx := HX.out
        have hx' := (cp_cmpA s).anti ⟨pr, pt, ps⟩ ⟨qr, qt, qs⟩
        have hrx := (cp_cmpA s).rng ⟨pr, pt, ps⟩ ⟨qr, qt, qs⟩
        have hry := (cp_cmpA s).rng ⟨qr, qt, qs⟩ ⟨rr, rt, rs⟩
        have hrz := (cp_cmpA s).rng ⟨pr, pt, ps⟩ ⟨rr, rt, rs⟩
        have ht1 := (cp_cmpA s).trans ⟨pr, pt, ps⟩ ⟨qr, qt, qs⟩ ⟨rr, rt, rs⟩
        have a1 := (cp_cmpA s).anti ⟨qr, qt, qs⟩ ⟨rr, rt, rs⟩
        have a2 := (cp_cmpA s).anti ⟨pr, pt, ps⟩ ⟨rr, rt, rs⟩
        have hz0 := cmpA_iff s ⟨pr, pt, ps⟩ ⟨qr, qt, qs⟩
        rw [hx] at hx' hrx ht1 hz0
        rw [HY.out] at hry ht1 a1
        rw [HZ.out] at hrz ht1 a2
        have ht2 : 0 ≤ x → 0 ≤ y → 0 ≤ z := fun h1 h2 => by
          have := (cp_cmpA s).trans ⟨rr, rt, rs⟩ ⟨qr, qt, qs⟩ ⟨pr, pt, ps⟩ (by omega) (by omega)
          omega
        generalize hxx : cmpA s ⟨qr, qt, qs⟩ ⟨pr, pt, ps⟩ = x' at h1 hx'
        have hS : sameP ⟨pr, pt, ps⟩ ⟨qr, qt, qs⟩ = true ∧ ps = qs ↔ x = 0 := by
          rw [hz0]
          unfold sameP
          simp
          constructor
          · rintro ⟨⟨h1, h2⟩, h3⟩; exact ⟨h1, h2, h3⟩
          · rintro ⟨h1, h2, h3⟩; exact ⟨⟨h1, h2⟩, h3⟩
        unfold av at h1 h2
        simp only at h1 h2
        generalize sameP ⟨pr, pt, ps⟩ ⟨qr, qt, qs⟩ = S at h2 hS
        clear hz0 a1 a2 hxx hx
        have hk1 : ¬ (x ≤ 0 ∧ y ≤ 0 ∧ 0 < z) := fun h => by have := ht1 h.1 h.2.1; omega
        have hk2 : ¬ (0 ≤ x ∧ 0 ≤ y ∧ z < 0) := fun h => by have := ht2 h.1 h.2.1; omega
        clear ht1 ht2
        have HK := Lib.hid (And.intro hk1 hk2)
        clear hk1 hk2
        have Hx' := Lib.hid hx'
        clear hx'
        rcases hrx with rfl | rfl | rfl
        · obtain rfl : x' = 1 := by have := Hx'.out; omega
          have hS' : ¬ (S = true ∧ ps = qs) := fun h => by have := hS.1 h; omega
          clear hS
          cases S with
          | true =>
            have hne : (ps == qs) = false := by simp at hS'; simpa using hS'
            clear hS'
            rcases hry with rfl | rfl | rfl <;> rcases hrz with rfl | rfl | rfl <;> first
              | (exfalso; have := HK.out; omega)
              | (as_aux_lemma =>
                  go_wp2_with (first
                      | (go_at_call 11; (with_reducible refine h1.out.mono ?_); rintro e3 w4 ⟨rfl, ho⟩; have d0 := (Bp'.out.old ho).c0; have d1 := (Bp'.out.old ho).c1; have d2 := (Bp'.out.old ho).c2; have c0 := (Bq'.out.old ho).c0; have c1 := (Bq'.out.old ho).c1; have c2 := (Bq'.out.old ho).c2; simp only at d0 d1 d2 c0 c1 c2; have O2 := Lib.hid ho; clear ho)
                      | (go_at_call 14; (with_reducible refine (h2.out _ O2.out).mono ?_); rintro e4 w5 ⟨rfl, ho⟩; have d0 := (Bp'.out.old (O2.out.trans ho)).c0; have d2 := (Bp'.out.old (O2.out.trans ho)).c2; have c2 := (Bq'.out.old (O2.out.trans ho)).c2; simp only at d0 d2 c2; have O3 := Lib.hid (O2.out.trans ho); clear ho))
                  go_meet
                  exact ⟨rfl, O3⟩)
          | false =>
            clear hS'
            rcases hry with rfl | rfl | rfl <;> rcases hrz with rfl | rfl | rfl <;> first
              | (exfalso; have := HK.out; omega)
              | (as_aux_lemma =>
                  go_wp2_with (first
                      | (go_at_call 11; (with_reducible refine h1.out.mono ?_); rintro e3 w4 ⟨rfl, ho⟩; have d0 := (Bp'.out.old ho).c0; have d1 := (Bp'.out.old ho).c1; have d2 := (Bp'.out.old ho).c2; have c0 := (Bq'.out.old ho).c0; have c1 := (Bq'.out.old ho).c1; have c2 := (Bq'.out.old ho).c2; simp only at d0 d1 d2 c0 c1 c2; have O2 := Lib.hid ho; clear ho)
                      | (go_at_call 14; (with_reducible refine (h2.out _ O2.out).mono ?_); rintro e4 w5 ⟨rfl, ho⟩; have d0 := (Bp'.out.old (O2.out.trans ho)).c0; have d2 := (Bp'.out.old (O2.out.trans ho)).c2; have c2 := (Bq'.out.old (O2.out.trans ho)).c2; simp only at d0 d2 c2; have O3 := Lib.hid (O2.out.trans ho); clear ho))
                  go_meet
                  exact ⟨rfl, O3⟩)
        · obtain rfl : x' = 0 := by have := Hx'.out; omega
          obtain ⟨rfl, rfl⟩ := hS.2 rfl
          clear hS
          have heq : (ps == ps) = true := by simp
          rcases hry with rfl | rfl | rfl <;> rcases hrz with rfl | rfl | rfl <;> first
            | (exfalso; have := HK.out; omega)
            | (as_aux_lemma =>
                go_wp2_with (first
                    | (go_at_call 11; (with_reducible refine h1.out.mono ?_); rintro e3 w4 ⟨rfl, ho⟩; have d0 := (Bp'.out.old ho).c0; have d1 := (Bp'.out.old ho).c1; have d2 := (Bp'.out.old ho).c2; have c0 := (Bq'.out.old ho).c0; have c1 := (Bq'.out.old ho).c1; have c2 := (Bq'.out.old ho).c2; simp only at d0 d1 d2 c0 c1 c2; have O2 := Lib.hid ho; clear ho)
                    | (go_at_call 14; (with_reducible refine (h2.out _ O2.out).mono ?_); rintro e4 w5 ⟨rfl, ho⟩; have d0 := (Bp'.out.old (O2.out.trans ho)).c0; have d2 := (Bp'.out.old (O2.out.trans ho)).c2; have c2 := (Bq'.out.old (O2.out.trans ho)).c2; simp only at d0 d2 c2; have O3 := Lib.hid (O2.out.trans ho); clear ho))
                go_meet
                exact ⟨rfl, O3⟩)
        · obtain rfl : x' = -1 := by have := Hx'.out; omega
          have hS' : ¬ (S = true ∧ ps = qs) := fun h => by have := hS.1 h; omega
          clear hS
          cases S with
          | true =>
            have hne : (ps == qs) = false := by simp at hS'; simpa using hS'
            clear hS'
            rcases hry with rfl | rfl | rfl <;> rcases hrz with rfl | rfl | rfl <;> first
              | (exfalso; have := HK.out; omega)
              | (as_aux_lemma =>
                  go_wp2_with (first
                      | (go_at_call 11; (with_reducible refine h1.out.mono ?_); rintro e3 w4 ⟨rfl, ho⟩; have d0 := (Bp'.out.old ho).c0; have d1 := (Bp'.out.old ho).c1; have d2 := (Bp'.out.old ho).c2; have c0 := (Bq'.out.old ho).c0; have c1 := (Bq'.out.old ho).c1; have c2 := (Bq'.out.old ho).c2; simp only at d0 d1 d2 c0 c1 c2; have O2 := Lib.hid ho; clear ho)
                      | (go_at_call 14; (with_reducible refine (h2.out _ O2.out).mono ?_); rintro e4 w5 ⟨rfl, ho⟩; have d0 := (Bp'.out.old (O2.out.trans ho)).c0; have d2 := (Bp'.out.old (O2.out.trans ho)).c2; have c2 := (Bq'.out.old (O2.out.trans ho)).c2; simp only at d0 d2 c2; have O3 := Lib.hid (O2.out.trans ho); clear ho))
                  go_meet
                  exact ⟨rfl, O3⟩)
          | false =>
            clear hS'
            rcases hry with rfl | rfl | rfl <;> rcases hrz with rfl | rfl | rfl <;> first
              | (exfalso; have := HK.out; omega)
              | (as_aux_lemma =>
                  go_wp2_with (first
                      | (go_at_call 11; (with_reducible refine h1.out.mono ?_); rintro e3 w4 ⟨rfl, ho⟩; have d0 := (Bp'.out.old ho).c0; have d1 := (Bp'.out.old ho).c1; have d2 := (Bp'.out.old ho).c2; have c0 := (Bq'.out.old ho).c0; have c1 := (Bq'.out.old ho).c1; have c2 := (Bq'.out.old ho).c2; simp only at d0 d1 d2 c0 c1 c2; have O2 := Lib.hid ho; clear ho)
                      | (go_at_call 14; (with_reducible refine (h2.out _ O2.out).mono ?_); rintro e4 w5 ⟨rfl, ho⟩; have d0 := (Bp'.out.old (O2.out.trans ho)).c0; have d2 := (Bp'.out.old (O2.out.trans ho)).c2; have c2 := (Bq'.out.old (O2.out.trans ho)).c2; simp only at d0 d2 c2; have O3 := Lib.hid (O2.out.trans ho); clear ho))
                  go_meet
                  exact ⟨rfl, O3⟩)
      case rest =>
      obtain ⟨rfl, O2⟩ := hcut
      have K := Lib.hid (fun W => known_any W)
      have e2 := (Bp'.out.old O2.out).c2
      have f2 := (Bq'.out.old O2.out).c2
      simp only at e2 f2
      by_cases hle : ps ≤ qs
      · go_wp2_with (first | (go_at_call 8; (with_reducible refine (K.out _).mono ?_); rintro e3 w4 ⟨rfl, ho⟩; have O3 := Lib.hid ho; clear ho))
        go_ret
        exact ⟨rfl, W1.out.trans (O2.out.trans O3.out)⟩
      · have hx1 : x = -1 := by
          rw [← HX.out, cmpA_eq]
          rcases cI_cases qs ps with ⟨_, h⟩ | ⟨h, _⟩ | ⟨h, _⟩
          · rw [h]; rfl
          · omega
          · omega
        have HX1 := Lib.hid hx1
        subst hx1
        go_wp2_with (first | (go_at_call 8; (with_reducible refine (K.out _).mono ?_); rintro e3 w4 ⟨rfl, ho⟩; have O3 := Lib.hid ho; clear ho))
        go_ret
        exact ⟨rfl, W1.out.trans (O2.out.trans O3.out)⟩
end Go.Proofs.Ytdcfaniimhjghaa
