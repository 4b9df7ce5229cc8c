/- OrderSorts: the law's walk. -/
import Derived.Test.YtdcfaniimhjghaaOM
import Derived.Test.YtdcfaniimhjghaaNR
import Derived.Test.YtdcfaniimhjghaaNA
import Derived.Test.YtdcfaniimhjghaaNT
import Derived.Deep.CutRange
namespace Go.Proofs.Ytdcfaniimhjghaa
open Go.ChangeShapes Go.WideShapes Go.ChangeAt Go.RowKit Go.Lib Go.Sort Go.Shelf
set_option linter.unusedVariables false
set_option linter.unusedSimpArgs false
set_option maxRecDepth 100000
set_option maxHeartbeats 6400000

theorem ints_kept {w w' : World} {base base' : Nat} {v r : Value} {l : List Int} {n : Nat} {cs : List Value} (h : Ints w base v l) (hr : w.ownsRow base' 25 3 r n cs) (hg : w.grownBy w' r.ownBlock) : Ints w' base v l := by
  refine ⟨h.1, ?_⟩
  rcases h.2 with h' | ⟨g, cap, cur, rfl, hb', hgg, hc'⟩
  · exact Or.inl h'
  · refine Or.inr ⟨g, cap, cur, rfl, hb', (hg.block g (blk_lt hgg) ?_).trans hgg, hc'⟩
    intro e
    rcases hr.2 with ⟨rfl, _⟩ | ⟨g', _, cur', rfl, _, hg', _⟩
    · cases e
    · obtain rfl : g = g' := Option.some.inj e
      rw [hgg] at hg'
      simp at hg'
theorem bx_set {w : World} {g : Nat} {p : Aw} (h : Bx w g p) (v : Value) : Bx (w.setCell ⟨g, 1, none⟩ v) g (p.1, v) := by
  unfold Bx at h ⊢
  simp [World.setCell, Array.getElem?_modify, h]
theorem bx_frozen {w : World} {g : Nat} {p : Aw} (h : Bx w g p) (o : Nat) : w.frozen? ⟨g, o, none⟩ = false := by
  unfold Bx at h
  simp [World.frozen?, h]
theorem row_other {w : World} {t : TypeId} {k g n : Nat} {E : List (List Value)} (h : Row w t k g n E) {p : Addr} (hp : p.block ≠ g) (u : Value) : Row (w.setCell p u) t k g n E := by
  obtain ⟨cur, h1, h2⟩ := h
  exact ⟨cur, ((Chg.ofSet w p u).block g (blk_lt h1) (fun e => hp e.symm)).trans h1, h2⟩
theorem ints_put {W : World} {base : Nat} {v : Value} {l : List Int} (h : Ints W base v l) (g k : Nat) (z : Int) : ∃ l', l'.length = l.length ∧ Ints (W.setCell ⟨g, k, none⟩ (.int .i64 z)) base v l' := by
  rcases h.2 with ⟨rfl, e⟩ | ⟨g', cap, cur, rfl, hb, hg, hc, hm, hsz, ht⟩
  · exact ⟨l, rfl, h.1, Or.inl ⟨rfl, e⟩⟩
  · by_cases hgg : g' = g
    · subst hgg
      refine ⟨l.set k z, by simp, by simp [ics], Or.inr ⟨g', cap, cur.setIfInBounds k (.int .i64 z), by simp, hb, by simp [World.setCell, Array.getElem?_modify, hg], by simpa using hc, hm, by simpa using hsz, ?_⟩⟩
      rw [Array.toList_setIfInBounds, List.length_set, List.take_set, ht]
      simp [ics, List.map_set]
    · refine ⟨l, rfl, row_chg h (Chg.ofSet W ⟨g, k, none⟩ (.int .i64 z)) (fun j hj e => ?_)⟩
      simp only [Value.ownBlock, Option.some.injEq] at hj
      simp only at e
      omega
/-- Where an id of a tuple lies. -/
theorem ints_at {W : World} {base m cap k : Nat} {oa : Option Addr} {l : List Int} (h : Ints W base (.slice oa m cap) l) (hk : k < m) : ∃ g y, oa = some ⟨g, 0, none⟩ ∧ base ≤ g ∧ m ≤ cap ∧ cap ≤ maxLen ∧ W.cell? ⟨g, k, none⟩ = some (.int .i64 y) ∧ W.frozen? ⟨g, k, none⟩ = false := by
  rcases h.2 with ⟨e, e2⟩ | ⟨g, cap', cur, e, hb, hg, hc, hm, hsz, ht⟩
  · simp only [Value.slice.injEq] at e
    omega
  · simp only [Value.slice.injEq] at e
    obtain ⟨rfl, rfl, rfl⟩ := e
    obtain ⟨y, hy⟩ : ∃ y, l[k]? = some y := ⟨l[k]'hk, List.getElem?_eq_getElem _⟩
    refine ⟨g, y, rfl, hb, hc, hm, ?_, by simp [World.frozen?, hg]⟩
    have := ics_at hy
    rw [← ht, List.getElem?_take, if_pos (by omega), Array.getElem?_toList] at this
    simp [World.cell?, hg, this]
/-- What holds while what was told is written over. -/
def Ov (w W : World) (g n : Nat) (Q : List Aw) : Prop := Row W 25 3 g n (Q.map encA) ∧ (∀ p ∈ Q, ∃ l, l.length = p.1.tup.length ∧ Ints W (g + 1) p.2 l) ∧ Old w W
theorem Ov.put {w W : World} {g n : Nat} {Q : List Aw} (h : Ov w W g n Q) (hw : w.heap.size ≤ g) {b : Nat} (hb : g + 1 ≤ b) (k : Nat) (z : Int) : Ov w (W.setCell ⟨b, k, none⟩ (.int .i64 z)) g n Q := by
  refine ⟨row_other h.1 (show b ≠ g by omega) _, fun p hp => ?_, h.2.2.setCell (p := ⟨b, k, none⟩) (show w.heap.size ≤ b by omega) _⟩
  obtain ⟨l, h1, h2⟩ := h.2.1 p hp
  obtain ⟨l', h3, h4⟩ := ints_put h2 b k z
  exact ⟨l', h3.trans h1, h4⟩

theorem sorts_any (s : Int) (P : List Aw) (v : Value) (p q : Aw) (w : World) (h : AR w v P) (hp : IR w p.2 p.1.tup) (hq : IR w q.2 q.1.tup) :
    Calls Try.prog 3 #[.int .u8 s, v, av p, av q] w fun e w' => e = .returned (.bool true) ∧ Old w w' := by
  obtain ⟨⟨pr, pt, ps⟩, pv⟩ := p
  obtain ⟨⟨qr, qt, qs⟩, qv⟩ := q
  simp only at hp hq
  have Ip := Lib.hid hp
  have Iq := Lib.hid hq
  have HH := Lib.hid h
  obtain ⟨oa, ca, rfl⟩ := hp.slice
  obtain ⟨ob, cb, rfl⟩ := hq.slice
  obtain ⟨ol, cl, rfl, hcl, hclm, el⟩ := h.shape
  have HE := Lib.hid el
  unfold av
  simp only
  obtain ⟨np, hnp⟩ : ∃ n, n = pt.length := ⟨_, rfl⟩
  obtain ⟨nq, hnq⟩ : ∃ n, n = qt.length := ⟨_, rfl⟩
  obtain ⟨n, hn⟩ : ∃ n, n = P.length := ⟨_, rfl⟩
  rw [← hnp, ← hnq, ← hn]
  rw [← hnp] at Ip
  rw [← hnq] at Iq
  rw [← hn] at HH hcl
  have HN := Lib.hid hn
  have W0 : Hid (Old w (((w.alloc (.cells #[.int .i64 pr, .slice oa np ca, .int .i64 ps] 25)).alloc (.cells #[.int .i64 qr, .slice ob nq cb, .int .i64 qs] 25)).alloc (.cells #[.int .i64 pr, .slice oa np ca, .int .i64 ps, .int .i64 qr, .slice ob nq cb, .int .i64 qs] 25))) := Lib.hid ((((Old.refl w).alloc _).alloc _).alloc _)
  have W2 : Hid (Old w ((w.alloc (.cells #[.int .i64 pr, .slice oa np ca, .int .i64 ps] 25)).alloc (.cells #[.int .i64 qr, .slice ob nq cb, .int .i64 qs] 25))) := Lib.hid (((Old.refl w).alloc _).alloc _)
  have Bp : Hid (Bx ((w.alloc (.cells #[.int .i64 pr, .slice oa np ca, .int .i64 ps] 25)).alloc (.cells #[.int .i64 qr, .slice ob nq cb, .int .i64 qs] 25)) w.heap.size (⟨⟨pr, pt, ps⟩, .slice oa np ca⟩ : Aw)) := Lib.hid ((Bx.new w (⟨⟨pr, pt, ps⟩, .slice oa np ca⟩ : Aw)).old ((Old.refl _).alloc _))
  have Bq : Hid (Bx ((w.alloc (.cells #[.int .i64 pr, .slice oa np ca, .int .i64 ps] 25)).alloc (.cells #[.int .i64 qr, .slice ob nq cb, .int .i64 qs] 25)) (w.heap.size + 1) (⟨⟨qr, qt, qs⟩, .slice ob nq cb⟩ : Aw)) := Lib.hid (by have := Bx.new (w.alloc (.cells #[.int .i64 pr, .slice oa np ca, .int .i64 ps] 25)) (⟨⟨qr, qt, qs⟩, .slice ob nq cb⟩ : Aw); rw [sz_alloc] at this; exact this)
  have G1 := Lib.hid (great_any (HH.out.old W2.out) 60)
  have GR := Lib.hid (great_any (w := (((w.alloc (.cells #[.int .i64 pr, .slice oa np ca, .int .i64 ps] 25)).alloc (.cells #[.int .i64 qr, .slice ob nq cb, .int .i64 qs] 25)).alloc (.cells #[.int .i64 pr, .slice oa np ca, .int .i64 ps, .int .i64 qr, .slice ob nq cb, .int .i64 qs] 25))) (v := .slice (some ⟨w.heap.size + 1 + 1, 0, none⟩) 2 2) (P := [(⟨⟨pr, pt, ps⟩, .slice oa np ca⟩ : Aw), (⟨⟨qr, qt, qs⟩, .slice ob nq cb⟩ : Aw)]) (ar_new (n := 2) (P := [(⟨⟨pr, pt, ps⟩, .slice oa np ca⟩ : Aw), (⟨⟨qr, qt, qs⟩, .slice ob nq cb⟩ : Aw)]) (cs := #[.int .i64 pr, .slice oa np ca, .int .i64 ps, .int .i64 qr, .slice ob nq cb, .int .i64 qs]) (fun x hx => by
    simp only [List.mem_cons, List.not_mem_nil, or_false] at hx
    rcases hx with rfl | rfl
    · exact Ip.out.old W0.out
    · exact Iq.out.old W0.out) rfl rfl (by omega) (by have := (MapKept.heap_alloc ((w.alloc (.cells #[.int .i64 pr, .slice oa np ca, .int .i64 ps] 25)).alloc (.cells #[.int .i64 qr, .slice ob nq cb, .int .i64 qs] 25)) (.cells #[.int .i64 pr, .slice oa np ca, .int .i64 ps, .int .i64 qr, .slice ob nq cb, .int .i64 qs] 25)).1; rw [sz_alloc, sz_alloc] at this; exact this)) 2)
  simp only [List.map_cons, List.map_nil] at GR
  have K := Lib.hid (fun W => known_any W)
  clear h hp hq hcl el hnp hnq hn
  cases hR1 : grt (P.map (·.1)) 60 with
  | true =>
    rw [hR1] at G1
    clear hR1 GR Bp Bq W0
    go_enter Try.func3, Try.ntmps3
    go_wp2_with (first | (go_at_call 7; (with_reducible refine G1.out.mono ?_); rintro e w2 ⟨rfl, hw2⟩; subst w2) | (go_at_call 8; (with_reducible refine (K.out _).mono ?_); rintro e w3 ⟨rfl, ho⟩; have O3 := Lib.hid ho; clear ho))
    go_ret
    exact ⟨rfl, W2.out.trans O3.out⟩
  | false =>
  rw [hR1] at G1
  cases hR : grt [⟨pr, pt, ps⟩, ⟨qr, qt, qs⟩] 2 with
  | true =>
    rw [hR] at GR
    clear hR1 hR Bp Bq W2
    go_enter Try.func3, Try.ntmps3
    go_wp2_with (first | (go_at_call 7; (with_reducible refine G1.out.mono ?_); rintro e w2 ⟨rfl, hw2⟩; subst w2) | (go_at_call 7; (with_reducible refine GR.out.mono ?_); rintro e w2 ⟨rfl, hw2⟩; subst w2) | (go_at_call 8; (with_reducible refine (K.out _).mono ?_); rintro e w3 ⟨rfl, ho⟩; have O3 := Lib.hid ho; clear ho))
    go_ret
    exact ⟨rfl, W0.out.trans O3.out⟩
  | false =>
  rw [hR] at GR
  obtain ⟨hl, _⟩ := grt_false hR
  obtain ⟨htl, hpl⟩ := grt_false hR1
  rw [List.length_map] at hpl
  have Lp := Lib.hid (show pt.length ≤ 1000000 by have := hl ⟨pr, pt, ps⟩ (by simp); simp only at this; omega)
  have Lq := Lib.hid (show qt.length ≤ 1000000 by have := hl ⟨qr, qt, qs⟩ (by simp); simp only at this; omega)
  have Lp5 := Lib.hid (show pt.length ≤ 100000 by have := hl ⟨pr, pt, ps⟩ (by simp); simp only at this; omega)
  have Lq5 := Lib.hid (show qt.length ≤ 100000 by have := hl ⟨qr, qt, qs⟩ (by simp); simp only at this; omega)
  have HTL := Lib.hid (fun p (hp : p ∈ P) => htl p.1 (List.mem_map.2 ⟨p, hp, rfl⟩))
  have hn60 : n ≤ 60 := by have := HN.out; omega
  have HN60 := Lib.hid hn60
  obtain ⟨C, hC⟩ : ∃ x, x = cmpA s ⟨pr, pt, ps⟩ ⟨qr, qt, qs⟩ := ⟨_, rfl⟩
  have hrx := (cp_cmpA s).rng ⟨pr, pt, ps⟩ ⟨qr, qt, qs⟩
  have hax := (cp_cmpA s).anti ⟨pr, pt, ps⟩ ⟨qr, qt, qs⟩
  rw [← hC] at hrx hax
  have HC := Lib.hid hC
  obtain ⟨S, hS⟩ : ∃ S, S = sameP ⟨pr, pt, ps⟩ ⟨qr, qt, qs⟩ := ⟨_, rfl⟩
  have HS := Lib.hid hS
  have AH1 := Lib.hid (fun W (ho : Old w W) => ahead_any s (⟨⟨pr, pt, ps⟩, .slice oa np ca⟩ : Aw) (⟨⟨qr, qt, qs⟩, .slice ob nq cb⟩ : Aw) (Ip.out.old ho) (Iq.out.old ho) Lp5.out Lq5.out)
  have AH2 := Lib.hid (fun W (ho : Old w W) => ahead_any s (⟨⟨qr, qt, qs⟩, .slice ob nq cb⟩ : Aw) (⟨⟨pr, pt, ps⟩, .slice oa np ca⟩ : Aw) (Iq.out.old ho) (Ip.out.old ho) Lq5.out Lp5.out)
  obtain ⟨B1, hB1⟩ : ∃ B, B = decide (C < 0) := ⟨_, rfl⟩
  obtain ⟨B2, hB2⟩ : ∃ B, B = decide (0 < C) := ⟨_, rfl⟩
  have e1 : aheadD s ⟨pr, pt, ps⟩ ⟨qr, qt, qs⟩ = B1 := by rw [aheadD_eq, hB1, ← hC]
  have e2 : aheadD s ⟨qr, qt, qs⟩ ⟨pr, pt, ps⟩ = B2 := by rw [aheadD_eq, hB2]; apply decide_eq_decide.2; omega
  simp only [e1] at AH1
  simp only [e2] at AH2
  unfold av at AH1 AH2
  simp only at AH1 AH2
  have HB := Lib.hid (And.intro hrx (And.intro hB1 hB2))
  clear hR1 hR hl htl hpl hC hS hrx hax e1 e2 hB1 hB2
  go_enter Try.func3, Try.ntmps3
  go_upto_region 3 with (first | (go_at_call 7; (with_reducible refine G1.out.mono ?_); rintro e w2 ⟨rfl, hw2⟩; subst w2) | (go_at_call 7; (with_reducible refine GR.out.mono ?_); rintro e w2 ⟨rfl, hw2⟩; subst w2))
  clear G1 GR
  replace Bp := Lib.hid (Bp.out.old ((Old.refl _).alloc (.cells #[.int .i64 pr, .slice oa np ca, .int .i64 ps, .int .i64 qr, .slice ob nq cb, .int .i64 qs] 25)))
  replace Bq := Lib.hid (Bq.out.old ((Old.refl _).alloc (.cells #[.int .i64 pr, .slice oa np ca, .int .i64 ps, .int .i64 qr, .slice ob nq cb, .int .i64 qs] 25)))
  obtain ⟨g1, hg1⟩ : ∃ g, g = w.heap.size := ⟨_, rfl⟩
  obtain ⟨g2, hg2⟩ : ∃ g, g = w.heap.size + 1 := ⟨_, rfl⟩
  rw [← hg2] at Bq
  rw [← hg1] at Bp
  generalize hW : (((w.alloc (.cells #[.int .i64 pr, .slice oa np ca, .int .i64 ps] 25)).alloc (.cells #[.int .i64 qr, .slice ob nq cb, .int .i64 qs] 25)).alloc (.cells #[.int .i64 pr, .slice oa np ca, .int .i64 ps, .int .i64 qr, .slice ob nq cb, .int .i64 qs] 25)) = wr at W0 Bp Bq ⊢
  rw [← hg2, ← hg1]
  clear hW hg1 hg2 W2
  have d0 := Bp.out.c0
  have d1 := Bp.out.c1
  have d2 := Bp.out.c2
  have f0 := Bq.out.c0
  have f1 := Bq.out.c1
  have f2 := Bq.out.c2
  simp only at d0 d1 d2 f0 f1 f2
  go_upto_if 29 with (first | (go_at_call 9; (with_reducible refine (AH1.out _ W0.out).mono ?_); rintro e w2 ⟨rfl, ho⟩; have O2 := Lib.hid ho; clear ho))
  clear d0 d1 d2 f0 f1 f2
  go_cut [9] from 30 to 34 (fun s9 wx => s9 = .int .i64 C ∧ Hid (Old wr wx))
  case first =>
    have d0 := (Bp.out.old O2.out).c0
    have d1 := (Bp.out.old O2.out).c1
    have d2 := (Bp.out.old O2.out).c2
    have f0 := (Bq.out.old O2.out).c0
    have f1 := (Bq.out.old O2.out).c1
    have f2 := (Bq.out.old O2.out).c2
    simp only at d0 d1 d2 f0 f1 f2
    obtain ⟨hrx, hb1, hb2⟩ := HB.out
    rcases hrx with rfl | rfl | rfl
    · subst hb1 hb2
      go_wp2_with fail
      go_meet
      exact ⟨rfl, O2⟩
    · subst hb1 hb2
      go_wp2_with (first | (go_at_call 9; (with_reducible refine (AH2.out _ (W0.out.trans O2.out)).mono ?_); rintro e w3 ⟨rfl, ho⟩; have O3 := Lib.hid (O2.out.trans ho); clear ho))
      go_meet
      exact ⟨rfl, O3⟩
    · subst hb1 hb2
      go_wp2_with (first | (go_at_call 9; (with_reducible refine (AH2.out _ (W0.out.trans O2.out)).mono ?_); rintro e w3 ⟨rfl, ho⟩; have O3 := Lib.hid (O2.out.trans ho); clear ho))
      go_meet
      exact ⟨rfl, O3⟩
  case rest =>
  obtain ⟨rfl, OC⟩ := hcut
  clear O2 AH1 AH2 HB
  have d1 := (Bp.out.old OC.out).c1
  simp only at d1
  have VE := Lib.hid (fun W (ho : Old w W) => vector_any s (Ip.out.old ho) Lp.out)
  go_upto_region 9 with (first | (go_at_call 10; (with_reducible refine (VE.out _ (W0.out.trans OC.out)).mono ?_); rintro e w3 ⟨v3, rfl, hi, ho⟩; obtain ⟨ov, cv, rfl⟩ := hi.shape; have IV := Lib.hid hi.ir; have O3 := Lib.hid (OC.out.trans ho); clear hi ho))
  replace W0 := Lib.hid (W0.out.trans O3.out)
  replace Bp := Lib.hid (Bp.out.old O3.out)
  replace Bq := Lib.hid (Bq.out.old O3.out)
  clear OC d1 VE O3
  obtain ⟨nv, hnv⟩ : ∃ n, n = (vec s pt).length := ⟨_, rfl⟩
  rw [← hnv] at IV ⊢
  clear hnv
  refine wp_region_inv (spOf [.eq (.int .u8 s), .eq (.agg #[.int .i64 pr, .slice oa np ca, .int .i64 ps]), .eq (.agg #[.int .i64 qr, .slice ob nq cb, .int .i64 qs]), .eq (.int .i64 C), .eq (.int .i64 C), .eq (.bool false), .eq (.bool false), .eq (.slice ov nv cv), .eq (.int .u8 s), .eq (.pointer (some ⟨g1, 1, none⟩)), .eq (.slice oa np ca), irS (vec s pt), .eq (.int .i64 0), .eq (.bool false), .eq (.bool false), .eq (.bool false), .eq (.agg #[.int .i64 pr, .slice oa np ca, .int .i64 ps]), .eq (.agg #[.int .i64 qr, .slice ob nq cb, .int .i64 qs]), .eq (.bool S), .eq (.agg #[.int .i64 pr, .slice oa np ca, .int .i64 ps]), .eq (.agg #[.int .i64 qr, .slice ob nq cb, .int .i64 qs]), .eq (.bool S), .eq (.bool false), .eq (.bool false)]) (by kernel_rfl) (by kernel_rfl) (spOf_mono _) ?_ ?_
  · refine ⟨?_, ?_, ?_, ?_, ?_, ?_, ?_, ?_, ?_, ?_, ?_, ?_, ?_, ?_, ?_, ?_, ?_, ?_, ?_, ?_, ?_, ?_, ?_, ?_, trivial⟩
    · refine step_plain rfl fun ρ w2 ho hr hd => ?_
      have x0 : ρ (.tmp 0) = .int .u8 s := (hr.1 0 rfl).trans rfl
      exact does_move rfl x0 ⟨rfl, Old.refl _⟩
    · refine step_plain rfl fun ρ w2 ho hr hd => ?_
      have x0 : ρ (.tmp 6) = .pointer (some ⟨g1, 0, none⟩) := (hr.1 6 rfl).trans rfl
      have q0 := (ho.cell Bp.out.lt).trans Bp.out.c0
      have q1 := (ho.cell Bp.out.lt).trans Bp.out.c1
      have q2 := (ho.cell Bp.out.lt).trans Bp.out.c2
      refine does_value (v := .agg #[.int .i64 pr, .slice oa np ca, .int .i64 ps]) (w' := w2) ?_ ⟨rfl, Old.refl _⟩
      unfold execOp
      simp only [x0]
      go_simp
    · refine step_plain rfl fun ρ w2 ho hr hd => ?_
      have x0 : ρ (.tmp 7) = .pointer (some ⟨g2, 0, none⟩) := (hr.1 7 rfl).trans rfl
      have q0 := (ho.cell Bq.out.lt).trans Bq.out.c0
      have q1 := (ho.cell Bq.out.lt).trans Bq.out.c1
      have q2 := (ho.cell Bq.out.lt).trans Bq.out.c2
      refine does_value (v := .agg #[.int .i64 qr, .slice ob nq cb, .int .i64 qs]) (w' := w2) ?_ ⟨rfl, Old.refl _⟩
      unfold execOp
      simp only [x0]
      go_simp
    · refine step_plain rfl fun ρ w2 ho hr hd => ?_
      obtain ⟨h0, h1, h2, _⟩ := hd
      have x0 : ρ (.tmp 38) = .int .u8 s := h0 rfl
      have x1 : ρ (.tmp 39) = av (⟨⟨pr, pt, ps⟩, .slice oa np ca⟩ : Aw) := h1 rfl
      have x2 : ρ (.tmp 40) = av (⟨⟨qr, qt, qs⟩, .slice ob nq cb⟩ : Aw) := h2 rfl
      exact does_call3 rfl (hr.2.2.2 _) x0 x1 x2 rfl ((cmp_any s (⟨⟨pr, pt, ps⟩, .slice oa np ca⟩ : Aw) (⟨⟨qr, qt, qs⟩, .slice ob nq cb⟩ : Aw) (Ip.out.old (W0.out.trans ho)) (Iq.out.old (W0.out.trans ho)) Lp.out Lq.out).mono fun e w' h => ⟨_, h.1, congrArg (Value.int .i64) HC.out.symm, h.2⟩)
    · refine step_plain rfl fun ρ w2 ho hr hd => ?_
      have x0 : ρ (.tmp 9) = .int .i64 C := (hr.1 9 rfl).trans rfl
      exact does_move rfl x0 ⟨rfl, Old.refl _⟩
    · refine step_plain rfl fun ρ w2 ho hr hd => ?_
      obtain ⟨h0, h1, _⟩ := hd
      have x0 : ρ (.tmp 41) = .int .i64 C := h0 rfl
      have y0 : ρ (.tmp 42) = .int .i64 C := h1 rfl
      refine does_value (v := .bool false) (w' := w2) ?_ ⟨rfl, Old.refl _⟩
      unfold execOp
      simp only [x0, y0]
      go_simp
    · refine step_plain rfl fun ρ w2 ho hr hd => ?_
      obtain ⟨h0, h1, _⟩ := hd
      have x0 : ρ (.tmp 43) = .bool false := h0 rfl
      exact does_move rfl x0 ⟨rfl, Old.refl _⟩
    · refine step_guard rfl fun ρ w2 ho hr hd => ?_
      obtain ⟨h0, _⟩ := hd
      have hgd : ρ (.tmp 44) = .bool false := h0 rfl
      have x0 : ρ (.tmp 10) = .slice ov nv cv := (hr.1 10 rfl).trans rfl
      refine ⟨hgd, ?_⟩
      exact does_move rfl x0 ⟨rfl, Old.refl _⟩
    · refine step_guard rfl fun ρ w2 ho hr hd => ?_
      obtain ⟨h0, _⟩ := hd
      have hgd : ρ (.tmp 44) = .bool false := h0 rfl
      have x0 : ρ (.tmp 0) = .int .u8 s := (hr.1 0 rfl).trans rfl
      refine ⟨hgd, ?_⟩
      exact does_move rfl x0 ⟨rfl, Old.refl _⟩
    · refine step_guard rfl fun ρ w2 ho hr hd => ?_
      obtain ⟨h0, _⟩ := hd
      have hgd : ρ (.tmp 44) = .bool false := h0 rfl
      have x0 : ρ (.tmp 6) = .pointer (some ⟨g1, 0, none⟩) := (hr.1 6 rfl).trans rfl
      refine ⟨hgd, ?_⟩
      refine does_value (v := .pointer (some ⟨g1, 1, none⟩)) (w' := w2) ?_ ⟨rfl, Old.refl _⟩
      unfold execOp
      simp only [x0]
      go_simp
    · refine step_guard rfl fun ρ w2 ho hr hd => ?_
      obtain ⟨h0, h1, _⟩ := hd
      have hgd : ρ (.tmp 44) = .bool false := h1 rfl
      have x0 : ρ (.tmp 47) = .pointer (some ⟨g1, 1, none⟩) := h0 rfl
      have q0 := (ho.cell Bp.out.lt).trans Bp.out.c1
      refine ⟨hgd, ?_⟩
      refine does_value (v := .slice oa np ca) (w' := w2) ?_ ⟨rfl, Old.refl _⟩
      unfold execOp
      simp only [x0]
      go_simp
    · refine step_guard rfl fun ρ w2 ho hr hd => ?_
      obtain ⟨h0, h1, h2, h3, _⟩ := hd
      have hgd : ρ (.tmp 44) = .bool false := h3 rfl
      have x0 : ρ (.tmp 46) = .int .u8 s := h0 rfl
      have x1 : ρ (.tmp 48) = .slice oa np ca := h1 rfl
      refine ⟨hgd, ?_⟩
      exact does_call2 rfl (hr.2.2.2 _) x0 x1 rfl ((rvector_any s (Ip.out.old (W0.out.trans ho)) Lp5.out).mono fun e w' h => by obtain ⟨v', he, hi, ho'⟩ := h; exact ⟨_, he, hi, ho'⟩)
    · refine step_guard rfl fun ρ w2 ho hr hd => ?_
      obtain ⟨h0, h1, h2, h3, _⟩ := hd
      have hgd : ρ (.tmp 44) = .bool false := h3 rfl
      have x0 : ρ (.tmp 45) = .slice ov nv cv := h0 rfl
      have x1 := h1 rfl
      refine ⟨hgd, ?_⟩
      exact does_call2 rfl (hr.2.2.2 _) x0 rfl rfl ((rrows_any (IV.out.old ho) x1).mono fun e w' h => ⟨_, h.1, congrArg (Value.int .i64) (cp_row.self _), h.2⟩)
    · refine step_guard rfl fun ρ w2 ho hr hd => ?_
      obtain ⟨h0, h1, _⟩ := hd
      have hgd : ρ (.tmp 44) = .bool false := h1 rfl
      have x0 : ρ (.tmp 50) = .int .i64 0 := h0 rfl
      refine ⟨hgd, ?_⟩
      refine does_value (v := .bool false) (w' := w2) ?_ ⟨rfl, Old.refl _⟩
      unfold execOp
      simp only [x0, hr.2.1]
      go_simp
    · refine step_plain rfl fun ρ w2 ho hr hd => ?_
      obtain ⟨h0, h1, _⟩ := hd
      have x0 : ρ (.tmp 44) = .bool false := h0 rfl
      have y0 : ρ (.tmp 51) = .bool false := h1 rfl
      exact does_pick rfl x0 y0 ⟨rfl, Old.refl _⟩
    · refine step_plain rfl fun ρ w2 ho hr hd => ?_
      obtain ⟨h0, h1, _⟩ := hd
      have x0 : ρ (.tmp 52) = .bool false := h0 rfl
      exact does_move rfl x0 ⟨rfl, Old.refl _⟩
    · refine step_guard rfl fun ρ w2 ho hr hd => ?_
      obtain ⟨h0, _⟩ := hd
      have hgd : ρ (.tmp 53) = .bool false := h0 rfl
      have x0 : ρ (.tmp 6) = .pointer (some ⟨g1, 0, none⟩) := (hr.1 6 rfl).trans rfl
      have q0 := (ho.cell Bp.out.lt).trans Bp.out.c0
      have q1 := (ho.cell Bp.out.lt).trans Bp.out.c1
      have q2 := (ho.cell Bp.out.lt).trans Bp.out.c2
      refine ⟨hgd, ?_⟩
      refine does_value (v := .agg #[.int .i64 pr, .slice oa np ca, .int .i64 ps]) (w' := w2) ?_ ⟨rfl, Old.refl _⟩
      unfold execOp
      simp only [x0]
      go_simp
    · refine step_guard rfl fun ρ w2 ho hr hd => ?_
      obtain ⟨h0, _⟩ := hd
      have hgd : ρ (.tmp 53) = .bool false := h0 rfl
      have x0 : ρ (.tmp 7) = .pointer (some ⟨g2, 0, none⟩) := (hr.1 7 rfl).trans rfl
      have q0 := (ho.cell Bq.out.lt).trans Bq.out.c0
      have q1 := (ho.cell Bq.out.lt).trans Bq.out.c1
      have q2 := (ho.cell Bq.out.lt).trans Bq.out.c2
      refine ⟨hgd, ?_⟩
      refine does_value (v := .agg #[.int .i64 qr, .slice ob nq cb, .int .i64 qs]) (w' := w2) ?_ ⟨rfl, Old.refl _⟩
      unfold execOp
      simp only [x0]
      go_simp
    · refine step_guard rfl fun ρ w2 ho hr hd => ?_
      obtain ⟨h0, h1, h2, h3, _⟩ := hd
      have hgd : ρ (.tmp 53) = .bool false := h3 rfl
      have x0 : ρ (.tmp 54) = av (⟨⟨pr, pt, ps⟩, .slice oa np ca⟩ : Aw) := h0 rfl
      have x1 : ρ (.tmp 55) = av (⟨⟨qr, qt, qs⟩, .slice ob nq cb⟩ : Aw) := h1 rfl
      refine ⟨hgd, ?_⟩
      exact does_call2 rfl (hr.2.2.2 _) x0 x1 rfl ((same_any (⟨⟨pr, pt, ps⟩, .slice oa np ca⟩ : Aw) (⟨⟨qr, qt, qs⟩, .slice ob nq cb⟩ : Aw) (Ip.out.old (W0.out.trans ho)) (Iq.out.old (W0.out.trans ho))).mono fun e w' h => ⟨_, h.1, congrArg Value.bool HS.out.symm, h.2⟩)
    · refine step_guard rfl fun ρ w2 ho hr hd => ?_
      obtain ⟨h0, _⟩ := hd
      have hgd : ρ (.tmp 53) = .bool false := h0 rfl
      have x0 : ρ (.tmp 6) = .pointer (some ⟨g1, 0, none⟩) := (hr.1 6 rfl).trans rfl
      have q0 := (ho.cell Bp.out.lt).trans Bp.out.c0
      have q1 := (ho.cell Bp.out.lt).trans Bp.out.c1
      have q2 := (ho.cell Bp.out.lt).trans Bp.out.c2
      refine ⟨hgd, ?_⟩
      refine does_value (v := .agg #[.int .i64 pr, .slice oa np ca, .int .i64 ps]) (w' := w2) ?_ ⟨rfl, Old.refl _⟩
      unfold execOp
      simp only [x0]
      go_simp
    · refine step_guard rfl fun ρ w2 ho hr hd => ?_
      obtain ⟨h0, _⟩ := hd
      have hgd : ρ (.tmp 53) = .bool false := h0 rfl
      have x0 : ρ (.tmp 7) = .pointer (some ⟨g2, 0, none⟩) := (hr.1 7 rfl).trans rfl
      have q0 := (ho.cell Bq.out.lt).trans Bq.out.c0
      have q1 := (ho.cell Bq.out.lt).trans Bq.out.c1
      have q2 := (ho.cell Bq.out.lt).trans Bq.out.c2
      refine ⟨hgd, ?_⟩
      refine does_value (v := .agg #[.int .i64 qr, .slice ob nq cb, .int .i64 qs]) (w' := w2) ?_ ⟨rfl, Old.refl _⟩
      unfold execOp
      simp only [x0]
      go_simp
    · refine step_guard rfl fun ρ w2 ho hr hd => ?_
      obtain ⟨h0, h1, h2, h3, _⟩ := hd
      have hgd : ρ (.tmp 53) = .bool false := h3 rfl
      have x0 : ρ (.tmp 57) = av (⟨⟨pr, pt, ps⟩, .slice oa np ca⟩ : Aw) := h0 rfl
      have x1 : ρ (.tmp 58) = av (⟨⟨qr, qt, qs⟩, .slice ob nq cb⟩ : Aw) := h1 rfl
      refine ⟨hgd, ?_⟩
      exact does_call2 rfl (hr.2.2.2 _) x0 x1 rfl ((rsame_any (⟨⟨pr, pt, ps⟩, .slice oa np ca⟩ : Aw) (⟨⟨qr, qt, qs⟩, .slice ob nq cb⟩ : Aw) (Ip.out.old (W0.out.trans ho)) (Iq.out.old (W0.out.trans ho))).mono fun e w' h => ⟨_, h.1, congrArg Value.bool HS.out.symm, h.2⟩)
    · refine step_guard rfl fun ρ w2 ho hr hd => ?_
      obtain ⟨h0, h1, h2, _⟩ := hd
      have hgd : ρ (.tmp 53) = .bool false := h2 rfl
      have x0 : ρ (.tmp 56) = .bool S := h0 rfl
      have y0 : ρ (.tmp 59) = .bool S := h1 rfl
      have hSS : (S != S) = false := by cases S <;> rfl
      refine ⟨hgd, ?_⟩
      refine does_value (v := .bool false) (w' := w2) ?_ ⟨rfl, Old.refl _⟩
      unfold execOp
      simp only [x0, y0]
      go_simp
    · refine step_plain rfl fun ρ w2 ho hr hd => ?_
      obtain ⟨h0, h1, _⟩ := hd
      have x0 : ρ (.tmp 53) = .bool false := h0 rfl
      have y0 : ρ (.tmp 60) = .bool false := h1 rfl
      exact does_pick rfl x0 y0 ⟨rfl, Old.refl _⟩
  · intro a' w' hoE hst hl
    obtain ⟨_, _, _, _, _, _, _, _, _, _, _, _, _, _, _, _, _, _, _, _, _, _, _, k23, _⟩ := hl
    have e23 : a'.eval (.tmp 61) = .bool false := k23
    rw [act_fresh hst [false, false, false, false, false, false, false, false, false, false, false, false, false, false, false, false, false, false, false, false, false, false, false, false, false, false, false, false, false, false, false, false, false, false, false, false, false, false, true, true, true, true, true, true, true, true, true, true, true, true, true, true, true, true, true, true, true, true, true, true, true, true, false, false, false, false, false, false, false, false, false, false, false, false, false, false, false, false, false, false, false, false, false, false, false, false, false, false, false, false, false, false, false, false, false, false, false, false, false, false, false, false, false, false, false, false, false, false, false, false, false, false, false, false, false, false, false, false, false] (by kernel_rfl) (by kernel_rfl)]
    simp only [fresh, e23]
    clear hst k23 e23
    replace W0 := Lib.hid (W0.out.trans hoE)
    clear hoE Bp Bq Ip Iq IV HC HS Lp Lq Lp5 Lq5
    obtain ⟨iA, hiA, hzA, hsA, hbA⟩ := info_parts info25
    obtain ⟨iI, hiI, hzI, hsI, hbI⟩ := info_parts info3
    go_upto_region 12 with fail
    go_wp2
    go_loopg [64, 11] n (fun kx s64 s11 wr => ∃ (i t : Nat) (R : List Aw) (oi : Option Addr) (ci : Nat), s64 = .int .i64 (i : Int) ∧ s11 = .slice oi t ci ∧ (t ≤ i ∧ i ≤ t) ∧ i ≤ n ∧ n - i ≤ kx ∧ Hid (wr.ownsRow w'.heap.size 25 3 (.slice oi t ci) t (acs R) ∧ R.map (·.1) = (P.map (·.1)).take i ∧ (∀ r ∈ R, Ints wr w'.heap.size r.2 r.1.tup) ∧ Old w' wr))
    case atStart => exact ⟨0, 0, [], none, 0, rfl, rfl, by omega, Nat.zero_le _, Nat.le_refl _, Lib.hid ⟨World.ownsRow_nil _ _ _ _, by simp, (fun r hr => by cases hr), Old.refl _⟩⟩
    case round =>
      obtain ⟨i, t, R, oi, ci, rfl, rfl, hti, hi, hix, HI⟩ := hrel
      by_cases hlt : i < n
      · have hlti : (i : Int) < (n : Int) := by omega
        obtain ⟨x, hx⟩ : ∃ x, P[i]? = some x := ⟨P[i]'(by rw [← HN.out]; exact hlt), List.getElem?_eq_getElem _⟩
        obtain ⟨gl, oo, rfl, hgl, k0, k1, k2⟩ := HE.out i x hx
        have HOW := Lib.hid (W0.out.trans HI.out.2.2.2)
        have c0 := (HOW.out.cell (p := ⟨gl, oo + i * 3, none⟩) hgl).trans k0
        have c1 := (HOW.out.cell (p := ⟨gl, oo + i * 3 + 1, none⟩) hgl).trans k1
        have c2 := (HOW.out.cell (p := ⟨gl, oo + i * 3 + 2, none⟩) hgl).trans k2
        have h0i : (0 : Int) ≤ (i : Int) := by omega
        have hxi := HH.out.tup hx
        have hxl := HTL.out x (List.mem_of_getElem? hx)
        have HX := Lib.hid (show (P.map (·.1)).take (i + 1) = (P.map (·.1)).take i ++ [x.1] by rw [List.take_add_one, List.getElem?_map, hx]; rfl)
        obtain ⟨⟨xr, xt, xs⟩, xv⟩ := x
        simp only at c0 c1 c2 hxi hxl
        obtain ⟨ot0, ct0, et⟩ := hxi.slice
        subst et
        obtain ⟨mx, hmx⟩ : ∃ m, m = xt.length := ⟨_, rfl⟩
        rw [← hmx] at c1 hxi hxl
        have HMX := Lib.hid hmx
        have HXI : Hid (CR wr (.slice ot0 mx ct0) mx 1 (ics xt)) := Lib.hid (by have := hxi.old HOW.out; unfold IR at this; rw [← HMX.out] at this; exact this)
        have BX0 := Lib.hid (Bx.new wr (⟨⟨xr, xt, xs⟩, .slice ot0 mx ct0⟩ : Aw))
        have A0 := Lib.hid ((Old.refl wr).alloc (.cells #[.int .i64 xr, .slice ot0 mx ct0, .int .i64 xs] 25))
        have A1 := Lib.hid ((Old.refl (wr.alloc (.cells #[.int .i64 xr, .slice ot0 mx ct0, .int .i64 xs] 25))).alloc (.cells #[] 3))
        have N0 : Hid (((wr.alloc (.cells #[.int .i64 xr, .slice ot0 mx ct0, .int .i64 xs] 25)).alloc (.cells #[] 3)).ownsRow (wr.heap.size + 1) 3 1 (.slice (some ⟨wr.heap.size + 1, 0, none⟩) 0 0) 0 []) := Lib.hid (own_none (Nat.le_refl _) (by have := (MapKept.heap_alloc (wr.alloc (.cells #[.int .i64 xr, .slice ot0 mx ct0, .int .i64 xs] 25)) (.cells #[] 3)).1; rw [sz_alloc] at this; exact this))
        have XI := Lib.hid (HXI.out.old (A0.out.trans A1.out))
        have L0 := Lib.hid (show wr.heap.size + 1 ≤ ((wr.alloc (.cells #[.int .i64 xr, .slice ot0 mx ct0, .int .i64 xs] 25)).alloc (.cells #[] 3)).heap.size by rw [sz_alloc, sz_alloc]; omega)
        have L1 := Lib.hid (show (0 + mx) * 8 ≤ 140737488355328 by omega)
        have L2 := Lib.hid (show 0 + mx ≤ maxLen by unfold maxLen; omega)
        have HTI := Lib.hid hti
        clear hx hgl k0 k1 k2 hxi hxl hmx
        go_upto_region 16 with (at_builtin; refine wpList_appC _ rfl _ _ 23 rfl (wr.heap.size + 1) 3 iI _ 1 8 Try.underlying23 hiI hzI hsI hbI rfl (Nat.zero_lt_succ 0) (.slice (some ⟨wr.heap.size + 1, 0, none⟩) 0 0) 0 [] rfl N0.out (.slice ot0 mx ct0) mx (ics xt) rfl XI.out (ics_one _) L1.out L2.out L0.out ?_; intro v1 W1 hown hgrow _; rw [Nat.zero_add, List.nil_append] at hown; obtain ⟨o1, e1, rfl⟩ := own_shape hown; have I1 : Hid (Ints W1 (wr.heap.size + 1) (.slice o1 mx e1) xt) := Lib.hid (by unfold Ints; rw [← HMX.out]; exact hown); have O1 := Lib.hid (A1.out.grown hgrow (fun j hj => by simp [Value.ownBlock] at hj; rw [sz_alloc]; omega)); have BX1 := Lib.hid (BX0.out.old O1.out); have b1 := bx_frozen BX1.out 1; have b2 := BX1.out.c1; simp only at b2; clear hown hgrow)
        have BX5 := Lib.hid (bx_set BX1.out (.slice o1 mx e1))
        have I5 := Lib.hid (show Ints _ _ _ _ from own_set I1.out (a := ⟨wr.heap.size, 1, none⟩) (Nat.lt_succ_self _) (.slice o1 mx e1))
        have O5 := Lib.hid ((A0.out.trans O1.out).setCell (p := ⟨wr.heap.size, 1, none⟩) (Nat.le_refl _) (.slice o1 mx e1))
        clear b1 b2 c0 c1 c2 BX1 I1 BX0 A1 N0 XI L0 L1 L2 O1 A0 HXI
        generalize hW5 : W1.setCell ⟨wr.heap.size, 1, none⟩ (.slice o1 mx e1) = W5 at BX5 I5 O5 ⊢
        clear hW5
        have d0 := BX5.out.c0
        have d1 := BX5.out.c1
        have d2 := BX5.out.c2
        simp only at d0 d1 d2
        have AC := Lib.hid (ar_one_new (W := W5) (⟨⟨xr, xt, xs⟩, .slice o1 mx e1⟩ : Aw))
        have A6 := Lib.hid ((Old.refl W5).alloc (.cells #[.int .i64 xr, .slice o1 mx e1, .int .i64 xs] 25))
        have AR0 := Lib.hid (own_old HI.out.1 (O5.out.trans A6.out))
        have HONE := Lib.hid (show ∀ u ∈ acs [(⟨⟨xr, xt, xs⟩, .slice o1 mx e1⟩ : Aw)], u.oneCell' = true from acs_one (w := W5) (fun p hp => by rw [List.mem_singleton] at hp; subst hp; exact I5.out.ir))
        have L1 := Lib.hid (show (t + 1) * 40 ≤ 140737488355328 by have := HN60.out; omega)
        have L2 := Lib.hid (show t + 1 ≤ maxLen by have := HN60.out; unfold maxLen; omega)
        have L3 := Lib.hid (Nat.le_trans HI.out.2.2.2.size (O5.out.trans A6.out).size)
        go_upto_region 17 with (at_builtin; refine wpList_appC _ rfl _ _ 22 rfl w'.heap.size 25 iA _ 3 40 Try.underlying22 hiA hzA hsA hbA rfl (Nat.zero_lt_succ 2) (.slice oi t ci) t (acs R) rfl AR0.out (.slice (some ⟨W5.heap.size, 0, none⟩) 1 1) 1 (acs [(⟨⟨xr, xt, xs⟩, .slice o1 mx e1⟩ : Aw)]) rfl AC.out HONE.out L1.out L2.out L3.out ?_; intro v2 W2 hown hgrow _; obtain ⟨o2, e2, rfl⟩ := own_shape hown; have R2 := Lib.hid hown; have O2 := Lib.hid ((HI.out.2.2.2.trans (O5.out.trans A6.out)).grown hgrow (fun j hj => own_base AR0.out j hj)); have I2 := Lib.hid (fun r (hr : r ∈ R) => ints_kept (own_old (HI.out.2.2.1 r hr) (O5.out.trans A6.out)) AR0.out hgrow); have J2 := Lib.hid (ints_kept (I5.out.old A6.out) AR0.out hgrow); clear hown hgrow)
        have hwi : IntKind.i64.wrap ((i : Int) + 1) = (i : Int) + 1 := by rw [IntKind.wrap_i64]; omega
        clear d0 d1 d2
        go_wp2_with fail
        go_roundg (n - (i + 1))
        case measure => omega
        case rel =>
          refine ⟨i + 1, t + 1, R ++ [(⟨⟨xr, xt, xs⟩, .slice o1 mx e1⟩ : Aw)], o2, e2, by go_num, rfl, by have := HTI.out; omega, hlt, Nat.le_refl _, Lib.hid ⟨by rw [acs_app]; exact R2.out, ?_, ?_, O2.out⟩⟩
          · rw [List.map_append, HI.out.2.1, HX.out]
            rfl
          · intro r hr
            rcases List.mem_append.1 hr with hr | hr
            · exact I2.out r hr
            · rw [List.mem_singleton] at hr
              subst hr
              exact J2.out.low (by have := HI.out.2.2.2.size; omega)
      · have hlti : ¬ (i : Int) < (n : Int) := by omega
        obtain rfl : i = n := by omega
        obtain rfl : t = i := by omega
        have hlR : R.length = t := by
          have := congrArg List.length HI.out.2.1
          rw [List.length_map, List.length_take, List.length_map, ← HN.out, Nat.min_self] at this
          exact this
        have hmR : R.map (·.1) = P.map (·.1) := by
          rw [HI.out.2.1]
          exact List.take_of_length_le (by rw [List.length_map, ← HN.out]; exact Nat.le_refl _)
        have harR : AR wr (.slice oi t ci) R := ⟨by have := CR.owned HI.out.1; rw [hlR]; exact this, fun r hr => (HI.out.2.2.1 r hr).ir⟩
        replace W0 := Lib.hid (W0.out.trans HI.out.2.2.2)
        have HAR := Lib.hid harR
        have HMR := Lib.hid hmR
        have HLR := Lib.hid hlR
        clear HI hlR hmR harR hti hi hix hlt
        obtain ⟨wb, hwb⟩ : ∃ W, W = wr := ⟨_, rfl⟩
        subst hwb
        have hR20 : ∀ p ∈ R, p.1.tup.length ≤ 20 := fun p hp => by
          have h1 : p.1 ∈ P.map (·.1) := by rw [← HMR.out]; exact List.mem_map.2 ⟨p, hp, rfl⟩
          obtain ⟨y, hy, e⟩ := List.mem_map.1 h1
          rw [← e]
          exact HTL.out y hy
        have SRT := Lib.hid (sort_any s HAR.out (by rw [HLR.out]; have := HN60.out; omega) (fun p hp => Nat.le_trans (hR20 p hp) (by omega)))
        have RS := Lib.hid (fun W (ho : Old w W) => rsort_any s (HH.out.old ho) (by rw [← HN.out]; have := HN60.out; omega) (fun p hp => Nat.le_trans (HTL.out p hp) (by omega)))
        clear hR20
        go_upto_region 19 with (go_at_call 16; (with_reducible refine SRT.out.mono ?_); rintro e w3 ⟨v3, rfl, hso⟩; have HSO := Lib.hid hso; obtain ⟨g0, Q0, rfl, hso2⟩ := hso; clear hso2)
        clear SRT
        obtain ⟨g, Q, e, har, hm, hQl, ho, hgw, hrow, hint⟩ := HSO.out.open' (by rw [HLR.out]; have := HN60.out; omega)
        obtain rfl : g0 = g := by simpa using e
        rw [HLR.out] at har hQl hrow ⊢
        rw [HMR.out] at hm
        have HAQ := Lib.hid har
        have HMQ := Lib.hid hm
        have HQL := Lib.hid hQl
        have HO := Lib.hid ho
        have HGW := Lib.hid hgw
        have HROW := Lib.hid hrow
        have HINT := Lib.hid hint
        clear har hm hQl ho hgw hrow hint HSO e
        go_upto_region 21 with (first
          | (go_at_call 18; (with_reducible refine (RS.out _ (W0.out.trans HO.out)).mono ?_); rintro e w4 ⟨v4, rfl, ⟨Q4, har4, hm4⟩, ho4⟩; have S4 := sameAll_any (HAQ.out.old ho4) har4; rw [decide_eq_true (by rw [HMQ.out, hm4])] at S4; have S4 := Lib.hid S4; obtain ⟨o4, c4, rfl, _⟩ := har4.shape; have O4 := Lib.hid ho4; clear har4 hm4 ho4)
          | (go_at_call 17; (with_reducible refine S4.out.mono ?_); rintro e w5 ⟨rfl, ho⟩; have O5 := Lib.hid (O4.out.trans ho); clear ho S4 O4))
        have HOV : Hid (Ov wb w5 g0 t Q) := Lib.hid ⟨HROW.out.old O5.out, fun p hp => ⟨_, rfl, (HINT.out p hp).old O5.out⟩, HO.out.trans O5.out⟩
        clear HROW HINT RS HAQ HMQ HO O5
        go_wp2
        go_loopg [89] t (fun kx s89 wx => ∃ (i : Nat), s89 = .int .i64 (i : Int) ∧ i ≤ t ∧ t - i ≤ kx ∧ Hid (Ov wb wx g0 t Q))
        case atStart => exact ⟨0, rfl, Nat.zero_le _, Nat.le_refl _, HOV⟩
        case round =>
          clear HOV
          obtain ⟨i, rfl, hi, hix, HOV⟩ := hrel
          by_cases hlt : i < t
          · have hlti : (i : Int) < (t : Int) := by omega
            have h0i : (0 : Int) ≤ (i : Int) := by omega
            obtain ⟨x, hx⟩ : ∃ x, Q[i]? = some x := ⟨Q[i]'(by have := HQL.out; omega), List.getElem?_eq_getElem _⟩
            obtain ⟨l0, hl0, hi0⟩ := HOV.out.2.1 x (List.mem_of_getElem? hx)
            have HXM := Lib.hid (List.mem_of_getElem? hx)
            have hcell := fun W (h : Row W 25 3 g0 t (Q.map encA)) => h.cell (j := i) (e := encA x) (by rw [List.getElem?_map, hx]; rfl) (q := 1) rfl
            obtain ⟨⟨xr, xt, xs⟩, xv⟩ := x
            simp only at hl0 hi0
            obtain ⟨op, cp, ev⟩ := own_shape hi0
            obtain ⟨m, hm⟩ : ∃ m, m = l0.length := ⟨_, rfl⟩
            rw [← hm] at ev
            subst ev
            have HCELL := Lib.hid hcell
            have e1 := hcell _ HOV.out.1
            have HMX := Lib.hid (show xt.length = m by rw [hm]; exact hl0.symm)
            have HLT := Lib.hid hlt
            have hwi : IntKind.i64.wrap ((i : Int) + 1) = (i : Int) + 1 := by rw [IntKind.wrap_i64]; have := HN60.out; omega
            clear hx hl0 hi0 hm hcell hlt
            go_wp2
            go_loopg [98] m (fun kx s98 wx => ∃ (k : Nat), s98 = .int .i64 (k : Int) ∧ k ≤ m ∧ m - k ≤ kx ∧ Hid (Ov wb wx g0 t Q))
            case atStart => exact ⟨0, rfl, Nat.zero_le _, Nat.le_refl _, HOV⟩
            case round =>
              clear HOV e1
              obtain ⟨k, rfl, hk, hkx, HOV⟩ := hrel
              by_cases hlt2 : k < m
              · have hltk : (k : Int) < (m : Int) := by omega
                have h0k : (0 : Int) ≤ (k : Int) := by omega
                have e1 := HCELL.out _ HOV.out.1
                obtain ⟨l1, hl1, hi1⟩ := HOV.out.2.1 _ HXM.out
                obtain ⟨gt, y, rfl, hgt, hmc, hcm, k1, k2⟩ := ints_at hi1 hlt2
                have hwk : IntKind.i64.wrap ((k : Int) + 1) = (k : Int) + 1 := by rw [IntKind.wrap_i64]; unfold maxLen at hcm; omega
                have HPUT := Lib.hid (fun z => HOV.out.put HGW.out hgt k z)
                clear hl1 hi1
                go_wp2_with fail
                go_roundg (m - (k + 1))
                case measure => omega
                case rel => exact ⟨k + 1, by go_num, hlt2, Nat.le_refl _, Lib.hid (HPUT.out _)⟩
              · have hltk : ¬ (k : Int) < (m : Int) := by omega
                go_wp2_with fail
                go_roundg (t - (i + 1))
                case measure => have := HLT.out; omega
                case rel => exact ⟨i + 1, by go_num, HLT.out, Nat.le_refl _, HOV⟩
          · have hlti : ¬ (i : Int) < (t : Int) := by omega
            have HOW := Lib.hid (HOV.out.2.2)
            have S6 := sameAll_any (HAR.out.old HOW.out) (HH.out.old (W0.out.trans HOW.out))
            rw [decide_eq_true HMR.out] at S6
            have S6 := Lib.hid S6
            go_wp2_with (first
              | (go_at_call 17; (with_reducible refine S6.out.mono ?_); rintro e w6 ⟨rfl, ho⟩; have O6 := Lib.hid (HOW.out.trans ho); clear ho)
              | (go_at_call 8; (with_reducible refine (K.out _).mono ?_); rintro e w7 ⟨rfl, ho⟩; have O7 := Lib.hid (O6.out.trans ho); clear ho))
            go_ret
            exact ⟨rfl, W0.out.trans O7.out⟩
end Go.Proofs.Ytdcfaniimhjghaa
