/- SameAll, the document's. -/
import Derived.Test.YtdcfaniimhjghaaOQ
namespace Go.Proofs.Ytdcfaniimhjghaa
open Go.ChangeShapes Go.WideShapes Go.ChangeAt Go.RowKit Go.Lib Go.Sort Go.Shelf
set_option linter.unusedVariables false
set_option linter.unusedSimpArgs false
set_option maxRecDepth 100000
set_option maxHeartbeats 3200000

theorem sameAll_any {w : World} {a b : Value} {P Q : List Aw} (ha : AR w a P) (hb : AR w b Q) :
    Calls Try.prog 17 #[a, b] w fun e w' => e = .returned (.bool (decide (P.map (·.1) = Q.map (·.1)))) ∧ Old w w' := by
  have hla := ha.len
  have hlb := hb.len
  have HTA := Lib.hid ha.2
  have HTB := Lib.hid hb.2
  obtain ⟨oa, ca, rfl, _, _, ea⟩ := ha.shape
  obtain ⟨ob, cb, rfl, _, _, eb⟩ := hb.shape
  have HE := Lib.hid ea
  have HF := Lib.hid eb
  obtain ⟨n, hn⟩ : ∃ n, n = P.length := ⟨_, rfl⟩
  obtain ⟨m, hm⟩ : ∃ m, m = Q.length := ⟨_, rfl⟩
  generalize hD : decide (P.map (·.1) = Q.map (·.1)) = D
  have HD := Lib.hid hD
  rw [← hn] at hla ⊢
  rw [← hm] at hlb ⊢
  have HN := Lib.hid (And.intro hn hm)
  clear hD ea eb ha hb hn hm
  by_cases hnm : n = m
  · subst hnm
    have hne : ((n : Int) != (n : Int)) = false := by simp
    go_enter Try.func17, Try.ntmps17
    go_wp2
    go_loopg [5] n (fun kx s5 wr => ∃ k : Nat, s5 = .int .i64 (k : Int) ∧ k ≤ n ∧ n - k ≤ kx ∧ Hid ((∀ (j : Nat) p q, j < k → P[j]? = some p → Q[j]? = some q → p.1 = q.1) ∧ Old w wr))
    case atStart => exact ⟨0, rfl, Nat.zero_le _, Nat.le_refl _, Lib.hid ⟨fun j p q hj => by omega, Old.refl w⟩⟩
    case round =>
      obtain ⟨k, rfl, hk, hkx, HS⟩ := hrel
      by_cases hlt : k < n
      · have hlti : (k : Int) < (n : Int) := by omega
        obtain ⟨p, hp⟩ : ∃ p, P[k]? = some p := ⟨P[k]'(by have := HN.out; omega), List.getElem?_eq_getElem _⟩
        obtain ⟨q, hq⟩ : ∃ q, Q[k]? = some q := ⟨Q[k]'(by have := HN.out; omega), List.getElem?_eq_getElem _⟩
        obtain ⟨g, o, rfl, hg, k0, k1, k2⟩ := HE.out k p hp
        obtain ⟨g', o', rfl, hg', l0, l1, l2⟩ := HF.out k q hq
        have hpi := HTA.out p (List.mem_of_getElem? hp)
        have hqi := HTB.out q (List.mem_of_getElem? hq)
        have HP := Lib.hid hp
        have HQ := Lib.hid hq
        obtain ⟨⟨pr, pt, ps⟩, pv⟩ := p
        obtain ⟨⟨qr, qt, qs⟩, qv⟩ := q
        simp only at hpi hqi k0 k1 k2 l0 l1 l2
        have hc : ∀ W, Old w W → Calls Try.prog 15 #[av (⟨pr, pt, ps⟩, pv), av (⟨qr, qt, qs⟩, qv)] W fun e w' => e = .returned (.bool (sameP ⟨pr, pt, ps⟩ ⟨qr, qt, qs⟩)) ∧ Old W w' := fun W ho => rsame_any (⟨pr, pt, ps⟩, pv) (⟨qr, qt, qs⟩, qv) (hpi.old ho) (hqi.old ho)
        have HC := Lib.hid hc
        obtain ⟨ot, ct, et⟩ := hpi.slice
        obtain ⟨ou, cu, eu⟩ := hqi.slice
        subst et eu
        unfold av at HC
        simp only at HC
        obtain ⟨m1, hm1⟩ : ∃ m, m = pt.length := ⟨_, rfl⟩
        obtain ⟨m2, hm2⟩ : ∃ m, m = qt.length := ⟨_, rfl⟩
        rw [← hm1] at HC HP k1
        rw [← hm2] at HC HQ l1
        have HSM := Lib.hid (show sameP ⟨pr, pt, ps⟩ ⟨qr, qt, qs⟩ = true ↔ pr = qr ∧ pt = qt by unfold sameP; simp)
        obtain ⟨S, hS⟩ : ∃ S, S = sameP ⟨pr, pt, ps⟩ ⟨qr, qt, qs⟩ := ⟨_, rfl⟩
        rw [← hS] at HC HSM
        have K := Lib.hid (And.intro k0 (And.intro k1 k2))
        have L := Lib.hid (And.intro l0 (And.intro l1 l2))
        have HG := Lib.hid (And.intro hg hg')
        have c0 := (HS.out.2.cell (p := ⟨g, o + k * 3, none⟩) hg).trans k0
        have c1 := (HS.out.2.cell (p := ⟨g, o + k * 3 + 1, none⟩) hg).trans k1
        have c2 := (HS.out.2.cell (p := ⟨g, o + k * 3 + 2, none⟩) hg).trans k2
        have d0 := (HS.out.2.cell (p := ⟨g', o' + k * 3, none⟩) hg').trans l0
        have d1 := (HS.out.2.cell (p := ⟨g', o' + k * 3 + 1, none⟩) hg').trans l1
        have d2 := (HS.out.2.cell (p := ⟨g', o' + k * 3 + 2, none⟩) hg').trans l2
        have h0k : (0 : Int) ≤ (k : Int) := by omega
        obtain ⟨B, hB⟩ : ∃ B, B = (!S || decide (ps ≠ qs)) := ⟨_, rfl⟩
        have HB := Lib.hid hB
        clear hp hq hpi hqi hc hm1 hm2 hS hB k0 k1 k2 l0 l1 l2 hg hg'
        go_upto_region 6 with fail
        go_cut [39] from 17 (fun s39 wx => s39 = .bool B ∧ Hid (Old w wx))
        case first =>
          have HGW := Lib.hid (And.intro (Nat.lt_of_lt_of_le HG.out.1 HS.out.2.size) (Nat.lt_of_lt_of_le HG.out.2 HS.out.2.size))
          cases S with
          | false =>
            refine wp_region_inv (spOf [.eq (.slice (some ⟨g, o, none⟩) n ca), .eq (.int .i64 (k : Int)), .eq (.pointer (some ⟨g, o + k * 3, none⟩)), .eq (.agg #[.int .i64 pr, .slice ot m1 ct, .int .i64 ps]), .eq (.slice (some ⟨g', o', none⟩) n cb), .eq (.int .i64 (k : Int)), .eq (.pointer (some ⟨g', o' + k * 3, none⟩)), .eq (.agg #[.int .i64 qr, .slice ou m2 cu, .int .i64 qs]), .eq (.bool false), .eq (.bool true), .eq (.bool true), .any, .any, .any, .any, .any, .any, .any, .any, .any, .any, .any, .eq (.bool true)]) (by kernel_rfl) (by kernel_rfl) (spOf_mono _) ?_ ?_
            · refine ⟨?_, ?_, ?_, ?_, ?_, ?_, ?_, ?_, ?_, ?_, ?_, ?_, ?_, ?_, ?_, ?_, ?_, ?_, ?_, ?_, ?_, ?_, ?_, trivial⟩
              · refine step_plain rfl fun ρ w2 ho hr hd => ?_
                have x0 : ρ (.tmp 0) = .slice (some ⟨g, o, none⟩) n ca := (hr.1 0 rfl).trans rfl
                exact does_move rfl x0 ⟨rfl, Old.refl _⟩
              · refine step_plain rfl fun ρ w2 ho hr hd => ?_
                have x0 : ρ (.tmp 5) = .int .i64 (k : Int) := (hr.1 5 rfl).trans rfl
                exact does_move rfl x0 ⟨rfl, Old.refl _⟩
              · refine step_plain rfl fun ρ w2 ho hr hd => ?_
                obtain ⟨h0, h1, _⟩ := hd
                have x0 : ρ (.tmp 17) = .slice (some ⟨g, o, none⟩) n ca := h0 rfl
                have y0 : ρ (.tmp 18) = .int .i64 (k : Int) := h1 rfl
                refine does_value (v := .pointer (some ⟨g, o + k * 3, none⟩)) (w' := w2) ?_ ⟨rfl, Old.refl _⟩
                unfold execOp
                simp only [x0, y0]
                go_simp
              · refine step_plain rfl fun ρ w2 ho hr hd => ?_
                obtain ⟨h0, _⟩ := hd
                have x0 : ρ (.tmp 19) = .pointer (some ⟨g, o + k * 3, none⟩) := h0 rfl
                have q0 := (ho.cell HGW.out.1).trans c0
                have q1 := (ho.cell HGW.out.1).trans c1
                have q2 := (ho.cell HGW.out.1).trans c2
                refine does_value (v := .agg #[.int .i64 pr, .slice ot m1 ct, .int .i64 ps]) (w' := w2) ?_ ⟨rfl, Old.refl _⟩
                unfold execOp
                simp only [x0]
                go_simp
              · refine step_plain rfl fun ρ w2 ho hr hd => ?_
                have x0 : ρ (.tmp 1) = .slice (some ⟨g', o', none⟩) n cb := (hr.1 1 rfl).trans rfl
                exact does_move rfl x0 ⟨rfl, Old.refl _⟩
              · refine step_plain rfl fun ρ w2 ho hr hd => ?_
                have x0 : ρ (.tmp 5) = .int .i64 (k : Int) := (hr.1 5 rfl).trans rfl
                exact does_move rfl x0 ⟨rfl, Old.refl _⟩
              · refine step_plain rfl fun ρ w2 ho hr hd => ?_
                obtain ⟨h0, h1, _⟩ := hd
                have x0 : ρ (.tmp 21) = .slice (some ⟨g', o', none⟩) n cb := h0 rfl
                have y0 : ρ (.tmp 22) = .int .i64 (k : Int) := h1 rfl
                refine does_value (v := .pointer (some ⟨g', o' + k * 3, none⟩)) (w' := w2) ?_ ⟨rfl, Old.refl _⟩
                unfold execOp
                simp only [x0, y0]
                go_simp
              · refine step_plain rfl fun ρ w2 ho hr hd => ?_
                obtain ⟨h0, _⟩ := hd
                have x0 : ρ (.tmp 23) = .pointer (some ⟨g', o' + k * 3, none⟩) := h0 rfl
                have q0 := (ho.cell HGW.out.2).trans d0
                have q1 := (ho.cell HGW.out.2).trans d1
                have q2 := (ho.cell HGW.out.2).trans d2
                refine does_value (v := .agg #[.int .i64 qr, .slice ou m2 cu, .int .i64 qs]) (w' := w2) ?_ ⟨rfl, Old.refl _⟩
                unfold execOp
                simp only [x0]
                go_simp
              · refine step_plain rfl fun ρ w2 ho hr hd => ?_
                obtain ⟨h0, h1, _⟩ := hd
                have x0 : ρ (.tmp 20) = .agg #[.int .i64 pr, .slice ot m1 ct, .int .i64 ps] := h0 rfl
                have x1 : ρ (.tmp 24) = .agg #[.int .i64 qr, .slice ou m2 cu, .int .i64 qs] := h1 rfl
                exact does_call2 rfl (hr.2.2.2 _) x0 x1 rfl (((HC.out _ (HS.out.2.trans ho))).mono fun e w' h => ⟨_, h.1, rfl, h.2⟩)
              · refine step_plain rfl fun ρ w2 ho hr hd => ?_
                obtain ⟨h0, _⟩ := hd
                have x0 : ρ (.tmp 25) = .bool false := h0 rfl
                refine does_value (v := .bool true) (w' := w2) ?_ ⟨rfl, Old.refl _⟩
                unfold execOp
                simp only [x0]
                go_simp
              · refine step_plain rfl fun ρ w2 ho hr hd => ?_
                obtain ⟨h0, h1, _⟩ := hd
                have x0 : ρ (.tmp 26) = .bool true := h0 rfl
                exact does_move rfl x0 ⟨rfl, Old.refl _⟩
              · refine step_skip rfl (fun ρ w2 ho hr hd => ?_) (fun _ => trivial)
                obtain ⟨h0, _⟩ := hd
                have hgd : ρ (.tmp 27) = .bool true := h0 rfl
                exact hgd
              · refine step_skip rfl (fun ρ w2 ho hr hd => ?_) (fun _ => trivial)
                obtain ⟨h0, _⟩ := hd
                have hgd : ρ (.tmp 27) = .bool true := h0 rfl
                exact hgd
              · refine step_skip rfl (fun ρ w2 ho hr hd => ?_) (fun _ => trivial)
                obtain ⟨h0, h1, h2, _⟩ := hd
                have hgd : ρ (.tmp 27) = .bool true := h2 rfl
                exact hgd
              · refine step_skip rfl (fun ρ w2 ho hr hd => ?_) (fun _ => trivial)
                obtain ⟨h0, h1, _⟩ := hd
                have hgd : ρ (.tmp 27) = .bool true := h1 rfl
                exact hgd
              · refine step_skip rfl (fun ρ w2 ho hr hd => ?_) (fun _ => trivial)
                obtain ⟨h0, h1, _⟩ := hd
                have hgd : ρ (.tmp 27) = .bool true := h1 rfl
                exact hgd
              · refine step_skip rfl (fun ρ w2 ho hr hd => ?_) (fun _ => trivial)
                obtain ⟨h0, _⟩ := hd
                have hgd : ρ (.tmp 27) = .bool true := h0 rfl
                exact hgd
              · refine step_skip rfl (fun ρ w2 ho hr hd => ?_) (fun _ => trivial)
                obtain ⟨h0, _⟩ := hd
                have hgd : ρ (.tmp 27) = .bool true := h0 rfl
                exact hgd
              · refine step_skip rfl (fun ρ w2 ho hr hd => ?_) (fun _ => trivial)
                obtain ⟨h0, h1, h2, _⟩ := hd
                have hgd : ρ (.tmp 27) = .bool true := h2 rfl
                exact hgd
              · refine step_skip rfl (fun ρ w2 ho hr hd => ?_) (fun _ => trivial)
                obtain ⟨h0, h1, _⟩ := hd
                have hgd : ρ (.tmp 27) = .bool true := h1 rfl
                exact hgd
              · refine step_skip rfl (fun ρ w2 ho hr hd => ?_) (fun _ => trivial)
                obtain ⟨h0, h1, _⟩ := hd
                have hgd : ρ (.tmp 27) = .bool true := h1 rfl
                exact hgd
              · refine step_skip rfl (fun ρ w2 ho hr hd => ?_) (fun _ => trivial)
                obtain ⟨h0, h1, h2, _⟩ := hd
                have hgd : ρ (.tmp 27) = .bool true := h2 rfl
                exact hgd
              · refine step_plain rfl fun ρ w2 ho hr hd => ?_
                obtain ⟨h0, h1, _⟩ := hd
                have x0 : ρ (.tmp 27) = .bool true := h0 rfl
                exact does_pick rfl x0 (hr.2.1 _) ⟨rfl, Old.refl _⟩
            · intro a' w' hoE hst hl
              obtain ⟨_, _, _, _, _, _, _, _, _, _, _, _, _, _, _, _, _, _, _, _, _, _, k22, _⟩ := hl
              have e22 : a'.eval (.tmp 39) = .bool true := k22
              rw [act_fresh hst [false, false, false, false, false, false, false, false, false, false, false, false, false, false, false, false, false, true, true, true, true, true, true, true, true, true, true, true, true, true, true, true, true, true, true, true, true, true, true, true] (by kernel_rfl) (by kernel_rfl)]
              simp only [fresh, e22]
              clear hst k22 e22
              have HQ := Lib.hid (HS.out.2.trans hoE)
              clear hoE
              go_wp2_with fail
              go_meet
              case rel => exact ⟨by rw [HB.out]; rfl, HQ⟩
          | true =>
            by_cases hss : ps = qs
            · have hsb : (ps != qs) = false := by simpa using hss
              have HSS := Lib.hid hss
              clear hss
              refine wp_region_inv (spOf [.eq (.slice (some ⟨g, o, none⟩) n ca), .eq (.int .i64 (k : Int)), .eq (.pointer (some ⟨g, o + k * 3, none⟩)), .eq (.agg #[.int .i64 pr, .slice ot m1 ct, .int .i64 ps]), .eq (.slice (some ⟨g', o', none⟩) n cb), .eq (.int .i64 (k : Int)), .eq (.pointer (some ⟨g', o' + k * 3, none⟩)), .eq (.agg #[.int .i64 qr, .slice ou m2 cu, .int .i64 qs]), .eq (.bool true), .eq (.bool false), .eq (.bool false), .eq (.slice (some ⟨g, o, none⟩) n ca), .eq (.int .i64 (k : Int)), .eq (.pointer (some ⟨g, o + k * 3, none⟩)), .eq (.pointer (some ⟨g, o + k * 3 + 2, none⟩)), .eq (.int .i64 ps), .eq (.slice (some ⟨g', o', none⟩) n cb), .eq (.int .i64 (k : Int)), .eq (.pointer (some ⟨g', o' + k * 3, none⟩)), .eq (.pointer (some ⟨g', o' + k * 3 + 2, none⟩)), .eq (.int .i64 qs), .eq (.bool false), .eq (.bool false)]) (by kernel_rfl) (by kernel_rfl) (spOf_mono _) ?_ ?_
              · refine ⟨?_, ?_, ?_, ?_, ?_, ?_, ?_, ?_, ?_, ?_, ?_, ?_, ?_, ?_, ?_, ?_, ?_, ?_, ?_, ?_, ?_, ?_, ?_, trivial⟩
                · refine step_plain rfl fun ρ w2 ho hr hd => ?_
                  have x0 : ρ (.tmp 0) = .slice (some ⟨g, o, none⟩) n ca := (hr.1 0 rfl).trans rfl
                  exact does_move rfl x0 ⟨rfl, Old.refl _⟩
                · refine step_plain rfl fun ρ w2 ho hr hd => ?_
                  have x0 : ρ (.tmp 5) = .int .i64 (k : Int) := (hr.1 5 rfl).trans rfl
                  exact does_move rfl x0 ⟨rfl, Old.refl _⟩
                · refine step_plain rfl fun ρ w2 ho hr hd => ?_
                  obtain ⟨h0, h1, _⟩ := hd
                  have x0 : ρ (.tmp 17) = .slice (some ⟨g, o, none⟩) n ca := h0 rfl
                  have y0 : ρ (.tmp 18) = .int .i64 (k : Int) := h1 rfl
                  refine does_value (v := .pointer (some ⟨g, o + k * 3, none⟩)) (w' := w2) ?_ ⟨rfl, Old.refl _⟩
                  unfold execOp
                  simp only [x0, y0]
                  go_simp
                · refine step_plain rfl fun ρ w2 ho hr hd => ?_
                  obtain ⟨h0, _⟩ := hd
                  have x0 : ρ (.tmp 19) = .pointer (some ⟨g, o + k * 3, none⟩) := h0 rfl
                  have q0 := (ho.cell HGW.out.1).trans c0
                  have q1 := (ho.cell HGW.out.1).trans c1
                  have q2 := (ho.cell HGW.out.1).trans c2
                  refine does_value (v := .agg #[.int .i64 pr, .slice ot m1 ct, .int .i64 ps]) (w' := w2) ?_ ⟨rfl, Old.refl _⟩
                  unfold execOp
                  simp only [x0]
                  go_simp
                · refine step_plain rfl fun ρ w2 ho hr hd => ?_
                  have x0 : ρ (.tmp 1) = .slice (some ⟨g', o', none⟩) n cb := (hr.1 1 rfl).trans rfl
                  exact does_move rfl x0 ⟨rfl, Old.refl _⟩
                · refine step_plain rfl fun ρ w2 ho hr hd => ?_
                  have x0 : ρ (.tmp 5) = .int .i64 (k : Int) := (hr.1 5 rfl).trans rfl
                  exact does_move rfl x0 ⟨rfl, Old.refl _⟩
                · refine step_plain rfl fun ρ w2 ho hr hd => ?_
                  obtain ⟨h0, h1, _⟩ := hd
                  have x0 : ρ (.tmp 21) = .slice (some ⟨g', o', none⟩) n cb := h0 rfl
                  have y0 : ρ (.tmp 22) = .int .i64 (k : Int) := h1 rfl
                  refine does_value (v := .pointer (some ⟨g', o' + k * 3, none⟩)) (w' := w2) ?_ ⟨rfl, Old.refl _⟩
                  unfold execOp
                  simp only [x0, y0]
                  go_simp
                · refine step_plain rfl fun ρ w2 ho hr hd => ?_
                  obtain ⟨h0, _⟩ := hd
                  have x0 : ρ (.tmp 23) = .pointer (some ⟨g', o' + k * 3, none⟩) := h0 rfl
                  have q0 := (ho.cell HGW.out.2).trans d0
                  have q1 := (ho.cell HGW.out.2).trans d1
                  have q2 := (ho.cell HGW.out.2).trans d2
                  refine does_value (v := .agg #[.int .i64 qr, .slice ou m2 cu, .int .i64 qs]) (w' := w2) ?_ ⟨rfl, Old.refl _⟩
                  unfold execOp
                  simp only [x0]
                  go_simp
                · refine step_plain rfl fun ρ w2 ho hr hd => ?_
                  obtain ⟨h0, h1, _⟩ := hd
                  have x0 : ρ (.tmp 20) = .agg #[.int .i64 pr, .slice ot m1 ct, .int .i64 ps] := h0 rfl
                  have x1 : ρ (.tmp 24) = .agg #[.int .i64 qr, .slice ou m2 cu, .int .i64 qs] := h1 rfl
                  exact does_call2 rfl (hr.2.2.2 _) x0 x1 rfl (((HC.out _ (HS.out.2.trans ho))).mono fun e w' h => ⟨_, h.1, rfl, h.2⟩)
                · refine step_plain rfl fun ρ w2 ho hr hd => ?_
                  obtain ⟨h0, _⟩ := hd
                  have x0 : ρ (.tmp 25) = .bool true := h0 rfl
                  refine does_value (v := .bool false) (w' := w2) ?_ ⟨rfl, Old.refl _⟩
                  unfold execOp
                  simp only [x0]
                  go_simp
                · refine step_plain rfl fun ρ w2 ho hr hd => ?_
                  obtain ⟨h0, h1, _⟩ := hd
                  have x0 : ρ (.tmp 26) = .bool false := h0 rfl
                  exact does_move rfl x0 ⟨rfl, Old.refl _⟩
                · refine step_guard rfl fun ρ w2 ho hr hd => ?_
                  obtain ⟨h0, _⟩ := hd
                  have hgd : ρ (.tmp 27) = .bool false := h0 rfl
                  have x0 : ρ (.tmp 0) = .slice (some ⟨g, o, none⟩) n ca := (hr.1 0 rfl).trans rfl
                  refine ⟨hgd, ?_⟩
                  exact does_move rfl x0 ⟨rfl, Old.refl _⟩
                · refine step_guard rfl fun ρ w2 ho hr hd => ?_
                  obtain ⟨h0, _⟩ := hd
                  have hgd : ρ (.tmp 27) = .bool false := h0 rfl
                  have x0 : ρ (.tmp 5) = .int .i64 (k : Int) := (hr.1 5 rfl).trans rfl
                  refine ⟨hgd, ?_⟩
                  exact does_move rfl x0 ⟨rfl, Old.refl _⟩
                · refine step_guard rfl fun ρ w2 ho hr hd => ?_
                  obtain ⟨h0, h1, h2, _⟩ := hd
                  have hgd : ρ (.tmp 27) = .bool false := h2 rfl
                  have x0 : ρ (.tmp 28) = .slice (some ⟨g, o, none⟩) n ca := h0 rfl
                  have y0 : ρ (.tmp 29) = .int .i64 (k : Int) := h1 rfl
                  refine ⟨hgd, ?_⟩
                  refine does_value (v := .pointer (some ⟨g, o + k * 3, none⟩)) (w' := w2) ?_ ⟨rfl, Old.refl _⟩
                  unfold execOp
                  simp only [x0, y0]
                  go_simp
                · refine step_guard rfl fun ρ w2 ho hr hd => ?_
                  obtain ⟨h0, h1, _⟩ := hd
                  have hgd : ρ (.tmp 27) = .bool false := h1 rfl
                  have x0 : ρ (.tmp 30) = .pointer (some ⟨g, o + k * 3, none⟩) := h0 rfl
                  refine ⟨hgd, ?_⟩
                  refine does_value (v := .pointer (some ⟨g, o + k * 3 + 2, none⟩)) (w' := w2) ?_ ⟨rfl, Old.refl _⟩
                  unfold execOp
                  simp only [x0]
                  go_simp
                · refine step_guard rfl fun ρ w2 ho hr hd => ?_
                  obtain ⟨h0, h1, _⟩ := hd
                  have hgd : ρ (.tmp 27) = .bool false := h1 rfl
                  have x0 : ρ (.tmp 31) = .pointer (some ⟨g, o + k * 3 + 2, none⟩) := h0 rfl
                  have q0 := (ho.cell HGW.out.1).trans c2
                  refine ⟨hgd, ?_⟩
                  refine does_value (v := .int .i64 ps) (w' := w2) ?_ ⟨rfl, Old.refl _⟩
                  unfold execOp
                  simp only [x0]
                  go_simp
                · refine step_guard rfl fun ρ w2 ho hr hd => ?_
                  obtain ⟨h0, _⟩ := hd
                  have hgd : ρ (.tmp 27) = .bool false := h0 rfl
                  have x0 : ρ (.tmp 1) = .slice (some ⟨g', o', none⟩) n cb := (hr.1 1 rfl).trans rfl
                  refine ⟨hgd, ?_⟩
                  exact does_move rfl x0 ⟨rfl, Old.refl _⟩
                · refine step_guard rfl fun ρ w2 ho hr hd => ?_
                  obtain ⟨h0, _⟩ := hd
                  have hgd : ρ (.tmp 27) = .bool false := h0 rfl
                  have x0 : ρ (.tmp 5) = .int .i64 (k : Int) := (hr.1 5 rfl).trans rfl
                  refine ⟨hgd, ?_⟩
                  exact does_move rfl x0 ⟨rfl, Old.refl _⟩
                · refine step_guard rfl fun ρ w2 ho hr hd => ?_
                  obtain ⟨h0, h1, h2, _⟩ := hd
                  have hgd : ρ (.tmp 27) = .bool false := h2 rfl
                  have x0 : ρ (.tmp 33) = .slice (some ⟨g', o', none⟩) n cb := h0 rfl
                  have y0 : ρ (.tmp 34) = .int .i64 (k : Int) := h1 rfl
                  refine ⟨hgd, ?_⟩
                  refine does_value (v := .pointer (some ⟨g', o' + k * 3, none⟩)) (w' := w2) ?_ ⟨rfl, Old.refl _⟩
                  unfold execOp
                  simp only [x0, y0]
                  go_simp
                · refine step_guard rfl fun ρ w2 ho hr hd => ?_
                  obtain ⟨h0, h1, _⟩ := hd
                  have hgd : ρ (.tmp 27) = .bool false := h1 rfl
                  have x0 : ρ (.tmp 35) = .pointer (some ⟨g', o' + k * 3, none⟩) := h0 rfl
                  refine ⟨hgd, ?_⟩
                  refine does_value (v := .pointer (some ⟨g', o' + k * 3 + 2, none⟩)) (w' := w2) ?_ ⟨rfl, Old.refl _⟩
                  unfold execOp
                  simp only [x0]
                  go_simp
                · refine step_guard rfl fun ρ w2 ho hr hd => ?_
                  obtain ⟨h0, h1, _⟩ := hd
                  have hgd : ρ (.tmp 27) = .bool false := h1 rfl
                  have x0 : ρ (.tmp 36) = .pointer (some ⟨g', o' + k * 3 + 2, none⟩) := h0 rfl
                  have q0 := (ho.cell HGW.out.2).trans d2
                  refine ⟨hgd, ?_⟩
                  refine does_value (v := .int .i64 qs) (w' := w2) ?_ ⟨rfl, Old.refl _⟩
                  unfold execOp
                  simp only [x0]
                  go_simp
                · refine step_guard rfl fun ρ w2 ho hr hd => ?_
                  obtain ⟨h0, h1, h2, _⟩ := hd
                  have hgd : ρ (.tmp 27) = .bool false := h2 rfl
                  have x0 : ρ (.tmp 32) = .int .i64 ps := h0 rfl
                  have y0 : ρ (.tmp 37) = .int .i64 qs := h1 rfl
                  refine ⟨hgd, ?_⟩
                  refine does_value (v := .bool false) (w' := w2) ?_ ⟨rfl, Old.refl _⟩
                  unfold execOp
                  simp only [x0, y0]
                  go_simp
                · refine step_plain rfl fun ρ w2 ho hr hd => ?_
                  obtain ⟨h0, h1, _⟩ := hd
                  have x0 : ρ (.tmp 27) = .bool false := h0 rfl
                  have y0 : ρ (.tmp 38) = .bool false := h1 rfl
                  exact does_pick rfl x0 y0 ⟨rfl, Old.refl _⟩
              · intro a' w' hoE hst hl
                obtain ⟨_, _, _, _, _, _, _, _, _, _, _, _, _, _, _, _, _, _, _, _, _, _, k22, _⟩ := hl
                have e22 : a'.eval (.tmp 39) = .bool false := k22
                rw [act_fresh hst [false, false, false, false, false, false, false, false, false, false, false, false, false, false, false, false, false, true, true, true, true, true, true, true, true, true, true, true, true, true, true, true, true, true, true, true, true, true, true, true] (by kernel_rfl) (by kernel_rfl)]
                simp only [fresh, e22]
                clear hst k22 e22
                have HQ := Lib.hid (HS.out.2.trans hoE)
                clear hoE
                go_wp2_with fail
                go_meet
                case rel => exact ⟨by rw [HB.out]; simp [HSS.out], HQ⟩
            · have hsb : (ps != qs) = true := by simpa using hss
              have HSS := Lib.hid hss
              clear hss
              refine wp_region_inv (spOf [.eq (.slice (some ⟨g, o, none⟩) n ca), .eq (.int .i64 (k : Int)), .eq (.pointer (some ⟨g, o + k * 3, none⟩)), .eq (.agg #[.int .i64 pr, .slice ot m1 ct, .int .i64 ps]), .eq (.slice (some ⟨g', o', none⟩) n cb), .eq (.int .i64 (k : Int)), .eq (.pointer (some ⟨g', o' + k * 3, none⟩)), .eq (.agg #[.int .i64 qr, .slice ou m2 cu, .int .i64 qs]), .eq (.bool true), .eq (.bool false), .eq (.bool false), .eq (.slice (some ⟨g, o, none⟩) n ca), .eq (.int .i64 (k : Int)), .eq (.pointer (some ⟨g, o + k * 3, none⟩)), .eq (.pointer (some ⟨g, o + k * 3 + 2, none⟩)), .eq (.int .i64 ps), .eq (.slice (some ⟨g', o', none⟩) n cb), .eq (.int .i64 (k : Int)), .eq (.pointer (some ⟨g', o' + k * 3, none⟩)), .eq (.pointer (some ⟨g', o' + k * 3 + 2, none⟩)), .eq (.int .i64 qs), .eq (.bool true), .eq (.bool true)]) (by kernel_rfl) (by kernel_rfl) (spOf_mono _) ?_ ?_
              · refine ⟨?_, ?_, ?_, ?_, ?_, ?_, ?_, ?_, ?_, ?_, ?_, ?_, ?_, ?_, ?_, ?_, ?_, ?_, ?_, ?_, ?_, ?_, ?_, trivial⟩
                · refine step_plain rfl fun ρ w2 ho hr hd => ?_
                  have x0 : ρ (.tmp 0) = .slice (some ⟨g, o, none⟩) n ca := (hr.1 0 rfl).trans rfl
                  exact does_move rfl x0 ⟨rfl, Old.refl _⟩
                · refine step_plain rfl fun ρ w2 ho hr hd => ?_
                  have x0 : ρ (.tmp 5) = .int .i64 (k : Int) := (hr.1 5 rfl).trans rfl
                  exact does_move rfl x0 ⟨rfl, Old.refl _⟩
                · refine step_plain rfl fun ρ w2 ho hr hd => ?_
                  obtain ⟨h0, h1, _⟩ := hd
                  have x0 : ρ (.tmp 17) = .slice (some ⟨g, o, none⟩) n ca := h0 rfl
                  have y0 : ρ (.tmp 18) = .int .i64 (k : Int) := h1 rfl
                  refine does_value (v := .pointer (some ⟨g, o + k * 3, none⟩)) (w' := w2) ?_ ⟨rfl, Old.refl _⟩
                  unfold execOp
                  simp only [x0, y0]
                  go_simp
                · refine step_plain rfl fun ρ w2 ho hr hd => ?_
                  obtain ⟨h0, _⟩ := hd
                  have x0 : ρ (.tmp 19) = .pointer (some ⟨g, o + k * 3, none⟩) := h0 rfl
                  have q0 := (ho.cell HGW.out.1).trans c0
                  have q1 := (ho.cell HGW.out.1).trans c1
                  have q2 := (ho.cell HGW.out.1).trans c2
                  refine does_value (v := .agg #[.int .i64 pr, .slice ot m1 ct, .int .i64 ps]) (w' := w2) ?_ ⟨rfl, Old.refl _⟩
                  unfold execOp
                  simp only [x0]
                  go_simp
                · refine step_plain rfl fun ρ w2 ho hr hd => ?_
                  have x0 : ρ (.tmp 1) = .slice (some ⟨g', o', none⟩) n cb := (hr.1 1 rfl).trans rfl
                  exact does_move rfl x0 ⟨rfl, Old.refl _⟩
                · refine step_plain rfl fun ρ w2 ho hr hd => ?_
                  have x0 : ρ (.tmp 5) = .int .i64 (k : Int) := (hr.1 5 rfl).trans rfl
                  exact does_move rfl x0 ⟨rfl, Old.refl _⟩
                · refine step_plain rfl fun ρ w2 ho hr hd => ?_
                  obtain ⟨h0, h1, _⟩ := hd
                  have x0 : ρ (.tmp 21) = .slice (some ⟨g', o', none⟩) n cb := h0 rfl
                  have y0 : ρ (.tmp 22) = .int .i64 (k : Int) := h1 rfl
                  refine does_value (v := .pointer (some ⟨g', o' + k * 3, none⟩)) (w' := w2) ?_ ⟨rfl, Old.refl _⟩
                  unfold execOp
                  simp only [x0, y0]
                  go_simp
                · refine step_plain rfl fun ρ w2 ho hr hd => ?_
                  obtain ⟨h0, _⟩ := hd
                  have x0 : ρ (.tmp 23) = .pointer (some ⟨g', o' + k * 3, none⟩) := h0 rfl
                  have q0 := (ho.cell HGW.out.2).trans d0
                  have q1 := (ho.cell HGW.out.2).trans d1
                  have q2 := (ho.cell HGW.out.2).trans d2
                  refine does_value (v := .agg #[.int .i64 qr, .slice ou m2 cu, .int .i64 qs]) (w' := w2) ?_ ⟨rfl, Old.refl _⟩
                  unfold execOp
                  simp only [x0]
                  go_simp
                · refine step_plain rfl fun ρ w2 ho hr hd => ?_
                  obtain ⟨h0, h1, _⟩ := hd
                  have x0 : ρ (.tmp 20) = .agg #[.int .i64 pr, .slice ot m1 ct, .int .i64 ps] := h0 rfl
                  have x1 : ρ (.tmp 24) = .agg #[.int .i64 qr, .slice ou m2 cu, .int .i64 qs] := h1 rfl
                  exact does_call2 rfl (hr.2.2.2 _) x0 x1 rfl (((HC.out _ (HS.out.2.trans ho))).mono fun e w' h => ⟨_, h.1, rfl, h.2⟩)
                · refine step_plain rfl fun ρ w2 ho hr hd => ?_
                  obtain ⟨h0, _⟩ := hd
                  have x0 : ρ (.tmp 25) = .bool true := h0 rfl
                  refine does_value (v := .bool false) (w' := w2) ?_ ⟨rfl, Old.refl _⟩
                  unfold execOp
                  simp only [x0]
                  go_simp
                · refine step_plain rfl fun ρ w2 ho hr hd => ?_
                  obtain ⟨h0, h1, _⟩ := hd
                  have x0 : ρ (.tmp 26) = .bool false := h0 rfl
                  exact does_move rfl x0 ⟨rfl, Old.refl _⟩
                · refine step_guard rfl fun ρ w2 ho hr hd => ?_
                  obtain ⟨h0, _⟩ := hd
                  have hgd : ρ (.tmp 27) = .bool false := h0 rfl
                  have x0 : ρ (.tmp 0) = .slice (some ⟨g, o, none⟩) n ca := (hr.1 0 rfl).trans rfl
                  refine ⟨hgd, ?_⟩
                  exact does_move rfl x0 ⟨rfl, Old.refl _⟩
                · refine step_guard rfl fun ρ w2 ho hr hd => ?_
                  obtain ⟨h0, _⟩ := hd
                  have hgd : ρ (.tmp 27) = .bool false := h0 rfl
                  have x0 : ρ (.tmp 5) = .int .i64 (k : Int) := (hr.1 5 rfl).trans rfl
                  refine ⟨hgd, ?_⟩
                  exact does_move rfl x0 ⟨rfl, Old.refl _⟩
                · refine step_guard rfl fun ρ w2 ho hr hd => ?_
                  obtain ⟨h0, h1, h2, _⟩ := hd
                  have hgd : ρ (.tmp 27) = .bool false := h2 rfl
                  have x0 : ρ (.tmp 28) = .slice (some ⟨g, o, none⟩) n ca := h0 rfl
                  have y0 : ρ (.tmp 29) = .int .i64 (k : Int) := h1 rfl
                  refine ⟨hgd, ?_⟩
                  refine does_value (v := .pointer (some ⟨g, o + k * 3, none⟩)) (w' := w2) ?_ ⟨rfl, Old.refl _⟩
                  unfold execOp
                  simp only [x0, y0]
                  go_simp
                · refine step_guard rfl fun ρ w2 ho hr hd => ?_
                  obtain ⟨h0, h1, _⟩ := hd
                  have hgd : ρ (.tmp 27) = .bool false := h1 rfl
                  have x0 : ρ (.tmp 30) = .pointer (some ⟨g, o + k * 3, none⟩) := h0 rfl
                  refine ⟨hgd, ?_⟩
                  refine does_value (v := .pointer (some ⟨g, o + k * 3 + 2, none⟩)) (w' := w2) ?_ ⟨rfl, Old.refl _⟩
                  unfold execOp
                  simp only [x0]
                  go_simp
                · refine step_guard rfl fun ρ w2 ho hr hd => ?_
                  obtain ⟨h0, h1, _⟩ := hd
                  have hgd : ρ (.tmp 27) = .bool false := h1 rfl
                  have x0 : ρ (.tmp 31) = .pointer (some ⟨g, o + k * 3 + 2, none⟩) := h0 rfl
                  have q0 := (ho.cell HGW.out.1).trans c2
                  refine ⟨hgd, ?_⟩
                  refine does_value (v := .int .i64 ps) (w' := w2) ?_ ⟨rfl, Old.refl _⟩
                  unfold execOp
                  simp only [x0]
                  go_simp
                · refine step_guard rfl fun ρ w2 ho hr hd => ?_
                  obtain ⟨h0, _⟩ := hd
                  have hgd : ρ (.tmp 27) = .bool false := h0 rfl
                  have x0 : ρ (.tmp 1) = .slice (some ⟨g', o', none⟩) n cb := (hr.1 1 rfl).trans rfl
                  refine ⟨hgd, ?_⟩
                  exact does_move rfl x0 ⟨rfl, Old.refl _⟩
                · refine step_guard rfl fun ρ w2 ho hr hd => ?_
                  obtain ⟨h0, _⟩ := hd
                  have hgd : ρ (.tmp 27) = .bool false := h0 rfl
                  have x0 : ρ (.tmp 5) = .int .i64 (k : Int) := (hr.1 5 rfl).trans rfl
                  refine ⟨hgd, ?_⟩
                  exact does_move rfl x0 ⟨rfl, Old.refl _⟩
                · refine step_guard rfl fun ρ w2 ho hr hd => ?_
                  obtain ⟨h0, h1, h2, _⟩ := hd
                  have hgd : ρ (.tmp 27) = .bool false := h2 rfl
                  have x0 : ρ (.tmp 33) = .slice (some ⟨g', o', none⟩) n cb := h0 rfl
                  have y0 : ρ (.tmp 34) = .int .i64 (k : Int) := h1 rfl
                  refine ⟨hgd, ?_⟩
                  refine does_value (v := .pointer (some ⟨g', o' + k * 3, none⟩)) (w' := w2) ?_ ⟨rfl, Old.refl _⟩
                  unfold execOp
                  simp only [x0, y0]
                  go_simp
                · refine step_guard rfl fun ρ w2 ho hr hd => ?_
                  obtain ⟨h0, h1, _⟩ := hd
                  have hgd : ρ (.tmp 27) = .bool false := h1 rfl
                  have x0 : ρ (.tmp 35) = .pointer (some ⟨g', o' + k * 3, none⟩) := h0 rfl
                  refine ⟨hgd, ?_⟩
                  refine does_value (v := .pointer (some ⟨g', o' + k * 3 + 2, none⟩)) (w' := w2) ?_ ⟨rfl, Old.refl _⟩
                  unfold execOp
                  simp only [x0]
                  go_simp
                · refine step_guard rfl fun ρ w2 ho hr hd => ?_
                  obtain ⟨h0, h1, _⟩ := hd
                  have hgd : ρ (.tmp 27) = .bool false := h1 rfl
                  have x0 : ρ (.tmp 36) = .pointer (some ⟨g', o' + k * 3 + 2, none⟩) := h0 rfl
                  have q0 := (ho.cell HGW.out.2).trans d2
                  refine ⟨hgd, ?_⟩
                  refine does_value (v := .int .i64 qs) (w' := w2) ?_ ⟨rfl, Old.refl _⟩
                  unfold execOp
                  simp only [x0]
                  go_simp
                · refine step_guard rfl fun ρ w2 ho hr hd => ?_
                  obtain ⟨h0, h1, h2, _⟩ := hd
                  have hgd : ρ (.tmp 27) = .bool false := h2 rfl
                  have x0 : ρ (.tmp 32) = .int .i64 ps := h0 rfl
                  have y0 : ρ (.tmp 37) = .int .i64 qs := h1 rfl
                  refine ⟨hgd, ?_⟩
                  refine does_value (v := .bool true) (w' := w2) ?_ ⟨rfl, Old.refl _⟩
                  unfold execOp
                  simp only [x0, y0]
                  go_simp
                · refine step_plain rfl fun ρ w2 ho hr hd => ?_
                  obtain ⟨h0, h1, _⟩ := hd
                  have x0 : ρ (.tmp 27) = .bool false := h0 rfl
                  have y0 : ρ (.tmp 38) = .bool true := h1 rfl
                  exact does_pick rfl x0 y0 ⟨rfl, Old.refl _⟩
              · intro a' w' hoE hst hl
                obtain ⟨_, _, _, _, _, _, _, _, _, _, _, _, _, _, _, _, _, _, _, _, _, _, k22, _⟩ := hl
                have e22 : a'.eval (.tmp 39) = .bool true := k22
                rw [act_fresh hst [false, false, false, false, false, false, false, false, false, false, false, false, false, false, false, false, false, true, true, true, true, true, true, true, true, true, true, true, true, true, true, true, true, true, true, true, true, true, true, true] (by kernel_rfl) (by kernel_rfl)]
                simp only [fresh, e22]
                clear hst k22 e22
                have HQ := Lib.hid (HS.out.2.trans hoE)
                clear hoE
                go_wp2_with fail
                go_meet
                case rel => exact ⟨by rw [HB.out]; simp [HSS.out], HQ⟩
        case rest =>
        obtain ⟨rfl, HO2⟩ := hcut
        clear c0 c1 c2 d0 d1 d2
        have hBS : B = false ↔ S = true ∧ ps = qs := by
          rw [HB.out]
          cases S <;> simp
        have HBS := Lib.hid hBS
        clear hBS
        cases B with
        | true =>
          go_wp2_with fail
          go_ret
          refine ⟨?_, HO2.out⟩
          rw [← HD.out]
          refine rb _ _ (decide_eq_false (fun e => ?_)).symm
          have h1 := congrArg (fun l => l[k]?) e
          simp only [List.getElem?_map, HP.out, HQ.out, Option.map_some, Option.some.injEq, Ac.mk.injEq] at h1
          have h2 := HBS.out.2 ⟨HSM.out.2 ⟨h1.1, h1.2.1⟩, h1.2.2⟩
          cases h2
        | false =>
          go_wp2_with fail
          go_roundg (n - (k + 1))
          case measure => omega
          case rel =>
            refine ⟨k + 1, by go_num, hlt, Nat.le_refl _, Lib.hid ⟨fun j p q hj hp hq => ?_, HO2.out⟩⟩
            by_cases ejk : j = k
            · subst ejk
              rw [HP.out] at hp
              rw [HQ.out] at hq
              obtain rfl := Option.some.inj hp
              obtain rfl := Option.some.inj hq
              obtain ⟨h1, h2⟩ := HBS.out.1 trivial
              obtain ⟨h3, h4⟩ := HSM.out.1 h1
              subst h2 h3 h4
              rfl
            · exact HS.out.1 j p q (by omega) hp hq
      · have hlti : ¬ (k : Int) < (n : Int) := by omega
        obtain rfl : k = n := by omega
        go_wp2_with fail
        go_ret
        refine ⟨?_, HS.out.2⟩
        rw [← HD.out]
        refine rb _ _ (decide_eq_true (List.ext_getElem? fun j => ?_)).symm
        rw [List.getElem?_map, List.getElem?_map]
        by_cases e : j < k
        · obtain ⟨p, hp⟩ : ∃ p, P[j]? = some p := ⟨P[j]'(by have := HN.out; omega), List.getElem?_eq_getElem _⟩
          obtain ⟨q, hq⟩ : ∃ q, Q[j]? = some q := ⟨Q[j]'(by have := HN.out; omega), List.getElem?_eq_getElem _⟩
          rw [hp, hq]
          exact congrArg some (HS.out.1 j p q e hp hq)
        · have h1 : P[j]? = none := List.getElem?_eq_none (by have := HN.out; omega)
          have h2 : Q[j]? = none := List.getElem?_eq_none (by have := HN.out; omega)
          rw [h1, h2]
  · have hne : ((n : Int) != (m : Int)) = true := by simp; omega
    have HD2 := Lib.hid (show D = false by
      rw [← HD.out]
      refine decide_eq_false (fun e => hnm ?_)
      have := congrArg List.length e
      rw [List.length_map, List.length_map] at this
      have := HN.out
      omega)
    go_enter Try.func17, Try.ntmps17
    go_wp2_with fail
    go_ret
    exact ⟨by rw [HD2.out]; rfl, Old.refl w⟩
/-- What was sorted, as a slice of activations. -/
theorem acs_flat : ∀ (Q : List Aw), (Q.map encA).flatten = acs Q
  | [] => rfl
  | q :: Q => by
    rw [List.map_cons, List.flatten_cons, acs_flat Q]
    rfl
theorem SO.open' {w w' : World} {v : Value} {s : Int} {P : List Aw} (h : SO w w' v s P) (hn : P.length ≤ 1000000) : ∃ (g : Nat) (Q : List Aw), v = .slice (some ⟨g, 0, none⟩) P.length P.length ∧ AR w' v Q ∧ Q.map (·.1) = ord s (P.map (·.1)) ∧ Q.length = P.length ∧ Old w w' ∧ w.heap.size ≤ g ∧ Row w' 25 3 g P.length (Q.map encA) ∧ (∀ p ∈ Q, Ints w' (g + 1) p.2 p.1.tup) := by
  obtain ⟨g, Q, rfl, hg, hm, hr, hi, ho⟩ := h
  have hl : Q.length = P.length := by
    have := congrArg List.length hm
    rw [List.length_map, ord_len, List.length_map] at this
    exact this
  refine ⟨g, Q, rfl, ⟨⟨some ⟨g, 0, none⟩, P.length, by rw [hl], by rw [hl]; exact Nat.le_refl _, by unfold maxLen; omega, acs_len Q, fun j u hj => ?_⟩, fun p hp => (hi p hp).ir⟩, hm, hl, ho, hg, hr, hi⟩
  refine ⟨g, 0, rfl, hr.lt, ?_⟩
  have hjl : j < Q.length * 3 := by
    have := (List.getElem?_eq_some_iff.1 hj).1
    rw [acs_len] at this
    exact this
  obtain ⟨p, hp⟩ : ∃ p, Q[j / 3]? = some p := ⟨Q[j / 3]'(by omega), List.getElem?_eq_getElem _⟩
  obtain ⟨e0, e1, e2⟩ := acs_at hp
  have hE : (Q.map encA)[j / 3]? = some (encA p) := by rw [List.getElem?_map, hp]; rfl
  rw [Nat.zero_add]
  have h3 : j = j / 3 * 3 + 0 ∨ j = j / 3 * 3 + 1 ∨ j = j / 3 * 3 + 2 := by omega
  rcases h3 with h3 | h3 | h3
  · rw [h3] at hj ⊢
    rw [Nat.add_zero, e0] at hj
    obtain rfl := Option.some.inj hj
    exact hr.cell hE rfl
  · rw [h3] at hj ⊢
    rw [e1] at hj
    obtain rfl := Option.some.inj hj
    exact hr.cell hE rfl
  · rw [h3] at hj ⊢
    rw [e2] at hj
    obtain rfl := Option.some.inj hj
    exact hr.cell hE rfl
end Go.Proofs.Ytdcfaniimhjghaa
