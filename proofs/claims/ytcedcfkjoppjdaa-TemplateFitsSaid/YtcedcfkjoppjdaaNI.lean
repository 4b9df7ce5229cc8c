/- Layer template: which templates may be, the document's answer. -/
import Derived.Test.YtcedcfkjoppjdaaNH
import Derived.Test.YtcedcfkjoppjdaaIB
import Derived.Deep.CutRange
namespace Go.Proofs.Ytcedcfkjoppjdaa
open Go.ChangeShapes Go.WideShapes Go.ChangeAt Go.RowKit Go.Lib
set_option linter.unusedVariables false
set_option linter.unusedSimpArgs false
set_option maxRecDepth 100000

section
variable {P : Program} {ops : Array Oper} {Φ : Nat → Value → World → Prop} {R : World → World → Prop} {a0 : Act} {W : World} {i : Nat} {o : Oper}
theorem step_skip {g : Nat} {b : Bool} (hg : o.guard = some (g, b)) (h : ∀ (ρ : Operand → Value) (w : World), R W w → Reads ops a0 ρ → Deps ops Φ ρ w o.after.toList → ρ (.tmp (dstOf ops g)) = .bool (!b)) (hΦ : ∀ w, Φ i undef w) : Step P ops Φ R a0 W i o := by
  intro ρ w hR hr hd
  refine ⟨fun hw => absurd hw ?_, fun _ => hΦ w⟩
  unfold Want; rw [hg]
  show ¬ (ρ (.tmp (dstOf ops g)) = .bool b)
  rw [h ρ w hR hr hd]
  intro e
  cases b <;> cases e
end

set_option maxHeartbeats 3200000 in
theorem rmayT_any (l : List Tp) (v : Value) (w : World) (hl : TR w v l) : Calls Try.prog 15 #[v] w fun e w' => e = .returned (.bool (mayT l)) ∧ Old w w' := by
  have hl' := Lib.hid hl
  obtain ⟨oa, c, rfl, a1, a2, a3⟩ := hl
  obtain ⟨N, hN⟩ : ∃ n, n = l.length := ⟨_, rfl⟩
  unfold mayT
  rw [← hN] at a1 hl' ⊢
  unfold maxLen at a2
  have HN := Lib.hid hN
  have HA := Lib.hid a3
  clear hN a3
  by_cases h16 : N ≤ 16
  · rw [decide_eq_true h16, Bool.true_and]
    go_enter Try.func15, Try.ntmps15
    go_wp2_with fail
    go_loopw [3] (fun i wr => ∃ k : Nat, k ≤ N ∧ i = .int .i64 (k : Int) ∧ Hid (tTo l k = true) ∧ Hid (Old w wr)) (fun i _ => (N - intOf i).toNat)
    case atStart => exact ⟨0, Nat.zero_le _, rfl, Lib.hid rfl, Lib.hid (Old.refl w)⟩
    case round =>
      obtain ⟨k, hk, rfl, HS, HW⟩ := hrel
      by_cases hkn : k < N
      · obtain ⟨x, hx⟩ : ∃ x, l[k]? = some x := ⟨l[k]'(by rw [← HN.out]; exact hkn), List.getElem?_eq_getElem _⟩
        obtain ⟨xn, xv, xl⟩ := x
        obtain ⟨g, o, rfl, hgl, c0, c1, hs, hsr⟩ := HA.out k _ hx
        obtain ⟨sa, sc, hv, b1, b2, b3⟩ := id hsr
        obtain ⟨M, hM⟩ : ∃ M, M = xl.length := ⟨_, rfl⟩
        simp only at hv hsr c0 c1 hs b1 b2 b3
        rw [← hM] at hv b1
        unfold maxLen at b2
        subst hv
        have HM := Lib.hid hM
        have HB := Lib.hid b3
        clear hM b3
        have d0 := (HW.out.cell hgl).trans c0
        have d1 := (HW.out.cell hgl).trans c1
        have G0 := Lib.hid (Nat.lt_of_lt_of_le hgl HW.out.size)
        have HX := Lib.hid hx
        have hsr' := Lib.hid (hsr.old HW.out)
        have hl2 := Lib.hid (hl'.out.old HW.out)
        clear c0 c1 hs hx hgl hsr
        have hnx := fun W => rnm_any xn W
        have hf := fun W hW => rfind_any l (.slice (some ⟨g, o, none⟩) N c) xn W hW
        obtain ⟨q, hq⟩ : ∃ r, r = ix (tnames l) xn := ⟨_, rfl⟩
        rw [← hq] at hf
        have HQX := Lib.hid hq
        clear hq
        cases hEx : nmB xn
        · rw [hEx] at hnx
          have HF := Lib.hid (show tTo l N = false from tTo_no HX.out (by unfold tAt tB; rw [hEx]; rfl) _ hkn)
          clear hEx
          go_wp2_with (go_at_call 13; (with_reducible refine (hnx _).mono ?_); rintro e w1 ⟨rfl, o1⟩; have HO1 := Lib.hid o1; clear o1)
          go_ret
          exact ⟨rb _ _ HF.out.symm, HW.out.trans HO1.out⟩
        · rw [hEx] at hnx
          have HEX := Lib.hid hEx
          clear hEx
          by_cases hqk : q = (k : Int)
          · subst hqk
            by_cases hb8 : 1 ≤ M ∧ M ≤ 8
            · have hb81 := hb8.1
              have hb82 := hb8.2
              clear hb8
              have HTB : Hid (∀ B : Bool, slB xl = B → tAt l k ⟨xn, .slice sa M sc, xl⟩ = B) := Lib.hid (fun B hB => by
                unfold tAt tB
                simp only
                rw [HEX.out, ← HM.out, hB, ← HQX.out, decide_eq_true hb81, decide_eq_true hb82]
                simp)
              have hnxy := Lib.hid hnx
              go_wp2_with (first
                | (go_at_call 13; (with_reducible refine (hnx _).mono ?_); rintro e w1 ⟨rfl, o1⟩; have HO1 := Lib.hid o1; have l3 := Lib.hid (hl2.out.old o1); have d2 := (o1.cell G0.out).trans d0; have d3 := (o1.cell G0.out).trans d1; have HO := Lib.hid (HW.out.trans o1); have G1 := Lib.hid (Nat.lt_of_lt_of_le G0.out o1.size); have sr3 := Lib.hid (hsr'.out.old o1); clear o1)
                | (go_at_call 17; (with_reducible refine (hf _ l3.out).mono ?_); rintro e w3 ⟨rfl, rfl⟩))
              clear hnx hf
              have D2 := Lib.hid d2
              have D3 := Lib.hid d3
              clear d0 d1 d2 d3
              go_loopw [4] (fun i wi => ∃ j : Nat, j ≤ M ∧ i = .int .i64 (j : Int) ∧ Hid (slTo xl j = true) ∧ Hid (Old w1 wi)) (fun i _ => (M - intOf i).toNat)
              case atStart => exact ⟨0, Nat.zero_le _, rfl, Lib.hid rfl, Lib.hid (Old.refl w1)⟩
              case round =>
                obtain ⟨j, hjm, rfl, HS2, HW2⟩ := hrel
                have d2 := (HW2.out.cell G1.out).trans D2.out
                have d3 := (HW2.out.cell G1.out).trans D3.out
                by_cases hj : j < M
                · obtain ⟨y, hy⟩ : ∃ y, xl[j]? = some y := ⟨xl[j]'(by rw [← HM.out]; exact hj), List.getElem?_eq_getElem _⟩
                  obtain ⟨sg, so, rfl, hsg, s0, s1, hs⟩ := HB.out j y hy
                  have HOW := Lib.hid (HO.out.trans HW2.out)
                  have s0' := (HOW.out.cell hsg).trans s0
                  have s1' := (HOW.out.cell hsg).trans s1
                  have HY := Lib.hid hy
                  have HP := Lib.hid ((Old.refl wr).alloc (.cells #[.string y.n, .int .u8 y.k] 41))
                  have HT2 := Two.new wr (.string y.n) (.int .u8 y.k) 41
                  have T0 := Lib.hid HT2.c0
                  have T2 := Lib.hid HT2.c1
                  have T1 := Lib.hid HT2.lt
                  have G2 := Lib.hid (Nat.lt_of_lt_of_le G1.out HW2.out.size)
                  have E0 := Lib.hid ((HP.out.cell G2.out).trans d2)
                  have E1 := Lib.hid ((HP.out.cell G2.out).trans d3)
                  have E2 := Lib.hid (Nat.lt_of_lt_of_le G2.out HP.out.size)
                  have HSR := Lib.hid ((sr3.out.old HW2.out).old HP.out)
                  clear s0 s1 hs hy hsg HT2 D2 D3
                  have hnm := fun W => rnm_any y.n W
                  have hsl := fun W hW => rslot_any xl xn (.slice (some ⟨sg, so, none⟩) M sc) y.n W hW
                  obtain ⟨r, hr⟩ : ∃ r, r = ix (snames xl) y.n := ⟨_, rfl⟩
                  rw [← hr] at hsl
                  have HR := Lib.hid hr
                  clear hr
                  have HNO : Hid (sAt xl j y = false → tTo l N = false) := Lib.hid (fun h => tTo_no HX.out (HTB.out false (slTo_no HY.out h _ (by rw [← HM.out]; exact hj))) _ hkn)
                  go_upto_region 12 with fail
                  clear d2 d3 s0' s1'
                  cases hE : nmB y.n
                  · rw [hE] at hnm
                    have HF := Lib.hid (HNO.out (by unfold sAt; rw [hE]; rfl))
                    clear hE
                    refine wp_region_inv (spOf [.eq (.pointer (some ⟨wr.heap.size, 0, none⟩)), .eq (.string y.n), .eq (.bool false), .eq (.bool true), .eq (.bool true), .any, .any, .any, .any, .any, .any, .any, .any, .any, .eq (.bool true), .eq (.bool true), .any, .any, .any, .eq (.bool true), .eq (.bool true), .any, .any, .any, .eq (.bool true)]) (by kernel_rfl) (by kernel_rfl) (spOf_mono _) ?_ ?_
                    · refine ⟨?_, ?_, ?_, ?_, ?_, ?_, ?_, ?_, ?_, ?_, ?_, ?_, ?_, ?_, ?_, ?_, ?_, ?_, ?_, ?_, ?_, ?_, ?_, ?_, ?_, trivial⟩
                      · refine step_plain rfl fun ρ w2 ho hr hd => ?_
                        have x0 : ρ (.tmp 5) = .pointer (some ⟨wr.heap.size, 0, none⟩) := (hr.1 5 rfl).trans rfl
                        refine does_value (v := .pointer (some ⟨wr.heap.size, 0, none⟩)) (w' := w2) ?_ ⟨rfl, Old.refl _⟩
                        unfold execOp
                        simp only [x0]
                        go_simp
                      · refine step_plain rfl fun ρ w2 ho hr hd => ?_
                        obtain ⟨h0, _⟩ := hd
                        have x0 : ρ (.tmp 69) = .pointer (some ⟨wr.heap.size, 0, none⟩) := h0 rfl
                        have q0 := (ho.cell T1.out).trans T0.out
                        refine does_value (v := .string y.n) (w' := w2) ?_ ⟨rfl, Old.refl _⟩
                        unfold execOp
                        simp only [x0]
                        go_simp
                      · refine step_plain rfl fun ρ w2 ho hr hd => ?_
                        obtain ⟨h0, _⟩ := hd
                        have x0 : ρ (.tmp 70) = .string y.n := h0 rfl
                        exact does_call1 rfl (hr.2.2.2 _) x0 rfl ((hnm w2).mono fun e w' h => ⟨_, h.1, rfl, h.2⟩)
                      · refine step_plain rfl fun ρ w2 ho hr hd => ?_
                        obtain ⟨h0, _⟩ := hd
                        have x0 : ρ (.tmp 71) = .bool false := h0 rfl
                        refine does_value (v := .bool true) (w' := w2) ?_ ⟨rfl, Old.refl _⟩
                        unfold execOp
                        simp only [x0]
                        go_simp
                      · refine step_plain rfl fun ρ w2 ho hr hd => ?_
                        obtain ⟨h0, h1, _⟩ := hd
                        have x0 : ρ (.tmp 72) = .bool true := h0 rfl
                        exact does_move rfl x0 ⟨rfl, Old.refl _⟩
                      · refine step_skip rfl (fun ρ w2 ho hr hd => ?_) (fun _ => trivial)
                        obtain ⟨h0, _⟩ := hd
                        have hgd : ρ (.tmp 73) = .bool true := h0 rfl
                        exact hgd
                      · refine step_skip rfl (fun ρ w2 ho hr hd => ?_) (fun _ => trivial)
                        obtain ⟨h0, _⟩ := hd
                        have hgd : ρ (.tmp 73) = .bool true := h0 rfl
                        exact hgd
                      · refine step_skip rfl (fun ρ w2 ho hr hd => ?_) (fun _ => trivial)
                        obtain ⟨h0, h1, h2, _⟩ := hd
                        have hgd : ρ (.tmp 73) = .bool true := h2 rfl
                        exact hgd
                      · refine step_skip rfl (fun ρ w2 ho hr hd => ?_) (fun _ => trivial)
                        obtain ⟨h0, h1, _⟩ := hd
                        have hgd : ρ (.tmp 73) = .bool true := h1 rfl
                        exact hgd
                      · refine step_skip rfl (fun ρ w2 ho hr hd => ?_) (fun _ => trivial)
                        obtain ⟨h0, _⟩ := hd
                        have hgd : ρ (.tmp 73) = .bool true := h0 rfl
                        exact hgd
                      · refine step_skip rfl (fun ρ w2 ho hr hd => ?_) (fun _ => trivial)
                        obtain ⟨h0, h1, _⟩ := hd
                        have hgd : ρ (.tmp 73) = .bool true := h1 rfl
                        exact hgd
                      · refine step_skip rfl (fun ρ w2 ho hr hd => ?_) (fun _ => trivial)
                        obtain ⟨h0, h1, h2, h3, _⟩ := hd
                        have hgd : ρ (.tmp 73) = .bool true := h3 rfl
                        exact hgd
                      · refine step_skip rfl (fun ρ w2 ho hr hd => ?_) (fun _ => trivial)
                        obtain ⟨h0, _⟩ := hd
                        have hgd : ρ (.tmp 73) = .bool true := h0 rfl
                        exact hgd
                      · refine step_skip rfl (fun ρ w2 ho hr hd => ?_) (fun _ => trivial)
                        obtain ⟨h0, h1, h2, _⟩ := hd
                        have hgd : ρ (.tmp 73) = .bool true := h2 rfl
                        exact hgd
                      · refine step_plain rfl fun ρ w2 ho hr hd => ?_
                        obtain ⟨h0, h1, _⟩ := hd
                        have x0 : ρ (.tmp 73) = .bool true := h0 rfl
                        exact does_pick rfl x0 (hr.2.1 _) ⟨rfl, Old.refl _⟩
                      · refine step_plain rfl fun ρ w2 ho hr hd => ?_
                        obtain ⟨h0, h1, _⟩ := hd
                        have x0 : ρ (.tmp 83) = .bool true := h0 rfl
                        exact does_move rfl x0 ⟨rfl, Old.refl _⟩
                      · refine step_skip rfl (fun ρ w2 ho hr hd => ?_) (fun _ => trivial)
                        obtain ⟨h0, _⟩ := hd
                        have hgd : ρ (.tmp 84) = .bool true := h0 rfl
                        exact hgd
                      · refine step_skip rfl (fun ρ w2 ho hr hd => ?_) (fun _ => trivial)
                        obtain ⟨h0, h1, _⟩ := hd
                        have hgd : ρ (.tmp 84) = .bool true := h1 rfl
                        exact hgd
                      · refine step_skip rfl (fun ρ w2 ho hr hd => ?_) (fun _ => trivial)
                        obtain ⟨h0, h1, _⟩ := hd
                        have hgd : ρ (.tmp 84) = .bool true := h1 rfl
                        exact hgd
                      · refine step_plain rfl fun ρ w2 ho hr hd => ?_
                        obtain ⟨h0, h1, _⟩ := hd
                        have x0 : ρ (.tmp 84) = .bool true := h0 rfl
                        exact does_pick rfl x0 (hr.2.1 _) ⟨rfl, Old.refl _⟩
                      · refine step_plain rfl fun ρ w2 ho hr hd => ?_
                        obtain ⟨h0, h1, _⟩ := hd
                        have x0 : ρ (.tmp 88) = .bool true := h0 rfl
                        exact does_move rfl x0 ⟨rfl, Old.refl _⟩
                      · refine step_skip rfl (fun ρ w2 ho hr hd => ?_) (fun _ => trivial)
                        obtain ⟨h0, _⟩ := hd
                        have hgd : ρ (.tmp 89) = .bool true := h0 rfl
                        exact hgd
                      · refine step_skip rfl (fun ρ w2 ho hr hd => ?_) (fun _ => trivial)
                        obtain ⟨h0, h1, _⟩ := hd
                        have hgd : ρ (.tmp 89) = .bool true := h1 rfl
                        exact hgd
                      · refine step_skip rfl (fun ρ w2 ho hr hd => ?_) (fun _ => trivial)
                        obtain ⟨h0, h1, _⟩ := hd
                        have hgd : ρ (.tmp 89) = .bool true := h1 rfl
                        exact hgd
                      · refine step_plain rfl fun ρ w2 ho hr hd => ?_
                        obtain ⟨h0, h1, _⟩ := hd
                        have x0 : ρ (.tmp 89) = .bool true := h0 rfl
                        exact does_pick rfl x0 (hr.2.1 _) ⟨rfl, Old.refl _⟩
                    · intro a' w' hoE hst hl
                      obtain ⟨_, _, _, _, _, _, _, _, _, _, _, _, _, _, _, _, _, _, _, _, _, _, _, _, k24, _⟩ := hl
                      have e24 : a'.eval (.tmp 93) = .bool true := k24
                      rw [act_fresh hst [false, false, false, false, false, false, false, false, false, false, false, false, false, false, false, false, false, false, false, false, false, false, false, false, false, false, false, false, false, false, false, false, false, false, false, false, false, false, false, false, false, false, false, false, false, false, false, false, false, false, false, false, false, false, false, false, false, false, false, false, false, false, false, false, false, false, false, false, false, true, true, true, true, true, true, true, true, true, true, true, true, true, true, true, true, true, true, true, true, true, true, true, true, true] (by kernel_rfl) (by kernel_rfl)]
                      simp only [fresh, e24]
                      clear hst k24 e24
                      have HQ := Lib.hid ((((HO.out.trans HW2.out).trans HP.out).trans hoE))
                      clear hoE
                      go_wp2_with fail
                      go_ret
                      exact ⟨rb _ _ HF.out.symm, HQ.out⟩
                  · rw [hE] at hnm
                    have HE := Lib.hid hE
                    clear hE
                    by_cases hri : r = (j : Int)
                    · subst hri
                      by_cases hK1 : 1 ≤ y.k
                      · by_cases hK2 : y.k ≤ 5
                        ·
                          refine wp_region_inv (spOf [.eq (.pointer (some ⟨wr.heap.size, 0, none⟩)), .eq (.string y.n), .eq (.bool true), .eq (.bool false), .eq (.bool false), .eq (.slice (some ⟨g, o, none⟩) N c), .eq (.int .i64 (k : Int)), .eq (.pointer (some ⟨g, o + k * 2, none⟩)), .eq (tv xn (.slice (some ⟨sg, so, none⟩) M sc)), .eq (.pointer (some ⟨wr.heap.size, 0, none⟩)), .eq (.string y.n), .eq (.int .i64 (j : Int)), .eq (.int .i64 (j : Int)), .eq (.bool false), .eq (.bool false), .eq (.bool false), .eq (.pointer (some ⟨wr.heap.size, 1, none⟩)), .eq (.int .u8 y.k), .eq (.bool false), .eq (.bool false), .eq (.bool false), .eq (.pointer (some ⟨wr.heap.size, 1, none⟩)), .eq (.int .u8 y.k), .eq (.bool false), .eq (.bool false)]) (by kernel_rfl) (by kernel_rfl) (spOf_mono _) ?_ ?_
                          · refine ⟨?_, ?_, ?_, ?_, ?_, ?_, ?_, ?_, ?_, ?_, ?_, ?_, ?_, ?_, ?_, ?_, ?_, ?_, ?_, ?_, ?_, ?_, ?_, ?_, ?_, trivial⟩
                            · refine step_plain rfl fun ρ w2 ho hr hd => ?_
                              have x0 : ρ (.tmp 5) = .pointer (some ⟨wr.heap.size, 0, none⟩) := (hr.1 5 rfl).trans rfl
                              refine does_value (v := .pointer (some ⟨wr.heap.size, 0, none⟩)) (w' := w2) ?_ ⟨rfl, Old.refl _⟩
                              unfold execOp
                              simp only [x0]
                              go_simp
                            · refine step_plain rfl fun ρ w2 ho hr hd => ?_
                              obtain ⟨h0, _⟩ := hd
                              have x0 : ρ (.tmp 69) = .pointer (some ⟨wr.heap.size, 0, none⟩) := h0 rfl
                              have q0 := (ho.cell T1.out).trans T0.out
                              refine does_value (v := .string y.n) (w' := w2) ?_ ⟨rfl, Old.refl _⟩
                              unfold execOp
                              simp only [x0]
                              go_simp
                            · refine step_plain rfl fun ρ w2 ho hr hd => ?_
                              obtain ⟨h0, _⟩ := hd
                              have x0 : ρ (.tmp 70) = .string y.n := h0 rfl
                              exact does_call1 rfl (hr.2.2.2 _) x0 rfl ((hnm w2).mono fun e w' h => ⟨_, h.1, rfl, h.2⟩)
                            · refine step_plain rfl fun ρ w2 ho hr hd => ?_
                              obtain ⟨h0, _⟩ := hd
                              have x0 : ρ (.tmp 71) = .bool true := h0 rfl
                              refine does_value (v := .bool false) (w' := w2) ?_ ⟨rfl, Old.refl _⟩
                              unfold execOp
                              simp only [x0]
                              go_simp
                            · refine step_plain rfl fun ρ w2 ho hr hd => ?_
                              obtain ⟨h0, h1, _⟩ := hd
                              have x0 : ρ (.tmp 72) = .bool false := h0 rfl
                              exact does_move rfl x0 ⟨rfl, Old.refl _⟩
                            · refine step_guard rfl fun ρ w2 ho hr hd => ?_
                              obtain ⟨h0, _⟩ := hd
                              have hgd : ρ (.tmp 73) = .bool false := h0 rfl
                              have x0 : ρ (.tmp 0) = .slice (some ⟨g, o, none⟩) N c := (hr.1 0 rfl).trans rfl
                              refine ⟨hgd, ?_⟩
                              exact does_move rfl x0 ⟨rfl, Old.refl _⟩
                            · refine step_guard rfl fun ρ w2 ho hr hd => ?_
                              obtain ⟨h0, _⟩ := hd
                              have hgd : ρ (.tmp 73) = .bool false := h0 rfl
                              have x0 : ρ (.tmp 3) = .int .i64 (k : Int) := (hr.1 3 rfl).trans rfl
                              refine ⟨hgd, ?_⟩
                              exact does_move rfl x0 ⟨rfl, Old.refl _⟩
                            · refine step_guard rfl fun ρ w2 ho hr hd => ?_
                              obtain ⟨h0, h1, h2, _⟩ := hd
                              have hgd : ρ (.tmp 73) = .bool false := h2 rfl
                              have x0 : ρ (.tmp 74) = .slice (some ⟨g, o, none⟩) N c := h0 rfl
                              have y0 : ρ (.tmp 75) = .int .i64 (k : Int) := h1 rfl
                              refine ⟨hgd, ?_⟩
                              refine does_value (v := .pointer (some ⟨g, o + k * 2, none⟩)) (w' := w2) ?_ ⟨rfl, Old.refl _⟩
                              unfold execOp
                              simp only [x0, y0]
                              go_simp
                            · refine step_guard rfl fun ρ w2 ho hr hd => ?_
                              obtain ⟨h0, h1, _⟩ := hd
                              have hgd : ρ (.tmp 73) = .bool false := h1 rfl
                              have x0 : ρ (.tmp 76) = .pointer (some ⟨g, o + k * 2, none⟩) := h0 rfl
                              have q0 := (ho.cell E2.out).trans E0.out
                              have q1 := (ho.cell E2.out).trans E1.out
                              refine ⟨hgd, ?_⟩
                              refine does_value (v := tv xn (.slice (some ⟨sg, so, none⟩) M sc)) (w' := w2) ?_ ⟨rfl, Old.refl _⟩
                              unfold execOp
                              simp only [x0]
                              go_simp
                            · refine step_guard rfl fun ρ w2 ho hr hd => ?_
                              obtain ⟨h0, _⟩ := hd
                              have hgd : ρ (.tmp 73) = .bool false := h0 rfl
                              have x0 : ρ (.tmp 5) = .pointer (some ⟨wr.heap.size, 0, none⟩) := (hr.1 5 rfl).trans rfl
                              refine ⟨hgd, ?_⟩
                              refine does_value (v := .pointer (some ⟨wr.heap.size, 0, none⟩)) (w' := w2) ?_ ⟨rfl, Old.refl _⟩
                              unfold execOp
                              simp only [x0]
                              go_simp
                            · refine step_guard rfl fun ρ w2 ho hr hd => ?_
                              obtain ⟨h0, h1, _⟩ := hd
                              have hgd : ρ (.tmp 73) = .bool false := h1 rfl
                              have x0 : ρ (.tmp 78) = .pointer (some ⟨wr.heap.size, 0, none⟩) := h0 rfl
                              have q0 := (ho.cell T1.out).trans T0.out
                              refine ⟨hgd, ?_⟩
                              refine does_value (v := .string y.n) (w' := w2) ?_ ⟨rfl, Old.refl _⟩
                              unfold execOp
                              simp only [x0]
                              go_simp
                            · refine step_guard rfl fun ρ w2 ho hr hd => ?_
                              obtain ⟨h0, h1, h2, h3, _⟩ := hd
                              have hgd : ρ (.tmp 73) = .bool false := h3 rfl
                              have x0 : ρ (.tmp 77) = tv xn (.slice (some ⟨sg, so, none⟩) M sc) := h0 rfl
                              have x1 : ρ (.tmp 79) = .string y.n := h1 rfl
                              refine ⟨hgd, ?_⟩
                              exact does_call2 rfl (hr.2.2.2 _) x0 x1 rfl ((hsl w2 (HSR.out.old ho)).mono fun e w' h => ⟨_, h.1, rfl, h.2⟩)
                            · refine step_guard rfl fun ρ w2 ho hr hd => ?_
                              obtain ⟨h0, _⟩ := hd
                              have hgd : ρ (.tmp 73) = .bool false := h0 rfl
                              have x0 : ρ (.tmp 4) = .int .i64 (j : Int) := (hr.1 4 rfl).trans rfl
                              refine ⟨hgd, ?_⟩
                              exact does_move rfl x0 ⟨rfl, Old.refl _⟩
                            · refine step_guard rfl fun ρ w2 ho hr hd => ?_
                              obtain ⟨h0, h1, h2, _⟩ := hd
                              have hgd : ρ (.tmp 73) = .bool false := h2 rfl
                              have x0 : ρ (.tmp 80) = .int .i64 (j : Int) := h0 rfl
                              have y0 : ρ (.tmp 81) = .int .i64 (j : Int) := h1 rfl
                              refine ⟨hgd, ?_⟩
                              refine does_value (v := .bool false) (w' := w2) ?_ ⟨rfl, Old.refl _⟩
                              unfold execOp
                              simp only [x0, y0]
                              go_simp
                            · refine step_plain rfl fun ρ w2 ho hr hd => ?_
                              obtain ⟨h0, h1, _⟩ := hd
                              have x0 : ρ (.tmp 73) = .bool false := h0 rfl
                              have y0 : ρ (.tmp 82) = .bool false := h1 rfl
                              exact does_pick rfl x0 y0 ⟨rfl, Old.refl _⟩
                            · refine step_plain rfl fun ρ w2 ho hr hd => ?_
                              obtain ⟨h0, h1, _⟩ := hd
                              have x0 : ρ (.tmp 83) = .bool false := h0 rfl
                              exact does_move rfl x0 ⟨rfl, Old.refl _⟩
                            · refine step_guard rfl fun ρ w2 ho hr hd => ?_
                              obtain ⟨h0, _⟩ := hd
                              have hgd : ρ (.tmp 84) = .bool false := h0 rfl
                              have x0 : ρ (.tmp 5) = .pointer (some ⟨wr.heap.size, 0, none⟩) := (hr.1 5 rfl).trans rfl
                              refine ⟨hgd, ?_⟩
                              refine does_value (v := .pointer (some ⟨wr.heap.size, 1, none⟩)) (w' := w2) ?_ ⟨rfl, Old.refl _⟩
                              unfold execOp
                              simp only [x0]
                              go_simp
                            · refine step_guard rfl fun ρ w2 ho hr hd => ?_
                              obtain ⟨h0, h1, _⟩ := hd
                              have hgd : ρ (.tmp 84) = .bool false := h1 rfl
                              have x0 : ρ (.tmp 85) = .pointer (some ⟨wr.heap.size, 1, none⟩) := h0 rfl
                              have q0 := (ho.cell T1.out).trans T2.out
                              refine ⟨hgd, ?_⟩
                              refine does_value (v := .int .u8 y.k) (w' := w2) ?_ ⟨rfl, Old.refl _⟩
                              unfold execOp
                              simp only [x0]
                              go_simp
                            · refine step_guard rfl fun ρ w2 ho hr hd => ?_
                              obtain ⟨h0, h1, _⟩ := hd
                              have hgd : ρ (.tmp 84) = .bool false := h1 rfl
                              have x0 : ρ (.tmp 86) = .int .u8 y.k := h0 rfl
                              refine ⟨hgd, ?_⟩
                              refine does_value (v := .bool false) (w' := w2) ?_ ⟨rfl, Old.refl _⟩
                              unfold execOp
                              simp only [x0, hr.2.1]
                              go_simp
                            · refine step_plain rfl fun ρ w2 ho hr hd => ?_
                              obtain ⟨h0, h1, _⟩ := hd
                              have x0 : ρ (.tmp 84) = .bool false := h0 rfl
                              have y0 : ρ (.tmp 87) = .bool false := h1 rfl
                              exact does_pick rfl x0 y0 ⟨rfl, Old.refl _⟩
                            · refine step_plain rfl fun ρ w2 ho hr hd => ?_
                              obtain ⟨h0, h1, _⟩ := hd
                              have x0 : ρ (.tmp 88) = .bool false := h0 rfl
                              exact does_move rfl x0 ⟨rfl, Old.refl _⟩
                            · refine step_guard rfl fun ρ w2 ho hr hd => ?_
                              obtain ⟨h0, _⟩ := hd
                              have hgd : ρ (.tmp 89) = .bool false := h0 rfl
                              have x0 : ρ (.tmp 5) = .pointer (some ⟨wr.heap.size, 0, none⟩) := (hr.1 5 rfl).trans rfl
                              refine ⟨hgd, ?_⟩
                              refine does_value (v := .pointer (some ⟨wr.heap.size, 1, none⟩)) (w' := w2) ?_ ⟨rfl, Old.refl _⟩
                              unfold execOp
                              simp only [x0]
                              go_simp
                            · refine step_guard rfl fun ρ w2 ho hr hd => ?_
                              obtain ⟨h0, h1, _⟩ := hd
                              have hgd : ρ (.tmp 89) = .bool false := h1 rfl
                              have x0 : ρ (.tmp 90) = .pointer (some ⟨wr.heap.size, 1, none⟩) := h0 rfl
                              have q0 := (ho.cell T1.out).trans T2.out
                              refine ⟨hgd, ?_⟩
                              refine does_value (v := .int .u8 y.k) (w' := w2) ?_ ⟨rfl, Old.refl _⟩
                              unfold execOp
                              simp only [x0]
                              go_simp
                            · refine step_guard rfl fun ρ w2 ho hr hd => ?_
                              obtain ⟨h0, h1, _⟩ := hd
                              have hgd : ρ (.tmp 89) = .bool false := h1 rfl
                              have x0 : ρ (.tmp 91) = .int .u8 y.k := h0 rfl
                              refine ⟨hgd, ?_⟩
                              refine does_value (v := .bool false) (w' := w2) ?_ ⟨rfl, Old.refl _⟩
                              unfold execOp
                              simp only [x0, hr.2.1]
                              go_simp
                            · refine step_plain rfl fun ρ w2 ho hr hd => ?_
                              obtain ⟨h0, h1, _⟩ := hd
                              have x0 : ρ (.tmp 89) = .bool false := h0 rfl
                              have y0 : ρ (.tmp 92) = .bool false := h1 rfl
                              exact does_pick rfl x0 y0 ⟨rfl, Old.refl _⟩
                          · intro a' w' hoE hst hl
                            obtain ⟨_, _, _, _, _, _, _, _, _, _, _, _, _, _, _, _, _, _, _, _, _, _, _, _, k24, _⟩ := hl
                            have e24 : a'.eval (.tmp 93) = .bool false := k24
                            rw [act_fresh hst [false, false, false, false, false, false, false, false, false, false, false, false, false, false, false, false, false, false, false, false, false, false, false, false, false, false, false, false, false, false, false, false, false, false, false, false, false, false, false, false, false, false, false, false, false, false, false, false, false, false, false, false, false, false, false, false, false, false, false, false, false, false, false, false, false, false, false, false, false, true, true, true, true, true, true, true, true, true, true, true, true, true, true, true, true, true, true, true, true, true, true, true, true, true] (by kernel_rfl) (by kernel_rfl)]
                            simp only [fresh, e24]
                            clear hst k24 e24
                            have HQ := Lib.hid ((HW2.out.trans HP.out).trans hoE)
                            clear hoE
                            go_wp2_with fail
                            refine ⟨⟨j + 1, hj, rfl, Lib.hid (slTo_next HS2.out HY.out (by unfold sAt kB; rw [HE.out, ← HR.out, decide_eq_true hK1, decide_eq_true hK2]; simp)), HQ⟩, by simp only [intOf]; omega⟩
                        · have HF := Lib.hid (HNO.out (by unfold sAt kB; rw [HE.out, decide_eq_false hK2, Bool.and_false]; rfl))
                          have hK3 : 5 < y.k := by omega
                          refine wp_region_inv (spOf [.eq (.pointer (some ⟨wr.heap.size, 0, none⟩)), .eq (.string y.n), .eq (.bool true), .eq (.bool false), .eq (.bool false), .eq (.slice (some ⟨g, o, none⟩) N c), .eq (.int .i64 (k : Int)), .eq (.pointer (some ⟨g, o + k * 2, none⟩)), .eq (tv xn (.slice (some ⟨sg, so, none⟩) M sc)), .eq (.pointer (some ⟨wr.heap.size, 0, none⟩)), .eq (.string y.n), .eq (.int .i64 (j : Int)), .eq (.int .i64 (j : Int)), .eq (.bool false), .eq (.bool false), .eq (.bool false), .eq (.pointer (some ⟨wr.heap.size, 1, none⟩)), .eq (.int .u8 y.k), .eq (.bool false), .eq (.bool false), .eq (.bool false), .eq (.pointer (some ⟨wr.heap.size, 1, none⟩)), .eq (.int .u8 y.k), .eq (.bool true), .eq (.bool true)]) (by kernel_rfl) (by kernel_rfl) (spOf_mono _) ?_ ?_
                          · refine ⟨?_, ?_, ?_, ?_, ?_, ?_, ?_, ?_, ?_, ?_, ?_, ?_, ?_, ?_, ?_, ?_, ?_, ?_, ?_, ?_, ?_, ?_, ?_, ?_, ?_, trivial⟩
                            · refine step_plain rfl fun ρ w2 ho hr hd => ?_
                              have x0 : ρ (.tmp 5) = .pointer (some ⟨wr.heap.size, 0, none⟩) := (hr.1 5 rfl).trans rfl
                              refine does_value (v := .pointer (some ⟨wr.heap.size, 0, none⟩)) (w' := w2) ?_ ⟨rfl, Old.refl _⟩
                              unfold execOp
                              simp only [x0]
                              go_simp
                            · refine step_plain rfl fun ρ w2 ho hr hd => ?_
                              obtain ⟨h0, _⟩ := hd
                              have x0 : ρ (.tmp 69) = .pointer (some ⟨wr.heap.size, 0, none⟩) := h0 rfl
                              have q0 := (ho.cell T1.out).trans T0.out
                              refine does_value (v := .string y.n) (w' := w2) ?_ ⟨rfl, Old.refl _⟩
                              unfold execOp
                              simp only [x0]
                              go_simp
                            · refine step_plain rfl fun ρ w2 ho hr hd => ?_
                              obtain ⟨h0, _⟩ := hd
                              have x0 : ρ (.tmp 70) = .string y.n := h0 rfl
                              exact does_call1 rfl (hr.2.2.2 _) x0 rfl ((hnm w2).mono fun e w' h => ⟨_, h.1, rfl, h.2⟩)
                            · refine step_plain rfl fun ρ w2 ho hr hd => ?_
                              obtain ⟨h0, _⟩ := hd
                              have x0 : ρ (.tmp 71) = .bool true := h0 rfl
                              refine does_value (v := .bool false) (w' := w2) ?_ ⟨rfl, Old.refl _⟩
                              unfold execOp
                              simp only [x0]
                              go_simp
                            · refine step_plain rfl fun ρ w2 ho hr hd => ?_
                              obtain ⟨h0, h1, _⟩ := hd
                              have x0 : ρ (.tmp 72) = .bool false := h0 rfl
                              exact does_move rfl x0 ⟨rfl, Old.refl _⟩
                            · refine step_guard rfl fun ρ w2 ho hr hd => ?_
                              obtain ⟨h0, _⟩ := hd
                              have hgd : ρ (.tmp 73) = .bool false := h0 rfl
                              have x0 : ρ (.tmp 0) = .slice (some ⟨g, o, none⟩) N c := (hr.1 0 rfl).trans rfl
                              refine ⟨hgd, ?_⟩
                              exact does_move rfl x0 ⟨rfl, Old.refl _⟩
                            · refine step_guard rfl fun ρ w2 ho hr hd => ?_
                              obtain ⟨h0, _⟩ := hd
                              have hgd : ρ (.tmp 73) = .bool false := h0 rfl
                              have x0 : ρ (.tmp 3) = .int .i64 (k : Int) := (hr.1 3 rfl).trans rfl
                              refine ⟨hgd, ?_⟩
                              exact does_move rfl x0 ⟨rfl, Old.refl _⟩
                            · refine step_guard rfl fun ρ w2 ho hr hd => ?_
                              obtain ⟨h0, h1, h2, _⟩ := hd
                              have hgd : ρ (.tmp 73) = .bool false := h2 rfl
                              have x0 : ρ (.tmp 74) = .slice (some ⟨g, o, none⟩) N c := h0 rfl
                              have y0 : ρ (.tmp 75) = .int .i64 (k : Int) := h1 rfl
                              refine ⟨hgd, ?_⟩
                              refine does_value (v := .pointer (some ⟨g, o + k * 2, none⟩)) (w' := w2) ?_ ⟨rfl, Old.refl _⟩
                              unfold execOp
                              simp only [x0, y0]
                              go_simp
                            · refine step_guard rfl fun ρ w2 ho hr hd => ?_
                              obtain ⟨h0, h1, _⟩ := hd
                              have hgd : ρ (.tmp 73) = .bool false := h1 rfl
                              have x0 : ρ (.tmp 76) = .pointer (some ⟨g, o + k * 2, none⟩) := h0 rfl
                              have q0 := (ho.cell E2.out).trans E0.out
                              have q1 := (ho.cell E2.out).trans E1.out
                              refine ⟨hgd, ?_⟩
                              refine does_value (v := tv xn (.slice (some ⟨sg, so, none⟩) M sc)) (w' := w2) ?_ ⟨rfl, Old.refl _⟩
                              unfold execOp
                              simp only [x0]
                              go_simp
                            · refine step_guard rfl fun ρ w2 ho hr hd => ?_
                              obtain ⟨h0, _⟩ := hd
                              have hgd : ρ (.tmp 73) = .bool false := h0 rfl
                              have x0 : ρ (.tmp 5) = .pointer (some ⟨wr.heap.size, 0, none⟩) := (hr.1 5 rfl).trans rfl
                              refine ⟨hgd, ?_⟩
                              refine does_value (v := .pointer (some ⟨wr.heap.size, 0, none⟩)) (w' := w2) ?_ ⟨rfl, Old.refl _⟩
                              unfold execOp
                              simp only [x0]
                              go_simp
                            · refine step_guard rfl fun ρ w2 ho hr hd => ?_
                              obtain ⟨h0, h1, _⟩ := hd
                              have hgd : ρ (.tmp 73) = .bool false := h1 rfl
                              have x0 : ρ (.tmp 78) = .pointer (some ⟨wr.heap.size, 0, none⟩) := h0 rfl
                              have q0 := (ho.cell T1.out).trans T0.out
                              refine ⟨hgd, ?_⟩
                              refine does_value (v := .string y.n) (w' := w2) ?_ ⟨rfl, Old.refl _⟩
                              unfold execOp
                              simp only [x0]
                              go_simp
                            · refine step_guard rfl fun ρ w2 ho hr hd => ?_
                              obtain ⟨h0, h1, h2, h3, _⟩ := hd
                              have hgd : ρ (.tmp 73) = .bool false := h3 rfl
                              have x0 : ρ (.tmp 77) = tv xn (.slice (some ⟨sg, so, none⟩) M sc) := h0 rfl
                              have x1 : ρ (.tmp 79) = .string y.n := h1 rfl
                              refine ⟨hgd, ?_⟩
                              exact does_call2 rfl (hr.2.2.2 _) x0 x1 rfl ((hsl w2 (HSR.out.old ho)).mono fun e w' h => ⟨_, h.1, rfl, h.2⟩)
                            · refine step_guard rfl fun ρ w2 ho hr hd => ?_
                              obtain ⟨h0, _⟩ := hd
                              have hgd : ρ (.tmp 73) = .bool false := h0 rfl
                              have x0 : ρ (.tmp 4) = .int .i64 (j : Int) := (hr.1 4 rfl).trans rfl
                              refine ⟨hgd, ?_⟩
                              exact does_move rfl x0 ⟨rfl, Old.refl _⟩
                            · refine step_guard rfl fun ρ w2 ho hr hd => ?_
                              obtain ⟨h0, h1, h2, _⟩ := hd
                              have hgd : ρ (.tmp 73) = .bool false := h2 rfl
                              have x0 : ρ (.tmp 80) = .int .i64 (j : Int) := h0 rfl
                              have y0 : ρ (.tmp 81) = .int .i64 (j : Int) := h1 rfl
                              refine ⟨hgd, ?_⟩
                              refine does_value (v := .bool false) (w' := w2) ?_ ⟨rfl, Old.refl _⟩
                              unfold execOp
                              simp only [x0, y0]
                              go_simp
                            · refine step_plain rfl fun ρ w2 ho hr hd => ?_
                              obtain ⟨h0, h1, _⟩ := hd
                              have x0 : ρ (.tmp 73) = .bool false := h0 rfl
                              have y0 : ρ (.tmp 82) = .bool false := h1 rfl
                              exact does_pick rfl x0 y0 ⟨rfl, Old.refl _⟩
                            · refine step_plain rfl fun ρ w2 ho hr hd => ?_
                              obtain ⟨h0, h1, _⟩ := hd
                              have x0 : ρ (.tmp 83) = .bool false := h0 rfl
                              exact does_move rfl x0 ⟨rfl, Old.refl _⟩
                            · refine step_guard rfl fun ρ w2 ho hr hd => ?_
                              obtain ⟨h0, _⟩ := hd
                              have hgd : ρ (.tmp 84) = .bool false := h0 rfl
                              have x0 : ρ (.tmp 5) = .pointer (some ⟨wr.heap.size, 0, none⟩) := (hr.1 5 rfl).trans rfl
                              refine ⟨hgd, ?_⟩
                              refine does_value (v := .pointer (some ⟨wr.heap.size, 1, none⟩)) (w' := w2) ?_ ⟨rfl, Old.refl _⟩
                              unfold execOp
                              simp only [x0]
                              go_simp
                            · refine step_guard rfl fun ρ w2 ho hr hd => ?_
                              obtain ⟨h0, h1, _⟩ := hd
                              have hgd : ρ (.tmp 84) = .bool false := h1 rfl
                              have x0 : ρ (.tmp 85) = .pointer (some ⟨wr.heap.size, 1, none⟩) := h0 rfl
                              have q0 := (ho.cell T1.out).trans T2.out
                              refine ⟨hgd, ?_⟩
                              refine does_value (v := .int .u8 y.k) (w' := w2) ?_ ⟨rfl, Old.refl _⟩
                              unfold execOp
                              simp only [x0]
                              go_simp
                            · refine step_guard rfl fun ρ w2 ho hr hd => ?_
                              obtain ⟨h0, h1, _⟩ := hd
                              have hgd : ρ (.tmp 84) = .bool false := h1 rfl
                              have x0 : ρ (.tmp 86) = .int .u8 y.k := h0 rfl
                              refine ⟨hgd, ?_⟩
                              refine does_value (v := .bool false) (w' := w2) ?_ ⟨rfl, Old.refl _⟩
                              unfold execOp
                              simp only [x0, hr.2.1]
                              go_simp
                            · refine step_plain rfl fun ρ w2 ho hr hd => ?_
                              obtain ⟨h0, h1, _⟩ := hd
                              have x0 : ρ (.tmp 84) = .bool false := h0 rfl
                              have y0 : ρ (.tmp 87) = .bool false := h1 rfl
                              exact does_pick rfl x0 y0 ⟨rfl, Old.refl _⟩
                            · refine step_plain rfl fun ρ w2 ho hr hd => ?_
                              obtain ⟨h0, h1, _⟩ := hd
                              have x0 : ρ (.tmp 88) = .bool false := h0 rfl
                              exact does_move rfl x0 ⟨rfl, Old.refl _⟩
                            · refine step_guard rfl fun ρ w2 ho hr hd => ?_
                              obtain ⟨h0, _⟩ := hd
                              have hgd : ρ (.tmp 89) = .bool false := h0 rfl
                              have x0 : ρ (.tmp 5) = .pointer (some ⟨wr.heap.size, 0, none⟩) := (hr.1 5 rfl).trans rfl
                              refine ⟨hgd, ?_⟩
                              refine does_value (v := .pointer (some ⟨wr.heap.size, 1, none⟩)) (w' := w2) ?_ ⟨rfl, Old.refl _⟩
                              unfold execOp
                              simp only [x0]
                              go_simp
                            · refine step_guard rfl fun ρ w2 ho hr hd => ?_
                              obtain ⟨h0, h1, _⟩ := hd
                              have hgd : ρ (.tmp 89) = .bool false := h1 rfl
                              have x0 : ρ (.tmp 90) = .pointer (some ⟨wr.heap.size, 1, none⟩) := h0 rfl
                              have q0 := (ho.cell T1.out).trans T2.out
                              refine ⟨hgd, ?_⟩
                              refine does_value (v := .int .u8 y.k) (w' := w2) ?_ ⟨rfl, Old.refl _⟩
                              unfold execOp
                              simp only [x0]
                              go_simp
                            · refine step_guard rfl fun ρ w2 ho hr hd => ?_
                              obtain ⟨h0, h1, _⟩ := hd
                              have hgd : ρ (.tmp 89) = .bool false := h1 rfl
                              have x0 : ρ (.tmp 91) = .int .u8 y.k := h0 rfl
                              refine ⟨hgd, ?_⟩
                              refine does_value (v := .bool true) (w' := w2) ?_ ⟨rfl, Old.refl _⟩
                              unfold execOp
                              simp only [x0, hr.2.1]
                              go_simp
                            · refine step_plain rfl fun ρ w2 ho hr hd => ?_
                              obtain ⟨h0, h1, _⟩ := hd
                              have x0 : ρ (.tmp 89) = .bool false := h0 rfl
                              have y0 : ρ (.tmp 92) = .bool true := h1 rfl
                              exact does_pick rfl x0 y0 ⟨rfl, Old.refl _⟩
                          · intro a' w' hoE hst hl
                            obtain ⟨_, _, _, _, _, _, _, _, _, _, _, _, _, _, _, _, _, _, _, _, _, _, _, _, k24, _⟩ := hl
                            have e24 : a'.eval (.tmp 93) = .bool true := k24
                            rw [act_fresh hst [false, false, false, false, false, false, false, false, false, false, false, false, false, false, false, false, false, false, false, false, false, false, false, false, false, false, false, false, false, false, false, false, false, false, false, false, false, false, false, false, false, false, false, false, false, false, false, false, false, false, false, false, false, false, false, false, false, false, false, false, false, false, false, false, false, false, false, false, false, true, true, true, true, true, true, true, true, true, true, true, true, true, true, true, true, true, true, true, true, true, true, true, true, true] (by kernel_rfl) (by kernel_rfl)]
                            simp only [fresh, e24]
                            clear hst k24 e24
                            have HQ := Lib.hid ((((HO.out.trans HW2.out).trans HP.out).trans hoE))
                            clear hoE
                            go_wp2_with fail
                            go_ret
                            exact ⟨rb _ _ HF.out.symm, HQ.out⟩
                      · have HF := Lib.hid (HNO.out (by unfold sAt kB; rw [HE.out, decide_eq_false hK1]; rfl))
                        have hK3 : y.k < 1 := by omega
                        refine wp_region_inv (spOf [.eq (.pointer (some ⟨wr.heap.size, 0, none⟩)), .eq (.string y.n), .eq (.bool true), .eq (.bool false), .eq (.bool false), .eq (.slice (some ⟨g, o, none⟩) N c), .eq (.int .i64 (k : Int)), .eq (.pointer (some ⟨g, o + k * 2, none⟩)), .eq (tv xn (.slice (some ⟨sg, so, none⟩) M sc)), .eq (.pointer (some ⟨wr.heap.size, 0, none⟩)), .eq (.string y.n), .eq (.int .i64 (j : Int)), .eq (.int .i64 (j : Int)), .eq (.bool false), .eq (.bool false), .eq (.bool false), .eq (.pointer (some ⟨wr.heap.size, 1, none⟩)), .eq (.int .u8 y.k), .eq (.bool true), .eq (.bool true), .eq (.bool true), .any, .any, .any, .eq (.bool true)]) (by kernel_rfl) (by kernel_rfl) (spOf_mono _) ?_ ?_
                        · refine ⟨?_, ?_, ?_, ?_, ?_, ?_, ?_, ?_, ?_, ?_, ?_, ?_, ?_, ?_, ?_, ?_, ?_, ?_, ?_, ?_, ?_, ?_, ?_, ?_, ?_, trivial⟩
                          · refine step_plain rfl fun ρ w2 ho hr hd => ?_
                            have x0 : ρ (.tmp 5) = .pointer (some ⟨wr.heap.size, 0, none⟩) := (hr.1 5 rfl).trans rfl
                            refine does_value (v := .pointer (some ⟨wr.heap.size, 0, none⟩)) (w' := w2) ?_ ⟨rfl, Old.refl _⟩
                            unfold execOp
                            simp only [x0]
                            go_simp
                          · refine step_plain rfl fun ρ w2 ho hr hd => ?_
                            obtain ⟨h0, _⟩ := hd
                            have x0 : ρ (.tmp 69) = .pointer (some ⟨wr.heap.size, 0, none⟩) := h0 rfl
                            have q0 := (ho.cell T1.out).trans T0.out
                            refine does_value (v := .string y.n) (w' := w2) ?_ ⟨rfl, Old.refl _⟩
                            unfold execOp
                            simp only [x0]
                            go_simp
                          · refine step_plain rfl fun ρ w2 ho hr hd => ?_
                            obtain ⟨h0, _⟩ := hd
                            have x0 : ρ (.tmp 70) = .string y.n := h0 rfl
                            exact does_call1 rfl (hr.2.2.2 _) x0 rfl ((hnm w2).mono fun e w' h => ⟨_, h.1, rfl, h.2⟩)
                          · refine step_plain rfl fun ρ w2 ho hr hd => ?_
                            obtain ⟨h0, _⟩ := hd
                            have x0 : ρ (.tmp 71) = .bool true := h0 rfl
                            refine does_value (v := .bool false) (w' := w2) ?_ ⟨rfl, Old.refl _⟩
                            unfold execOp
                            simp only [x0]
                            go_simp
                          · refine step_plain rfl fun ρ w2 ho hr hd => ?_
                            obtain ⟨h0, h1, _⟩ := hd
                            have x0 : ρ (.tmp 72) = .bool false := h0 rfl
                            exact does_move rfl x0 ⟨rfl, Old.refl _⟩
                          · refine step_guard rfl fun ρ w2 ho hr hd => ?_
                            obtain ⟨h0, _⟩ := hd
                            have hgd : ρ (.tmp 73) = .bool false := h0 rfl
                            have x0 : ρ (.tmp 0) = .slice (some ⟨g, o, none⟩) N c := (hr.1 0 rfl).trans rfl
                            refine ⟨hgd, ?_⟩
                            exact does_move rfl x0 ⟨rfl, Old.refl _⟩
                          · refine step_guard rfl fun ρ w2 ho hr hd => ?_
                            obtain ⟨h0, _⟩ := hd
                            have hgd : ρ (.tmp 73) = .bool false := h0 rfl
                            have x0 : ρ (.tmp 3) = .int .i64 (k : Int) := (hr.1 3 rfl).trans rfl
                            refine ⟨hgd, ?_⟩
                            exact does_move rfl x0 ⟨rfl, Old.refl _⟩
                          · refine step_guard rfl fun ρ w2 ho hr hd => ?_
                            obtain ⟨h0, h1, h2, _⟩ := hd
                            have hgd : ρ (.tmp 73) = .bool false := h2 rfl
                            have x0 : ρ (.tmp 74) = .slice (some ⟨g, o, none⟩) N c := h0 rfl
                            have y0 : ρ (.tmp 75) = .int .i64 (k : Int) := h1 rfl
                            refine ⟨hgd, ?_⟩
                            refine does_value (v := .pointer (some ⟨g, o + k * 2, none⟩)) (w' := w2) ?_ ⟨rfl, Old.refl _⟩
                            unfold execOp
                            simp only [x0, y0]
                            go_simp
                          · refine step_guard rfl fun ρ w2 ho hr hd => ?_
                            obtain ⟨h0, h1, _⟩ := hd
                            have hgd : ρ (.tmp 73) = .bool false := h1 rfl
                            have x0 : ρ (.tmp 76) = .pointer (some ⟨g, o + k * 2, none⟩) := h0 rfl
                            have q0 := (ho.cell E2.out).trans E0.out
                            have q1 := (ho.cell E2.out).trans E1.out
                            refine ⟨hgd, ?_⟩
                            refine does_value (v := tv xn (.slice (some ⟨sg, so, none⟩) M sc)) (w' := w2) ?_ ⟨rfl, Old.refl _⟩
                            unfold execOp
                            simp only [x0]
                            go_simp
                          · refine step_guard rfl fun ρ w2 ho hr hd => ?_
                            obtain ⟨h0, _⟩ := hd
                            have hgd : ρ (.tmp 73) = .bool false := h0 rfl
                            have x0 : ρ (.tmp 5) = .pointer (some ⟨wr.heap.size, 0, none⟩) := (hr.1 5 rfl).trans rfl
                            refine ⟨hgd, ?_⟩
                            refine does_value (v := .pointer (some ⟨wr.heap.size, 0, none⟩)) (w' := w2) ?_ ⟨rfl, Old.refl _⟩
                            unfold execOp
                            simp only [x0]
                            go_simp
                          · refine step_guard rfl fun ρ w2 ho hr hd => ?_
                            obtain ⟨h0, h1, _⟩ := hd
                            have hgd : ρ (.tmp 73) = .bool false := h1 rfl
                            have x0 : ρ (.tmp 78) = .pointer (some ⟨wr.heap.size, 0, none⟩) := h0 rfl
                            have q0 := (ho.cell T1.out).trans T0.out
                            refine ⟨hgd, ?_⟩
                            refine does_value (v := .string y.n) (w' := w2) ?_ ⟨rfl, Old.refl _⟩
                            unfold execOp
                            simp only [x0]
                            go_simp
                          · refine step_guard rfl fun ρ w2 ho hr hd => ?_
                            obtain ⟨h0, h1, h2, h3, _⟩ := hd
                            have hgd : ρ (.tmp 73) = .bool false := h3 rfl
                            have x0 : ρ (.tmp 77) = tv xn (.slice (some ⟨sg, so, none⟩) M sc) := h0 rfl
                            have x1 : ρ (.tmp 79) = .string y.n := h1 rfl
                            refine ⟨hgd, ?_⟩
                            exact does_call2 rfl (hr.2.2.2 _) x0 x1 rfl ((hsl w2 (HSR.out.old ho)).mono fun e w' h => ⟨_, h.1, rfl, h.2⟩)
                          · refine step_guard rfl fun ρ w2 ho hr hd => ?_
                            obtain ⟨h0, _⟩ := hd
                            have hgd : ρ (.tmp 73) = .bool false := h0 rfl
                            have x0 : ρ (.tmp 4) = .int .i64 (j : Int) := (hr.1 4 rfl).trans rfl
                            refine ⟨hgd, ?_⟩
                            exact does_move rfl x0 ⟨rfl, Old.refl _⟩
                          · refine step_guard rfl fun ρ w2 ho hr hd => ?_
                            obtain ⟨h0, h1, h2, _⟩ := hd
                            have hgd : ρ (.tmp 73) = .bool false := h2 rfl
                            have x0 : ρ (.tmp 80) = .int .i64 (j : Int) := h0 rfl
                            have y0 : ρ (.tmp 81) = .int .i64 (j : Int) := h1 rfl
                            refine ⟨hgd, ?_⟩
                            refine does_value (v := .bool false) (w' := w2) ?_ ⟨rfl, Old.refl _⟩
                            unfold execOp
                            simp only [x0, y0]
                            go_simp
                          · refine step_plain rfl fun ρ w2 ho hr hd => ?_
                            obtain ⟨h0, h1, _⟩ := hd
                            have x0 : ρ (.tmp 73) = .bool false := h0 rfl
                            have y0 : ρ (.tmp 82) = .bool false := h1 rfl
                            exact does_pick rfl x0 y0 ⟨rfl, Old.refl _⟩
                          · refine step_plain rfl fun ρ w2 ho hr hd => ?_
                            obtain ⟨h0, h1, _⟩ := hd
                            have x0 : ρ (.tmp 83) = .bool false := h0 rfl
                            exact does_move rfl x0 ⟨rfl, Old.refl _⟩
                          · refine step_guard rfl fun ρ w2 ho hr hd => ?_
                            obtain ⟨h0, _⟩ := hd
                            have hgd : ρ (.tmp 84) = .bool false := h0 rfl
                            have x0 : ρ (.tmp 5) = .pointer (some ⟨wr.heap.size, 0, none⟩) := (hr.1 5 rfl).trans rfl
                            refine ⟨hgd, ?_⟩
                            refine does_value (v := .pointer (some ⟨wr.heap.size, 1, none⟩)) (w' := w2) ?_ ⟨rfl, Old.refl _⟩
                            unfold execOp
                            simp only [x0]
                            go_simp
                          · refine step_guard rfl fun ρ w2 ho hr hd => ?_
                            obtain ⟨h0, h1, _⟩ := hd
                            have hgd : ρ (.tmp 84) = .bool false := h1 rfl
                            have x0 : ρ (.tmp 85) = .pointer (some ⟨wr.heap.size, 1, none⟩) := h0 rfl
                            have q0 := (ho.cell T1.out).trans T2.out
                            refine ⟨hgd, ?_⟩
                            refine does_value (v := .int .u8 y.k) (w' := w2) ?_ ⟨rfl, Old.refl _⟩
                            unfold execOp
                            simp only [x0]
                            go_simp
                          · refine step_guard rfl fun ρ w2 ho hr hd => ?_
                            obtain ⟨h0, h1, _⟩ := hd
                            have hgd : ρ (.tmp 84) = .bool false := h1 rfl
                            have x0 : ρ (.tmp 86) = .int .u8 y.k := h0 rfl
                            refine ⟨hgd, ?_⟩
                            refine does_value (v := .bool true) (w' := w2) ?_ ⟨rfl, Old.refl _⟩
                            unfold execOp
                            simp only [x0, hr.2.1]
                            go_simp
                          · refine step_plain rfl fun ρ w2 ho hr hd => ?_
                            obtain ⟨h0, h1, _⟩ := hd
                            have x0 : ρ (.tmp 84) = .bool false := h0 rfl
                            have y0 : ρ (.tmp 87) = .bool true := h1 rfl
                            exact does_pick rfl x0 y0 ⟨rfl, Old.refl _⟩
                          · refine step_plain rfl fun ρ w2 ho hr hd => ?_
                            obtain ⟨h0, h1, _⟩ := hd
                            have x0 : ρ (.tmp 88) = .bool true := h0 rfl
                            exact does_move rfl x0 ⟨rfl, Old.refl _⟩
                          · refine step_skip rfl (fun ρ w2 ho hr hd => ?_) (fun _ => trivial)
                            obtain ⟨h0, _⟩ := hd
                            have hgd : ρ (.tmp 89) = .bool true := h0 rfl
                            exact hgd
                          · refine step_skip rfl (fun ρ w2 ho hr hd => ?_) (fun _ => trivial)
                            obtain ⟨h0, h1, _⟩ := hd
                            have hgd : ρ (.tmp 89) = .bool true := h1 rfl
                            exact hgd
                          · refine step_skip rfl (fun ρ w2 ho hr hd => ?_) (fun _ => trivial)
                            obtain ⟨h0, h1, _⟩ := hd
                            have hgd : ρ (.tmp 89) = .bool true := h1 rfl
                            exact hgd
                          · refine step_plain rfl fun ρ w2 ho hr hd => ?_
                            obtain ⟨h0, h1, _⟩ := hd
                            have x0 : ρ (.tmp 89) = .bool true := h0 rfl
                            exact does_pick rfl x0 (hr.2.1 _) ⟨rfl, Old.refl _⟩
                        · intro a' w' hoE hst hl
                          obtain ⟨_, _, _, _, _, _, _, _, _, _, _, _, _, _, _, _, _, _, _, _, _, _, _, _, k24, _⟩ := hl
                          have e24 : a'.eval (.tmp 93) = .bool true := k24
                          rw [act_fresh hst [false, false, false, false, false, false, false, false, false, false, false, false, false, false, false, false, false, false, false, false, false, false, false, false, false, false, false, false, false, false, false, false, false, false, false, false, false, false, false, false, false, false, false, false, false, false, false, false, false, false, false, false, false, false, false, false, false, false, false, false, false, false, false, false, false, false, false, false, false, true, true, true, true, true, true, true, true, true, true, true, true, true, true, true, true, true, true, true, true, true, true, true, true, true] (by kernel_rfl) (by kernel_rfl)]
                          simp only [fresh, e24]
                          clear hst k24 e24
                          have HQ := Lib.hid ((((HO.out.trans HW2.out).trans HP.out).trans hoE))
                          clear hoE
                          go_wp2_with fail
                          go_ret
                          exact ⟨rb _ _ HF.out.symm, HQ.out⟩
                    · have hne := u8_ne hri
                      have HF := Lib.hid (HNO.out (by unfold sAt; rw [HE.out, ← HR.out]; simpa using fun _ => hri))
                      clear hri
                      refine wp_region_inv (spOf [.eq (.pointer (some ⟨wr.heap.size, 0, none⟩)), .eq (.string y.n), .eq (.bool true), .eq (.bool false), .eq (.bool false), .eq (.slice (some ⟨g, o, none⟩) N c), .eq (.int .i64 (k : Int)), .eq (.pointer (some ⟨g, o + k * 2, none⟩)), .eq (tv xn (.slice (some ⟨sg, so, none⟩) M sc)), .eq (.pointer (some ⟨wr.heap.size, 0, none⟩)), .eq (.string y.n), .eq (.int .i64 r), .eq (.int .i64 (j : Int)), .eq (.bool true), .eq (.bool true), .eq (.bool true), .any, .any, .any, .eq (.bool true), .eq (.bool true), .any, .any, .any, .eq (.bool true)]) (by kernel_rfl) (by kernel_rfl) (spOf_mono _) ?_ ?_
                      · refine ⟨?_, ?_, ?_, ?_, ?_, ?_, ?_, ?_, ?_, ?_, ?_, ?_, ?_, ?_, ?_, ?_, ?_, ?_, ?_, ?_, ?_, ?_, ?_, ?_, ?_, trivial⟩
                        · refine step_plain rfl fun ρ w2 ho hr hd => ?_
                          have x0 : ρ (.tmp 5) = .pointer (some ⟨wr.heap.size, 0, none⟩) := (hr.1 5 rfl).trans rfl
                          refine does_value (v := .pointer (some ⟨wr.heap.size, 0, none⟩)) (w' := w2) ?_ ⟨rfl, Old.refl _⟩
                          unfold execOp
                          simp only [x0]
                          go_simp
                        · refine step_plain rfl fun ρ w2 ho hr hd => ?_
                          obtain ⟨h0, _⟩ := hd
                          have x0 : ρ (.tmp 69) = .pointer (some ⟨wr.heap.size, 0, none⟩) := h0 rfl
                          have q0 := (ho.cell T1.out).trans T0.out
                          refine does_value (v := .string y.n) (w' := w2) ?_ ⟨rfl, Old.refl _⟩
                          unfold execOp
                          simp only [x0]
                          go_simp
                        · refine step_plain rfl fun ρ w2 ho hr hd => ?_
                          obtain ⟨h0, _⟩ := hd
                          have x0 : ρ (.tmp 70) = .string y.n := h0 rfl
                          exact does_call1 rfl (hr.2.2.2 _) x0 rfl ((hnm w2).mono fun e w' h => ⟨_, h.1, rfl, h.2⟩)
                        · refine step_plain rfl fun ρ w2 ho hr hd => ?_
                          obtain ⟨h0, _⟩ := hd
                          have x0 : ρ (.tmp 71) = .bool true := h0 rfl
                          refine does_value (v := .bool false) (w' := w2) ?_ ⟨rfl, Old.refl _⟩
                          unfold execOp
                          simp only [x0]
                          go_simp
                        · refine step_plain rfl fun ρ w2 ho hr hd => ?_
                          obtain ⟨h0, h1, _⟩ := hd
                          have x0 : ρ (.tmp 72) = .bool false := h0 rfl
                          exact does_move rfl x0 ⟨rfl, Old.refl _⟩
                        · refine step_guard rfl fun ρ w2 ho hr hd => ?_
                          obtain ⟨h0, _⟩ := hd
                          have hgd : ρ (.tmp 73) = .bool false := h0 rfl
                          have x0 : ρ (.tmp 0) = .slice (some ⟨g, o, none⟩) N c := (hr.1 0 rfl).trans rfl
                          refine ⟨hgd, ?_⟩
                          exact does_move rfl x0 ⟨rfl, Old.refl _⟩
                        · refine step_guard rfl fun ρ w2 ho hr hd => ?_
                          obtain ⟨h0, _⟩ := hd
                          have hgd : ρ (.tmp 73) = .bool false := h0 rfl
                          have x0 : ρ (.tmp 3) = .int .i64 (k : Int) := (hr.1 3 rfl).trans rfl
                          refine ⟨hgd, ?_⟩
                          exact does_move rfl x0 ⟨rfl, Old.refl _⟩
                        · refine step_guard rfl fun ρ w2 ho hr hd => ?_
                          obtain ⟨h0, h1, h2, _⟩ := hd
                          have hgd : ρ (.tmp 73) = .bool false := h2 rfl
                          have x0 : ρ (.tmp 74) = .slice (some ⟨g, o, none⟩) N c := h0 rfl
                          have y0 : ρ (.tmp 75) = .int .i64 (k : Int) := h1 rfl
                          refine ⟨hgd, ?_⟩
                          refine does_value (v := .pointer (some ⟨g, o + k * 2, none⟩)) (w' := w2) ?_ ⟨rfl, Old.refl _⟩
                          unfold execOp
                          simp only [x0, y0]
                          go_simp
                        · refine step_guard rfl fun ρ w2 ho hr hd => ?_
                          obtain ⟨h0, h1, _⟩ := hd
                          have hgd : ρ (.tmp 73) = .bool false := h1 rfl
                          have x0 : ρ (.tmp 76) = .pointer (some ⟨g, o + k * 2, none⟩) := h0 rfl
                          have q0 := (ho.cell E2.out).trans E0.out
                          have q1 := (ho.cell E2.out).trans E1.out
                          refine ⟨hgd, ?_⟩
                          refine does_value (v := tv xn (.slice (some ⟨sg, so, none⟩) M sc)) (w' := w2) ?_ ⟨rfl, Old.refl _⟩
                          unfold execOp
                          simp only [x0]
                          go_simp
                        · refine step_guard rfl fun ρ w2 ho hr hd => ?_
                          obtain ⟨h0, _⟩ := hd
                          have hgd : ρ (.tmp 73) = .bool false := h0 rfl
                          have x0 : ρ (.tmp 5) = .pointer (some ⟨wr.heap.size, 0, none⟩) := (hr.1 5 rfl).trans rfl
                          refine ⟨hgd, ?_⟩
                          refine does_value (v := .pointer (some ⟨wr.heap.size, 0, none⟩)) (w' := w2) ?_ ⟨rfl, Old.refl _⟩
                          unfold execOp
                          simp only [x0]
                          go_simp
                        · refine step_guard rfl fun ρ w2 ho hr hd => ?_
                          obtain ⟨h0, h1, _⟩ := hd
                          have hgd : ρ (.tmp 73) = .bool false := h1 rfl
                          have x0 : ρ (.tmp 78) = .pointer (some ⟨wr.heap.size, 0, none⟩) := h0 rfl
                          have q0 := (ho.cell T1.out).trans T0.out
                          refine ⟨hgd, ?_⟩
                          refine does_value (v := .string y.n) (w' := w2) ?_ ⟨rfl, Old.refl _⟩
                          unfold execOp
                          simp only [x0]
                          go_simp
                        · refine step_guard rfl fun ρ w2 ho hr hd => ?_
                          obtain ⟨h0, h1, h2, h3, _⟩ := hd
                          have hgd : ρ (.tmp 73) = .bool false := h3 rfl
                          have x0 : ρ (.tmp 77) = tv xn (.slice (some ⟨sg, so, none⟩) M sc) := h0 rfl
                          have x1 : ρ (.tmp 79) = .string y.n := h1 rfl
                          refine ⟨hgd, ?_⟩
                          exact does_call2 rfl (hr.2.2.2 _) x0 x1 rfl ((hsl w2 (HSR.out.old ho)).mono fun e w' h => ⟨_, h.1, rfl, h.2⟩)
                        · refine step_guard rfl fun ρ w2 ho hr hd => ?_
                          obtain ⟨h0, _⟩ := hd
                          have hgd : ρ (.tmp 73) = .bool false := h0 rfl
                          have x0 : ρ (.tmp 4) = .int .i64 (j : Int) := (hr.1 4 rfl).trans rfl
                          refine ⟨hgd, ?_⟩
                          exact does_move rfl x0 ⟨rfl, Old.refl _⟩
                        · refine step_guard rfl fun ρ w2 ho hr hd => ?_
                          obtain ⟨h0, h1, h2, _⟩ := hd
                          have hgd : ρ (.tmp 73) = .bool false := h2 rfl
                          have x0 : ρ (.tmp 80) = .int .i64 r := h0 rfl
                          have y0 : ρ (.tmp 81) = .int .i64 (j : Int) := h1 rfl
                          refine ⟨hgd, ?_⟩
                          refine does_value (v := .bool true) (w' := w2) ?_ ⟨rfl, Old.refl _⟩
                          unfold execOp
                          simp only [x0, y0]
                          go_simp
                        · refine step_plain rfl fun ρ w2 ho hr hd => ?_
                          obtain ⟨h0, h1, _⟩ := hd
                          have x0 : ρ (.tmp 73) = .bool false := h0 rfl
                          have y0 : ρ (.tmp 82) = .bool true := h1 rfl
                          exact does_pick rfl x0 y0 ⟨rfl, Old.refl _⟩
                        · refine step_plain rfl fun ρ w2 ho hr hd => ?_
                          obtain ⟨h0, h1, _⟩ := hd
                          have x0 : ρ (.tmp 83) = .bool true := h0 rfl
                          exact does_move rfl x0 ⟨rfl, Old.refl _⟩
                        · refine step_skip rfl (fun ρ w2 ho hr hd => ?_) (fun _ => trivial)
                          obtain ⟨h0, _⟩ := hd
                          have hgd : ρ (.tmp 84) = .bool true := h0 rfl
                          exact hgd
                        · refine step_skip rfl (fun ρ w2 ho hr hd => ?_) (fun _ => trivial)
                          obtain ⟨h0, h1, _⟩ := hd
                          have hgd : ρ (.tmp 84) = .bool true := h1 rfl
                          exact hgd
                        · refine step_skip rfl (fun ρ w2 ho hr hd => ?_) (fun _ => trivial)
                          obtain ⟨h0, h1, _⟩ := hd
                          have hgd : ρ (.tmp 84) = .bool true := h1 rfl
                          exact hgd
                        · refine step_plain rfl fun ρ w2 ho hr hd => ?_
                          obtain ⟨h0, h1, _⟩ := hd
                          have x0 : ρ (.tmp 84) = .bool true := h0 rfl
                          exact does_pick rfl x0 (hr.2.1 _) ⟨rfl, Old.refl _⟩
                        · refine step_plain rfl fun ρ w2 ho hr hd => ?_
                          obtain ⟨h0, h1, _⟩ := hd
                          have x0 : ρ (.tmp 88) = .bool true := h0 rfl
                          exact does_move rfl x0 ⟨rfl, Old.refl _⟩
                        · refine step_skip rfl (fun ρ w2 ho hr hd => ?_) (fun _ => trivial)
                          obtain ⟨h0, _⟩ := hd
                          have hgd : ρ (.tmp 89) = .bool true := h0 rfl
                          exact hgd
                        · refine step_skip rfl (fun ρ w2 ho hr hd => ?_) (fun _ => trivial)
                          obtain ⟨h0, h1, _⟩ := hd
                          have hgd : ρ (.tmp 89) = .bool true := h1 rfl
                          exact hgd
                        · refine step_skip rfl (fun ρ w2 ho hr hd => ?_) (fun _ => trivial)
                          obtain ⟨h0, h1, _⟩ := hd
                          have hgd : ρ (.tmp 89) = .bool true := h1 rfl
                          exact hgd
                        · refine step_plain rfl fun ρ w2 ho hr hd => ?_
                          obtain ⟨h0, h1, _⟩ := hd
                          have x0 : ρ (.tmp 89) = .bool true := h0 rfl
                          exact does_pick rfl x0 (hr.2.1 _) ⟨rfl, Old.refl _⟩
                      · intro a' w' hoE hst hl
                        obtain ⟨_, _, _, _, _, _, _, _, _, _, _, _, _, _, _, _, _, _, _, _, _, _, _, _, k24, _⟩ := hl
                        have e24 : a'.eval (.tmp 93) = .bool true := k24
                        rw [act_fresh hst [false, false, false, false, false, false, false, false, false, false, false, false, false, false, false, false, false, false, false, false, false, false, false, false, false, false, false, false, false, false, false, false, false, false, false, false, false, false, false, false, false, false, false, false, false, false, false, false, false, false, false, false, false, false, false, false, false, false, false, false, false, false, false, false, false, false, false, false, false, true, true, true, true, true, true, true, true, true, true, true, true, true, true, true, true, true, true, true, true, true, true, true, true, true] (by kernel_rfl) (by kernel_rfl)]
                        simp only [fresh, e24]
                        clear hst k24 e24
                        have HQ := Lib.hid ((((HO.out.trans HW2.out).trans HP.out).trans hoE))
                        clear hoE
                        go_wp2_with fail
                        go_ret
                        exact ⟨rb _ _ HF.out.symm, HQ.out⟩
                · have hj' : j = M := by omega
                  subst hj'
                  go_wp2_with fail
                  refine ⟨⟨k + 1, hkn, rfl, Lib.hid (tTo_next HS.out HX.out (HTB.out true (by unfold slB; rw [← HM.out]; exact HS2.out))), Lib.hid (HO.out.trans HW2.out)⟩, by simp only [intOf]; omega⟩
            · have HF := Lib.hid (show tTo l N = false from tTo_no HX.out (by
                unfold tAt tB
                simp only
                rw [← HM.out]
                by_cases h : 1 ≤ M
                · rw [decide_eq_false (p := M ≤ 8) (by omega)]; simp
                · rw [decide_eq_false h]; simp) _ hkn)
              have hc : M = 0 ∨ 8 < M := by omega
              clear hb8
              rcases hc with h | h
              · subst h
                go_wp2_with (first
                  | (go_at_call 13; (with_reducible refine (hnx _).mono ?_); rintro e w1 ⟨rfl, o1⟩; have HO1 := Lib.hid o1; have l3 := Lib.hid (hl2.out.old o1); have d2 := (o1.cell G0.out).trans d0; have d3 := (o1.cell G0.out).trans d1; clear o1)
                  | (go_at_call 17; (with_reducible refine (hf _ l3.out).mono ?_); rintro e w3 ⟨rfl, rfl⟩))
                go_ret
                exact ⟨rb _ _ HF.out.symm, HW.out.trans HO1.out⟩
              · go_wp2_with (first
                  | (go_at_call 13; (with_reducible refine (hnx _).mono ?_); rintro e w1 ⟨rfl, o1⟩; have HO1 := Lib.hid o1; have l3 := Lib.hid (hl2.out.old o1); have d2 := (o1.cell G0.out).trans d0; have d3 := (o1.cell G0.out).trans d1; clear o1)
                  | (go_at_call 17; (with_reducible refine (hf _ l3.out).mono ?_); rintro e w3 ⟨rfl, rfl⟩))
                go_ret
                exact ⟨rb _ _ HF.out.symm, HW.out.trans HO1.out⟩
          · have hne := u8_ne hqk
            have HF := Lib.hid (show tTo l N = false from tTo_no HX.out (by unfold tAt; simp only; rw [← HQX.out]; simpa using fun _ => hqk) _ hkn)
            clear hqk
            go_wp2_with (first
              | (go_at_call 13; (with_reducible refine (hnx _).mono ?_); rintro e w1 ⟨rfl, o1⟩; have HO1 := Lib.hid o1; have l3 := Lib.hid (hl2.out.old o1); have d2 := (o1.cell G0.out).trans d0; have d3 := (o1.cell G0.out).trans d1; clear o1)
              | (go_at_call 17; (with_reducible refine (hf _ l3.out).mono ?_); rintro e w3 ⟨rfl, rfl⟩))
            go_ret
            exact ⟨rb _ _ HF.out.symm, HW.out.trans HO1.out⟩
      · have hkn' : k = N := by omega
        subst hkn'
        go_wp2_with fail
        go_ret
        exact ⟨rb _ _ HS.out.symm, HW.out⟩
  · rw [decide_eq_false h16, Bool.false_and]
    go_enter Try.func15, Try.ntmps15
    go_wp2_with fail
    go_ret
    exact ⟨rfl, Old.refl w⟩
end Go.Proofs.Ytcedcfkjoppjdaa
