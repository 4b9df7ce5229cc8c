/- Layer template: what the laws know. -/
import Derived.Test.YtcedcfkjoppjdaaNK
namespace Go.Proofs.Ytcedcfkjoppjdaa
open Go.ChangeShapes Go.WideShapes Go.ChangeAt Go.RowKit Go.Lib
set_option linter.unusedVariables false
set_option linter.unusedSimpArgs false
set_option maxRecDepth 100000

theorem nm_rule : nmB ⟨#[114, 117, 108, 101]⟩ = false := by kernel_rfl
theorem nm_rules : nmB ⟨#[114, 117, 108, 101, 115]⟩ = true := by kernel_rfl
def persS : Sp := ⟨fun v w => ∃ x, TR w v (persL x), fun _ _ _ ho h => h.elim fun z hz => ⟨z, hz.old ho⟩⟩
def valS (l : List Vl) : Sp := ⟨fun v w => VR w v l, fun _ _ _ ho h => h.old ho⟩
theorem two_lies {W : World} {b : Nat} {x y : Vl} (h : W.heap[b]? = some (.cells #[.int .u8 x.k, .int .i64 x.n, .string x.s, .int .u8 y.k, .int .i64 y.n, .string y.s] 45)) (hx : x.s.size ≤ maxLen) (hy : y.s.size ≤ maxLen) : VR W (.slice (some ⟨b, 0, none⟩) 2 2) [x, y] := by
  have l0 := blk_lt h
  refine ⟨_, _, rfl, Nat.le_refl _, by unfold maxLen; omega, fun j z hj => ?_⟩
  rcases j with _ | _ | j
  · simp at hj
    subst hj
    exact ⟨_, 0, rfl, l0, by simp [World.cell?, h], by simp [World.cell?, h], by simp [World.cell?, h], hx⟩
  · simp at hj
    subst hj
    exact ⟨_, 0, rfl, l0, by simp [World.cell?, h], by simp [World.cell?, h], by simp [World.cell?, h], hy⟩
  · simp at hj
theorem vr_two (w : World) (x y : Vl) (hx : x.s.size ≤ maxLen := by simp [ByteArray.size, maxLen]) (hy : y.s.size ≤ maxLen := by simp [ByteArray.size, maxLen]) : VR (w.alloc (.cells #[.int .u8 x.k, .int .i64 x.n, .string x.s, .int .u8 y.k, .int .i64 y.n, .string y.s] 45)) (.slice (some ⟨w.heap.size, 0, none⟩) 2 2) [x, y] :=
  two_lies (MapKept.heap_alloc w _).1 hx hy

set_option maxHeartbeats 1600000 in
theorem known_any (w : World) : Calls Try.prog 9 #[] w fun e w' => e = .returned (.bool true) ∧ Old w w' := by
  have HA := Lib.hid ((Three.new w (.int .u8 1) (.int .i64 1) (.string ⟨#[]⟩)).alloc (.cells #[.int .u8 3, .int .i64 0, .string ⟨#[97]⟩] 45))
  have hb0 := Three.new (w.alloc (.cells #[.int .u8 1, .int .i64 1, .string ⟨#[]⟩] 45)) (.int .u8 3) (.int .i64 0) (.string ⟨#[97]⟩)
  have es : (w.alloc (.cells #[.int .u8 1, .int .i64 1, .string ⟨#[]⟩] 45)).heap.size = w.heap.size + 1 := by simp
  rw [es] at hb0
  have A := HA
  have B := Lib.hid hb0
  clear hb0 es HA
  have HO := Lib.hid (((Old.refl w).alloc (.cells #[.int .u8 1, .int .i64 1, .string ⟨#[]⟩] 45)).alloc (.cells #[.int .u8 3, .int .i64 0, .string ⟨#[97]⟩] 45))
  go_enter Try.func9, Try.ntmps9
  go_upto_region 2 with fail
  refine wp_region_inv (spOf [.eq (.bool false), .eq (.bool true), .eq (.bool true), .eq (.bool true), .eq (.bool true), .eq (.bool true), persS, .eq (vl 1 1 ⟨#[]⟩), .eq (vl 3 0 ⟨#[97]⟩), valS [⟨1, 1, ⟨#[]⟩⟩, ⟨3, 0, ⟨#[97]⟩⟩], .eq (.int .i64 0), .eq (.bool true), .eq (.bool true), .eq (.bool true), persS, .eq (vl 3 0 ⟨#[97]⟩), .eq (vl 1 1 ⟨#[]⟩), valS [⟨3, 0, ⟨#[97]⟩⟩, ⟨1, 1, ⟨#[]⟩⟩], .eq (.int .i64 8), .eq (.bool true), .eq (.bool true), .eq (.bool true), persS, .eq (.bool true), .eq (.bool true), .eq (.bool true)]) (by kernel_rfl) (by kernel_rfl) (spOf_mono _) ?_ ?_
  · refine ⟨?_, ?_, ?_, ?_, ?_, ?_, ?_, ?_, ?_, ?_, ?_, ?_, ?_, ?_, ?_, ?_, ?_, ?_, ?_, ?_, ?_, ?_, ?_, ?_, ?_, ?_, trivial⟩
    · refine step_plain rfl fun ρ w2 ho hr hd => ?_
      exact does_call1 rfl (hr.2.2.2 _) (hr.2.1 _) rfl (((nm_any ⟨#[114, 117, 108, 101]⟩ w2)).mono fun e w' h => ⟨_, h.1, congrArg Value.bool nm_rule, h.2⟩)
    · refine step_plain rfl fun ρ w2 ho hr hd => ?_
      obtain ⟨h0, _⟩ := hd
      have x0 : ρ (.tmp 5) = .bool false := h0 rfl
      refine does_value (v := .bool true) (w' := w2) ?_ ⟨rfl, Old.refl _⟩
      unfold execOp
      simp only [x0]
      go_simp
    · refine step_plain rfl fun ρ w2 ho hr hd => ?_
      obtain ⟨h0, h1, _⟩ := hd
      have x0 : ρ (.tmp 6) = .bool true := h0 rfl
      exact does_move rfl x0 ⟨rfl, Old.refl _⟩
    · refine step_guard rfl fun ρ w2 ho hr hd => ?_
      obtain ⟨h0, h1, _⟩ := hd
      have hgd : ρ (.tmp 7) = .bool true := h1 rfl
      refine ⟨hgd, ?_⟩
      exact does_call1 rfl (hr.2.2.2 _) (hr.2.1 _) rfl (((nm_any ⟨#[114, 117, 108, 101, 115]⟩ w2)).mono fun e w' h => ⟨_, h.1, congrArg Value.bool nm_rules, h.2⟩)
    · refine step_plain rfl fun ρ w2 ho hr hd => ?_
      obtain ⟨h0, h1, _⟩ := hd
      have x0 : ρ (.tmp 7) = .bool true := h0 rfl
      have y0 : ρ (.tmp 8) = .bool true := h1 rfl
      exact does_pick rfl x0 y0 ⟨rfl, Old.refl _⟩
    · refine step_plain rfl fun ρ w2 ho hr hd => ?_
      obtain ⟨h0, h1, _⟩ := hd
      have x0 : ρ (.tmp 9) = .bool true := h0 rfl
      exact does_move rfl x0 ⟨rfl, Old.refl _⟩
    · refine step_guard rfl fun ρ w2 ho hr hd => ?_
      obtain ⟨h0, h1, _⟩ := hd
      have hgd : ρ (.tmp 10) = .bool true := h1 rfl
      refine ⟨hgd, ?_⟩
      exact does_call0 rfl (hr.2.2.2 _) rfl ((person_any w2).mono fun e w' ⟨v, x, he, ht, ho2⟩ => ⟨v, he, ⟨x, ht⟩, ho2⟩)
    · refine step_guard rfl fun ρ w2 ho hr hd => ?_
      obtain ⟨h0, _⟩ := hd
      have hgd : ρ (.tmp 10) = .bool true := h0 rfl
      have x0 : ρ (.tmp 1) = .pointer (some ⟨w.heap.size, 0, none⟩) := (hr.1 1 rfl).trans rfl
      have q0 := (ho.cell A.out.lt).trans A.out.c0
      have q1 := (ho.cell A.out.lt).trans A.out.c1
      have q2 := (ho.cell A.out.lt).trans A.out.c2
      refine ⟨hgd, ?_⟩
      refine does_value (v := vl 1 1 ⟨#[]⟩) (w' := w2) ?_ ⟨rfl, Old.refl _⟩
      unfold execOp
      simp only [x0]
      go_simp
    · refine step_guard rfl fun ρ w2 ho hr hd => ?_
      obtain ⟨h0, _⟩ := hd
      have hgd : ρ (.tmp 10) = .bool true := h0 rfl
      have x0 : ρ (.tmp 2) = .pointer (some ⟨w.heap.size + 1, 0, none⟩) := (hr.1 2 rfl).trans rfl
      have q0 := (ho.cell B.out.lt).trans B.out.c0
      have q1 := (ho.cell B.out.lt).trans B.out.c1
      have q2 := (ho.cell B.out.lt).trans B.out.c2
      refine ⟨hgd, ?_⟩
      refine does_value (v := vl 3 0 ⟨#[97]⟩) (w' := w2) ?_ ⟨rfl, Old.refl _⟩
      unfold execOp
      simp only [x0]
      go_simp
    · refine step_guard rfl fun ρ w2 ho hr hd => ?_
      obtain ⟨h0, h1, h2, _⟩ := hd
      have hgd : ρ (.tmp 10) = .bool true := h2 rfl
      have x0 : ρ (.tmp 12) = vl 1 1 ⟨#[]⟩ := h0 rfl
      have y0 : ρ (.tmp 13) = vl 3 0 ⟨#[97]⟩ := h1 rfl
      refine ⟨hgd, ?_⟩
      refine does_value (v := .slice (some ⟨w2.heap.size, 0, none⟩) 2 2) (w' := w2.alloc (.cells #[.int .u8 1, .int .i64 1, .string ⟨#[]⟩, .int .u8 3, .int .i64 0, .string ⟨#[97]⟩] 45)) ?_ ⟨vr_two _ _ _, (Old.refl _).alloc _⟩
      unfold execOp
      simp only [x0, y0, Array.map, List.map, Prod.map]
      go_simp
    · refine step_guard rfl fun ρ w2 ho hr hd => ?_
      obtain ⟨h0, h1, h2, h3, _⟩ := hd
      have hgd : ρ (.tmp 10) = .bool true := h3 rfl
      have p0 : ∃ x, TR w2 (ρ (.tmp 11)) (persL x) := h0 rfl
      obtain ⟨x, hx⟩ := p0
      have p1 : VR w2 (ρ (.tmp 14)) [⟨1, 1, ⟨#[]⟩⟩, ⟨3, 0, ⟨#[97]⟩⟩] := h1 rfl
      refine ⟨hgd, ?_⟩
      exact does_call3 rfl (hr.2.2.2 _) rfl (hr.2.1 _) rfl rfl ((fits_any _ _ 0 _ _ w2 hx p1 (by omega)).mono fun e w' h => ⟨_, h.1, congrArg (Value.int .i64) (pers_ok x), h.2⟩)
    · refine step_guard rfl fun ρ w2 ho hr hd => ?_
      obtain ⟨h0, h1, _⟩ := hd
      have hgd : ρ (.tmp 10) = .bool true := h1 rfl
      have x0 : ρ (.tmp 15) = .int .i64 0 := h0 rfl
      refine ⟨hgd, ?_⟩
      refine does_value (v := .bool true) (w' := w2) ?_ ⟨rfl, Old.refl _⟩
      unfold execOp
      simp only [x0, hr.2.1]
      go_simp
    · refine step_plain rfl fun ρ w2 ho hr hd => ?_
      obtain ⟨h0, h1, _⟩ := hd
      have x0 : ρ (.tmp 10) = .bool true := h0 rfl
      have y0 : ρ (.tmp 16) = .bool true := h1 rfl
      exact does_pick rfl x0 y0 ⟨rfl, Old.refl _⟩
    · refine step_plain rfl fun ρ w2 ho hr hd => ?_
      obtain ⟨h0, h1, _⟩ := hd
      have x0 : ρ (.tmp 17) = .bool true := h0 rfl
      exact does_move rfl x0 ⟨rfl, Old.refl _⟩
    · refine step_guard rfl fun ρ w2 ho hr hd => ?_
      obtain ⟨h0, h1, _⟩ := hd
      have hgd : ρ (.tmp 18) = .bool true := h1 rfl
      refine ⟨hgd, ?_⟩
      exact does_call0 rfl (hr.2.2.2 _) rfl ((person_any w2).mono fun e w' ⟨v, x, he, ht, ho2⟩ => ⟨v, he, ⟨x, ht⟩, ho2⟩)
    · refine step_guard rfl fun ρ w2 ho hr hd => ?_
      obtain ⟨h0, _⟩ := hd
      have hgd : ρ (.tmp 18) = .bool true := h0 rfl
      have x0 : ρ (.tmp 2) = .pointer (some ⟨w.heap.size + 1, 0, none⟩) := (hr.1 2 rfl).trans rfl
      have q0 := (ho.cell B.out.lt).trans B.out.c0
      have q1 := (ho.cell B.out.lt).trans B.out.c1
      have q2 := (ho.cell B.out.lt).trans B.out.c2
      refine ⟨hgd, ?_⟩
      refine does_value (v := vl 3 0 ⟨#[97]⟩) (w' := w2) ?_ ⟨rfl, Old.refl _⟩
      unfold execOp
      simp only [x0]
      go_simp
    · refine step_guard rfl fun ρ w2 ho hr hd => ?_
      obtain ⟨h0, _⟩ := hd
      have hgd : ρ (.tmp 18) = .bool true := h0 rfl
      have x0 : ρ (.tmp 1) = .pointer (some ⟨w.heap.size, 0, none⟩) := (hr.1 1 rfl).trans rfl
      have q0 := (ho.cell A.out.lt).trans A.out.c0
      have q1 := (ho.cell A.out.lt).trans A.out.c1
      have q2 := (ho.cell A.out.lt).trans A.out.c2
      refine ⟨hgd, ?_⟩
      refine does_value (v := vl 1 1 ⟨#[]⟩) (w' := w2) ?_ ⟨rfl, Old.refl _⟩
      unfold execOp
      simp only [x0]
      go_simp
    · refine step_guard rfl fun ρ w2 ho hr hd => ?_
      obtain ⟨h0, h1, h2, _⟩ := hd
      have hgd : ρ (.tmp 18) = .bool true := h2 rfl
      have x0 : ρ (.tmp 20) = vl 3 0 ⟨#[97]⟩ := h0 rfl
      have y0 : ρ (.tmp 21) = vl 1 1 ⟨#[]⟩ := h1 rfl
      refine ⟨hgd, ?_⟩
      refine does_value (v := .slice (some ⟨w2.heap.size, 0, none⟩) 2 2) (w' := w2.alloc (.cells #[.int .u8 3, .int .i64 0, .string ⟨#[97]⟩, .int .u8 1, .int .i64 1, .string ⟨#[]⟩] 45)) ?_ ⟨vr_two _ _ _, (Old.refl _).alloc _⟩
      unfold execOp
      simp only [x0, y0, Array.map, List.map, Prod.map]
      go_simp
    · refine step_guard rfl fun ρ w2 ho hr hd => ?_
      obtain ⟨h0, h1, h2, h3, _⟩ := hd
      have hgd : ρ (.tmp 18) = .bool true := h3 rfl
      have p0 : ∃ x, TR w2 (ρ (.tmp 19)) (persL x) := h0 rfl
      obtain ⟨x, hx⟩ := p0
      have p1 : VR w2 (ρ (.tmp 22)) [⟨3, 0, ⟨#[97]⟩⟩, ⟨1, 1, ⟨#[]⟩⟩] := h1 rfl
      refine ⟨hgd, ?_⟩
      exact does_call3 rfl (hr.2.2.2 _) rfl (hr.2.1 _) rfl rfl ((fits_any _ _ 0 _ _ w2 hx p1 (by omega)).mono fun e w' h => ⟨_, h.1, congrArg (Value.int .i64) (pers_no x), h.2⟩)
    · refine step_guard rfl fun ρ w2 ho hr hd => ?_
      obtain ⟨h0, h1, _⟩ := hd
      have hgd : ρ (.tmp 18) = .bool true := h1 rfl
      have x0 : ρ (.tmp 23) = .int .i64 8 := h0 rfl
      refine ⟨hgd, ?_⟩
      refine does_value (v := .bool true) (w' := w2) ?_ ⟨rfl, Old.refl _⟩
      unfold execOp
      simp only [x0, hr.2.1]
      go_simp
    · refine step_plain rfl fun ρ w2 ho hr hd => ?_
      obtain ⟨h0, h1, _⟩ := hd
      have x0 : ρ (.tmp 18) = .bool true := h0 rfl
      have y0 : ρ (.tmp 24) = .bool true := h1 rfl
      exact does_pick rfl x0 y0 ⟨rfl, Old.refl _⟩
    · refine step_plain rfl fun ρ w2 ho hr hd => ?_
      obtain ⟨h0, h1, _⟩ := hd
      have x0 : ρ (.tmp 25) = .bool true := h0 rfl
      exact does_move rfl x0 ⟨rfl, Old.refl _⟩
    · refine step_guard rfl fun ρ w2 ho hr hd => ?_
      obtain ⟨h0, h1, _⟩ := hd
      have hgd : ρ (.tmp 26) = .bool true := h1 rfl
      refine ⟨hgd, ?_⟩
      exact does_call0 rfl (hr.2.2.2 _) rfl ((person_any w2).mono fun e w' ⟨v, x, he, ht, ho2⟩ => ⟨v, he, ⟨x, ht⟩, ho2⟩)
    · refine step_guard rfl fun ρ w2 ho hr hd => ?_
      obtain ⟨h0, h1, h2, _⟩ := hd
      have hgd : ρ (.tmp 26) = .bool true := h2 rfl
      have p0 : ∃ x, TR w2 (ρ (.tmp 27)) (persL x) := h0 rfl
      obtain ⟨x, hx⟩ := p0
      refine ⟨hgd, ?_⟩
      exact does_call1 rfl (hr.2.2.2 _) rfl rfl ((mayT_any _ _ w2 hx).mono fun e w' h => ⟨_, h.1, congrArg Value.bool (pers_may x), h.2⟩)
    · refine step_plain rfl fun ρ w2 ho hr hd => ?_
      obtain ⟨h0, h1, _⟩ := hd
      have x0 : ρ (.tmp 26) = .bool true := h0 rfl
      have y0 : ρ (.tmp 28) = .bool true := h1 rfl
      exact does_pick rfl x0 y0 ⟨rfl, Old.refl _⟩
    · refine step_plain rfl fun ρ w2 ho hr hd => ?_
      obtain ⟨h0, h1, h2, h3, h4, h5, h6, h7, h8, h9, h10, h11, h12, h13, h14, h15, h16, h17, h18, h19, h20, h21, h22, h23, h24, h25, h26, _⟩ := hd
      have x0 : ρ (.tmp 29) = .bool true := h0 rfl
      exact does_assign rfl x0 ⟨rfl, Old.refl _⟩
  · intro a' w' hoE hst hl
    obtain ⟨_, _, _, _, _, _, _, _, _, _, _, _, _, _, _, _, _, _, _, _, _, _, _, _, _, k25, _⟩ := hl
    have e25 : a'.eval (.tmp 0) = .bool true := k25
    rw [act_fresh hst [true, false, false, false, false, true, true, true, true, true, true, true, true, true, true, true, true, true, true, true, true, true, true, true, true, true, true, true, true, true] (by kernel_rfl) (by kernel_rfl)]
    simp only [fresh, e25]
    clear hst k25 e25
    have HQ := Lib.hid (HO.out.trans hoE)
    clear hoE
    go_wp2_with fail
    go_ret
    exact ⟨rfl, HQ.out⟩
end Go.Proofs.Ytcedcfkjoppjdaa
