/- Layer memory: the document's word for the same facts, where they are the same. -/
import Derived.Test.YtfhbnkdibhmmcaaQO
import Derived.Test.YtfhbnkdibhmmcaaIB
namespace Go.Proofs.Ytfhbnkdibhmmcaa
open Go.ChangeShapes Go.WideShapes Go.ChangeAt Go.RowKit Go.Lib
set_option linter.unusedVariables false
set_option linter.unusedSimpArgs false
set_option maxRecDepth 100000

/-- The slice r reads as these facts. -/
def RF (w : World) (r : Value) (L : List Ft) : Prop :=
  ∃ oa cap, r = .slice oa L.length cap ∧ L.length ≤ cap ∧ cap ≤ maxLen ∧ ∀ j x, L[j]? = some x → ∃ g o u, oa = some ⟨g, o, none⟩ ∧ g < w.heap.size ∧ w.cell? ⟨g, o + j * 3, none⟩ = some (.int .i64 x.id) ∧ w.cell? ⟨g, o + j * 3 + 1, none⟩ = some (.int .i64 x.t) ∧ w.cell? ⟨g, o + j * 3 + 2, none⟩ = some u ∧ VR w u x.l
theorem RF.old {w w' : World} {r : Value} {L : List Ft} (h : RF w r L) (ho : Old w w') : RF w' r L := by
  obtain ⟨oa, cap, rfl, h1, h2, h3⟩ := h
  refine ⟨oa, cap, rfl, h1, h2, fun j x hj => ?_⟩
  obtain ⟨g, o, u, rfl, hg, c0, c1, c2, hv⟩ := h3 j x hj
  exact ⟨g, o, u, rfl, Nat.lt_of_lt_of_le hg ho.size, (ho.cell hg).trans c0, (ho.cell hg).trans c1, (ho.cell hg).trans c2, hv.old ho⟩
theorem fcells_at : ∀ {l : List (Ft × Value)} {i : Nat} {x : Ft × Value}, l[i]? = some x → (fcells l)[i * 3]? = some (.int .i64 x.1.id) ∧ (fcells l)[i * 3 + 1]? = some (.int .i64 x.1.t) ∧ (fcells l)[i * 3 + 2]? = some x.2
  | [], i, x, h => by simp at h
  | y :: l, 0, x, h => by cases h; exact ⟨rfl, rfl, rfl⟩
  | y :: l, i + 1, x, h => by
    have ih := fcells_at (l := l) (i := i) (x := x) (by simpa using h)
    rw [show (i + 1) * 3 = i * 3 + 1 + 1 + 1 by omega]
    exact ih
theorem RF.of {w : World} {r : Value} {V : List (Ft × Value)} (h : CR w r V.length 3 (fcells V)) (hv : ∀ x ∈ V, VR w x.2 x.1.l) : RF w r (V.map (·.1)) := by
  obtain ⟨oa, cap, rfl, h1, h2, _, h3⟩ := h
  refine ⟨oa, cap, by rw [List.length_map], by rw [List.length_map]; exact h1, h2, fun j x hj => ?_⟩
  rw [List.getElem?_map] at hj
  obtain ⟨y, hy, rfl⟩ : ∃ y, V[j]? = some y ∧ y.1 = x := by
    cases h : V[j]? with
    | none => rw [h] at hj; cases hj
    | some y => rw [h] at hj; exact ⟨y, rfl, by simpa using hj⟩
  obtain ⟨a0, a1, a2⟩ := fcells_at hy
  obtain ⟨g, o, rfl, hg, c0⟩ := h3 _ _ a0
  obtain ⟨g', o', e', _, c1⟩ := h3 _ _ a1
  obtain ⟨g'', o'', e'', _, c2⟩ := h3 _ _ a2
  simp only [Option.some.injEq, Addr.mk.injEq, and_true] at e' e''
  obtain ⟨rfl, rfl⟩ := e'
  obtain ⟨rfl, rfl⟩ := e''
  exact ⟨_, _, _, rfl, hg, c0, c1, c2, hv y (List.mem_iff_getElem?.2 ⟨j, hy⟩)⟩
theorem FR.rf {w : World} {B : Nat} {r : Value} {L : List Ft} (h : FR w B r L) : RF w r L := by
  obtain ⟨V, rfl, h2, h3⟩ := h
  exact RF.of (CR.owned h2) (fun x hx => (CR.owned (h3 x hx).1).vr (h3 x hx).2)
theorem rself_any (l : List Vl) (u v : Value) (w : World) (hl : VR w u l) (hm : VR w v l) : Calls Try.prog 26 #[u, v] w fun e w' => e = .returned (.bool true) ∧ Old w w' := by
  have := rsame_any l l u v w hl hm
  rw [decide_eq_true rfl] at this
  exact this

set_option maxHeartbeats 1600000 in
theorem samef_any (L : List Ft) (r r' : Value) (w : World) (hr : RF w r L) (hr' : RF w r' L) : Calls Try.prog 23 #[r, r'] w fun e w' => e = .returned (.bool true) ∧ Old w w' := by
  obtain ⟨oa, c, rfl, a1, a2, a3⟩ := hr
  obtain ⟨ob, d, rfl, b1, b2, b3⟩ := hr'
  obtain ⟨n, hn⟩ : ∃ n, n = L.length := ⟨_, rfl⟩
  rw [← hn] at a1 b1 ⊢
  unfold maxLen at a2 b2
  have HN := Lib.hid hn
  have HA := Lib.hid a3
  have HB := Lib.hid b3
  clear hn a3 b3
  go_enter Try.func23, Try.ntmps23
  go_wp2
  go_loopw [5] (fun i wr => ∃ k : Nat, k ≤ n ∧ i = .int .i64 (k : Int) ∧ Hid (Old w wr)) (fun i _ => (n - intOf i).toNat)
  case atStart => exact ⟨0, Nat.zero_le _, rfl, Lib.hid (Old.refl w)⟩
  case round =>
    obtain ⟨k, hk, rfl, HO⟩ := hrel
    by_cases hkn : k < n
    · obtain ⟨x, hx⟩ : ∃ x, L[k]? = some x := ⟨L[k]'(by rw [← HN.out]; exact hkn), List.getElem?_eq_getElem _⟩
      obtain ⟨g, o, u, rfl, hg, c0, c1, c2, hv⟩ := HA.out k x hx
      obtain ⟨g', o', u', rfl, hg', d0, d1, d2, hv'⟩ := HB.out k x hx
      obtain ⟨ID, T, l⟩ := x
      simp only at c0 c1 c2 hv d0 d1 d2 hv'
      obtain ⟨ua, uc, rfl, _⟩ := id hv
      obtain ⟨va, vc, rfl, _⟩ := id hv'
      obtain ⟨N, hN⟩ : ∃ N, N = l.length := ⟨_, rfl⟩
      rw [← hN] at c2 d2 hv hv'
      have A0 := Lib.hid ((HO.out.cell hg).trans c0)
      have A1 := Lib.hid ((HO.out.cell hg).trans c1)
      have A2 := Lib.hid ((HO.out.cell hg).trans c2)
      have B0 := Lib.hid ((HO.out.cell hg').trans d0)
      have B1 := Lib.hid ((HO.out.cell hg').trans d1)
      have B2 := Lib.hid ((HO.out.cell hg').trans d2)
      have L1 := Lib.hid (Nat.lt_of_lt_of_le hg HO.out.size)
      have L2 := Lib.hid (Nat.lt_of_lt_of_le hg' HO.out.size)
      have VA := Lib.hid (hv.old HO.out)
      have VB := Lib.hid (hv'.old HO.out)
      have HK := Lib.hid hkn
      clear c0 c1 c2 hv d0 d1 d2 hv' hN hx hg hg'
      go_wp2
      refine wp_region_inv (spOf [.eq (.slice (some ⟨g, o, none⟩) n c), .eq (.int .i64 (k : Int)), .eq (.pointer (some ⟨g, o + k * 3, none⟩)), .eq (.pointer (some ⟨g, o + k * 3, none⟩)), .eq (.int .i64 ID), .eq (.slice (some ⟨g', o', none⟩) n d), .eq (.int .i64 (k : Int)), .eq (.pointer (some ⟨g', o' + k * 3, none⟩)), .eq (.pointer (some ⟨g', o' + k * 3, none⟩)), .eq (.int .i64 ID), .eq (.bool false), .eq (.bool false), .eq (.slice (some ⟨g, o, none⟩) n c), .eq (.int .i64 (k : Int)), .eq (.pointer (some ⟨g, o + k * 3, none⟩)), .eq (.pointer (some ⟨g, o + k * 3 + 1, none⟩)), .eq (.int .i64 T), .eq (.slice (some ⟨g', o', none⟩) n d), .eq (.int .i64 (k : Int)), .eq (.pointer (some ⟨g', o' + k * 3, none⟩)), .eq (.pointer (some ⟨g', o' + k * 3 + 1, none⟩)), .eq (.int .i64 T), .eq (.bool false), .eq (.bool false), .eq (.bool false), .eq (.slice (some ⟨g, o, none⟩) n c), .eq (.int .i64 (k : Int)), .eq (.pointer (some ⟨g, o + k * 3, none⟩)), .eq (.pointer (some ⟨g, o + k * 3 + 2, none⟩)), .eq (.slice ua N uc), .eq (.slice (some ⟨g', o', none⟩) n d), .eq (.int .i64 (k : Int)), .eq (.pointer (some ⟨g', o' + k * 3, none⟩)), .eq (.pointer (some ⟨g', o' + k * 3 + 2, none⟩)), .eq (.slice va N vc), .eq (.bool true), .eq (.bool false), .eq (.bool false)]) (by kernel_rfl) (by kernel_rfl) (spOf_mono _) ?_ ?_
      · refine ⟨?_, ?_, ?_, ?_, ?_, ?_, ?_, ?_, ?_, ?_, ?_, ?_, ?_, ?_, ?_, ?_, ?_, ?_, ?_, ?_, ?_, ?_, ?_, ?_, ?_, ?_, ?_, ?_, ?_, ?_, ?_, ?_, ?_, ?_, ?_, ?_, ?_, ?_, trivial⟩
        · refine step_plain rfl fun ρ w2 ho hr hd => ?_
          have x0 : ρ (.tmp 0) = .slice (some ⟨g, o, none⟩) n c := (hr.1 0 rfl).trans rfl
          exact does_move rfl x0 ⟨rfl, Old.refl _⟩
        · refine step_plain rfl fun ρ w2 ho hr hd => ?_
          have x0 : ρ (.tmp 5) = .int .i64 (k : Int) := (hr.1 5 rfl).trans rfl
          exact does_move rfl x0 ⟨rfl, Old.refl _⟩
        · refine step_plain rfl fun ρ w2 ho hr hd => ?_
          obtain ⟨h0, h1, _⟩ := hd
          have x0 : ρ (.tmp 17) = .slice (some ⟨g, o, none⟩) n c := h0 rfl
          have y0 : ρ (.tmp 18) = .int .i64 (k : Int) := h1 rfl
          refine does_value (v := .pointer (some ⟨g, o + k * 3, none⟩)) (w' := w2) ?_ ⟨rfl, Old.refl _⟩
          unfold execOp
          simp only [x0, y0]
          go_simp
        · refine step_plain rfl fun ρ w2 ho hr hd => ?_
          obtain ⟨h0, _⟩ := hd
          have x0 : ρ (.tmp 19) = .pointer (some ⟨g, o + k * 3, none⟩) := h0 rfl
          refine does_value (v := .pointer (some ⟨g, o + k * 3, none⟩)) (w' := w2) ?_ ⟨rfl, Old.refl _⟩
          unfold execOp
          simp only [x0]
          go_simp
        · refine step_plain rfl fun ρ w2 ho hr hd => ?_
          obtain ⟨h0, _⟩ := hd
          have x0 : ρ (.tmp 20) = .pointer (some ⟨g, o + k * 3, none⟩) := h0 rfl
          have q0 := (ho.cell L1.out).trans A0.out
          refine does_value (v := .int .i64 ID) (w' := w2) ?_ ⟨rfl, Old.refl _⟩
          unfold execOp
          simp only [x0]
          go_simp
        · refine step_plain rfl fun ρ w2 ho hr hd => ?_
          have x0 : ρ (.tmp 1) = .slice (some ⟨g', o', none⟩) n d := (hr.1 1 rfl).trans rfl
          exact does_move rfl x0 ⟨rfl, Old.refl _⟩
        · refine step_plain rfl fun ρ w2 ho hr hd => ?_
          have x0 : ρ (.tmp 5) = .int .i64 (k : Int) := (hr.1 5 rfl).trans rfl
          exact does_move rfl x0 ⟨rfl, Old.refl _⟩
        · refine step_plain rfl fun ρ w2 ho hr hd => ?_
          obtain ⟨h0, h1, _⟩ := hd
          have x0 : ρ (.tmp 22) = .slice (some ⟨g', o', none⟩) n d := h0 rfl
          have y0 : ρ (.tmp 23) = .int .i64 (k : Int) := h1 rfl
          refine does_value (v := .pointer (some ⟨g', o' + k * 3, none⟩)) (w' := w2) ?_ ⟨rfl, Old.refl _⟩
          unfold execOp
          simp only [x0, y0]
          go_simp
        · refine step_plain rfl fun ρ w2 ho hr hd => ?_
          obtain ⟨h0, _⟩ := hd
          have x0 : ρ (.tmp 24) = .pointer (some ⟨g', o' + k * 3, none⟩) := h0 rfl
          refine does_value (v := .pointer (some ⟨g', o' + k * 3, none⟩)) (w' := w2) ?_ ⟨rfl, Old.refl _⟩
          unfold execOp
          simp only [x0]
          go_simp
        · refine step_plain rfl fun ρ w2 ho hr hd => ?_
          obtain ⟨h0, _⟩ := hd
          have x0 : ρ (.tmp 25) = .pointer (some ⟨g', o' + k * 3, none⟩) := h0 rfl
          have q0 := (ho.cell L2.out).trans B0.out
          refine does_value (v := .int .i64 ID) (w' := w2) ?_ ⟨rfl, Old.refl _⟩
          unfold execOp
          simp only [x0]
          go_simp
        · refine step_plain rfl fun ρ w2 ho hr hd => ?_
          obtain ⟨h0, h1, _⟩ := hd
          have x0 : ρ (.tmp 21) = .int .i64 ID := h0 rfl
          have y0 : ρ (.tmp 26) = .int .i64 ID := h1 rfl
          refine does_value (v := .bool false) (w' := w2) ?_ ⟨rfl, Old.refl _⟩
          unfold execOp
          simp only [x0, y0]
          go_simp
        · refine step_plain rfl fun ρ w2 ho hr hd => ?_
          obtain ⟨h0, _⟩ := hd
          have x0 : ρ (.tmp 27) = .bool false := h0 rfl
          exact does_move rfl x0 ⟨rfl, Old.refl _⟩
        · refine step_guard rfl fun ρ w2 ho hr hd => ?_
          obtain ⟨h0, _⟩ := hd
          have hgd : ρ (.tmp 28) = .bool false := h0 rfl
          have x0 : ρ (.tmp 0) = .slice (some ⟨g, o, none⟩) n c := (hr.1 0 rfl).trans rfl
          refine ⟨hgd, ?_⟩
          exact does_move rfl x0 ⟨rfl, Old.refl _⟩
        · refine step_guard rfl fun ρ w2 ho hr hd => ?_
          obtain ⟨h0, _⟩ := hd
          have hgd : ρ (.tmp 28) = .bool false := h0 rfl
          have x0 : ρ (.tmp 5) = .int .i64 (k : Int) := (hr.1 5 rfl).trans rfl
          refine ⟨hgd, ?_⟩
          exact does_move rfl x0 ⟨rfl, Old.refl _⟩
        · refine step_guard rfl fun ρ w2 ho hr hd => ?_
          obtain ⟨h0, h1, h2, _⟩ := hd
          have hgd : ρ (.tmp 28) = .bool false := h2 rfl
          have x0 : ρ (.tmp 29) = .slice (some ⟨g, o, none⟩) n c := h0 rfl
          have y0 : ρ (.tmp 30) = .int .i64 (k : Int) := h1 rfl
          refine ⟨hgd, ?_⟩
          refine does_value (v := .pointer (some ⟨g, o + k * 3, none⟩)) (w' := w2) ?_ ⟨rfl, Old.refl _⟩
          unfold execOp
          simp only [x0, y0]
          go_simp
        · refine step_guard rfl fun ρ w2 ho hr hd => ?_
          obtain ⟨h0, h1, _⟩ := hd
          have hgd : ρ (.tmp 28) = .bool false := h1 rfl
          have x0 : ρ (.tmp 31) = .pointer (some ⟨g, o + k * 3, none⟩) := h0 rfl
          refine ⟨hgd, ?_⟩
          refine does_value (v := .pointer (some ⟨g, o + k * 3 + 1, none⟩)) (w' := w2) ?_ ⟨rfl, Old.refl _⟩
          unfold execOp
          simp only [x0]
          go_simp
        · refine step_guard rfl fun ρ w2 ho hr hd => ?_
          obtain ⟨h0, h1, _⟩ := hd
          have hgd : ρ (.tmp 28) = .bool false := h1 rfl
          have x0 : ρ (.tmp 32) = .pointer (some ⟨g, o + k * 3 + 1, none⟩) := h0 rfl
          have q0 := (ho.cell L1.out).trans A1.out
          refine ⟨hgd, ?_⟩
          refine does_value (v := .int .i64 T) (w' := w2) ?_ ⟨rfl, Old.refl _⟩
          unfold execOp
          simp only [x0]
          go_simp
        · refine step_guard rfl fun ρ w2 ho hr hd => ?_
          obtain ⟨h0, _⟩ := hd
          have hgd : ρ (.tmp 28) = .bool false := h0 rfl
          have x0 : ρ (.tmp 1) = .slice (some ⟨g', o', none⟩) n d := (hr.1 1 rfl).trans rfl
          refine ⟨hgd, ?_⟩
          exact does_move rfl x0 ⟨rfl, Old.refl _⟩
        · refine step_guard rfl fun ρ w2 ho hr hd => ?_
          obtain ⟨h0, _⟩ := hd
          have hgd : ρ (.tmp 28) = .bool false := h0 rfl
          have x0 : ρ (.tmp 5) = .int .i64 (k : Int) := (hr.1 5 rfl).trans rfl
          refine ⟨hgd, ?_⟩
          exact does_move rfl x0 ⟨rfl, Old.refl _⟩
        · refine step_guard rfl fun ρ w2 ho hr hd => ?_
          obtain ⟨h0, h1, h2, _⟩ := hd
          have hgd : ρ (.tmp 28) = .bool false := h2 rfl
          have x0 : ρ (.tmp 34) = .slice (some ⟨g', o', none⟩) n d := h0 rfl
          have y0 : ρ (.tmp 35) = .int .i64 (k : Int) := h1 rfl
          refine ⟨hgd, ?_⟩
          refine does_value (v := .pointer (some ⟨g', o' + k * 3, none⟩)) (w' := w2) ?_ ⟨rfl, Old.refl _⟩
          unfold execOp
          simp only [x0, y0]
          go_simp
        · refine step_guard rfl fun ρ w2 ho hr hd => ?_
          obtain ⟨h0, h1, _⟩ := hd
          have hgd : ρ (.tmp 28) = .bool false := h1 rfl
          have x0 : ρ (.tmp 36) = .pointer (some ⟨g', o' + k * 3, none⟩) := h0 rfl
          refine ⟨hgd, ?_⟩
          refine does_value (v := .pointer (some ⟨g', o' + k * 3 + 1, none⟩)) (w' := w2) ?_ ⟨rfl, Old.refl _⟩
          unfold execOp
          simp only [x0]
          go_simp
        · refine step_guard rfl fun ρ w2 ho hr hd => ?_
          obtain ⟨h0, h1, _⟩ := hd
          have hgd : ρ (.tmp 28) = .bool false := h1 rfl
          have x0 : ρ (.tmp 37) = .pointer (some ⟨g', o' + k * 3 + 1, none⟩) := h0 rfl
          have q0 := (ho.cell L2.out).trans B1.out
          refine ⟨hgd, ?_⟩
          refine does_value (v := .int .i64 T) (w' := w2) ?_ ⟨rfl, Old.refl _⟩
          unfold execOp
          simp only [x0]
          go_simp
        · refine step_guard rfl fun ρ w2 ho hr hd => ?_
          obtain ⟨h0, h1, h2, _⟩ := hd
          have hgd : ρ (.tmp 28) = .bool false := h2 rfl
          have x0 : ρ (.tmp 33) = .int .i64 T := h0 rfl
          have y0 : ρ (.tmp 38) = .int .i64 T := h1 rfl
          refine ⟨hgd, ?_⟩
          refine does_value (v := .bool false) (w' := w2) ?_ ⟨rfl, Old.refl _⟩
          unfold execOp
          simp only [x0, y0]
          go_simp
        · refine step_plain rfl fun ρ w2 ho hr hd => ?_
          obtain ⟨h0, h1, _⟩ := hd
          have x0 : ρ (.tmp 28) = .bool false := h0 rfl
          have y0 : ρ (.tmp 39) = .bool false := h1 rfl
          exact does_pick rfl x0 y0 ⟨rfl, Old.refl _⟩
        · refine step_plain rfl fun ρ w2 ho hr hd => ?_
          obtain ⟨h0, h1, _⟩ := hd
          have x0 : ρ (.tmp 40) = .bool false := h0 rfl
          exact does_move rfl x0 ⟨rfl, Old.refl _⟩
        · refine step_guard rfl fun ρ w2 ho hr hd => ?_
          obtain ⟨h0, _⟩ := hd
          have hgd : ρ (.tmp 41) = .bool false := h0 rfl
          have x0 : ρ (.tmp 0) = .slice (some ⟨g, o, none⟩) n c := (hr.1 0 rfl).trans rfl
          refine ⟨hgd, ?_⟩
          exact does_move rfl x0 ⟨rfl, Old.refl _⟩
        · refine step_guard rfl fun ρ w2 ho hr hd => ?_
          obtain ⟨h0, _⟩ := hd
          have hgd : ρ (.tmp 41) = .bool false := h0 rfl
          have x0 : ρ (.tmp 5) = .int .i64 (k : Int) := (hr.1 5 rfl).trans rfl
          refine ⟨hgd, ?_⟩
          exact does_move rfl x0 ⟨rfl, Old.refl _⟩
        · refine step_guard rfl fun ρ w2 ho hr hd => ?_
          obtain ⟨h0, h1, h2, _⟩ := hd
          have hgd : ρ (.tmp 41) = .bool false := h2 rfl
          have x0 : ρ (.tmp 42) = .slice (some ⟨g, o, none⟩) n c := h0 rfl
          have y0 : ρ (.tmp 43) = .int .i64 (k : Int) := h1 rfl
          refine ⟨hgd, ?_⟩
          refine does_value (v := .pointer (some ⟨g, o + k * 3, none⟩)) (w' := w2) ?_ ⟨rfl, Old.refl _⟩
          unfold execOp
          simp only [x0, y0]
          go_simp
        · refine step_guard rfl fun ρ w2 ho hr hd => ?_
          obtain ⟨h0, h1, _⟩ := hd
          have hgd : ρ (.tmp 41) = .bool false := h1 rfl
          have x0 : ρ (.tmp 44) = .pointer (some ⟨g, o + k * 3, none⟩) := h0 rfl
          refine ⟨hgd, ?_⟩
          refine does_value (v := .pointer (some ⟨g, o + k * 3 + 2, none⟩)) (w' := w2) ?_ ⟨rfl, Old.refl _⟩
          unfold execOp
          simp only [x0]
          go_simp
        · refine step_guard rfl fun ρ w2 ho hr hd => ?_
          obtain ⟨h0, h1, _⟩ := hd
          have hgd : ρ (.tmp 41) = .bool false := h1 rfl
          have x0 : ρ (.tmp 45) = .pointer (some ⟨g, o + k * 3 + 2, none⟩) := h0 rfl
          have q0 := (ho.cell L1.out).trans A2.out
          refine ⟨hgd, ?_⟩
          refine does_value (v := .slice ua N uc) (w' := w2) ?_ ⟨rfl, Old.refl _⟩
          unfold execOp
          simp only [x0]
          go_simp
        · refine step_guard rfl fun ρ w2 ho hr hd => ?_
          obtain ⟨h0, _⟩ := hd
          have hgd : ρ (.tmp 41) = .bool false := h0 rfl
          have x0 : ρ (.tmp 1) = .slice (some ⟨g', o', none⟩) n d := (hr.1 1 rfl).trans rfl
          refine ⟨hgd, ?_⟩
          exact does_move rfl x0 ⟨rfl, Old.refl _⟩
        · refine step_guard rfl fun ρ w2 ho hr hd => ?_
          obtain ⟨h0, _⟩ := hd
          have hgd : ρ (.tmp 41) = .bool false := h0 rfl
          have x0 : ρ (.tmp 5) = .int .i64 (k : Int) := (hr.1 5 rfl).trans rfl
          refine ⟨hgd, ?_⟩
          exact does_move rfl x0 ⟨rfl, Old.refl _⟩
        · refine step_guard rfl fun ρ w2 ho hr hd => ?_
          obtain ⟨h0, h1, h2, _⟩ := hd
          have hgd : ρ (.tmp 41) = .bool false := h2 rfl
          have x0 : ρ (.tmp 47) = .slice (some ⟨g', o', none⟩) n d := h0 rfl
          have y0 : ρ (.tmp 48) = .int .i64 (k : Int) := h1 rfl
          refine ⟨hgd, ?_⟩
          refine does_value (v := .pointer (some ⟨g', o' + k * 3, none⟩)) (w' := w2) ?_ ⟨rfl, Old.refl _⟩
          unfold execOp
          simp only [x0, y0]
          go_simp
        · refine step_guard rfl fun ρ w2 ho hr hd => ?_
          obtain ⟨h0, h1, _⟩ := hd
          have hgd : ρ (.tmp 41) = .bool false := h1 rfl
          have x0 : ρ (.tmp 49) = .pointer (some ⟨g', o' + k * 3, none⟩) := h0 rfl
          refine ⟨hgd, ?_⟩
          refine does_value (v := .pointer (some ⟨g', o' + k * 3 + 2, none⟩)) (w' := w2) ?_ ⟨rfl, Old.refl _⟩
          unfold execOp
          simp only [x0]
          go_simp
        · refine step_guard rfl fun ρ w2 ho hr hd => ?_
          obtain ⟨h0, h1, _⟩ := hd
          have hgd : ρ (.tmp 41) = .bool false := h1 rfl
          have x0 : ρ (.tmp 50) = .pointer (some ⟨g', o' + k * 3 + 2, none⟩) := h0 rfl
          have q0 := (ho.cell L2.out).trans B2.out
          refine ⟨hgd, ?_⟩
          refine does_value (v := .slice va N vc) (w' := w2) ?_ ⟨rfl, Old.refl _⟩
          unfold execOp
          simp only [x0]
          go_simp
        · refine step_guard rfl fun ρ w2 ho hr hd => ?_
          obtain ⟨h0, h1, h2, h3, _⟩ := hd
          have hgd : ρ (.tmp 41) = .bool false := h3 rfl
          have x0 : ρ (.tmp 46) = .slice ua N uc := h0 rfl
          have x1 : ρ (.tmp 51) = .slice va N vc := h1 rfl
          refine ⟨hgd, ?_⟩
          exact does_call2 rfl (hr.2.2.2 _) x0 x1 rfl ((rself_any l _ _ w2 (VA.out.old ho) (VB.out.old ho)).mono fun e w' h => ⟨_, h.1, rfl, h.2⟩)
        · refine step_guard rfl fun ρ w2 ho hr hd => ?_
          obtain ⟨h0, h1, _⟩ := hd
          have hgd : ρ (.tmp 41) = .bool false := h1 rfl
          have x0 : ρ (.tmp 52) = .bool true := h0 rfl
          refine ⟨hgd, ?_⟩
          refine does_value (v := .bool false) (w' := w2) ?_ ⟨rfl, Old.refl _⟩
          unfold execOp
          simp only [x0]
          go_simp
        · refine step_plain rfl fun ρ w2 ho hr hd => ?_
          obtain ⟨h0, h1, _⟩ := hd
          have x0 : ρ (.tmp 41) = .bool false := h0 rfl
          have y0 : ρ (.tmp 53) = .bool false := h1 rfl
          exact does_pick rfl x0 y0 ⟨rfl, Old.refl _⟩
      · intro a' w' hoE hst hl
        obtain ⟨_, _, _, _, _, _, _, _, _, _, _, _, _, _, _, _, _, _, _, _, _, _, _, _, _, _, _, _, _, _, _, _, _, _, _, _, _, k37, _⟩ := hl
        have e37 : a'.eval (.tmp 54) = .bool false := k37
        rw [act_fresh hst [false, false, false, false, false, false, false, false, false, false, false, false, false, false, false, false, false, true, true, true, true, true, true, true, true, true, true, true, true, true, true, true, true, true, true, true, true, true, true, true, true, true, true, true, true, true, true, true, true, true, true, true, true, true, true] (by kernel_rfl) (by kernel_rfl)]
        simp only [fresh, e37]
        clear hst k37 e37
        have HO2 := Lib.hid (HO.out.trans hoE)
        go_wp2
        exact ⟨⟨k + 1, HK.out, by first | rfl | simp, HO2⟩, by simp only [intOf]; omega⟩
    · have hkn' : k = n := by omega
      subst hkn'
      go_wp2
      go_ret
      exact ⟨rfl, HO.out⟩

end Go.Proofs.Ytfhbnkdibhmmcaa
