/- Layer lexer: two rows of words that are the same. -/
import Derived.Test.YtclpimcejdeloaaGreatDoorTW
namespace Go.Proofs.YtclpimcejdeloaaGreatDoor
open Go.ChangeShapes Go.WideShapes Go.ChangeAt Go.RowKit Go.Lib
set_option linter.unusedVariables false
set_option linter.unusedSimpArgs false
set_option maxRecDepth 100000

theorem tcells_at : ∀ {l : List Tk} {i : Nat} {x : Tk}, l[i]? = some x → (tcells l)[i * 7]? = some (.int .u8 x.k) ∧ (tcells l)[i * 7 + 1]? = some (.string (st x.t)) ∧ (tcells l)[i * 7 + 2]? = some (.int .u8 x.vk) ∧ (tcells l)[i * 7 + 3]? = some (.int .i64 x.vn) ∧ (tcells l)[i * 7 + 4]? = some (.string (st x.vs)) ∧ (tcells l)[i * 7 + 5]? = some (.int .i64 x.ln) ∧ (tcells l)[i * 7 + 6]? = some (.int .i64 x.cl)
  | [], i, x, h => by simp at h
  | y :: l, 0, x, h => by cases h; exact ⟨rfl, rfl, rfl, rfl, rfl, rfl, rfl⟩
  | y :: l, i + 1, x, h => by
    have ih := tcells_at (l := l) (i := i) (x := x) (by simpa using h)
    rw [show (i + 1) * 7 = i * 7 + 1 + 1 + 1 + 1 + 1 + 1 + 1 by omega]
    exact ih
/-- A slice that reads as these words. -/
def Rw (w : World) (v : Value) (A : List Tk) : Prop :=
  ∃ oa cap, v = .slice oa A.length cap ∧ A.length ≤ cap ∧ cap ≤ maxLen ∧ ∀ i x, A[i]? = some x → ∃ g, oa = some ⟨g, 0, none⟩ ∧ g < w.heap.size ∧ w.heap[g]?.isSome = true ∧ w.cell? ⟨g, i * 7, none⟩ = some (.int .u8 x.k) ∧ w.cell? ⟨g, i * 7 + 1, none⟩ = some (.string (st x.t)) ∧ w.cell? ⟨g, i * 7 + 2, none⟩ = some (.int .u8 x.vk) ∧
    w.cell? ⟨g, i * 7 + 3, none⟩ = some (.int .i64 x.vn) ∧ w.cell? ⟨g, i * 7 + 4, none⟩ = some (.string (st x.vs)) ∧ w.cell? ⟨g, i * 7 + 5, none⟩ = some (.int .i64 x.ln) ∧ w.cell? ⟨g, i * 7 + 6, none⟩ = some (.int .i64 x.cl)
theorem Rw.old {w w' : World} {v : Value} {A : List Tk} (h : Rw w v A) (ho : Old w w') : Rw w' v A := by
  obtain ⟨oa, cap, h1, h2, h3, h4⟩ := h
  refine ⟨oa, cap, h1, h2, h3, fun i x hx => ?_⟩
  obtain ⟨g, e, hg, hs, a0, a1, a2, a3, a4, a5, a6⟩ := h4 i x hx
  exact ⟨g, e, Nat.lt_of_lt_of_le hg ho.size, by rw [ho.block g hg]; exact hs, (ho.cell hg).trans a0, (ho.cell hg).trans a1, (ho.cell hg).trans a2, (ho.cell hg).trans a3, (ho.cell hg).trans a4, (ho.cell hg).trans a5, (ho.cell hg).trans a6⟩
theorem Rw.of_row {w : World} {base : Nat} {oa : Option Addr} {cap : Nat} {A : List Tk} (h : w.ownsRow base 33 7 (.slice oa A.length cap) A.length (tcells A)) : Rw w (.slice oa A.length cap) A := by
  rcases Nat.eq_zero_or_pos A.length with h0 | h0
  · have hA : A = [] := List.eq_nil_of_length_eq_zero h0
    subst hA
    refine ⟨oa, cap, rfl, Nat.zero_le _, ?_, fun i x hx => by simp at hx⟩
    rcases h.2 with ⟨h1, _⟩ | ⟨g, cap', cur, h1, _, _, _, hm, _⟩
    · injection h1 with h1 h2 h3
      rw [h3]
      exact Nat.zero_le _
    · injection h1 with h1 h2 h3
      rw [h3]
      exact hm
  · obtain ⟨g, rfl, hg, h1, h2, ⟨cur, hc⟩, h4⟩ := row_cells h h0
    refine ⟨_, cap, rfl, h1, h2, fun i x hx => ?_⟩
    obtain ⟨a0, a1, a2, a3, a4, a5, a6⟩ := tcells_at hx
    exact ⟨g, rfl, hg, by rw [hc]; rfl, h4 _ _ a0, h4 _ _ a1, h4 _ _ a2, h4 _ _ a3, h4 _ _ a4, h4 _ _ a5, h4 _ _ a6⟩

set_option maxHeartbeats 1600000 in
theorem same_true (w : World) (va vb : Value) (A B : List Tk) (bare : Bool) (ha : Rw w va A) (hb : Rw w vb B) (hl : A.length ≤ 200000) (hAB : if bare then A.map Tk.bare = B.map Tk.bare else A = B) :
    Calls Tryz.prog 10 #[va, vb, .bool bare] w fun e w' => e = .returned (.bool true) ∧ Old w w' := by
  have hlen : B.length = A.length := by
    cases bare with
    | true => have := congrArg List.length hAB; simpa using this.symm
    | false => have := congrArg List.length hAB; simpa using this.symm
  have HA := Lib.hid ha
  have HB := Lib.hid hb
  have HAB := Lib.hid hAB
  obtain ⟨oa, ca, rfl, a1, a2, _⟩ := ha
  obtain ⟨ob, cb, rfl, b1, b2, _⟩ := hb
  rw [hlen] at HB b1 ⊢
  obtain ⟨n, hn⟩ : ∃ n, n = A.length := ⟨_, rfl⟩
  have HL := Lib.hid hlen
  rw [← hn] at HA HB hl a1 b1 ⊢
  have HN := Lib.hid hn
  have HO := Lib.hid (Old.refl w)
  unfold maxLen at a2 b2
  clear hAB hlen hn
  go_enter Tryz.func10, Tryz.ntmps10
  go_wp2
  go_loopw [7] (fun i wr => ∃ k : Nat, k ≤ n ∧ i = .int .i64 (k : Int) ∧ Hid (Old w wr)) (fun i _ => (n - RowKit.intOf i).toNat)
  case atStart => exact ⟨0, Nat.zero_le _, rfl, HO⟩
  case round =>
    clear HO
    obtain ⟨k, hk, rfl, HO⟩ := hrel
    rcases Nat.lt_or_ge k n with hkn | hkn
    · obtain ⟨x, hx⟩ : ∃ x, A[k]? = some x := ⟨_, List.getElem?_eq_getElem (by rw [← HN.out]; exact hkn)⟩
      obtain ⟨y, hy⟩ : ∃ y, B[k]? = some y := ⟨_, List.getElem?_eq_getElem (by rw [HL.out, ← HN.out]; exact hkn)⟩
      have hxy : if bare then x.bare = y.bare else x = y := by
        have h := HAB.out
        cases bare with
        | true =>
          have h1 : (A.map Tk.bare)[k]? = (B.map Tk.bare)[k]? := by rw [show A.map Tk.bare = B.map Tk.bare from h]
          rw [List.getElem?_map, List.getElem?_map, hx, hy] at h1
          injection h1
        | false =>
          have h1 : A[k]? = B[k]? := by rw [show A = B from h]
          rw [hx, hy] at h1
          injection h1
      obtain ⟨oa', ca', e1, _, _, h4⟩ := HA.out.old HO.out
      injection e1 with e1 z1 z2
      clear z1 z2
      subst e1
      obtain ⟨ga, rfl, lga, _, c0, c1, c2, c3, c4, c5, c6⟩ := h4 k x hx
      obtain ⟨ob', cb', e2, _, _, h5⟩ := HB.out.old HO.out
      injection e2 with e2 z1 z2
      clear z1 z2
      subst e2
      obtain ⟨gb, rfl, lgb, _, d0, d1, d2, d3, d4, d5, d6⟩ := h5 k y hy
      obtain ⟨xk, xt, xa, xb, xc, xl, xm⟩ := x
      obtain ⟨yk, yt, ya, yb, yc, yl, ym⟩ := y
      have hf : xk = yk ∧ xt = yt ∧ xa = ya ∧ xb = yb ∧ xc = yc ∧ (bare = false → xl = yl ∧ xm = ym) := by
        cases bare with
        | true =>
          unfold Tk.bare at hxy
          simp only [if_true, Tk.mk.injEq] at hxy
          exact ⟨hxy.1, hxy.2.1, hxy.2.2.1, hxy.2.2.2.1, hxy.2.2.2.2.1, fun h => by cases h⟩
        | false =>
          simp only [Bool.false_eq_true, if_false, Tk.mk.injEq] at hxy
          exact ⟨hxy.1, hxy.2.1, hxy.2.2.1, hxy.2.2.2.1, hxy.2.2.2.2.1, fun _ => ⟨hxy.2.2.2.2.2.1, hxy.2.2.2.2.2.2⟩⟩
      obtain ⟨e1, e2, e3, e4, e5, hpl⟩ := hf
      subst e1 e2 e3 e4 e5
      have HPL := Lib.hid hpl
      simp only at c0 c1 c2 c3 c4 c5 c6 d0 d1 d2 d3 d4 d5 d6
      have na : wr.heap.size ≠ ga := Nat.ne_of_gt lga
      have nb : wr.heap.size ≠ gb := Nat.ne_of_gt lgb
      have na2 : wr.heap.size + 1 ≠ ga := by omega
      have nb2 : wr.heap.size + 1 ≠ gb := by omega
      clear hx hy hxy h4 h5 hpl lga lgb
      go_wp2
      go_region_held3 (fun w' => w'.cell? ⟨ga, k * 7, none⟩ = some (.int .u8 xk) ∧ w'.cell? ⟨ga, k * 7 + 1, none⟩ = some (.string (st xt)) ∧ w'.cell? ⟨ga, k * 7 + 2, none⟩ = some (.int .u8 xa) ∧ w'.cell? ⟨ga, k * 7 + 3, none⟩ = some (.int .i64 xb) ∧ w'.cell? ⟨ga, k * 7 + 4, none⟩ = some (.string (st xc)) ∧ w'.cell? ⟨ga, k * 7 + 5, none⟩ = some (.int .i64 xl) ∧ w'.cell? ⟨ga, k * 7 + 6, none⟩ = some (.int .i64 xm) ∧ w'.cell? ⟨gb, k * 7, none⟩ = some (.int .u8 xk) ∧ w'.cell? ⟨gb, k * 7 + 1, none⟩ = some (.string (st xt)) ∧ w'.cell? ⟨gb, k * 7 + 2, none⟩ = some (.int .u8 xa) ∧ w'.cell? ⟨gb, k * 7 + 3, none⟩ = some (.int .i64 xb) ∧ w'.cell? ⟨gb, k * 7 + 4, none⟩ = some (.string (st xc)) ∧ w'.cell? ⟨gb, k * 7 + 5, none⟩ = some (.int .i64 yl) ∧ w'.cell? ⟨gb, k * 7 + 6, none⟩ = some (.int .i64 ym))
        (first | with_reducible exact ⟨c0, c1, c2, c3, c4, c5, c6, d0, d1, d2, d3, d4, d5, d6⟩ | go_keep)
        (fail)
      · have hs0 : (wr.alloc (.cells #[.int .u8 xk, .string (st xt), .int .u8 xa, .int .i64 xb, .string (st xc), .int .i64 xl, .int .i64 xm] 33)).heap.size = wr.heap.size + 1 := sz_alloc _ _
        have hP := Sv.drew (Sv.old (Sv.new wr (x0 := .int .u8 xk) (x1 := .string (st xt)) (x2 := .int .u8 xa) (x3 := .int .i64 xb) (x4 := .string (st xc)) (x5 := .int .i64 xl) (x6 := .int .i64 xm)) ((Old.refl _).alloc (.cells #[.int .u8 xk, .string (st xt), .int .u8 xa, .int .i64 xb, .string (st xc), .int .i64 yl, .int .i64 ym] 33)))
        have hQ := Sv.drew (Sv.new (wr.alloc (.cells #[.int .u8 xk, .string (st xt), .int .u8 xa, .int .i64 xb, .string (st xc), .int .i64 xl, .int .i64 xm] 33)) (x0 := .int .u8 xk) (x1 := .string (st xt)) (x2 := .int .u8 xa) (x3 := .int .i64 xb) (x4 := .string (st xc)) (x5 := .int .i64 yl) (x6 := .int .i64 ym))
        rw [hs0] at hQ
        have hW := ((HO.out.alloc (.cells #[.int .u8 xk, .string (st xt), .int .u8 xa, .int .i64 xb, .string (st xc), .int .i64 xl, .int .i64 xm] 33)).alloc (.cells #[.int .u8 xk, .string (st xt), .int .u8 xa, .int .i64 xb, .string (st xc), .int .i64 yl, .int .i64 ym] 33)).drew
        have HWS := Lib.hid HO.out.size
        generalize (World.drew (World.alloc (World.alloc wr (.cells #[.int .u8 xk, .string (st xt), .int .u8 xa, .int .i64 xb, .string (st xc), .int .i64 xl, .int .i64 xm] 33)) (.cells #[.int .u8 xk, .string (st xt), .int .u8 xa, .int .i64 xb, .string (st xc), .int .i64 yl, .int .i64 ym] 33))) = W7 at hP hQ hW ⊢
        have HW := Lib.hid hW
        have np : wr.heap.size ≠ wr.heap.size + 1 := by omega
        have nq : wr.heap.size + 1 ≠ wr.heap.size := by omega
        have HQS := Lib.hid (show w.heap.size ≤ wr.heap.size + 1 from Nat.le_succ_of_le HO.out.size)
        generalize wr.heap.size + 1 = q at hQ np nq HQS ⊢
        have r0 := hP.c 0
        have r1 := hP.c 1
        have r2 := hP.c 2
        have r3 := hP.c 3
        have r4 := hP.c 4
        have r5 := hP.c 5
        have r6 := hP.c 6
        have s0 := hP.f 0
        have s1 := hP.f 1
        have s2 := hP.f 2
        have s3 := hP.f 3
        have s4 := hP.f 4
        have s5 := hP.f 5
        have s6 := hP.f 6
        have u0 := hQ.c 0
        have u1 := hQ.c 1
        have u2 := hQ.c 2
        have u3 := hQ.c 3
        have u4 := hQ.c 4
        have u5 := hQ.c 5
        have u6 := hQ.c 6
        have v0 := hQ.f 0
        have v1 := hQ.f 1
        have v2 := hQ.f 2
        have v3 := hQ.f 3
        have v4 := hQ.f 4
        have v5 := hQ.f 5
        have v6 := hQ.f 6
        clear hP hQ hW hs0 c0 c1 c2 c3 c4 c5 c6 d0 d1 d2 d3 d4 d5 d6 na nb na2 nb2
        cases bare with
        | false =>
          obtain ⟨e1, e2⟩ := HPL.out rfl
          subst e1 e2
          go_wp2
          refine ⟨⟨k + 1, hkn, by simp, HW⟩, by simp only [RowKit.intOf]; omega⟩
        | true =>
          go_wp2
          refine ⟨⟨k + 1, hkn, by simp, Lib.hid ((((HW.out.setCell (p := ⟨wr.heap.size, 5, none⟩) HWS.out _).setCell (p := ⟨wr.heap.size, 6, none⟩) HWS.out _).setCell (p := ⟨q, 5, none⟩) HQS.out _).setCell (p := ⟨q, 6, none⟩) HQS.out _)⟩, by simp only [RowKit.intOf]; omega⟩
      · have hs0 : (wr.alloc (.cells #[.int .u8 xk, .string (st xt), .int .u8 xa, .int .i64 xb, .string (st xc), .int .i64 yl, .int .i64 ym] 33)).heap.size = wr.heap.size + 1 := sz_alloc _ _
        have hP := Sv.drew (Sv.old (Sv.new wr (x0 := .int .u8 xk) (x1 := .string (st xt)) (x2 := .int .u8 xa) (x3 := .int .i64 xb) (x4 := .string (st xc)) (x5 := .int .i64 yl) (x6 := .int .i64 ym)) ((Old.refl _).alloc (.cells #[.int .u8 xk, .string (st xt), .int .u8 xa, .int .i64 xb, .string (st xc), .int .i64 xl, .int .i64 xm] 33)))
        have hQ := Sv.drew (Sv.new (wr.alloc (.cells #[.int .u8 xk, .string (st xt), .int .u8 xa, .int .i64 xb, .string (st xc), .int .i64 yl, .int .i64 ym] 33)) (x0 := .int .u8 xk) (x1 := .string (st xt)) (x2 := .int .u8 xa) (x3 := .int .i64 xb) (x4 := .string (st xc)) (x5 := .int .i64 xl) (x6 := .int .i64 xm))
        rw [hs0] at hQ
        have hW := ((HO.out.alloc (.cells #[.int .u8 xk, .string (st xt), .int .u8 xa, .int .i64 xb, .string (st xc), .int .i64 yl, .int .i64 ym] 33)).alloc (.cells #[.int .u8 xk, .string (st xt), .int .u8 xa, .int .i64 xb, .string (st xc), .int .i64 xl, .int .i64 xm] 33)).drew
        have HWS := Lib.hid HO.out.size
        generalize (World.drew (World.alloc (World.alloc wr (.cells #[.int .u8 xk, .string (st xt), .int .u8 xa, .int .i64 xb, .string (st xc), .int .i64 yl, .int .i64 ym] 33)) (.cells #[.int .u8 xk, .string (st xt), .int .u8 xa, .int .i64 xb, .string (st xc), .int .i64 xl, .int .i64 xm] 33))) = W7 at hP hQ hW ⊢
        have HW := Lib.hid hW
        have np : wr.heap.size ≠ wr.heap.size + 1 := by omega
        have nq : wr.heap.size + 1 ≠ wr.heap.size := by omega
        have HQS := Lib.hid (show w.heap.size ≤ wr.heap.size + 1 from Nat.le_succ_of_le HO.out.size)
        generalize wr.heap.size + 1 = q at hQ np nq HQS ⊢
        have r0 := hP.c 0
        have r1 := hP.c 1
        have r2 := hP.c 2
        have r3 := hP.c 3
        have r4 := hP.c 4
        have r5 := hP.c 5
        have r6 := hP.c 6
        have s0 := hP.f 0
        have s1 := hP.f 1
        have s2 := hP.f 2
        have s3 := hP.f 3
        have s4 := hP.f 4
        have s5 := hP.f 5
        have s6 := hP.f 6
        have u0 := hQ.c 0
        have u1 := hQ.c 1
        have u2 := hQ.c 2
        have u3 := hQ.c 3
        have u4 := hQ.c 4
        have u5 := hQ.c 5
        have u6 := hQ.c 6
        have v0 := hQ.f 0
        have v1 := hQ.f 1
        have v2 := hQ.f 2
        have v3 := hQ.f 3
        have v4 := hQ.f 4
        have v5 := hQ.f 5
        have v6 := hQ.f 6
        clear hP hQ hW hs0 c0 c1 c2 c3 c4 c5 c6 d0 d1 d2 d3 d4 d5 d6 na nb na2 nb2
        cases bare with
        | false =>
          obtain ⟨e1, e2⟩ := HPL.out rfl
          subst e1 e2
          go_wp2
          refine ⟨⟨k + 1, hkn, by simp, HW⟩, by simp only [RowKit.intOf]; omega⟩
        | true =>
          go_wp2
          refine ⟨⟨k + 1, hkn, by simp, Lib.hid ((((HW.out.setCell (p := ⟨q, 5, none⟩) HQS.out _).setCell (p := ⟨q, 6, none⟩) HQS.out _).setCell (p := ⟨wr.heap.size, 5, none⟩) HWS.out _).setCell (p := ⟨wr.heap.size, 6, none⟩) HWS.out _)⟩, by simp only [RowKit.intOf]; omega⟩
    · go_wp2
      go_ret
      exact ⟨rfl, HO.out⟩
end Go.Proofs.YtclpimcejdeloaaGreatDoor
