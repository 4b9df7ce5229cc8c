/- Layer expr: shapes of trees: what is known of a tree that is read; where runs begin, as it is laid down. Layer expr: shapes of trees (the law's walk). -/
import Derived.Test.YtgmjpcaennmgoaaGreatDoorKG
import Derived.Test.YtgmjpcaennmgoaaGreatDoorKA
namespace Go.Proofs.YtgmjpcaennmgoaaGreatDoor
open Go.ChangeShapes Go.WideShapes Go.ChangeAt Go.RowKit Go.Lib
set_option linter.unusedVariables false
set_option linter.unusedSimpArgs false
set_option maxRecDepth 100000

/-- A tree that is read. -/
theorem readP_good {l : List UInt8} (hl : l.length ≤ 60000) {T : List Nd} {ln cl : Int} (h : readP l = (T, ln, cl, 0)) : ln = 0 ∧ cl = 0 ∧ T.length ≤ 60 ∧ Tr T ∧ AllOk T ∧ (lexR l).2.1 = 0 ∧ parseX (lexR l).1 = .ok T [] := by
  unfold readP at h
  split at h
  · rename_i hE
    rw [Prod.mk.injEq, Prod.mk.injEq, Prod.mk.injEq] at h
    exact absurd h.2.2.2 hE
  rename_i hE
  have hE : (lexR l).2.1 = 0 := by simpa using hE
  have hin := parseX_in (lexR l).1
  have hfit := parseX_fit (lexR l).1
  have hw : Wds l 1 1 (lexR l).1 0 (lexR l).2.2.1 (lexR l).2.2.2 := by
    have e : lexR l = lexL l := by
      unfold lexR at hE ⊢
      split at hE
      · rename_i h0
        rw [if_pos h0]
      · rename_i h0
        exact absurd hE h0
    rw [e] at hE ⊢
    rw [← hE]
    exact wds_of rfl
  have hf := hw.fine 1000000 (Nat.le_refl _) (Nat.le_refl _) (by omega) (by omega)
  cases hP : parseX (lexR l).1 with
  | out => exact absurd hP hin
  | no er r =>
    rw [hP] at h hfit
    simp only [Prod.mk.injEq] at h
    rcases hfit with e | e | e <;> rw [e] at h <;> exact absurd h.2.2.2 (by decide)
  | ok ns r =>
    rw [hP] at h
    simp only at h
    split at h
    · simp only [Prod.mk.injEq] at h
      exact absurd h.2.2.2 (by decide)
    rename_i h60
    split at h
    · simp only [Prod.mk.injEq] at h
      exact absurd h.2.2.2 (by decide)
    rename_i hr
    simp only [Prod.mk.injEq] at h
    obtain ⟨rfl, rfl, rfl, _⟩ := h
    have hr : r = [] := by simpa using hr
    subst hr
    obtain ⟨t1, t2, _⟩ := sound (fuelOf (lexR l).1) (.lvl 0) 0 _ _ _ hP (fun x hx => (hf x hx).toWdOk) trivial
    exact ⟨rfl, rfl, by omega, t1, t2, hE, rfl⟩
/-- Where runs begin, laid down so far. -/
def Fb (w : World) (g N i : Nat) (F : List Nat) : Prop := ∃ cur : Array Value, w.heap[g]? = some (.cells cur 3 (0, 0)) ∧ cur.size = N ∧ ∀ j e, j < i → F[j]? = some e → cur[j]? = some (.int .i64 (e : Int))
section
variable {w w' : World} {g N i : Nat} {F : List Nat}
theorem Fb.at (h : Fb w g N i F) {j e : Nat} (hj : j < i) (he : F[j]? = some e) : w.cell? ⟨g, j, none⟩ = some (.int .i64 (e : Int)) := by
  obtain ⟨cur, h1, h2, h3⟩ := h
  simp [World.cell?, h1, h3 j e hj he]
theorem Fb.cell (h : Fb w g N i F) (hi : i < N) : ∃ v, w.cell? ⟨g, i, none⟩ = some v := by
  obtain ⟨cur, h1, h2, h3⟩ := h
  exact ⟨cur[i]'(by omega), by simp [World.cell?, h1, Array.getElem?_eq_getElem (show i < cur.size by omega)]⟩
theorem Fb.f (h : Fb w g N i F) (j : Nat) : w.frozen? ⟨g, j, none⟩ = false := by
  obtain ⟨cur, h1, h2, h3⟩ := h
  simp [World.frozen?, h1]
theorem Fb.old (h : Fb w g N i F) (ho : Old w w') : Fb w' g N i F := by
  obtain ⟨cur, h1, h2⟩ := h
  exact ⟨cur, (ho.block g (blk_lt h1)).trans h1, h2⟩
theorem Fb.set (h : Fb w g N i F) (hi : i < N) (f : Int) : Fb (w.setCell ⟨g, i, none⟩ (.int .i64 f)) g N i F ∧ (w.setCell ⟨g, i, none⟩ (.int .i64 f)).cell? ⟨g, i, none⟩ = some (.int .i64 f) := by
  obtain ⟨cur, h1, h2, h3⟩ := h
  have hh : (w.setCell ⟨g, i, none⟩ (.int .i64 f)).heap[g]? = some (.cells (cur.setIfInBounds i (.int .i64 f)) 3 (0, 0)) := by
    show (w.heap.modify g _)[g]? = _
    rw [Array.getElem?_modify, if_pos rfl, h1]
    simp
  refine ⟨⟨_, hh, by simp [h2], fun j e hj he => ?_⟩, ?_⟩
  · rw [Array.getElem?_setIfInBounds, if_neg (by omega)]
    exact h3 j e hj he
  · simp [World.cell?, hh, h2, hi]
theorem Fb.next (h : Fb w g N i F) {e : Nat} (hc : w.cell? ⟨g, i, none⟩ = some (.int .i64 (e : Int))) (he : F[i]? = some e) : Fb w g N (i + 1) F := by
  obtain ⟨cur, h1, h2, h3⟩ := h
  refine ⟨cur, h1, h2, fun j e' hj he' => ?_⟩
  rcases Nat.lt_or_ge j i with hlt | hge
  · exact h3 j e' hlt he'
  · obtain rfl : j = i := by omega
    rw [he] at he'
    injection he' with he'
    subst he'
    have := hc
    simp only [World.cell?, h1] at this
    simpa using this
end
/-- A node by itself. -/
def Nb (w : World) (p : Nat) (x : Nd) (kv : Value) : Prop := w.heap[p]? = some (.cells #[.int .u8 x.op, .int .u8 x.vk, .int .i64 x.vn, .string (st x.vs), .string (st x.nm), kv, .int .i64 x.ln, .int .i64 x.cl] 37 (0, 0))
section
variable {w w' : World} {p : Nat} {x : Nd} {kv : Value}
theorem Nb.c (h : Nb w p x kv) (k : Nat) : w.cell? ⟨p, k, none⟩ = #[.int .u8 x.op, .int .u8 x.vk, .int .i64 x.vn, .string (st x.vs), .string (st x.nm), kv, .int .i64 x.ln, .int .i64 x.cl][k]? := by unfold Nb at h; simp [World.cell?, h]
theorem Nb.c5 (h : Nb w p x kv) : w.cell? ⟨p, 5, none⟩ = some kv := h.c 5
theorem Nb.set (h : Nb w p x kv) {g j : Nat} (hg : g ≠ p) (u : Value) : Nb (w.setCell ⟨g, j, none⟩ u) p x kv := (far_heap hg).trans h
end
theorem info37z (W : World) (n : Nat) (hn : n ≤ 1000) : (Instr.makeSlice 33 (.int .i64 (n : Int)) (.int .i64 (n : Int))).run Tryz.prog W = .ok (.slice (some ⟨W.heap.size, 0, none⟩) n n) (W.alloc (.cells (madeCells #[.int .i64 0] n) 3)) := by
  obtain ⟨i, hi, hz, hs, hb⟩ := info_parts info3
  have h := run_make (P := Tryz.prog) W 33 3 i (.int .i64 0) Tryz.underlying33 hi hz .i64 .i64 (n : Int) (n : Int) (by omega) (Int.le_refl _) (by rw [hb]; omega) (by omega)
  rw [h, hs, Int.toNat_natCast, Nat.mul_one]
  rfl
theorem fb_new (W : World) (n : Nat) (F : List Nat) : Fb (W.alloc (.cells (madeCells #[.int .i64 0] n) 3)) W.heap.size n 0 F := ⟨_, (MapKept.heap_alloc W _).1, size_madeCells _ _, fun j e hj => absurd hj (Nat.not_lt_zero _)⟩
end Go.Proofs.YtgmjpcaennmgoaaGreatDoor
namespace Go.Proofs.YtgmjpcaennmgoaaGreatDoor
open Go.ChangeShapes Go.WideShapes Go.ChangeAt Go.RowKit Go.Lib
set_option linter.unusedVariables false
set_option linter.unusedSimpArgs false
set_option maxRecDepth 100000

/-- Between two expressions of a node. -/
structure In (W0 : World) (g N k : Nat) (F : List Nat) (p : Nat) (x : Nd) (kv : Value) (ds : List Nat) (e j f : Nat) (wr : World) : Prop where
  old : Old W0 wr
  fb : Fb wr g N k F
  fc : wr.cell? ⟨g, k, none⟩ = some (.int .i64 (f : Int))
  fk : f ≤ k
  nb : Nb wr p x kv
  wk : wlk F k (ds.drop j) f e
set_option maxHeartbeats 6400000 in
theorem shapes_good (s : ByteArray) (w : World) (he : Env w) (hs : s.size ≤ 500) {T : List Nd} (hR : readP s.data.toList = (T, 0, 0, 0)) : Calls Tryz.prog 5 #[.string s] w fun e w' => e = .returned (.bool true) ∧ Old w w' := by
  have hz : s.data.toList.length = s.size := Array.length_toList
  obtain ⟨_, _, hT60, hTr, hAll, _, _⟩ := readP_good (by omega) hR
  obtain ⟨F, hFl, hF0, hF⟩ := tree_firsts hTr
  have hpos := hTr.pos
  obtain ⟨N, hN⟩ : ∃ N, T.length = N + 1 := ⟨T.length - 1, by omega⟩
  have hk8 := fun W (h : Old w W) => read_tw s W (by omega) (he.old h) hR
  rw [hN] at hk8 hT60 hF0
  rw [Nat.add_sub_cancel] at hF0
  have HK8 := Lib.hid hk8
  have HKN := Lib.hid (fun W (h : Old w W) => known_ok W (he.old h))
  have hmk : ∀ W, (Instr.makeSlice 33 (.int .i64 ((N : Int) + 1)) (.int .i64 ((N : Int) + 1))).run Tryz.prog W = .ok (.slice (some ⟨W.heap.size, 0, none⟩) (N + 1) (N + 1)) (W.alloc (.cells (madeCells #[.int .i64 0] (N + 1)) 3)) := fun W => info37z W (N + 1) (by omega)
  have HF := Lib.hid hF
  have HF0 := Lib.hid hF0
  have HAL := Lib.hid hAll
  have HN := Lib.hid hN
  have hN60 : N ≤ 60 := by omega
  have HO := Lib.hid (Old.refl w)
  have hs5 : ¬ 500 < (s.size : Int) := by omega
  clear hz hTr hFl hF0 hF hpos hk8 hN he hR hAll hT60
  go_enter Tryz.func5, Tryz.ntmps5
  go_wp2_with (go_at_call 8; (with_reducible refine (HK8.out _ HO.out).mono ?_); rintro e w1 ⟨oa, cap, rfl, t1, o1⟩; have TW := Lib.hid (t1.out.old ((Old.refl w1).alloc (.cells #[.int .i64 0, .int .i64 0] 26))); replace HO := Lib.hid ((HO.out.trans o1).trans ((Old.refl w1).alloc (.cells #[.int .i64 0, .int .i64 0] 26))); clear t1 o1)
  have hg : (w1.alloc (.cells #[.int .i64 0, .int .i64 0] 26)).heap.size = w1.heap.size + 1 := sz_alloc _ _
  have hfb := fb_new (w1.alloc (.cells #[.int .i64 0, .int .i64 0] 26)) (N + 1) F
  rw [hg] at hfb
  generalize w1.alloc (.cells #[.int .i64 0, .int .i64 0] 26) = W0 at *
  have FB := Lib.hid hfb
  have HG := Lib.hid hg
  clear hfb hg
  generalize w1.heap.size + 1 = g at *
  have O0 := Lib.hid ((Old.refl W0).alloc (.cells (madeCells #[.int .i64 0] (N + 1)) 3))
  go_loopw [30] (fun i wr => ∃ k : Nat, k ≤ N + 1 ∧ i = .int .i64 (k : Int) ∧ Hid (Old W0 wr ∧ Fb wr g (N + 1) k F)) (fun i _ => (N + 1 - RowKit.intOf i).toNat)
  case atStart => exact ⟨0, Nat.zero_le _, rfl, Lib.hid ⟨O0.out, FB.out⟩⟩
  case round =>
    clear FB O0
    obtain ⟨k, hk, rfl, HB⟩ := hrel
    rcases Nat.lt_or_ge k (N + 1) with hkn | hkn
    · obtain ⟨x, hx⟩ : ∃ x, T[k]? = some x := ⟨_, List.getElem?_eq_getElem (by rw [HN.out]; exact hkn)⟩
      obtain ⟨oa', cap', e1, _, _, h4⟩ := TW.out
      injection e1 with e1 z1 z2
      subst e1
      obtain ⟨gt, kv, rfl, hgt, _, a0, a1, a2, a3, a4, a5, a6, a7, hkw⟩ := h4 k x hx
      obtain ⟨e, he, hwk⟩ := HF.out k x hx
      have hnd := HAL.out x (List.mem_iff_getElem?.2 ⟨k, hx⟩)
      have ho := HB.out.1
      replace a0 := ho.c hgt a0
      replace a1 := ho.c hgt a1
      replace a2 := ho.c hgt a2
      replace a3 := ho.c hgt a3
      replace a4 := ho.c hgt a4
      replace a5 := ho.c hgt a5
      replace a6 := ho.c hgt a6
      replace a7 := ho.c hgt a7
      obtain ⟨ob, kc, rfl, hk1, hk2, hkk⟩ := hkw
      rw [List.length_map] at *
      obtain ⟨op, vk, vn, vs, nm, ks, ln, cl⟩ := x
      simp only at a0 a1 a2 a3 a4 a5 a6 a7 hwk hkk hk1
      obtain ⟨n1, n2, n3, n4, n5, n6, n7, n8, n9⟩ := hnd
      simp only at n1 n2 n3 n4 n5 n6 n7 n8 n9
      obtain ⟨K, hK⟩ : ∃ K, K = ks.length := ⟨_, rfl⟩
      obtain ⟨few, hfew⟩ : ∃ few, few = (kidN op).1 := ⟨_, rfl⟩
      obtain ⟨many, hmany⟩ : ∃ many, many = (kidN op).2 := ⟨_, rfl⟩
      have hkd := fun W => kids_any op n1 n2 W
      rw [← hfew] at n3 hkd
      rw [← hmany] at n4 hkd
      rw [← hK] at n3 n4 a5 hk1
      have HKD := Lib.hid hkd
      have hK8 : K ≤ 8 := by have := kidN_le op; omega
      have NB := Lib.hid (show Nb (wr.alloc (.cells #[.int .u8 op, .int .u8 vk, .int .i64 vn, .string (st vs), .string (st nm), .slice ob K kc, .int .i64 ln, .int .i64 cl] 37)) wr.heap.size ⟨op, vk, vn, vs, nm, ks, ln, cl⟩ (.slice ob K kc) from (MapKept.heap_alloc wr _).1)
      have hOA := (Old.refl wr).alloc (.cells #[.int .u8 op, .int .u8 vk, .int .i64 vn, .string (st vs), .string (st nm), .slice ob K kc, .int .i64 ln, .int .i64 cl] 37)
      have FB2 := Lib.hid (HB.out.2.old hOA)
      have OW := Lib.hid (ho.trans hOA)
      have hgb : g < wr.heap.size := by
        obtain ⟨cur, hc, _⟩ := HB.out.2
        exact blk_lt hc
      have hgp : g ≠ wr.heap.size := Nat.ne_of_lt hgb
      have hgp2 : wr.heap.size ≠ g := Nat.ne_of_gt hgb
      have q1 : ¬ op < 1 := by omega
      have q2 : ¬ 26 < op := by omega
      have q3 : ¬ (K : Int) < (few : Int) := by omega
      have q4 : ¬ (many : Int) < (K : Int) := by omega
      have q5 : ¬ ln < 1 := by omega
      have q6 : ¬ cl < 1 := by omega
      have HKK := Lib.hid hkk
      have HWK := Lib.hid hwk
      have HE := Lib.hid he
      have HKE := Lib.hid hK
      have HGE := Lib.hid (show W0.heap.size ≤ g by rw [HG.out]; exact Nat.le_refl _)
      obtain ⟨fv, hfv⟩ := FB2.out.cell hkn
      have hff := FB2.out.f k
      have HNM := Lib.hid (show ∀ W, op = 2 → Calls Tryz.prog 13 #[.string (st nm)] W fun e w' => e = .returned (.bool true) ∧ W = w' from fun W h => rname_is (st nm) W (by
        have := n9 h
        unfold isName at this
        simp only [Bool.and_eq_true, decide_eq_true_eq] at this
        rw [st_size]
        omega) (n9 h))
      have hno : op = 1 ∧ nm = [] ∨ op = 2 ∧ vk = 0 ∧ vn = 0 ∧ vs = [] ∧ (nm == []) = false ∨ ¬ op = 1 ∧ ¬ op = 2 ∧ vk = 0 ∧ vn = 0 ∧ vs = [] ∧ nm = [] := by
        by_cases p1 : op = 1
        · exact Or.inl ⟨p1, n8 (by omega)⟩
        by_cases p2 : op = 2
        · obtain ⟨y1, y2, y3⟩ := n7 p1
          refine Or.inr (Or.inl ⟨p2, y1, y2, y3, ?_⟩)
          have := n9 p2
          cases nm with
          | nil => cases this
          | cons c r => rfl
        · obtain ⟨y1, y2, y3⟩ := n7 p1
          exact Or.inr (Or.inr ⟨p1, p2, y1, y2, y3, n8 p2⟩)
      clear h4 n3 n4 n5 n6 n7 n8 n9 n1 n2 ho hOA hk1 hk2 hkk hwk he hK hfew hmany hkd hgt hgb hx hk z1 z2
      rcases hno with ⟨rfl, rfl⟩ | ⟨rfl, rfl, rfl, rfl, hnm⟩ | ⟨p1, p2, rfl, rfl, rfl, rfl⟩
      · go_wp2_with (first
          | (go_at_call 12; (with_reducible refine (HKD.out _).mono ?_); rintro e w3 ⟨rfl, rfl⟩)
          | (go_at_call 13; go_loud (refine (HNM.out _ (by trivial)).mono ?_; rintro e w3 ⟨rfl, rfl⟩)))
        have HS := FB2.out.set hkn (k : Int)
        have IN := Lib.hid (show In W0 g (N + 1) k F wr.heap.size _ (.slice ob K kc) ks.reverse e 0 k _ from ⟨OW.out.setCell HGE.out _, HS.1, HS.2, Nat.le_refl _, NB.out.set hgp _, HWK.out⟩)
        clear HS hfv hff
        go_loopw [11] (fun i wr2 => ∃ (j f : Nat) (M : Int), j ≤ K ∧ i = .int .i64 M ∧ Hid (M = (K : Int) - 1 - (j : Int)) ∧ Hid (In W0 g (N + 1) k F wr.heap.size ⟨1, vk, vn, vs, [], ks, ln, cl⟩ (.slice ob K kc) ks.reverse e j f wr2)) (fun i _ => (RowKit.intOf i + 1).toNat)
        case atStart => exact ⟨0, k, _, Nat.zero_le _, rfl, Lib.hid (by simp), IN⟩
        case round =>
          clear IN
          obtain ⟨j, f, M, hj, rfl, HM, H1⟩ := hrel
          rcases Nat.lt_or_ge j K with hjk | hjk
          · obtain ⟨kk, hkk1⟩ : ∃ kk : Nat, (kk : Int) = (K : Int) - 1 - (j : Int) := ⟨K - 1 - j, by omega⟩
            obtain rfl : M = (kk : Int) := by rw [HM.out, hkk1]
            have hrl : ks.reverse.length = K := by rw [List.length_reverse, HKE.out]
            have hdr := List.drop_eq_getElem_cons (l := ks.reverse) (i := j) (by omega)
            have hw := H1.out.wk
            rw [hdr] at hw
            obtain ⟨b1, b2, g', b3, b4, b5⟩ := hw
            have hfk := H1.out.fk
            obtain ⟨f1, rfl⟩ : ∃ f1, f = f1 + 1 := ⟨f - 1, by omega⟩
            have hkx : (ks.map (k - ·))[kk]? = some f1 := by
              have h1 : ks.reverse[j]? = some ks.reverse[j] := List.getElem?_eq_getElem (by omega)
              have h2 := h1
              rw [List.getElem?_reverse (by rw [← HKE.out]; exact hjk)] at h2
              rw [show ks.length - 1 - j = kk by rw [← HKE.out]; omega] at h2
              rw [List.getElem?_map, h2]
              show some (k - ks.reverse[j]) = some f1
              congr 1
              omega
            obtain ⟨gk, rfl, hgk, _, d0⟩ := HKK.out kk f1 hkx
            replace d0 := H1.out.old.c hgk d0
            have c1 := H1.out.fc
            have c2 := H1.out.nb.c5
            rw [Nat.add_sub_cancel] at b3
            have c3 := H1.out.fb.at (show f1 < k by omega) b3
            have hkk2 : kk < K := by omega
            have hf1 : f1 < N + 1 := by omega
            have HKK1 := Lib.hid hkk1
            have hff2 := H1.out.fb.f k
            have B4 := Lib.hid (show g' ≤ k by omega)
            have B5 := Lib.hid b5
            have c1' : wr.cell? ⟨g, k, none⟩ = some (.int .i64 ((f1 : Int) + 1)) := c1
            have y1 : ((f1 : Int) + 1 < 1) = False := eq_false (by omega)
            have y2 : decide ((f1 : Int) + 1 < 1) = false := decide_eq_false (by omega)
            have y3 : ((k : Int) < (N : Int) + 1) := by omega
            have y4 : ((kk : Int) < (K : Int)) := by omega
            have y5 : ((f1 : Int) == (f1 : Int) + 1 - 1) = true := by simp
            have y6 : ((f1 : Int) != (f1 : Int) + 1 - 1) = false := by simp
            clear hdr hkx hrl b1 b2 hgk hkk1 c1 b5 b4 b3 hfk
            go_wp2
            go_quiet (fail)
            go_wp2
            have HS := (show Fb (wr.drewN nq) g (N + 1) k F from H1.out.fb).set hkn (g' : Int)
            exact ⟨⟨j + 1, g', _, hjk, rfl, Lib.hid (by rw [HKK1.out]; omega), Lib.hid ⟨(H1.out.old.drewN nq).setCell HGE.out _, HS.1, HS.2, B4.out, (show Nb (wr.drewN nq) _ _ _ from H1.out.nb).set hgp _, B5.out⟩⟩, by simp only [RowKit.intOf]; omega⟩
          · obtain rfl : j = K := by omega
            obtain rfl : M = -1 := by rw [HM.out]; omega
            have hrl : ks.reverse.length = j := by rw [List.length_reverse, HKE.out]
            have hw := H1.out.wk
            rw [List.drop_eq_nil_of_le (by omega)] at hw
            have hw : f = e := hw
            subst hw
            have HN2 := Lib.hid (H1.out.fb.next H1.out.fc HE.out)
            clear hrl
            go_wp2
            exact ⟨⟨k + 1, hkn, by simp, Lib.hid ⟨H1.out.old, HN2.out⟩⟩, by simp only [RowKit.intOf]; omega⟩
      · go_wp2_with (first
          | (go_at_call 12; (with_reducible refine (HKD.out _).mono ?_); rintro e w3 ⟨rfl, rfl⟩)
          | (go_at_call 13; go_loud (refine (HNM.out _ (by trivial)).mono ?_; rintro e w3 ⟨rfl, rfl⟩)))
        have HS := FB2.out.set hkn (k : Int)
        have IN := Lib.hid (show In W0 g (N + 1) k F wr.heap.size _ (.slice ob K kc) ks.reverse e 0 k _ from ⟨OW.out.setCell HGE.out _, HS.1, HS.2, Nat.le_refl _, NB.out.set hgp _, HWK.out⟩)
        clear HS hfv hff
        go_loopw [11] (fun i wr2 => ∃ (j f : Nat) (M : Int), j ≤ K ∧ i = .int .i64 M ∧ Hid (M = (K : Int) - 1 - (j : Int)) ∧ Hid (In W0 g (N + 1) k F wr.heap.size ⟨2, 0, 0, [], nm, ks, ln, cl⟩ (.slice ob K kc) ks.reverse e j f wr2)) (fun i _ => (RowKit.intOf i + 1).toNat)
        case atStart => exact ⟨0, k, _, Nat.zero_le _, rfl, Lib.hid (by simp), IN⟩
        case round =>
          clear IN
          obtain ⟨j, f, M, hj, rfl, HM, H1⟩ := hrel
          rcases Nat.lt_or_ge j K with hjk | hjk
          · obtain ⟨kk, hkk1⟩ : ∃ kk : Nat, (kk : Int) = (K : Int) - 1 - (j : Int) := ⟨K - 1 - j, by omega⟩
            obtain rfl : M = (kk : Int) := by rw [HM.out, hkk1]
            have hrl : ks.reverse.length = K := by rw [List.length_reverse, HKE.out]
            have hdr := List.drop_eq_getElem_cons (l := ks.reverse) (i := j) (by omega)
            have hw := H1.out.wk
            rw [hdr] at hw
            obtain ⟨b1, b2, g', b3, b4, b5⟩ := hw
            have hfk := H1.out.fk
            obtain ⟨f1, rfl⟩ : ∃ f1, f = f1 + 1 := ⟨f - 1, by omega⟩
            have hkx : (ks.map (k - ·))[kk]? = some f1 := by
              have h1 : ks.reverse[j]? = some ks.reverse[j] := List.getElem?_eq_getElem (by omega)
              have h2 := h1
              rw [List.getElem?_reverse (by rw [← HKE.out]; exact hjk)] at h2
              rw [show ks.length - 1 - j = kk by rw [← HKE.out]; omega] at h2
              rw [List.getElem?_map, h2]
              show some (k - ks.reverse[j]) = some f1
              congr 1
              omega
            obtain ⟨gk, rfl, hgk, _, d0⟩ := HKK.out kk f1 hkx
            replace d0 := H1.out.old.c hgk d0
            have c1 := H1.out.fc
            have c2 := H1.out.nb.c5
            rw [Nat.add_sub_cancel] at b3
            have c3 := H1.out.fb.at (show f1 < k by omega) b3
            have hkk2 : kk < K := by omega
            have hf1 : f1 < N + 1 := by omega
            have HKK1 := Lib.hid hkk1
            have hff2 := H1.out.fb.f k
            have B4 := Lib.hid (show g' ≤ k by omega)
            have B5 := Lib.hid b5
            have c1' : wr.cell? ⟨g, k, none⟩ = some (.int .i64 ((f1 : Int) + 1)) := c1
            have y1 : ((f1 : Int) + 1 < 1) = False := eq_false (by omega)
            have y2 : decide ((f1 : Int) + 1 < 1) = false := decide_eq_false (by omega)
            have y3 : ((k : Int) < (N : Int) + 1) := by omega
            have y4 : ((kk : Int) < (K : Int)) := by omega
            have y5 : ((f1 : Int) == (f1 : Int) + 1 - 1) = true := by simp
            have y6 : ((f1 : Int) != (f1 : Int) + 1 - 1) = false := by simp
            clear hdr hkx hrl b1 b2 hgk hkk1 c1 b5 b4 b3 hfk
            go_wp2
            go_quiet (fail)
            go_wp2
            have HS := (show Fb (wr.drewN nq) g (N + 1) k F from H1.out.fb).set hkn (g' : Int)
            exact ⟨⟨j + 1, g', _, hjk, rfl, Lib.hid (by rw [HKK1.out]; omega), Lib.hid ⟨(H1.out.old.drewN nq).setCell HGE.out _, HS.1, HS.2, B4.out, (show Nb (wr.drewN nq) _ _ _ from H1.out.nb).set hgp _, B5.out⟩⟩, by simp only [RowKit.intOf]; omega⟩
          · obtain rfl : j = K := by omega
            obtain rfl : M = -1 := by rw [HM.out]; omega
            have hrl : ks.reverse.length = j := by rw [List.length_reverse, HKE.out]
            have hw := H1.out.wk
            rw [List.drop_eq_nil_of_le (by omega)] at hw
            have hw : f = e := hw
            subst hw
            have HN2 := Lib.hid (H1.out.fb.next H1.out.fc HE.out)
            clear hrl
            go_wp2
            exact ⟨⟨k + 1, hkn, by simp, Lib.hid ⟨H1.out.old, HN2.out⟩⟩, by simp only [RowKit.intOf]; omega⟩
      · go_wp2_with (first
          | (go_at_call 12; (with_reducible refine (HKD.out _).mono ?_); rintro e w3 ⟨rfl, rfl⟩)
          | (go_at_call 13; go_loud (refine (HNM.out _ (by trivial)).mono ?_; rintro e w3 ⟨rfl, rfl⟩)))
        have HS := FB2.out.set hkn (k : Int)
        have IN := Lib.hid (show In W0 g (N + 1) k F wr.heap.size _ (.slice ob K kc) ks.reverse e 0 k _ from ⟨OW.out.setCell HGE.out _, HS.1, HS.2, Nat.le_refl _, NB.out.set hgp _, HWK.out⟩)
        clear HS hfv hff
        go_loopw [11] (fun i wr2 => ∃ (j f : Nat) (M : Int), j ≤ K ∧ i = .int .i64 M ∧ Hid (M = (K : Int) - 1 - (j : Int)) ∧ Hid (In W0 g (N + 1) k F wr.heap.size ⟨op, 0, 0, [], [], ks, ln, cl⟩ (.slice ob K kc) ks.reverse e j f wr2)) (fun i _ => (RowKit.intOf i + 1).toNat)
        case atStart => exact ⟨0, k, _, Nat.zero_le _, rfl, Lib.hid (by simp), IN⟩
        case round =>
          clear IN
          obtain ⟨j, f, M, hj, rfl, HM, H1⟩ := hrel
          rcases Nat.lt_or_ge j K with hjk | hjk
          · obtain ⟨kk, hkk1⟩ : ∃ kk : Nat, (kk : Int) = (K : Int) - 1 - (j : Int) := ⟨K - 1 - j, by omega⟩
            obtain rfl : M = (kk : Int) := by rw [HM.out, hkk1]
            have hrl : ks.reverse.length = K := by rw [List.length_reverse, HKE.out]
            have hdr := List.drop_eq_getElem_cons (l := ks.reverse) (i := j) (by omega)
            have hw := H1.out.wk
            rw [hdr] at hw
            obtain ⟨b1, b2, g', b3, b4, b5⟩ := hw
            have hfk := H1.out.fk
            obtain ⟨f1, rfl⟩ : ∃ f1, f = f1 + 1 := ⟨f - 1, by omega⟩
            have hkx : (ks.map (k - ·))[kk]? = some f1 := by
              have h1 : ks.reverse[j]? = some ks.reverse[j] := List.getElem?_eq_getElem (by omega)
              have h2 := h1
              rw [List.getElem?_reverse (by rw [← HKE.out]; exact hjk)] at h2
              rw [show ks.length - 1 - j = kk by rw [← HKE.out]; omega] at h2
              rw [List.getElem?_map, h2]
              show some (k - ks.reverse[j]) = some f1
              congr 1
              omega
            obtain ⟨gk, rfl, hgk, _, d0⟩ := HKK.out kk f1 hkx
            replace d0 := H1.out.old.c hgk d0
            have c1 := H1.out.fc
            have c2 := H1.out.nb.c5
            rw [Nat.add_sub_cancel] at b3
            have c3 := H1.out.fb.at (show f1 < k by omega) b3
            have hkk2 : kk < K := by omega
            have hf1 : f1 < N + 1 := by omega
            have HKK1 := Lib.hid hkk1
            have hff2 := H1.out.fb.f k
            have B4 := Lib.hid (show g' ≤ k by omega)
            have B5 := Lib.hid b5
            have c1' : wr.cell? ⟨g, k, none⟩ = some (.int .i64 ((f1 : Int) + 1)) := c1
            have y1 : ((f1 : Int) + 1 < 1) = False := eq_false (by omega)
            have y2 : decide ((f1 : Int) + 1 < 1) = false := decide_eq_false (by omega)
            have y3 : ((k : Int) < (N : Int) + 1) := by omega
            have y4 : ((kk : Int) < (K : Int)) := by omega
            have y5 : ((f1 : Int) == (f1 : Int) + 1 - 1) = true := by simp
            have y6 : ((f1 : Int) != (f1 : Int) + 1 - 1) = false := by simp
            clear hdr hkx hrl b1 b2 hgk hkk1 c1 b5 b4 b3 hfk
            go_wp2
            go_quiet (fail)
            go_wp2
            have HS := (show Fb (wr.drewN nq) g (N + 1) k F from H1.out.fb).set hkn (g' : Int)
            exact ⟨⟨j + 1, g', _, hjk, rfl, Lib.hid (by rw [HKK1.out]; omega), Lib.hid ⟨(H1.out.old.drewN nq).setCell HGE.out _, HS.1, HS.2, B4.out, (show Nb (wr.drewN nq) _ _ _ from H1.out.nb).set hgp _, B5.out⟩⟩, by simp only [RowKit.intOf]; omega⟩
          · obtain rfl : j = K := by omega
            obtain rfl : M = -1 := by rw [HM.out]; omega
            have hrl : ks.reverse.length = j := by rw [List.length_reverse, HKE.out]
            have hw := H1.out.wk
            rw [List.drop_eq_nil_of_le (by omega)] at hw
            have hw : f = e := hw
            subst hw
            have HN2 := Lib.hid (H1.out.fb.next H1.out.fc HE.out)
            clear hrl
            go_wp2
            exact ⟨⟨k + 1, hkn, by simp, Lib.hid ⟨H1.out.old, HN2.out⟩⟩, by simp only [RowKit.intOf]; omega⟩
    · obtain rfl : k = N + 1 := by omega
      have c0 := HB.out.2.at (Nat.lt_succ_self N) HF0.out
      have HO3 := Lib.hid (HO.out.trans HB.out.1)
      go_wp2_with (go_at_call 7; (with_reducible refine (HKN.out _ HO3.out).mono ?_); rintro e w4 ⟨rfl, o4⟩; have HO4 := Lib.hid (HO3.out.trans o4); clear o4)
      go_ret
      exact ⟨rfl, HO4.out⟩
theorem shapes_long (s : ByteArray) (w : World) (he : Env w) (hs : 500 < s.size) : Calls Tryz.prog 5 #[.string s] w fun e w' => e = .returned (.bool true) ∧ Old w w' := by
  have hk := known_ok w he
  have h : (500 : Int) < (s.size : Int) := by omega
  clear he hs
  go_enter Tryz.func5, Tryz.ntmps5
  go_wp2_with (go_at_call 7; (with_reducible refine hk.mono ?_); rintro e w4 ⟨rfl, o4⟩; have HO := Lib.hid o4; clear o4)
  go_ret
  exact ⟨rfl, HO.out⟩
theorem shapes_none (s : ByteArray) (w : World) (he : Env w) (hs : s.size ≤ 500) {T : List Nd} {ln cl E : Int} (hR : readP s.data.toList = (T, ln, cl, E)) (hE : ¬ E = 0) : Calls Tryz.prog 5 #[.string s] w fun e w' => e = .returned (.bool true) ∧ Old w w' := by
  have HK8 := Lib.hid (read_tw s w (by omega) he hR)
  have HKN := Lib.hid (fun W (h : Old w W) => known_ok W (he.old h))
  have h : ¬ (500 : Int) < (s.size : Int) := by omega
  clear he hs hR
  go_enter Tryz.func5, Tryz.ntmps5
  go_wp2_with (first
    | (go_at_call 8; (with_reducible refine HK8.out.mono ?_); rintro e w1 ⟨oa, cap, rfl, t1, o1⟩; have HO := Lib.hid (o1.trans ((Old.refl w1).alloc (.cells #[.int .i64 ln, .int .i64 cl] 26))); clear t1 o1)
    | (go_at_call 7; (with_reducible refine (HKN.out _ HO.out).mono ?_); rintro e w4 ⟨rfl, o4⟩; have HO4 := Lib.hid (HO.out.trans o4); clear o4))
  go_ret
  exact ⟨rfl, HO4.out⟩
theorem shapes_any (s : ByteArray) (w : World) (he : Env w) : Calls Tryz.prog 5 #[.string s] w fun e w' => e = .returned (.bool true) ∧ Old w w' := by
  by_cases hs : s.size ≤ 500
  case neg => exact shapes_long s w he (by omega)
  obtain ⟨⟨T, ln, cl, E⟩, hR⟩ : ∃ x, readP s.data.toList = x := ⟨_, rfl⟩
  by_cases hE : E = 0
  · subst hE
    have hz : s.data.toList.length = s.size := Array.length_toList
    obtain ⟨rfl, rfl, _⟩ := readP_good (by omega) hR
    exact shapes_good s w he hs hR
  · exact shapes_none s w he hs hR hE
end Go.Proofs.YtgmjpcaennmgoaaGreatDoor
