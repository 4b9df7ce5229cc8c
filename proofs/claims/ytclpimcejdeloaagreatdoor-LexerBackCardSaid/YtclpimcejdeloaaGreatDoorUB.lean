/- Layer lexer: the words of two sources, gathered (the law's loop). -/
import Derived.Test.YtclpimcejdeloaaGreatDoorTZ
namespace Go.Proofs.YtclpimcejdeloaaGreatDoor
open Go.ChangeShapes Go.WideShapes Go.ChangeAt Go.RowKit Go.Lib
set_option linter.unusedVariables false
set_option linter.unusedSimpArgs false
set_option maxRecDepth 100000

theorem Rw.kept {W W' : World} {v : Value} {A : List Tk} (h : Rw W v A) (hk : ∀ g, v.ownBlock = some g → W'.heap[g]? = W.heap[g]?) (hs : W.heap.size ≤ W'.heap.size) : Rw W' v A := by
  obtain ⟨oa, cap, rfl, h2, h3, h4⟩ := h
  refine ⟨oa, cap, rfl, h2, h3, fun i x hx => ?_⟩
  obtain ⟨g, rfl, hg, hi, a0, a1, a2, a3, a4, a5, a6⟩ := h4 i x hx
  have hb := hk g rfl
  exact ⟨g, rfl, Nat.lt_of_lt_of_le hg hs, by rw [hb]; exact hi, (World.cell?_of_block (w := W) hb).trans a0, (World.cell?_of_block (w := W) hb).trans a1, (World.cell?_of_block (w := W) hb).trans a2, (World.cell?_of_block (w := W) hb).trans a3, (World.cell?_of_block (w := W) hb).trans a4, (World.cell?_of_block (w := W) hb).trans a5, (World.cell?_of_block (w := W) hb).trans a6⟩
theorem own_blk {w : World} {base n size : Nat} {e : TypeId} {v : Value} {cs : List Value} (h : w.ownsRow base e size v n cs) : ∀ g, v.ownBlock = some g → base ≤ g ∧ g < w.heap.size ∧ ∃ cur, w.heap[g]? = some (.cells cur e (0, 0)) := by
  intro g hg
  rcases h.2 with ⟨rfl, _⟩ | ⟨g', cap, cur, rfl, hb, hgb, _⟩
  · simp [Value.ownBlock] at hg
  · obtain rfl : g' = g := by simpa [Value.ownBlock] using hg
    exact ⟨hb, blk_lt hgb, cur, hgb⟩
/-- While the second one's words are appended. -/
structure Ja (w W0 : World) (T1 T2 : List Tk) (d k : Nat) (va0 va : Value) (wr : World) : Prop where
  old : Old w wr
  size : W0.heap.size ≤ wr.heap.size
  row : ∃ oa cap, va = .slice oa (T1.length + k) cap ∧ wr.ownsRow w.heap.size 33 7 va (T1.length + k) (tcells (T1 ++ (T2.take k).map (Tk.down d)))
  far : ∀ g, va.ownBlock = some g → W0.heap.size ≤ g ∨ va0.ownBlock = some g
  blk : ∀ g, g < W0.heap.size → va0.ownBlock ≠ some g → wr.heap[g]? = W0.heap[g]?
theorem Ja.step {w W0 : World} {T1 T2 : List Tk} {d k : Nat} {va0 va : Value} {wr w' : World} (h : Ja w W0 T1 T2 d k va0 va wr) {X Y : Obj} {x : Tk} (hx : T2[k]? = some x) {g cap : Nat}
    (hown : w'.ownsRow w.heap.size 33 7 (.slice (some ⟨g, 0, none⟩) (T1.length + k + 1) cap) (T1.length + k + 1) (tcells (T1 ++ (T2.take k).map (Tk.down d)) ++ tcells [x.down d])) (hgrow : ((wr.alloc X).alloc Y).grownBy w' va.ownBlock)
    (hlie : va.ownBlock = some g ∨ g = ((wr.alloc X).alloc Y).heap.size) : Ja w W0 T1 T2 d (k + 1) va0 (.slice (some ⟨g, 0, none⟩) (T1.length + (k + 1)) cap) w' := by
  obtain ⟨oa, c, hva, hrow⟩ := h.row
  have hsz : ((wr.alloc X).alloc Y).heap.size = wr.heap.size + 1 + 1 := by rw [sz_alloc, sz_alloc]
  refine ⟨((h.old.alloc X).alloc Y).grown hgrow (fun j e => (own_blk hrow j e).1), ?_, ⟨_, cap, rfl, ?_⟩, ?_, ?_⟩
  · have := hgrow.size
    have := h.size
    omega
  · have e : T2.take (k + 1) = T2.take k ++ [x] := by rw [List.take_add_one, hx]; rfl
    rw [e, List.map_append, ← List.append_assoc, tcells_app]
    exact hown
  · intro j hj
    obtain rfl : g = j := by simpa [Value.ownBlock] using hj
    rcases hlie with hl | hl
    · exact h.far g hl
    · left
      have := h.size
      omega
  · intro j hj hne
    have hlt : j < wr.heap.size := Nat.lt_of_lt_of_le hj h.size
    have h1 : ((wr.alloc X).alloc Y).heap[j]? = wr.heap[j]? := ((((Old.refl wr).alloc X).alloc Y).block j hlt)
    have h2 : some j ≠ va.ownBlock := by
      intro e
      rcases h.far j e.symm with h3 | h3
      · omega
      · exact hne h3
    exact ((hgrow.block j (by omega) h2).trans h1).trans (h.blk j hj hne)
theorem tcells_down (x : Tk) (D : Nat) : tcells [x.down (1 + D)] = [.int .u8 x.k, .string (st x.t), .int .u8 x.vk, .int .i64 x.vn, .string (st x.vs), .int .i64 (x.ln + (1 + (D : Int))), .int .i64 x.cl] := by
  unfold Tk.down
  simp only [tcells, Int.natCast_add]
  rfl

theorem lexR_nil {l : List UInt8} {T : List Tk} {E ln cl : Int} (h : (T, E, ln, cl) = lexR l) (hE : E ≠ 0) : T = [] := by
  unfold lexR at h
  split at h
  · next h0 =>
    rw [← h] at h0
    exact absurd h0 hE
  · injection h with h _

set_option maxHeartbeats 1600000 in
theorem joins_ok (s t : ByteArray) (w : World) (he : Env w) (h1 : s.size ≤ 1500) (h2 : t.size ≤ 1500) (T1 T2 : List Tk) (l1 c1 l2 c2 : Int) (hR1 : (T1, (0 : Int), l1, c1) = lexR s.data.toList) (hR2 : (T2, (0 : Int), l2, c2) = lexR t.data.toList) :
    Calls Tryz.prog 4 #[.string s, .string t] w fun e w' => e = .returned (.bool true) ∧ Old w w' := by
  have hD0 := lines_len s.data.toList
  rw [size_list] at hD0
  have kc := fun W => Tryz.strings_Count_one s 10 W
  have hj := join_two hR1.symm hR2.symm
  rw [if_pos rfl] at hj
  obtain ⟨D, hD⟩ : ∃ D, D = lines s.data.toList := ⟨_, rfl⟩
  have hcD : Lib.countByte s.data.toList 10 = D := by rw [hD]; rfl
  rw [← hD] at hj hD0
  simp only [hcD] at kc
  have hl1 : T1.length ≤ 1500 := by
    have h9 : T1.length ≤ s.data.toList.length := by
      have := lexR_len2 (l := s.data.toList)
      rw [← hR1] at this
      exact this
    rw [size_list] at h9
    omega
  have hl2 : T2.length ≤ 1500 := by
    have h9 : T2.length ≤ t.data.toList.length := by
      have := lexR_len2 (l := t.data.toList)
      rw [← hR2] at this
      exact this
    rw [size_list] at h9
    omega
  have hlow : ∀ x ∈ T2, 0 ≤ x.ln ∧ x.ln ≤ 1501 := by
    have hs := lexR_ok (l := t.data.toList) (by rw [← hR2])
    have hw := (wds_of (hs.symm.trans hR2.symm)).low.1
    have hz := lines_len t.data.toList
    rw [size_list] at hz
    intro x hx
    have := hw x hx
    omega
  obtain ⟨T3, hT3⟩ : ∃ T3, T3 = T1 ++ T2.map (Tk.down (1 + D)) := ⟨_, rfl⟩
  have hl3 : T3.length = T1.length + T2.length := by rw [hT3, List.length_append, List.length_map]
  have hR3 : (T3, (0 : Int), (0 : Int), (0 : Int)) = lexR ((s ++ (⟨#[10]⟩ : ByteArray)) ++ t).data.toList := by
    rw [cat_list, hj, hT3]
  have hz3 : ((s ++ (⟨#[10]⟩ : ByteArray)) ++ t).size ≤ 65536 := by
    rw [← size_list, cat_list, List.length_append, List.length_cons, size_list, size_list]
    omega
  have k1 := fun W hW => lex_at s W (by omega) hW _ hR1
  have k2 := fun W hW => lex_at t W (by omega) hW _ hR2
  have k3 := fun W hW => lex_at _ W hz3 hW _ hR3
  have hkn0 := fun W hW => known_lex W hW
  have HE := Lib.hid (fun W (h : Old w W) => he.old h)
  have HO := Lib.hid (Old.refl w)
  have HT3 := Lib.hid hT3
  have HL3 := Lib.hid hl3
  have HLOW := Lib.hid hlow
  obtain ⟨N1, hN1⟩ : ∃ N1, N1 = T1.length := ⟨_, rfl⟩
  obtain ⟨N2, hN2⟩ : ∃ N2, N2 = T2.length := ⟨_, rfl⟩
  obtain ⟨N3, hN3⟩ : ∃ N3, N3 = T3.length := ⟨_, rfl⟩
  simp only [← hN1] at k1 hl1
  simp only [← hN2] at k2 hl2
  simp only [← hN3] at k3
  have HN1 := Lib.hid hN1
  have HN2 := Lib.hid hN2
  have HN3 := Lib.hid hN3
  clear he hR1 hR2 hR3 hj hD hcD hT3 hl3 hlow hN1 hN2 hN3
  go_enter Tryz.func4, Tryz.ntmps4
  go_upto_block 0 with (first
      | (go_at_call 7; (with_reducible refine (k1 _ (HE.out _ HO.out)).mono ?_); rintro e w1 ⟨⟨oa, ca, rfl, r1⟩, o1⟩; have RA := Lib.hid (own_old r1 ((Old.refl w1).alloc (.cells #[.int .i64 l1, .int .i64 c1] 25))); have HA1 := Lib.hid (fun g hg => (own_blk RA.out g hg).2.1); replace HO := Lib.hid ((HO.out.trans o1).alloc (.cells #[.int .i64 l1, .int .i64 c1] 25)); clear r1 o1)
      | (go_at_call 7; (with_reducible refine (k2 _ (HE.out _ HO.out)).mono ?_); rintro e w2 ⟨⟨ob, cb, rfl, r2⟩, o2⟩; replace RA := Lib.hid (own_old RA.out (o2.alloc (.cells #[.int .i64 l2, .int .i64 c2] 25))); have RB := Lib.hid (own_old r2 ((Old.refl w2).alloc (.cells #[.int .i64 l2, .int .i64 c2] 25))); have HZ12 := Lib.hid (show (w1.alloc (.cells #[.int .i64 l1, .int .i64 c1] 25)).heap.size ≤ (w2.alloc (.cells #[.int .i64 l2, .int .i64 c2] 25)).heap.size from (o2.alloc (.cells #[.int .i64 l2, .int .i64 c2] 25)).size); replace HO := Lib.hid ((HO.out.trans o2).alloc (.cells #[.int .i64 l2, .int .i64 c2] 25)); clear r2)
      | (go_at_call 7; (with_reducible refine (k3 _ (HE.out _ HO.out)).mono ?_); rintro e w3 ⟨⟨oc, cc, rfl, r3⟩, o3⟩; replace RA := Lib.hid (own_old RA.out (o3.alloc (.cells #[.int .i64 0, .int .i64 0] 25))); replace RB := Lib.hid (own_old RB.out (o3.alloc (.cells #[.int .i64 0, .int .i64 0] 25))); have RC := Lib.hid (own_old r3 ((Old.refl w3).alloc (.cells #[.int .i64 0, .int .i64 0] 25))); have Q3 := Lib.hid (pl_new w3 0 0); replace HO := Lib.hid ((HO.out.trans o3).alloc (.cells #[.int .i64 0, .int .i64 0] 25)); clear r3)
      | (go_at_call 11; (with_reducible refine (kc _).mono ?_); rintro e w4 ⟨rfl, rfl⟩))
  have hab : ∀ g, (Value.slice ob N2 cb).ownBlock = some g → (Value.slice oa N1 ca).ownBlock ≠ some g := fun g hg hg2 => by
    have g1 := HA1.out g hg2
    have g2 := (own_blk RB.out g hg).1
    omega
  have hac : ∀ g, (Value.slice oc N3 cc).ownBlock = some g → (Value.slice oa N1 ca).ownBlock ≠ some g := fun g hg hg2 => by
    have g1 := HA1.out g hg2
    have g2 := (own_blk RC.out g hg).1
    have g3 := HZ12.out
    omega
  have hap : (Value.slice oa N1 ca).ownBlock ≠ some w3.heap.size := fun hg => by
    obtain ⟨_, _, cur, hc⟩ := own_blk RA.out _ hg
    have := hc.symm.trans Q3.out
    simp at this
  have HAB := Lib.hid hab
  have HAC := Lib.hid hac
  have HAP := Lib.hid hap
  have hbb := fun g hg => (own_blk RB.out g hg).2.1
  have hcb := fun g hg => (own_blk RC.out g hg).2.1
  have rwb : Rw _ (.slice ob T2.length cb) T2 := Rw.of_row (by rw [← HN2.out]; exact RB.out)
  rw [← HN2.out] at rwb
  have rwc : Rw _ (.slice oc T3.length cc) T3 := Rw.of_row (by rw [← HN3.out]; exact RC.out)
  rw [← HN3.out] at rwc
  have hq3 := Q3.out
  have hra := RA.out
  generalize w3.alloc (.cells #[.int .i64 0, .int .i64 0] 25) = W0 at HO RA RB RC hbb hcb rwb rwc hq3 hra ⊢
  have HBB := Lib.hid hbb
  have HCB := Lib.hid hcb
  have RWB := Lib.hid rwb
  have RWC := Lib.hid rwc
  have HQ3 := Lib.hid hq3
  obtain ⟨va0, hva0⟩ : ∃ v, v = Value.slice oa N1 ca := ⟨_, rfl⟩
  have hJ0 : Ja w W0 T1 T2 (1 + D) 0 va0 (.slice oa N1 ca) W0 := by
    refine ⟨HO.out, Nat.le_refl _, ⟨oa, ca, by rw [HN1.out]; rfl, ?_⟩, fun g hg => Or.inr (by rw [hva0]; exact hg), fun g _ _ => rfl⟩
    rw [List.take_zero, List.map_nil, List.append_nil, ← HN1.out]
    exact hra
  have HJ := Lib.hid hJ0
  rw [← hva0] at HAB HAC HAP
  clear hab hac hap hbb hcb rwb rwc hq3 hra hJ0 RA RB RC Q3 hva0 HO HA1 HZ12 o2 o3
  go_wp2
  go_loopw [5, 93] (fun va i wr => ∃ k : Nat, k ≤ N2 ∧ i = .int .i64 (k : Int) ∧ Hid (Ja w W0 T1 T2 (1 + D) k va0 va wr)) (fun va i _ => (N2 - RowKit.intOf i).toNat)
  case atStart => exact ⟨0, Nat.zero_le _, rfl, HJ⟩
  case round =>
    clear HJ
    obtain ⟨k, hk, rfl, HJ⟩ := hrel
    obtain ⟨oa', ca', rfl, hrow⟩ := HJ.out.row
    have rwb := RWB.out.kept (fun g hg => HJ.out.blk g (HBB.out g hg) (HAB.out g hg)) HJ.out.size
    have rwc := RWC.out.kept (fun g hg => HJ.out.blk g (HCB.out g hg) (HAC.out g hg)) HJ.out.size
    rcases Nat.lt_or_ge k N2 with hkn | hkn
    · obtain ⟨x, hx⟩ : ∃ x, T2[k]? = some x := ⟨_, List.getElem?_eq_getElem (by rw [← HN2.out]; exact hkn)⟩
      obtain ⟨ob', cb', e1, _, _, h4⟩ := rwb
      injection e1 with e1 z1 z2
      subst e1
      obtain ⟨gb, rfl, lgb, _, c0, c1', c2', c3, c4, c5, c6⟩ := h4 k x hx
      have hlow := HLOW.out x (List.mem_iff_getElem?.2 ⟨k, hx⟩)
      obtain ⟨xk, xt, xa, xb, xc, xl, xm⟩ := x
      simp only at c0 c1' c2' c3 c4 c5 c6 hlow
      obtain ⟨i, hi, hz, hsz', hby⟩ := info_parts info33
      have ngb : wr.heap.size ≠ gb := Nat.ne_of_gt lgb
      have hOWN := own_old (own_old hrow ((Old.refl wr).alloc (.cells #[.int .u8 xk, .string (st xt), .int .u8 xa, .int .i64 xb, .string (st xc), .int .i64 (xl + (1 + (D : Int))), .int .i64 xm] 33))) ((Old.refl _).alloc (.cells #[.int .u8 xk, .string (st xt), .int .u8 xa, .int .i64 xb, .string (st xc), .int .i64 (xl + (1 + (D : Int))), .int .i64 xm] 33))
      have hs0 : (wr.alloc (.cells #[.int .u8 xk, .string (st xt), .int .u8 xa, .int .i64 xb, .string (st xc), .int .i64 (xl + (1 + (D : Int))), .int .i64 xm] 33)).heap.size = wr.heap.size + 1 := sz_alloc _ _
      have hblk : ((wr.alloc (.cells #[.int .u8 xk, .string (st xt), .int .u8 xa, .int .i64 xb, .string (st xc), .int .i64 (xl + (1 + (D : Int))), .int .i64 xm] 33)).alloc (.cells #[.int .u8 xk, .string (st xt), .int .u8 xa, .int .i64 xb, .string (st xc), .int .i64 (xl + (1 + (D : Int))), .int .i64 xm] 33)).heap[wr.heap.size + 1]? = some (.cells #[.int .u8 xk, .string (st xt), .int .u8 xa, .int .i64 xb, .string (st xc), .int .i64 (xl + (1 + (D : Int))), .int .i64 xm] 33) := by
        rw [← hs0]; exact (MapKept.heap_alloc _ _).1
      have NEWS := Lib.hid (World.news_of_block hblk)
      have OWN := Lib.hid hOWN
      have ONE := Lib.hid (show ∀ u ∈ (#[.int .u8 xk, .string (st xt), .int .u8 xa, .int .i64 xb, .string (st xc), .int .i64 (xl + (1 + (D : Int))), .int .i64 xm] : Array Value).toList, u.oneCell' = true from tcells_one [⟨xk, xt, xa, xb, xc, xl + (1 + (D : Int)), xm⟩])
      have hT1 : T1.length = N1 := HN1.out.symm
      have L1 := Lib.hid (show (T1.length + k + 1) * 72 ≤ 140737488355328 by omega)
      have L2 := Lib.hid (show T1.length + k + 1 ≤ maxLen by unfold maxLen; omega)
      have L3 := Lib.hid (show w.heap.size ≤ ((wr.alloc (.cells #[.int .u8 xk, .string (st xt), .int .u8 xa, .int .i64 xb, .string (st xc), .int .i64 (xl + (1 + (D : Int))), .int .i64 xm] 33)).alloc (.cells #[.int .u8 xk, .string (st xt), .int .u8 xa, .int .i64 xb, .string (st xc), .int .i64 (xl + (1 + (D : Int))), .int .i64 xm] 33)).heap.size by have := HJ.out.old.size; rw [sz_alloc, sz_alloc]; omega)
      have HX := Lib.hid hx
      have HT1 := Lib.hid hT1
      clear hx h4 rwc hrow hOWN hblk hs0 hT1 z1 z2 lgb
      go_wp2_with (first
        | (at_builtin; go_loud (refine wpList_append_lies _ rfl _ _ 23 rfl w.heap.size 33 i _ 7 72 Tryz.underlying23 hi hz hsz' hby rfl (Nat.zero_lt_succ 6) (.slice oa' (T1.length + k) ca') (T1.length + k) _ rfl OWN.out ⟨wr.heap.size + 1, 0, none⟩ 1 1 _ rfl rfl NEWS.out ONE.out (Nat.zero_lt_succ 0) L2.out L1.out L3.out _ rfl ?_); intro g cap w' hown hgrow hlie hlt; have HJ2 := Lib.hid (HJ.out.step HX.out (by rw [tcells_down]; exact hown) hgrow hlie); clear hown hgrow hlie hlt))
      refine ⟨⟨k + 1, by omega, by simp, HJ2⟩, by simp only [RowKit.intOf]; omega⟩
    · obtain rfl : k = N2 := by omega
      clear hk hkn
      have hA : T1 ++ (T2.take k).map (Tk.down (1 + D)) = T3 := by
        rw [HT3.out, HN2.out, List.take_length]
      have hlen : T1.length + k = T3.length := by rw [HL3.out, HN2.out]
      rw [hA, hlen] at hrow
      have rwa' := Rw.of_row hrow
      rw [← hlen] at rwa'
      have hq := (HJ.out.blk w3.heap.size (blk_lt HQ3.out) HAP.out).trans HQ3.out
      have p0 := Pl.c0 hq
      have p1 := Pl.c1 hq
      have hsame := same_true wr _ _ T3 T3 false rwa' rwc (by rw [← hlen, ← HN1.out]; omega) rfl
      have HSM := Lib.hid hsame
      have HO := Lib.hid HJ.out.old
      clear hsame hA hlen hrow rwa' rwb rwc hq
      go_wp2_with (first
        | (go_at_call 10; (with_reducible refine HSM.out.mono ?_); rintro e w4 ⟨rfl, o4⟩; replace HO := Lib.hid (HO.out.trans o4))
        | (go_at_call 6; (with_reducible refine (hkn0 _ (HE.out _ HO.out)).mono ?_); rintro e w5 ⟨rfl, o5⟩; replace HO := Lib.hid (HO.out.trans o5)))
      all_goals (go_ret; exact ⟨rfl, HO.out⟩)

theorem joins_any (s t : ByteArray) (w : World) (he : Env w) : Calls Tryz.prog 4 #[.string s, .string t] w fun e w' => e = .returned (.bool true) ∧ Old w w' := by
  by_cases h1 : s.size ≤ 1500
  case neg => exact joins_long s t w he (Or.inl (by omega))
  by_cases h2 : t.size ≤ 1500
  case neg => exact joins_long s t w he (Or.inr (by omega))
  obtain ⟨⟨T1, E1, l1, c1⟩, hR1⟩ : ∃ x, x = lexR s.data.toList := ⟨_, rfl⟩
  obtain ⟨⟨T2, E2, l2, c2⟩, hR2⟩ : ∃ x, x = lexR t.data.toList := ⟨_, rfl⟩
  by_cases e1 : E1 = 0
  case neg =>
    obtain rfl := lexR_nil hR1 e1
    exact joins_bad1 s t w he h1 h2 T2 E1 l1 c1 E2 l2 c2 hR1 hR2 e1
  by_cases e2 : E2 = 0
  case neg =>
    subst e1
    obtain rfl := lexR_nil hR2 e2
    exact joins_bad2 s t w he h1 h2 T1 l1 c1 E2 l2 c2 hR1 hR2 e2
  subst e1 e2
  exact joins_ok s t w he h1 h2 T1 T2 l1 c1 l2 c2 hR1 hR2
end Go.Proofs.YtclpimcejdeloaaGreatDoor
