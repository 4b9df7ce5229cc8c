/- Layer lexer: words told again, and read again (the law's walk). -/
import Derived.Test.YtclpimcejdeloaaGreatDoorUB
namespace Go.Proofs.YtclpimcejdeloaaGreatDoor
open Go.ChangeShapes Go.WideShapes Go.ChangeAt Go.RowKit Go.Lib
set_option linter.unusedVariables false
set_option linter.unusedSimpArgs false
set_option maxRecDepth 100000

theorem info9 : (Tryz.prog.info? 9).map (fun i => (i.zero, i.size, i.bytes)) = some (some (.string ⟨#[]⟩), 1, 16) := by kernel_rfl
theorem join_joinB (b : List UInt8) : ∀ ws, Lib.join ws b = joinB b ws
  | [] => rfl
  | [w] => by simp [Lib.join, joinB]
  | w :: v :: ws => by
    rw [joinB, ← join_joinB b (v :: ws)]
    simp [Lib.join]
/-- A row of texts, joined. -/
theorem join_row (w : World) (base : Nat) (oa : Option Addr) (cap : Nat) (ws : List (List UInt8)) (sep : List UInt8) (h : w.ownsRow base 9 1 (.slice oa ws.length cap) ws.length (ws.map fun x => .string (st x))) (hn : ws.length ≤ 10000) (hl : (joinB sep ws).length ≤ 1000000) :
    Calls Tryz.prog 9 #[.slice oa ws.length cap, .string (st sep)] w fun e w' => e = .returned (.string (st (joinB sep ws))) ∧ Old w w' := by
  rcases Nat.eq_zero_or_pos ws.length with h0 | h0
  · have e : ws = [] := List.eq_nil_of_length_eq_zero h0
    subst e
    go_enter Tryz.func9, Tryz.ntmps9
    go_wp2
    go_ret
    exact ⟨rfl, Old.refl w⟩
  · rcases h.2 with ⟨h1, h2⟩ | ⟨g, cap', cur, h1, hb, hg, hc, hm, hsz, ht⟩
    · omega
    · injection h1 with e1 e2 e3
      subst e1 e3
      have hx : (ws.map st).length = ws.length := List.length_map ..
      have hmm : (ws.map st).map (·.data.toList) = ws := by rw [List.map_map]; exact List.map_id' ws
      have hj := Tryz.strings_Join g 0 cap (ws.map st) (st sep) w (fun j x hj => by
        have h9 : (ws.map fun x => Value.string (st x))[j]? = some (.string x) := by
          rw [List.getElem?_map] at hj ⊢
          cases hq : ws[j]? with
          | none => rw [hq] at hj; cases hj
          | some y => rw [hq] at hj; injection hj with hj; rw [← hj]; rfl
        have hjl : j < ws.length := by
          have := (List.getElem?_eq_some_iff.1 h9).1
          rwa [List.length_map] at this
        rw [← ht, List.getElem?_take, if_pos (by omega), Array.getElem?_toList] at h9
        simp [World.cell?, hg, h9]) (blk_lt hg) (by rw [hx]; omega) (by rw [hx]; exact hc) (by rw [hmm, show (st sep).data.toList = sep from rfl, join_joinB]; omega)
      rw [hx, hmm, show (st sep).data.toList = sep from rfl, join_joinB] at hj
      refine hj.mono ?_
      rintro e w' ⟨rfl, hb⟩
      exact ⟨rfl, Old.ofBelow hb (Nat.le_refl _)⟩
theorem mem_sum {α : Type} (f : α → Nat) : ∀ (l : List α) (x : α), x ∈ l → f x ≤ (l.map f).sum
  | [], x, h => by cases h
  | y :: l, x, h => by
    rw [List.map_cons, List.sum_cons]
    rcases List.mem_cons.1 h with rfl | h
    · omega
    · have := mem_sum f l x h
      omega
theorem spell_len (x : Tk) : x.t.length ≤ (spellL x).length := by
  unfold spellL
  split
  · rw [List.length_cons]; omega
  · split
    · rw [List.length_cons, List.length_append]; omega
    · split
      · rw [List.length_cons]; omega
      · exact Nat.le_refl _
/-- What the sources joined by b are read as. -/
theorem back_lex {s : List UInt8} {T : List Tk} {l c : Int} (h : (T, (0 : Int), l, c) = lexR s) (hs : s.length ≤ 2000) {b : List UInt8} (hb : Between b) (hl : b.length ≤ 20) : ∃ T', (T', (0 : Int), (0 : Int), (0 : Int)) = lexR (joinB b (T.map spellL)) ∧ T'.map Tk.bare = T.map Tk.bare ∧ (joinB b (T.map spellL)).length ≤ 50000 := by
  have hr := lexR_ok (l := s) (by rw [← h])
  have hw := wds_of (hr.symm.trans h.symm)
  have hg := hw.good
  obtain ⟨T', h1, h2⟩ := back hb T hg.1 1 1
  have hll := joinB_len b (T.map spellL)
  rw [List.map_map, List.length_map] at hll
  have h3 : (T.map (List.length ∘ spellL)).sum ≤ s.length := hg.2
  have h4 := hw.len
  have h5 : T.length * b.length ≤ 2000 * 20 := Nat.mul_le_mul (by omega) hl
  refine ⟨T', ?_, h2, by omega⟩
  have := lexL_of h1
  unfold lexR
  rw [this]
  rfl
/-- The texts joined, and read again. -/
theorem sep_both (W1 : World) (s : List UInt8) (T : List Tk) (l c : Int) (hR : (T, (0 : Int), l, c) = lexR s) (hs : s.length ≤ 2000) (B : Nat) (ov : Option Addr) (cv : Nat) (hrow : W1.ownsRow B 9 1 (.slice ov T.length cv) T.length ((T.map spellL).map fun x => .string (st x))) (b : List UInt8) (hb : Between b) (hl : b.length ≤ 20) :
    ∃ (J : ByteArray) (T' : List Tk), (∀ W, Old W1 W → Calls Tryz.prog 9 #[.slice ov T.length cv, .string (st b)] W fun e w' => e = .returned (.string J) ∧ Old W w') ∧
      (∀ W, Env W → Calls Tryz.prog 7 #[.string J] W fun e w' => (∃ oa cap, e = .returned (.tuple #[.slice oa T.length cap, .agg #[.int .i64 0, .int .i64 0], .int .i64 0]) ∧ w'.ownsRow W.heap.size 33 7 (.slice oa T.length cap) T.length (tcells T')) ∧ Old W w') ∧ T'.length = T.length ∧ T.map Tk.bare = T'.map Tk.bare := by
  obtain ⟨T', e1, e2, e3⟩ := back_lex hR hs hb hl
  have hlen : T'.length = T.length := by
    have := congrArg List.length e2
    simpa using this
  have hT : T.length ≤ 10000 := by
    have := lexR_len2 (l := s)
    rw [← hR] at this
    exact Nat.le_trans (Nat.le_trans this hs) (by decide)
  have hx : (T.map spellL).length = T.length := List.length_map ..
  refine ⟨st (joinB b (T.map spellL)), T', fun W hW => ?_, fun W hW => ?_, hlen, e2.symm⟩
  · have := join_row W B ov cv (T.map spellL) b (by rw [hx]; exact own_old hrow hW) (by rw [hx]; exact hT) (by omega)
    rw [hx] at this
    exact this
  · have := lex_at (st (joinB b (T.map spellL))) W (by rw [← size_list]; show (joinB b (T.map spellL)).length ≤ _; omega) hW _ e1
    simp only [hlen] at this
    exact this
/-- While the texts are gathered. -/
structure Jb (W0 : World) (T : List Tk) (k : Nat) (v : Value) (wr : World) : Prop where
  old : Old W0 wr
  row : ∃ oa cap, v = .slice oa k cap ∧ wr.ownsRow W0.heap.size 9 1 v k ((T.take k).map fun x => .string (st (spellL x)))

set_option maxHeartbeats 1600000 in
/-- What is none. -/
theorem back_bad (s : ByteArray) (w : World) (he : Env w) (h1 : s.size ≤ 2000) (E l c : Int) (hR : (([] : List Tk), E, l, c) = lexR s.data.toList) (hb : E ≠ 0) :
    Calls Tryz.prog 3 #[.string s] w fun e w' => e = .returned (.bool true) ∧ Old w w' := by
  have hpl : 1 ≤ l ∧ 1 ≤ c := by
    obtain ⟨⟨T, E', l', c'⟩, hT⟩ : ∃ x, lexL s.data.toList = x := ⟨_, rfl⟩
    unfold lexR at hR
    rw [hT] at hR
    simp only at hR
    split at hR
    · next h0 => 
      injection hR with g1 g2
      injection g2 with g2 g3
      exact absurd (g2.trans h0) hb
    · injection hR with g1 g2
      injection g2 with g2 g3
      injection g3 with g3 g4
      subst g2 g3 g4
      exact (wds_of hT).place hb (Nat.le_refl _) (Nat.le_refl _)
  have k1 := fun W hW => lex_at s W (by omega) hW _ hR
  have hkn := fun W hW => known_lex W hW
  have HE := Lib.hid (fun W (h : Old w W) => he.old h)
  have HO := Lib.hid (Old.refl w)
  have he1 : (E != 0) = true := by simpa using hb
  obtain ⟨hl1, hc1⟩ := hpl
  have hl2 : decide (l > 0) = true := decide_eq_true (by omega)
  have hc2 : decide (c > 0) = true := decide_eq_true (by omega)
  simp only [List.length_nil] at k1
  clear he hR
  go_enter Tryz.func3, Tryz.ntmps3
  go_wp2_with (first
      | (go_at_call 7; (with_reducible refine (k1 _ (HE.out _ HO.out)).mono ?_); rintro e w1 ⟨⟨oa, ca, rfl, r1⟩, o1⟩; have Q1 := Lib.hid (pl_new w1 l c); replace HO := Lib.hid ((HO.out.trans o1).alloc (.cells #[.int .i64 l, .int .i64 c] 25)); have p0 := Q1.out.c0; have p1 := Q1.out.c1; clear r1 o1)
      | (go_at_call 6; (with_reducible refine (hkn _ (HE.out _ HO.out)).mono ?_); rintro e w4 ⟨rfl, o4⟩; replace HO := Lib.hid (HO.out.trans o4)))
  all_goals (go_ret; exact ⟨rfl, HO.out⟩)

theorem Jb.step {W0 wr : World} {T : List Tk} {k : Nat} {v : Value} {x : Tk} (h : Jb W0 T k v wr) (hx : T[k]? = some x) {wa w' : World} (ha : Old wr wa) {g cap : Nat}
    (hown : w'.ownsRow W0.heap.size 9 1 (.slice (some ⟨g, 0, none⟩) (k + 1) cap) (k + 1) (((T.take k).map fun x => .string (st (spellL x))) ++ [.string (st (spellL x))])) (hgrow : wa.grownBy w' v.ownBlock) : Jb W0 T (k + 1) (.slice (some ⟨g, 0, none⟩) (k + 1) cap) w' := by
  obtain ⟨oa, c, hv, hr⟩ := h.row
  refine ⟨(h.old.trans ha).grown hgrow (fun j e => (own_blk hr j e).1), ⟨_, cap, rfl, ?_⟩⟩
  have e : T.take (k + 1) = T.take k ++ [x] := by rw [List.take_add_one, hx]; rfl
  rw [e, List.map_append]
  exact hown
theorem Jb.drewN {W0 : World} {T : List Tk} {k : Nat} {v : Value} {wr : World} (h : Jb W0 T k v wr) (n : Nat) : Jb W0 T k v (wr.drewN n) := by
  obtain ⟨oa, c, hv, hr⟩ := h.row
  exact ⟨h.old.drewN n, oa, c, hv, own_old hr ((Old.refl wr).drewN n)⟩
set_option maxHeartbeats 1600000 in
theorem back_ok (s : ByteArray) (w : World) (he : Env w) (h1 : s.size ≤ 2000) (T : List Tk) (l1 c1 : Int) (hR : (T, (0 : Int), l1, c1) = lexR s.data.toList) :
    Calls Tryz.prog 3 #[.string s] w fun e w' => e = .returned (.bool true) ∧ Old w w' := by
  have hr := lexR_ok (l := s.data.toList) (by rw [← hR])
  have hw := wds_of (hr.symm.trans hR.symm)
  have hN1 : T.length ≤ 2000 := by
    have := hw.len
    rw [size_list] at this
    omega
  have hsl : s.data.toList.length ≤ 2000 := by rw [size_list]; exact h1
  have hkd := hw.kinds
  have hlt := hw.rise.2
  have htl : ∀ x ∈ T, x.t.length ≤ 100000 := fun x hx => by
    have h2 : (spellL x).length ≤ _ := mem_sum (fun x => (spellL x).length) T x hx
    have h3 := hw.good.2
    have h4 := spell_len x
    omega
  have k1 := fun W hW => lex_at s W (by omega) hW _ hR
  have hkn0 := fun W hW => known_lex W hW
  have HE := Lib.hid (fun W (h : Old w W) => he.old h)
  have HO := Lib.hid (Old.refl w)
  obtain ⟨N, hN⟩ : ∃ N, N = T.length := ⟨_, rfl⟩
  simp only [← hN] at k1 hN1
  have HN := Lib.hid hN
  have HKD := Lib.hid hkd
  have HLT := Lib.hid hlt
  have HTL := Lib.hid htl
  have HR := Lib.hid hR
  clear he hR hr hw hN hkd hlt htl
  go_enter Tryz.func3, Tryz.ntmps3
  go_upto_block 0 with (first
      | (go_at_call 7; (with_reducible refine (k1 _ (HE.out _ HO.out)).mono ?_); rintro e w1 ⟨⟨oa, ca, rfl, r1⟩, o1⟩; have RA := Lib.hid (own_old r1 ((Old.refl w1).alloc (.cells #[.int .i64 l1, .int .i64 c1] 25))); replace HO := Lib.hid ((HO.out.trans o1).alloc (.cells #[.int .i64 l1, .int .i64 c1] 25)); clear r1 o1))
  have rwa0 : Rw _ (.slice oa T.length ca) T := Rw.of_row (by rw [← HN.out]; exact RA.out)
  rw [← HN.out] at rwa0
  generalize w1.alloc (.cells #[.int .i64 l1, .int .i64 c1] 25) = W0 at HO rwa0 RA ⊢
  have RWA := Lib.hid rwa0
  have hJ0 : Jb W0 T 0 (.slice none 0 0) W0 := ⟨Old.refl _, none, 0, rfl, rfl, Or.inl ⟨rfl, rfl⟩⟩
  have HJ := Lib.hid hJ0
  clear rwa0 hJ0 RA
  go_wp2
  go_loopw [6, 44] (fun v i wr => ∃ k : Nat, k ≤ N ∧ i = .int .i64 (k : Int) ∧ Hid (Jb W0 T k v wr)) (fun v i _ => (N - RowKit.intOf i).toNat)
  case atStart => exact ⟨0, Nat.zero_le _, rfl, HJ⟩
  case round =>
    clear HJ
    obtain ⟨k, hk, rfl, HJ⟩ := hrel
    obtain ⟨ov, cv, rfl, hrow⟩ := HJ.out.row
    rcases Nat.lt_or_ge k N with hkn | hkn
    · obtain ⟨x, hx⟩ : ∃ x, T[k]? = some x := ⟨_, List.getElem?_eq_getElem (by rw [← HN.out]; exact hkn)⟩
      have hxm := List.mem_iff_getElem?.2 ⟨k, hx⟩
      obtain ⟨kk, hkk, hxk⟩ := HKD.out x hxm
      have hsp := fun W => spell_any x kk hxk hkk W (HTL.out x hxm)
      obtain ⟨oa', ca', e1, _, _, h4⟩ := RWA.out.old HJ.out.old
      injection e1 with e1 z1 z2
      subst e1
      obtain ⟨ga, rfl, lga, _, c0, c1', c2', c3, c4, c5, c6⟩ := h4 k x hx
      obtain ⟨S, hS⟩ : ∃ S, S = st (spellL x) := ⟨_, rfl⟩
      rw [← hS] at hsp
      have HS := Lib.hid hS
      have HX := Lib.hid hx
      have HH := Lib.hid h4
      obtain ⟨xk, xt, xa, xb, xc, xl, xm⟩ := x
      simp only [Tk.v] at c0 c1' c2' c3 c4 c5 c6 hsp
      obtain ⟨i, hi, hz, hsz', hby⟩ := info_parts info9
      have nga : wr.heap.size ≠ ga := Nat.ne_of_gt lga
      have SV := Lib.hid (Sv.new wr (x0 := .int .u8 xk) (x1 := .string (st xt)) (x2 := .int .u8 xa) (x3 := .int .i64 xb) (x4 := .string (st xc)) (x5 := .int .i64 xl) (x6 := .int .i64 xm))
      have HA := Lib.hid ((Old.refl wr).alloc (.cells #[.int .u8 xk, .string (st xt), .int .u8 xa, .int .i64 xb, .string (st xc), .int .i64 xl, .int .i64 xm] 33))
      have HROW := Lib.hid hrow
      have L1 := Lib.hid (show (k + 1) * 16 ≤ 140737488355328 by omega)
      have L2 := Lib.hid (show k + 1 ≤ maxLen by unfold maxLen; omega)
      clear hx h4 hrow hxm z1 z2 hS lga
      go_wp2_with (first
        | (go_at_call 8; (with_reducible refine (hsp _).mono ?_); rintro e w2 ⟨rfl, o2⟩; replace SV := Lib.hid ((SV.out.old o2).old ((Old.refl w2).alloc (.cells #[.string S] 9))); replace HA := Lib.hid ((HA.out.trans o2).alloc (.cells #[.string S] 9)); have HROW2 := Lib.hid (own_old HROW.out HA.out); have NEWS := Lib.hid (World.news_of_block (MapKept.heap_alloc w2 (.cells #[.string S] 9)).1); have ONE := Lib.hid (show ∀ u ∈ (#[.string S] : Array Value).toList, u.oneCell' = true from fun u hu => by obtain rfl := List.mem_singleton.1 hu; rfl); have L3 := Lib.hid (Nat.le_trans HJ.out.old.size HA.out.size); clear o2)
        | (at_builtin; go_loud (refine wpList_append_lies _ rfl _ _ 29 rfl W0.heap.size 9 i _ 1 16 Tryz.underlying29 hi hz hsz' hby rfl (Nat.zero_lt_succ 0) (.slice ov k cv) k _ rfl HROW2.out ⟨w2.heap.size, 0, none⟩ 1 1 _ rfl rfl NEWS.out ONE.out (Nat.zero_lt_succ 0) L2.out L1.out L3.out _ rfl ?_); intro g cap w' hown hgrow hlie hlt; have HJ2 := Lib.hid (HJ.out.step HX.out HA.out (by rw [← HS.out]; exact hown) hgrow); clear hown hlie hlt))
      have hne : some wr.heap.size ≠ (Value.slice ov k cv).ownBlock := fun e => by
        have := (own_blk HROW.out _ e.symm).2.1
        omega
      have SV2 : Sv w' wr.heap.size _ _ _ _ _ _ _ := (hgrow.block _ SV.out.lt hne).trans SV.out
      have d5 := SV2.c 5
      have d6 := SV2.c 6
      obtain ⟨oa3, ca3, e3, _, _, h5⟩ := RWA.out.old HJ2.out.old
      injection e3 with e3 z1 z2
      clear z1 z2 SV2 hne hgrow HROW2 NEWS ONE L3 c0 c1' c2' c3 c4 c5 c6
      subst e3
      rcases Nat.eq_zero_or_pos k with h0 | h0
      · subst h0
        clear h5
        go_quiet (fail)
        go_wp2
        refine ⟨⟨0 + 1, by omega, by simp, Lib.hid (HJ2.out.drewN _)⟩, by simp only [RowKit.intOf]; omega⟩
      · obtain ⟨k', rfl⟩ : ∃ k', k = k' + 1 := ⟨k - 1, by omega⟩
        obtain ⟨y, hy⟩ : ∃ y, T[k']? = some y := ⟨_, List.getElem?_eq_getElem (by rw [← HN.out]; omega)⟩
        obtain ⟨gb, e4, lgb, _, _, _, _, _, _, b5, b6⟩ := h5 k' y hy
        injection e4 with e4
        injection e4 with e4 _ _
        subst e4
        have hlt : Lt y ⟨xk, xt, xa, xb, xc, xl, xm⟩ := by
          have h := List.pairwise_iff_getElem.1 HLT.out k' (k' + 1) (by rw [← HN.out]; omega) (by rw [← HN.out]; omega) (Nat.lt_succ_self _)
          have q1 := (List.getElem?_eq_some_iff.1 hy).2
          have q2 := (List.getElem?_eq_some_iff.1 HX.out).2
          rwa [q1, q2] at h
        have hlt' : y.ln < xl ∨ (y.ln = xl ∧ y.cl < xm) := hlt
        clear hlt h5 hy
        rcases hlt' with hlt | ⟨hlt, hlt2⟩
        · have m1 : ¬ xl < y.ln := by omega
          have m2 : ¬ xl = y.ln := by omega
          have m3 : (xl == y.ln) = false := by simpa using m2
          go_quiet (fail)
          go_wp2
          refine ⟨⟨k' + 1 + 1, by omega, by simp, Lib.hid (HJ2.out.drewN _)⟩, by simp only [RowKit.intOf]; omega⟩
        · rw [hlt] at b5
          have m1 : ¬ xl < xl := by omega
          have m2 : ¬ xm ≤ y.cl := by omega
          go_quiet (fail)
          go_wp2
          refine ⟨⟨k' + 1 + 1, by omega, by simp, Lib.hid (HJ2.out.drewN _)⟩, by simp only [RowKit.intOf]; omega⟩
    · obtain rfl : k = N := by omega
      clear hk hkn
      obtain ⟨W1, hW1⟩ : ∃ W1, W1 = wr := ⟨_, rfl⟩
      subst hW1
      have hall : (T.take k).map (fun x => Value.string (st (spellL x))) = (T.map spellL).map fun x => Value.string (st x) := by
        rw [HN.out, List.take_length, List.map_map]
        rfl
      rw [hall] at hrow
      have hsep := fun b hb hl => sep_both W1 s.data.toList T l1 c1 HR.out hsl W0.heap.size ov cv (by rw [← HN.out]; exact hrow) b hb hl
      rw [← HN.out] at hsep
      have s1 := hsep [32] between_sp (by decide)
      have s2 := hsep [10] between_nl (by decide)
      have s3 := hsep [32, 59, 32, 97, 32, 114, 101, 109, 97, 114, 107, 10] between_rem (by decide)
      have S1 := Lib.hid s1
      have S2 := Lib.hid s2
      have S3 := Lib.hid s3
      have HO2 := Lib.hid (HO.out.trans HJ.out.old)
      have RW2 := Lib.hid (RWA.out.old HJ.out.old)
      clear hsep hall s1 s2 s3 hrow HJ
      go_wp2
      go_loopw [97] (fun i w3 => ∃ j : Nat, j ≤ 3 ∧ i = .int .i64 (j : Int) ∧ Hid (Old W1 w3)) (fun i _ => (3 - RowKit.intOf i).toNat)
      case atStart => exact ⟨0, Nat.zero_le _, rfl, Lib.hid (Old.refl _)⟩
      case round =>
        obtain ⟨j, hj, rfl, HQ⟩ := hrel
        rcases Nat.lt_or_ge j 3 with hj3 | hj3
        · have hsep : ∃ (b : List UInt8), (∀ W, (Instr.index 35 (.agg #[.string ⟨#[32]⟩, .string ⟨#[10]⟩, .string ⟨#[32, 59, 32, 97, 32, 114, 101, 109, 97, 114, 107, 10]⟩]) (.int .i64 (j : Int))).run Tryz.prog W = .ok (.string (st b)) W) ∧ ∃ (J : ByteArray) (T' : List Tk), (∀ W, Old W1 W → Calls Tryz.prog 9 #[.slice ov k cv, .string (st b)] W fun e w' => e = .returned (.string J) ∧ Old W w') ∧
              (∀ W, Env W → Calls Tryz.prog 7 #[.string J] W fun e w' => (∃ oa cap, e = .returned (.tuple #[.slice oa k cap, .agg #[.int .i64 0, .int .i64 0], .int .i64 0]) ∧ w'.ownsRow W.heap.size 33 7 (.slice oa k cap) k (tcells T')) ∧ Old W w') ∧ T'.length = k ∧ T.map Tk.bare = T'.map Tk.bare := by
            have h3 : j = 0 ∨ j = 1 ∨ j = 2 := by omega
            rcases h3 with rfl | rfl | rfl
            · exact ⟨_, fun W => by rfl, S1.out⟩
            · exact ⟨_, fun W => by rfl, S2.out⟩
            · exact ⟨_, fun W => by rfl, S3.out⟩
          obtain ⟨b, hix, J, T', q1, q2, q3, q4⟩ := hsep
          have Q3 := Lib.hid q3
          have Q4 := Lib.hid q4
          have hj4 : (j : Int) < 3 := by omega
          clear q3 q4
          go_wp2_with (first
            | (go_at_call 9; (with_reducible refine (q1 _ HQ.out).mono ?_); rintro e w2 ⟨rfl, o2⟩; replace HQ := Lib.hid (HQ.out.trans o2); clear o2)
            | (go_at_call 7; (with_reducible refine (q2 _ (HE.out _ (HO2.out.trans HQ.out))).mono ?_); rintro e w4 ⟨⟨oc, cc, rfl, r4⟩, o4⟩; replace HQ := Lib.hid ((HQ.out.trans o4).alloc (.cells #[.int .i64 0, .int .i64 0] 25)); have rc := Rw.of_row (A := T') (by rw [Q3.out]; exact own_old r4 ((Old.refl w4).alloc (.cells #[.int .i64 0, .int .i64 0] 25))); rw [Q3.out] at rc; have RC := Lib.hid rc; have SM := Lib.hid (same_true _ _ _ T T' true (RW2.out.old HQ.out) rc (by rw [← HN.out]; omega) Q4.out); clear r4 o4 rc)
            | (go_at_call 10; (with_reducible refine SM.out.mono ?_); rintro e w5 ⟨rfl, o5⟩; replace HQ := Lib.hid (HQ.out.trans o5); clear o5))
          refine ⟨⟨j + 1, by omega, by simp, HQ⟩, by simp only [RowKit.intOf]; omega⟩
        · go_wp2_with (go_at_call 6; (with_reducible refine (hkn0 _ (HE.out _ (HO2.out.trans HQ.out))).mono ?_); rintro e w5 ⟨rfl, o5⟩; have HF := Lib.hid ((HO2.out.trans HQ.out).trans o5))
          go_ret
          exact ⟨rfl, HF.out⟩

theorem back_any (s : ByteArray) (w : World) (he : Env w) : Calls Tryz.prog 3 #[.string s] w fun e w' => e = .returned (.bool true) ∧ Old w w' := by
  by_cases h1 : s.size ≤ 2000
  case neg =>
    have hkn := known_lex w he
    go_enter Tryz.func3, Tryz.ntmps3
    go_wp2_with (go_at_call 6; (with_reducible refine hkn.mono ?_); rintro e w1 ⟨rfl, o1⟩)
    go_ret
    exact ⟨rfl, o1⟩
  obtain ⟨⟨T, E, l, c⟩, hR⟩ : ∃ x, x = lexR s.data.toList := ⟨_, rfl⟩
  by_cases e1 : E = 0
  case neg =>
    obtain rfl := lexR_nil hR e1
    exact back_bad s w he h1 E l c hR e1
  subst e1
  exact back_ok s w he h1 T l c hR
end Go.Proofs.YtclpimcejdeloaaGreatDoor
