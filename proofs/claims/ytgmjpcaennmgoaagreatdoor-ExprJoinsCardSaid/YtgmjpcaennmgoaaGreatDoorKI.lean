/- Layer expr: two trees that are the same but for places. Layer expr, plain: what is read of texts in parentheses; how often each node is below another one. Layer expr: texts in parentheses (the law's walk). Layer expr: texts in parentheses that are read (the law's walk). -/
import Derived.Test.YtgmjpcaennmgoaaGreatDoorKH
namespace Go.Proofs.YtgmjpcaennmgoaaGreatDoor
open Go.ChangeShapes Go.WideShapes Go.ChangeAt Go.RowKit Go.Lib
set_option linter.unusedVariables false
set_option linter.unusedSimpArgs false
set_option maxRecDepth 100000

theorem equal_true (w : World) {ks : List Nat} {va vb : Value} (ha : Kw w va ks) (hb : Kw w vb ks) (hl : ks.length ≤ 1000) : Calls Tryz.prog 22 #[va, vb] w fun e w' => e = .returned (.bool true) ∧ Old w w' := by
  have HA := Lib.hid ha
  have HB := Lib.hid hb
  obtain ⟨oa, ca, rfl, a1, a2, _⟩ := ha
  obtain ⟨ob, cb, rfl, b1, b2, _⟩ := hb
  obtain ⟨n, hn⟩ : ∃ n, n = ks.length := ⟨_, rfl⟩
  rw [← hn] at HA HB hl a1 b1 ⊢
  have HN := Lib.hid hn
  have HO := Lib.hid (Old.refl w)
  unfold maxLen at a2 b2
  clear hn
  go_enter Tryz.func22, Tryz.ntmps22
  go_wp2
  go_loopw [13] (fun i wr => ∃ k : Nat, k ≤ n ∧ i = .int .i64 (k : Int) ∧ Hid (Old w wr)) (fun i _ => (n - RowKit.intOf i).toNat)
  case atStart => exact ⟨0, Nat.zero_le _, rfl, HO⟩
  case round =>
    clear HO
    obtain ⟨k, hk, rfl, HO⟩ := hrel
    rcases Nat.lt_or_ge k n with hkn | hkn
    · obtain ⟨x, hx⟩ : ∃ x, ks[k]? = some x := ⟨_, List.getElem?_eq_getElem (by rw [← HN.out]; exact hkn)⟩
      obtain ⟨oa', ca', e1, _, _, h4⟩ := HA.out.old HO.out
      injection e1 with e1 z1 z2
      clear z1 z2
      subst e1
      obtain ⟨ga, rfl, lga, _, c0⟩ := h4 k x hx
      obtain ⟨ob', cb', e2, _, _, h5⟩ := HB.out.old HO.out
      injection e2 with e2 z1 z2
      clear z1 z2
      subst e2
      obtain ⟨gb, rfl, lgb, _, d0⟩ := h5 k x hx
      clear hx h4 h5 lga lgb
      go_wp2
      go_quiet (fail)
      go_wp2
      exact ⟨⟨k + 1, by omega, by simp, Lib.hid (HO.out.drewN _)⟩, by simp only [RowKit.intOf]; omega⟩
    · obtain rfl : k = n := by omega
      go_wp2
      go_ret
      exact ⟨rfl, HO.out⟩
theorem bare_eq {x y : Nd} (h : x.bare = y.bare) : x.op = y.op ∧ x.vk = y.vk ∧ x.vn = y.vn ∧ x.vs = y.vs ∧ x.nm = y.nm ∧ x.ks = y.ks := by
  unfold Nd.bare at h
  simp only [Nd.mk.injEq] at h
  exact ⟨h.1, h.2.1, h.2.2.1, h.2.2.2.1, h.2.2.2.2.1, h.2.2.2.2.2.1⟩
set_option maxHeartbeats 800000 in
theorem node_true (w : World) {op vk vn l1 c1 l2 c2 : Int} {vs nm : List UInt8} {kva kvb : Value} {ks : List Nat} (ha : Kw w kva ks) (hb : Kw w kvb ks) (hl : ks.length ≤ 1000) :
    Calls Tryz.prog 21 #[.agg #[.int .u8 op, .int .u8 vk, .int .i64 vn, .string (st vs), .string (st nm), kva, .int .i64 l1, .int .i64 c1], .agg #[.int .u8 op, .int .u8 vk, .int .i64 vn, .string (st vs), .string (st nm), kvb, .int .i64 l2, .int .i64 c2]] w fun e w' => e = .returned (.bool true) ∧ Old w w' := by
  obtain ⟨oa, ca, rfl, _⟩ := id ha
  obtain ⟨ob, cb, rfl, _⟩ := id hb
  obtain ⟨n, hn⟩ : ∃ n, n = ks.length := ⟨_, rfl⟩
  have HO := Lib.hid (((Old.refl w).alloc (.cells #[.int .u8 op, .int .u8 vk, .int .i64 vn, .string (st vs), .string (st nm), .slice oa ks.length ca, .int .i64 l1, .int .i64 c1] 37)).alloc (.cells #[.int .u8 op, .int .u8 vk, .int .i64 vn, .string (st vs), .string (st nm), .slice ob ks.length cb, .int .i64 l2, .int .i64 c2] 37))
  have HE := Lib.hid (fun W (h : Old w W) => equal_true W (ha.old h) (hb.old h) hl)
  rw [← hn] at HO HE ⊢
  clear ha hb hl hn
  go_enter Tryz.func21, Tryz.ntmps21
  go_wp2_with (go_at_call 22; (with_reducible refine (HE.out _ HO.out).mono ?_); rintro e w1 ⟨rfl, o1⟩; have HO2 := Lib.hid (HO.out.trans o1); clear o1)
  go_ret
  exact ⟨rfl, HO2.out⟩
/-- Not too long. -/
def Few (T : List Nd) : Prop := ∀ x ∈ T, x.ks.length ≤ 1000
set_option maxHeartbeats 1600000 in
theorem eqf_true (w : World) {T U : List Nd} {va vb : Value} (ha : Tw w va T) (hb : Tw w vb U) (hl : T.length ≤ 1000) (hf : Few T) (hTU : T.map Nd.bare = U.map Nd.bare) : Calls Tryz.prog 20 #[va, vb, .func (.func 21) #[] #[]] w fun e w' => e = .returned (.bool true) ∧ Old w w' := by
  have hlen : U.length = T.length := by
    have := congrArg List.length hTU
    simpa using this.symm
  have HA := Lib.hid ha
  have HB := Lib.hid hb
  have HTU := Lib.hid hTU
  obtain ⟨oa, ca, rfl, a1, a2, _⟩ := ha
  obtain ⟨ob, cb, rfl, b1, b2, _⟩ := hb
  rw [hlen] at HB b1 ⊢
  obtain ⟨n, hn⟩ : ∃ n, n = T.length := ⟨_, rfl⟩
  rw [← hn] at HA HB hl a1 b1 ⊢
  have HN := Lib.hid hn
  have HL := Lib.hid (hlen.trans hn.symm)
  have HF := Lib.hid hf
  have HO := Lib.hid (Old.refl w)
  unfold maxLen at a2 b2
  clear hn hlen hTU hf
  go_enter Tryz.func20, Tryz.ntmps20
  go_wp2
  go_loopw [17] (fun i wr => ∃ k : Nat, k ≤ n ∧ i = .int .i64 (k : Int) ∧ Hid (Old w wr)) (fun i _ => (n - RowKit.intOf i).toNat)
  case atStart => exact ⟨0, Nat.zero_le _, rfl, HO⟩
  case round =>
    clear HO
    obtain ⟨k, hk, rfl, HO⟩ := hrel
    rcases Nat.lt_or_ge k n with hkn | hkn
    · obtain ⟨x, hx⟩ : ∃ x, T[k]? = some x := ⟨_, List.getElem?_eq_getElem (by rw [← HN.out]; exact hkn)⟩
      obtain ⟨y, hy⟩ : ∃ y, U[k]? = some y := ⟨_, List.getElem?_eq_getElem (by rw [HL.out]; exact hkn)⟩
      have hxy : x.bare = y.bare := by
        have h1 : (T.map Nd.bare)[k]? = (U.map Nd.bare)[k]? := by rw [HTU.out]
        rw [List.getElem?_map, List.getElem?_map, hx, hy] at h1
        injection h1
      have hfx := HF.out x (List.mem_iff_getElem?.2 ⟨k, hx⟩)
      obtain ⟨oa', ca', e1, _, _, h4⟩ := HA.out.old HO.out
      injection e1 with e1 z1 z2
      clear z1 z2
      subst e1
      obtain ⟨ga, kva, rfl, lga, _, c0, c1, c2, c3, c4, c5, c6, c7, hka⟩ := h4 k x hx
      obtain ⟨ob', cb', e2, _, _, h5⟩ := HB.out.old HO.out
      injection e2 with e2 z1 z2
      clear z1 z2
      subst e2
      obtain ⟨gb, kvb, rfl, lgb, _, d0, d1, d2, d3, d4, d5, d6, d7, hkb⟩ := h5 k y hy
      obtain ⟨e1, e2, e3, e4, e5, e6⟩ := bare_eq hxy
      obtain ⟨op, vk, vn, vs, nm, ks, l1, p1⟩ := x
      obtain ⟨op', vk', vn', vs', nm', ks', l2, p2⟩ := y
      simp only at e1 e2 e3 e4 e5 e6 c0 c1 c2 c3 c4 c5 c6 c7 d0 d1 d2 d3 d4 d5 d6 d7 hka hkb hfx
      subst e1 e2 e3 e4 e5 e6
      obtain ⟨oka, cka, rfl, _⟩ := id hka
      obtain ⟨okb, ckb, rfl, _⟩ := id hkb
      have HV := Lib.hid (fun W (h : Old wr W) => node_true (l1 := l1) (c1 := p1) (l2 := l2) (c2 := p2) (op := op) (vk := vk) (vn := vn) (vs := vs) (nm := nm) W (hka.old h) (hkb.old h) (by rw [List.length_map]; exact hfx))
      rw [List.length_map] at HV c5 d5
      obtain ⟨K, hK⟩ : ∃ K, K = ks.length := ⟨_, rfl⟩
      rw [← hK] at HV c5 d5
      have na : wr.heap.size ≠ ga := Nat.ne_of_gt lga
      have nb : wr.heap.size ≠ gb := Nat.ne_of_gt lgb
      have na2 : wr.heap.size + 1 ≠ ga := by omega
      have nb2 : wr.heap.size + 1 ≠ gb := by omega
      have HO2 := Lib.hid (((Old.refl wr).alloc (.cells #[.int .u8 op, .int .u8 vk, .int .i64 vn, .string (st vs), .string (st nm), .slice oka K cka, .int .i64 l1, .int .i64 p1] 37)).alloc (.cells #[.int .u8 op, .int .u8 vk, .int .i64 vn, .string (st vs), .string (st nm), .slice okb K ckb, .int .i64 l2, .int .i64 p2] 37))
      have hO1 := (Old.refl wr).alloc (.cells #[.int .u8 op, .int .u8 vk, .int .i64 vn, .string (st vs), .string (st nm), .slice oka K cka, .int .i64 l1, .int .i64 p1] 37)
      replace d0 := hO1.c lgb d0
      replace d1 := hO1.c lgb d1
      replace d2 := hO1.c lgb d2
      replace d3 := hO1.c lgb d3
      replace d4 := hO1.c lgb d4
      replace d5 := hO1.c lgb d5
      replace d6 := hO1.c lgb d6
      replace d7 := hO1.c lgb d7
      clear hx hy hxy h4 h5 lga lgb hka hkb hfx hK hO1
      go_wp2_with (go_at_call 21; (with_reducible refine (HV.out _ HO2.out).mono ?_); rintro e w1 ⟨rfl, o1⟩; have HO3 := Lib.hid ((HO.out.trans HO2.out).trans o1); clear o1)
      exact ⟨⟨k + 1, by omega, by simp, HO3⟩, by simp only [RowKit.intOf]; omega⟩
    · obtain rfl : k = n := by omega
      go_wp2
      go_ret
      exact ⟨rfl, HO.out⟩
theorem esame_true (w : World) {T U : List Nd} {va vb : Value} (ha : Tw w va T) (hb : Tw w vb U) (hl : T.length ≤ 1000) (hf : Few T) (hTU : T.map Nd.bare = U.map Nd.bare) : Calls Tryz.prog 11 #[va, vb] w fun e w' => e = .returned (.bool true) ∧ Old w w' := by
  have h := eqf_true w ha hb hl hf hTU
  clear ha hb
  go_enter Tryz.func11, Tryz.ntmps11
  go_wp2_with (go_at_call 20; refine h.mono ?_; rintro e w1 ⟨rfl, o1⟩; have O1 := Lib.hid o1; clear o1)
  go_ret
  exact ⟨rfl, O1.out⟩
theorem Nb.old {w w' : World} {p : Nat} {x : Nd} {kv : Value} (h : Nb w p x kv) (ho : Old w w') : Nb w' p x kv := (ho.block p (blk_lt h)).trans h
set_option maxHeartbeats 3200000 in
theorem rsame_true (w : World) {T U : List Nd} {va vb : Value} (bare : Bool) (ha : Tw w va T) (hb : Tw w vb U) (hl : T.length ≤ 1000) (hf : Few T) (hTU : if bare then T.map Nd.bare = U.map Nd.bare else T = U) : Calls Tryz.prog 10 #[va, vb, .bool bare] w fun e w' => e = .returned (.bool true) ∧ Old w w' := by
  have hlen : U.length = T.length := by
    cases bare with
    | true => have := congrArg List.length hTU; simpa using this.symm
    | false => have := congrArg List.length hTU; simpa using this.symm
  have HA := Lib.hid ha
  have HB := Lib.hid hb
  have HTU := Lib.hid hTU
  obtain ⟨oa, ca, rfl, a1, a2, _⟩ := ha
  obtain ⟨ob, cb, rfl, b1, b2, _⟩ := hb
  rw [hlen] at HB b1 ⊢
  obtain ⟨n, hn⟩ : ∃ n, n = T.length := ⟨_, rfl⟩
  rw [← hn] at HA HB hl a1 b1 ⊢
  have HN := Lib.hid hn
  have HL := Lib.hid (hlen.trans hn.symm)
  have HF := Lib.hid hf
  have HO := Lib.hid (Old.refl w)
  unfold maxLen at a2 b2
  clear hn hlen hTU hf
  go_enter Tryz.func10, Tryz.ntmps10
  go_wp2
  go_loopw [7] (fun i wr => ∃ k : Nat, k ≤ n ∧ i = .int .i64 (k : Int) ∧ Hid (Old w wr)) (fun i _ => (n - RowKit.intOf i).toNat)
  case atStart => exact ⟨0, Nat.zero_le _, rfl, HO⟩
  case round =>
    clear HO
    obtain ⟨k, hk, rfl, HO⟩ := hrel
    rcases Nat.lt_or_ge k n with hkn | hkn
    · obtain ⟨x, hx⟩ : ∃ x, T[k]? = some x := ⟨_, List.getElem?_eq_getElem (by rw [← HN.out]; exact hkn)⟩
      obtain ⟨y, hy⟩ : ∃ y, U[k]? = some y := ⟨_, List.getElem?_eq_getElem (by rw [HL.out]; exact hkn)⟩
      have hxy : x.bare = y.bare ∧ (bare = false → x.ln = y.ln ∧ x.cl = y.cl) := by
        have h := HTU.out
        cases bare with
        | true =>
          have h1 : (T.map Nd.bare)[k]? = (U.map Nd.bare)[k]? := by rw [show T.map Nd.bare = U.map Nd.bare from h]
          rw [List.getElem?_map, List.getElem?_map, hx, hy] at h1
          injection h1 with h1
          exact ⟨h1, fun h => by cases h⟩
        | false =>
          have h1 : T[k]? = U[k]? := by rw [show T = U from h]
          rw [hx, hy] at h1
          injection h1 with h1
          subst h1
          exact ⟨rfl, fun _ => ⟨rfl, rfl⟩⟩
      obtain ⟨hxy, hpl⟩ := hxy
      have hfx := HF.out x (List.mem_iff_getElem?.2 ⟨k, hx⟩)
      obtain ⟨oa', ca', e1, _, _, h4⟩ := HA.out.old HO.out
      injection e1 with e1 z1 z2
      clear z1 z2
      subst e1
      obtain ⟨ga, kva, rfl, lga, _, c0, c1, c2, c3, c4, c5, c6, c7, hka⟩ := h4 k x hx
      obtain ⟨ob', cb', e2, _, _, h5⟩ := HB.out.old HO.out
      injection e2 with e2 z1 z2
      clear z1 z2
      subst e2
      obtain ⟨gb, kvb, rfl, lgb, _, d0, d1, d2, d3, d4, d5, d6, d7, hkb⟩ := h5 k y hy
      obtain ⟨e1, e2, e3, e4, e5, e6⟩ := bare_eq hxy
      obtain ⟨op, vk, vn, vs, nm, ks, l1, p1⟩ := x
      obtain ⟨op', vk', vn', vs', nm', ks', l2, p2⟩ := y
      simp only at e1 e2 e3 e4 e5 e6 c0 c1 c2 c3 c4 c5 c6 c7 d0 d1 d2 d3 d4 d5 d6 d7 hka hkb hfx hpl
      subst e1 e2 e3 e4 e5 e6
      obtain ⟨oka, cka, rfl, _, _, _⟩ := id hka
      obtain ⟨okb, ckb, rfl, _, _, _⟩ := id hkb
      rw [List.length_map] at c5 d5 hka hkb
      obtain ⟨K, hK⟩ : ∃ K, K = ks.length := ⟨_, rfl⟩
      rw [← hK] at c5 d5 hka hkb hfx
      have HK := Lib.hid hK
      have HKA := Lib.hid hka
      have HKB := Lib.hid hkb
      have HPL := Lib.hid hpl
      have na : wr.heap.size ≠ ga := Nat.ne_of_gt lga
      have nb : wr.heap.size ≠ gb := Nat.ne_of_gt lgb
      have na2 : wr.heap.size + 1 ≠ ga := by omega
      have nb2 : wr.heap.size + 1 ≠ gb := by omega
      clear hx hy hxy h4 h5 lga lgb hka hkb hK hpl
      go_wp2
      go_region_held3 (fun w' => w'.cell? ⟨ga, k * 8, none⟩ = some (.int .u8 op) ∧ w'.cell? ⟨ga, k * 8 + 1, none⟩ = some (.int .u8 vk) ∧ w'.cell? ⟨ga, k * 8 + 2, none⟩ = some (.int .i64 vn) ∧ w'.cell? ⟨ga, k * 8 + 3, none⟩ = some (.string (st vs)) ∧ w'.cell? ⟨ga, k * 8 + 4, none⟩ = some (.string (st nm)) ∧ w'.cell? ⟨ga, k * 8 + 5, none⟩ = some (.slice oka K cka) ∧ w'.cell? ⟨ga, k * 8 + 6, none⟩ = some (.int .i64 l1) ∧ w'.cell? ⟨ga, k * 8 + 7, none⟩ = some (.int .i64 p1) ∧ w'.cell? ⟨gb, k * 8, none⟩ = some (.int .u8 op) ∧ w'.cell? ⟨gb, k * 8 + 1, none⟩ = some (.int .u8 vk) ∧ w'.cell? ⟨gb, k * 8 + 2, none⟩ = some (.int .i64 vn) ∧ w'.cell? ⟨gb, k * 8 + 3, none⟩ = some (.string (st vs)) ∧ w'.cell? ⟨gb, k * 8 + 4, none⟩ = some (.string (st nm)) ∧ w'.cell? ⟨gb, k * 8 + 5, none⟩ = some (.slice okb K ckb) ∧ w'.cell? ⟨gb, k * 8 + 6, none⟩ = some (.int .i64 l2) ∧ w'.cell? ⟨gb, k * 8 + 7, none⟩ = some (.int .i64 p2))
        (first | with_reducible exact ⟨c0, c1, c2, c3, c4, c5, c6, c7, d0, d1, d2, d3, d4, d5, d6, d7⟩ | go_keep)
        (fail)
      · have hs0 : (wr.alloc (.cells #[.int .u8 op, .int .u8 vk, .int .i64 vn, .string (st vs), .string (st nm), .slice oka K cka, .int .i64 l1, .int .i64 p1] 37)).heap.size = wr.heap.size + 1 := sz_alloc _ _
        have hP : Nb ((wr.alloc (.cells #[.int .u8 op, .int .u8 vk, .int .i64 vn, .string (st vs), .string (st nm), .slice oka K cka, .int .i64 l1, .int .i64 p1] 37)).alloc (.cells #[.int .u8 op, .int .u8 vk, .int .i64 vn, .string (st vs), .string (st nm), .slice okb K ckb, .int .i64 l2, .int .i64 p2] 37)).drew wr.heap.size ⟨op, vk, vn, vs, nm, ks, l1, p1⟩ (.slice oka K cka) := (((Old.refl _).alloc (.cells #[.int .u8 op, .int .u8 vk, .int .i64 vn, .string (st vs), .string (st nm), .slice okb K ckb, .int .i64 l2, .int .i64 p2] 37)).block _ (blk_lt (MapKept.heap_alloc wr (.cells #[.int .u8 op, .int .u8 vk, .int .i64 vn, .string (st vs), .string (st nm), .slice oka K cka, .int .i64 l1, .int .i64 p1] 37)).1)).trans (MapKept.heap_alloc wr (.cells #[.int .u8 op, .int .u8 vk, .int .i64 vn, .string (st vs), .string (st nm), .slice oka K cka, .int .i64 l1, .int .i64 p1] 37)).1
        have hQ : Nb ((wr.alloc (.cells #[.int .u8 op, .int .u8 vk, .int .i64 vn, .string (st vs), .string (st nm), .slice oka K cka, .int .i64 l1, .int .i64 p1] 37)).alloc (.cells #[.int .u8 op, .int .u8 vk, .int .i64 vn, .string (st vs), .string (st nm), .slice okb K ckb, .int .i64 l2, .int .i64 p2] 37)).drew (wr.alloc (.cells #[.int .u8 op, .int .u8 vk, .int .i64 vn, .string (st vs), .string (st nm), .slice oka K cka, .int .i64 l1, .int .i64 p1] 37)).heap.size ⟨op, vk, vn, vs, nm, ks, l2, p2⟩ (.slice okb K ckb) := (MapKept.heap_alloc _ (.cells #[.int .u8 op, .int .u8 vk, .int .i64 vn, .string (st vs), .string (st nm), .slice okb K ckb, .int .i64 l2, .int .i64 p2] 37)).1
        rw [hs0] at hQ
        have hW := (((Old.refl wr).alloc (.cells #[.int .u8 op, .int .u8 vk, .int .i64 vn, .string (st vs), .string (st nm), .slice oka K cka, .int .i64 l1, .int .i64 p1] 37)).alloc (.cells #[.int .u8 op, .int .u8 vk, .int .i64 vn, .string (st vs), .string (st nm), .slice okb K ckb, .int .i64 l2, .int .i64 p2] 37)).drew
        have HKA2 := Lib.hid (HKA.out.old hW)
        have HKB2 := Lib.hid (HKB.out.old hW)
        replace hW := HO.out.trans hW
        generalize World.drew (World.alloc (World.alloc wr (.cells #[.int .u8 op, .int .u8 vk, .int .i64 vn, .string (st vs), .string (st nm), .slice oka K cka, .int .i64 l1, .int .i64 p1] 37)) (.cells #[.int .u8 op, .int .u8 vk, .int .i64 vn, .string (st vs), .string (st nm), .slice okb K ckb, .int .i64 l2, .int .i64 p2] 37)) = W7 at hP hQ hW HKA2 HKB2 ⊢
        have HW := Lib.hid hW
        have HP := Lib.hid hP
        have HQ := Lib.hid hQ
        generalize wr.heap.size + 1 = q at hQ HQ ⊢
        have r0 := hP.c 0
        have r1 := hP.c 1
        have r2 := hP.c 2
        have r3 := hP.c 3
        have r4 := hP.c 4
        have r5 := hP.c 5
        have r6 := hP.c 6
        have r7 := hP.c 7
        have i0 := hQ.c 0
        have i1 := hQ.c 1
        have i2 := hQ.c 2
        have i3 := hQ.c 3
        have i4 := hQ.c 4
        have i5 := hQ.c 5
        have i6 := hQ.c 6
        have i7 := hQ.c 7
        clear hP hQ hW hs0 c0 c1 c2 c3 c4 c5 c6 c7 d0 d1 d2 d3 d4 d5 d6 d7 na nb na2 nb2
        cases bare with
        | false =>
          obtain ⟨rfl, rfl⟩ := HPL.out rfl
          go_wp2
          go_loopw [10] (fun i wr2 => ∃ j : Nat, j ≤ K ∧ i = .int .i64 (j : Int) ∧ Hid (Old W7 wr2)) (fun i _ => (K - RowKit.intOf i).toNat)
          case atStart => exact ⟨0, Nat.zero_le _, rfl, Lib.hid (Old.refl W7)⟩
          case round =>
            obtain ⟨j, hj, rfl, HJ⟩ := hrel
            have z5 := (HP.out.old HJ.out).c5
            have y5 := (HQ.out.old HJ.out).c5
            clear r0 r1 r2 r3 r4 r5 r6 r7 i0 i1 i2 i3 i4 i5 i6 i7
            rcases Nat.lt_or_ge j K with hjk | hjk
            · obtain ⟨x, hx⟩ : ∃ x, (ks.map (k - ·))[j]? = some x := ⟨_, List.getElem?_eq_getElem (by rw [List.length_map, ← HK.out]; exact hjk)⟩
              obtain ⟨ok1, ck1, e1, _, _, h4⟩ := HKA2.out.old HJ.out
              injection e1 with e1 z1 z2
              clear z1 z2
              subst e1
              obtain ⟨g1, rfl, lg1, _, m0⟩ := h4 j x hx
              obtain ⟨ok2, ck2, e2, _, _, h5⟩ := HKB2.out.old HJ.out
              injection e2 with e2 z1 z2
              clear z1 z2
              subst e2
              obtain ⟨g2, rfl, lg2, _, m1⟩ := h5 j x hx
              clear hx h4 h5 lg1 lg2
              go_wp2
              go_quiet (fail)
              go_wp2
              exact ⟨⟨j + 1, by omega, by simp, Lib.hid (HJ.out.drewN _)⟩, by simp only [RowKit.intOf]; omega⟩
            · obtain rfl : j = K := by omega
              go_wp2
              exact ⟨⟨k + 1, hkn, by simp, Lib.hid (HW.out.trans HJ.out)⟩, by simp only [RowKit.intOf]; omega⟩
        | true =>
          go_wp2
          go_loopw [10] (fun i wr2 => ∃ j : Nat, j ≤ K ∧ i = .int .i64 (j : Int) ∧ Hid (Old W7 wr2)) (fun i _ => (K - RowKit.intOf i).toNat)
          case atStart => exact ⟨0, Nat.zero_le _, rfl, Lib.hid (Old.refl W7)⟩
          case round =>
            obtain ⟨j, hj, rfl, HJ⟩ := hrel
            have z5 := (HP.out.old HJ.out).c5
            have y5 := (HQ.out.old HJ.out).c5
            clear r0 r1 r2 r3 r4 r5 r6 r7 i0 i1 i2 i3 i4 i5 i6 i7
            rcases Nat.lt_or_ge j K with hjk | hjk
            · obtain ⟨x, hx⟩ : ∃ x, (ks.map (k - ·))[j]? = some x := ⟨_, List.getElem?_eq_getElem (by rw [List.length_map, ← HK.out]; exact hjk)⟩
              obtain ⟨ok1, ck1, e1, _, _, h4⟩ := HKA2.out.old HJ.out
              injection e1 with e1 z1 z2
              clear z1 z2
              subst e1
              obtain ⟨g1, rfl, lg1, _, m0⟩ := h4 j x hx
              obtain ⟨ok2, ck2, e2, _, _, h5⟩ := HKB2.out.old HJ.out
              injection e2 with e2 z1 z2
              clear z1 z2
              subst e2
              obtain ⟨g2, rfl, lg2, _, m1⟩ := h5 j x hx
              clear hx h4 h5 lg1 lg2
              go_wp2
              go_quiet (fail)
              go_wp2
              exact ⟨⟨j + 1, by omega, by simp, Lib.hid (HJ.out.drewN _)⟩, by simp only [RowKit.intOf]; omega⟩
            · obtain rfl : j = K := by omega
              go_wp2
              exact ⟨⟨k + 1, hkn, by simp, Lib.hid (HW.out.trans HJ.out)⟩, by simp only [RowKit.intOf]; omega⟩
      · have hs0 : (wr.alloc (.cells #[.int .u8 op, .int .u8 vk, .int .i64 vn, .string (st vs), .string (st nm), .slice okb K ckb, .int .i64 l2, .int .i64 p2] 37)).heap.size = wr.heap.size + 1 := sz_alloc _ _
        have hP : Nb ((wr.alloc (.cells #[.int .u8 op, .int .u8 vk, .int .i64 vn, .string (st vs), .string (st nm), .slice okb K ckb, .int .i64 l2, .int .i64 p2] 37)).alloc (.cells #[.int .u8 op, .int .u8 vk, .int .i64 vn, .string (st vs), .string (st nm), .slice oka K cka, .int .i64 l1, .int .i64 p1] 37)).drew wr.heap.size ⟨op, vk, vn, vs, nm, ks, l2, p2⟩ (.slice okb K ckb) := (((Old.refl _).alloc (.cells #[.int .u8 op, .int .u8 vk, .int .i64 vn, .string (st vs), .string (st nm), .slice oka K cka, .int .i64 l1, .int .i64 p1] 37)).block _ (blk_lt (MapKept.heap_alloc wr (.cells #[.int .u8 op, .int .u8 vk, .int .i64 vn, .string (st vs), .string (st nm), .slice okb K ckb, .int .i64 l2, .int .i64 p2] 37)).1)).trans (MapKept.heap_alloc wr (.cells #[.int .u8 op, .int .u8 vk, .int .i64 vn, .string (st vs), .string (st nm), .slice okb K ckb, .int .i64 l2, .int .i64 p2] 37)).1
        have hQ : Nb ((wr.alloc (.cells #[.int .u8 op, .int .u8 vk, .int .i64 vn, .string (st vs), .string (st nm), .slice okb K ckb, .int .i64 l2, .int .i64 p2] 37)).alloc (.cells #[.int .u8 op, .int .u8 vk, .int .i64 vn, .string (st vs), .string (st nm), .slice oka K cka, .int .i64 l1, .int .i64 p1] 37)).drew (wr.alloc (.cells #[.int .u8 op, .int .u8 vk, .int .i64 vn, .string (st vs), .string (st nm), .slice okb K ckb, .int .i64 l2, .int .i64 p2] 37)).heap.size ⟨op, vk, vn, vs, nm, ks, l1, p1⟩ (.slice oka K cka) := (MapKept.heap_alloc _ (.cells #[.int .u8 op, .int .u8 vk, .int .i64 vn, .string (st vs), .string (st nm), .slice oka K cka, .int .i64 l1, .int .i64 p1] 37)).1
        rw [hs0] at hQ
        have hW := (((Old.refl wr).alloc (.cells #[.int .u8 op, .int .u8 vk, .int .i64 vn, .string (st vs), .string (st nm), .slice okb K ckb, .int .i64 l2, .int .i64 p2] 37)).alloc (.cells #[.int .u8 op, .int .u8 vk, .int .i64 vn, .string (st vs), .string (st nm), .slice oka K cka, .int .i64 l1, .int .i64 p1] 37)).drew
        have HKA2 := Lib.hid (HKA.out.old hW)
        have HKB2 := Lib.hid (HKB.out.old hW)
        replace hW := HO.out.trans hW
        generalize World.drew (World.alloc (World.alloc wr (.cells #[.int .u8 op, .int .u8 vk, .int .i64 vn, .string (st vs), .string (st nm), .slice okb K ckb, .int .i64 l2, .int .i64 p2] 37)) (.cells #[.int .u8 op, .int .u8 vk, .int .i64 vn, .string (st vs), .string (st nm), .slice oka K cka, .int .i64 l1, .int .i64 p1] 37)) = W7 at hP hQ hW HKA2 HKB2 ⊢
        have HW := Lib.hid hW
        have HP := Lib.hid hP
        have HQ := Lib.hid hQ
        generalize wr.heap.size + 1 = q at hQ HQ ⊢
        have r0 := hP.c 0
        have r1 := hP.c 1
        have r2 := hP.c 2
        have r3 := hP.c 3
        have r4 := hP.c 4
        have r5 := hP.c 5
        have r6 := hP.c 6
        have r7 := hP.c 7
        have i0 := hQ.c 0
        have i1 := hQ.c 1
        have i2 := hQ.c 2
        have i3 := hQ.c 3
        have i4 := hQ.c 4
        have i5 := hQ.c 5
        have i6 := hQ.c 6
        have i7 := hQ.c 7
        clear hP hQ hW hs0 c0 c1 c2 c3 c4 c5 c6 c7 d0 d1 d2 d3 d4 d5 d6 d7 na nb na2 nb2
        cases bare with
        | false =>
          obtain ⟨rfl, rfl⟩ := HPL.out rfl
          go_wp2
          go_loopw [10] (fun i wr2 => ∃ j : Nat, j ≤ K ∧ i = .int .i64 (j : Int) ∧ Hid (Old W7 wr2)) (fun i _ => (K - RowKit.intOf i).toNat)
          case atStart => exact ⟨0, Nat.zero_le _, rfl, Lib.hid (Old.refl W7)⟩
          case round =>
            obtain ⟨j, hj, rfl, HJ⟩ := hrel
            have z5 := (HP.out.old HJ.out).c5
            have y5 := (HQ.out.old HJ.out).c5
            clear r0 r1 r2 r3 r4 r5 r6 r7 i0 i1 i2 i3 i4 i5 i6 i7
            rcases Nat.lt_or_ge j K with hjk | hjk
            · obtain ⟨x, hx⟩ : ∃ x, (ks.map (k - ·))[j]? = some x := ⟨_, List.getElem?_eq_getElem (by rw [List.length_map, ← HK.out]; exact hjk)⟩
              obtain ⟨ok1, ck1, e1, _, _, h4⟩ := HKA2.out.old HJ.out
              injection e1 with e1 z1 z2
              clear z1 z2
              subst e1
              obtain ⟨g1, rfl, lg1, _, m0⟩ := h4 j x hx
              obtain ⟨ok2, ck2, e2, _, _, h5⟩ := HKB2.out.old HJ.out
              injection e2 with e2 z1 z2
              clear z1 z2
              subst e2
              obtain ⟨g2, rfl, lg2, _, m1⟩ := h5 j x hx
              clear hx h4 h5 lg1 lg2
              go_wp2
              go_quiet (fail)
              go_wp2
              exact ⟨⟨j + 1, by omega, by simp, Lib.hid (HJ.out.drewN _)⟩, by simp only [RowKit.intOf]; omega⟩
            · obtain rfl : j = K := by omega
              go_wp2
              exact ⟨⟨k + 1, hkn, by simp, Lib.hid (HW.out.trans HJ.out)⟩, by simp only [RowKit.intOf]; omega⟩
        | true =>
          go_wp2
          go_loopw [10] (fun i wr2 => ∃ j : Nat, j ≤ K ∧ i = .int .i64 (j : Int) ∧ Hid (Old W7 wr2)) (fun i _ => (K - RowKit.intOf i).toNat)
          case atStart => exact ⟨0, Nat.zero_le _, rfl, Lib.hid (Old.refl W7)⟩
          case round =>
            obtain ⟨j, hj, rfl, HJ⟩ := hrel
            have z5 := (HP.out.old HJ.out).c5
            have y5 := (HQ.out.old HJ.out).c5
            clear r0 r1 r2 r3 r4 r5 r6 r7 i0 i1 i2 i3 i4 i5 i6 i7
            rcases Nat.lt_or_ge j K with hjk | hjk
            · obtain ⟨x, hx⟩ : ∃ x, (ks.map (k - ·))[j]? = some x := ⟨_, List.getElem?_eq_getElem (by rw [List.length_map, ← HK.out]; exact hjk)⟩
              obtain ⟨ok1, ck1, e1, _, _, h4⟩ := HKA2.out.old HJ.out
              injection e1 with e1 z1 z2
              clear z1 z2
              subst e1
              obtain ⟨g1, rfl, lg1, _, m0⟩ := h4 j x hx
              obtain ⟨ok2, ck2, e2, _, _, h5⟩ := HKB2.out.old HJ.out
              injection e2 with e2 z1 z2
              clear z1 z2
              subst e2
              obtain ⟨g2, rfl, lg2, _, m1⟩ := h5 j x hx
              clear hx h4 h5 lg1 lg2
              go_wp2
              go_quiet (fail)
              go_wp2
              exact ⟨⟨j + 1, by omega, by simp, Lib.hid (HJ.out.drewN _)⟩, by simp only [RowKit.intOf]; omega⟩
            · obtain rfl : j = K := by omega
              go_wp2
              exact ⟨⟨k + 1, hkn, by simp, Lib.hid (HW.out.trans HJ.out)⟩, by simp only [RowKit.intOf]; omega⟩
    · obtain rfl : k = n := by omega
      go_wp2
      go_ret
      exact ⟨rfl, HO.out⟩
end Go.Proofs.YtgmjpcaennmgoaaGreatDoor
namespace Go.Proofs.YtgmjpcaennmgoaaGreatDoor
open Go.ChangeShapes Go.WideShapes Go.ChangeAt Go.RowKit Go.Lib
set_option linter.unusedVariables false
set_option linter.unusedSimpArgs false
set_option maxRecDepth 100000

theorem inL_nil (L : Nat) : inL L [] = 0 := by simp [inL, inT, wordL, Tk.zero, isT]
/-- A word that opens. -/
def Opn (p : Tk) : Prop := p.k = 7 ∧ p.t = [40]
theorem opn_pre {p : Tk} (h : Opn p) (l : List Tk) (L : Nat) : isL (preW L) (p :: l) = false := by
  unfold isL isT preW
  show ((p.k == 1 || p.k == 7) && p.t == _) = false
  rw [h.2]
  split <;> simp
/-- What was read is read again in parentheses, or it is too deep. -/
theorem grp {F : Nat} {A T2 l e : List Tk} {T : List Nd} {p : Tk} (hP : P F (.lvl 0) 0 A = .ok T []) (he : Cl e) (hq : Bq e A l) (hp : Opn p) :
    ∃ Y, Ev (.lvl 7) 0 (p :: l) Y ∧ ((∃ (ns' : List Nd) (r' : List Tk), Y = .ok ns' r'.tail ∧ ns'.map Nd.bare = T.map Nd.bare ∧ r'.map Tk.bare = e) ∨ ∃ r', Y = .no 12 r') := by
  have h := ext he F _ _ 0 1 A l T [] (.lvl 0) (by omega) (by omega) hq hP
  rcases h with ⟨ns', r', h1, h2, h3⟩ | ⟨r', h1⟩
  · have hs : isL [41] r' = true := by
      obtain ⟨k1, k2⟩ := h3.nil he
      unfold isL isT
      rw [k1, k2]
      rfl
    have h3' : r'.map Tk.bare = e := by simpa [Bq] using h3
    have hX : ((Rz.ok ns' r').bnd fun ns r => if isL [41] r then .ok ns r.tail else .no 4 r) = .ok ns' r'.tail := if_pos hs
    have hev : Ev (.lvl 0) (0 + 1) (p :: l).tail (.ok ns' r') := ⟨ok_in, F, h1⟩
    have := Ev.group (o := 0) (l := p :: l) hp.1 hp.2 (by decide) hev (by rw [hX]; exact ok_in)
    rw [hX] at this
    exact ⟨_, this, Or.inl ⟨ns', r', rfl, h2, h3'⟩⟩
  · have hev : Ev (.lvl 0) (0 + 1) (p :: l).tail (.no 12 r') := ⟨no_in, F, h1⟩
    have := Ev.group (o := 0) (l := p :: l) hp.1 hp.2 (by decide) hev (by exact no_in)
    exact ⟨_, this, Or.inr ⟨r', rfl⟩⟩
/-- Up to a level, where nothing more belongs to it. -/
theorem rise_ok {p : Tk} {l : List Tk} {ns : List Nd} {r : List Tk} {M : Nat} (hp : Opn p) (K d : Nat) (hd : K + d = M) (hM : M ≤ 7) (h : Ev (.lvl M) 0 (p :: l) (.ok ns r)) (hr : ∀ L, K ≤ L → L < M → (L = 2 ∨ L = 6) ∨ inL L r = 0) : Ev (.lvl K) 0 (p :: l) (.ok ns r) := by
  subst hd
  exact Ev.rise d hM h (fun L h1 h2 => ⟨hr L h1 h2, fun _ => opn_pre hp l L⟩)
theorem rise_no {p : Tk} {l : List Tk} {er : Int} {r : List Tk} {M : Nat} (hp : Opn p) (K d : Nat) (hd : K + d = M) (hM : M ≤ 7) (h : Ev (.lvl M) 0 (p :: l) (.no er r)) : Ev (.lvl K) 0 (p :: l) (.no er r) := by
  subst hd
  exact Ev.rise d hM h (fun L h1 h2 => fun _ => opn_pre hp l L)
theorem lexR_of {l : List UInt8} {T : List Tk} {a b : Int} (h : Wds l 1 1 T 0 a b) : lexR l = (T, 0, a, b) := by
  have e := wds_of (show lexL l = ((lexL l).1, (lexL l).2.1, (lexL l).2.2.1, (lexL l).2.2.2) from rfl)
  obtain ⟨h1, h2, h3, h4⟩ := h.det e
  have e2 : lexL l = (T, 0, a, b) := by
    rw [h1, h2, h3, h4]
  unfold lexR
  rw [e2]
  rfl
theorem lexR_wds {l : List UInt8} (h : (lexR l).2.1 = 0) : Wds l 1 1 (lexR l).1 0 (lexR l).2.2.1 (lexR l).2.2.2 := by
  have e : lexR l = lexL l := by
    unfold lexR at h ⊢
    split at h
    · rename_i h0
      rw [if_pos h0]
    · rename_i h0
      exact absurd h h0
  rw [e] at h ⊢
  rw [← h]
  exact wds_of rfl
/-- A text in parentheses. -/
theorem wrap_read {s : List UInt8} (hs : s.length ≤ 60000) {T : List Nd} (h : readP s = (T, 0, 0, 0)) : (∃ U, readP (wrapB s) = (U, 0, 0, 0) ∧ U.map Nd.bare = T.map Nd.bare) ∨ ∃ ln cl, readP (wrapB s) = ([], ln, cl, 12) := by
  obtain ⟨_, _, h60, _, _, hE, hP⟩ := readP_good hs h
  obtain ⟨T2, c, hw, hb, hc⟩ := wrap_words (lexR_wds hE) 1 1
  have hR := lexR_of hw
  have hq : Bq [sgT 41 0 0] (lexR s).1 (T2 ++ [c]) := by
    unfold Bq
    rw [List.map_append, hb, List.map_cons, List.map_nil, hc]
  obtain ⟨Y, hY, hh⟩ := grp (T2 := T2) (F := fuelOf (lexR s).1) (p := sgT 40 1 1) hP ⟨_, _, rfl, rfl, rfl⟩ hq ⟨rfl, rfl⟩
  rcases hh with ⟨ns', r', rfl, h1, h2⟩ | ⟨r', rfl⟩
  · have ht : r'.tail = [] := by
      have := congrArg List.length h2
      simp at this
      exact List.eq_nil_of_length_eq_zero (by rw [List.length_tail]; omega)
    rw [ht] at hY
    have := (rise_ok ⟨rfl, rfl⟩ 0 7 rfl (Nat.le_refl _) hY (fun L _ _ => Or.inr (inL_nil L))).whole
    refine Or.inl ⟨ns', ?_, h1⟩
    have hl := len_bare h1
    unfold readP
    rw [hR]
    simp only [ne_eq, not_true_eq_false, if_false]
    rw [this]
    simp only
    rw [if_neg (by omega), if_neg (by simp)]
  · have := (rise_no ⟨rfl, rfl⟩ 0 7 rfl (Nat.le_refl _) hY).whole
    refine Or.inr ⟨(placeL (sgT 40 1 1 :: (T2 ++ [c])) ((sgT 40 1 1 :: (T2 ++ [c])).length - r'.length)).1, (placeL (sgT 40 1 1 :: (T2 ++ [c])) ((sgT 40 1 1 :: (T2 ++ [c])).length - r'.length)).2, ?_⟩
    unfold readP
    rw [hR]
    simp only [ne_eq, not_true_eq_false, if_false]
    rw [this]

/-- The nodes that no other one has yet, the last one first. -/
def tops : Nat → List Nat → List Nat
  | _, [] => []
  | p, g :: s => (p - 1) :: tops g s
/-- All the nodes that nodes have. -/
def allKids : List Nd → Nat → List Nat
  | [], _ => []
  | x :: l, i => x.ks.map (i - ·) ++ allKids l (i + 1)
theorem pops_tops {i : Nat} : ∀ (ds : List Nat) (f : Nat) (s : List Nat) (f' : Nat) (s' : List Nat), pops i ds f s = some (f', s') → tops f s = ds.map (i - ·) ++ tops f' s'
  | [], f, s, f', s', h => by
    unfold pops at h
    injection h with h
    injection h with h1 h2
    subst h1 h2
    rfl
  | d :: ds, f, [], f', s', h => by
    unfold pops at h
    cases h
  | d :: ds, f, g :: s, f', s', h => by
    unfold pops at h
    split at h
    · rename_i hd
      rw [tops, pops_tops ds g s f' s' h, List.map_cons, List.cons_append]
      congr 1
      omega
    · cases h
theorem kids_perm : ∀ (l : List Nd) (i : Nat) (s t : List Nat), exec l i s = some t → (allKids l i ++ tops (i + l.length) t).Perm (tops i s ++ List.range' i l.length)
  | [], i, s, t, h => by
    unfold exec at h
    injection h with h
    subst h
    simp [allKids]
  | x :: l, i, s, t, h => by
    unfold exec at h
    cases hp : pops i x.ks.reverse i s with
    | none => rw [hp] at h; cases h
    | some q =>
      obtain ⟨f, s'⟩ := q
      rw [hp] at h
      simp only at h
      have ih := kids_perm l (i + 1) (f :: s') t h
      have hk := pops_tops _ _ _ _ _ hp
      rw [allKids, List.length_cons, show i + (l.length + 1) = i + 1 + l.length by omega, List.append_assoc, List.range'_succ, hk, List.map_reverse]
      refine (List.Perm.append_left _ ih).trans ?_
      rw [tops, Nat.add_sub_cancel]
      rw [List.append_assoc]
      refine (List.Perm.append (List.reverse_perm _).symm ?_)
      exact List.perm_middle.symm
theorem kids_count {T : List Nd} (h : Tr T) {j : Nat} (hj : j < T.length) : (allKids T 0).count j = if j < T.length - 1 then 1 else 0 := by
  have hp := kids_perm T 0 [] [0] (h.run 0 [])
  simp only [tops, List.nil_append, Nat.zero_add] at hp
  have hc := hp.count_eq j
  have h1 : List.count j (List.range' 0 T.length) = 1 := (List.nodup_range' (s := 0) (n := T.length)).count.trans (if_pos (List.mem_range'_1.2 ⟨Nat.zero_le _, by omega⟩))
  rw [List.count_append, h1] at hc
  by_cases hl : j < T.length - 1
  · rw [if_pos hl]
    have : List.count j [T.length - 1] = 0 := List.count_eq_zero.2 (by simp; omega)
    omega
  · rw [if_neg hl]
    have e : j = T.length - 1 := by omega
    have : List.count j [T.length - 1] = 1 := by rw [e]; simp
    omega
theorem allKids_app : ∀ (l1 l2 : List Nd) (i : Nat), allKids (l1 ++ l2) i = allKids l1 i ++ allKids l2 (i + l1.length)
  | [], l2, i => rfl
  | x :: l1, l2, i => by
    rw [List.cons_append, allKids, allKids, allKids_app l1 l2 (i + 1), List.append_assoc, List.length_cons, Nat.add_assoc i 1, Nat.add_comm 1]
theorem allKids_take {T : List Nd} {i : Nat} {x : Nd} (hx : T[i]? = some x) : allKids (T.take (i + 1)) 0 = allKids (T.take i) 0 ++ x.ks.map (i - ·) := by
  have hi : i < T.length := (List.getElem?_eq_some_iff.1 hx).1
  rw [List.take_add_one, hx]
  show allKids (T.take i ++ [x]) 0 = _
  rw [allKids_app, Nat.zero_add, List.length_take, Nat.min_eq_left (by omega)]
  simp [allKids]
theorem wlk_mem {F : List Nat} {i : Nat} : ∀ (ds : List Nat) (f e : Nat), wlk F i ds f e → f ≤ i → ∀ d ∈ ds, 1 ≤ d ∧ d ≤ i
  | [], f, e, h, hf, d, hd => by cases hd
  | c :: ds, f, e, h, hf, d, hd => by
    obtain ⟨h1, h2, g, h3, h4, h5⟩ := h
    rcases List.mem_cons.1 hd with rfl | hd
    · omega
    · exact wlk_mem ds g e h5 (by omega) d hd
end Go.Proofs.YtgmjpcaennmgoaaGreatDoor
namespace Go.Proofs.YtgmjpcaennmgoaaGreatDoor
open Go.ChangeShapes Go.WideShapes Go.ChangeAt Go.RowKit Go.Lib
set_option linter.unusedVariables false
set_option linter.unusedSimpArgs false
set_option maxRecDepth 100000

theorem wrap_bytes (s : ByteArray) : (⟨#[40]⟩ ++ s ++ ⟨#[10, 41]⟩ : ByteArray).data.toList = wrapB s.data.toList := by
  rw [ByteArray.data_append, ByteArray.data_append, Array.toList_append, Array.toList_append]
  unfold wrapB
  rw [List.append_assoc]
  rfl
theorem wrap_size (s : ByteArray) : (⟨#[40]⟩ ++ s ++ ⟨#[10, 41]⟩ : ByteArray).size = s.size + 3 := by
  have h1 : (⟨#[40]⟩ ++ s ++ ⟨#[10, 41]⟩ : ByteArray).data.toList.length = s.data.toList.length + 3 := by rw [wrap_bytes]; simp [wrapB]
  have h2 : (⟨#[40]⟩ ++ s ++ ⟨#[10, 41]⟩ : ByteArray).data.toList.length = (⟨#[40]⟩ ++ s ++ ⟨#[10, 41]⟩ : ByteArray).size := Array.length_toList
  have h3 : s.data.toList.length = s.size := Array.length_toList
  omega
theorem readP_err {l : List UInt8} {T : List Nd} {ln cl E : Int} (h : readP l = (T, ln, cl, E)) (hE : E ≠ 0) : T = [] := by
  unfold readP at h
  repeat' split at h
  all_goals
    simp only [Prod.mk.injEq] at h
    first
      | exact h.1.symm
      | exact absurd h.2.2.2.symm hE
/-- How often each node is below one, so far. -/
def Ab (w : World) (g N : Nat) (K : List Nat) : Prop := ∃ cur : Array Value, w.heap[g]? = some (.cells cur 3 (0, 0)) ∧ cur.size = N ∧ ∀ j, j < N → cur[j]? = some (.int .i64 ((K.count j : Nat) : Int))
section
variable {w w' : World} {g N : Nat} {K : List Nat}
theorem Ab.at (h : Ab w g N K) {j : Nat} (hj : j < N) : w.cell? ⟨g, j, none⟩ = some (.int .i64 ((K.count j : Nat) : Int)) := by
  obtain ⟨cur, h1, h2, h3⟩ := h
  simp [World.cell?, h1, h3 j hj]
theorem Ab.f (h : Ab w g N K) (j : Nat) : w.frozen? ⟨g, j, none⟩ = false := by
  obtain ⟨cur, h1, h2, h3⟩ := h
  simp [World.frozen?, h1]
theorem Ab.old (h : Ab w g N K) (ho : Old w w') : Ab w' g N K := by
  obtain ⟨cur, h1, h2⟩ := h
  exact ⟨cur, (ho.block g (blk_lt h1)).trans h1, h2⟩
theorem Ab.lt (h : Ab w g N K) : g < w.heap.size := by
  obtain ⟨cur, h1, _⟩ := h
  exact blk_lt h1
theorem Ab.push (h : Ab w g N K) {k : Nat} (hk : k < N) {u : Int} (hu : u = ((K.count k : Nat) : Int) + 1) : Ab (w.setCell ⟨g, k, none⟩ (.int .i64 u)) g N (K ++ [k]) := by
  obtain ⟨cur, h1, h2, h3⟩ := h
  refine ⟨cur.setIfInBounds k (.int .i64 u), ?_, by simp [h2], fun j hj => ?_⟩
  · show (w.heap.modify g _)[g]? = _
    rw [Array.getElem?_modify, if_pos rfl, h1]
    simp
  · rw [Array.getElem?_setIfInBounds, List.count_append]
    by_cases e : k = j
    · subst e
      rw [if_pos rfl, if_pos (by omega), hu]
      simp
    · rw [if_neg e, h3 j hj]
      have : List.count j [k] = 0 := List.count_eq_zero.2 (by simp; omega)
      rw [this]
      rfl
theorem ab_new (W : World) (n : Nat) : Ab (W.alloc (.cells (madeCells #[.int .i64 0] n) 3)) W.heap.size n [] := ⟨_, (MapKept.heap_alloc W _).1, size_madeCells _ _, fun j hj => by simp [madeCells, hj, Nat.mod_one]⟩
end
theorem kids_pre {T : List Nd} {i : Nat} {x : Nd} (hx : T[i]? = some x) (c : Nat) : ∃ rest, allKids T 0 = allKids (T.take i) 0 ++ (x.ks.map (i - ·)).take c ++ rest := by
  have h := allKids_app (T.take (i + 1)) (T.drop (i + 1)) 0
  rw [List.take_append_drop, allKids_take hx] at h
  refine ⟨(x.ks.map (i - ·)).drop c ++ allKids (T.drop (i + 1)) (0 + (T.take (i + 1)).length), ?_⟩
  rw [h, List.append_assoc, List.append_assoc, ← List.append_assoc ((x.ks.map (i - ·)).take c), List.take_append_drop]
theorem kids_le {T : List Nd} (hT : Tr T) {i : Nat} {x : Nd} (hx : T[i]? = some x) (c : Nat) {j : Nat} (hj : j < T.length) : (allKids (T.take i) 0 ++ (x.ks.map (i - ·)).take c).count j ≤ 1 := by
  obtain ⟨rest, h⟩ := kids_pre hx c
  have h1 := kids_count hT hj
  rw [h, List.count_append] at h1
  have : (if j < T.length - 1 then 1 else 0) ≤ 1 := by split <;> omega
  omega
theorem brackets_long (s : ByteArray) (w : World) (he : Env w) (hs : 500 < s.size) : Calls Tryz.prog 4 #[.string s] w fun e w' => e = .returned (.bool true) ∧ Old w w' := by
  have hk := known_ok w he
  have h : (500 : Int) < (s.size : Int) := by omega
  clear he hs
  go_enter Tryz.func4, Tryz.ntmps4
  go_wp2_with (go_at_call 7; (with_reducible refine hk.mono ?_); rintro e w4 ⟨rfl, o4⟩; have HO := Lib.hid o4; clear o4)
  go_ret
  exact ⟨rfl, HO.out⟩
theorem brackets_none (s : ByteArray) (w : World) (he : Env w) (hs : s.size ≤ 500) {ln cl E l2 c2 E2 : Int} {U : List Nd} (hR : readP s.data.toList = ([], ln, cl, E)) (hE : ¬ E = 0) (hR2 : readP (wrapB s.data.toList) = (U, l2, c2, E2)) : Calls Tryz.prog 4 #[.string s] w fun e w' => e = .returned (.bool true) ∧ Old w w' := by
  have HK1 := Lib.hid (read_tw s w (by omega) he hR)
  have HK2 := Lib.hid (fun W (h : Old w W) => read_tw (⟨#[40]⟩ ++ s ++ ⟨#[10, 41]⟩) W (by have := wrap_size s; omega) (he.old h) (T := U) (ln := l2) (cl := c2) (E := E2) (by rw [wrap_bytes]; exact hR2))
  have HKN := Lib.hid (fun W (h : Old w W) => known_ok W (he.old h))
  have h : ¬ (500 : Int) < (s.size : Int) := by omega
  obtain ⟨N, hN⟩ : ∃ N, N = U.length := ⟨_, rfl⟩
  rw [← hN] at HK2
  clear he hs hR hR2 hN
  go_enter Tryz.func4, Tryz.ntmps4
  go_wp2_with (first
    | (go_at_call 8; (with_reducible refine HK1.out.mono ?_); rintro e w1 ⟨oa, cap, rfl, t1, o1⟩; have HO := Lib.hid (o1.trans ((Old.refl w1).alloc (.cells #[.int .i64 ln, .int .i64 cl] 26))); clear t1 o1)
    | (go_at_call 8; (with_reducible refine (HK2.out _ HO.out).mono ?_); rintro e w2 ⟨ob, cb, rfl, t2, o2⟩; have HO2 := Lib.hid ((HO.out.trans o2).trans ((Old.refl w2).alloc (.cells #[.int .i64 l2, .int .i64 c2] 26))); clear t2 o2)
    | (go_at_call 7; (with_reducible refine (HKN.out _ HO2.out).mono ?_); rintro e w4 ⟨rfl, o4⟩; have HO4 := Lib.hid (HO2.out.trans o4); clear o4))
  go_ret
  exact ⟨rfl, HO4.out⟩
theorem brackets_deep (s : ByteArray) (w : World) (he : Env w) (hs : s.size ≤ 500) {l2 c2 : Int} {T : List Nd} (hR : readP s.data.toList = (T, 0, 0, 0)) (hR2 : readP (wrapB s.data.toList) = ([], l2, c2, 12)) : Calls Tryz.prog 4 #[.string s] w fun e w' => e = .returned (.bool true) ∧ Old w w' := by
  have HK1 := Lib.hid (read_tw s w (by omega) he hR)
  have HK2 := Lib.hid (fun W (h : Old w W) => read_tw (⟨#[40]⟩ ++ s ++ ⟨#[10, 41]⟩) W (by have := wrap_size s; omega) (he.old h) (T := []) (ln := l2) (cl := c2) (E := 12) (by rw [wrap_bytes]; exact hR2))
  have HKN := Lib.hid (fun W (h : Old w W) => known_ok W (he.old h))
  have h : ¬ (500 : Int) < (s.size : Int) := by omega
  obtain ⟨N, hN⟩ : ∃ N, N = T.length := ⟨_, rfl⟩
  rw [← hN] at HK1
  clear he hs hR hR2 hN
  go_enter Tryz.func4, Tryz.ntmps4
  go_wp2_with (first
    | (go_at_call 8; (with_reducible refine HK1.out.mono ?_); rintro e w1 ⟨oa, cap, rfl, t1, o1⟩; have HO := Lib.hid (o1.trans ((Old.refl w1).alloc (.cells #[.int .i64 0, .int .i64 0] 26))); clear t1 o1)
    | (go_at_call 8; (with_reducible refine (HK2.out _ HO.out).mono ?_); rintro e w2 ⟨ob, cb, rfl, t2, o2⟩; have HO2 := Lib.hid ((HO.out.trans o2).trans ((Old.refl w2).alloc (.cells #[.int .i64 l2, .int .i64 c2] 26))); clear t2 o2)
    | (go_at_call 7; (with_reducible refine (HKN.out _ HO2.out).mono ?_); rintro e w4 ⟨rfl, o4⟩; have HO4 := Lib.hid (HO2.out.trans o4); clear o4))
  go_ret
  exact ⟨rfl, HO4.out⟩
end Go.Proofs.YtgmjpcaennmgoaaGreatDoor
namespace Go.Proofs.YtgmjpcaennmgoaaGreatDoor
open Go.ChangeShapes Go.WideShapes Go.ChangeAt Go.RowKit Go.Lib
set_option linter.unusedVariables false
set_option linter.unusedSimpArgs false
set_option maxRecDepth 100000

theorem few_ok {T : List Nd} (h : AllOk T) : Few T := fun x hx => by
  have h1 := (h x hx).many
  have h2 := kidN_le x.op
  omega
set_option maxHeartbeats 6400000 in
theorem brackets_good (s : ByteArray) (w : World) (he : Env w) (hs : s.size ≤ 500) {T U : List Nd} (hR : readP s.data.toList = (T, 0, 0, 0)) (hR2 : readP (wrapB s.data.toList) = (U, 0, 0, 0)) (hTU : U.map Nd.bare = T.map Nd.bare) : Calls Tryz.prog 4 #[.string s] w fun e w' => e = .returned (.bool true) ∧ Old w w' := by
  have hz : s.data.toList.length = s.size := Array.length_toList
  obtain ⟨_, _, hT60, hTr, hAll, _, _⟩ := readP_good (by omega) hR
  obtain ⟨F, hFl, hF0, hF⟩ := tree_firsts hTr
  have hpos := hTr.pos
  obtain ⟨N, hN⟩ : ∃ N, T.length = N + 1 := ⟨T.length - 1, by omega⟩
  have hUl := len_bare hTU
  have HK1 := Lib.hid (hN ▸ read_tw s w (by omega) he hR)
  have HK2 := Lib.hid (show ∀ W, Old w W → Calls Tryz.prog 8 #[.string (⟨#[40]⟩ ++ s ++ ⟨#[10, 41]⟩)] W fun e w' => ∃ oa cap, e = .returned (.tuple #[.slice oa (N + 1) cap, .agg #[.int .i64 0, .int .i64 0], .int .i64 0]) ∧ Hid (Tw w' (.slice oa (N + 1) cap) U) ∧ Old W w' from fun W h => by
    have := read_tw (⟨#[40]⟩ ++ s ++ ⟨#[10, 41]⟩) W (by have := wrap_size s; omega) (he.old h) (T := U) (ln := 0) (cl := 0) (E := 0) (by rw [wrap_bytes]; exact hR2)
    rw [hUl, hN] at this
    exact this)
  have HKN := Lib.hid (fun W (h : Old w W) => known_ok W (he.old h))
  have HSM := Lib.hid (fun (va vb : Value) (W : World) (h1 : Tw W va T) (h2 : Tw W vb U) => esame_true W h1 h2 (by omega) (few_ok hAll) hTU.symm)
  have HRS := Lib.hid (fun (va vb : Value) (W : World) (h1 : Tw W va T) (h2 : Tw W vb U) => rsame_true W true h1 h2 (by omega) (few_ok hAll) (by simpa using hTU.symm))
  have hmk : ∀ W, (Instr.makeSlice 33 (.int .i64 ((N : Int) + 1)) (.int .i64 ((N : Int) + 1))).run Tryz.prog W = .ok (.slice (some ⟨W.heap.size, 0, none⟩) (N + 1) (N + 1)) (W.alloc (.cells (madeCells #[.int .i64 0] (N + 1)) 3)) := fun W => info37z W (N + 1) (by omega)
  have HF := Lib.hid hF
  have HTR := Lib.hid hTr
  have HFW := Lib.hid (few_ok hAll)
  have HN := Lib.hid hN
  have hN60 : N < 60 := by omega
  have hq1 : ((N : Int) + 1 == 0) = false := beq_false_of_ne (by omega)
  have hq2 : ¬ (60 : Int) < (N : Int) + 1 := by omega
  have HO := Lib.hid (Old.refl w)
  have hs5 : ¬ 500 < (s.size : Int) := by omega
  clear hz hTr hFl hF0 hF hpos hN he hR hR2 hAll hT60 hUl hTU
  go_enter Tryz.func4, Tryz.ntmps4
  go_wp2_with (first
    | (go_at_call 8; (with_reducible refine HK1.out.mono ?_); rintro e w1 ⟨oa, cap, rfl, t1, o1⟩; have o1' := (Old.refl w1).alloc (.cells #[.int .i64 0, .int .i64 0] 26); have T1 := Lib.hid (t1.out.old o1'); have O1 := Lib.hid (o1.trans o1'); clear t1 o1 o1')
    | (go_at_call 8; (with_reducible refine (HK2.out _ O1.out).mono ?_); rintro e w2 ⟨ob, cb, rfl, t2, o2⟩; have o2' := (Old.refl w2).alloc (.cells #[.int .i64 0, .int .i64 0] 26); have T2 := Lib.hid (t2.out.old o2'); replace T1 := Lib.hid (T1.out.old (o2.trans o2')); have O2 := Lib.hid ((O1.out.trans o2).trans o2'); clear t2 o2 o2')
    | (go_at_call 11; (with_reducible refine (HSM.out _ _ _ T1.out T2.out).mono ?_); rintro e w3 ⟨rfl, o3⟩; replace T1 := Lib.hid (T1.out.old o3); replace T2 := Lib.hid (T2.out.old o3); have O3 := Lib.hid (O2.out.trans o3); clear o3)
    | (go_at_call 10; (with_reducible refine (HRS.out _ _ _ T1.out T2.out).mono ?_); rintro e W0 ⟨rfl, o4⟩; replace T1 := Lib.hid (T1.out.old o4); have O4 := Lib.hid (O3.out.trans o4); clear o4 T2))
  have FB := Lib.hid (ab_new W0 (N + 1))
  have O0 := Lib.hid ((Old.refl W0).alloc (.cells (madeCells #[.int .i64 0] (N + 1)) 3))
  have HG := Lib.hid (Nat.le_refl W0.heap.size)
  go_loopw [73] (fun i wr => ∃ k : Nat, k ≤ N + 1 ∧ i = .int .i64 (k : Int) ∧ Hid (Old W0 wr ∧ Ab wr W0.heap.size (N + 1) (allKids (T.take k) 0))) (fun i _ => (N + 1 - RowKit.intOf i).toNat)
  case atStart => exact ⟨0, Nat.zero_le _, rfl, Lib.hid ⟨O0.out, FB.out⟩⟩
  case round =>
    clear FB O0
    obtain ⟨k, hk, rfl, HB⟩ := hrel
    rcases Nat.lt_or_ge k (N + 1) with hkn | hkn
    · obtain ⟨x, hx⟩ : ∃ x, T[k]? = some x := ⟨_, List.getElem?_eq_getElem (by rw [HN.out]; exact hkn)⟩
      obtain ⟨oa', cap', e1, _, _, h4⟩ := T1.out
      injection e1 with e1 z1 z2
      subst e1
      obtain ⟨gt, kv, rfl, hgt, _, a0, a1, a2, a3, a4, a5, a6, a7, hkw⟩ := h4 k x hx
      obtain ⟨e, he, hwk⟩ := HF.out k x hx
      have hfx := HFW.out x (List.mem_iff_getElem?.2 ⟨k, hx⟩)
      have ho := HB.out.1
      replace a0 := ho.c hgt a0
      replace a1 := ho.c hgt a1
      replace a2 := ho.c hgt a2
      replace a3 := ho.c hgt a3
      replace a4 := ho.c hgt a4
      replace a5 := ho.c hgt a5
      replace a6 := ho.c hgt a6
      replace a7 := ho.c hgt a7
      obtain ⟨okk, kc, rfl, hk1, hk2, hkk⟩ := hkw
      have HX := Lib.hid hx
      have HKP := Lib.hid (fun c j (hj : j < N + 1) => kids_le HTR.out hx c (j := j) (by rw [HN.out]; exact hj))
      have HMEM := Lib.hid (wlk_mem _ _ _ hwk (Nat.le_refl _))
      have HKS := Lib.hid (allKids_take hx)
      rw [List.length_map] at a5 hk1
      obtain ⟨op, vk, vn, vs, nm, ks, ln, cl⟩ := x
      simp only at a0 a1 a2 a3 a4 a5 a6 a7 hwk hkk hk1 hfx
      obtain ⟨K, hK⟩ : ∃ K, K = ks.length := ⟨_, rfl⟩
      rw [← hK] at a5 hk1 hfx
      have HKE := Lib.hid hK
      have HKK := Lib.hid hkk
      have hOA := (Old.refl wr).alloc (.cells #[.int .u8 op, .int .u8 vk, .int .i64 vn, .string (st vs), .string (st nm), .slice okk K kc, .int .i64 ln, .int .i64 cl] 37)
      have HA0 := Lib.hid (show Ab (wr.alloc (.cells #[.int .u8 op, .int .u8 vk, .int .i64 vn, .string (st vs), .string (st nm), .slice okk K kc, .int .i64 ln, .int .i64 cl] 37)) W0.heap.size (N + 1) (allKids (T.take k) 0 ++ (ks.map (k - ·)).take 0) from by rw [List.take_zero, List.append_nil]; exact HB.out.2.old hOA)
      have OA := Lib.hid (ho.trans hOA)
      clear h4 ho hOA hk1 hk2 hkk hwk he hK hgt hx hk z1 z2
      go_wp2
      go_loopw [81] (fun i wr2 => ∃ c : Nat, c ≤ K ∧ i = .int .i64 (c : Int) ∧ Hid (Old W0 wr2 ∧ Ab wr2 W0.heap.size (N + 1) (allKids (T.take k) 0 ++ (ks.map (k - ·)).take c))) (fun i _ => (K - RowKit.intOf i).toNat)
      case atStart => exact ⟨0, Nat.zero_le _, rfl, Lib.hid ⟨OA.out, HA0.out⟩⟩
      case round =>
        clear HA0 OA
        obtain ⟨c, hc, rfl, H1⟩ := hrel
        rcases Nat.lt_or_ge c K with hcK | hcK
        · obtain ⟨d, hd⟩ : ∃ d, ks[c]? = some d := ⟨_, List.getElem?_eq_getElem (by rw [← HKE.out]; exact hcK)⟩
          have hm : (ks.map (k - ·))[c]? = some (k - d) := by rw [List.getElem?_map, hd]; rfl
          obtain ⟨gk, rfl, hgk, _, d0⟩ := HKK.out c _ hm
          replace d0 := H1.out.1.c hgk d0
          obtain ⟨b1, b2⟩ := HMEM.out d (List.mem_reverse.2 (List.mem_iff_getElem?.2 ⟨c, hd⟩))
          obtain ⟨m, hm2⟩ : ∃ m, m = k - d := ⟨_, rfl⟩
          have hmk2 : m < k := by omega
          have hmN : m < N + 1 := by omega
          rw [← hm2] at d0 hm
          have hcnt := HKP.out c m hmN
          have g0 := H1.out.2.at hmN
          have g1 := H1.out.2.f m
          obtain ⟨q, hq⟩ : ∃ q, q = List.count m (allKids (T.take k) 0 ++ (ks.map (k - ·)).take c) := ⟨_, rfl⟩
          rw [← hq] at g0
          have hq1 : q ≤ 1 := by rw [hq]; exact hcnt
          have PU := Lib.hid (H1.out.2.push hmN (u := (q : Int) + 1) (by rw [hq]))
          have TK := Lib.hid (show (ks.map (k - ·)).take (c + 1) = (ks.map (k - ·)).take c ++ [m] from by rw [List.take_add_one, hm]; rfl)
          have hmi : ¬ (m : Int) < 0 := by omega
          have hmi2 : ¬ (k : Int) ≤ (m : Int) := by omega
          clear hd hm hgk b1 b2 hm2 hcnt hq
          go_wp2
          exact ⟨⟨c + 1, hcK, by simp, Lib.hid ⟨H1.out.1.setCell HG.out _, by rw [TK.out, ← List.append_assoc]; exact PU.out⟩⟩, by simp only [RowKit.intOf]; omega⟩
        · obtain rfl : c = K := by omega
          have HE := Lib.hid (show Ab wr W0.heap.size (N + 1) (allKids (T.take (k + 1)) 0) from by
            rw [HKS.out]
            have := H1.out.2
            rw [List.take_of_length_le (l := ks.map (k - ·)) (by rw [List.length_map, ← HKE.out]; exact Nat.le_refl _)] at this
            exact this)
          go_wp2
          exact ⟨⟨k + 1, hkn, by simp, Lib.hid ⟨H1.out.1, HE.out⟩⟩, by simp only [RowKit.intOf]; omega⟩
    · obtain rfl : k = N + 1 := by omega
      have HC := Lib.hid (show ∀ j, j < N + 1 → wr.cell? ⟨W0.heap.size, j, none⟩ = some (.int .i64 ((if j < N then 1 else 0 : Nat) : Int)) from fun j hj => by
        have h1 := HB.out.2.at hj
        rw [List.take_of_length_le (by rw [HN.out]; exact Nat.le_refl _), kids_count HTR.out (by rw [HN.out]; exact hj), HN.out, Nat.add_sub_cancel] at h1
        exact h1)
      have O5 := Lib.hid (O4.out.trans HB.out.1)
      clear HB
      go_wp2
      go_loopw [102] (fun i wr2 => ∃ j : Nat, j ≤ N + 1 ∧ i = .int .i64 (j : Int) ∧ wr2 = wr) (fun i _ => (N + 1 - RowKit.intOf i).toNat)
      case atStart => exact ⟨0, Nat.zero_le _, rfl, rfl⟩
      case round =>
        obtain ⟨j, hj, rfl, rfl⟩ := hrel
        rcases Nat.lt_or_ge j (N + 1) with hjn | hjn
        · have c0 := HC.out j hjn
          by_cases hl : j < N
          · rw [if_pos hl] at c0
            have c0' : wr.cell? ⟨W0.heap.size, j, none⟩ = some (.int .i64 1) := c0
            have hli : (j : Int) < (N : Int) := by omega
            clear c0
            go_wp2
            exact ⟨⟨j + 1, hjn, by simp⟩, by simp only [RowKit.intOf]; omega⟩
          · rw [if_neg hl] at c0
            have c0' : wr.cell? ⟨W0.heap.size, j, none⟩ = some (.int .i64 0) := c0
            have hli : ¬ (j : Int) < (N : Int) := by omega
            clear c0
            go_wp2
            exact ⟨⟨j + 1, hjn, by simp⟩, by simp only [RowKit.intOf]; omega⟩
        · obtain rfl : j = N + 1 := by omega
          go_wp2_with (go_at_call 7; (with_reducible refine (HKN.out _ O5.out).mono ?_); rintro e w6 ⟨rfl, o6⟩; have O6 := Lib.hid (O5.out.trans o6); clear o6)
          go_ret
          exact ⟨rfl, O6.out⟩
theorem brackets_any (s : ByteArray) (w : World) (he : Env w) : Calls Tryz.prog 4 #[.string s] w fun e w' => e = .returned (.bool true) ∧ Old w w' := by
  by_cases hs : s.size ≤ 500
  case neg => exact brackets_long s w he (by omega)
  have hz : s.data.toList.length = s.size := Array.length_toList
  obtain ⟨⟨T, ln, cl, E⟩, hR⟩ : ∃ x, readP s.data.toList = x := ⟨_, rfl⟩
  by_cases hE : E = 0
  · subst hE
    obtain ⟨rfl, rfl, _⟩ := readP_good (by omega) hR
    rcases wrap_read (by omega) hR with ⟨U, h1, h2⟩ | ⟨l2, c2, h1⟩
    · exact brackets_good s w he hs hR h1 h2
    · exact brackets_deep s w he hs hR h1
  · obtain ⟨⟨U, l2, c2, E2⟩, hR2⟩ : ∃ x, readP (wrapB s.data.toList) = x := ⟨_, rfl⟩
    obtain rfl := readP_err hR hE
    exact brackets_none s w he hs hR hE hR2
end Go.Proofs.YtgmjpcaennmgoaaGreatDoor
