/- Layer memory: a copy goes its own way (MemoryApart). -/
import Derived.Test.YtfhbnkdibhmmcaaQZ
namespace Go.Proofs.Ytfhbnkdibhmmcaa
open Go.ChangeShapes Go.WideShapes Go.ChangeAt Go.RowKit Go.Lib
set_option linter.unusedVariables false
set_option linter.unusedSimpArgs false
set_option maxRecDepth 100000

theorem own_none (w : World) (e : TypeId) (size : Nat) : (w.alloc (.cells #[] e)).ownsRow w.heap.size e size (.slice (some ⟨w.heap.size, 0, none⟩) 0 0) 0 [] :=
  ⟨by simp, Or.inr ⟨_, 0, #[], rfl, Nat.le_refl _, (MapKept.heap_alloc w _).1, Nat.le_refl _, Nat.zero_le _, by simp, by simp⟩⟩
theorem runS_start (l : List Ox) : (runS 200 ⟨0, []⟩ l).last ≤ l.length := by
  have := runS_last 200 l ⟨0, []⟩
  simpa using this

set_option maxHeartbeats 1000000 in
theorem apart_any (l l' : List Ox) (v v' : Value) (w : World) (hl : OR w v l) (hl' : OR w v' l') : Calls Try.prog 7 #[v, v'] w fun e w' => e = .returned (.bool true) ∧ Old w w' := by
  have HL := Lib.hid hl
  have HL' := Lib.hid hl'
  obtain ⟨oa, c, rfl, a1, a2, a3⟩ := hl
  obtain ⟨oa', c', rfl, b1, b2, b3⟩ := hl'
  clear a3 b3
  obtain ⟨n, hn⟩ : ∃ n, n = l.length := ⟨_, rfl⟩
  obtain ⟨m, hm⟩ : ∃ n, n = l'.length := ⟨_, rfl⟩
  rw [← hn] at a1 HL ⊢
  rw [← hm] at b1 HL' ⊢
  unfold maxLen at a2 b2
  have HN := Lib.hid hn
  have HM := Lib.hid hm
  clear hn hm
  by_cases h60 : 60 < n
  · go_enter Try.func7, Try.ntmps7
    go_wp2_with (go_at_call 9; (with_reducible refine (known_any _).mono ?_); rintro e w9 ⟨rfl, ho⟩)
    go_ret
    exact ⟨rfl, ho⟩
  by_cases h61 : 60 < m
  · go_enter Try.func7, Try.ntmps7
    go_wp2_with (go_at_call 9; (with_reducible refine (known_any _).mono ?_); rintro e w9 ⟨rfl, ho⟩)
    go_ret
    exact ⟨rfl, ho⟩
  have H60 := Lib.hid h60
  have H61 := Lib.hid h61
  obtain ⟨i, hi, hz, hsz, hby⟩ := info_parts info34
  have O0 := Lib.hid ((Old.refl w).alloc (.cells #[] 34))
  have CR1 := Lib.hid (show CR _ _ n 4 (ocells l) by have := (HL.out.old O0.out).cr; rwa [← HN.out] at this)
  have E1 := Lib.hid (ocells_one l HL.out.els)
  have E2 := Lib.hid (ocells_one l' HL'.out.els)
  have L1 := Lib.hid (show (0 + n) * 48 ≤ 140737488355328 by omega)
  have L2 := Lib.hid (show 0 + n ≤ maxLen by unfold maxLen; omega)
  have L3 := Lib.hid (show w.heap.size ≤ (w.alloc (.cells #[] 34)).heap.size by simp)
  have L4 := Lib.hid (show (n + m) * 48 ≤ 140737488355328 by omega)
  have L5 := Lib.hid (show n + m ≤ maxLen by unfold maxLen; omega)
  obtain ⟨q, hq⟩ : ∃ q, q = n + m := ⟨_, rfl⟩
  have HQ := Lib.hid hq
  have hq60 : q ≤ 120 := by omega
  clear hq
  go_enter Try.func7, Try.ntmps7
  go_wp2_with (at_builtin; first
    | (refine wpList_appC _ rfl _ _ 22 rfl w.heap.size 34 i _ 4 48 Try.underlying22 hi hz hsz hby rfl (Nat.zero_lt_succ 3) (.slice (some ⟨w.heap.size, 0, none⟩) 0 0) 0 [] rfl (own_none w 34 4) (.slice oa n c) n (ocells l) rfl CR1.out E1.out L1.out L2.out L3.out ?_; intro v1 w1 hown hg _; rw [Nat.zero_add, List.nil_append] at hown; have O1 := Lib.hid (O0.out.grown hg (fun k e => by cases e; exact Nat.le_refl _)); have W1 := Lib.hid hown; clear hown hg; have CR2 := Lib.hid (show CR _ _ m 4 (ocells l') by have := (HL'.out.old O1.out).cr; rwa [← HM.out] at this); have L6 := Lib.hid O1.out.size)
    | (refine wpList_appC _ rfl _ _ 22 rfl w.heap.size 34 i _ 4 48 Try.underlying22 hi hz hsz hby rfl (Nat.zero_lt_succ 3) v1 n (ocells l) rfl W1.out (.slice oa' m c') m (ocells l') rfl CR2.out E2.out L4.out L5.out L6.out ?_; intro v2 w2 hown hg _; have O2 := Lib.hid (O1.out.grown hg (own_from W1.out)); rw [← HQ.out, ← ocells_app] at hown; have W2 := Lib.hid (CR.owned hown); obtain ⟨ob, cb, rfl⟩ := own_shape hown; clear hown hg O1 W1 CR2 L6))
  have VL := Lib.hid (show ∀ x ∈ l ++ l', VR w2 x.v x.l by
    intro x hx
    rcases List.mem_append.1 hx with hx | hx
    · exact (HL.out.els x hx).old O2.out
    · exact (HL'.out.els x hx).old O2.out)
  have HE := Lib.hid (op_els W2.out VL.out)
  have hcb1 := HE.out.1
  have hcb2 := HE.out.2.1
  unfold maxLen at hcb2
  have HLQ := Lib.hid (show q = (l ++ l').length by rw [List.length_append, HQ.out, HN.out, HM.out])
  clear O0 CR1 E1 E2 L1 L2 L3 L4 L5 hi hz hsz hby VL W2 h60 h61
  go_loopw [28] (fun i wr => ∃ k : Nat, k ≤ q ∧ i = .int .i64 (k : Int) ∧ Hid (Old w2 wr) ∧ Hid (∀ x ∈ (l ++ l').take k, x.l.length ≤ 10)) (fun i _ => (q - intOf i).toNat)
  case atStart => exact ⟨0, Nat.zero_le _, rfl, Lib.hid (Old.refl _), Lib.hid (fun x hx => by simp at hx)⟩
  case round =>
    obtain ⟨k, hk, rfl, HO, HT⟩ := hrel
    by_cases hkn : k < q
    · obtain ⟨x, hx⟩ : ∃ x, (l ++ l')[k]? = some x := ⟨(l ++ l')[k]'(by rw [← HLQ.out]; exact hkn), List.getElem?_eq_getElem _⟩
      obtain ⟨g, o, rfl, hgl, c0, c1, c2, c3, hv⟩ := HE.out.2.2 k x hx
      replace c0 := (HO.out.cell hgl).trans c0
      replace c1 := (HO.out.cell hgl).trans c1
      replace c2 := (HO.out.cell hgl).trans c2
      replace c3 := (HO.out.cell hgl).trans c3
      have HX := Lib.hid hx
      have HK := Lib.hid hkn
      obtain ⟨K, T, D, xv, s⟩ := x
      simp only at c0 c1 c2 c3 hv
      obtain ⟨ua, uc, rfl, _⟩ := id hv
      obtain ⟨N, hN⟩ : ∃ N, N = s.length := ⟨_, rfl⟩
      rw [← hN] at c3 hv
      have HNN := Lib.hid hN
      have HO2 := Lib.hid (HO.out.alloc (.cells #[.int .i64 K, .int .i64 T, .int .i64 D, .slice ua N uc] 34))
      clear hv hN hx hgl
      by_cases h10 : 10 < N
      · go_wp2_with (go_at_call 9; (with_reducible refine (known_any _).mono ?_); rintro e w9 ⟨rfl, ho⟩; replace HO := Lib.hid (HO2.out.trans ho); clear ho)
        go_ret
        exact ⟨rfl, O2.out.trans HO.out⟩
      have H10 := Lib.hid h10
      go_wp2
      refine ⟨⟨k + 1, HK.out, by first | rfl | simp, HO2, Lib.hid (fun y hy => ?_)⟩, by simp only [intOf]; omega⟩
      rw [List.take_add_one, HX.out, Option.toList_some] at hy
      rcases List.mem_append.1 hy with hy | hy
      · exact HT.out y hy
      · rw [List.mem_singleton] at hy
        subst hy
        have h1 := H10.out
        have h2 := HNN.out
        show s.length ≤ 10
        omega
    · have hkn' : k = q := by omega
      subst hkn'
      have T1 := Lib.hid (show ∀ x ∈ l, x.l.length ≤ 10 by
        intro x hx
        exact HT.out x (by rw [HLQ.out, List.take_length]; exact List.mem_append.2 (Or.inl hx)))
      have T2 := Lib.hid (show ∀ x ∈ l', x.l.length ≤ 10 by
        intro x hx
        exact HT.out x (by rw [HLQ.out, List.take_length]; exact List.mem_append.2 (Or.inr hx)))
      have OW := Lib.hid (O2.out.trans HO.out)
      clear HT HE HLQ O2 HO hcb1 hcb2 hq60 hkn hk
      obtain ⟨s1, hs1⟩ : ∃ s1, s1 = runS 200 ⟨0, []⟩ l := ⟨_, rfl⟩
      obtain ⟨s2, hs2⟩ : ∃ s2, s2 = runS 200 s1 l' := ⟨_, rfl⟩
      have S1 := Lib.hid hs1
      have S2 := Lib.hid hs2
      have B0 := Lib.hid (show (⟨0, []⟩ : St).last + l.length ≤ 1000000 by have := H60.out; have := HN.out; show 0 + _ ≤ _; omega)
      have B1 := Lib.hid (show s1.last + l'.length ≤ 1000000 by
        have := runS_start l
        rw [← hs1] at this
        have := H60.out
        have := HN.out
        have := H61.out
        have := HM.out
        omega)
      clear hs1 hs2
      go_wp2_with (first
        | (go_at_call 10; (with_reducible refine (new_far _).mono ?_); rintro e w3 ⟨⟨p, b, rfl, hM, hp, hb⟩, ho⟩; have N1 := Lib.hid (⟨OW.out.trans ho, Nat.le_trans OW.out.size hp, Nat.le_trans OW.out.size hb, hM⟩ : On w p b ⟨0, []⟩ w3); clear hM hp hb ho OW)
        | (go_at_call 28; first
          | ((with_reducible refine (on_runs N1.out HL.out T1.out B0.out).mono ?_); rintro e w4 ⟨rfl, hM⟩; rw [← S1.out] at hM; have N2 := Lib.hid hM; clear hM N1)
          | ((with_reducible refine (tw_runs X1.out.swap HL'.out T2.out B1.out).mono ?_); rintro e w7 ⟨rfl, hM, hr⟩; rw [← S2.out] at hM; have X2 := Lib.hid hM.swap; have R2 := Lib.hid (hr _ _ R1.out); clear hM hr X1 R1)
          | ((with_reducible refine (tw_runs X5.out HL'.out T2.out B1.out).mono ?_); rintro e w11 ⟨rfl, hM, hr⟩; rw [← S2.out] at hM; have X6 := Lib.hid hM; have R6 := Lib.hid (hr _ _ R5.out); clear hM hr X5 R5))
        | (go_at_call 20; first
          | ((with_reducible refine (tw_facts N2.out.m).mono ?_); rintro e w5 ⟨⟨oa5, c5, rfl, hr⟩, ho⟩; have N3 := Lib.hid (N2.out.on ho); have R0 := Lib.hid hr; clear hr ho N2)
          | ((with_reducible refine (tw_facts X2.out.m).mono ?_); rintro e w8 ⟨⟨oa8, c8, rfl, hr⟩, ho⟩; have X3 := Lib.hid (X2.out.on ho); have R3 := Lib.hid (R2.out.old ho); have R3b := Lib.hid hr; clear hr ho X2 R2)
          | ((with_reducible refine (tw_facts X4.out.c).mono ?_); rintro e w10 ⟨⟨oa10, c10, rfl, hr⟩, ho⟩; have X5 := Lib.hid (X4.out.on ho); have R5 := Lib.hid hr; clear hr ho X4)
          | ((with_reducible refine (tw_facts X6.out.m).mono ?_); rintro e w12 ⟨⟨oa12, c12, rfl, hr⟩, ho⟩; have X7 := Lib.hid (X6.out.on ho); have R7 := Lib.hid (R6.out.old ho); have R7b := Lib.hid hr; clear hr ho X6 R6)
          | ((with_reducible refine (tw_facts X8.out.c).mono ?_); rintro e w14 ⟨⟨oa14, c14, rfl, hr⟩, ho⟩; have X9 := Lib.hid (X8.out.on ho); have R9 := Lib.hid (R8.out.old ho); have R9b := Lib.hid hr; clear hr ho X8 R8))
        | (go_at_call 25; first
          | ((with_reducible refine (last_any N3.out.m).mono ?_); rintro e w6 ⟨rfl, rfl⟩)
          | ((with_reducible refine (last_any X4.out.m).mono ?_); rintro e w6 ⟨rfl, rfl⟩)
          | ((with_reducible refine (last_any X8.out.m).mono ?_); rintro e w6 ⟨rfl, rfl⟩)
          | ((with_reducible refine (last_any X8.out.c).mono ?_); rintro e w6 ⟨rfl, rfl⟩))
        | (go_at_call 24; (with_reducible refine (len_any X4.out.m).mono ?_); rintro e w6 ⟨rfl, rfl⟩)
        | (go_at_call 16; (with_reducible refine (copy_any N3.out.m).mono ?_); rintro e w6 ⟨⟨p', b', rfl, hM, hp, hb⟩, ho⟩; have X1 := Lib.hid (Tw.of N3.out hM hp hb ho); have R1 := Lib.hid (R0.out.old ho); clear hM hp hb ho N3 R0)
        | (go_at_call 23; first
          | ((with_reducible refine (samef_any _ _ _ _ R3b.out R3.out).mono ?_); rintro e w9 ⟨rfl, ho⟩; have X4 := Lib.hid (X3.out.on ho); clear ho X3 R3 R3b)
          | ((with_reducible refine (samef_any _ _ _ _ R7b.out R7.out).mono ?_); rintro e w13 ⟨rfl, ho⟩; have X8 := Lib.hid (X7.out.on ho); have R8 := Lib.hid (R7.out.old ho); clear ho X7 R7 R7b)
          | ((with_reducible refine (samef_any _ _ _ _ R9b.out R9.out).mono ?_); rintro e w15 ⟨rfl, ho⟩; have X10 := Lib.hid (X9.out.on ho); clear ho X9 R9 R9b))
        | (go_at_call 9; (with_reducible refine (known_any _).mono ?_); rintro e w16 ⟨rfl, ho⟩; have OZ := Lib.hid (X10.out.old.trans ho); clear ho))
      go_ret
      exact ⟨rfl, OZ.out⟩
end Go.Proofs.Ytfhbnkdibhmmcaa
