/- Layer eval: the law EvalNames: its walk, where it goes on. The row of names: what is laid gives what the library's calls ask; the arguments opened. -/
import Derived.Test.YtmkmafkkpigfpaaGreatDoorTie
import Derived.Test.YtmkmafkkpigfpaaGreatDoorCards
import Derived.LaidMore
import Derived.Lay
import Derived.SevenTiedAt
import Derived.Stop.Joined
import Derived.Lib.LaidU8T
import Derived.Shelf.Vars
import Derived.Deep.Slices
import Derived.Deep.Strs
import Derived.ChangeArms
import Derived.Test.YtmkmafkkpigfpaaGreatDoorWY
set_option maxHeartbeats 6400000
namespace Go.Proofs.YtmkmafkkpigfpaaGreatDoor.V
open Go.ChangeShapes Go.WideShapes Go.ChangeAt Go.RowKit Go.Lib
set_option linter.unusedVariables false
set_option linter.unusedSimpArgs false
set_option maxRecDepth 100000
theorem names_bad (s : ByteArray) (self : Vl) (vars : List Bd) (other : Bd) (vv : Value) (w : World) (hen : En w) (hv : BR w vv vars) (h1 : s.size ≤ 300) (h2 : vars.length ≤ 40) (h3 : self.s.size ≤ 300) (h4 : other.v.s.size ≤ 300) {T : List Nd} {ln cl E : Int} (hR : readP s.data.toList = (T, ln, cl, E)) (hE : ¬ E = 0) :
    Calls Tryz.prog 5 #[.string s, self.v, vv, .agg #[.string other.nm, .int .u8 other.v.k, .int .i64 other.v.n, .string other.v.s]] w fun e w' => e = .returned (.bool true) ∧ Old w w' := by
  have HKN := hid (fun W (h : Old w W) => known_any W (hen.old h))
  have HE := hid (Ez.new w self other)
  have HR := hid (fun W => qread_tw s W (by omega) ⟨trivial⟩ hR)
  obtain ⟨oa, cap, rfl, v1, v2, _⟩ := hv
  obtain ⟨n, hn⟩ : ∃ n, n = vars.length := ⟨_, rfl⟩
  obtain ⟨m, hm⟩ : ∃ m, m = T.length := ⟨_, rfl⟩
  rw [← hn] at h2 v1 ⊢
  rw [← hm] at HR
  have h1' : ¬ (300 : Int) < (s.size : Int) := by omega
  have h2' : ¬ (40 : Int) < (n : Int) := by omega
  have h3' : ¬ (300 : Int) < (self.s.size : Int) := by omega
  have h4' : ¬ (300 : Int) < (other.v.s.size : Int) := by omega
  have hE' : (E == 0) = false := beq_false_of_ne hE
  clear hen hn hm hR
  go_enter Tryz.func5, Tryz.ntmps5
  go_wp2_with (first
    | (go_at_call 7; (with_reducible refine (HR.out _).mono ?_); rintro e w1 ⟨oa1, ca1, rfl, t1, o1⟩; have O1 := hid (HE.out.o.trans (o1.trans ((Old.refl w1).alloc (.cells #[.int .i64 ln, .int .i64 cl] 31)))); clear o1 t1)
    | (go_at_call 8; (with_reducible refine (HKN.out _ O1.out).mono ?_); rintro e w2 ⟨rfl, o2⟩; have O2 := hid (O1.out.trans o2); clear o2))
  go_ret
  exact ⟨rfl, O2.out⟩
theorem names_main (s : ByteArray) (self : Vl) (vars : List Bd) (other : Bd) (vv : Value) (w : World) (hen : En w) (hv : BR w vv vars) (h1 : s.size ≤ 300) (h2 : vars.length ≤ 40) (h3 : self.s.size ≤ 300) (h4 : other.v.s.size ≤ 300) (hs : I64 self.n) (hot : I64 other.v.n) (hvn : ∀ b ∈ vars, I64 b.v.n) {T : List Nd} {ln cl : Int} (hR : readP s.data.toList = (T, ln, cl, 0)) :
    Calls Tryz.prog 5 #[.string s, self.v, vv, .agg #[.string other.nm, .int .u8 other.v.k, .int .i64 other.v.n, .string other.v.s]] w fun e w' => e = .returned (.bool true) ∧ Old w w' := by
  have hz : s.data.toList.length = s.size := Array.length_toList
  obtain ⟨t1, t2⟩ := readP_small (by omega) hR
  have hvo := read_vn (by omega) hR
  have hfk : ∀ x ∈ absT T, x.ks.length ≤ 100000 := fun y hy => by
    obtain ⟨_, _, _, _, hok, _⟩ := readP_good (by omega) hR
    obtain ⟨x, hx, _, e⟩ := abs_mem hy
    have hk := (hok x hx).many
    have : (kidN x.op).2 ≤ 100000 := by
      unfold kidN
      repeat' split
      all_goals simp
    omega
  have HKN := hid (fun W (h : Old w W) => known_any W (hen.old h))
  have HE := hid (Ez.new w self other)
  have HR := hid (fun W => qread_tw s W (by omega) ⟨trivial⟩ hR)
  have HVL := hid (fun (W : World) (vt va : Value) (l : List Bd) (hW : Old w W) (ht : Tw W vt T) (hl : BR W va l) (hn : ∀ b ∈ l, I64 b.v.n) => tree_value W self l ht hl (hen.old hW) t1 t2 hfk hvo hs hn)
  have HVN := hid hvn
  have HV := hid hv
  have HOT := hid hot
  obtain ⟨oa, cap, rfl, v1, v2, HVA0⟩ := hv
  obtain ⟨n, hn⟩ : ∃ n, n = vars.length := ⟨_, rfl⟩
  obtain ⟨m, hm⟩ : ∃ m, m = T.length := ⟨_, rfl⟩
  have HNN := hid hn
  have HMM := hid hm
  rw [← hn] at h2 v1 HV ⊢
  rw [← hm] at HR
  have HVA := hid HVA0
  obtain ⟨i43, hi, hz0, hz1, hz2⟩ := info_parts info43
  have h1' : ¬ (300 : Int) < (s.size : Int) := by omega
  have h2' : ¬ (40 : Int) < (n : Int) := by omega
  have h3' : ¬ (300 : Int) < (self.s.size : Int) := by omega
  have h4' : ¬ (300 : Int) < (other.v.s.size : Int) := by omega
  have hm60 : m ≤ 60 := by rw [hm]; exact t1
  clear hen hn hm hR hz t1 t2 hvo hfk hs hot hvn HVA0
  go_enter Tryz.func5, Tryz.ntmps5
  go_wp2_with (first
    | (go_at_call 7; (with_reducible refine (HR.out _).mono ?_); rintro e w1 ⟨oa1, ca1, rfl, t1, o1⟩; have o1' := (Old.refl w1).alloc (.cells #[.int .i64 ln, .int .i64 cl] 31); have E1 := hid (HE.out.old (o1.trans o1')); have T1 := hid (t1.out.old o1'); clear o1 t1 o1'))
  generalize w1.alloc (.cells #[.int .i64 ln, .int .i64 cl] 31) = W1 at *
  clear HR HE
  go_loopw [54] (fun i wr => ∃ k : Nat, k ≤ m ∧ i = .int .i64 (k : Int) ∧ Hid (∀ j, j < k → ∀ x, (absT T)[j]? = some x → x.op = 2 → (other.nm.toList == (st x.nm).toList) = false) ∧ Hid (Old W1 wr)) (fun i _ => (m - intOf i).toNat)
  case atStart => exact ⟨0, Nat.zero_le _, rfl, hid (fun j h => by omega), hid (Old.refl W1)⟩
  case round =>
    obtain ⟨k, hk, rfl, HE, HO⟩ := hrel
    by_cases hkn : k < m
    · have tz := (T1.out.old HO.out).tz
      obtain ⟨oa2, ca2, e2, q1, q2, q4⟩ := tz
      injection e2 with e2 e3 e4
      subst e2
      have hml : m = (absT T).length := by rw [abs_len, HMM.out]
      obtain ⟨x, hx⟩ : ∃ x, (absT T)[k]? = some x := ⟨_, List.getElem?_eq_getElem (by omega)⟩
      obtain ⟨g, kv, rfl, hg, hs', a0, a1, a2, a3, a4, a5, a6, a7, hk'⟩ := q4 k x hx
      have n0 := (E1.out.old HO.out).b.c 0
      have HX := hid hx
      have q1' : m ≤ ca2 := by omega
      clear HVL HVN HV HVA HOT hml q4 hk' a1 a2 a3 a5 a6 a7 hs' hx T1 q1
      by_cases ho : x.op = 2
      · cases hq : (x.nm == other.nm.toList) with
        | true =>
          rw [ho] at a0
          go_wp2
          go_quiet (fail)
          go_wp2_with (first
            | (go_at_call 8; (with_reducible refine (HKN.out _ ((E1.out.o.trans HO.out).drewN _)).mono ?_); rintro e w2 ⟨rfl, o2⟩; have O2 := hid (((E1.out.o.trans HO.out).drewN _).trans o2); clear o2))
          go_ret
          exact ⟨rfl, O2.out⟩
        | false =>
          rw [ho] at a0
          have HQ := hid hq
          go_wp2
          go_quiet (fail)
          go_wp2
          refine ⟨⟨k + 1, hkn, rfl, hid fun j hj y hy hy2 => ?_, hid (HO.out.drewN _)⟩, by simp only [intOf]; omega⟩
          rcases Nat.lt_or_ge j k with h | h
          · exact HE.out j h y hy hy2
          · obtain rfl : j = k := by omega
            rw [HX.out] at hy
            injection hy with hy
            rw [← hy]
            have h := HQ.out
            have est : (st x.nm).toList = x.nm := by simp [ByteArray.toList_eq]
            rw [est]
            rw [beq_eq_false_iff_ne] at h ⊢
            exact fun e => h e.symm
      · have e1 : (x.op == 2) = false := beq_false_of_ne ho
        have HQ := hid ho
        clear ho
        go_wp2
        go_quiet (fail)
        go_wp2
        refine ⟨⟨k + 1, hkn, rfl, hid fun j hj y hy hy2 => ?_, hid (HO.out.drewN _)⟩, by simp only [intOf]; omega⟩
        rcases Nat.lt_or_ge j k with h | h
        · exact HE.out j h y hy hy2
        · obtain rfl : j = k := by omega
          rw [HX.out] at hy
          injection hy with hy
          rw [← hy] at hy2
          exact absurd hy2 HQ.out
    · obtain rfl : k = m := by omega
      have HNO := hid (show ∀ x ∈ absT T, x.op = 2 → (other.nm.toList == (st x.nm).toList) = false from fun x hx h2 => by
        obtain ⟨j, hj⟩ := List.getElem?_of_mem hx
        have hjl := (List.getElem?_eq_some_iff.1 hj).1
        rw [abs_len, ← HMM.out] at hjl
        exact HE.out j hjl x hj h2)
      have EQ := hid (E1.out.old HO.out)
      clear HE
      have n0 := EQ.out.b.c 0; have n1 := EQ.out.b.c 1; have n2 := EQ.out.b.c 2; have n3 := EQ.out.b.c 3
      go_upto_region 13 with (fail)
      have HF := hid (show Fz W1 (wr.alloc (.cells #[.string other.nm, .int .u8 other.v.k, .int .i64 other.v.n, .string other.v.s] 43)) (.slice (some ⟨wr.heap.size, 0, none⟩) 1 1) (other :: vars.take 0) from ⟨HO.out.alloc _, own_one wr other HO.out.size⟩)
      generalize wr.alloc (.cells #[.string other.nm, .int .u8 other.v.k, .int .i64 other.v.n, .string other.v.s] 43) = W2 at *
      clear n0 n1 n2 n3 EQ
      have HFL : ∀ j, j ≤ n → (other :: vars.take j).length = j + 1 := fun j hj => by
        rw [List.length_cons, List.length_take, ← HNN.out]
        omega
      have HFL := hid HFL
      go_wp2
      go_loopw [13, 79] (fun va i wr => ∃ k : Nat, k ≤ n ∧ i = .int .i64 (k : Int) ∧ Hid (Fz W1 wr va (other :: vars.take k))) (fun _ i _ => (n - intOf i).toNat)
      case atStart => exact ⟨0, Nat.zero_le _, rfl, HF⟩
      case round =>
        clear HF
        obtain ⟨k2, hk2, rfl, HF⟩ := hrel
        by_cases hkn2 : k2 < n
        · obtain ⟨b, hb⟩ : ∃ b, vars[k2]? = some b := ⟨_, List.getElem?_eq_getElem (by rw [← HNN.out]; exact hkn2)⟩
          obtain ⟨gb, go, rfl, hgb, x0, x1, x2, x3⟩ := HVA.out k2 b hb
          have oW := E1.out.o.trans HF.out.o
          have y0 := (oW.cell hgb).trans x0
          have y1 := (oW.cell hgb).trans x1
          have y2 := (oW.cell hgb).trans x2
          have y3 := (oW.cell hgb).trans x3
          have HTK := hid (show other :: vars.take (k2 + 1) = (other :: vars.take k2) ++ [b] from by
            rw [List.take_add_one, hb]
            rfl)
          have HOW := hid oW
          obtain ⟨bnm, ⟨bk, bn, bs⟩⟩ := b
          simp only at y0 y1 y2 y3
          clear x0 x1 x2 x3 hb oW HVL
          by_cases hbs : 300 < bs.size
          · have hbs' : (300 : Int) < (bs.size : Int) := by omega
            go_wp2_with (first
              | (go_at_call 8; (with_reducible refine (HKN.out _ (HOW.out.alloc _)).mono ?_); rintro e w5 ⟨rfl, o5⟩; have O5 := hid ((HOW.out.alloc _).trans o5); clear o5))
            go_ret
            exact ⟨rfl, O5.out⟩
          · have hbs' : ¬ (300 : Int) < (bs.size : Int) := by omega
            have F2 := hid (HF.out.old ((Old.refl _).alloc (.cells #[.string bnm, .int .u8 bk, .int .i64 bn, .string bs] 43)))
            go_upto_region 18 with (fail)
            have BB := hid (Bk.new wr #[.string bnm, .int .u8 bk, .int .i64 bn, .string bs] 43)
            generalize wr.alloc (.cells #[.string bnm, .int .u8 bk, .int .i64 bn, .string bs] 43) = W3 at *
            have c0 := BB.out.c 0; have c1 := BB.out.c 1; have c2 := BB.out.c 2; have c3 := BB.out.c 3
            have F4 := hid (F2.out.old ((Old.refl W3).alloc (.cells #[.string bnm, .int .u8 bk, .int .i64 bn, .string bs] 43)))
            have hr2 := F4.out.r
            have HNEW := hid (new_bd W3 ⟨bnm, bk, bn, bs⟩)
            have HONE := hid (one_bd ⟨bnm, bk, bn, bs⟩)
            rw [HFL.out k2 (by omega)] at hr2
            obtain ⟨oa3, ca3, hva⟩ := own_shape hr2
            subst hva
            have hsz : W1.heap.size ≤ (W3.alloc (.cells #[.string bnm, .int .u8 bk, .int .i64 bn, .string bs] 43)).heap.size := F4.out.o.size
            have hm1 : k2 + 1 + 1 ≤ maxLen := by unfold maxLen; omega
            have hm2 : (k2 + 1 + 1) * 48 ≤ 140737488355328 := by omega
            go_wp2_with (at_builtin; refine wpList_append_own _ rfl _ _ 39 rfl W1.heap.size 43 i43 (.agg #[.string ⟨#[]⟩, .int .u8 0, .int .i64 0, .string ⟨#[]⟩]) 4 48 Tryz.underlying39 hi hz0 hz1 hz2 rfl (by decide) _ (k2 + 1) _ rfl hr2 ⟨W3.heap.size, 0, none⟩ 1 1 [.string bnm, .int .u8 bk, .int .i64 bn, .string bs] rfl rfl HNEW.out HONE.out hm1 hm2 hsz ?_; intro va' w3 hown hgr _)
            refine ⟨⟨k2 + 1, hkn2, rfl, hid ?_⟩, by simp only [intOf]; omega⟩
            rw [HTK.out]
            refine F4.out.grown _ hgr ?_
            rw [HFL.out k2 (by omega)]
            exact hown
        · obtain rfl : k2 = n := by omega
          have hta : vars.take k2 = vars := by rw [HNN.out, List.take_length]
          have HF3 := hid (show Fz W1 wr u13 (other :: vars ++ (vars.take 0).map (reB other.v)) from by
            have h := HF.out
            rw [hta] at h
            rw [List.take_zero, List.map_nil, List.append_nil]
            exact h)
          have HFL3 := hid (show ∀ j, j ≤ k2 → (other :: vars ++ (vars.take j).map (reB other.v)).length = k2 + 1 + j from fun j hj => by
            rw [List.length_append, List.length_cons, List.length_map, List.length_take, ← HNN.out]
            omega)
          clear HF HFL hta
          go_wp2
          go_loopw [13, 96] (fun va i wr => ∃ k : Nat, k ≤ k2 ∧ i = .int .i64 (k : Int) ∧ Hid (Fz W1 wr va (other :: vars ++ (vars.take k).map (reB other.v)))) (fun _ i _ => (k2 - intOf i).toNat)
          case atStart => exact ⟨0, Nat.zero_le _, rfl, HF3⟩
          case round =>
            clear HF3
            obtain ⟨k3, hk3, rfl, HF⟩ := hrel
            by_cases hkn3 : k3 < k2
            · obtain ⟨b, hb⟩ : ∃ b, vars[k3]? = some b := ⟨_, List.getElem?_eq_getElem (by rw [← HNN.out]; exact hkn3)⟩
              obtain ⟨gb, go, rfl, hgb, x0, x1, x2, x3⟩ := HVA.out k3 b hb
              have oW := E1.out.o.trans HF.out.o
              have y0 := (oW.cell hgb).trans x0
              have y1 := (oW.cell hgb).trans x1
              have y2 := (oW.cell hgb).trans x2
              have y3 := (oW.cell hgb).trans x3
              have HTK := hid (show other :: vars ++ (vars.take (k3 + 1)).map (reB other.v) = (other :: vars ++ (vars.take k3).map (reB other.v)) ++ [reB other.v b] from by
                rw [List.take_add_one, hb, List.map_append, List.append_assoc]
                rfl)
              have HOW := hid oW
              obtain ⟨bnm, ⟨bk, bn, bs⟩⟩ := b
              simp only at y0 y1 y2 y3
              clear x0 x1 x2 x3 hb oW HVL
              have F2 := hid (HF.out.old ((Old.refl _).alloc (.cells #[.string bnm, .int .u8 bk, .int .i64 bn, .string bs] 43)))
              go_upto_region 23 with (fail)
              have BB := hid (Bk.new wr #[.string bnm, .int .u8 bk, .int .i64 bn, .string bs] 43)
              generalize wr.alloc (.cells #[.string bnm, .int .u8 bk, .int .i64 bn, .string bs] 43) = W3 at *
              have c0 := BB.out.c 0
              have EB := (E1.out.old F2.out.o).b
              have d1 := EB.c 1; have d2 := EB.c 2; have d3 := EB.c 3
              have F4 := hid (F2.out.old ((Old.refl W3).alloc (.cells #[.string bnm, .int .u8 other.v.k, .int .i64 other.v.n, .string other.v.s] 43)))
              have hr2 := F4.out.r
              have HNEW := hid (new_bd W3 ⟨bnm, other.v⟩)
              have HONE := hid (one_bd ⟨bnm, other.v⟩)
              rw [HFL3.out k3 (by omega)] at hr2
              obtain ⟨oa3, ca3, hva⟩ := own_shape hr2
              subst hva
              have hsz : W1.heap.size ≤ (W3.alloc (.cells #[.string bnm, .int .u8 other.v.k, .int .i64 other.v.n, .string other.v.s] 43)).heap.size := F4.out.o.size
              have hm1 : k2 + 1 + k3 + 1 ≤ maxLen := by unfold maxLen; omega
              have hm2 : (k2 + 1 + k3 + 1) * 48 ≤ 140737488355328 := by omega
              clear EB
              go_wp2_with (at_builtin; refine wpList_append_own _ rfl _ _ 39 rfl W1.heap.size 43 i43 (.agg #[.string ⟨#[]⟩, .int .u8 0, .int .i64 0, .string ⟨#[]⟩]) 4 48 Tryz.underlying39 hi hz0 hz1 hz2 rfl (by decide) _ (k2 + 1 + k3) _ rfl hr2 ⟨W3.heap.size, 0, none⟩ 1 1 [.string bnm, .int .u8 other.v.k, .int .i64 other.v.n, .string other.v.s] rfl rfl HNEW.out HONE.out hm1 hm2 hsz ?_; intro va' w3 hown hgr _)
              refine ⟨⟨k3 + 1, hkn3, rfl, hid ?_⟩, by simp only [intOf]; omega⟩
              rw [HTK.out]
              refine F4.out.grown (reB other.v ⟨bnm, ⟨bk, bn, bs⟩⟩) hgr ?_
              rw [HFL3.out k3 (by omega)]
              exact hown
            · obtain rfl : k3 = k2 := by omega
              have hta : vars.take k3 = vars := by rw [HNN.out, List.take_length]
              have HF2 := HF.out
              rw [hta] at HF2
              have HB2 := BR.own HF2.r
              have hmv : valA (absT T) self (other :: vars ++ vars.map (reB other.v)) = valA (absT T) self vars := val_more fun x hx h2 => bound_more other vars (HNO.out x hx h2)
              have hnm : ∀ b ∈ other :: vars ++ vars.map (reB other.v), I64 b.v.n := fun b hb => by
                rcases List.mem_append.1 hb with hb | hb
                · rcases List.mem_cons.1 hb with rfl | hb
                  · exact HOT.out
                  · exact HVN.out b hb
                · rw [List.mem_map] at hb
                  obtain ⟨c, _, rfl⟩ := hb
                  exact HOT.out
              have HV1 := hid (fun W (h : Old wr W) => HVL.out W _ _ vars ((E1.out.o.trans HF2.o).trans h) (T1.out.old (HF2.o.trans h)) (HV.out.old ((E1.out.o.trans HF2.o).trans h)) HVN.out)
              have HV2 := hid (fun W (h : Old wr W) => HVL.out W _ _ _ ((E1.out.o.trans HF2.o).trans h) (T1.out.old (HF2.o.trans h)) (HB2.old h) hnm)
              rw [hmv] at HV2
              have EE := hid (E1.out.old HF2.o)
              generalize valA (absT T) self vars = Z at *
              clear HVL HNO hmv hnm HB2 HF2 hta HF HVN HOT HVA HV T1 E1 HFL3 HO
              obtain ⟨⟨zk, zn, zs⟩, ze⟩ := Z
              have s0 := EE.out.a.c 0; have s1 := EE.out.a.c 1; have s2 := EE.out.a.c 2
              have HOR := hid (Old.refl wr)
              go_wp2_with (first
                | (go_at_call 11; (with_reducible refine (HV1.out _ HOR.out).mono ?_); rintro e w5 ⟨rfl, o5⟩; have O5 := hid (o5.alloc (.cells #[.int .u8 zk, .int .i64 zn, .string zs] 26)); have B1 := hid (Three.new w5 (.int .u8 zk) (.int .i64 zn) (.string zs)); clear o5 s0 s1 s2; have s0 := (EE.out.old O5.out).a.c 0; have s1 := (EE.out.old O5.out).a.c 1; have s2 := (EE.out.old O5.out).a.c 2)
                | (go_at_call 11; (with_reducible refine (HV2.out _ O5.out).mono ?_); rintro e w6 ⟨rfl, o6⟩; have o6' := o6.alloc (.cells #[.int .u8 zk, .int .i64 zn, .string zs] 26); have O6 := hid (O5.out.trans o6'); have B2 := hid (Three.new w6 (.int .u8 zk) (.int .i64 zn) (.string zs)); have B1' := hid (B1.out.old o6'); clear o6 o6' s0 s1 s2; have c0 := B1'.out.c0; have c1 := B1'.out.c1; have c2 := B1'.out.c2)
                | (go_at_call 8; (with_reducible refine (HKN.out _ (EE.out.o.trans O6.out)).mono ?_); rintro e w7 ⟨rfl, o7⟩; have O7 := hid ((EE.out.o.trans O6.out).trans o7); clear o7))
              go_ret
              exact ⟨by simp, O7.out⟩
theorem names_any (s : ByteArray) (self : Vl) (vars : List Bd) (other : Bd) (vv : Value) (w : World) (hen : En w) (hv : BR w vv vars) (hs : I64 self.n) (hot : I64 other.v.n) (hvn : ∀ b ∈ vars, I64 b.v.n) :
    Calls Tryz.prog 5 #[.string s, self.v, vv, .agg #[.string other.nm, .int .u8 other.v.k, .int .i64 other.v.n, .string other.v.s]] w fun e w' => e = .returned (.bool true) ∧ Old w w' := by
  by_cases h : 300 < s.size ∨ 40 < vars.length ∨ 300 < self.s.size ∨ 300 < other.v.s.size
  · exact names_long s self vars other vv w hen hv h
  · obtain ⟨⟨T, ln, cl, E⟩, hR⟩ : ∃ x, readP s.data.toList = x := ⟨_, rfl⟩
    by_cases hE : E = 0
    · subst hE
      exact names_main s self vars other vv w hen hv (by omega) (by omega) (by omega) (by omega) hs hot hvn hR
    · exact names_bad s self vars other vv w hen hv (by omega) (by omega) (by omega) (by omega) hR hE
end Go.Proofs.YtmkmafkkpigfpaaGreatDoor.V
namespace Go.Proofs.YtmkmafkkpigfpaaGreatDoor.V
open Go.ChangeShapes Go.WideShapes Go.ChangeAt Go.RowKit Go.Lib Go.Joins Go.Deep
set_option linter.unusedVariables false
set_option maxRecDepth 100000
theorem change_laid {H : Type} {enc : TypeId × Value → H} {a : Assume} {C : Checked} {os : Os} {f : FuncId} {fn : Func} {s : ChangeSpec} {conds : List PathCond} {apart fresh handsOn again : Bool} {X : World → Array Value → Prop}
    (hX : ∀ (w w' : World) (args : Array Value), w.heap = w'.heap → X w args → X w' args)
    (own : ownKnob C.prog.godebug = none) (started : os.Started) (noInit : C.prog.inits.idxOf? f = none) (hfn : C.prog.funcs[f]? = some fn)
    (witness : ∃ (w : World) (tape : Tape) (i : Input), w.os = os ∧ (w.forCall tape i).Shaped C.prog ∧ i.vars = [] ∧ Input.okWide C.prog (w.forCall tape i) .any w.heap.size f i ∧
      ((s.pre enc C.prog fn conds apart (w.forCall tape i).memory i.args ∧ X (w.forCall tape i).memory i.args) ∧ sizedMet enc C.prog fn (OpenSpec.ofChange s) apart (w.forCall tape i).memory i.args) ∧ a.holds C.prog (lone (Frame.enter C.prog f i.args .normal) [] (w.forCall tape i)))
    (contract : ∀ (W : World) (base : Nat) (args : Array Value) (ds gs : List (DataW H)) (before : List MemPlace),
      (∀ (j : Nat) t v, fn.params[j]? = some t → args[j]? = some v → Value.okWide C.prog W .any base t v) →
      DataW.Whole enc C.prog fn.params.toList s.vars apart W args.toList ds gs before → X W args → W.ShapedOpen C.prog →
      Calls C.prog f args W fun e W' => ∃ v, e = .returned v ∧ s.post enc C.prog fn apart fresh handsOn again W args v W') :
    ReturnsInHanded a C os f .any (fun w args => (s.pre enc C.prog fn conds apart w args ∧ X w args) ∧ sizedMet enc C.prog fn (OpenSpec.ofChange s) apart w args) (s.post enc C.prog fn apart fresh handsOn again) := by
  refine returnsInHanded_of_calls own started noInit witness ?_
  intro w tape i _ hsh _ hok hpre _
  obtain ⟨_, _, _, g, hg, _, _, _, _, hval⟩ := hok
  obtain rfl : g = fn := Option.some.inj (hg.symm.trans hfn)
  obtain ⟨⟨⟨ds, gs, before, hw, _⟩, hx⟩, _⟩ := hpre
  refine (contract (w.forCall tape i) w.heap.size i.args ds gs before hval (DataW.Whole.of_heap (w' := w.forCall tape i) (by rfl) hw) (hX _ _ _ (by rfl) hx) hsh).mono fun e W' ⟨v, he, hp⟩ => ?_
  subst he
  exact ChangeSpec.post_blind hp
theorem env_of {W : World} (h : laidMetH Tryz.prog Rows.evalNamesRow.laid W) (hsh : W.ShapedOpen Tryz.prog) : En W := by
  rw [MakeChecks.laidMetH_plain _ _ _ (by kernel_rfl)] at h
  refine ⟨?_, ?_⟩
  · refine utf8Tabs_of_readsT (P := Tryz.prog) (ρ := Tryz.lays230_ren) ⟨by kernel_rfl, by kernel_rfl, by kernel_rfl, by kernel_rfl⟩ ⟨by kernel_rfl, by kernel_rfl, by kernel_rfl, by kernel_rfl, by kernel_rfl, by kernel_rfl, by kernel_rfl⟩ ?_ ?_
    · have h1 := Lib.laidMet.reads h (.tail _ (.head _))
      rw [show Rows.laid_unicode_utf8_first = firstData by kernel_rfl] at h1
      exact h1
    · have h1 := Lib.laidMet.reads h (.head _)
      rw [show Rows.laid_unicode_utf8_acceptRanges = acceptData by kernel_rfl] at h1
      exact h1
  · exact cell_of_shapedOpen_int (g := 0) (t := 3) (zero := #[.int .i64 0]) hsh (of_decide_eq_true (by kernel_rfl)) (by kernel_rfl) rfl (by kernel_rfl) (by kernel_rfl) (by kernel_rfl)
theorem ex_list {α : Type} {Q : Nat → α → Prop} : ∀ n, (∀ i, i < n → ∃ x, Q i x) → ∃ l : List α, l.length = n ∧ ∀ (i : Nat) (x : α), l[i]? = some x → Q i x
  | 0, _ => ⟨[], rfl, fun i x h => by simp at h⟩
  | n + 1, h => by
    obtain ⟨l, hl, hq⟩ := ex_list n (fun i hi => h i (by omega))
    obtain ⟨x, hx⟩ := h n (by omega)
    refine ⟨l ++ [x], by simp [hl], fun i y hi => ?_⟩
    by_cases e : i < n
    · rw [List.getElem?_append_left (by omega)] at hi
      exact hq i y hi
    · have hlt : i < (l ++ [x]).length := (List.getElem?_eq_some_iff.1 hi).1
      have : i = n := by simp [hl] at hlt; omega
      subst this
      rw [List.getElem?_append_right (by omega), hl, Nat.sub_self] at hi
      simp at hi
      subst hi
      exact hx
theorem add_none (b o n : Nat) : (⟨b, o, none⟩ : Addr).add n = ⟨b, o + n, none⟩ := by
  unfold Addr.add
  split
  · subst_vars; rfl
  · rfl
theorem cell_lt {w : World} {a : Addr} {v : Value} (h : w.cell? a = some v) : a.block < w.heap.size := by
  unfold World.cell? at h
  split at h
  · rename_i hb
    exact blk_lt hb
  · cases h
theorem cells26 : Tryz.prog.cellsOf 26 = 3 := by kernel_rfl
theorem cells43 : Tryz.prog.cellsOf 43 = 4 := by kernel_rfl
theorem cells9 : Tryz.prog.cellsOf 9 = 1 := by kernel_rfl
theorem cells5 : Tryz.prog.cellsOf 5 = 1 := by kernel_rfl
theorem cells2 : Tryz.prog.cellsOf 2 = 1 := by kernel_rfl
abbrev dvl {H : Type} (k n : Int) (s : ByteArray) : DataW H := .agg [.lit (.int .u8 k), .lit (.int .i64 n), .lit (.string s.data.toList)]
theorem open_vl {H : Type} {enc : TypeId × Value → H} {W : World} {r : Reach} {b0 base : Nat} {spare : Nat → Bool} {held : Bool} {v : Value} {d : DataW H} {p : List MemPlace}
    (hv : Value.okWide Tryz.prog W r b0 26 v) (h : DataW.Trod enc Tryz.prog W base spare held 26 v d p) :
    ∃ (k n : Int) (s : ByteArray), v = .agg #[.int .u8 k, .int .i64 n, .string s] ∧ d = dvl k n s ∧ p = [] ∧ (Lit.int .u8 k).wf = true ∧ (Lit.int .i64 n).wf = true ∧ s.size ≤ maxLen := by
  obtain ⟨c0, c1, c2, y0, y1, y2, m, rfl, rfl, rfl, hy0, hy1, hy2⟩ := open_agg3 Tryz.underlying26 (by kernel_rfl) cells26 hv h
  obtain ⟨k, e0, rfl, wk⟩ := DataW.trod_int Tryz.underlying5 hy0
  obtain ⟨n, e1, rfl, wn⟩ := DataW.trod_int Tryz.underlying2 hy1
  obtain ⟨s, e2, rfl, ws⟩ := DataW.trod_string Tryz.underlying9 hy2
  simp at e0 e1 e2
  subst e0 e1 e2
  exact ⟨k, n, s, rfl, rfl, rfl, wk, wn, ws⟩
section
variable {H : Type} {enc : TypeId × Value → H} {w : World} {base : Nat} {sp : Nat → Bool} {held : Bool}
theorem bd_cells {fuel : Nat} {cs : List Value} {x : DataW H × List MemPlace} (h : DataW.trod enc Tryz.prog w base sp held fuel 43 cs = some x) : ∃ (b : Bd), cs = [.string b.nm, .int .u8 b.v.k, .int .i64 b.v.n, .string b.v.s] ∧ (Lit.int .i64 b.v.n).wf = true := by
  obtain ⟨y0, y1, m, _, hl, h0, h1⟩ := trod_struct2 Tryz.underlying43 h
  rw [cells43] at hl
  match cs, hl with
  | [c0, c1, c2, c3], _ =>
    have g0 : DataW.trod enc Tryz.prog w base sp held m 9 (([c0, c1, c2, c3].drop 0).take (Tryz.prog.cellsOf 9)) = some y0 := h0
    have g1 : DataW.trod enc Tryz.prog w base sp held m 26 (([c0, c1, c2, c3].drop 1).take (Tryz.prog.cellsOf 26)) = some y1 := h1
    rw [cells9] at g0
    rw [cells26] at g1
    obtain ⟨z0, z1, z2, m', _, _, k0, k1, k2⟩ := trod_struct3 Tryz.underlying26 g1
    have j0 : DataW.trod enc Tryz.prog w base sp held m' 5 ((([c1, c2, c3] : List Value).drop 0).take (Tryz.prog.cellsOf 5)) = some z0 := k0
    have j1 : DataW.trod enc Tryz.prog w base sp held m' 2 ((([c1, c2, c3] : List Value).drop 1).take (Tryz.prog.cellsOf 2)) = some z1 := k1
    have j2 : DataW.trod enc Tryz.prog w base sp held m' 9 ((([c1, c2, c3] : List Value).drop 2).take (Tryz.prog.cellsOf 9)) = some z2 := k2
    rw [cells5] at j0
    rw [cells2] at j1
    rw [cells9] at j2
    obtain ⟨nm, e0, _, _⟩ := DataW.trod_string Tryz.underlying9 g0
    obtain ⟨k, e1, _, _⟩ := DataW.trod_int Tryz.underlying5 j0
    obtain ⟨n, e2, _, wn⟩ := DataW.trod_int Tryz.underlying2 j1
    obtain ⟨s, e3, _, _⟩ := DataW.trod_string Tryz.underlying9 j2
    simp at e0 e1 e2 e3
    subst e0 e1 e2 e3
    exact ⟨⟨nm, ⟨k, n, s⟩⟩, rfl, wn⟩
theorem open_bs {fuel : Nat} {cs : List Value} {x : DataW H × List MemPlace} (h : DataW.trod enc Tryz.prog w base (fun _ => true) held fuel 39 cs = some x) : ∃ v l, cs = [v] ∧ BR w v l ∧ ∀ b ∈ l, (Lit.int .i64 b.v.n).wf = true := by
  rcases open_slice Tryz.underlying39 h with ⟨rfl, _⟩ | ⟨a, len, cap, m, n, D, Pl, rfl, _, hl, hm, hmm, _, hi⟩
  · exact ⟨_, [], rfl, ⟨none, 0, rfl, Nat.le_refl _, Nat.zero_le _, fun j x hj => by simp at hj⟩, fun b hb => by cases hb⟩
  · simp only [if_true] at hmm
    subst hmm
    rw [cells43] at hi
    have key : ∀ i, i < len → ∃ b : Bd, w.cell? (a.add (i * 4)) = some (.string b.nm) ∧ w.cell? ((a.add (i * 4)).add 1) = some (.int .u8 b.v.k) ∧ w.cell? ((a.add (i * 4)).add 2) = some (.int .i64 b.v.n) ∧ w.cell? ((a.add (i * 4)).add 3) = some (.string b.v.s) ∧ (Lit.int .i64 b.v.n).wf = true := fun i hlt => by
      obtain ⟨cs', hc, ht⟩ := hi i (by omega)
      obtain ⟨b, rfl, wn⟩ := bd_cells ht
      obtain ⟨_, _, hat⟩ := World.cells?_some hc
      have c0 := hat 0 (by omega)
      have c1 := hat 1 (by omega)
      have c2 := hat 2 (by omega)
      have c3 := hat 3 (by omega)
      refine ⟨b, ?_, c1, c2, c3, wn⟩
      have : (a.add (i * 4)).add 0 = a.add (i * 4) := by obtain ⟨bl, o, p⟩ := a; unfold Addr.add; first | rfl | (split <;> rfl) | (split <;> simp_all)
      rw [this] at c0
      exact c0
    obtain ⟨l, hll, hlq⟩ := ex_list len key
    subst hll
    refine ⟨_, l, rfl, ⟨some a, m, rfl, hl, hm, fun j x hj => ?_⟩, fun b hb => ?_⟩
    · obtain ⟨c0, c1, c2, c3, r⟩ := hlq j x hj
      have h0 : 0 < l.length := Nat.lt_of_le_of_lt (Nat.zero_le _) (List.getElem?_eq_some_iff.1 hj).1
      obtain ⟨y, hy⟩ : ∃ y, l[0]? = some y := ⟨l[0], List.getElem?_eq_getElem h0⟩
      have hsp := World.cell?_spot (hlq 0 y hy).1
      obtain ⟨b, o, spt⟩ := a
      have hsp' : spt = none := by simpa [Addr.add] using hsp
      subst hsp'
      rw [add_none] at c0 c1 c2 c3
      rw [add_none] at c1 c2 c3
      exact ⟨b, o, rfl, cell_lt c0, c0, c1, c2, c3⟩
    · obtain ⟨j, hj⟩ := List.mem_iff_getElem?.1 hb
      exact (hlq j b hj).2.2.2.2
end
theorem arg_bs {H : Type} {enc : TypeId × Value → H} {w : World} {base b0 : Nat} {r : Reach} {held : Bool} {v : Value} {d : DataW H} {p : List MemPlace} (hv : Value.okWide Tryz.prog w r b0 39 v) (h : DataW.Trod enc Tryz.prog w base (fun _ => true) held 39 v d p) : ∃ l, BR w v l ∧ ∀ b ∈ l, (Lit.int .i64 b.v.n).wf = true := by
  obtain ⟨a, len, cap, rfl⟩ := okWide_slice Tryz.underlying39 hv
  obtain ⟨fuel, hf⟩ := h
  obtain ⟨v', l, e, hl⟩ := open_bs hf
  simp [Value.cells] at e
  subst e
  exact ⟨l, hl⟩
theorem arg_bd {H : Type} {enc : TypeId × Value → H} {w : World} {base b0 : Nat} {r : Reach} {sp : Nat → Bool} {held : Bool} {v : Value} {d : DataW H} {p : List MemPlace} (hv : Value.okWide Tryz.prog w r b0 43 v) (h : DataW.Trod enc Tryz.prog w base sp held 43 v d p) : ∃ b : Bd, v = .agg #[.string b.nm, .int .u8 b.v.k, .int .i64 b.v.n, .string b.v.s] ∧ (Lit.int .i64 b.v.n).wf = true := by
  obtain ⟨cs, rfl, hsz⟩ := okWide_struct Tryz.underlying43 hv
  obtain ⟨fuel, hf⟩ := h
  obtain ⟨b, e, wn⟩ := bd_cells hf
  refine ⟨b, ?_, wn⟩
  obtain ⟨cl⟩ := cs
  simp only [Value.cells] at e
  subst e
  rfl
theorem types_ok {f : Func} (h : (f.params.toList.all fun t => decide (t < Tryz.prog.types.size)) = true) : ∀ t ∈ f.params.toList, t < Tryz.prog.types.size := fun t ht => by
  have := List.all_eq_true.1 h t ht
  simpa using this
theorem kids : Kids Tryz.prog (· < Tryz.prog.types.size) := kids_rows (by kernel_rfl) (by kernel_rfl)
theorem full : ∀ t e, t < Tryz.prog.types.size → Tryz.prog.underlying t = some (.slice e) → 0 < Tryz.prog.cellsOf e := slices_full_of Tryz.prog (by kernel_rfl)
end Go.Proofs.YtmkmafkkpigfpaaGreatDoor.V
