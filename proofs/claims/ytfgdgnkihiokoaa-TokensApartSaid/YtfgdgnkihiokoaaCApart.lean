/- TokensApart's walk. -/
import Derived.Test.YtfgdgnkihiokoaaCE
namespace Go.Proofs.Ytfgdgnkihiokoaa
open Go.ChangeShapes Go.WideShapes Go.ChangeAt Go.RowKit Go.Lib
set_option linter.unusedVariables false
set_option linter.unusedSimpArgs false
set_option maxRecDepth 100000
set_option maxHeartbeats 2000000

/-- A number's rest by d, d no less than 1 and not great. -/
theorem rest_at (k d : Int) (h0 : 0 < d) (h1 : d ≤ 1000000) : ∃ m : Nat, (m : Int) < d ∧ wrap64 ((IntKind.u64.wrap k).tmod d) = (m : Int) := by
  have hu : 0 ≤ IntKind.u64.wrap k := by rw [IntKind.wrap_u64]; omega
  generalize IntKind.u64.wrap k = u at hu ⊢
  have e : u.tmod d = u % d := Int.tmod_eq_emod_of_nonneg hu
  have h2 := Int.emod_nonneg u (show d ≠ 0 by omega)
  have h3 := Int.emod_lt_of_pos u h0
  refine ⟨(u % d).toNat, by omega, ?_⟩
  rw [e]
  generalize u % d = z at h2 h3 ⊢
  simp only [wrap64]
  omega

theorem apart_any (l : List Ox) (v : Value) (n : Int) (w : World) (hl : OR w v l) (hn64 : I64 n) : Calls Try.prog 6 #[v, .int .i64 n] w fun e w' => e = .returned (.bool true) ∧ Old w w' := by
  have hbu := fun (W : World) (ho : Old w W) (hn : l.length ≤ 1000) => built_any (hl.old ho) hn
  have hall := hl.all
  obtain ⟨oa, cp, rfl, _⟩ := hl
  by_cases h60 : 60 < l.length
  · have h60i : (60 : Int) < (l.length : Int) := by omega
    clear hbu hall
    go_enter Try.func6, Try.ntmps6
    go_wp2_with (go_at_call 7; (with_reducible refine (known_any _).mono ?_); rintro e w1 ⟨rfl, ho⟩; have HO := Lib.hid ho; clear ho)
    go_ret
    exact ⟨rfl, HO.out⟩
  · have hb := fun W ho => hbu W ho (by omega)
    obtain ⟨hg, hlast, hlen⟩ := runS_facts l hall
    generalize runS l = S at *
    obtain ⟨L, last⟩ := S
    simp only at hg hlast hlen hb
    have HB := Lib.hid hb
    have HG := Lib.hid hg
    have hli : (l.length : Int) ≤ 60 := by omega
    have hla : (last : Int) < 100 := by omega
    have hla0 : (0 : Int) ≤ (last : Int) := by omega
    have HLA := Lib.hid (show last < 100 by omega)
    have HLL := Lib.hid (show L.length < 100 by omega)
    have HCL := Lib.hid (show 4 + 4 * l.length ≤ 400 by omega)
    obtain ⟨r, hr1, hr2⟩ := rest_at n ((last : Int) + 1) (by omega) (by omega)
    have hl1 : ¬ (last : Int) + 1 = 0 := by omega
    clear hbu hall h60 hb hg hlast hlen
    go_enter Try.func6, Try.ntmps6
    go_upto_region 8 with (go_at_call 18; first
      | ((with_reducible refine (HB.out _ (Old.refl _)).mono ?_); rintro e w1 ⟨a, A, ca, rfl, h, hcap⟩; have HMA := Lib.hid h; have HCA := Lib.hid hcap; clear h hcap)
      | ((with_reducible refine (HB.out _ HMA.out.old).mono ?_); rintro e w2 ⟨b, B, cb, rfl, h, hcap⟩; have HMB := Lib.hid h; have HCB := Lib.hid hcap; clear h hcap))
    rw [hr2]
    have hmm := @run_makeMap Try.prog
    have hMB3 := HMB.out.o ((Old.refl w2).alloc (.map #[] 0))
    have hrem := remove_all hMB3 HG.out (by have := HLA.out; omega) (by have := HLL.out; omega) (by have := HCB.out; have := HCL.out; omega) (i := (r : Int)) (by unfold I64; omega)
    have HREM := Lib.hid hrem
    have HGU := Lib.hid (remG_up HG.out (r : Int))
    have HGL := Lib.hid (Nat.lt_of_le_of_lt (remG_len (r : Int) L) HLL.out)
    have HGS := Lib.hid (fun t (ht : t ∈ remG (r : Int) L) => remG_sub ht)
    have HST := Lib.hid (fun t (ht : t ∈ L) h => rem_stays HG.out (i := (r : Int)) ht h)
    have HGO := Lib.hid (fun k h => rem_gone HG.out (i := (r : Int)) (k := k) h)
    have HNO := Lib.hid (fun k h => rem_none (L := L) (k := k) (r : Int) h)
    have HRG := Lib.hid (remL_good HG.out (r : Int))
    have HRL := Lib.hid (Nat.lt_of_le_of_lt (remL_len (r : Int) L) HLL.out)
    generalize remG (r : Int) L = G at *
    generalize remL (r : Int) L = R at *
    have hGi : (G.length : Int) < 100 := by have := HGL.out; omega
    have HAl := Lib.hid (fun j (hj : A j) => HMA.out.ar.lt hj)
    have HBl := Lib.hid (fun j (hj : B j) => HMB.out.ar.lt hj)
    have HMA3 := Lib.hid ((HMA.out.o HMB.out.old).o ((Old.refl w2).alloc (.map #[] 0)))
    have HGM := Lib.hid (World.ownsMap_made w2 Try.prog 3 Rm)
    have HW12 := Lib.hid HMB.out.old.size
    clear hrem hMB3 hr1 hr2 hl1
    go_wp2_with (go_at_call 10; (with_reducible refine HREM.out.mono ?_); rintro e w4 ⟨v4, rfl, hr, B4, h, hs⟩; obtain ⟨oa4, cp4, rfl⟩ := own_shape hr; have HMB4 := Lib.hid h; have HT4 := Lib.hid hr; have HS4 := Lib.hid hs; clear h hr hs)
    have HW1 := Lib.hid HMA.out.old.size
    have hg3 : (w2.alloc (.map #[] 0)).heap.size = w2.heap.size + 1 := sz_alloc _ _
    rw [hg3] at HT4
    have hMap4 : w4.ownsMap Try.prog 3 Rm w2.heap.size 0 (Dz (gz (G.take 0))) := own_chg HGM.out HS4.out.chg (fun e => by have := HBl.out _ e; omega)
    have hA4 : My w w4 a A L last ca := HMA3.out.far HS4.out (fun j hj e => by have h1 := HAl.out j hj; have h2 := HMB.out.new j e; omega) (fun j e => by have h1 := HMB.out.new j e; have := HW1.out; omega)
    have hB4n : ∀ j, B4 j → j ≠ w2.heap.size := fun j hj e => by
      rcases HS4.out.grow j hj with h1 | h1
      · have := HBl.out j h1; omega
      · omega
    have hAn : ∀ j, A j → j ≠ w2.heap.size := fun j hj e => by have h1 := HAl.out j hj; have := HW12.out; omega
    have hwg : w.heap.size ≤ w2.heap.size := Nat.le_trans HW1.out HW12.out
    have hw1g : w1.heap.size ≤ w2.heap.size := HW12.out
    have HMap4 := Lib.hid hMap4
    have HA4 := Lib.hid hA4
    have HB4n := Lib.hid hB4n
    have HAn := Lib.hid hAn
    have HWG := Lib.hid hwg
    have HW1G := Lib.hid hw1g
    clear hg3 hMap4 hA4 hB4n hAn hwg hw1g
    generalize w2.heap.size = gm at *
    clear HS4 HGM HMA3 HREM HBl HMB
    go_loopw [53] (fun s wr => ∃ k : Nat, s = .int .i64 (k : Int) ∧ k ≤ G.length ∧ Hid (Chg (· = gm) w4 wr) ∧ Hid (wr.ownsMap Try.prog 3 Rm gm k (Dz (gz (G.take k))))) (fun s wr => G.length - (intOf s).toNat)
    case atStart => exact ⟨0, rfl, Nat.zero_le _, Lib.hid (Chg.ofOld (Old.refl w4)), HMap4⟩
    case round =>
      obtain ⟨k, rfl, hk, HC, HM⟩ := hrel
      by_cases hlt : k < G.length
      · obtain ⟨s, hs⟩ : ∃ s, G[k]? = some s := ⟨G[k], List.getElem?_eq_getElem hlt⟩
        have hsL := HGS.out s (List.mem_iff_getElem?.2 ⟨k, hs⟩)
        have hr5 : Toks wr (gm + 1) (.slice oa4 G.length cp4) G := row_chg HT4.out HC.out (fun j e1 e2 => by have := row_low HT4.out j e1; omega)
        obtain ⟨gg, e0, d0, d1, d2, d3⟩ := hr5.cells hs
        subst e0
        have hs64 : I64 s.id := (HG.out.t64 (by have := HLA.out; omega) hsL).id
        have hpre : ∀ y ∈ gz (G.take k), y.1 < s.id := fun y hy => by
          obtain ⟨t, ht, rfl⟩ := List.mem_map.1 hy
          obtain ⟨j, hj⟩ := List.mem_iff_getElem?.1 ht
          have hjk : j < k := by
            have := (List.getElem?_eq_some_iff.1 hj).1
            rw [List.length_take] at this
            omega
          rw [List.getElem?_take_of_lt hjk] at hj
          obtain ⟨h1, h2⟩ := List.getElem?_eq_some_iff.1 hj
          obtain ⟨h3, h4⟩ := List.getElem?_eq_some_iff.1 hs
          have := List.pairwise_iff_getElem.1 HGU.out j k h1 h3 hjk
          rw [h2, h4] at this
          exact this
        have HTK := Lib.hid (take_snoc hs)
        have HPRE := Lib.hid hpre
        have HS64 := Lib.hid hs64
        have HLT := Lib.hid hlt
        have h0k : (0 : Int) ≤ (k : Int) := by omega
        have hlti : (k : Int) < (G.length : Int) := by omega
        have hR : ∀ v : Value, Rm v = some (.held v, []) := fun v => rfl
        have HMo := Lib.hid (HM.out.alloc (.cells #[.int .i64 s.id, .int .i64 s.par, .int .i64 s.node, .int .i64 s.fact] 32))
        have HCo := Lib.hid (HC.out.trans (Chg.ofOld ((Old.refl wr).alloc (.cells #[.int .i64 s.id, .int .i64 s.par, .int .i64 s.node, .int .i64 s.fact] 32))))
        have hkm : k < maxLen := by have := HGL.out; unfold maxLen; omega
        have HKM := Lib.hid hkm
        clear hs hsL hr5 hs64 hpre hlt hk hkm
        go_wp2_with (at_mapUpdate; refine wpList_mapUpdate_in _ rfl _ _ _ 47 rfl 3 3 keyed3 Try.underlying47 Rm gm k (Dz (gz (G.take k))) rfl HMo.out HKM.out _ _ _ rfl rfl (key_int HS64.out) _ [] (hR (.int .i64 1)) ?_; intro W6 hown ht; rw [Dz_put (E := gz (G.take k)) (x := (s.id, .int .i64 1)) HPRE.out, ← gz_snoc, ← HTK.out] at hown; have HM6 := Lib.hid hown; have HC6 := Lib.hid (HCo.out.trans (Chg.ofTurn ht)); clear hown ht)
        refine ⟨⟨k + 1, by simp, HLT.out, HC6, HM6⟩, ?_⟩
        have e1 : (intOf (Value.int IntKind.i64 ((k : Int) + 1))).toNat = k + 1 := by show ((k : Int) + 1).toNat = k + 1; omega
        have e2 : (intOf (Value.int IntKind.i64 (k : Int))).toNat = k := by show ((k : Int)).toNat = k; omega
        have := HLT.out
        rw [e1, e2]
        omega
      · have hge : (G.length : Int) ≤ (k : Int) := by omega
        obtain rfl : k = G.length := by omega
        have hM5 := HM.out
        rw [List.take_length] at hM5
        have HM5 := Lib.hid hM5
        have HA5 := Lib.hid (HA4.out.chg HC.out HAn.out (fun j e => by have := HWG.out; omega))
        have HB5 := Lib.hid (HMB4.out.chg HC.out HB4n.out (fun j e => by have := HW1G.out; omega))
        have HTA := Lib.hid (HA5.out.ar.tell HG.out (by have := HLA.out; omega) (by have := HLL.out; omega))
        have HTB := Lib.hid (HB5.out.ar.tell HRG.out (by have := HLA.out; omega) (by have := HRL.out; omega))
        have HOB := Lib.hid HB5.out.old
        clear hM5 hlt hk HM HC HA4 HMB4 HT4 HMap4
        generalize wr = w5 at *
        go_wp2
        go_loopw [12] (fun s w6 => ∃ k : Nat, s = .int .i64 (k : Int) ∧ k ≤ last + 1 ∧ Hid (Old w5 w6)) (fun s w6 => last + 1 - (intOf s).toNat)
        case atStart => exact ⟨0, rfl, Nat.zero_le _, Lib.hid (Old.refl w5)⟩
        case round =>
          obtain ⟨k, rfl, hk, HO⟩ := hrel
          by_cases hlt : k ≤ last
          · have hlti : (k : Int) ≤ (last : Int) := by omega
            have h0k : (0 : Int) ≤ (k : Int) := by omega
            have hk64 : I64 (k : Int) := by unfold I64; omega
            have HLT := Lib.hid hlt
            have hlk : ∀ W, Old w5 W → (Instr.lookup 47 (.map (some gm)) (.int .i64 (k : Int)) false).run Try.prog W = .ok (.int .i64 (if (k : Int) ∈ G.map (·.id) then 1 else 0)) W := fun W ho => gz_look (own_chg (S := fun _ => False) HM5.out (Chg.ofOld ho) (fun e => e)) HGU.out hk64
            rcases hgt : getT L (k : Int) with _ | t
            · have hgr := HNO.out (k : Int) hgt
              have hga : ∀ W, Old w5 W → Calls Try.prog 11 #[ptr a, .int .i64 (k : Int)] W fun e W' => e = .returned (.tuple #[tv noTk, .bool false]) ∧ Old W W' := fun W ho => by
                have := HTA.out.get (k : Int) W hk64 ho
                rw [hgt] at this
                exact this
              have hgb : ∀ W, Old w5 W → Calls Try.prog 11 #[ptr b, .int .i64 (k : Int)] W fun e W' => e = .returned (.tuple #[tv noTk, .bool false]) ∧ Old W W' := fun W ho => by
                have := HTB.out.get (k : Int) W hk64 ho
                rw [hgr] at this
                exact this
              have HGA := Lib.hid hga
              have HGB := Lib.hid hgb
              clear hga hgb hgr hgt hlk hk hlt hk64
              go_wp2_with (go_at_call 11; first
                | ((with_reducible refine (HGA.out _ HO.out).mono ?_); rintro e w7 ⟨rfl, ho⟩; replace HO := Lib.hid ((HO.out.trans ho).alloc (.cells #[.int .i64 noTk.id, .int .i64 noTk.par, .int .i64 noTk.node, .int .i64 noTk.fact] 32)); have HTB1 := Lib.hid (Tb.new w7 noTk); clear ho)
                | ((with_reducible refine (HGB.out _ HO.out).mono ?_); rintro e w8 ⟨rfl, ho⟩; replace HO := Lib.hid ((HO.out.trans ho).alloc (.cells #[.int .i64 noTk.id, .int .i64 noTk.par, .int .i64 noTk.node, .int .i64 noTk.fact] 32)); replace HTB1 := Lib.hid ((HTB1.out.old ho).old ((Old.refl w8).alloc (.cells #[.int .i64 noTk.id, .int .i64 noTk.par, .int .i64 noTk.node, .int .i64 noTk.fact] 32))); have HTB2 := Lib.hid (Tb.new w8 noTk); clear ho))
              refine ⟨⟨k + 1, by simp, by have := HLT.out; omega, HO⟩, ?_⟩
              have e1 : (intOf (Value.int IntKind.i64 ((k : Int) + 1))).toNat = k + 1 := by show ((k : Int) + 1).toNat = k + 1; omega
              have e2 : (intOf (Value.int IntKind.i64 (k : Int))).toNat = k := by show ((k : Int)).toNat = k; omega
              have := HLT.out
              rw [e1, e2]
              omega
            · obtain ⟨htL, hid⟩ := getT_some hgt
              by_cases hm : (k : Int) ∈ G.map (·.id)
              · have hgr := HGO.out (k : Int) hm
                rw [if_pos hm] at hlk
                have hga : ∀ W, Old w5 W → Calls Try.prog 11 #[ptr a, .int .i64 (k : Int)] W fun e W' => e = .returned (.tuple #[tv t, .bool true]) ∧ Old W W' := fun W ho => by
                  have := HTA.out.get (k : Int) W hk64 ho
                  rw [hgt] at this
                  exact this
                have hgb : ∀ W, Old w5 W → Calls Try.prog 11 #[ptr b, .int .i64 (k : Int)] W fun e W' => e = .returned (.tuple #[tv noTk, .bool false]) ∧ Old W W' := fun W ho => by
                  have := HTB.out.get (k : Int) W hk64 ho
                  rw [hgr] at this
                  exact this
                have HGA := Lib.hid hga
                have HGB := Lib.hid hgb
                have HLK := Lib.hid hlk
                clear hga hgb hgr hgt hlk hk hlt hk64 hm htL hid
                go_wp2_with (go_at_call 11; first
                  | ((with_reducible refine (HGA.out _ HO.out).mono ?_); rintro e w7 ⟨rfl, ho⟩; replace HO := Lib.hid ((HO.out.trans ho).alloc (.cells #[.int .i64 t.id, .int .i64 t.par, .int .i64 t.node, .int .i64 t.fact] 32)); have HTB1 := Lib.hid (Tb.new w7 t); clear ho)
                  | ((with_reducible refine (HGB.out _ HO.out).mono ?_); rintro e w8 ⟨rfl, ho⟩; replace HO := Lib.hid ((HO.out.trans ho).alloc (.cells #[.int .i64 noTk.id, .int .i64 noTk.par, .int .i64 noTk.node, .int .i64 noTk.fact] 32)); replace HTB1 := Lib.hid ((HTB1.out.old ho).old ((Old.refl w8).alloc (.cells #[.int .i64 noTk.id, .int .i64 noTk.par, .int .i64 noTk.node, .int .i64 noTk.fact] 32))); have HTB2 := Lib.hid (Tb.new w8 noTk); clear ho; have hlk8 := HLK.out _ HO.out))
                refine ⟨⟨k + 1, by simp, by have := HLT.out; omega, HO⟩, ?_⟩
                have e1 : (intOf (Value.int IntKind.i64 ((k : Int) + 1))).toNat = k + 1 := by show ((k : Int) + 1).toNat = k + 1; omega
                have e2 : (intOf (Value.int IntKind.i64 (k : Int))).toNat = k := by show ((k : Int)).toNat = k; omega
                have := HLT.out
                rw [e1, e2]
                omega
              · have hst := HST.out t htL (by rw [hid]; exact hm)
                rw [hid] at hst
                obtain ⟨hgr, htu⟩ := hst
                rw [if_neg hm] at hlk
                have hga : ∀ W, Old w5 W → Calls Try.prog 11 #[ptr a, .int .i64 (k : Int)] W fun e W' => e = .returned (.tuple #[tv t, .bool true]) ∧ Old W W' := fun W ho => by
                  have := HTA.out.get (k : Int) W hk64 ho
                  rw [hgt] at this
                  exact this
                have hgb : ∀ W, Old w5 W → Calls Try.prog 11 #[ptr b, .int .i64 (k : Int)] W fun e W' => e = .returned (.tuple #[tv t, .bool true]) ∧ Old W W' := fun W ho => by
                  have := HTB.out.get (k : Int) W hk64 ho
                  rw [hgr] at this
                  exact this
                have HGA := Lib.hid hga
                have HGB := Lib.hid hgb
                have hta := fun W ho => HTA.out.tup (k : Int) W hk64 ho
                have htb := fun W ho => HTB.out.tup (k : Int) W hk64 ho
                rw [htu] at htb
                have htl : (tuple L (k : Int)).length < 1000000 := by have := tuple_bound HG.out (k : Int); have := HLL.out; omega
                generalize tuple L (k : Int) = T at *
                have HLK := Lib.hid hlk
                have HTUA := Lib.hid hta
                have HTUB := Lib.hid htb
                have HTL := Lib.hid htl
                clear hga hgb hgr hgt hlk hk hlt hk64 hm htL hid hta htb htl htu
                go_wp2_with (first
                  | (go_at_call 11; first
                    | ((with_reducible refine (HGA.out _ HO.out).mono ?_); rintro e w7 ⟨rfl, ho⟩; replace HO := Lib.hid ((HO.out.trans ho).alloc (.cells #[.int .i64 t.id, .int .i64 t.par, .int .i64 t.node, .int .i64 t.fact] 32)); have HTB1 := Lib.hid (Tb.new w7 t); clear ho)
                    | ((with_reducible refine (HGB.out _ HO.out).mono ?_); rintro e w8 ⟨rfl, ho⟩; replace HO := Lib.hid ((HO.out.trans ho).alloc (.cells #[.int .i64 t.id, .int .i64 t.par, .int .i64 t.node, .int .i64 t.fact] 32)); replace HTB1 := Lib.hid ((HTB1.out.old ho).old ((Old.refl w8).alloc (.cells #[.int .i64 t.id, .int .i64 t.par, .int .i64 t.node, .int .i64 t.fact] 32))); have HTB2 := Lib.hid (Tb.new w8 t); clear ho; have hlk8 := HLK.out _ HO.out; have p0 := HTB1.out.cells.1; have p1 := HTB1.out.cells.2.1; have p2 := HTB1.out.cells.2.2.1; have p3 := HTB1.out.cells.2.2.2))
                  | (go_at_call 14; first
                    | ((with_reducible refine (HTUA.out _ HO.out).mono ?_); rintro e w9 ⟨v9, rfl, hi, ho⟩; have HI9 := Lib.hid hi; replace HO := Lib.hid (HO.out.trans ho); clear ho hi)
                    | ((with_reducible refine (HTUB.out _ HO.out).mono ?_); rintro e w9 ⟨v10, rfl, hi, ho⟩; have HI10 := Lib.hid hi; replace HI9 := Lib.hid (HI9.out.old ho); replace HO := Lib.hid (HO.out.trans ho); clear ho hi))
                  | (go_at_call 15; (with_reducible refine (ints_any HI9.out.ir HI10.out.ir HTL.out HTL.out).mono ?_); rintro e w11 ⟨rfl, ho⟩; replace HO := Lib.hid (HO.out.trans ho); clear ho))
                refine ⟨⟨k + 1, by simp, by have := HLT.out; omega, HO⟩, ?_⟩
                have e1 : (intOf (Value.int IntKind.i64 ((k : Int) + 1))).toNat = k + 1 := by show ((k : Int) + 1).toNat = k + 1; omega
                have e2 : (intOf (Value.int IntKind.i64 (k : Int))).toNat = k := by show ((k : Int)).toNat = k; omega
                have := HLT.out
                rw [e1, e2]
                omega
          · obtain rfl : k = last + 1 := by omega
            have hadb : Calls Try.prog 12 #[ptr b, .int .i64 0, .int .i64 1, .int .i64 1] wr fun e W' => e = .returned (.tuple #[.int .i64 ((last : Int) + 1), .int .i64 0]) ∧ My w W' a A L last ca := by
              refine (add_yes (HB5.out.o HO.out) HRG.out (by have := HLA.out; omega) (by have := HCB.out; have := HCL.out; omega) one64 (one_ok HRG.out)).mono ?_
              rintro e W' ⟨rfl, B6, hb6, hs6⟩
              exact ⟨rfl, (HA5.out.o HO.out).far hs6 (fun j hj e => by have h1 := HAl.out j hj; have h2 := HB5.out.new j e; omega) (fun j e => by have h2 := HB5.out.new j e; have := HW1.out; omega)⟩
            have hada : ∀ W, My w W a A L last ca → Calls Try.prog 12 #[ptr a, .int .i64 0, .int .i64 1, .int .i64 1] W fun e W' => e = .returned (.tuple #[.int .i64 ((last : Int) + 1), .int .i64 0]) ∧ Old w W' := fun W hm => by
              refine (add_yes hm HG.out (by have := HLA.out; omega) (by have := HCA.out; have := HCL.out; omega) one64 (one_ok HG.out)).mono ?_
              rintro e W' ⟨rfl, A6, hb6, hs6⟩
              exact ⟨rfl, hb6.old⟩
            have HADB := Lib.hid hadb
            have HADA := Lib.hid hada
            have hgt : (last : Int) < (last : Int) + 1 := by omega
            have hcast : ((last + 1 : Nat) : Int) = (last : Int) + 1 := by omega
            rw [hcast]
            clear hadb hada hlt hk hcast
            go_wp2_with (first
              | (go_at_call 12; first
                | ((with_reducible refine HADB.out.mono ?_); rintro e w9 ⟨rfl, hm⟩; have HM9 := Lib.hid hm; clear hm)
                | ((with_reducible refine (HADA.out _ HM9.out).mono ?_); rintro e w10 ⟨rfl, ho⟩; have HO10 := Lib.hid ho; clear ho))
              | (go_at_call 7; (with_reducible refine (known_any _).mono ?_); rintro e w11 ⟨rfl, ho⟩; have HO11 := Lib.hid (HO10.out.trans ho); clear ho))
            go_ret
            exact ⟨rfl, HO11.out⟩
end Go.Proofs.Ytfgdgnkihiokoaa
