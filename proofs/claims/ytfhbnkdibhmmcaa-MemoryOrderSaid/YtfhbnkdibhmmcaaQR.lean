/- Layer memory: ids rise (MemoryRises). -/
import Derived.Test.YtfhbnkdibhmmcaaQI
import Derived.Test.YtfhbnkdibhmmcaaQO
import Derived.Test.YtfhbnkdibhmmcaaQP
namespace Go.Proofs.Ytfhbnkdibhmmcaa
open Go.ChangeShapes Go.WideShapes Go.ChangeAt Go.RowKit Go.Lib
set_option linter.unusedVariables false
set_option linter.unusedSimpArgs false
set_option maxRecDepth 100000

abbrev adr (p : Nat) : Value := .pointer (some ⟨p, 0, none⟩)
abbrev rt3 (i : Int) (b : Bool) (e : Int) : Ending := .returned (.tuple #[.int .i64 i, .bool b, .int .i64 e])
theorem mem_get {w : World} {p b lim last : Nat} {L : List Ft} (h : Mem w p b lim last L) {x : Ft} (hx : x ∈ L) : getOf L x.id = some x := by
  obtain ⟨E, rfl, h⟩ := h
  obtain ⟨y, hy, rfl⟩ := List.mem_map.1 hx
  exact getOf_mem h.up hy
theorem mem_idOf {w : World} {p b lim last : Nat} {L : List Ft} (h : Mem w p b lim last L) {x : Ft} (hx : x ∈ L) : idOf L x.t x.l = x.id := by
  obtain ⟨E, rfl, h⟩ := h
  obtain ⟨y, hy, rfl⟩ := List.mem_map.1 hx
  exact idOf_mem h.uniq hy rfl rfl
theorem mem_ids {w : World} {p b lim last : Nat} {L : List Ft} (h : Mem w p b lim last L) {x : Ft} (hx : x ∈ L) : 1 ≤ x.id ∧ x.id ≤ last ∧ I64 x.id ∧ x.l.length ≤ 10 := by
  obtain ⟨E, rfl, h⟩ := h
  obtain ⟨y, hy, rfl⟩ := List.mem_map.1 hx
  have h1 := h.ids y hy
  have h2 := h.lasts
  exact ⟨h1.1, h1.2, by unfold I64; show -9223372036854775808 ≤ y.id ∧ y.id ≤ 9223372036854775807; omega, (h.rows y hy).2⟩
theorem mem_del {w : World} {p b lim last : Nat} {L : List Ft} (h : Mem w p b lim last L) {x : Ft} (hx : x ∈ L) : idOf (delOf L x.id) x.t x.l = 0 := by
  obtain ⟨E, rfl, h⟩ := h
  obtain ⟨y, hy, rfl⟩ := List.mem_map.1 hx
  rw [delOf_ft]
  refine idOf_no (fun z hz e => ?_)
  obtain ⟨hz1, hz2⟩ := List.mem_filter.1 hz
  have h1 := idOf_mem h.uniq hz1 e.1 e.2
  have h2 := idOf_mem h.uniq hy rfl rfl
  rw [decide_eq_true_eq] at hz2
  exact hz2 (h1.symm.trans h2)
theorem Mem.one {w : World} {p b lim last : Nat} {L : List Ft} (h : Mem w p b lim last L) : ∀ x ∈ L, 1 ≤ x.id := fun x hx => (mem_ids h hx).1
theorem Mem.room {w : World} {p b lim last : Nat} {L : List Ft} (h : Mem w p b lim last L) : L.length ≤ lim ∧ lim ≤ 200 := by
  obtain ⟨E, rfl, h⟩ := h
  rw [List.length_map]
  exact ⟨h.room, h.lims⟩

theorem kr_find {W : World} {p b lim last : Nat} {L : List Ft} {x : Ft} {u : Value} (hm : Mem W p b lim last L) (hx : x ∈ L) (hu : VR W u x.l) : Calls Try.prog 21 #[adr p, .int .i64 x.t, u] W fun e w' => e = .returned (.int .i64 x.id) ∧ Old W w' := by
  have := find_any hm x.t u _ hu
  rw [mem_idOf hm hx] at this
  exact this
theorem kr_gone {W W0 : World} {p b lim last : Nat} {L : List Ft} {x : Ft} {u : Value} (hm : Mem W p b lim last (delOf L x.id)) (h0 : Mem W0 p b lim last L) (hx : x ∈ L) (hu : VR W u x.l) : Calls Try.prog 21 #[adr p, .int .i64 x.t, u] W fun e w' => e = .returned (.int .i64 0) ∧ Old W w' := by
  have := find_any hm x.t u _ hu
  rw [mem_del h0 hx] at this
  exact this
theorem kr_get {W : World} {p b lim last : Nat} {L : List Ft} {x : Ft} (hm : Mem W p b lim last L) (hx : x ∈ L) : Calls Try.prog 18 #[adr p, .int .i64 x.id] W fun e w' => (∃ oa c, e = .returned (.tuple #[fv x.id x.t (.slice oa x.l.length c), .bool true]) ∧ VR w' (.slice oa x.l.length c) x.l) ∧ Old W w' := by
  refine (get_any hm x.id (mem_ids hm hx).2.2.1).mono ?_
  rintro e w' ⟨⟨u, rfl, hf⟩, ho⟩
  rw [mem_get hm hx] at hf ⊢
  obtain ⟨v, rfl, hv⟩ := hf.vr
  obtain ⟨oa, c, rfl, _⟩ := id hv
  exact ⟨⟨oa, c, rfl, hv⟩, ho⟩
theorem kr_remove {W : World} {p b lim last : Nat} {L : List Ft} {x : Ft} (hm : Mem W p b lim last L) (hx : x ∈ L) : Calls Try.prog 13 #[adr p, .int .i64 x.id] W fun e w' => (∃ oa c, e = .returned (.tuple #[fv x.id x.t (.slice oa x.l.length c), .bool true])) ∧ Mem w' p b lim last (delOf L x.id) ∧ Chg (fun k => k = p ∨ k = b) W w' := by
  refine (remove_any hm x.id (mem_ids hm hx).2.2.1).mono ?_
  rintro e w' ⟨⟨u, rfl, hf⟩, h2, h3⟩
  rw [mem_get hm hx] at hf ⊢
  obtain ⟨v, rfl, hv⟩ := hf.vr
  obtain ⟨oa, c, rfl, _⟩ := hv
  exact ⟨⟨oa, c, rfl⟩, h2, chgB p h3⟩
theorem kr_old {W : World} {p b lim last : Nat} {L : List Ft} {t : Int} {s : List Vl} {u : Value} (hm : Mem W p b lim last L) (hu : VR W u s) {x : Ft} (hx : x ∈ L) (ht : x.t = t) (hl : x.l = s) : Calls Try.prog 11 #[adr p, .int .i64 t, u] W fun e w' => e = rt3 x.id false 0 ∧ Old W w' := by
  subst ht hl
  have h1 := (mem_ids hm hx).1
  have := add_old hm x.t u x.l hu (by rw [mem_idOf hm hx]; omega)
  rw [mem_idOf hm hx] at this
  exact this
theorem kr_new {W : World} {p b lim last : Nat} {L : List Ft} {t : Int} {s : List Vl} {u : Value} (hm : Mem W p b lim last L) (hu : VR W u s) (h10 : s.length ≤ 10) (hi : idOf L t s = 0) (hr : L.length < lim) (hl : last < 1000000) {z : Int} (hz : ((last + 1 : Nat) : Int) = z) : Calls Try.prog 11 #[adr p, .int .i64 t, u] W fun e w' => e = rt3 z true 0 ∧ Mem w' p b lim (last + 1) (L ++ [⟨z, t, s⟩]) ∧ Chg (fun k => k = p ∨ k = b) W w' := by
  subst hz
  exact add_new hm t u s hu h10 hi hr hl
theorem Ob.chg {S : Nat → Prop} {w w' : World} {g : Nat} {x : Ox} (h : Ob w g x) (hc : Chg S w w') (hs : ¬ S g) : Ob w' g x := (hc.block g (blk_lt h) hs).trans h
theorem FbChg {S : Nat → Prop} {w w' : World} {g : Nat} {x y z : Value} (h : Fb w g x y z) (hc : Chg S w w') (hs : ¬ S g) : Fb w' g x y z := (hc.block g (blk_lt h) hs).trans h
/-- What the loop keeps. -/
structure Rn (w : World) (k last : Nat) (L : List Ft) (W : World) : Prop where
  mem : Mem W (w.heap.size + 1) w.heap.size 200 last L
  old : Old w W
  last : last ≤ k
  len : L.length ≤ k

set_option maxHeartbeats 4000000 in
theorem rises_any (l : List Ox) (v : Value) (w : World) (hl : OR w v l) : Calls Try.prog 4 #[v] w fun e w' => e = .returned (.bool true) ∧ Old w w' := by
  have hnew : Calls Try.prog 10 #[.int .i64 200] w fun e w' => e = .returned (.tuple #[.pointer (some ⟨w.heap.size + 1, 0, none⟩), .int .i64 0]) ∧ Mem w' (w.heap.size + 1) w.heap.size 200 0 [] ∧ Old w w' := new_any 200 (by omega) (by omega) w
  have HW := Lib.hid (by omega : ∀ k, (k = w.heap.size + 1 ∨ k = w.heap.size) → w.heap.size ≤ k)
  obtain ⟨oa, c, rfl, a1, a2, a3⟩ := hl
  obtain ⟨n, hn⟩ : ∃ n, n = l.length := ⟨_, rfl⟩
  rw [← hn] at a1 ⊢
  unfold maxLen at a2
  have HN := Lib.hid hn
  have HA := Lib.hid a3
  clear hn a3
  by_cases h60 : 60 < n
  · go_enter Try.func4, Try.ntmps4
    go_wp2_with (go_at_call 9; (with_reducible refine (known_any _).mono ?_); rintro e w9 ⟨rfl, ho⟩)
    go_ret
    exact ⟨rfl, ho⟩
  have H60 := Lib.hid h60
  go_enter Try.func4, Try.ntmps4
  go_wp2_with (go_at_call 10; (with_reducible refine hnew.mono ?_); rintro e w1 ⟨rfl, hM, ho⟩; have R0 := Lib.hid (⟨hM, ho, Nat.zero_le _, Nat.zero_le _⟩ : Rn w 0 0 [] w1); clear hM ho)
  go_loopw [32] (fun i wr => ∃ k : Nat, k ≤ n ∧ i = .int .i64 (k : Int) ∧ ∃ last L, Hid (Rn w k last L wr)) (fun i _ => (n - intOf i).toNat)
  case atStart => exact ⟨0, Nat.zero_le _, rfl, 0, [], R0⟩
  case round =>
    obtain ⟨k, hk, rfl, last, L, R⟩ := hrel
    clear R0 hnew
    by_cases hkn : k < n
    · obtain ⟨x, hx⟩ : ∃ x, l[k]? = some x := ⟨l[k]'(by rw [← HN.out]; exact hkn), List.getElem?_eq_getElem _⟩
      obtain ⟨g, o, rfl, hgl, c0, c1, c2, c3, hv, hb0, hb1, hb2⟩ := HA.out k x hx
      have HO := Lib.hid R.out.old
      replace c0 := (HO.out.cell hgl).trans c0
      replace c1 := (HO.out.cell hgl).trans c1
      replace c2 := (HO.out.cell hgl).trans c2
      replace c3 := (HO.out.cell hgl).trans c3
      obtain ⟨K, T, D, xv, s⟩ := x
      simp only at c0 c1 c2 c3 hv hb0 hb1 hb2
      obtain ⟨ua, uc, rfl, _⟩ := id hv
      have VV := Lib.hid hv
      obtain ⟨N, hN⟩ : ∃ N, N = s.length := ⟨_, rfl⟩
      rw [← hN] at c3 VV
      have HNN := Lib.hid hN
      have MM := Lib.hid (R.out.mem.old ((Old.refl _).alloc (.cells #[.int .i64 K, .int .i64 T, .int .i64 D, .slice ua N uc] 34)))
      have OB := Lib.hid (Ob.new wr ⟨K, T, D, .slice ua N uc, s⟩)
      have OL := Lib.hid (show ¬ (wr.heap.size = w.heap.size + 1 ∨ wr.heap.size = w.heap.size) by have := R.out.mem.lt; omega)
      have HO0 := HO
      replace HO := Lib.hid (HO.out.alloc (.cells #[.int .i64 K, .int .i64 T, .int .i64 D, .slice ua N uc] 34))
      clear hv hN hx hb0 hb1 hb2 hgl
      by_cases h10 : 10 < N
      · go_wp2_with (go_at_call 9; (with_reducible refine (known_any _).mono ?_); rintro e w9 ⟨rfl, ho⟩; replace HO := Lib.hid (HO.out.trans ho); clear ho)
        go_ret
        exact ⟨rfl, HO.out⟩
      have S10 := Lib.hid (show s.length ≤ 10 by have := HNN.out; omega)
      have HK2 := Lib.hid hkn
      by_cases hi : idOf L T s = 0
      · -- a new fact
        generalize hZ : ((last + 1 : Nat) : Int) = ID
        have HZ := Lib.hid hZ
        have hq : (last : Int) + 1 = ID := by omega
        have NI := Lib.hid hi
        have RM := Lib.hid (show L.length < 200 by have := R.out.len; have := H60.out; omega)
        have LS := Lib.hid (show last < 1000000 by have := R.out.last; have := H60.out; omega)
        have hid1 : ID ≤ 1000 := by have := R.out.last; have := H60.out; omega
        have hid2 : (0 : Int) ≤ ID := by omega
        have hlen1 : (L.length : Int) ≤ 1000 := by have := R.out.len; have := H60.out; omega
        clear hi hZ h60
        by_cases hK : K = 2
        · subst hK
          by_cases h0 : (delOf (L ++ [(⟨ID, T, s⟩ : Ft)]) ID).length = 0
          · go_wp2_with (first
          | (go_at_call 25; (with_reducible refine (last_any MM.out).mono ?_); rintro e w3 ⟨rfl, rfl⟩)
          | (go_at_call 24; (with_reducible refine (len_any MM.out).mono ?_); rintro e w3 ⟨rfl, rfl⟩)
          | (go_at_call 11; (with_reducible refine (kr_new MM.out (VV.out.old HO.out) S10.out NI.out RM.out LS.out HZ.out).mono ?_); rintro e w3 ⟨rfl, hM, hC⟩; replace OB := Lib.hid (OB.out.chg hC OL.out); replace HO := Lib.hid (hC.old HO.out HW.out); replace MM := Lib.hid hM; clear hM hC; have XM := Lib.hid (List.mem_append.2 (Or.inr (List.mem_singleton.2 rfl)) : (⟨ID, T, s⟩ : Ft) ∈ L ++ [⟨ID, T, s⟩]); have k0 := OB.out.c0; have k1 := OB.out.c1; have k3 := OB.out.c3)
          | (go_at_call 21; first
            | ((with_reducible refine (kr_find MM.out XM.out (VV.out.old HO.out)).mono ?_); rintro e w4 ⟨rfl, ho⟩; replace MM := Lib.hid (MM.out.old ho); replace HO := Lib.hid (HO.out.trans ho); replace OB := Lib.hid (OB.out.old ho); clear ho; have k0 := OB.out.c0; have k1 := OB.out.c1; have k3 := OB.out.c3)
            | ((with_reducible refine (kr_gone MM.out MX.out XM.out (VV.out.old HO.out)).mono ?_); rintro e w4 ⟨rfl, ho⟩; replace MM := Lib.hid (MM.out.old ho); replace HO := Lib.hid (HO.out.trans ho); replace OB := Lib.hid (OB.out.old ho); clear ho; have k0 := OB.out.c0; have k1 := OB.out.c1; have k3 := OB.out.c3))
          | (go_at_call 18; (with_reducible refine (kr_get MM.out XM.out).mono ?_); rintro e w5 ⟨⟨oa5, c5, rfl, hv5⟩, ho⟩; replace MM := Lib.hid ((MM.out.old ho).old ((Old.refl _).alloc (.cells #[.int .i64 ID, .int .i64 T, .slice oa5 s.length c5] 38))); replace HO := Lib.hid ((HO.out.trans ho).alloc (.cells #[.int .i64 ID, .int .i64 T, .slice oa5 s.length c5] 38)); replace OB := Lib.hid ((OB.out.old ho).old ((Old.refl _).alloc (.cells #[.int .i64 ID, .int .i64 T, .slice oa5 s.length c5] 38))); have FB := Lib.hid (Fb.new w5 (.int .i64 ID) (.int .i64 T) (.slice oa5 s.length c5)); have FV5 := Lib.hid (hv5.old ((Old.refl _).alloc (.cells #[.int .i64 ID, .int .i64 T, .slice oa5 s.length c5] 38))); clear ho hv5; have k0 := OB.out.c0; have k1 := OB.out.c1; have k3 := OB.out.c3; have f1 := FB.out.c1; have f2 := FB.out.c2)
          | (go_at_call 26; (with_reducible refine (rsame_any s s _ _ _ FV5.out (VV.out.old HO.out)).mono ?_); rintro e w6 ⟨rfl, ho⟩; replace MM := Lib.hid (MM.out.old ho); replace HO := Lib.hid (HO.out.trans ho); replace OB := Lib.hid (OB.out.old ho); clear ho; have k0 := OB.out.c0; have k1 := OB.out.c1; have k3 := OB.out.c3)
          | (go_at_call 13; (with_reducible refine (kr_remove MM.out XM.out).mono ?_); rintro e w7 ⟨⟨oa7, c7, rfl⟩, hM, hC⟩; have MX := Lib.hid MM.out; replace OB := Lib.hid ((OB.out.chg hC OL.out).old ((Old.refl _).alloc (.cells #[.int .i64 ID, .int .i64 T, .slice oa7 s.length c7] 38))); replace HO := Lib.hid ((hC.old HO.out HW.out).alloc (.cells #[.int .i64 ID, .int .i64 T, .slice oa7 s.length c7] 38)); replace MM := Lib.hid (hM.old ((Old.refl _).alloc (.cells #[.int .i64 ID, .int .i64 T, .slice oa7 s.length c7] 38))); clear hM hC; have k0 := OB.out.c0; have k1 := OB.out.c1; have k3 := OB.out.c3)
          | (go_at_call 20; (with_reducible refine (facts_any MM.out).mono ?_); rintro e w8 ⟨⟨r, rfl, hr8⟩, ho⟩; obtain ⟨oa8, c8, rfl⟩ := hr8.shape; replace MM := Lib.hid (MM.out.old ho); replace HO := Lib.hid (HO.out.trans ho); clear ho hr8)
          | (go_at_call 9; (with_reducible refine (known_any _).mono ?_); rintro e w9 ⟨rfl, ho⟩; replace HO := Lib.hid (HO.out.trans ho); clear ho))
            exact ⟨⟨k + 1, HK2.out, by first | rfl | simp, last + 1, (delOf (L ++ [(⟨ID, T, s⟩ : Ft)]) ID), Lib.hid ⟨MM.out, HO.out, Nat.succ_le_succ R.out.last, Nat.le_trans (List.length_filter_le _ _) (by rw [List.length_append]; exact Nat.succ_le_succ R.out.len)⟩⟩, by simp only [intOf]; omega⟩
          · go_wp2_with (first
          | (go_at_call 25; (with_reducible refine (last_any MM.out).mono ?_); rintro e w3 ⟨rfl, rfl⟩)
          | (go_at_call 24; (with_reducible refine (len_any MM.out).mono ?_); rintro e w3 ⟨rfl, rfl⟩)
          | (go_at_call 11; (with_reducible refine (kr_new MM.out (VV.out.old HO.out) S10.out NI.out RM.out LS.out HZ.out).mono ?_); rintro e w3 ⟨rfl, hM, hC⟩; replace OB := Lib.hid (OB.out.chg hC OL.out); replace HO := Lib.hid (hC.old HO.out HW.out); replace MM := Lib.hid hM; clear hM hC; have XM := Lib.hid (List.mem_append.2 (Or.inr (List.mem_singleton.2 rfl)) : (⟨ID, T, s⟩ : Ft) ∈ L ++ [⟨ID, T, s⟩]); have k0 := OB.out.c0; have k1 := OB.out.c1; have k3 := OB.out.c3)
          | (go_at_call 21; first
            | ((with_reducible refine (kr_find MM.out XM.out (VV.out.old HO.out)).mono ?_); rintro e w4 ⟨rfl, ho⟩; replace MM := Lib.hid (MM.out.old ho); replace HO := Lib.hid (HO.out.trans ho); replace OB := Lib.hid (OB.out.old ho); clear ho; have k0 := OB.out.c0; have k1 := OB.out.c1; have k3 := OB.out.c3)
            | ((with_reducible refine (kr_gone MM.out MX.out XM.out (VV.out.old HO.out)).mono ?_); rintro e w4 ⟨rfl, ho⟩; replace MM := Lib.hid (MM.out.old ho); replace HO := Lib.hid (HO.out.trans ho); replace OB := Lib.hid (OB.out.old ho); clear ho; have k0 := OB.out.c0; have k1 := OB.out.c1; have k3 := OB.out.c3))
          | (go_at_call 18; (with_reducible refine (kr_get MM.out XM.out).mono ?_); rintro e w5 ⟨⟨oa5, c5, rfl, hv5⟩, ho⟩; replace MM := Lib.hid ((MM.out.old ho).old ((Old.refl _).alloc (.cells #[.int .i64 ID, .int .i64 T, .slice oa5 s.length c5] 38))); replace HO := Lib.hid ((HO.out.trans ho).alloc (.cells #[.int .i64 ID, .int .i64 T, .slice oa5 s.length c5] 38)); replace OB := Lib.hid ((OB.out.old ho).old ((Old.refl _).alloc (.cells #[.int .i64 ID, .int .i64 T, .slice oa5 s.length c5] 38))); have FB := Lib.hid (Fb.new w5 (.int .i64 ID) (.int .i64 T) (.slice oa5 s.length c5)); have FV5 := Lib.hid (hv5.old ((Old.refl _).alloc (.cells #[.int .i64 ID, .int .i64 T, .slice oa5 s.length c5] 38))); clear ho hv5; have k0 := OB.out.c0; have k1 := OB.out.c1; have k3 := OB.out.c3; have f1 := FB.out.c1; have f2 := FB.out.c2)
          | (go_at_call 26; (with_reducible refine (rsame_any s s _ _ _ FV5.out (VV.out.old HO.out)).mono ?_); rintro e w6 ⟨rfl, ho⟩; replace MM := Lib.hid (MM.out.old ho); replace HO := Lib.hid (HO.out.trans ho); replace OB := Lib.hid (OB.out.old ho); clear ho; have k0 := OB.out.c0; have k1 := OB.out.c1; have k3 := OB.out.c3)
          | (go_at_call 13; (with_reducible refine (kr_remove MM.out XM.out).mono ?_); rintro e w7 ⟨⟨oa7, c7, rfl⟩, hM, hC⟩; have MX := Lib.hid MM.out; replace OB := Lib.hid ((OB.out.chg hC OL.out).old ((Old.refl _).alloc (.cells #[.int .i64 ID, .int .i64 T, .slice oa7 s.length c7] 38))); replace HO := Lib.hid ((hC.old HO.out HW.out).alloc (.cells #[.int .i64 ID, .int .i64 T, .slice oa7 s.length c7] 38)); replace MM := Lib.hid (hM.old ((Old.refl _).alloc (.cells #[.int .i64 ID, .int .i64 T, .slice oa7 s.length c7] 38))); clear hM hC; have k0 := OB.out.c0; have k1 := OB.out.c1; have k3 := OB.out.c3)
          | (go_at_call 20; (with_reducible refine (facts_any MM.out).mono ?_); rintro e w8 ⟨⟨r, rfl, hr8⟩, ho⟩; obtain ⟨oa8, c8, rfl⟩ := hr8.shape; replace MM := Lib.hid (MM.out.old ho); replace HO := Lib.hid (HO.out.trans ho); clear ho hr8)
          | (go_at_call 9; (with_reducible refine (known_any _).mono ?_); rintro e w9 ⟨rfl, ho⟩; replace HO := Lib.hid (HO.out.trans ho); clear ho))
            exact ⟨⟨k + 1, HK2.out, by first | rfl | simp, last + 1, (delOf (L ++ [(⟨ID, T, s⟩ : Ft)]) ID), Lib.hid ⟨MM.out, HO.out, Nat.succ_le_succ R.out.last, Nat.le_trans (List.length_filter_le _ _) (by rw [List.length_append]; exact Nat.succ_le_succ R.out.len)⟩⟩, by simp only [intOf]; omega⟩
        · have hKb : (K == 2) = false := by simpa using hK
          go_wp2_with (first
          | (go_at_call 25; (with_reducible refine (last_any MM.out).mono ?_); rintro e w3 ⟨rfl, rfl⟩)
          | (go_at_call 24; (with_reducible refine (len_any MM.out).mono ?_); rintro e w3 ⟨rfl, rfl⟩)
          | (go_at_call 11; (with_reducible refine (kr_new MM.out (VV.out.old HO.out) S10.out NI.out RM.out LS.out HZ.out).mono ?_); rintro e w3 ⟨rfl, hM, hC⟩; replace OB := Lib.hid (OB.out.chg hC OL.out); replace HO := Lib.hid (hC.old HO.out HW.out); replace MM := Lib.hid hM; clear hM hC; have XM := Lib.hid (List.mem_append.2 (Or.inr (List.mem_singleton.2 rfl)) : (⟨ID, T, s⟩ : Ft) ∈ L ++ [⟨ID, T, s⟩]); have k0 := OB.out.c0; have k1 := OB.out.c1; have k3 := OB.out.c3)
          | (go_at_call 21; first
            | ((with_reducible refine (kr_find MM.out XM.out (VV.out.old HO.out)).mono ?_); rintro e w4 ⟨rfl, ho⟩; replace MM := Lib.hid (MM.out.old ho); replace HO := Lib.hid (HO.out.trans ho); replace OB := Lib.hid (OB.out.old ho); clear ho; have k0 := OB.out.c0; have k1 := OB.out.c1; have k3 := OB.out.c3)
            | ((with_reducible refine (kr_gone MM.out MX.out XM.out (VV.out.old HO.out)).mono ?_); rintro e w4 ⟨rfl, ho⟩; replace MM := Lib.hid (MM.out.old ho); replace HO := Lib.hid (HO.out.trans ho); replace OB := Lib.hid (OB.out.old ho); clear ho; have k0 := OB.out.c0; have k1 := OB.out.c1; have k3 := OB.out.c3))
          | (go_at_call 18; (with_reducible refine (kr_get MM.out XM.out).mono ?_); rintro e w5 ⟨⟨oa5, c5, rfl, hv5⟩, ho⟩; replace MM := Lib.hid ((MM.out.old ho).old ((Old.refl _).alloc (.cells #[.int .i64 ID, .int .i64 T, .slice oa5 s.length c5] 38))); replace HO := Lib.hid ((HO.out.trans ho).alloc (.cells #[.int .i64 ID, .int .i64 T, .slice oa5 s.length c5] 38)); replace OB := Lib.hid ((OB.out.old ho).old ((Old.refl _).alloc (.cells #[.int .i64 ID, .int .i64 T, .slice oa5 s.length c5] 38))); have FB := Lib.hid (Fb.new w5 (.int .i64 ID) (.int .i64 T) (.slice oa5 s.length c5)); have FV5 := Lib.hid (hv5.old ((Old.refl _).alloc (.cells #[.int .i64 ID, .int .i64 T, .slice oa5 s.length c5] 38))); clear ho hv5; have k0 := OB.out.c0; have k1 := OB.out.c1; have k3 := OB.out.c3; have f1 := FB.out.c1; have f2 := FB.out.c2)
          | (go_at_call 26; (with_reducible refine (rsame_any s s _ _ _ FV5.out (VV.out.old HO.out)).mono ?_); rintro e w6 ⟨rfl, ho⟩; replace MM := Lib.hid (MM.out.old ho); replace HO := Lib.hid (HO.out.trans ho); replace OB := Lib.hid (OB.out.old ho); clear ho; have k0 := OB.out.c0; have k1 := OB.out.c1; have k3 := OB.out.c3)
          | (go_at_call 13; (with_reducible refine (kr_remove MM.out XM.out).mono ?_); rintro e w7 ⟨⟨oa7, c7, rfl⟩, hM, hC⟩; have MX := Lib.hid MM.out; replace OB := Lib.hid ((OB.out.chg hC OL.out).old ((Old.refl _).alloc (.cells #[.int .i64 ID, .int .i64 T, .slice oa7 s.length c7] 38))); replace HO := Lib.hid ((hC.old HO.out HW.out).alloc (.cells #[.int .i64 ID, .int .i64 T, .slice oa7 s.length c7] 38)); replace MM := Lib.hid (hM.old ((Old.refl _).alloc (.cells #[.int .i64 ID, .int .i64 T, .slice oa7 s.length c7] 38))); clear hM hC; have k0 := OB.out.c0; have k1 := OB.out.c1; have k3 := OB.out.c3)
          | (go_at_call 20; (with_reducible refine (facts_any MM.out).mono ?_); rintro e w8 ⟨⟨r, rfl, hr8⟩, ho⟩; obtain ⟨oa8, c8, rfl⟩ := hr8.shape; replace MM := Lib.hid (MM.out.old ho); replace HO := Lib.hid (HO.out.trans ho); clear ho hr8)
          | (go_at_call 9; (with_reducible refine (known_any _).mono ?_); rintro e w9 ⟨rfl, ho⟩; replace HO := Lib.hid (HO.out.trans ho); clear ho))
          exact ⟨⟨k + 1, HK2.out, by first | rfl | simp, last + 1, (L ++ [(⟨ID, T, s⟩ : Ft)]), Lib.hid ⟨MM.out, HO.out, Nat.succ_le_succ R.out.last, by rw [List.length_append]; exact Nat.succ_le_succ R.out.len⟩⟩, by simp only [intOf]; omega⟩
      · -- one that is there
        obtain ⟨y, hy, e1, e2, e3⟩ := idOf_pos R.out.mem.one hi
        obtain ⟨ID, T', s'⟩ := y
        simp only at e1 e2 e3
        replace e2 := e2.symm
        replace e3 := e3.symm
        subst e2 e3
        have XM := Lib.hid hy
        have hlt := (mem_ids R.out.mem hy).2.1
        simp only at hlt
        have hne : ¬ ID = (last : Int) + 1 := by omega
        have hneb : (ID == (last : Int) + 1) = false := by simpa using hne
        have hid1 : (last : Int) ≤ 1000 := by have := R.out.last; have := H60.out; omega
        have hlen1 : (L.length : Int) ≤ 1000 := by have := R.out.len; have := H60.out; omega
        clear hi hy e1 hlt h60
        by_cases hK : K = 2
        · subst hK
          by_cases h0 : (delOf L ID).length = 0
          · go_wp2_with (first
          | (go_at_call 25; (with_reducible refine (last_any MM.out).mono ?_); rintro e w3 ⟨rfl, rfl⟩)
          | (go_at_call 24; (with_reducible refine (len_any MM.out).mono ?_); rintro e w3 ⟨rfl, rfl⟩)
          | (go_at_call 11; (with_reducible refine (kr_old MM.out (VV.out.old HO.out) XM.out rfl rfl).mono ?_); rintro e w3 ⟨rfl, ho⟩; replace MM := Lib.hid (MM.out.old ho); replace HO := Lib.hid (HO.out.trans ho); replace OB := Lib.hid (OB.out.old ho); clear ho; have k0 := OB.out.c0; have k1 := OB.out.c1; have k3 := OB.out.c3)
          | (go_at_call 21; first
            | ((with_reducible refine (kr_find MM.out XM.out (VV.out.old HO.out)).mono ?_); rintro e w4 ⟨rfl, ho⟩; replace MM := Lib.hid (MM.out.old ho); replace HO := Lib.hid (HO.out.trans ho); replace OB := Lib.hid (OB.out.old ho); clear ho; have k0 := OB.out.c0; have k1 := OB.out.c1; have k3 := OB.out.c3)
            | ((with_reducible refine (kr_gone MM.out MX.out XM.out (VV.out.old HO.out)).mono ?_); rintro e w4 ⟨rfl, ho⟩; replace MM := Lib.hid (MM.out.old ho); replace HO := Lib.hid (HO.out.trans ho); replace OB := Lib.hid (OB.out.old ho); clear ho; have k0 := OB.out.c0; have k1 := OB.out.c1; have k3 := OB.out.c3))
          | (go_at_call 18; (with_reducible refine (kr_get MM.out XM.out).mono ?_); rintro e w5 ⟨⟨oa5, c5, rfl, hv5⟩, ho⟩; replace MM := Lib.hid ((MM.out.old ho).old ((Old.refl _).alloc (.cells #[.int .i64 ID, .int .i64 T, .slice oa5 s.length c5] 38))); replace HO := Lib.hid ((HO.out.trans ho).alloc (.cells #[.int .i64 ID, .int .i64 T, .slice oa5 s.length c5] 38)); replace OB := Lib.hid ((OB.out.old ho).old ((Old.refl _).alloc (.cells #[.int .i64 ID, .int .i64 T, .slice oa5 s.length c5] 38))); have FB := Lib.hid (Fb.new w5 (.int .i64 ID) (.int .i64 T) (.slice oa5 s.length c5)); have FV5 := Lib.hid (hv5.old ((Old.refl _).alloc (.cells #[.int .i64 ID, .int .i64 T, .slice oa5 s.length c5] 38))); clear ho hv5; have k0 := OB.out.c0; have k1 := OB.out.c1; have k3 := OB.out.c3; have f1 := FB.out.c1; have f2 := FB.out.c2)
          | (go_at_call 26; (with_reducible refine (rsame_any s s _ _ _ FV5.out (VV.out.old HO.out)).mono ?_); rintro e w6 ⟨rfl, ho⟩; replace MM := Lib.hid (MM.out.old ho); replace HO := Lib.hid (HO.out.trans ho); replace OB := Lib.hid (OB.out.old ho); clear ho; have k0 := OB.out.c0; have k1 := OB.out.c1; have k3 := OB.out.c3)
          | (go_at_call 13; (with_reducible refine (kr_remove MM.out XM.out).mono ?_); rintro e w7 ⟨⟨oa7, c7, rfl⟩, hM, hC⟩; have MX := Lib.hid MM.out; replace OB := Lib.hid ((OB.out.chg hC OL.out).old ((Old.refl _).alloc (.cells #[.int .i64 ID, .int .i64 T, .slice oa7 s.length c7] 38))); replace HO := Lib.hid ((hC.old HO.out HW.out).alloc (.cells #[.int .i64 ID, .int .i64 T, .slice oa7 s.length c7] 38)); replace MM := Lib.hid (hM.old ((Old.refl _).alloc (.cells #[.int .i64 ID, .int .i64 T, .slice oa7 s.length c7] 38))); clear hM hC; have k0 := OB.out.c0; have k1 := OB.out.c1; have k3 := OB.out.c3)
          | (go_at_call 20; (with_reducible refine (facts_any MM.out).mono ?_); rintro e w8 ⟨⟨r, rfl, hr8⟩, ho⟩; obtain ⟨oa8, c8, rfl⟩ := hr8.shape; replace MM := Lib.hid (MM.out.old ho); replace HO := Lib.hid (HO.out.trans ho); clear ho hr8)
          | (go_at_call 9; (with_reducible refine (known_any _).mono ?_); rintro e w9 ⟨rfl, ho⟩; replace HO := Lib.hid (HO.out.trans ho); clear ho))
            exact ⟨⟨k + 1, HK2.out, by first | rfl | simp, last, (delOf L ID), Lib.hid ⟨MM.out, HO.out, Nat.le_succ_of_le R.out.last, Nat.le_succ_of_le (Nat.le_trans (List.length_filter_le _ _) R.out.len)⟩⟩, by simp only [intOf]; omega⟩
          · go_wp2_with (first
          | (go_at_call 25; (with_reducible refine (last_any MM.out).mono ?_); rintro e w3 ⟨rfl, rfl⟩)
          | (go_at_call 24; (with_reducible refine (len_any MM.out).mono ?_); rintro e w3 ⟨rfl, rfl⟩)
          | (go_at_call 11; (with_reducible refine (kr_old MM.out (VV.out.old HO.out) XM.out rfl rfl).mono ?_); rintro e w3 ⟨rfl, ho⟩; replace MM := Lib.hid (MM.out.old ho); replace HO := Lib.hid (HO.out.trans ho); replace OB := Lib.hid (OB.out.old ho); clear ho; have k0 := OB.out.c0; have k1 := OB.out.c1; have k3 := OB.out.c3)
          | (go_at_call 21; first
            | ((with_reducible refine (kr_find MM.out XM.out (VV.out.old HO.out)).mono ?_); rintro e w4 ⟨rfl, ho⟩; replace MM := Lib.hid (MM.out.old ho); replace HO := Lib.hid (HO.out.trans ho); replace OB := Lib.hid (OB.out.old ho); clear ho; have k0 := OB.out.c0; have k1 := OB.out.c1; have k3 := OB.out.c3)
            | ((with_reducible refine (kr_gone MM.out MX.out XM.out (VV.out.old HO.out)).mono ?_); rintro e w4 ⟨rfl, ho⟩; replace MM := Lib.hid (MM.out.old ho); replace HO := Lib.hid (HO.out.trans ho); replace OB := Lib.hid (OB.out.old ho); clear ho; have k0 := OB.out.c0; have k1 := OB.out.c1; have k3 := OB.out.c3))
          | (go_at_call 18; (with_reducible refine (kr_get MM.out XM.out).mono ?_); rintro e w5 ⟨⟨oa5, c5, rfl, hv5⟩, ho⟩; replace MM := Lib.hid ((MM.out.old ho).old ((Old.refl _).alloc (.cells #[.int .i64 ID, .int .i64 T, .slice oa5 s.length c5] 38))); replace HO := Lib.hid ((HO.out.trans ho).alloc (.cells #[.int .i64 ID, .int .i64 T, .slice oa5 s.length c5] 38)); replace OB := Lib.hid ((OB.out.old ho).old ((Old.refl _).alloc (.cells #[.int .i64 ID, .int .i64 T, .slice oa5 s.length c5] 38))); have FB := Lib.hid (Fb.new w5 (.int .i64 ID) (.int .i64 T) (.slice oa5 s.length c5)); have FV5 := Lib.hid (hv5.old ((Old.refl _).alloc (.cells #[.int .i64 ID, .int .i64 T, .slice oa5 s.length c5] 38))); clear ho hv5; have k0 := OB.out.c0; have k1 := OB.out.c1; have k3 := OB.out.c3; have f1 := FB.out.c1; have f2 := FB.out.c2)
          | (go_at_call 26; (with_reducible refine (rsame_any s s _ _ _ FV5.out (VV.out.old HO.out)).mono ?_); rintro e w6 ⟨rfl, ho⟩; replace MM := Lib.hid (MM.out.old ho); replace HO := Lib.hid (HO.out.trans ho); replace OB := Lib.hid (OB.out.old ho); clear ho; have k0 := OB.out.c0; have k1 := OB.out.c1; have k3 := OB.out.c3)
          | (go_at_call 13; (with_reducible refine (kr_remove MM.out XM.out).mono ?_); rintro e w7 ⟨⟨oa7, c7, rfl⟩, hM, hC⟩; have MX := Lib.hid MM.out; replace OB := Lib.hid ((OB.out.chg hC OL.out).old ((Old.refl _).alloc (.cells #[.int .i64 ID, .int .i64 T, .slice oa7 s.length c7] 38))); replace HO := Lib.hid ((hC.old HO.out HW.out).alloc (.cells #[.int .i64 ID, .int .i64 T, .slice oa7 s.length c7] 38)); replace MM := Lib.hid (hM.old ((Old.refl _).alloc (.cells #[.int .i64 ID, .int .i64 T, .slice oa7 s.length c7] 38))); clear hM hC; have k0 := OB.out.c0; have k1 := OB.out.c1; have k3 := OB.out.c3)
          | (go_at_call 20; (with_reducible refine (facts_any MM.out).mono ?_); rintro e w8 ⟨⟨r, rfl, hr8⟩, ho⟩; obtain ⟨oa8, c8, rfl⟩ := hr8.shape; replace MM := Lib.hid (MM.out.old ho); replace HO := Lib.hid (HO.out.trans ho); clear ho hr8)
          | (go_at_call 9; (with_reducible refine (known_any _).mono ?_); rintro e w9 ⟨rfl, ho⟩; replace HO := Lib.hid (HO.out.trans ho); clear ho))
            exact ⟨⟨k + 1, HK2.out, by first | rfl | simp, last, (delOf L ID), Lib.hid ⟨MM.out, HO.out, Nat.le_succ_of_le R.out.last, Nat.le_succ_of_le (Nat.le_trans (List.length_filter_le _ _) R.out.len)⟩⟩, by simp only [intOf]; omega⟩
        · have hKb : (K == 2) = false := by simpa using hK
          go_wp2_with (first
          | (go_at_call 25; (with_reducible refine (last_any MM.out).mono ?_); rintro e w3 ⟨rfl, rfl⟩)
          | (go_at_call 24; (with_reducible refine (len_any MM.out).mono ?_); rintro e w3 ⟨rfl, rfl⟩)
          | (go_at_call 11; (with_reducible refine (kr_old MM.out (VV.out.old HO.out) XM.out rfl rfl).mono ?_); rintro e w3 ⟨rfl, ho⟩; replace MM := Lib.hid (MM.out.old ho); replace HO := Lib.hid (HO.out.trans ho); replace OB := Lib.hid (OB.out.old ho); clear ho; have k0 := OB.out.c0; have k1 := OB.out.c1; have k3 := OB.out.c3)
          | (go_at_call 21; first
            | ((with_reducible refine (kr_find MM.out XM.out (VV.out.old HO.out)).mono ?_); rintro e w4 ⟨rfl, ho⟩; replace MM := Lib.hid (MM.out.old ho); replace HO := Lib.hid (HO.out.trans ho); replace OB := Lib.hid (OB.out.old ho); clear ho; have k0 := OB.out.c0; have k1 := OB.out.c1; have k3 := OB.out.c3)
            | ((with_reducible refine (kr_gone MM.out MX.out XM.out (VV.out.old HO.out)).mono ?_); rintro e w4 ⟨rfl, ho⟩; replace MM := Lib.hid (MM.out.old ho); replace HO := Lib.hid (HO.out.trans ho); replace OB := Lib.hid (OB.out.old ho); clear ho; have k0 := OB.out.c0; have k1 := OB.out.c1; have k3 := OB.out.c3))
          | (go_at_call 18; (with_reducible refine (kr_get MM.out XM.out).mono ?_); rintro e w5 ⟨⟨oa5, c5, rfl, hv5⟩, ho⟩; replace MM := Lib.hid ((MM.out.old ho).old ((Old.refl _).alloc (.cells #[.int .i64 ID, .int .i64 T, .slice oa5 s.length c5] 38))); replace HO := Lib.hid ((HO.out.trans ho).alloc (.cells #[.int .i64 ID, .int .i64 T, .slice oa5 s.length c5] 38)); replace OB := Lib.hid ((OB.out.old ho).old ((Old.refl _).alloc (.cells #[.int .i64 ID, .int .i64 T, .slice oa5 s.length c5] 38))); have FB := Lib.hid (Fb.new w5 (.int .i64 ID) (.int .i64 T) (.slice oa5 s.length c5)); have FV5 := Lib.hid (hv5.old ((Old.refl _).alloc (.cells #[.int .i64 ID, .int .i64 T, .slice oa5 s.length c5] 38))); clear ho hv5; have k0 := OB.out.c0; have k1 := OB.out.c1; have k3 := OB.out.c3; have f1 := FB.out.c1; have f2 := FB.out.c2)
          | (go_at_call 26; (with_reducible refine (rsame_any s s _ _ _ FV5.out (VV.out.old HO.out)).mono ?_); rintro e w6 ⟨rfl, ho⟩; replace MM := Lib.hid (MM.out.old ho); replace HO := Lib.hid (HO.out.trans ho); replace OB := Lib.hid (OB.out.old ho); clear ho; have k0 := OB.out.c0; have k1 := OB.out.c1; have k3 := OB.out.c3)
          | (go_at_call 13; (with_reducible refine (kr_remove MM.out XM.out).mono ?_); rintro e w7 ⟨⟨oa7, c7, rfl⟩, hM, hC⟩; have MX := Lib.hid MM.out; replace OB := Lib.hid ((OB.out.chg hC OL.out).old ((Old.refl _).alloc (.cells #[.int .i64 ID, .int .i64 T, .slice oa7 s.length c7] 38))); replace HO := Lib.hid ((hC.old HO.out HW.out).alloc (.cells #[.int .i64 ID, .int .i64 T, .slice oa7 s.length c7] 38)); replace MM := Lib.hid (hM.old ((Old.refl _).alloc (.cells #[.int .i64 ID, .int .i64 T, .slice oa7 s.length c7] 38))); clear hM hC; have k0 := OB.out.c0; have k1 := OB.out.c1; have k3 := OB.out.c3)
          | (go_at_call 20; (with_reducible refine (facts_any MM.out).mono ?_); rintro e w8 ⟨⟨r, rfl, hr8⟩, ho⟩; obtain ⟨oa8, c8, rfl⟩ := hr8.shape; replace MM := Lib.hid (MM.out.old ho); replace HO := Lib.hid (HO.out.trans ho); clear ho hr8)
          | (go_at_call 9; (with_reducible refine (known_any _).mono ?_); rintro e w9 ⟨rfl, ho⟩; replace HO := Lib.hid (HO.out.trans ho); clear ho))
          exact ⟨⟨k + 1, HK2.out, by first | rfl | simp, last, L, Lib.hid ⟨MM.out, HO.out, Nat.le_succ_of_le R.out.last, Nat.le_succ_of_le R.out.len⟩⟩, by simp only [intOf]; omega⟩
    · have hkn' : k = n := by omega
      subst hkn'
      have HO := Lib.hid R.out.old
      go_wp2_with (go_at_call 9; (with_reducible refine (known_any _).mono ?_); rintro e w9 ⟨rfl, ho⟩; replace HO := Lib.hid (HO.out.trans ho); clear ho)
      go_ret
      exact ⟨rfl, HO.out⟩

end Go.Proofs.Ytfhbnkdibhmmcaa
