/- Layer vtext: VtextBytes: its walk. -/
import Derived.Test.YtcedcfkjoppjdaaGreatDoorMA
import Derived.Test.YtcedcfkjoppjdaaGreatDoorSh2
import Derived.Test.YtcedcfkjoppjdaaGreatDoorLM
import Derived.Deep.CutRange
import Derived.Deep.CutBlock
namespace Go.Proofs.YtcedcfkjoppjdaaGreatDoor
open Go.ChangeShapes Go.WideShapes Go.ChangeAt Go.RowKit Go.Lib
set_option linter.unusedVariables false
set_option linter.unusedSimpArgs false
set_option maxRecDepth 100000

theorem u64_nn (k : Int) : 0 ≤ IntKind.u64.wrap k := by
  rw [IntKind.wrap_u64]; omega
theorem rest_at (k d : Int) (h0 : 0 < d) (h1 : d ≤ 1000000) : ∃ m : Nat, (m : Int) < d ∧ wrap64 ((IntKind.u64.wrap k).tmod d) = (m : Int) := by
  have hu := u64_nn k
  generalize IntKind.u64.wrap k = u at hu ⊢
  have e : u.tmod d = u % d := Int.tmod_eq_emod_of_nonneg hu
  have h2 := Int.emod_nonneg u (show d ≠ 0 by omega)
  have h3 := Int.emod_lt_of_pos u h0
  refine ⟨(u % d).toNat, by omega, ?_⟩
  rw [e]
  generalize u % d = z at h2 h3 ⊢
  simp only [wrap64]
  omega
/-- A text's kind, by its bytes. -/
def ClsS (k : Int) (S : ByteArray) : Prop :=
  (k = 3 ∧ bt S 0 = 34) ∨ (k = 5 ∧ bt S 0 = 35) ∨ (k = 0 ∧ bt S 0 = 110 ∧ (S.toList == [110, 117, 108, 108]) = true) ∨
  (k = 4 ∧ bt S 0 = 116 ∧ (S.toList == [110, 117, 108, 108]) = false ∧ (S.toList == [116, 114, 117, 101]) = true) ∨
  (k = 4 ∧ bt S 0 = 102 ∧ (S.toList == [110, 117, 108, 108]) = false ∧ (S.toList == [116, 114, 117, 101]) = false ∧ (S.toList == [102, 97, 108, 115, 101]) = true) ∨
  ((k = 1 ∨ k = 2) ∧ ((bt S 0 == 34) = false ∧ (bt S 0 == 35) = false) ∧ (S.toList == [110, 117, 108, 108]) = false ∧ (S.toList == [116, 114, 117, 101]) = false ∧ (S.toList == [102, 97, 108, 115, 101]) = false ∧ Lib.contains S.data.toList [46] = (k == 2))
/-- What Parse tells of a beginning, and Text of that. -/
def BegS (k n : Int) (s Bg : ByteArray) : Prop := ∃ (K N E : Int) (R : ByteArray), (∀ W, Env W → Calls Tryz.prog 9 #[.string Bg] W fun e w' => e = rv K N E R ∧ Old W w') ∧
  (¬ E = 0 ∨ (E = 0 ∧ (∀ W, Env W → Calls Tryz.prog 6 #[vl K N R] W fun e w' => e = .returned (.string Bg) ∧ Old W w') ∧ (¬ K = k ∨ (K = k ∧ ¬ N = n) ∨ (K = k ∧ N = n ∧ (R.toList == s.toList) = false))))

theorem bytes_not (k n : Int) (s : ByteArray) (q : Int) (w : World) (he : Env w) (hm : mayB k n s = false) : Calls Tryz.prog 4 #[vl k n s, .int .i64 q] w fun e w' => e = .returned (.bool true) ∧ Old w w' := by
  have HO := Lib.hid ((Old.refl w).alloc (.cells #[.int .u8 k, .int .i64 n, .string s] 23))
  have HE := Lib.hid (he.old HO.out)
  have hk := fun W hW => known_any W hW
  have h1 := fun W => may_any k n s W
  rw [hm] at h1
  clear he hm
  go_enter Tryz.func4, Tryz.ntmps4
  go_wp2_with (first
    | (go_at_call 10; (with_reducible refine (h1 _).mono ?_); rintro e w1 ⟨rfl, o1⟩; replace HO := Lib.hid (HO.out.trans o1); replace HE := Lib.hid (HE.out.old o1))
    | (go_at_call 5; (with_reducible refine (hk _ HE.out).mono ?_); rintro e w2 ⟨rfl, o2⟩; replace HO := Lib.hid (HO.out.trans o2)))
  go_ret
  exact ⟨rfl, HO.out⟩

set_option maxHeartbeats 6400000 in
theorem bytes_core (k n : Int) (s S : ByteArray) (L : Nat) (q : Int) (w : World) (he : Env w)
    (h1 : ∀ W, Calls Tryz.prog 10 #[vl k n s] W fun e w' => e = .returned (.bool true) ∧ Old W w')
    (x1 : ∀ W, Env W → Calls Tryz.prog 6 #[vl k n s] W fun e w' => e = .returned (.string S) ∧ Old W w')
    (hL : S.size = L) (hL1 : 1 ≤ L) (hL2 : L ≤ 402) (hb : ∀ j, j < L → 32 ≤ bt S j ∧ bt S j ≤ 126) (hc : ClsS k S) (hp : ∀ m, m < L → ∃ Bg, S.extract 0 m = Bg ∧ BegS k n s Bg) :
    Calls Tryz.prog 4 #[vl k n s, .int .i64 q] w fun e w' => e = .returned (.bool true) ∧ Old w w' := by
  have HT := Lib.hid (Three.new w (.int .u8 k) (.int .i64 n) (.string s))
  have HO := Lib.hid ((Old.refl w).alloc (.cells #[.int .u8 k, .int .i64 n, .string s] 23))
  have HE := Lib.hid (he.old HO.out)
  have hkn := fun W hW => known_any W hW
  have HG := Lib.hid (fun j (h : j < L) => bt_get S j (by rw [hL]; exact h))
  have HBB := Lib.hid hb
  have HC := Lib.hid hc
  have HPP := Lib.hid hp
  have hcn : ∀ W, Env W → Calls Tryz.prog 11 #[.string S, .string ⟨#[46]⟩] W fun e w' => e = .returned (.bool (Lib.contains S.data.toList [46])) ∧ W = w' := fun W hW => by
    obtain ⟨m, hmm⟩ := hW.len
    exact (Tryz.strings_Contains S ⟨#[46]⟩ m W (by rw [hL]; omega) hmm).mono fun e w' h => ⟨h.1, h.2.symm⟩
  obtain ⟨D, hD⟩ : ∃ D, D = Lib.contains S.data.toList [46] := ⟨_, rfl⟩
  rw [← hD] at hcn
  have HD := Lib.hid hD
  clear he hb hc hp hD
  go_enter Tryz.func4, Tryz.ntmps4
  go_wp2_with (first
    | (go_at_call 10; (with_reducible refine (h1 _).mono ?_); rintro e w1 ⟨rfl, o1⟩; replace HO := Lib.hid (HO.out.trans o1); replace HE := Lib.hid (HE.out.old o1); replace HT := Lib.hid (HT.out.old o1); have c0 := HT.out.c0; have c1 := HT.out.c1; have c2 := HT.out.c2; clear o1)
    | (go_at_call 6; (with_reducible refine (x1 _ HE.out).mono ?_); rintro e w2 ⟨rfl, o2⟩; replace HO := Lib.hid (HO.out.trans o2); replace HE := Lib.hid (HE.out.old o2); replace HT := Lib.hid (HT.out.old o2); clear o2))
  clear c0 c1 c2 h1
  go_loopw [27] (fun i wr => ∃ j : Nat, j ≤ L ∧ i = .int .i64 (j : Int) ∧ wr = w2) (fun i _ => (L - RowKit.intOf i).toNat)
  case atStart => exact ⟨0, Nat.zero_le _, rfl, rfl⟩
  case round =>
    obtain ⟨j, hj, rfl, hw⟩ := hrel
    subst hw
    by_cases hjl : j < L
    · have g := HG.out j hjl
      obtain ⟨b1, b2⟩ := HBB.out j hjl
      obtain ⟨b, hbb⟩ : ∃ b, b = bt S j := ⟨_, rfl⟩
      rw [← hbb] at g b1 b2
      clear hbb
      go_wp2_with fail
      refine ⟨⟨j + 1, hjl, rfl, ?_⟩, by simp only [RowKit.intOf]; omega⟩
      first | rfl | trivial
    · have hj' : j = L := by omega
      subst hj'
      have g := HG.out 0 (by omega)
      obtain ⟨b, hbb⟩ : ∃ b, b = bt S 0 := ⟨_, rfl⟩
      rw [← hbb] at g
      have HBT := Lib.hid hbb
      clear hbb
      go_upto_block 2 with fail
      go_cut [7] from 41 to 61 (fun o wx => o = .int .u8 k ∧ wx = wr)
      case first =>
        rcases HC.out with ⟨rfl, h⟩ | ⟨rfl, h⟩ | ⟨rfl, h, t1⟩ | ⟨rfl, h, t1, t2⟩ | ⟨rfl, h, t1, t2, t3⟩ | ⟨hk, ⟨h, h'⟩, t1, t2, t3, t4⟩
        · rw [← HBT.out] at h
          subst h
          go_wp2_with fail
          go_meet
          exact ⟨rfl, rfl⟩
        · rw [← HBT.out] at h
          subst h
          go_wp2_with fail
          go_meet
          exact ⟨rfl, rfl⟩
        · rw [← HBT.out] at h
          subst h
          go_wp2_with fail
          go_meet
          exact ⟨rfl, rfl⟩
        · rw [← HBT.out] at h
          subst h
          go_wp2_with fail
          go_meet
          exact ⟨rfl, rfl⟩
        · rw [← HBT.out] at h
          subst h
          go_wp2_with fail
          go_meet
          exact ⟨rfl, rfl⟩
        · rw [← HBT.out] at h h'
          rw [← HD.out] at t4
          rcases hk with rfl | rfl
          · have t5 : D = false := t4
            subst t5
            clear t4
            go_wp2_with (go_at_call 11; (with_reducible refine (hcn _ HE.out).mono ?_); rintro e w3 ⟨rfl, rfl⟩)
            go_meet
            exact ⟨rfl, rfl⟩
          · have t5 : D = true := t4
            subst t5
            clear t4
            go_wp2_with (go_at_call 11; (with_reducible refine (hcn _ HE.out).mono ?_); rintro e w3 ⟨rfl, rfl⟩)
            go_meet
            exact ⟨rfl, rfl⟩
      case rest =>
        obtain ⟨rfl, rfl⟩ := hcut
        obtain ⟨m, hm1, hm2⟩ := rest_at q (j : Int) (by omega) (by omega)
        obtain ⟨Bg, hBg, K, N, E, R, hpa, hway⟩ := HPP.out m (by omega)
        have hmj : (m : Int) ≤ (j : Int) := by omega
        have hj0 : ¬ (j : Int) = 0 := by omega
        clear hm1 hcn g
        have HXA := Lib.hid hway
        clear hway
        go_upto_region 25 with (go_at_call 9; (with_reducible refine (hpa _ HE.out).mono ?_); rintro e w3 ⟨rfl, o3⟩; replace HO := Lib.hid (HO.out.trans o3); replace HE := Lib.hid (HE.out.old o3); replace HT := Lib.hid (HT.out.old o3); clear o3)
        have HT2 := Lib.hid (HT.out.alloc (.cells #[.int .u8 K, .int .i64 N, .string R] 23))
        have HB2 := Lib.hid (Three.new w3 (.int .u8 K) (.int .i64 N) (.string R))
        have HO2 := Lib.hid (HO.out.alloc (.cells #[.int .u8 K, .int .i64 N, .string R] 23))
        have HE2 := Lib.hid (HE.out.old ((Old.refl w3).alloc (.cells #[.int .u8 K, .int .i64 N, .string R] 23)))
        have c0 := HT2.out.c0
        have c1 := HT2.out.c1
        have c2 := HT2.out.c2
        have d0 := HB2.out.c0
        have d1 := HB2.out.c1
        have d2 := HB2.out.c2
        clear hBg hpa
        rcases HXA.out with hE | ⟨rfl, htx, hne⟩
        · have e1 : (E == 0) = false := by simpa using hE
          have e2 : (E != 0) = true := by simpa using hE
          clear hE
          go_wp2_with (go_at_call 5; (with_reducible refine (hkn _ HE2.out).mono ?_); rintro e w5 ⟨rfl, o5⟩; replace HO2 := Lib.hid (HO2.out.trans o5); clear o5)
          go_ret
          exact ⟨rfl, HO2.out⟩
        · rcases hne with h | ⟨rfl, h⟩ | ⟨rfl, rfl, h⟩
          · have e1 : (K == k) = false := by simpa using h
            clear h
            go_wp2_with (first
              | (go_at_call 6; (with_reducible refine (htx _ HE2.out).mono ?_); rintro e w4 ⟨rfl, o4⟩; replace HO2 := Lib.hid (HO2.out.trans o4); replace HE2 := Lib.hid (HE2.out.old o4); clear o4)
              | (go_at_call 5; (with_reducible refine (hkn _ HE2.out).mono ?_); rintro e w5 ⟨rfl, o5⟩; replace HO2 := Lib.hid (HO2.out.trans o5); clear o5))
            go_ret
            exact ⟨rfl, HO2.out⟩
          · have e1 : (N == n) = false := by simpa using h
            clear h
            go_wp2_with (first
              | (go_at_call 6; (with_reducible refine (htx _ HE2.out).mono ?_); rintro e w4 ⟨rfl, o4⟩; replace HO2 := Lib.hid (HO2.out.trans o4); replace HE2 := Lib.hid (HE2.out.old o4); clear o4)
              | (go_at_call 5; (with_reducible refine (hkn _ HE2.out).mono ?_); rintro e w5 ⟨rfl, o5⟩; replace HO2 := Lib.hid (HO2.out.trans o5); clear o5))
            go_ret
            exact ⟨rfl, HO2.out⟩
          · go_wp2_with (first
              | (go_at_call 6; (with_reducible refine (htx _ HE2.out).mono ?_); rintro e w4 ⟨rfl, o4⟩; replace HO2 := Lib.hid (HO2.out.trans o4); replace HE2 := Lib.hid (HE2.out.old o4); clear o4)
              | (go_at_call 5; (with_reducible refine (hkn _ HE2.out).mono ?_); rintro e w5 ⟨rfl, o5⟩; replace HO2 := Lib.hid (HO2.out.trans o5); clear o5))
            go_ret
            exact ⟨rfl, HO2.out⟩
theorem take_ext (l : List UInt8) (m : Nat) : (st l).extract 0 m = st (l.take m) := by
  apply ByteArray.ext
  simp [ByteArray.data_extract]
theorem cls_of {k : Int} {t : List UInt8} (h : Cls k t) : ClsS k (st t) := by
  have e : (st t).toList = t := by rw [ByteArray.toList_eq]
  unfold ClsS
  rw [e]
  rcases h with ⟨rfl, r, rfl⟩ | ⟨rfl, r, rfl⟩ | ⟨rfl, rfl⟩ | ⟨rfl, rfl⟩ | ⟨rfl, rfl⟩ | ⟨hk, hd, c, r, rfl, hc⟩
  · exact Or.inl ⟨rfl, rfl⟩
  · exact Or.inr (Or.inl ⟨rfl, rfl⟩)
  · exact Or.inr (Or.inr (Or.inl ⟨rfl, rfl, rfl⟩))
  · exact Or.inr (Or.inr (Or.inr (Or.inl ⟨rfl, rfl, rfl, rfl⟩)))
  · exact Or.inr (Or.inr (Or.inr (Or.inr (Or.inl ⟨rfl, rfl, rfl, rfl, rfl⟩))))
  · have hb : bt (st (c :: r)) 0 = (c.toNat : Int) := rfl
    have hn : ¬ c = 34 ∧ ¬ c = 35 ∧ ¬ c = 110 ∧ ¬ c = 116 ∧ ¬ c = 102 := by
      rcases hc with rfl | hc
      · decide
      · unfold dg8 at hc
        simp only [decide_eq_true_eq] at hc
        refine ⟨?_, ?_, ?_, ?_, ?_⟩ <;> (intro e; subst e; exact absurd hc (by decide))
    obtain ⟨n1, n2, n3, n4, n5⟩ := hn
    have hne : ∀ (x : UInt8) (y : List UInt8), ¬ c = x → (c :: r == x :: y) = false := fun x y h => by
      simpa using fun e => absurd e h
    refine Or.inr (Or.inr (Or.inr (Or.inr (Or.inr ⟨hk, ⟨?_, ?_⟩, hne _ _ n3, hne _ _ n4, hne _ _ n5, hd⟩))))
    · rw [hb]
      have : ¬ (c.toNat : Int) = 34 := fun e => n1 (UInt8.toNat_inj.1 (by show c.toNat = 34; omega))
      simpa using this
    · rw [hb]
      have : ¬ (c.toNat : Int) = 35 := fun e => n2 (UInt8.toNat_inj.1 (by show c.toNat = 35; omega))
      simpa using this
theorem beg_of {k n : Int} {s : ByteArray} (hm : mayB k n s = true) (hn : I64 n) {m : Nat} (h : m < (textL k n s).length) : BegS k n s (st ((textL k n s).take m)) := by
  have hl : ((textL k n s).take m).length ≤ 402 := by
    have := (text_say hm hn).2.2.1
    rw [List.length_take]; omega
  refine ⟨(parseL ((textL k n s).take m)).k, (parseL ((textL k n s).take m)).n, (parseL ((textL k n s).take m)).e, st (parseL ((textL k n s).take m)).s, fun W hW => parse_any _ (by omega) W hW, ?_⟩
  by_cases hE : (parseL ((textL k n s).take m)).e = 0
  · right
    obtain ⟨h1, h2, h3⟩ := parse_good hE
    have hr := readL_may ((textL k n s).take m)
    rw [← h2] at hr
    refine ⟨hE, fun W hW => ?_, ?_⟩
    · have := text_any' _ _ (st (parseL ((textL k n s).take m)).s) hr.1 hr.2 W hW
      rw [h3] at this
      exact this
    · by_cases e1 : (parseL ((textL k n s).take m)).k = k
      · right
        by_cases e2 : (parseL ((textL k n s).take m)).n = n
        · right
          refine ⟨e1, e2, ?_⟩
          rcases hx : ((st (parseL ((textL k n s).take m)).s).toList == s.toList) with _ | _
          · rfl
          · exfalso
            have e3 : st (parseL ((textL k n s).take m)).s = s := ba_ext (by simpa using hx)
            rw [e1, e2, e3] at h3
            have := congrArg List.length h3
            rw [List.length_take] at this
            omega
        · exact Or.inl ⟨e1, e2⟩
      · exact Or.inl e1
  · exact Or.inl hE
theorem bytes_any (k n : Int) (s : ByteArray) (q : Int) (hk : 0 ≤ k ∧ k ≤ 255) (hn : I64 n) (w : World) (he : Env w) : Calls Tryz.prog 4 #[vl k n s, .int .i64 q] w fun e w' => e = .returned (.bool true) ∧ Old w w' := by
  cases hm : mayB k n s
  · exact bytes_not k n s q w he hm
  · have h1 := fun W => may_any k n s W
    rw [hm] at h1
    obtain ⟨a, b, c, d⟩ := text_say hm hn
    have hsz : (st (textL k n s)).size = (textL k n s).length := by simp [ByteArray.size]
    refine bytes_core k n s (st (textL k n s)) (textL k n s).length q w he h1 (fun W hW => text_any' k n s hk hn W hW) hsz b c (fun j hj => ?_) (cls_of d) (fun m h => ⟨_, ?_, beg_of hm hn h⟩)
    · have hx : (textL k n s)[j]? = some (textL k n s)[j] := List.getElem?_eq_getElem hj
      have hp := (List.all_eq_true.1 a) _ (List.mem_of_getElem? hx)
      unfold bt
      rw [List.getD_eq_getElem?_getD]
      show 32 ≤ (((textL k n s)[j]?.getD 0).toNat : Int) ∧ (((textL k n s)[j]?.getD 0).toNat : Int) ≤ 126
      rw [hx]
      unfold pb at hp
      simp only [Bool.and_eq_true, decide_eq_true_eq] at hp
      show 32 ≤ (((textL k n s)[j]).toNat : Int) ∧ (((textL k n s)[j]).toNat : Int) ≤ 126
      omega
    · exact take_ext _ m
end Go.Proofs.YtcedcfkjoppjdaaGreatDoor
