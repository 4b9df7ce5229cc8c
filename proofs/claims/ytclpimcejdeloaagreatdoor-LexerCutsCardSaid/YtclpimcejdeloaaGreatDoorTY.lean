/- Layer lexer: a source that is cut right ahead of one of its words (the law's walk). -/
import Derived.Test.YtclpimcejdeloaaGreatDoorTX
namespace Go.Proofs.YtclpimcejdeloaaGreatDoor
open Go.ChangeShapes Go.WideShapes Go.ChangeAt Go.RowKit Go.Lib
set_option linter.unusedVariables false
set_option linter.unusedSimpArgs false
set_option maxRecDepth 100000

theorem u64_nn (k : Int) : 0 ≤ IntKind.u64.wrap k := by
  rw [IntKind.wrap_u64]; omega
/-- A number's rest by d, d no less than 1 and not great. -/
theorem rest_at (k d : Int) (h0 : 0 < d) (h1 : d ≤ 1000000) : ∃ m : Nat, (m : Int) < d ∧ wrap64 ((IntKind.u64.wrap k).tmod d) = (m : Int) := by
  have hu := u64_nn k
  generalize IntKind.u64.wrap k = u at hu ⊢
  have e : u.tmod d = u % d := Int.tmod_eq_emod_of_nonneg hu
  have h2 := Int.emod_nonneg u (show d ≠ 0 by omega)
  have h3 := Int.emod_lt_of_pos u h0
  refine ⟨(u % d).toNat, by omega, ?_⟩
  rw [e]
  generalize u % d = z at h2 h3 ⊢
  simp only [wrap64]
  omega
/-- Where the last line of a text begins. -/
theorem adv_split : ∀ (u : List UInt8) (L C : Nat), (lines u = 0 ∧ (adv u L C).2 = C + u.length) ∨ (∃ u0 u2, u = u0 ++ 10 :: u2 ∧ lines u2 = 0 ∧ (adv u L C).2 = 1 + u2.length)
  | [], L, C => Or.inl ⟨rfl, rfl⟩
  | c :: r, L, C => by
    rw [adv]
    split
    · next h =>
      subst h
      rcases adv_split r (L + 1) 1 with ⟨h1, h2⟩ | ⟨u0, u2, h1, h2, h3⟩
      · exact Or.inr ⟨[], r, rfl, h1, h2⟩
      · exact Or.inr ⟨10 :: u0, u2, by rw [h1]; rfl, h2, h3⟩
    · next h =>
      rcases adv_split r L (C + 1) with ⟨h1, h2⟩ | ⟨u0, u2, h1, h2, h3⟩
      · refine Or.inl ⟨?_, by rw [h2, List.length_cons]; omega⟩
        unfold lines
        rw [List.count_cons_of_ne h]
        exact h1
      · exact Or.inr ⟨c :: u0, u2, by rw [h1]; rfl, h2, h3⟩
/-- The line's first byte: up to it there are fewer line ends. -/
theorem line_at (u : List UInt8) : ∃ p, p ≤ u.length ∧ (adv u 1 1).2 = u.length - p + 1 ∧ lines (u.take p) = lines u ∧ ∀ j, j < p → lines (u.take j) < lines u := by
  rcases adv_split u 1 1 with ⟨h1, h2⟩ | ⟨u0, u2, h1, h2, h3⟩
  · exact ⟨0, Nat.zero_le _, by rw [h2]; omega, by rw [List.take_zero, h1]; rfl, fun j hj => absurd hj (Nat.not_lt_zero _)⟩
  · have e1 : lines u = lines u0 + 1 := by
      rw [h1, lines_app]
      unfold lines at h2 ⊢
      rw [List.count_cons_self, h2]
    refine ⟨u0.length + 1, ?_, ?_, ?_, fun j hj => ?_⟩
    · rw [h1, List.length_append, List.length_cons]; omega
    · rw [h3, h1, List.length_append, List.length_cons]; omega
    · have : u.take (u0.length + 1) = u0 ++ [10] := by
        rw [h1, show u0 ++ 10 :: u2 = (u0 ++ [10]) ++ u2 by simp]
        exact List.take_left' (by simp)
      rw [this, lines_app, e1]
      rfl
    · have : u.take j = u0.take j := by rw [h1, List.take_append_of_le_length (by omega)]
      rw [this, e1]
      have := (List.take_sublist j u0).count_le 10
      unfold lines
      omega
theorem lines_more {l : List UInt8} {j : Nat} {c : UInt8} (h : l[j]? = some c) : lines (l.take (j + 1)) = lines (l.take j) + if c = 10 then 1 else 0 := by
  rw [List.take_add_one, h, lines_app]
  congr 1
  unfold lines
  by_cases hc : c = 10
  · subst hc; rfl
  · rw [if_neg hc, Option.toList_some, List.count_cons_of_ne hc]; rfl
theorem Rw.take {w : World} {oa : Option Addr} {n cap : Nat} {A : List Tk} (h : Rw w (.slice oa n cap) A) {k : Nat} (hk : k ≤ n) (hn : n = A.length) : Rw w (.slice oa k cap) (A.take k) := by
  obtain ⟨oa', cap', e, h1, h2, h3⟩ := h
  injection e with e1 e2 e3
  subst e1 e3
  have hl : (A.take k).length = k := by rw [List.length_take]; omega
  refine ⟨oa, cap, by rw [hl], by rw [hl]; omega, h2, fun i x hx => ?_⟩
  rw [List.getElem?_take] at hx
  split at hx
  · exact h3 i x hx
  · cases hx

theorem lexR_len {l : List UInt8} : (lexR l).1.length ≤ l.length := by
  obtain ⟨⟨T, E, ln, cl⟩, hT⟩ : ∃ x, lexL l = x := ⟨_, rfl⟩
  have := (wds_of hT).len
  unfold lexR
  rw [hT]
  split
  · exact this
  · exact Nat.zero_le _

set_option maxHeartbeats 1600000 in
theorem cuts_any (s : ByteArray) (k : Int) (w : World) (he : Env w) : Calls Tryz.prog 5 #[.string s, .int .i64 k] w fun e w' => e = .returned (.bool true) ∧ Old w w' := by
  have HE := Lib.hid (fun W (h : Old w W) => he.old h)
  have HO := Lib.hid (Old.refl w)
  have hkn := fun W hW => known_lex W hW
  clear he
  by_cases hs : s.size ≤ 1500
  case neg =>
    go_enter Tryz.func5, Tryz.ntmps5
    go_wp2_with (go_at_call 6; (with_reducible refine (hkn _ (HE.out _ HO.out)).mono ?_); rintro e w1 ⟨rfl, o1⟩; replace HO := Lib.hid (HO.out.trans o1))
    go_ret
    exact ⟨rfl, HO.out⟩
  obtain ⟨R, hR⟩ : ∃ R, R = lexR s.data.toList := ⟨_, rfl⟩
  have hlex := fun W hW => lex_at s W (by omega) hW R hR
  have hlen : R.1.length ≤ 1500 := by
    have := lexR_len (l := s.data.toList)
    rw [← hR, Array.length_toList] at this
    have hz : s.data.size = s.size := rfl
    omega
  have HR := Lib.hid hR
  clear hR
  obtain ⟨T, E, ln, cl⟩ := R
  simp only at hlex hlen
  by_cases h0 : E = 0
  case neg =>
    go_enter Tryz.func5, Tryz.ntmps5
    go_wp2_with (first
      | (go_at_call 7; (with_reducible refine (hlex _ (HE.out _ HO.out)).mono ?_); rintro e w1 ⟨⟨oa, ca, rfl, h1⟩, o1⟩; replace HO := Lib.hid ((HO.out.trans o1).alloc (.cells #[.int .i64 ln, .int .i64 cl] 25)); clear h1 o1)
      | (go_at_call 6; (with_reducible refine (hkn _ (HE.out _ HO.out)).mono ?_); rintro e w1 ⟨rfl, o1⟩; replace HO := Lib.hid (HO.out.trans o1)))
    all_goals (go_ret; exact ⟨rfl, HO.out⟩)
  subst h0
  rcases Nat.eq_zero_or_pos T.length with hT | hT
  · go_enter Tryz.func5, Tryz.ntmps5
    go_wp2_with (first
      | (go_at_call 7; (with_reducible refine (hlex _ (HE.out _ HO.out)).mono ?_); rintro e w1 ⟨⟨oa, ca, rfl, h1⟩, o1⟩; replace HO := Lib.hid ((HO.out.trans o1).alloc (.cells #[.int .i64 ln, .int .i64 cl] 25)); clear h1 o1)
      | (go_at_call 6; (with_reducible refine (hkn _ (HE.out _ HO.out)).mono ?_); rintro e w1 ⟨rfl, o1⟩; replace HO := Lib.hid (HO.out.trans o1)))
    all_goals (go_ret; exact ⟨rfl, HO.out⟩)
  have hl : lexL s.data.toList = (T, 0, ln, cl) := by
    have h := HR.out
    rw [h, lexR_ok]
    rw [← h]
  have hw := wds_of hl
  obtain ⟨m, hm1, hm2⟩ := rest_at k (T.length : Int) (by omega) (by omega)
  obtain ⟨x, hx⟩ : ∃ x, T[m]? = some x := ⟨_, List.getElem?_eq_getElem (by omega)⟩
  obtain ⟨u, v, huv, hv, hxl, hxc, hwu⟩ := hw.cut m x hx
  obtain ⟨p, hp1, hp2, hp3, hp4⟩ := line_at u
  have hln := adv_line u 1 1
  have hz : s.data.toList.length = s.size := Array.length_toList
  have hvl : 0 < v.length := List.length_pos_iff.2 hv
  have hul : u.length + v.length = s.size := by rw [← hz, huv, List.length_append]
  obtain ⟨N, hN⟩ : ∃ N, N = T.length := ⟨_, rfl⟩
  obtain ⟨XL, hXL⟩ : ∃ XL, XL = 1 + lines u := ⟨_, rfl⟩
  obtain ⟨XC, hXC⟩ : ∃ XC, XC = u.length - p + 1 := ⟨_, rfl⟩
  rw [hln, ← hXL] at hxl
  rw [hp2, ← hXC] at hxc
  -- what the scan meets
  have hscan : ∀ j, j < p → 1 + lines (s.data.toList.take j) < XL := fun j hj => by
    rw [huv, List.take_append_of_le_length (by omega)]
    have := hp4 j hj
    omega
  have hscan2 : 1 + lines (s.data.toList.take p) = XL := by
    rw [huv, List.take_append_of_le_length hp1, hp3, hXL]
  -- the cut
  have hex : s.extract 0 u.length = st u := by
    apply ba_ext
    rw [Lib.extract_toList, ByteArray.toList_eq, List.drop_zero, Nat.sub_zero, huv, List.take_left' rfl]
  have hsl : ∀ W, (Instr.slice 9 (.string s) none (some (.int .i64 (u.length : Int))) none).run Tryz.prog W = .ok (.string (st u)) W := fun W => by
    rw [run_slice_string_h W 9 s Tryz.underlying9 .i64 (u.length : Int) (by omega) (by omega), ← hex]
    rfl
  have hzu : (st u).size = u.length := by
    have : (st u).data.toList.length = (st u).size := Array.length_toList
    rw [← this]
  have hRu : (T.take m, (0 : Int), (0 : Int), (0 : Int)) = lexR (st u).data.toList := by
    have := lexL_of hwu
    unfold lexR
    rw [show (st u).data.toList = u from rfl, this]
    rfl
  have hlu := fun W hW => lex_at (st u) W (by omega) hW _ hRu
  have htl : (T.take m).length = m := by rw [List.length_take]; omega
  simp only [htl] at hlu
  rw [← hN] at hlex hm1 hm2 hT hlen
  have HTL := Lib.hid htl
  have HX := Lib.hid hx
  have HN := Lib.hid hN
  have HXL := Lib.hid hxl
  have HXC := Lib.hid hxc
  have HS1 := Lib.hid hscan
  have HS2 := Lib.hid hscan2
  have hXCv : XC ≤ 1501 := by omega
  have hXLv : XL ≤ 1501 := by
    have : lines u ≤ u.length := List.count_le_length
    omega
  have hup : p + (XC - 1) = u.length := by omega
  have hup2 : u.length < s.size := by omega
  have hXC1 : 1 ≤ XC := by omega
  have hps : p < s.size := by omega
  have hmN : m < N := by omega
  have hul2 : u.length ≤ 1500 := by omega
  obtain ⟨U, hU⟩ : ∃ U, U = u.length := ⟨_, rfl⟩
  rw [← hU] at hup hup2 hsl hul2
  clear hm1 hx hxl hxc hscan hscan2 hw hl huv hv hwu hp1 hp2 hp3 hp4 hln hz hvl hul hN hXL hXC hex hzu hRu htl hU
  go_enter Tryz.func5, Tryz.ntmps5
  go_upto_block 0 with (first
    | (go_at_call 7; (with_reducible refine (hlex _ (HE.out _ HO.out)).mono ?_); rintro e w1 ⟨⟨oa, ca, rfl, h1⟩, o1⟩; replace HO := Lib.hid ((HO.out.trans o1).alloc (.cells #[.int .i64 ln, .int .i64 cl] 25)); have HR1 := Lib.hid ((Rw.of_row (by rw [HN.out] at h1; exact h1)).old ((Old.refl w1).alloc (.cells #[.int .i64 ln, .int .i64 cl] 25))); clear h1 o1))
  rw [hm2]
  generalize w1.alloc (.cells #[.int .i64 ln, .int .i64 cl] 25) = W1 at HO HR1 ⊢
  obtain ⟨oa', ca', e1, hca1, hca2, h4⟩ := HR1.out
  injection e1 with e1 z1 z2
  subst e1 z2
  obtain ⟨g, rfl, lg, _, _, _, _, _, _, c5, c6⟩ := h4 m x HX.out
  rw [HXL.out] at c5
  rw [HXC.out] at c6
  rw [← HN.out] at hca1
  unfold maxLen at hca2
  clear h4 z1 hm2 lg
  go_wp2
  go_loopw [8, 9] (fun a l wr => ∃ j : Nat, a = .int .i64 (j : Int) ∧ l = .int .i64 ((1 + lines (s.data.toList.take j) : Nat) : Int) ∧ j ≤ p ∧ wr = W1) (fun a l _ => (p - RowKit.intOf a).toNat)
  case atStart => exact ⟨0, rfl, rfl, Nat.zero_le _, rfl⟩
  case round =>
    obtain ⟨j, rfl, rfl, hj, rfl⟩ := hrel
    obtain ⟨LJ, hLJ⟩ : ∃ LJ, LJ = 1 + lines (s.data.toList.take j) := ⟨_, rfl⟩
    rw [← hLJ]
    rcases Nat.lt_or_ge j p with hjp | hjp
    · have hlt := HS1.out j hjp
      rw [← hLJ] at hlt
      have hl : j < s.data.toList.length := by rw [Array.length_toList]; exact Nat.lt_trans hjp hps
      obtain ⟨c, hc⟩ : ∃ c, s.data.toList[j]? = some c := ⟨_, List.getElem?_eq_getElem hl⟩
      have hx := fun W => idx_any s j c hc W
      have hm := lines_more hc
      clear hc hl
      by_cases h10 : c = 10
      · subst h10
        rw [if_pos rfl] at hm
        have HM := Lib.hid (show 1 + lines (s.data.toList.take (j + 1)) = LJ + 1 by omega)
        clear hm hLJ
        go_wp2
        have hq := HM.out
        refine ⟨⟨j + 1, by simp, ?_, by omega, by first | rfl | trivial⟩, by simp only [RowKit.intOf]; omega⟩
        first
          | (rw [hq]; done)
          | (rw [hq]; simp; done)
          | omega
          | (congr 1; omega)
      · have k1 : (c.toNat : Int) ≠ 10 := u8_int (d := 10) h10
        rw [if_neg h10] at hm
        have HM := Lib.hid (show 1 + lines (s.data.toList.take (j + 1)) = LJ by omega)
        clear hm hLJ
        go_wp2
        have hq := HM.out
        refine ⟨⟨j + 1, by simp, ?_, by omega, by first | rfl | trivial⟩, by simp only [RowKit.intOf]; omega⟩
        first
          | (rw [hq]; done)
          | (rw [hq]; simp; done)
          | omega
          | (congr 1; omega)
    · have hjp' : j = p := by omega
      subst hjp'
      rw [HS2.out] at hLJ
      subst hLJ
      have hmca : m ≤ ca := by omega
      have hup' : (j : Int) + ((XC : Int) - 1) = (U : Int) := by omega
      have hsame := fun W (R2 : Rw W (.slice (some ⟨g, 0, none⟩) T.length ca) T) vb (R3 : Rw W vb (T.take m)) => same_true W vb (.slice (some ⟨g, 0, none⟩) m ca) (T.take m) (T.take m) false R3 (R2.take (by rw [← HN.out]; exact Nat.le_of_lt hmN) rfl) (by rw [HTL.out]; omega) rfl
      have HSM := Lib.hid hsame
      clear hsame
      go_wp2_with (first
        | (go_at_call 7; (with_reducible refine (hlu _ (HE.out _ HO.out)).mono ?_); rintro e w2 ⟨⟨ob, cb, rfl, h2⟩, o2⟩; replace HO := Lib.hid ((HO.out.trans o2).alloc (.cells #[.int .i64 0, .int .i64 0] 25)); replace HR1 := Lib.hid (HR1.out.old (o2.alloc (.cells #[.int .i64 0, .int .i64 0] 25))); have h3 := (Rw.of_row (A := T.take m) (by rw [HTL.out]; exact h2)).old ((Old.refl w2).alloc (.cells #[.int .i64 0, .int .i64 0] 25)); rw [HTL.out] at h3; have R3 := Lib.hid h3; clear h2 o2 h3)
        | (go_at_call 10; (with_reducible refine (HSM.out _ HR1.out _ R3.out).mono ?_); rintro e w3 ⟨rfl, o3⟩; replace HO := Lib.hid (HO.out.trans o3))
        | (go_at_call 6; (with_reducible refine (hkn _ (HE.out _ HO.out)).mono ?_); rintro e w4 ⟨rfl, o4⟩; replace HO := Lib.hid (HO.out.trans o4)))
      all_goals (go_ret; exact ⟨rfl, HO.out⟩)
end Go.Proofs.YtclpimcejdeloaaGreatDoor
