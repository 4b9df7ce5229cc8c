/- Layer lexer: two sources with a line end between (the law's walk). -/
import Derived.Test.YtclpimcejdeloaaGreatDoorTX
import Derived.Deep.AppendLies
namespace Go.Proofs.YtclpimcejdeloaaGreatDoor
open Go.ChangeShapes Go.WideShapes Go.ChangeAt Go.RowKit Go.Lib
set_option linter.unusedVariables false
set_option linter.unusedSimpArgs false
set_option maxRecDepth 100000

theorem lexR_len2 {l : List UInt8} : (lexR l).1.length ≤ l.length := by
  obtain ⟨⟨T, E, ln, cl⟩, hT⟩ : ∃ x, lexL l = x := ⟨_, rfl⟩
  have := (wds_of hT).len
  unfold lexR
  rw [hT]
  split
  · exact this
  · exact Nat.zero_le _
/-- Of two sources: what is none in the first is none in both. -/
theorem join_bad {s t : List UInt8} {E ln cl : Int} (h : lexR s = ([], E, ln, cl)) (h0 : E ≠ 0) : lexR (s ++ 10 :: t) = ([], E, ln, cl) := by
  obtain ⟨⟨T, E', ln', cl'⟩, hT⟩ : ∃ x, lexL s = x := ⟨_, rfl⟩
  unfold lexR at h
  rw [hT] at h
  split at h
  · next h1 =>
    injection h with _ h2
    injection h2 with h2 h3
    exact absurd ((show E' = 0 from h1) ▸ h2.symm) h0
  · next h1 =>
    injection h with _ h2
    injection h2 with h2 h3
    injection h3 with h3 h4
    obtain ⟨T', hw⟩ := (wds_of hT).join_bad h1 t
    unfold lexR
    rw [lexL_of hw, if_neg h1, ← h2, ← h3, ← h4]
theorem join_two {s t : List UInt8} {T : List Tk} {ln cl : Int} (h : lexR s = (T, 0, ln, cl)) {T2 : List Tk} {E2 ln2 cl2 : Int} (h2 : lexR t = (T2, E2, ln2, cl2)) :
    lexR (s ++ 10 :: t) = if E2 = 0 then (T ++ T2.map (Tk.down (1 + lines s)), 0, 0, 0) else ([], E2, ln2 + (1 + lines s : Nat), cl2) := by
  have hs : lexL s = (T, 0, ln, cl) := by
    have := lexR_ok (l := s) (by rw [h])
    rw [← this, h]
  have hw := wds_of hs
  obtain ⟨⟨T', E', ln', cl'⟩, hT⟩ : ∃ x, lexL t = x := ⟨_, rfl⟩
  have hw2 := (wds_of hT).shift (1 + lines s)
  rw [show 1 + (1 + lines s) = 1 + lines s + 1 by omega] at hw2
  have hj := hw.join rfl (t := t) (T2 := T'.map (Tk.down (1 + lines s))) (e2 := E') (l2 := if E' = 0 then 0 else ln' + (1 + lines s : Nat)) (c2 := cl') hw2
  have hz := (wds_of hT).zero
  have hj2 := lexL_of hj
  unfold lexR at h2
  rw [hT] at h2
  split at h2
  · next h1 =>
    injection h2 with g1 g2
    injection g2 with g2 g3
    injection g3 with g3 g4
    subst g1 g2 g3 g4
    have h1' : E' = 0 := h1
    obtain ⟨z1, z2⟩ := hz h1'
    rw [if_pos h1']
    unfold lexR
    rw [hj2]
    simp only [h1', if_true, z2]
  · next h1 =>
    injection h2 with g1 g2
    injection g2 with g2 g3
    injection g3 with g3 g4
    subst g1 g2 g3 g4
    have h1' : ¬ E' = 0 := h1
    rw [if_neg h1']
    unfold lexR
    rw [hj2]
    simp only [h1', if_false]

theorem cat_list (s t : ByteArray) : ((s ++ (⟨#[10]⟩ : ByteArray)) ++ t).data.toList = s.data.toList ++ 10 :: t.data.toList := by
  rw [ByteArray.data_append, ByteArray.data_append]
  simp
theorem size_list (s : ByteArray) : s.data.toList.length = s.size := Array.length_toList

set_option maxHeartbeats 1600000 in
/-- One of them too long. -/
theorem joins_long (s t : ByteArray) (w : World) (he : Env w) (hl : 1500 < s.size ∨ 1500 < t.size) : Calls Tryz.prog 4 #[.string s, .string t] w fun e w' => e = .returned (.bool true) ∧ Old w w' := by
  have hkn := known_lex w he
  by_cases h1 : 1500 < s.size
  · go_enter Tryz.func4, Tryz.ntmps4
    go_wp2_with (go_at_call 6; (with_reducible refine hkn.mono ?_); rintro e w1 ⟨rfl, o1⟩)
    go_ret
    exact ⟨rfl, o1⟩
  · have h2 : 1500 < t.size := by omega
    go_enter Tryz.func4, Tryz.ntmps4
    go_wp2_with (go_at_call 6; (with_reducible refine hkn.mono ?_); rintro e w1 ⟨rfl, o1⟩)
    go_ret
    exact ⟨rfl, o1⟩

theorem pl_new (w : World) (a b : Int) : Pl (w.alloc (.cells #[.int .i64 a, .int .i64 b] 25)) w.heap.size a b := (MapKept.heap_alloc w _).1
theorem Wds.low {s : List UInt8} {L C : Nat} {T : List Tk} {E ln cl : Int} (h : Wds s L C T E ln cl) : (∀ x ∈ T, 0 ≤ x.ln ∧ x.ln ≤ ((L + lines s : Nat) : Int)) ∧ 0 ≤ ln ∧ ln ≤ ((L + lines s : Nat) : Int) := by
  induction h with
  | done hs => exact ⟨fun x hx => (by cases hx), by decide, by omega⟩
  | bad hs h1 =>
    have := skip_lines hs
    exact ⟨fun x hx => (by cases hx), by omega, by omega⟩
  | @word l L C c r L' C' T E ln cl hs h1 _ ih =>
    have hl := skip_lines hs
    have hl2 : lines ((c :: r).drop (wlen (c :: r))) = lines (c :: r) := by
      have := lines_app ((c :: r).take (wlen (c :: r))) ((c :: r).drop (wlen (c :: r)))
      rw [List.take_append_drop, lines_word h1] at this
      omega
    rw [hl2, hl] at ih
    refine ⟨fun x hx => ?_, ih.2⟩
    rcases List.mem_cons.1 hx with rfl | hx
    · show 0 ≤ (L' : Int) ∧ (L' : Int) ≤ _
      omega
    · exact ih.1 x hx
theorem lines_len (s : List UInt8) : lines s ≤ s.length := List.count_le_length

set_option maxHeartbeats 1600000 in
/-- What is none in the first. -/
theorem joins_bad1 (s t : ByteArray) (w : World) (he : Env w) (h1 : s.size ≤ 1500) (h2 : t.size ≤ 1500) (T2 : List Tk) (E1 l1 c1 E2 l2 c2 : Int) (hR1 : (([] : List Tk), E1, l1, c1) = lexR s.data.toList) (hR2 : (T2, E2, l2, c2) = lexR t.data.toList) (hb : E1 ≠ 0) :
    Calls Tryz.prog 4 #[.string s, .string t] w fun e w' => e = .returned (.bool true) ∧ Old w w' := by
  have hR3 : (([] : List Tk), E1, l1, c1) = lexR ((s ++ (⟨#[10]⟩ : ByteArray)) ++ t).data.toList := by
    rw [cat_list, join_bad hR1.symm hb]
  have hz3 : ((s ++ (⟨#[10]⟩ : ByteArray)) ++ t).size ≤ 65536 := by
    rw [← size_list, cat_list, List.length_append, List.length_cons, size_list, size_list]
    omega
  have k1 := fun W hW => lex_at s W (by omega) hW _ hR1
  have k2 := fun W hW => lex_at t W (by omega) hW _ hR2
  have k3 := fun W hW => lex_at _ W hz3 hW _ hR3
  have kc : Int := 0
  have hkn := fun W hW => known_lex W hW
  have HE := Lib.hid (fun W (h : Old w W) => he.old h)
  have HO := Lib.hid (Old.refl w)
  have he1 : (E1 != 0) = true := by simpa using hb
  simp only [List.length_nil] at k1 k3
  clear he hR1 hR2 hR3
  go_enter Tryz.func4, Tryz.ntmps4
  go_wp2_with (first
      | (go_at_call 7; (with_reducible refine (k1 _ (HE.out _ HO.out)).mono ?_); rintro e w1 ⟨⟨oa, ca, rfl, r1⟩, o1⟩; have Q1 := Lib.hid (pl_new w1 l1 c1); replace HO := Lib.hid ((HO.out.trans o1).alloc (.cells #[.int .i64 l1, .int .i64 c1] 25)); clear r1 o1)
      | (go_at_call 7; (with_reducible refine (k2 _ (HE.out _ HO.out)).mono ?_); rintro e w2 ⟨⟨ob, cb, rfl, r2⟩, o2⟩; replace Q1 := Lib.hid (Q1.out.old (o2.alloc (.cells #[.int .i64 l2, .int .i64 c2] 25))); have Q2 := Lib.hid (pl_new w2 l2 c2); replace HO := Lib.hid ((HO.out.trans o2).alloc (.cells #[.int .i64 l2, .int .i64 c2] 25)); clear r2 o2)
      | (go_at_call 7; (with_reducible refine (k3 _ (HE.out _ HO.out)).mono ?_); rintro e w3 ⟨⟨oc, cc, rfl, r3⟩, o3⟩; replace Q1 := Lib.hid (Q1.out.old (o3.alloc (.cells #[.int .i64 l1, .int .i64 c1] 25))); have n23 := Nat.ne_of_lt (Nat.lt_of_lt_of_le (blk_lt Q2.out) o3.size); replace Q2 := Lib.hid (Q2.out.old (o3.alloc (.cells #[.int .i64 l1, .int .i64 c1] 25))); have Q3 := Lib.hid (pl_new w3 l1 c1); replace HO := Lib.hid ((HO.out.trans o3).alloc (.cells #[.int .i64 l1, .int .i64 c1] 25)); have p0 := Q1.out.c0; have p1 := Q1.out.c1; have p2 := Q2.out.c0; have p3 := Q2.out.c1; have p4 := Q3.out.c0; have p5 := Q3.out.c1; have f2 := Q2.out.f 0; clear r3 o3)
      | (go_at_call 11; (with_reducible refine (kc _).mono ?_); rintro e w4 ⟨rfl, rfl⟩)
      | (go_at_call 6; (with_reducible refine (hkn _ (HE.out _ HO.out)).mono ?_); rintro e w4 ⟨rfl, o4⟩; replace HO := Lib.hid (HO.out.trans o4)))
  all_goals (go_ret; exact ⟨rfl, HO.out⟩)
set_option maxHeartbeats 1600000 in
/-- What is none in the second. -/
theorem joins_bad2 (s t : ByteArray) (w : World) (he : Env w) (h1 : s.size ≤ 1500) (h2 : t.size ≤ 1500) (T1 : List Tk) (l1 c1 E2 l2 c2 : Int) (hR1 : (T1, (0 : Int), l1, c1) = lexR s.data.toList) (hR2 : (([] : List Tk), E2, l2, c2) = lexR t.data.toList) (hb : E2 ≠ 0) :
    Calls Tryz.prog 4 #[.string s, .string t] w fun e w' => e = .returned (.bool true) ∧ Old w w' := by
  have hD0 := lines_len s.data.toList
  rw [size_list] at hD0
  have kc := fun W => Tryz.strings_Count_one s 10 W
  have hj := join_two hR1.symm hR2.symm
  rw [if_neg hb] at hj
  obtain ⟨D, hD⟩ : ∃ D, D = lines s.data.toList := ⟨_, rfl⟩
  have hcD : Lib.countByte s.data.toList 10 = D := by rw [hD]; rfl
  rw [← hD] at hj hD0
  simp only [hcD] at kc
  have hlow : 0 ≤ l2 ∧ l2 ≤ 1501 := by
    obtain ⟨⟨T', E', ln', cl'⟩, hT⟩ : ∃ x, lexL t.data.toList = x := ⟨_, rfl⟩
    have hw := (wds_of hT).low.2
    have hz := lines_len t.data.toList
    rw [size_list] at hz
    have : l2 = ln' := by
      unfold lexR at hR2
      rw [hT] at hR2
      split at hR2
      · injection hR2 with _ g2
        injection g2 with _ g3
        injection g3
      · injection hR2 with _ g2
        injection g2 with _ g3
        injection g3
    rw [this]
    omega
  have hR3 : (([] : List Tk), E2, l2 + (1 + (D : Int)), c2) = lexR ((s ++ (⟨#[10]⟩ : ByteArray)) ++ t).data.toList := by
    rw [cat_list, hj, Int.natCast_add]
    rfl
  have hz3 : ((s ++ (⟨#[10]⟩ : ByteArray)) ++ t).size ≤ 65536 := by
    rw [← size_list, cat_list, List.length_append, List.length_cons, size_list, size_list]
    omega
  have hT1 : T1.length ≤ 1500 := by
    have h9 : T1.length ≤ s.data.toList.length := by
      have := lexR_len2 (l := s.data.toList)
      rw [← hR1] at this
      exact this
    rw [size_list] at h9
    omega
  have k1 := fun W hW => lex_at s W (by omega) hW _ hR1
  have k2 := fun W hW => lex_at t W (by omega) hW _ hR2
  have k3 := fun W hW => lex_at _ W hz3 hW _ hR3
  have hkn := fun W hW => known_lex W hW
  have HE := Lib.hid (fun W (h : Old w W) => he.old h)
  have HO := Lib.hid (Old.refl w)
  have he2 : (E2 != 0) = true := by simpa using hb
  simp only [List.length_nil] at k1 k2 k3
  clear he hR1 hR2 hR3 hj hD hcD
  go_enter Tryz.func4, Tryz.ntmps4
  go_wp2_with (first
      | (go_at_call 7; (with_reducible refine (k1 _ (HE.out _ HO.out)).mono ?_); rintro e w1 ⟨⟨oa, ca, rfl, r1⟩, o1⟩; have Q1 := Lib.hid (pl_new w1 l1 c1); replace HO := Lib.hid ((HO.out.trans o1).alloc (.cells #[.int .i64 l1, .int .i64 c1] 25)); clear r1 o1)
      | (go_at_call 7; (with_reducible refine (k2 _ (HE.out _ HO.out)).mono ?_); rintro e w2 ⟨⟨ob, cb, rfl, r2⟩, o2⟩; replace Q1 := Lib.hid (Q1.out.old (o2.alloc (.cells #[.int .i64 l2, .int .i64 c2] 25))); have Q2 := Lib.hid (pl_new w2 l2 c2); replace HO := Lib.hid ((HO.out.trans o2)); have HP2 := Lib.hid HO.out.size; replace HO := Lib.hid (HO.out.alloc (.cells #[.int .i64 l2, .int .i64 c2] 25)); clear r2 o2)
      | (go_at_call 7; (with_reducible refine (k3 _ (HE.out _ HO.out)).mono ?_); rintro e w3 ⟨⟨oc, cc, rfl, r3⟩, o3⟩; replace Q1 := Lib.hid (Q1.out.old (o3.alloc (.cells #[.int .i64 (l2 + (1 + (D : Int))), .int .i64 c2] 25))); have n23 := Nat.ne_of_lt (Nat.lt_of_lt_of_le (blk_lt Q2.out) o3.size); have n32 := Ne.symm n23; replace Q2 := Lib.hid (Q2.out.old (o3.alloc (.cells #[.int .i64 (l2 + (1 + (D : Int))), .int .i64 c2] 25))); have Q3 := Lib.hid (pl_new w3 (l2 + (1 + (D : Int))) c2); replace HO := Lib.hid ((HO.out.trans o3).alloc (.cells #[.int .i64 (l2 + (1 + (D : Int))), .int .i64 c2] 25)); have HOS := Lib.hid (HO.out.setCell (p := ⟨w2.heap.size, 0, none⟩) HP2.out (.int .i64 (l2 + (1 + (D : Int))))); have p0 := Q1.out.c0; have p1 := Q1.out.c1; have p2 := Q2.out.c0; have p3 := Q2.out.c1; have p4 := Q3.out.c0; have p5 := Q3.out.c1; have f2 := Q2.out.f 0; clear r3 o3)
      | (go_at_call 11; (with_reducible refine (kc _).mono ?_); rintro e w4 ⟨rfl, rfl⟩)
      | (go_at_call 6; (with_reducible refine (hkn _ (HE.out _ HOS.out)).mono ?_); rintro e w4 ⟨rfl, o4⟩; replace HO := Lib.hid (HOS.out.trans o4)))
  all_goals (go_ret; exact ⟨rfl, HO.out⟩)
end Go.Proofs.YtclpimcejdeloaaGreatDoor
