/- Layer lexer: what a word means, by its kind. -/
import Derived.Test.YtgmjpcaennmgoaaGreatDoorTJ
namespace Go.Proofs.YtgmjpcaennmgoaaGreatDoor
open Go.ChangeShapes Go.WideShapes Go.ChangeAt Go.RowKit Go.Lib
set_option linter.unusedVariables false
set_option linter.unusedSimpArgs false
set_option maxRecDepth 100000

set_option maxHeartbeats 800000 in
theorem meaning_any (k : Nat) (hk : k ≤ 7) (s : ByteArray) (w : World) (hs : s.size ≤ 900000) (h1 : 1 ≤ s.size) (he : Env w) (h2 : k = 5 → (parseL s.data.toList).e = 0 → 2 ≤ s.size) :
    Calls Tryz.prog 61 #[.int .u8 (k : Int), .string s] w fun e w' => e = tokX (meanL k s.data.toList) ∧ Old w w' := by
  have hst := st_list s
  have hval := fun (k' : Nat) (hk' : k' = 4 ∨ k' = 5) (hkk : k' = k) W hW => valued_any k' hk' s W hs hW (by rw [hkk]; exact h2)
  obtain ⟨z, hz⟩ : ∃ z, z = st s.data.toList.tail := ⟨_, rfl⟩
  have hzl : z.data.toList = s.data.toList.tail := by rw [hz]
  have hsl : ∀ W, (Instr.slice 9 (.string s) (some (.int .i64 1)) none none).run Tryz.prog W = .ok (.string z) W := fun W => by
    rw [run_slice_string_l W 9 s Tryz.underlying9 .i64 1 (by omega) (by omega), hz]
    congr 2
    apply ba_ext
    rw [Lib.extract_toList, ByteArray.toList_eq, ← List.drop_one, List.take_of_length_le (by rw [List.length_drop, Array.length_toList]; exact Nat.le_refl _)]
    rfl
  have hzs : z.size ≤ 900000 := by
    have h3 : z.data.toList.length = z.size := Array.length_toList
    have h4 : s.data.toList.length = s.size := Array.length_toList
    rw [← h3, hzl, List.length_tail]
    omega
  have hnz := fun (k' : Int) W => named_any k' z _ W (by omega) (fun W' => lname_any z W' hzs)
  have hns := fun (k' : Int) W => named_any k' s _ W (by omega) (fun W' => lname_any s W' hs)
  have hcl := fun W => clone_any s W (by omega)
  rw [hzl] at hnz
  have HZ := Lib.hid hz
  have HST := Lib.hid hst
  have HS := Lib.hid (sv0 w)
  have HO := Lib.hid ((Old.refl w).alloc (.cells #[.int .u8 0, .string ⟨#[]⟩, .int .u8 0, .int .i64 0, .string ⟨#[]⟩, .int .i64 0, .int .i64 0] 51))
  have HE := Lib.hid he
  clear he hz hzl hst h2
  have hk8 : k = 0 ∨ k = 1 ∨ k = 2 ∨ k = 3 ∨ k = 4 ∨ k = 5 ∨ k = 6 ∨ k = 7 := by omega
  rcases hk8 with rfl | rfl | rfl | rfl | rfl | rfl | rfl | rfl
  · go_enter Tryz.func61, Tryz.ntmps61
    go_wp2_with fail
    refine bodyPost_ret (ret_tok rfl _ _ w.heap.size rfl rfl (Sv.new w)) rfl ?_
    exact ⟨rfl, (Old.refl w).alloc _⟩
  · have e : meanL 1 s.data.toList = namedL 1 s.data.toList := rfl
    rw [e]
    unfold namedL
    cases hB : isName s.data.toList
    all_goals
      simp only [hB] at hns
      go_enter Tryz.func61, Tryz.ntmps61
      go_wp2_with (first
          | (go_at_call 94; refine (hns 1 _).mono ?_; rintro e w2 ⟨rfl, o2⟩; replace HS := Lib.hid (HS.out.old o2); replace HO := Lib.hid (HO.out.trans o2); have a0 := HS.out.c 0; have a1 := HS.out.c 1; have a2 := HS.out.c 2; have a3 := HS.out.c 3; have a4 := HS.out.c 4; have a5 := HS.out.c 5; have a6 := HS.out.c 6; have f0 := HS.out.f 0; have f1 := HS.out.f 1; have f2 := HS.out.f 2; have f3 := HS.out.f 3; have f4 := HS.out.f 4; have f5 := HS.out.f 5; have f6 := HS.out.f 6))
      refine bodyPost_ret (ret_tok rfl _ _ w.heap.size rfl rfl (HS.out.poke _ _ _ _ _ _ _)) rfl ?_
      exact ⟨by first | rfl | (rw [← HST.out]; rfl), old_poke7 HO.out (Nat.le_refl _) _ _ _ _ _ _ _⟩
  · have e : meanL 2 s.data.toList = namedL 2 s.data.toList.tail := rfl
    rw [e]
    unfold namedL
    cases hB : isName s.data.toList.tail
    all_goals
      simp only [hB] at hnz
      go_enter Tryz.func61, Tryz.ntmps61
      go_wp2_with (first
          | (go_at_call 94; refine (hnz 2 _).mono ?_; rintro e w2 ⟨rfl, o2⟩; replace HS := Lib.hid (HS.out.old o2); replace HO := Lib.hid (HO.out.trans o2); have a0 := HS.out.c 0; have a1 := HS.out.c 1; have a2 := HS.out.c 2; have a3 := HS.out.c 3; have a4 := HS.out.c 4; have a5 := HS.out.c 5; have a6 := HS.out.c 6; have f0 := HS.out.f 0; have f1 := HS.out.f 1; have f2 := HS.out.f 2; have f3 := HS.out.f 3; have f4 := HS.out.f 4; have f5 := HS.out.f 5; have f6 := HS.out.f 6))
      refine bodyPost_ret (ret_tok rfl _ _ w.heap.size rfl rfl (HS.out.poke _ _ _ _ _ _ _)) rfl ?_
      exact ⟨by first | rfl | (rw [HZ.out]; rfl), old_poke7 HO.out (Nat.le_refl _) _ _ _ _ _ _ _⟩
  · go_enter Tryz.func61, Tryz.ntmps61
    go_wp2_with fail
    refine bodyPost_ret (ret_tok rfl _ _ w.heap.size rfl rfl (Sv.new w)) rfl ?_
    exact ⟨rfl, (Old.refl w).alloc _⟩
  · have e : meanL 4 s.data.toList = valuedL 4 s.data.toList := rfl
    rw [e]
    go_enter Tryz.func61, Tryz.ntmps61
    go_wp2_with (first
        | (go_at_call 95; refine (hval 4 (Or.inl rfl) rfl _ (HE.out.old HO.out)).mono ?_; rintro e w2 ⟨rfl, o2⟩; replace HS := Lib.hid (HS.out.old o2); replace HO := Lib.hid (HO.out.trans o2); have a0 := HS.out.c 0; have a1 := HS.out.c 1; have a2 := HS.out.c 2; have a3 := HS.out.c 3; have a4 := HS.out.c 4; have a5 := HS.out.c 5; have a6 := HS.out.c 6; have f0 := HS.out.f 0; have f1 := HS.out.f 1; have f2 := HS.out.f 2; have f3 := HS.out.f 3; have f4 := HS.out.f 4; have f5 := HS.out.f 5; have f6 := HS.out.f 6))
    refine bodyPost_ret (ret_tok rfl _ _ w.heap.size rfl rfl (HS.out.poke _ _ _ _ _ _ _)) rfl ?_
    exact ⟨rfl, old_poke7 HO.out (Nat.le_refl _) _ _ _ _ _ _ _⟩
  · have e : meanL 5 s.data.toList = valuedL 5 s.data.toList := rfl
    rw [e]
    go_enter Tryz.func61, Tryz.ntmps61
    go_wp2_with (first
        | (go_at_call 95; refine (hval 5 (Or.inr rfl) rfl _ (HE.out.old HO.out)).mono ?_; rintro e w2 ⟨rfl, o2⟩; replace HS := Lib.hid (HS.out.old o2); replace HO := Lib.hid (HO.out.trans o2); have a0 := HS.out.c 0; have a1 := HS.out.c 1; have a2 := HS.out.c 2; have a3 := HS.out.c 3; have a4 := HS.out.c 4; have a5 := HS.out.c 5; have a6 := HS.out.c 6; have f0 := HS.out.f 0; have f1 := HS.out.f 1; have f2 := HS.out.f 2; have f3 := HS.out.f 3; have f4 := HS.out.f 4; have f5 := HS.out.f 5; have f6 := HS.out.f 6))
    refine bodyPost_ret (ret_tok rfl _ _ w.heap.size rfl rfl (HS.out.poke _ _ _ _ _ _ _)) rfl ?_
    exact ⟨rfl, old_poke7 HO.out (Nat.le_refl _) _ _ _ _ _ _ _⟩
  · have e : meanL 6 s.data.toList = if (namedL 6 s.data.toList.tail).2 = 0 then ({ (namedL 6 s.data.toList.tail).1 with vk := 5, vs := s.data.toList.tail }, 0) else namedL 6 s.data.toList.tail := rfl
    rw [e]
    unfold namedL
    cases hB : isName s.data.toList.tail
    · simp only [hB] at hnz
      go_enter Tryz.func61, Tryz.ntmps61
      go_wp2_with (first
          | (go_at_call 94; refine (hnz 6 _).mono ?_; rintro e w2 ⟨rfl, o2⟩; have HN := Lib.hid (Nat.lt_of_lt_of_le HS.out.lt o2.size); have HS2 := Lib.hid (Sv.new w2 (x0 := .int .u8 0) (x1 := .string ⟨#[]⟩) (x2 := .int .u8 0) (x3 := .int .i64 0) (x4 := .string ⟨#[]⟩) (x5 := .int .i64 0) (x6 := .int .i64 0)); replace HO := Lib.hid (HO.out.trans (o2.alloc (.cells #[.int .u8 0, .string ⟨#[]⟩, .int .u8 0, .int .i64 0, .string ⟨#[]⟩, .int .i64 0, .int .i64 0] 51))); replace HS := Lib.hid (HS.out.old (o2.alloc (.cells #[.int .u8 0, .string ⟨#[]⟩, .int .u8 0, .int .i64 0, .string ⟨#[]⟩, .int .i64 0, .int .i64 0] 51))); have a0 := HS.out.c 0; have a1 := HS.out.c 1; have a2 := HS.out.c 2; have a3 := HS.out.c 3; have a4 := HS.out.c 4; have a5 := HS.out.c 5; have a6 := HS.out.c 6; have f0 := HS.out.f 0; have f1 := HS.out.f 1; have f2 := HS.out.f 2; have f3 := HS.out.f 3; have f4 := HS.out.f 4; have f5 := HS.out.f 5; have f6 := HS.out.f 6; have d0 := HS2.out.c 0; have d1 := HS2.out.c 1; have d2 := HS2.out.c 2; have d3 := HS2.out.c 3; have d4 := HS2.out.c 4; have d5 := HS2.out.c 5; have d6 := HS2.out.c 6; have g0 := HS2.out.f 0; have g1 := HS2.out.f 1; have g2 := HS2.out.f 2; have g3 := HS2.out.f 3; have g4 := HS2.out.f 4; have g5 := HS2.out.f 5; have g6 := HS2.out.f 6))
      all_goals refine bodyPost_ret (ret_tok rfl _ _ w.heap.size rfl rfl (HS.out.poke _ _ _ _ _ _ _)) rfl ?_
      all_goals exact ⟨rfl, old_poke7 HO.out (Nat.le_refl _) _ _ _ _ _ _ _⟩
    · simp only [hB] at hnz
      go_enter Tryz.func61, Tryz.ntmps61
      go_wp2_with (first
          | (go_at_call 94; refine (hnz 6 _).mono ?_; rintro e w2 ⟨rfl, o2⟩; have HN := Lib.hid (Nat.lt_of_lt_of_le HS.out.lt o2.size); have HS2 := Lib.hid (Sv.new w2 (x0 := .int .u8 6) (x1 := .string z) (x2 := .int .u8 0) (x3 := .int .i64 0) (x4 := .string ⟨#[]⟩) (x5 := .int .i64 0) (x6 := .int .i64 0)); replace HO := Lib.hid (HO.out.trans (o2.alloc (.cells #[.int .u8 6, .string z, .int .u8 5, .int .i64 0, .string z, .int .i64 0, .int .i64 0] 51))); replace HS := Lib.hid (HS.out.old (o2.alloc (.cells #[.int .u8 6, .string z, .int .u8 5, .int .i64 0, .string z, .int .i64 0, .int .i64 0] 51))); have a0 := HS.out.c 0; have a1 := HS.out.c 1; have a2 := HS.out.c 2; have a3 := HS.out.c 3; have a4 := HS.out.c 4; have a5 := HS.out.c 5; have a6 := HS.out.c 6; have f0 := HS.out.f 0; have f1 := HS.out.f 1; have f2 := HS.out.f 2; have f3 := HS.out.f 3; have f4 := HS.out.f 4; have f5 := HS.out.f 5; have f6 := HS.out.f 6; have d0 := HS2.out.c 0; have d1 := HS2.out.c 1; have d2 := HS2.out.c 2; have d3 := HS2.out.c 3; have d4 := HS2.out.c 4; have d5 := HS2.out.c 5; have d6 := HS2.out.c 6; have g0 := HS2.out.f 0; have g1 := HS2.out.f 1; have g2 := HS2.out.f 2; have g3 := HS2.out.f 3; have g4 := HS2.out.f 4; have g5 := HS2.out.f 5; have g6 := HS2.out.f 6))
      refine bodyPost_ret (ret_tok rfl _ _ w.heap.size rfl rfl (HS.out.poke _ _ _ _ _ _ _)) rfl ?_
      exact ⟨by rw [HZ.out]; rfl, old_poke7 HO.out (Nat.le_refl _) _ _ _ _ _ _ _⟩
  · have e : meanL 7 s.data.toList = (⟨7, s.data.toList, 0, 0, [], 0, 0⟩, 0) := rfl
    rw [e]
    go_enter Tryz.func61, Tryz.ntmps61
    go_wp2_with (first
        | (go_at_call 69; refine (hcl _).mono ?_; rintro e w2 ⟨rfl, o2⟩; replace HS := Lib.hid (HS.out.old o2); replace HO := Lib.hid (HO.out.trans o2); have a0 := HS.out.c 0; have a1 := HS.out.c 1; have a2 := HS.out.c 2; have a3 := HS.out.c 3; have a4 := HS.out.c 4; have a5 := HS.out.c 5; have a6 := HS.out.c 6; have f0 := HS.out.f 0; have f1 := HS.out.f 1; have f2 := HS.out.f 2; have f3 := HS.out.f 3; have f4 := HS.out.f 4; have f5 := HS.out.f 5; have f6 := HS.out.f 6))
    refine bodyPost_ret (ret_tok rfl _ _ w.heap.size rfl rfl (HS.out.poke _ _ _ _ _ _ _)) rfl ?_
    exact ⟨by first | rfl | (rw [← HST.out]; rfl), old_poke7 HO.out (Nat.le_refl _) _ _ _ _ _ _ _⟩
end Go.Proofs.YtgmjpcaennmgoaaGreatDoor
