/- Layer vtext: VtextText: its walk. -/
import Derived.Test.YtcedcfkjoppjdaaGreatDoorME
import Derived.Test.YtcedcfkjoppjdaaGreatDoorMA
import Derived.Test.YtcedcfkjoppjdaaGreatDoorLM
import Derived.Test.YtcedcfkjoppjdaaGreatDoorLR
namespace Go.Proofs.YtcedcfkjoppjdaaGreatDoor
open Go.ChangeShapes Go.WideShapes Go.ChangeAt Go.RowKit Go.Lib
set_option linter.unusedVariables false
set_option linter.unusedSimpArgs false
set_option maxRecDepth 100000

/-- The text of what may be is read again. -/
theorem parse_text {k n : Int} {s : ByteArray} (hm : mayB k n s = true) (hn : I64 n) : parseL (textL k n s) = ⟨k, n, 0, s.data.toList⟩ := by
  obtain ⟨_, _, c, _⟩ := text_say hm hn
  rw [parse_of (textL k n s) k n 0 s.data.toList (read_back k n s hm hn) (by omega), if_pos rfl]
  rw [if_pos]
  show textL k n ⟨s.data.toList.toArray⟩ = textL k n s
  rfl
theorem text_len {k n : Int} {s : ByteArray} (hn : I64 n) : (textL k n s).length ≤ 402 := by
  cases hm : mayB k n s
  · unfold textL; rw [hm]; simp
  · exact (text_say hm hn).2.2.1

set_option maxHeartbeats 6400000 in
theorem vtext_any (k n : Int) (s : ByteArray) (hk : 0 ≤ k ∧ k ≤ 255) (hn : I64 n) (w : World) (he : Env w) : Calls Tryz.prog 3 #[vl k n s] w fun e w' => e = .returned (.bool true) ∧ Old w w' := by
  have HO := Lib.hid ((Old.refl w).alloc (.cells #[.int .u8 k, .int .i64 n, .string s] 23))
  have HE := Lib.hid (he.old HO.out)
  have HT := Lib.hid (Three.new w (.int .u8 k) (.int .i64 n) (.string s))
  have hkn := fun W hW => known_any W hW
  by_cases hs : 1000 < s.size
  · have h1 := fun W => text_any' k n s hk hn W
    clear he h1
    go_enter Tryz.func3, Tryz.ntmps3
    go_wp2_with (first
      | (go_at_call 5; (with_reducible refine (hkn _ HE.out).mono ?_); rintro e w2 ⟨rfl, o2⟩; replace HO := Lib.hid (HO.out.trans o2)))
    go_ret
    exact ⟨rfl, HO.out⟩
  · obtain ⟨S, hS⟩ : ∃ S, S = st (textL k n s) := ⟨_, rfl⟩
    have h1 : ∀ W, Env W → Calls Tryz.prog 6 #[vl k n s] W fun e w' => e = .returned (.string S) ∧ Old W w' := fun W hW => by rw [hS]; exact text_any' k n s hk hn W hW
    have h2 : ∀ W, Calls Tryz.prog 7 #[vl k n s] W fun e w' => e = .returned (.string S) ∧ Old W w' := fun W => by rw [hS]; exact rtext_any k n s hk hn (by omega) W
    have h3 := fun W => rmay_any k n s W (by unfold maxLen; omega)
    have hsz : S.size ≤ 402 := by rw [hS, st_size]; exact text_len hn
    cases hm : mayB k n s
    · rw [hm] at h3
      have hS0 : S = ⟨#[]⟩ := by rw [hS]; unfold textL; rw [hm]; rfl
      subst hS0
      clear hS he hn hm
      go_enter Tryz.func3, Tryz.ntmps3
      go_wp2_with (first
        | (go_at_call 6; (with_reducible refine (h1 _ HE.out).mono ?_); rintro e w1 ⟨rfl, o1⟩; replace HO := Lib.hid (HO.out.trans o1); replace HE := Lib.hid (HE.out.old o1); replace HT := Lib.hid (HT.out.old o1); have c0 := HT.out.c0; have c1 := HT.out.c1; have c2 := HT.out.c2; clear o1)
        | (go_at_call 7; (with_reducible refine (h2 _).mono ?_); rintro e w2 ⟨rfl, o2⟩; replace HO := Lib.hid (HO.out.trans o2); replace HE := Lib.hid (HE.out.old o2); replace HT := Lib.hid (HT.out.old o2); clear o2 c0 c1 c2; have c0 := HT.out.c0; have c1 := HT.out.c1; have c2 := HT.out.c2)
        | (go_at_call 8; (with_reducible refine (h3 _).mono ?_); rintro e w3 ⟨rfl, o3⟩; replace HO := Lib.hid (HO.out.trans o3); replace HE := Lib.hid (HE.out.old o3); clear o3)
        | (go_at_call 5; (with_reducible refine (hkn _ HE.out).mono ?_); rintro e w4 ⟨rfl, o4⟩; replace HO := Lib.hid (HO.out.trans o4)))
      go_ret
      exact ⟨rfl, HO.out⟩
    · rw [hm] at h3
      have h4 : ∀ W, Env W → Calls Tryz.prog 9 #[.string S] W fun e w' => e = rv k n 0 s ∧ Old W w' := fun W hW => by
        have h := parse_at (textL k n s) _ (parse_text hm hn) (by have := text_len (k := k) (s := s) hn; omega) W hW
        rw [hS]
        exact h
      have HS := Lib.hid hS
      have HN := Lib.hid hn
      clear hS he hn hm
      go_enter Tryz.func3, Tryz.ntmps3
      go_wp2_with (first
        | (go_at_call 6; (with_reducible refine (h1 _ HE.out).mono ?_); rintro e w1 ⟨rfl, o1⟩; replace HO := Lib.hid (HO.out.trans o1); replace HE := Lib.hid (HE.out.old o1); replace HT := Lib.hid (HT.out.old o1); have c0 := HT.out.c0; have c1 := HT.out.c1; have c2 := HT.out.c2; clear o1)
        | (go_at_call 7; (with_reducible refine (h2 _).mono ?_); rintro e w2 ⟨rfl, o2⟩; replace HO := Lib.hid (HO.out.trans o2); replace HE := Lib.hid (HE.out.old o2); replace HT := Lib.hid (HT.out.old o2); clear o2 c0 c1 c2; have c0 := HT.out.c0; have c1 := HT.out.c1; have c2 := HT.out.c2)
        | (go_at_call 8; (with_reducible refine (h3 _).mono ?_); rintro e w3 ⟨rfl, o3⟩; replace HO := Lib.hid (HO.out.trans o3); replace HE := Lib.hid (HE.out.old o3); replace HT := Lib.hid (HT.out.old o3); clear o3 c0 c1 c2; have c0 := HT.out.c0; have c1 := HT.out.c1; have c2 := HT.out.c2)
        | (go_at_call 9; (with_reducible refine (h4 _ HE.out).mono ?_); rintro e w5 ⟨rfl, o5⟩; replace HO := Lib.hid ((HO.out.trans o5).alloc (.cells #[.int .u8 k, .int .i64 n, .string s] 23)); replace HE := Lib.hid (HE.out.old (o5.alloc (.cells #[.int .u8 k, .int .i64 n, .string s] 23))); replace HT := Lib.hid (HT.out.old (o5.alloc (.cells #[.int .u8 k, .int .i64 n, .string s] 23))); clear o5 c0 c1 c2; have c0 := HT.out.c0; have c1 := HT.out.c1; have c2 := HT.out.c2)
        | (go_at_call 5; (with_reducible refine (hkn _ HE.out).mono ?_); rintro e w4 ⟨rfl, o4⟩; replace HO := Lib.hid (HO.out.trans o4)))
      go_ret
      exact ⟨rfl, HO.out⟩
end Go.Proofs.YtcedcfkjoppjdaaGreatDoor
