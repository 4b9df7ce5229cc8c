/- Layer vtext: the text of a value. -/
import Derived.Test.YtgmjpcaennmgoaaGreatDoorLB
import Derived.Test.YtgmjpcaennmgoaaGreatDoorLD
import Derived.Test.YtgmjpcaennmgoaaGreatDoorVP
namespace Go.Proofs.YtgmjpcaennmgoaaGreatDoor
open Go.ChangeShapes Go.WideShapes Go.ChangeAt Go.RowKit Go.Lib
set_option linter.unusedVariables false
set_option maxRecDepth 100000

/-- The text of a value. -/
def textL (k n : Int) (s : ByteArray) : List UInt8 :=
  if mayB k n s = false then [] else if k = 1 then Lib.itoa n else if k = 2 then decL n else if k = 3 then quoteL s.data.toList else if k = 4 then Lib.formatBool (n == 1) else if k = 5 then 35 :: s.data.toList else [110, 117, 108, 108]

theorem may_str {n : Int} {s : ByteArray} (h : mayB 3 n s = true) : s.size ≤ 200 := by
  unfold mayB textB at h
  simp at h
  omega
theorem may_sym {n : Int} {s : ByteArray} (h : mayB 5 n s = true) : s.size ≤ 12 := by
  unfold mayB nameB at h
  simp at h
  omega
theorem rs {a b : List UInt8} (h : a = b) : Ending.returned (.string (st a)) = .returned (.string (st b)) := by rw [h]

set_option maxHeartbeats 1600000 in
theorem text_any' (k n : Int) (s : ByteArray) (hk : 0 ≤ k ∧ k ≤ 255) (hn : I64 n) (w : World) (he : Env w) :
    Calls Tryz.prog 125 #[vl k n s] w fun e w' => e = .returned (.string (st (textL k n s))) ∧ Old w w' := by
  have HO := Lib.hid ((Old.refl w).alloc (.cells #[.int .u8 k, .int .i64 n, .string s] 35))
  have HE := Lib.hid (he.old HO.out)
  have HT := Lib.hid (Three.new w (.int .u8 k) (.int .i64 n) (.string s))
  have HN := Lib.hid hn
  clear he
  have hm := fun W => may_any k n s W
  cases hmay : mayB k n s
  · rw [hmay] at hm
    have HM := Lib.hid hmay
    clear hmay hn
    go_enter Tryz.func125, Tryz.ntmps125
    go_wp2_with (first
      | (go_at_call 132; (with_reducible refine (hm _).mono ?_); rintro e w1 ⟨rfl, o1⟩))
    go_ret
    exact ⟨rs (by unfold textL; rw [HM.out]; rfl), HO.out.trans o1⟩
  · rw [hmay] at hm
    have HM := Lib.hid hmay
    clear hmay hn
    by_cases h1 : k = 1
    · obtain rfl := h1
      go_enter Tryz.func125, Tryz.ntmps125
      go_wp2_with (first
        | (go_at_call 132; (with_reducible refine (hm _).mono ?_); rintro e w1 ⟨rfl, o1⟩; replace HO := Lib.hid (HO.out.trans o1); replace HE := Lib.hid (HE.out.old o1); replace HT := Lib.hid (HT.out.old o1); clear o1; have c0 := HT.out.c0; have c1 := HT.out.c1; have c2 := HT.out.c2)
        | (go_at_call 133; (with_reducible refine (fi_any n HN.out _ HE.out).mono ?_); rintro e w2 ⟨rfl, o2⟩))
      go_ret
      refine ⟨rs ?_, HO.out.trans o2⟩
      unfold textL
      rw [HM.out]
      rfl
    by_cases h2 : k = 2
    · obtain rfl := h2
      go_enter Tryz.func125, Tryz.ntmps125
      go_wp2_with (first
        | (go_at_call 132; (with_reducible refine (hm _).mono ?_); rintro e w1 ⟨rfl, o1⟩; replace HO := Lib.hid (HO.out.trans o1); replace HE := Lib.hid (HE.out.old o1); replace HT := Lib.hid (HT.out.old o1); clear o1; have c0 := HT.out.c0; have c1 := HT.out.c1; have c2 := HT.out.c2)
        | (go_at_call 134; (with_reducible refine (dec_any n HN.out _ HE.out).mono ?_); rintro e w2 ⟨rfl, o2⟩))
      go_ret
      refine ⟨rs ?_, HO.out.trans o2⟩
      unfold textL
      rw [HM.out]
      rfl
    by_cases h3 : k = 3
    · obtain rfl := h3
      have hs3 := Lib.hid (show s.size ≤ 1000 by have := may_str HM.out; omega)
      go_enter Tryz.func125, Tryz.ntmps125
      go_wp2_with (first
        | (go_at_call 132; (with_reducible refine (hm _).mono ?_); rintro e w1 ⟨rfl, o1⟩; replace HO := Lib.hid (HO.out.trans o1); replace HE := Lib.hid (HE.out.old o1); replace HT := Lib.hid (HT.out.old o1); clear o1; have c0 := HT.out.c0; have c1 := HT.out.c1; have c2 := HT.out.c2)
        | (go_at_call 135; (with_reducible refine (quoted_any s _ hs3.out).mono ?_); rintro e w2 ⟨rfl, o2⟩))
      go_ret
      refine ⟨rs ?_, HO.out.trans o2⟩
      unfold textL
      rw [HM.out]
      rfl
    by_cases h4 : k = 4
    · obtain rfl := h4
      go_enter Tryz.func125, Tryz.ntmps125
      go_wp2_with (first
        | (go_at_call 132; (with_reducible refine (hm _).mono ?_); rintro e w1 ⟨rfl, o1⟩; replace HO := Lib.hid (HO.out.trans o1); replace HE := Lib.hid (HE.out.old o1); replace HT := Lib.hid (HT.out.old o1); clear o1; have c0 := HT.out.c0; have c1 := HT.out.c1; have c2 := HT.out.c2)
        | (go_at_call 136; (with_reducible refine (Tryz.strconv_FormatBool _ _).mono ?_); rintro e w2 ⟨rfl, rfl⟩))
      go_ret
      refine ⟨rs ?_, HO.out⟩
      unfold textL
      rw [HM.out]
      rfl
    by_cases h5 : k = 5
    · obtain rfl := h5
      have hs5 : (s.size : Int) ≤ 8388608 := by have := may_sym HM.out; omega
      go_enter Tryz.func125, Tryz.ntmps125
      go_wp2_with (first
        | (go_at_call 132; (with_reducible refine (hm _).mono ?_); rintro e w1 ⟨rfl, o1⟩; replace HO := Lib.hid (HO.out.trans o1); replace HE := Lib.hid (HE.out.old o1); replace HT := Lib.hid (HT.out.old o1); clear o1; have c0 := HT.out.c0; have c1 := HT.out.c1; have c2 := HT.out.c2)
        | fail)
      go_ret
      refine ⟨rs ?_, HO.out⟩
      unfold textL
      rw [HM.out]
      rfl
    · have e1 : (k == 1) = false := by simpa using h1
      have e2 : (k == 2) = false := by simpa using h2
      have e3 : (k == 3) = false := by simpa using h3
      have e4 : (k == 4) = false := by simpa using h4
      have e5 : (k == 5) = false := by simpa using h5
      have H := Lib.hid (And.intro h1 (And.intro h2 (And.intro h3 (And.intro h4 h5))))
      clear h1 h2 h3 h4 h5
      go_enter Tryz.func125, Tryz.ntmps125
      go_wp2_with (first
        | (go_at_call 132; (with_reducible refine (hm _).mono ?_); rintro e w1 ⟨rfl, o1⟩; replace HO := Lib.hid (HO.out.trans o1); replace HE := Lib.hid (HE.out.old o1); replace HT := Lib.hid (HT.out.old o1); clear o1; have c0 := HT.out.c0; have c1 := HT.out.c1; have c2 := HT.out.c2))
      go_ret
      refine ⟨rs ?_, HO.out⟩
      unfold textL
      rw [HM.out, if_neg (by decide), if_neg H.out.1, if_neg H.out.2.1, if_neg H.out.2.2.1, if_neg H.out.2.2.2.1, if_neg H.out.2.2.2.2]
end Go.Proofs.YtgmjpcaennmgoaaGreatDoor
