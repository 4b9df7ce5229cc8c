/- Layer vtext: the known texts. -/
import Derived.Test.YtcedcfkjoppjdaaGreatDoorLL
namespace Go.Proofs.YtcedcfkjoppjdaaGreatDoor
open Go.ChangeShapes Go.WideShapes Go.ChangeAt Go.RowKit Go.Lib
set_option linter.unusedVariables false
set_option maxRecDepth 100000

theorem parse_at (l : List UInt8) (t : Rd3) (h : parseL l = t) (hb : l.length ≤ 1000000) (W : World) (he : Env W) :
    Calls Tryz.prog 9 #[.string (st l)] W fun e w' => e = rd t ∧ Old W w' := by
  rw [← h]; exact parse_any l hb W he
theorem text_at (k n : Int) (s : ByteArray) (l : List UInt8) (h : textL k n s = l) (hk : 0 ≤ k ∧ k ≤ 255) (hn : I64 n) (W : World) (he : Env W) :
    Calls Tryz.prog 6 #[vl k n s] W fun e w' => e = .returned (.string (st l)) ∧ Old W w' := by
  rw [← h]; exact text_any' k n s hk hn W he
theorem p1 : parseL [49, 46, 53, 48] = ⟨0, 0, 4, []⟩ := by kernel_rfl
theorem p2 : parseL [45, 48] = ⟨0, 0, 4, []⟩ := by kernel_rfl
theorem p3 : parseL [48, 48, 55] = ⟨0, 0, 4, []⟩ := by kernel_rfl
theorem p4 : parseL [46, 53] = ⟨0, 0, 4, []⟩ := by kernel_rfl
theorem p5 : parseL [45, 48, 46, 48] = ⟨0, 0, 4, []⟩ := by kernel_rfl
theorem p6 : parseL [57, 50, 50, 51, 51, 55, 50, 48, 51, 54, 56, 53, 52, 55, 55, 53, 56, 48, 56] = ⟨0, 0, 9, []⟩ := by kernel_rfl
theorem t1 : textL 2 15000 ⟨#[]⟩ = [49, 46, 53] := by kernel_rfl
theorem t2 : textL 2 (-5) ⟨#[]⟩ = [45, 48, 46, 48, 48, 48, 53] := by kernel_rfl
theorem t3 : textL 2 0 ⟨#[]⟩ = [48, 46, 48] := by kernel_rfl
theorem t4 : textL 3 0 ⟨#[97, 34, 98]⟩ = [34, 97, 92, 34, 98, 34] := by kernel_rfl

theorem ix0 (W : World) : (Instr.index 33 (.agg #[.string ⟨#[49, 46, 53, 48]⟩, .string ⟨#[45, 48]⟩, .string ⟨#[48, 48, 55]⟩, .string ⟨#[46, 53]⟩, .string ⟨#[45, 48, 46, 48]⟩]) (.int .i64 0)).run Tryz.prog W = .ok (.string ⟨#[49, 46, 53, 48]⟩) W := by kernel_rfl
theorem ix1 (W : World) : (Instr.index 33 (.agg #[.string ⟨#[49, 46, 53, 48]⟩, .string ⟨#[45, 48]⟩, .string ⟨#[48, 48, 55]⟩, .string ⟨#[46, 53]⟩, .string ⟨#[45, 48, 46, 48]⟩]) (.int .i64 1)).run Tryz.prog W = .ok (.string ⟨#[45, 48]⟩) W := by kernel_rfl
theorem ix2 (W : World) : (Instr.index 33 (.agg #[.string ⟨#[49, 46, 53, 48]⟩, .string ⟨#[45, 48]⟩, .string ⟨#[48, 48, 55]⟩, .string ⟨#[46, 53]⟩, .string ⟨#[45, 48, 46, 48]⟩]) (.int .i64 2)).run Tryz.prog W = .ok (.string ⟨#[48, 48, 55]⟩) W := by kernel_rfl
theorem ix3 (W : World) : (Instr.index 33 (.agg #[.string ⟨#[49, 46, 53, 48]⟩, .string ⟨#[45, 48]⟩, .string ⟨#[48, 48, 55]⟩, .string ⟨#[46, 53]⟩, .string ⟨#[45, 48, 46, 48]⟩]) (.int .i64 3)).run Tryz.prog W = .ok (.string ⟨#[46, 53]⟩) W := by kernel_rfl
theorem ix4 (W : World) : (Instr.index 33 (.agg #[.string ⟨#[49, 46, 53, 48]⟩, .string ⟨#[45, 48]⟩, .string ⟨#[48, 48, 55]⟩, .string ⟨#[46, 53]⟩, .string ⟨#[45, 48, 46, 48]⟩]) (.int .i64 4)).run Tryz.prog W = .ok (.string ⟨#[45, 48, 46, 48]⟩) W := by kernel_rfl

set_option maxHeartbeats 1600000 in
theorem known_any (w : World) (he : Env w) : Calls Tryz.prog 5 #[] w fun e w' => e = .returned (.bool true) ∧ Old w w' := by
  have q0 : ∀ W, Env W → Calls Tryz.prog 9 #[.string ⟨#[49, 46, 53, 48]⟩] W fun e w' => e = rv 0 0 4 ⟨#[]⟩ ∧ Old W w' := fun W hW => parse_at [49, 46, 53, 48] _ p1 (by decide) W hW
  have q1 : ∀ W, Env W → Calls Tryz.prog 9 #[.string ⟨#[45, 48]⟩] W fun e w' => e = rv 0 0 4 ⟨#[]⟩ ∧ Old W w' := fun W hW => parse_at [45, 48] _ p2 (by decide) W hW
  have q2 : ∀ W, Env W → Calls Tryz.prog 9 #[.string ⟨#[48, 48, 55]⟩] W fun e w' => e = rv 0 0 4 ⟨#[]⟩ ∧ Old W w' := fun W hW => parse_at [48, 48, 55] _ p3 (by decide) W hW
  have q3 : ∀ W, Env W → Calls Tryz.prog 9 #[.string ⟨#[46, 53]⟩] W fun e w' => e = rv 0 0 4 ⟨#[]⟩ ∧ Old W w' := fun W hW => parse_at [46, 53] _ p4 (by decide) W hW
  have q4 : ∀ W, Env W → Calls Tryz.prog 9 #[.string ⟨#[45, 48, 46, 48]⟩] W fun e w' => e = rv 0 0 4 ⟨#[]⟩ ∧ Old W w' := fun W hW => parse_at [45, 48, 46, 48] _ p5 (by decide) W hW
  have q5 : ∀ W, Env W → Calls Tryz.prog 9 #[.string ⟨#[57, 50, 50, 51, 51, 55, 50, 48, 51, 54, 56, 53, 52, 55, 55, 53, 56, 48, 56]⟩] W fun e w' => e = rv 0 0 9 ⟨#[]⟩ ∧ Old W w' := fun W hW => parse_at [57, 50, 50, 51, 51, 55, 50, 48, 51, 54, 56, 53, 52, 55, 55, 53, 56, 48, 56] _ p6 (by decide) W hW
  have x0 : ∀ W, Env W → Calls Tryz.prog 6 #[vl 2 15000 ⟨#[]⟩] W fun e w' => e = .returned (.string ⟨#[49, 46, 53]⟩) ∧ Old W w' := fun W hW => text_at 2 15000 _ _ t1 (by decide) (by decide) W hW
  have x1 : ∀ W, Env W → Calls Tryz.prog 6 #[vl 2 (-5) ⟨#[]⟩] W fun e w' => e = .returned (.string ⟨#[45, 48, 46, 48, 48, 48, 53]⟩) ∧ Old W w' := fun W hW => text_at 2 (-5) _ _ t2 (by decide) (by decide) W hW
  have x2 : ∀ W, Env W → Calls Tryz.prog 6 #[vl 2 0 ⟨#[]⟩] W fun e w' => e = .returned (.string ⟨#[48, 46, 48]⟩) ∧ Old W w' := fun W hW => text_at 2 0 _ _ t3 (by decide) (by decide) W hW
  have x3 : ∀ W, Env W → Calls Tryz.prog 6 #[vl 3 0 ⟨#[97, 34, 98]⟩] W fun e w' => e = .returned (.string ⟨#[34, 97, 92, 34, 98, 34]⟩) ∧ Old W w' := fun W hW => text_at 3 0 _ _ t4 (by decide) (by decide) W hW
  have HO := Lib.hid (Old.refl w)
  have HE := Lib.hid he
  clear he
  go_enter Tryz.func5, Tryz.ntmps5
  go_wp2_with fail
  go_loopw [8] (fun i wr => ∃ k : Nat, k ≤ 5 ∧ i = .int .i64 (k : Int) ∧ Hid (Old w wr) ∧ Hid (Env wr)) (fun i _ => (5 - RowKit.intOf i).toNat)
  case atStart => exact ⟨0, by omega, rfl, HO, HE⟩
  case round =>
    clear HO HE
    obtain ⟨k, hk, rfl, HO, HE⟩ := hrel
    have hk5 : k = 0 ∨ k = 1 ∨ k = 2 ∨ k = 3 ∨ k = 4 ∨ k = 5 := by omega
    rcases hk5 with rfl | rfl | rfl | rfl | rfl | rfl
    · have hi := ix0
      go_upto_region 5 with (first
        | (go_at_call 9; (with_reducible refine (q0 _ HE.out).mono ?_); rintro e w1 ⟨rfl, o1⟩; replace HO := Lib.hid (HO.out.trans o1); replace HE := Lib.hid (HE.out.old o1)))
      replace HO := Lib.hid (HO.out.alloc (.cells #[.int .u8 0, .int .i64 0, .string ⟨#[]⟩] 23))
      replace HE := Lib.hid (HE.out.old ((Old.refl _).alloc (.cells #[.int .u8 0, .int .i64 0, .string ⟨#[]⟩] 23)))
      go_wp2_with fail
      exact ⟨⟨1, by omega, rfl, HO, HE⟩, by decide⟩
    · have hi := ix1
      go_upto_region 5 with (first
        | (go_at_call 9; (with_reducible refine (q1 _ HE.out).mono ?_); rintro e w1 ⟨rfl, o1⟩; replace HO := Lib.hid (HO.out.trans o1); replace HE := Lib.hid (HE.out.old o1)))
      replace HO := Lib.hid (HO.out.alloc (.cells #[.int .u8 0, .int .i64 0, .string ⟨#[]⟩] 23))
      replace HE := Lib.hid (HE.out.old ((Old.refl _).alloc (.cells #[.int .u8 0, .int .i64 0, .string ⟨#[]⟩] 23)))
      go_wp2_with fail
      exact ⟨⟨2, by omega, rfl, HO, HE⟩, by decide⟩
    · have hi := ix2
      go_upto_region 5 with (first
        | (go_at_call 9; (with_reducible refine (q2 _ HE.out).mono ?_); rintro e w1 ⟨rfl, o1⟩; replace HO := Lib.hid (HO.out.trans o1); replace HE := Lib.hid (HE.out.old o1)))
      replace HO := Lib.hid (HO.out.alloc (.cells #[.int .u8 0, .int .i64 0, .string ⟨#[]⟩] 23))
      replace HE := Lib.hid (HE.out.old ((Old.refl _).alloc (.cells #[.int .u8 0, .int .i64 0, .string ⟨#[]⟩] 23)))
      go_wp2_with fail
      exact ⟨⟨3, by omega, rfl, HO, HE⟩, by decide⟩
    · have hi := ix3
      go_upto_region 5 with (first
        | (go_at_call 9; (with_reducible refine (q3 _ HE.out).mono ?_); rintro e w1 ⟨rfl, o1⟩; replace HO := Lib.hid (HO.out.trans o1); replace HE := Lib.hid (HE.out.old o1)))
      replace HO := Lib.hid (HO.out.alloc (.cells #[.int .u8 0, .int .i64 0, .string ⟨#[]⟩] 23))
      replace HE := Lib.hid (HE.out.old ((Old.refl _).alloc (.cells #[.int .u8 0, .int .i64 0, .string ⟨#[]⟩] 23)))
      go_wp2_with fail
      exact ⟨⟨4, by omega, rfl, HO, HE⟩, by decide⟩
    · have hi := ix4
      go_upto_region 5 with (first
        | (go_at_call 9; (with_reducible refine (q4 _ HE.out).mono ?_); rintro e w1 ⟨rfl, o1⟩; replace HO := Lib.hid (HO.out.trans o1); replace HE := Lib.hid (HE.out.old o1)))
      replace HO := Lib.hid (HO.out.alloc (.cells #[.int .u8 0, .int .i64 0, .string ⟨#[]⟩] 23))
      replace HE := Lib.hid (HE.out.old ((Old.refl _).alloc (.cells #[.int .u8 0, .int .i64 0, .string ⟨#[]⟩] 23)))
      go_wp2_with fail
      exact ⟨⟨5, by omega, rfl, HO, HE⟩, by decide⟩
    · go_upto_region 9 with (first
        | (go_at_call 9; (with_reducible refine (q5 _ HE.out).mono ?_); rintro e w1 ⟨rfl, o1⟩; replace HO := Lib.hid (HO.out.trans o1); replace HE := Lib.hid (HE.out.old o1)))
      replace HO := Lib.hid (HO.out.alloc (.cells #[.int .u8 0, .int .i64 0, .string ⟨#[]⟩] 23))
      replace HE := Lib.hid (HE.out.old ((Old.refl _).alloc (.cells #[.int .u8 0, .int .i64 0, .string ⟨#[]⟩] 23)))
      go_wp2_with (first
        | (go_at_call 6; first
          | ((with_reducible refine (x0 _ HE.out).mono ?_); rintro e w1 ⟨rfl, o1⟩; replace HO := Lib.hid (HO.out.trans o1); replace HE := Lib.hid (HE.out.old o1))
          | ((with_reducible refine (x1 _ HE.out).mono ?_); rintro e w1 ⟨rfl, o1⟩; replace HO := Lib.hid (HO.out.trans o1); replace HE := Lib.hid (HE.out.old o1))
          | ((with_reducible refine (x2 _ HE.out).mono ?_); rintro e w1 ⟨rfl, o1⟩; replace HO := Lib.hid (HO.out.trans o1); replace HE := Lib.hid (HE.out.old o1))
          | ((with_reducible refine (x3 _ HE.out).mono ?_); rintro e w1 ⟨rfl, o1⟩; replace HO := Lib.hid (HO.out.trans o1); replace HE := Lib.hid (HE.out.old o1))))
      go_ret
      exact ⟨rfl, HO.out⟩
end Go.Proofs.YtcedcfkjoppjdaaGreatDoor
