/- Layer vtext: decimals as text. -/
import Derived.Test.YtgmjpcaennmgoaaGreatDoorLA
import Derived.Test.YtgmjpcaennmgoaaGreatDoorIB
import Derived.Lib.ItoaLen
import Derived.Deep.CutRange
namespace Go.Proofs.YtgmjpcaennmgoaaGreatDoor
open Go.ChangeShapes Go.WideShapes Go.ChangeAt Go.RowKit Go.Lib
set_option linter.unusedVariables false
set_option linter.unusedSimpArgs false
set_option maxRecDepth 100000

/-- A string out of its bytes. -/
abbrev st (l : List UInt8) : ByteArray := ⟨l.toArray⟩
def dgt (n : Nat) : UInt8 := UInt8.ofNat (48 + n)
def restL (u : Nat) : List UInt8 := [dgt (u % 10000 / 1000), dgt (u % 1000 / 100), dgt (u % 100 / 10), dgt (u % 10)]
theorem dec5 (u : Nat) : Lib.decDigits (10000 + u % 10000) = 49 :: restL u := by
  rw [Lib.decDigits, dif_neg (by omega), Lib.decDigits, dif_neg (by omega), Lib.decDigits, dif_neg (by omega), Lib.decDigits, dif_neg (by omega), Lib.decDigits, dif_pos (by omega)]
  unfold restL dgt
  rw [show (10000 + u % 10000) / 10 / 10 / 10 / 10 = 1 by omega, show (10000 + u % 10000) / 10 / 10 / 10 % 10 = u % 10000 / 1000 by omega, show (10000 + u % 10000) / 10 / 10 % 10 = u % 1000 / 100 by omega, show (10000 + u % 10000) / 10 % 10 = u % 100 / 10 by omega, show (10000 + u % 10000) % 10 = u % 10 by omega]
  rfl
def decU (u : Nat) : List UInt8 := Lib.decDigits (u / 10000) ++ [46] ++ (restL u).take 1 ++ Lib.trimRightB ((restL u).drop 1) 48
def decL (n : Int) : List UInt8 := if n < 0 then 45 :: decU n.natAbs else decU n.natAbs

theorem fu_int (x : Int) (h0 : 0 ≤ x) (h1 : x < 18446744073709551616) (w : World) (he : Env w) :
    Calls Tryz.prog 149 #[.int .u64 x, .int .i64 10] w fun e w' => e = .returned (.string (st (Lib.decDigits x.toNat))) ∧ Old w w' := by
  obtain ⟨u, rfl⟩ : ∃ u : Nat, x = u := ⟨x.toNat, by omega⟩
  exact fu_any u (by omega) w he

theorem dropWhile_le {α : Type} (p : α → Bool) : ∀ l : List α, (l.dropWhile p).length ≤ l.length
  | [] => Nat.le_refl _
  | x :: l => by
    rw [List.dropWhile_cons]
    split
    · exact Nat.le_trans (dropWhile_le p l) (by simp)
    · exact Nat.le_refl _
theorem trim3 (b c d : UInt8) : (Lib.trimRightB [b, c, d] 48).length ≤ 3 := by
  unfold Lib.trimRightB
  rw [List.length_reverse]
  exact Nat.le_trans (dropWhile_le _ _) (Nat.le_refl _)
set_option maxHeartbeats 1600000 in
theorem dec_pos (n : Int) (u : Nat) (hu : n = u) (hn : I64 n) (w : World) (he : Env w) :
    Calls Tryz.prog 134 #[.int .i64 n] w fun e w' => e = .returned (.string (st (decU u))) ∧ Old w w' := by
  have h0 : ¬ n < 0 := by omega
  have hw : IntKind.u64.wrap n = (u : Int) := by rw [IntKind.wrap_u64]; unfold I64 at hn; omega
  have hb : u < 18446744073709551616 := by unfold I64 at hn; omega
  have HE := Lib.hid he
  have HO := Lib.hid (Old.refl w)
  clear he
  have hr : ∀ W, Env W → Calls Tryz.prog 149 #[.int .u64 (10000 + (u : Int) % 10000), .int .i64 10] W fun e w' => e = .returned (.string (st (49 :: restL u))) ∧ Old W w' := by
    intro W hW
    have := fu_int (10000 + (u : Int) % 10000) (by omega) (by omega) W hW
    rwa [show (10000 + (u : Int) % 10000).toNat = 10000 + u % 10000 by omega, dec5] at this
  obtain ⟨a, b, c, d, hR⟩ : ∃ a b c d, restL u = [a, b, c, d] := ⟨_, _, _, _, rfl⟩
  rw [hR] at hr
  have HR := Lib.hid hR
  clear hR
  have hD : (Lib.decDigits ((u : Int) / 10000).toNat).length ≤ 20 := by rw [Lib.decDigits_length]; exact Lib.nDigits_le20 _ (by omega)
  have hT : (Lib.trimRightB [b, c, d] 48).length ≤ 3 := trim3 b c d
  have hX : (st [49, a, b, c, d]).extract 1 5 = st [a, b, c, d] := rfl
  go_enter Tryz.func134, Tryz.ntmps134
  go_upto_region 6 with (first
    | (go_at_call 149; first
      | ((with_reducible refine (hr _ HE.out).mono ?_); rintro e w1 ⟨rfl, o1⟩; replace HE := Lib.hid (HE.out.old o1); replace HO := Lib.hid (HO.out.trans o1); clear o1)
      | ((with_reducible refine (fu_int _ (by omega) (by omega) _ HE.out).mono ?_); rintro e w1 ⟨rfl, o1⟩; replace HE := Lib.hid (HE.out.old o1); replace HO := Lib.hid (HO.out.trans o1); clear o1)))
  refine wp_region_inv (spOf [.eq (.string (st [])), .eq (.string (st (Lib.decDigits ((u : Int) / 10000).toNat))), .eq (.string (st ([] ++ (Lib.decDigits ((u : Int) / 10000).toNat)))), .eq (.string (st ([] ++ (Lib.decDigits ((u : Int) / 10000).toNat) ++ [46]))), .eq (.string (st [a, b, c, d])), .eq (.string (st [a])), .eq (.string (st ([] ++ (Lib.decDigits ((u : Int) / 10000).toNat) ++ [46] ++ [a]))), .eq (.string (st [a, b, c, d])), .eq (.string (st [b, c, d])), .eq (.string (st (Lib.trimRightB [b, c, d] 48))), .eq (.string (st ([] ++ (Lib.decDigits ((u : Int) / 10000).toNat) ++ [46] ++ [a] ++ (Lib.trimRightB [b, c, d] 48)))), .eq (.string (st ([] ++ (Lib.decDigits ((u : Int) / 10000).toNat) ++ [46] ++ [a] ++ (Lib.trimRightB [b, c, d] 48))))]) (by kernel_rfl) (by kernel_rfl) (spOf_mono _) ?_ ?_
  · refine ⟨?_, ?_, ?_, ?_, ?_, ?_, ?_, ?_, ?_, ?_, ?_, ?_, trivial⟩
    · refine step_plain rfl fun ρ wr ho hr hd => ?_
      exact does_move rfl ((hr.1 3 rfl).trans rfl) ⟨in_eq rfl, Old.refl _⟩
    · refine step_plain rfl fun ρ wr ho hr hd => ?_
      exact does_move rfl ((hr.1 5 rfl).trans rfl) ⟨in_eq rfl, Old.refl _⟩
    · refine step_plain rfl fun ρ wr ho hr hd => ?_
      obtain ⟨d0, d1, _⟩ := hd
      have d0 : ρ (.tmp 21) = .string (st []) := spOf_eq (d0 rfl) rfl
      have d1 : ρ (.tmp 22) = .string (st (Lib.decDigits ((u : Int) / 10000).toNat)) := spOf_eq (d1 rfl) rfl
      exact does_addL rfl d0 d1 (by simp only [List.length_append, List.length_cons, List.length_nil]; omega) ⟨in_eq rfl, Old.refl _⟩
    · refine step_plain rfl fun ρ wr ho hr hd => ?_
      obtain ⟨d2, _⟩ := hd
      have d2 : ρ (.tmp 23) = .string (st ([] ++ (Lib.decDigits ((u : Int) / 10000).toNat))) := spOf_eq (d2 rfl) rfl
      exact does_addL (b := [46]) rfl d2 (hr.2.1 _) (by simp only [List.length_append, List.length_cons, List.length_nil]; omega) ⟨in_eq rfl, Old.refl _⟩
    · refine step_plain rfl fun ρ wr ho hr hd => ?_
      exact does_move rfl ((hr.1 6 rfl).trans rfl) ⟨in_eq rfl, Old.refl _⟩
    · refine step_plain rfl fun ρ wr ho hr hd => ?_
      obtain ⟨d4, _⟩ := hd
      have d4 : ρ (.tmp 25) = .string (st [a, b, c, d]) := spOf_eq (d4 rfl) rfl
      exact does_upto1 rfl (hr.2.1 _) d4 ⟨in_eq rfl, Old.refl _⟩
    · refine step_plain rfl fun ρ wr ho hr hd => ?_
      obtain ⟨d3, d5, _⟩ := hd
      have d3 : ρ (.tmp 24) = .string (st ([] ++ (Lib.decDigits ((u : Int) / 10000).toNat) ++ [46])) := spOf_eq (d3 rfl) rfl
      have d5 : ρ (.tmp 26) = .string (st [a]) := spOf_eq (d5 rfl) rfl
      exact does_addL rfl d3 d5 (by simp only [List.length_append, List.length_cons, List.length_nil]; omega) ⟨in_eq rfl, Old.refl _⟩
    · refine step_plain rfl fun ρ wr ho hr hd => ?_
      exact does_move rfl ((hr.1 6 rfl).trans rfl) ⟨in_eq rfl, Old.refl _⟩
    · refine step_plain rfl fun ρ wr ho hr hd => ?_
      obtain ⟨d7, _⟩ := hd
      have d7 : ρ (.tmp 28) = .string (st [a, b, c, d]) := spOf_eq (d7 rfl) rfl
      exact does_from1 rfl (hr.2.1 _) d7 ⟨in_eq rfl, Old.refl _⟩
    · refine step_plain rfl fun ρ wr ho hr hd => ?_
      obtain ⟨d8, _⟩ := hd
      have d8 : ρ (.tmp 29) = .string (st [b, c, d]) := spOf_eq (d8 rfl) rfl
      refine does_call2 rfl (hr.2.2.2 _) d8 (hr.2.1 _) rfl ((Tryz.strings_TrimRight_one (st [b, c, d]) 48 (by decide) wr (by simp [ByteArray.size])).mono fun e w' h => ?_)
      exact ⟨_, h.1, in_eq rfl, Old.same h.2⟩
    · refine step_plain rfl fun ρ wr ho hr hd => ?_
      obtain ⟨d6, d9, _⟩ := hd
      have d6 : ρ (.tmp 27) = .string (st ([] ++ (Lib.decDigits ((u : Int) / 10000).toNat) ++ [46] ++ [a])) := spOf_eq (d6 rfl) rfl
      have d9 : ρ (.tmp 30) = .string (st (Lib.trimRightB [b, c, d] 48)) := spOf_eq (d9 rfl) rfl
      exact does_addL rfl d6 d9 (by simp only [List.length_append, List.length_cons, List.length_nil]; omega) ⟨in_eq rfl, Old.refl _⟩
    · refine step_plain rfl fun ρ wr ho hr hd => ?_
      obtain ⟨d10, _⟩ := hd
      have d10 : ρ (.tmp 31) = .string (st ([] ++ (Lib.decDigits ((u : Int) / 10000).toNat) ++ [46] ++ [a] ++ (Lib.trimRightB [b, c, d] 48))) := spOf_eq (d10 rfl) rfl
      exact does_assign rfl d10 ⟨in_eq rfl, Old.refl _⟩
  · intro a' w' ho hst hl
    obtain ⟨_, _, _, _, _, _, _, _, _, _, _, e2, _⟩ := hl
    have e2 : a'.eval (.tmp 2) = .string (st ([] ++ (Lib.decDigits ((u : Int) / 10000).toNat) ++ [46] ++ [a] ++ (Lib.trimRightB [b, c, d] 48))) := spOf_eq e2 rfl
    rw [act_fresh hst [false, false, true, false, false, false, false, false, false, false, false, false, false, false, false, false, false, false, false, false, false, true, true, true, true, true, true, true, true, true, true, true] (by kernel_rfl) (by kernel_rfl)]
    simp only [fresh, e2]
    go_wp2_with fail
    go_ret
    refine ⟨?_, HO.out.trans ho⟩
    unfold decU
    rw [HR.out, show ((u : Int) / 10000).toNat = u / 10000 by omega]
    simp [List.append_assoc]

set_option maxHeartbeats 1600000 in
theorem dec_neg (n : Int) (u : Nat) (hu : n = -(u : Int) ∧ 1 ≤ u) (hn : I64 n) (w : World) (he : Env w) :
    Calls Tryz.prog 134 #[.int .i64 n] w fun e w' => e = .returned (.string (st (45 :: decU u))) ∧ Old w w' := by
  obtain ⟨rfl, hu1⟩ := hu
  have h0 : 0 < u := hu1
  have hw : IntKind.u64.wrap (-IntKind.u64.wrap (-(u : Int))) = (u : Int) := by rw [IntKind.wrap_u64, IntKind.wrap_u64]; unfold I64 at hn; omega
  have hb : u < 18446744073709551616 := by unfold I64 at hn; omega
  have HE := Lib.hid he
  have HO := Lib.hid (Old.refl w)
  clear he
  have hr : ∀ W, Env W → Calls Tryz.prog 149 #[.int .u64 (10000 + (u : Int) % 10000), .int .i64 10] W fun e w' => e = .returned (.string (st (49 :: restL u))) ∧ Old W w' := by
    intro W hW
    have := fu_int (10000 + (u : Int) % 10000) (by omega) (by omega) W hW
    rwa [show (10000 + (u : Int) % 10000).toNat = 10000 + u % 10000 by omega, dec5] at this
  obtain ⟨a, b, c, d, hR⟩ : ∃ a b c d, restL u = [a, b, c, d] := ⟨_, _, _, _, rfl⟩
  rw [hR] at hr
  have HR := Lib.hid hR
  clear hR
  have hD : (Lib.decDigits ((u : Int) / 10000).toNat).length ≤ 20 := by rw [Lib.decDigits_length]; exact Lib.nDigits_le20 _ (by omega)
  have hT : (Lib.trimRightB [b, c, d] 48).length ≤ 3 := trim3 b c d
  have hX : (st [49, a, b, c, d]).extract 1 5 = st [a, b, c, d] := rfl
  go_enter Tryz.func134, Tryz.ntmps134
  go_upto_region 6 with (first
    | (go_at_call 149; first
      | ((with_reducible refine (hr _ HE.out).mono ?_); rintro e w1 ⟨rfl, o1⟩; replace HE := Lib.hid (HE.out.old o1); replace HO := Lib.hid (HO.out.trans o1); clear o1)
      | ((with_reducible refine (fu_int _ (by omega) (by omega) _ HE.out).mono ?_); rintro e w1 ⟨rfl, o1⟩; replace HE := Lib.hid (HE.out.old o1); replace HO := Lib.hid (HO.out.trans o1); clear o1)))
  refine wp_region_inv (spOf [.eq (.string (st [45])), .eq (.string (st (Lib.decDigits ((u : Int) / 10000).toNat))), .eq (.string (st ([45] ++ (Lib.decDigits ((u : Int) / 10000).toNat)))), .eq (.string (st ([45] ++ (Lib.decDigits ((u : Int) / 10000).toNat) ++ [46]))), .eq (.string (st [a, b, c, d])), .eq (.string (st [a])), .eq (.string (st ([45] ++ (Lib.decDigits ((u : Int) / 10000).toNat) ++ [46] ++ [a]))), .eq (.string (st [a, b, c, d])), .eq (.string (st [b, c, d])), .eq (.string (st (Lib.trimRightB [b, c, d] 48))), .eq (.string (st ([45] ++ (Lib.decDigits ((u : Int) / 10000).toNat) ++ [46] ++ [a] ++ (Lib.trimRightB [b, c, d] 48)))), .eq (.string (st ([45] ++ (Lib.decDigits ((u : Int) / 10000).toNat) ++ [46] ++ [a] ++ (Lib.trimRightB [b, c, d] 48))))]) (by kernel_rfl) (by kernel_rfl) (spOf_mono _) ?_ ?_
  · refine ⟨?_, ?_, ?_, ?_, ?_, ?_, ?_, ?_, ?_, ?_, ?_, ?_, trivial⟩
    · refine step_plain rfl fun ρ wr ho hr hd => ?_
      exact does_move rfl ((hr.1 3 rfl).trans rfl) ⟨in_eq rfl, Old.refl _⟩
    · refine step_plain rfl fun ρ wr ho hr hd => ?_
      exact does_move rfl ((hr.1 5 rfl).trans rfl) ⟨in_eq rfl, Old.refl _⟩
    · refine step_plain rfl fun ρ wr ho hr hd => ?_
      obtain ⟨d0, d1, _⟩ := hd
      have d0 : ρ (.tmp 21) = .string (st [45]) := spOf_eq (d0 rfl) rfl
      have d1 : ρ (.tmp 22) = .string (st (Lib.decDigits ((u : Int) / 10000).toNat)) := spOf_eq (d1 rfl) rfl
      exact does_addL rfl d0 d1 (by simp only [List.length_append, List.length_cons, List.length_nil]; omega) ⟨in_eq rfl, Old.refl _⟩
    · refine step_plain rfl fun ρ wr ho hr hd => ?_
      obtain ⟨d2, _⟩ := hd
      have d2 : ρ (.tmp 23) = .string (st ([45] ++ (Lib.decDigits ((u : Int) / 10000).toNat))) := spOf_eq (d2 rfl) rfl
      exact does_addL (b := [46]) rfl d2 (hr.2.1 _) (by simp only [List.length_append, List.length_cons, List.length_nil]; omega) ⟨in_eq rfl, Old.refl _⟩
    · refine step_plain rfl fun ρ wr ho hr hd => ?_
      exact does_move rfl ((hr.1 6 rfl).trans rfl) ⟨in_eq rfl, Old.refl _⟩
    · refine step_plain rfl fun ρ wr ho hr hd => ?_
      obtain ⟨d4, _⟩ := hd
      have d4 : ρ (.tmp 25) = .string (st [a, b, c, d]) := spOf_eq (d4 rfl) rfl
      exact does_upto1 rfl (hr.2.1 _) d4 ⟨in_eq rfl, Old.refl _⟩
    · refine step_plain rfl fun ρ wr ho hr hd => ?_
      obtain ⟨d3, d5, _⟩ := hd
      have d3 : ρ (.tmp 24) = .string (st ([45] ++ (Lib.decDigits ((u : Int) / 10000).toNat) ++ [46])) := spOf_eq (d3 rfl) rfl
      have d5 : ρ (.tmp 26) = .string (st [a]) := spOf_eq (d5 rfl) rfl
      exact does_addL rfl d3 d5 (by simp only [List.length_append, List.length_cons, List.length_nil]; omega) ⟨in_eq rfl, Old.refl _⟩
    · refine step_plain rfl fun ρ wr ho hr hd => ?_
      exact does_move rfl ((hr.1 6 rfl).trans rfl) ⟨in_eq rfl, Old.refl _⟩
    · refine step_plain rfl fun ρ wr ho hr hd => ?_
      obtain ⟨d7, _⟩ := hd
      have d7 : ρ (.tmp 28) = .string (st [a, b, c, d]) := spOf_eq (d7 rfl) rfl
      exact does_from1 rfl (hr.2.1 _) d7 ⟨in_eq rfl, Old.refl _⟩
    · refine step_plain rfl fun ρ wr ho hr hd => ?_
      obtain ⟨d8, _⟩ := hd
      have d8 : ρ (.tmp 29) = .string (st [b, c, d]) := spOf_eq (d8 rfl) rfl
      refine does_call2 rfl (hr.2.2.2 _) d8 (hr.2.1 _) rfl ((Tryz.strings_TrimRight_one (st [b, c, d]) 48 (by decide) wr (by simp [ByteArray.size])).mono fun e w' h => ?_)
      exact ⟨_, h.1, in_eq rfl, Old.same h.2⟩
    · refine step_plain rfl fun ρ wr ho hr hd => ?_
      obtain ⟨d6, d9, _⟩ := hd
      have d6 : ρ (.tmp 27) = .string (st ([45] ++ (Lib.decDigits ((u : Int) / 10000).toNat) ++ [46] ++ [a])) := spOf_eq (d6 rfl) rfl
      have d9 : ρ (.tmp 30) = .string (st (Lib.trimRightB [b, c, d] 48)) := spOf_eq (d9 rfl) rfl
      exact does_addL rfl d6 d9 (by simp only [List.length_append, List.length_cons, List.length_nil]; omega) ⟨in_eq rfl, Old.refl _⟩
    · refine step_plain rfl fun ρ wr ho hr hd => ?_
      obtain ⟨d10, _⟩ := hd
      have d10 : ρ (.tmp 31) = .string (st ([45] ++ (Lib.decDigits ((u : Int) / 10000).toNat) ++ [46] ++ [a] ++ (Lib.trimRightB [b, c, d] 48))) := spOf_eq (d10 rfl) rfl
      exact does_assign rfl d10 ⟨in_eq rfl, Old.refl _⟩
  · intro a' w' ho hst hl
    obtain ⟨_, _, _, _, _, _, _, _, _, _, _, e2, _⟩ := hl
    have e2 : a'.eval (.tmp 2) = .string (st ([45] ++ (Lib.decDigits ((u : Int) / 10000).toNat) ++ [46] ++ [a] ++ (Lib.trimRightB [b, c, d] 48))) := spOf_eq e2 rfl
    rw [act_fresh hst [false, false, true, false, false, false, false, false, false, false, false, false, false, false, false, false, false, false, false, false, false, true, true, true, true, true, true, true, true, true, true, true] (by kernel_rfl) (by kernel_rfl)]
    simp only [fresh, e2]
    go_wp2_with fail
    go_ret
    refine ⟨?_, HO.out.trans ho⟩
    unfold decU
    rw [HR.out, show ((u : Int) / 10000).toNat = u / 10000 by omega]
    simp [List.append_assoc]

theorem dec_any (n : Int) (hn : I64 n) (w : World) (he : Env w) :
    Calls Tryz.prog 134 #[.int .i64 n] w fun e w' => e = .returned (.string (st (decL n))) ∧ Old w w' := by
  unfold decL
  by_cases h : n < 0
  · rw [if_pos h]
    exact dec_neg n n.natAbs ⟨by omega, by omega⟩ hn w he
  · rw [if_neg h]
    exact dec_pos n n.natAbs (by omega) hn w he
end Go.Proofs.YtgmjpcaennmgoaaGreatDoor
