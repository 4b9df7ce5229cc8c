/- The laws: built; in. -/
import Derived.Test.YtfgdgnkihiokoaaCA
namespace Go.Proofs.Ytfgdgnkihiokoaa
open Go.ChangeShapes Go.WideShapes Go.ChangeAt Go.RowKit Go.Lib
set_option linter.unusedVariables false
set_option linter.unusedSimpArgs false
set_option maxRecDepth 100000
set_option maxHeartbeats 1000000

/-- Between two calls of built. -/
structure Bt (w wr : World) (b : Bs) (l : List Ox) (k : Nat) : Prop where
  my : ∃ A cap, My w wr b A (runS (l.take k)).1 (runS (l.take k)).2 cap ∧ cap ≤ 4 + 4 * k
theorem Bt.o {w wr wr' : World} {b : Bs} {l : List Ox} {k : Nat} (h : Bt w wr b l k) (ho : Old wr wr') : Bt w wr' b l k := by
  obtain ⟨A, cap, h1, h2⟩ := h.my
  exact ⟨A, cap, h1.o ho, h2⟩
theorem take_snoc {α : Type} {l : List α} {k : Nat} {x : α} (h : l[k]? = some x) : l.take (k + 1) = l.take k ++ [x] := by rw [List.take_add_one, h]; rfl

theorem built_any {w : World} {v : Value} {l : List Ox} (hl : OR w v l) (hlen : l.length ≤ 1000) :
    Calls Try.prog 18 #[v] w fun e W' => ∃ b A cap, e = .returned (.tuple #[ptr b, .int .i64 ((runS l).2 : Int)]) ∧ My w W' b A (runS l).1 (runS l).2 cap ∧ cap ≤ 4 + 4 * l.length := by
  have hall := hl.all
  have hn := new_my w
  have HL := Lib.hid hl
  have HA := Lib.hid hall
  have HLEN := Lib.hid hlen
  obtain ⟨oa, cp, rfl, _⟩ := hl
  have hli : (l.length : Int) < 2000 := by omega
  clear hall hlen
  go_enter Try.func18, Try.ntmps18
  go_wp2_with (go_at_call 8; (with_reducible refine hn.mono ?_); rintro e w1 ⟨b, A1, rfl, h⟩; have M1 := Lib.hid h; clear h)
  go_loopw [5, 13] (fun s5 s13 wr => ∃ k : Nat, s5 = .int .i64 ((runS (l.take k)).2 : Int) ∧ s13 = .int .i64 (k : Int) ∧ k ≤ l.length ∧ Hid (Bt w wr b l k)) (fun s5 s13 wr => l.length - (intOf s13).toNat)
  case atStart => exact ⟨0, rfl, rfl, Nat.zero_le _, Lib.hid ⟨A1, 4, M1.out, by omega⟩⟩
  case round =>
    obtain ⟨k, rfl, rfl, hk, HB⟩ := hrel
    by_cases hlt : k < l.length
    · obtain ⟨x, hx⟩ : ∃ x, l[k]? = some x := ⟨l[k], List.getElem?_eq_getElem hlt⟩
      obtain ⟨A, cap, hM, hcap⟩ := HB.out.my
      obtain ⟨g, o, rfl, hgl, d0, d1, d2, d3, h64⟩ := (HL.out.old hM.old).at_ hx
      have hf := runS_facts (l.take k) (fun y hy => HA.out y (List.mem_of_mem_take hy))
      have hlk : (l.take k).length = k := by rw [List.length_take]; omega
      rw [hlk] at hf
      have hrun : runS (l.take (k + 1)) = doOp (runS (l.take k)) x := by rw [take_snoc hx, runS_snoc]
      have HRUN := Lib.hid hrun
      have HLT := Lib.hid hlt
      have HM := Lib.hid (hM.o ((Old.refl wr).alloc (.cells #[.int .i64 x.k, .int .i64 x.a, .int .i64 x.b, .int .i64 x.c] 27)))
      have HCAP := Lib.hid hcap
      have HF := Lib.hid hf
      have H64 := Lib.hid h64
      have h0k : (0 : Int) ≤ (k : Int) := by omega
      have hlti : (k : Int) < (l.length : Int) := by omega
      have hO := Ob.new wr x
      generalize runS (l.take k) = S at *
      have hS2 : (S.2 : Int) < 2000 := by omega
      have hS0 : (0 : Int) ≤ (S.2 : Int) := by omega
      have hmeas : l.length - (k + 1) < l.length - k := by omega
      have HME := Lib.hid hmeas
      clear hx hM hcap hgl h64 hf hlk hrun hlt hk hmeas
      by_cases hk1 : x.k = 1
      · have hb1 : (x.k != 1) = false := by simp [hk1]
        by_cases hok : okAdd S.1 x
        · have hadd := add_yes HM.out HF.out.1 (by have := HF.out.2; have := HLEN.out; omega) (by have := HCAP.out; have := HLEN.out; omega) H64.out hok
          have HADD := Lib.hid hadd
          have hdo : runS (l.take (k + 1)) = (S.1 ++ [newT S.2 x], S.2 + 1) := by rw [HRUN.out]; unfold doOp; rw [if_pos hk1, if_pos hok]
          have HDO := Lib.hid hdo
          clear hadd hk1 hok hdo
          go_wp2_with (go_at_call 12; (with_reducible refine HADD.out.mono ?_); rintro e w3 ⟨rfl, A3, h, hs⟩; have M3 := Lib.hid h; clear h hs)
          refine ⟨⟨k + 1, ?_, by simp, HLT.out, Lib.hid ⟨A3, cap + 4, by rw [HDO.out]; exact M3.out, by have := HCAP.out; omega⟩⟩, ?_⟩
          · rw [HDO.out]
            congr 1
            show max (S.2 : Int) ((S.2 : Int) + 1) = ((S.2 + 1 : Nat) : Int)
            omega
          · have e1 : (intOf (Value.int IntKind.i64 ((k : Int) + 1))).toNat = k + 1 := by show ((k : Int) + 1).toNat = k + 1; omega
            have e2 : (intOf (Value.int IntKind.i64 (k : Int))).toNat = k := by show ((k : Int)).toNat = k; omega
            rw [e1, e2]
            exact HME.out
        · have hadd := add_no HM.out HF.out.1 H64.out hok
          have HADD := Lib.hid hadd
          have hdo : runS (l.take (k + 1)) = S := by rw [HRUN.out]; unfold doOp; rw [if_pos hk1, if_neg hok]
          have HDO := Lib.hid hdo
          clear hadd hk1 hok hdo
          go_wp2_with (go_at_call 12; (with_reducible refine HADD.out.mono ?_); rintro e w3 ⟨⟨er, rfl, her⟩, h, ho⟩; have M3 := Lib.hid h; have hne : (er == 0) = false := (by rcases her with rfl | rfl <;> rfl); clear h ho her)
          refine ⟨⟨k + 1, ?_, by simp, HLT.out, Lib.hid ⟨A, cap, by rw [HDO.out]; exact M3.out, by have := HCAP.out; omega⟩⟩, ?_⟩
          · rw [HDO.out]
          · have e1 : (intOf (Value.int IntKind.i64 ((k : Int) + 1))).toNat = k + 1 := by show ((k : Int) + 1).toNat = k + 1; omega
            have e2 : (intOf (Value.int IntKind.i64 (k : Int))).toNat = k := by show ((k : Int)).toNat = k; omega
            rw [e1, e2]
            exact HME.out
      · have hb1 : (x.k != 1) = true := by simp [hk1]
        have hrem := remove_all HM.out HF.out.1 (by have := HF.out.2; have := HLEN.out; omega) (by have := HF.out.2; have := HLEN.out; omega) (by have := HCAP.out; have := HLEN.out; omega) H64.out.a
        have HREM := Lib.hid hrem
        have hdo : runS (l.take (k + 1)) = (remL x.a S.1, S.2) := by rw [HRUN.out]; unfold doOp; rw [if_neg hk1]
        have HDO := Lib.hid hdo
        clear hrem hk1 hdo
        go_wp2_with (go_at_call 10; (with_reducible refine HREM.out.mono ?_); rintro e w3 ⟨v3, rfl, hr, A3, h, hs⟩; obtain ⟨oa3, cp3, rfl⟩ := own_shape hr; have M3 := Lib.hid h; clear h hs hr)
        refine ⟨⟨k + 1, ?_, by simp, HLT.out, Lib.hid ⟨A3, cap, by rw [HDO.out]; exact M3.out, by have := HCAP.out; omega⟩⟩, ?_⟩
        · rw [HDO.out]
        · have e1 : (intOf (Value.int IntKind.i64 ((k : Int) + 1))).toNat = k + 1 := by show ((k : Int) + 1).toNat = k + 1; omega
          have e2 : (intOf (Value.int IntKind.i64 (k : Int))).toNat = k := by show ((k : Int)).toNat = k; omega
          rw [e1, e2]
          exact HME.out
    · have hge : (l.length : Int) ≤ (k : Int) := by omega
      obtain rfl : k = l.length := by omega
      clear hlt hk
      obtain ⟨A, cap, hM, hcap⟩ := HB.out.my
      rw [List.take_length] at hM ⊢
      have HM := Lib.hid hM
      have HCAP := Lib.hid hcap
      clear hM hcap
      go_wp2
      go_ret2
      exact ⟨b, A, cap, rfl, HM.out, HCAP.out⟩
end Go.Proofs.Ytfgdgnkihiokoaa
