/- The laws: in. -/
import Derived.Test.YtfgdgnkihiokoaaCB
namespace Go.Proofs.Ytfgdgnkihiokoaa
open Go.ChangeShapes Go.WideShapes Go.ChangeAt Go.RowKit Go.Lib
set_option linter.unusedVariables false
set_option linter.unusedSimpArgs false
set_option maxRecDepth 100000
set_option maxHeartbeats 1000000

/-- How often a number stands in a list. -/
def cnt (l : List Int) (n : Int) : Nat := l.countP fun x => decide (x = n)
theorem cnt_snoc (l : List Int) (x n : Int) : cnt (l ++ [x]) n = cnt l n + if x = n then 1 else 0 := by
  unfold cnt
  rw [List.countP_append]
  by_cases h : x = n <;> simp [h]
theorem cnt_le (l : List Int) (n : Int) : cnt l n ≤ l.length := List.countP_le_length
theorem cnt_one {l : List Int} (hu : l.Pairwise (· < ·)) {n : Int} (hn : n ∈ l) : cnt l n = 1 := by
  unfold cnt
  induction l with
  | nil => simp at hn
  | cons a l ih =>
    obtain ⟨h1, h2⟩ := List.pairwise_cons.1 hu
    rw [List.countP_cons]
    rcases List.mem_cons.1 hn with rfl | hn
    · have : l.countP (fun x => decide (x = n)) = 0 := by
        rw [List.countP_eq_zero]
        intro x hx
        have := h1 x hx
        simp; omega
      simp [this]
    · have := h1 n hn
      rw [ih h2 hn]
      have : ¬ a = n := by omega
      simp [this]
theorem in_any {w : World} {v : Value} {l : List Int} (hl : IR w v l) (hu : l.Pairwise (· < ·)) (hlen : l.length < 1000000) (n : Int) :
    Calls Try.prog 19 #[v, .int .i64 n] w fun e w' => e = .returned (.int .i64 (cnt l n : Int)) ∧ Old w w' := by
  have HI := Lib.hid hl
  have HU := Lib.hid hu
  have HLEN := Lib.hid hlen
  obtain ⟨oa, cp, rfl, hc⟩ := hl
  have HC := Lib.hid hc
  have hli : (l.length : Int) < 2000000 := by omega
  clear hc hu hlen
  go_enter Try.func19, Try.ntmps19
  go_wp2
  go_loopw [5, 9] (fun s5 s9 wr => ∃ k : Nat, s5 = .int .i64 (cnt (l.take k) n : Int) ∧ s9 = .int .i64 (k : Int) ∧ k ≤ l.length ∧ Hid (Old w wr)) (fun s5 s9 wr => l.length - (intOf s9).toNat)
  case atStart => exact ⟨0, rfl, rfl, Nat.zero_le _, Lib.hid (Old.refl w)⟩
  case round =>
    obtain ⟨k, rfl, rfl, hk, HO⟩ := hrel
    by_cases hlt : k < l.length
    · obtain ⟨x, hx⟩ : ∃ x, l[k]? = some x := ⟨l[k], List.getElem?_eq_getElem hlt⟩
      obtain ⟨g, o, rfl, hg, cx⟩ := HC.out k x hx
      have dx := (HO.out.cell (p := ⟨g, o + k, none⟩) hg).trans cx
      have h0k : (0 : Int) ≤ (k : Int) := by omega
      have hlti : (k : Int) < (l.length : Int) := by omega
      have hsn : cnt (l.take (k + 1)) n = cnt (l.take k) n + if x = n then 1 else 0 := by rw [take_snoc hx, cnt_snoc]
      have hcl : cnt (l.take k) n ≤ l.length := Nat.le_trans (cnt_le _ _) (by rw [List.length_take]; omega)
      have HSN := Lib.hid hsn
      have HLT := Lib.hid hlt
      have HME := Lib.hid (show l.length - (k + 1) < l.length - k by omega)
      have hpre : k = 0 ∨ ∃ y j, k = j + 1 ∧ l[j]? = some y ∧ y < x := by
        rcases k with _ | j
        · exact Or.inl rfl
        · have hj : j < l.length := by omega
          refine Or.inr ⟨l[j], j, rfl, List.getElem?_eq_getElem hj, ?_⟩
          obtain ⟨h1, h2⟩ := List.getElem?_eq_some_iff.1 hx
          have := List.pairwise_iff_getElem.1 HU.out j (j + 1) hj h1 (by omega)
          rw [h2] at this
          exact this
      generalize cnt (l.take k) n = C at *
      have hci : (C : Int) < 2000000 := by omega
      have hc0 : (0 : Int) ≤ (C : Int) := by omega
      clear hx hg cx hlt hk hsn hcl
      rcases hpre with hk0 | ⟨y, j, rfl, hy, hyx⟩
      · have hle0 : decide ((0 : Int) < (k : Int)) = false := by simp; omega
        have hle1 : decide (0 < k) = false := by simp; omega
        have HK0 := Lib.hid hk0
        clear hk0 h0k
        go_upto_region 5 with fail
        go_quiet (fail)
        have h0k : (0 : Int) ≤ (k : Int) := by omega
        clear hle0 hle1
        by_cases hxn : x = n
        · have hb : (x == n) = true := by simp [hxn]
          have hb2 : cnt (l.take (k + 1)) n = C + 1 := by rw [HSN.out, if_pos hxn]
          have HB2 := Lib.hid hb2
          clear hxn hb2
          go_wp2
          refine ⟨⟨k + 1, by rw [HB2.out]; simp, by simp, HLT.out, Lib.hid (HO.out.drewN _)⟩, ?_⟩
          have e1 : (intOf (Value.int IntKind.i64 ((k : Int) + 1))).toNat = k + 1 := by show ((k : Int) + 1 : Int).toNat = k + 1; omega
          have e2 : (intOf (Value.int IntKind.i64 ((k : Int)))).toNat = k := by show ((k : Int) : Int).toNat = k; omega
          rw [e1, e2]
          exact HME.out
        · have hb : (x == n) = false := by simp [hxn]
          have hb2 : cnt (l.take (k + 1)) n = C := by rw [HSN.out, if_neg hxn]; rfl
          have HB2 := Lib.hid hb2
          clear hxn hb2
          go_wp2
          refine ⟨⟨k + 1, by rw [HB2.out], by simp, HLT.out, Lib.hid (HO.out.drewN _)⟩, ?_⟩
          have e1 : (intOf (Value.int IntKind.i64 ((k : Int) + 1))).toNat = k + 1 := by show ((k : Int) + 1 : Int).toNat = k + 1; omega
          have e2 : (intOf (Value.int IntKind.i64 ((k : Int)))).toNat = k := by show ((k : Int) : Int).toNat = k; omega
          rw [e1, e2]
          exact HME.out
      · obtain ⟨g', o', e', hg', cy⟩ := HC.out j y hy
        simp only [Option.some.injEq, Addr.mk.injEq, and_true] at e'
        obtain ⟨rfl, rfl⟩ := e'
        have dy := (HO.out.cell (p := ⟨g, o + j, none⟩) hg').trans cy
        have hle : decide (x ≤ y) = false := by simpa using hyx
        have hj0 : (0 : Int) ≤ (j : Int) := by omega
        have hj1 : (j : Int) + 1 < (l.length : Int) := by omega
        clear hy hg' cy h0k hlti
        go_upto_region 5 with fail
        go_quiet (fail)
        by_cases hxn : x = n
        · have hb : (x == n) = true := by simp [hxn]
          have hb2 : cnt (l.take (j + 1 + 1)) n = C + 1 := by rw [HSN.out, if_pos hxn]
          have HB2 := Lib.hid hb2
          clear hxn hb2
          go_wp2
          refine ⟨⟨j + 1 + 1, by rw [HB2.out]; simp, by simp, HLT.out, Lib.hid (HO.out.drewN _)⟩, ?_⟩
          have e1 : (intOf (Value.int IntKind.i64 ((j : Int) + 1 + 1))).toNat = j + 1 + 1 := by show ((j : Int) + 1 + 1 : Int).toNat = j + 1 + 1; omega
          have e2 : (intOf (Value.int IntKind.i64 (((j + 1 : Nat) : Int)))).toNat = j + 1 := by show (((j + 1 : Nat) : Int) : Int).toNat = j + 1; omega
          rw [e1, e2]
          exact HME.out
        · have hb : (x == n) = false := by simp [hxn]
          have hb2 : cnt (l.take (j + 1 + 1)) n = C := by rw [HSN.out, if_neg hxn]; rfl
          have HB2 := Lib.hid hb2
          clear hxn hb2
          go_wp2
          refine ⟨⟨j + 1 + 1, by rw [HB2.out], by simp, HLT.out, Lib.hid (HO.out.drewN _)⟩, ?_⟩
          have e1 : (intOf (Value.int IntKind.i64 ((j : Int) + 1 + 1))).toNat = j + 1 + 1 := by show ((j : Int) + 1 + 1 : Int).toNat = j + 1 + 1; omega
          have e2 : (intOf (Value.int IntKind.i64 (((j + 1 : Nat) : Int)))).toNat = j + 1 := by show (((j + 1 : Nat) : Int) : Int).toNat = j + 1; omega
          rw [e1, e2]
          exact HME.out
    · have hge : (l.length : Int) ≤ (k : Int) := by omega
      obtain rfl : k = l.length := by omega
      clear hlt hk hli
      rw [List.take_length]
      go_wp2
      go_ret
      exact ⟨rfl, HO.out⟩
end Go.Proofs.Ytfgdgnkihiokoaa
