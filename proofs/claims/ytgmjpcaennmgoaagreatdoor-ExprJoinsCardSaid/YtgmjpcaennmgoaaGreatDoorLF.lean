/- Layer vtext: digits. -/
import Derived.Test.YtgmjpcaennmgoaaGreatDoorLA
import Derived.Test.YtgmjpcaennmgoaaGreatDoorVN
import Derived.Lib.ParseIntB
namespace Go.Proofs.YtgmjpcaennmgoaaGreatDoor
open Go.ChangeShapes Go.WideShapes Go.ChangeAt Go.RowKit
set_option linter.unusedVariables false
set_option linter.unusedSimpArgs false
set_option maxRecDepth 100000

/-- Is a byte a digit? -/
def dg8 (c : UInt8) : Bool := decide (48 ≤ c.toNat ∧ c.toNat ≤ 57)
def digsL (l : List UInt8) : Bool := !l.isEmpty && l.all dg8
def wholeL (l : List UInt8) : Bool := digsL l && (l.length == 1 || l.head? != some 48)

theorem digit_any (b : Int) (w : World) : Calls Tryz.prog 131 #[.int .u8 b] w fun e w' => e = .returned (.bool (decide (48 ≤ b ∧ b ≤ 57))) ∧ w = w' := by
  by_cases h1 : 48 ≤ b
  · by_cases h2 : b ≤ 57
    · rw [decide_eq_true ⟨h1, h2⟩]
      go_enter Tryz.func131, Tryz.ntmps131
      go_wp2
      go_ret
      exact ⟨by simp [h1, h2], rfl⟩
    · rw [decide_eq_false (fun h => h2 h.2)]
      go_enter Tryz.func131, Tryz.ntmps131
      go_wp2
      go_ret
      exact ⟨by simp [h1, h2], rfl⟩
  · rw [decide_eq_false (fun h => h1 h.1)]
    go_enter Tryz.func131, Tryz.ntmps131
    go_wp2
    go_ret
    exact ⟨by simp [h1], rfl⟩

theorem list_bt {s : ByteArray} {k : Nat} (h : k < s.size) : bt s k = ((s.data.toList[k]'(by simpa using h)).toNat : Int) := by
  unfold bt
  rw [List.getD_eq_getElem?_getD, List.getElem?_eq_getElem (by simpa using h)]
  rfl
theorem all_more {s : ByteArray} {k : Nat} (h : k < s.size) (p : UInt8 → Bool) : (s.data.toList.take (k + 1)).all p = ((s.data.toList.take k).all p && p (s.data.toList[k]'(by simpa using h))) := by
  rw [List.take_succ_eq_append_getElem (by simpa using h), List.all_append]
  simp

set_option maxHeartbeats 800000 in
theorem digits_any (s : ByteArray) (w : World) (hs : s.size ≤ 1000) : Calls Tryz.prog 144 #[.string s] w fun e w' => e = .returned (.bool (digsL s.data.toList)) ∧ Old w w' := by
  obtain ⟨cap, W1, hc, ho, hj⟩ := conv_cells w s
  have HA := Lib.hid hj
  have HO := Lib.hid ho
  clear hj ho
  obtain ⟨n, hn⟩ : ∃ n, n = s.size := ⟨_, rfl⟩
  rw [← hn] at hc hs
  have HN := Lib.hid hn
  have hl : (s.data.toList).length = n := by rw [hn]; simp
  have HL := Lib.hid hl
  clear hl
  go_enter Tryz.func144, Tryz.ntmps144
  have hn' := hn.symm
  clear hn
  go_wp2
  go_loopw [8] (fun i wr => ∃ k : Nat, k ≤ n ∧ i = .int .i64 (k : Int) ∧ Hid ((s.data.toList.take k).all dg8 = true) ∧ wr = W1) (fun i _ => (n - intOf i).toNat)
  case atStart => exact ⟨0, Nat.zero_le _, rfl, Lib.hid rfl, rfl⟩
  case round =>
    obtain ⟨k, hk, rfl, HE, rfl⟩ := hrel
    by_cases hkn : k < n
    · have hks : k < s.size := by rw [← HN.out]; exact hkn
      have d0 := HA.out k hks
      have hb0 := list_bt hks
      have hm := all_more hks dg8
      obtain ⟨u, hu⟩ : ∃ u, u = s.data.toList[k]'(by simpa using hks) := ⟨_, rfl⟩
      rw [← hu] at hb0 hm
      have hmem : u ∈ s.data.toList := by rw [hu]; exact List.getElem_mem _
      obtain ⟨b, hb⟩ : ∃ b, b = bt s k := ⟨_, rfl⟩
      rw [← hb] at d0 hb0
      have HX := Lib.hid hb0
      have HM := Lib.hid hm
      have HU := Lib.hid hmem
      have hd := fun W => digit_any b W
      clear hb hb0 hm hu hks hmem
      by_cases h : 48 ≤ b ∧ b ≤ 57
      · rw [decide_eq_true h] at hd
        have HH := Lib.hid h
        clear h
        go_wp2_with (first
          | (go_at_call 131; (with_reducible refine (hd _).mono ?_); rintro e w1 ⟨rfl, rfl⟩))
        refine ⟨⟨k + 1, hkn, rfl, Lib.hid ?_, by trivial⟩, by simp only [intOf]; omega⟩
        rw [HM.out, HE.out]
        unfold dg8
        have := HX.out
        have := HH.out
        simp
        omega
      · rw [decide_eq_false h] at hd
        have HH := Lib.hid h
        clear h
        go_wp2_with (first
          | (go_at_call 131; (with_reducible refine (hd _).mono ?_); rintro e w1 ⟨rfl, rfl⟩))
        go_ret
        refine ⟨rb _ _ ?_, HO.out⟩
        symm
        unfold digsL
        rw [Bool.and_eq_false_iff]
        right
        rw [List.all_eq_false]
        refine ⟨u, HU.out, ?_⟩
        have := HX.out
        have := HH.out
        unfold dg8
        simp
        omega
    · have hkn' : k = n := by omega
      subst hkn'
      have hT : s.data.toList.take k = s.data.toList := List.take_of_length_le (by rw [HL.out]; exact Nat.le_refl _)
      have HE' := HE.out
      rw [hT] at HE'
      have HE2 := Lib.hid HE'
      clear hT HE' HE
      by_cases h0 : s.toList = []
      · have h0' : (!s.toList.isEmpty) = false := by rw [h0]; rfl
        have h0'' : s.data.toList = [] := by rw [← ByteArray.toList_eq]; exact h0
        have HZ := Lib.hid h0''
        clear h0''
        go_wp2
        go_ret
        refine ⟨rb _ _ ?_, HO.out⟩
        unfold digsL
        rw [HZ.out]
        rfl
      · have h0' : (!s.toList.isEmpty) = true := by simpa using h0
        have h0'' : ¬ s.data.toList = [] := by rw [← ByteArray.toList_eq]; exact h0
        have HZ := Lib.hid h0''
        clear h0''
        go_wp2
        go_ret
        refine ⟨rb _ _ ?_, HO.out⟩
        unfold digsL
        rw [HE2.out]
        rw [Bool.and_true]
        cases he : s.data.toList with
        | nil => exact absurd he HZ.out
        | cons x l => rfl

set_option maxHeartbeats 800000 in
theorem whole_any (s : ByteArray) (w : World) (hs : s.size ≤ 1000) : Calls Tryz.prog 142 #[.string s] w fun e w' => e = .returned (.bool (wholeL s.data.toList)) ∧ Old w w' := by
  have hd := fun W => digits_any s W hs
  cases h : digsL s.data.toList
  · rw [h] at hd
    have H := Lib.hid h
    clear h
    go_enter Tryz.func142, Tryz.ntmps142
    go_wp2_with (go_at_call 144; (with_reducible refine (hd _).mono ?_); rintro e w1 ⟨rfl, o1⟩)
    go_ret
    exact ⟨rb _ _ (by unfold wholeL; rw [H.out]; rfl), o1⟩
  · rw [h] at hd
    have hpos : 0 < s.size := by
      rcases Nat.eq_zero_or_pos s.size with e | e
      · have : s.data.toList = [] := by
          apply List.eq_nil_of_length_eq_zero
          simpa using e
        rw [this] at h
        cases h
      · exact e
    obtain ⟨c, l, hcl⟩ : ∃ c l, s.data.toList = c :: l := by
      cases e : s.data.toList with
      | nil => rw [e] at h; cases h
      | cons c l => exact ⟨c, l, rfl⟩
    have hi := list_bt hpos
    have hsz : s.size = l.length + 1 := by
      have : s.data.toList.length = s.size := by simp
      rw [← this, hcl]; rfl
    have hx : (s.data.toList[0]'(by rw [hcl]; simp)) = c := by simp [hcl]
    have hg : (s[0]'hpos) = c := by
      have : (s[0]'hpos) = s.data.toList[0]'(by rw [hcl]; simp) := by
        rw [Array.getElem_toList]; rfl
      rw [this]; exact hx
    have HG := Lib.hid hg
    clear hg
    have H := Lib.hid h
    have HC := Lib.hid hcl
    clear h
    by_cases h1 : l.length = 0
    · have e1 : ((s.size : Int) == 1) = true := by rw [hsz, h1]; rfl
      clear hi hx hsz hcl
      go_enter Tryz.func142, Tryz.ntmps142
      go_wp2_with (go_at_call 144; (with_reducible refine (hd _).mono ?_); rintro e w1 ⟨rfl, o1⟩)
      go_ret
      refine ⟨rb _ _ ?_, o1⟩
      unfold wholeL
      rw [H.out, HC.out]
      simp [h1]
    · have e1 : ((s.size : Int) == 1) = false := by rw [hsz]; simp; omega
      clear hx hsz hcl
      go_enter Tryz.func142, Tryz.ntmps142
      go_wp2_with (go_at_call 144; (with_reducible refine (hd _).mono ?_); rintro e w1 ⟨rfl, o1⟩)
      go_ret
      refine ⟨rb _ _ ?_, o1⟩
      rw [HG.out]
      unfold wholeL
      rw [H.out, HC.out]
      have e2 : (l.length + 1 == 1) = false := by
        rw [beq_eq_false_iff_ne]; omega
      rw [List.length_cons, e2, Bool.true_and, Bool.false_or, List.head?_cons]
      rw [Bool.eq_iff_iff]
      simp only [bne_iff_ne, ne_eq, Option.some.injEq]
      constructor
      · intro h e
        exact h (by rw [e]; rfl)
      · intro h e
        have e' : (c.toNat : Int) = 48 := e
        exact h (UInt8.toNat_inj.1 (by show c.toNat = 48; omega))
end Go.Proofs.YtgmjpcaennmgoaaGreatDoor
