/- Layer lexer: how far a word goes, asked of any closure. -/
import Derived.Test.YtgmjpcaennmgoaaGreatDoorTB
import Derived.RangeFuncNested
import Derived.RangeFuncCalls
import Derived.RangeFuncLeaves
namespace Go.Proofs.YtgmjpcaennmgoaaGreatDoor
open Go.ChangeShapes Go.WideShapes Go.ChangeAt Go.RowKit Go.Lib
set_option linter.unusedVariables false
set_option linter.unusedSimpArgs false
set_option maxRecDepth 100000

/-- Behind a step: the next state, or as it was. -/
def After {σ : Type} (C : Nat → σ → World → Prop) (i : Nat) (a : σ) (o : Option σ) (W : World) : Prop :=
  match o with
  | some a' => C (i + 1) a' W
  | none => C i a W
/-- What a closure answers, byte by byte: it goes by a step. -/
def Asks {σ : Type} (cf : Nat) (cb : Array Value) (s : ByteArray) (step : σ → List UInt8 → Option σ) (C : Nat → σ → World → Prop) : Prop :=
  ∀ (i : Nat) (a : σ) (A : World) (c : UInt8) (r : List UInt8), C i a A → s.data.toList.drop i = c :: r → i < s.size →
    Calls Tryz.prog cf (#[.int .i64 (i : Int)] ++ cb) A fun e A' => e = .returned (.bool (step a (c :: r)).isSome) ∧ After C i a (step a (c :: r)) A'

theorem reach_any {σ : Type} (cf : Nat) (cb : Array Value) (s : ByteArray) (step : σ → List UInt8 → Option σ) (C : Nat → σ → World → Prop) (b j : Nat) (L B : Int) (a : σ)
    (hen : ∀ args W, (callFunc cf args).run Tryz.prog W = .ok (.enter cf args) W) (hs : s.size ≤ 1000000) (hj : j < s.size) (hR : ∀ i a A, C i a A → Rdr A b s (j : Int) L B) (hask : Asks cf cb s step C) (w : World) (h0 : C (j + 1) a w) :
    Calls Tryz.prog 57 #[.pointer (some ⟨b, 0, none⟩), .func (.func cf) #[] cb] w fun e w' => e = .returned (.int .i64 ((j + 1 + goL step a (s.data.toList.drop (j + 1)) : Nat) : Int)) ∧ ∃ i a', C i a' w' := by
  obtain ⟨n, hn⟩ : ∃ n, n = j + 1 + goL step a (s.data.toList.drop (j + 1)) := ⟨_, rfl⟩
  have hnl : n ≤ s.size := by
    have := goL_le step a (s.data.toList.drop (j + 1))
    rw [List.length_drop, Array.length_toList] at this
    have hz : s.data.size = s.size := rfl
    omega
  rw [← hn]
  have hjn : j + 1 ≤ n := by omega
  have HA := Lib.hid hask
  have HR := Lib.hid hR
  have HC := Lib.hid h0
  have HN := Lib.hid hn
  have c0 := (hR _ _ _ h0).c0
  have c1 := (hR _ _ _ h0).c1
  have f1 := (hR _ _ _ h0).f 1
  clear hask hR h0 hn
  go_enter Tryz.func57, Tryz.ntmps57
  go_wp2
  go_loopw [5] (fun i wr => ∃ (k : Nat) (a' : σ), i = .int .i64 (k : Int) ∧ k ≤ n ∧ Hid (n = k + goL step a' (s.data.toList.drop k)) ∧ Hid (C k a' wr)) (fun i _ => (n - RowKit.intOf i).toNat)
  case atStart => exact ⟨j + 1, a, by simp, hjn, HN, HC⟩
  case round =>
    clear HC HN c0 c1 f1 a
    obtain ⟨k, a, rfl, hk, HN, HC⟩ := hrel
    have c0 := (HR.out _ _ _ HC.out).c0
    have f0 := (HR.out _ _ _ HC.out).f 0
    rcases Nat.lt_or_ge k s.size with hks | hks
    · have hd : s.data.toList.drop k = s.data.toList[k]'(by rw [Array.length_toList]; exact hks) :: s.data.toList.drop (k + 1) := List.drop_eq_getElem_cons _
      obtain ⟨c, hc⟩ : ∃ c, c = s.data.toList[k]'(by rw [Array.length_toList]; exact hks) := ⟨_, rfl⟩
      rw [← hc] at hd
      have h1 := HA.out k a wr c _ HC.out hd hks
      have HD := Lib.hid hd
      cases hst : step a (c :: s.data.toList.drop (k + 1)) with
      | none =>
        rw [hst] at h1
        have HS := Lib.hid hst
        simp only [Option.isSome_none] at h1
        clear hd hst hc
        go_wp2_with (first
          | ((with_reducible refine h1.mono ?_); rintro e w' ⟨rfl, hC⟩; unfold After at hC; replace HC := Lib.hid hC))
        go_ret
        have hn := HN.out
        rw [HD.out, goL_stop HS.out, Nat.add_zero] at hn
        exact ⟨by rw [hn]; rfl, k, a, HC.out⟩
      | some a' =>
        rw [hst] at h1
        have HS := Lib.hid hst
        simp only [Option.isSome_some] at h1
        clear hd hst hc
        go_wp2_with (first
          | ((with_reducible refine h1.mono ?_); rintro e w' ⟨rfl, hC⟩; unfold After at hC; replace HC := Lib.hid hC))
        have hn := HN.out
        rw [HD.out, goL_go HS.out] at hn
        exact ⟨⟨k + 1, a', by simp, by omega, Lib.hid (by omega), HC⟩, by simp only [RowKit.intOf]; omega⟩
    · go_wp2
      go_ret
      have hn := HN.out
      rw [List.drop_eq_nil_of_le (by rw [Array.length_toList]; exact hks), goL_nil, Nat.add_zero] at hn
      exact ⟨by rw [hn]; rfl, k, a, HC.out⟩
end Go.Proofs.YtgmjpcaennmgoaaGreatDoor
