/- A rotation: the library's function. -/
import Derived.Test.YtdcfaniimhjghaaSA
namespace Go.Proofs.Ytdcfaniimhjghaa
open Go.Proofs Go.Shelf Go.RowKit Go.Lib Go.Sort
set_option linter.unusedVariables false
set_option linter.unusedSimpArgs false
variable {α : Type} [Inhabited α]

set_option maxHeartbeats 4000000 in
set_option maxRecDepth 1000000 in
theorem rotate_any (k : Nat) (aE : ∀ w, (isAgg 48).run Try.prog w = .ok true w) (zE : ∀ w, (Go.sizeOf 48).run Try.prog w = .ok k w) (enc : α → List Value) (g : Nat) (cb : Array Value) (blk off cap a m b : Nat) (d0 d : Array α) (w0 w : World)
    (R : RowK enc k w0 blk off d0) (hs : d0.size = d.size) (S : SWK enc k w0 blk off d w) (ham : a < m) (hmb : m < b) (hb : b ≤ d.size) (hsz : d.size < 2305843009213693952) :
    Calls Try.prog 58 #[.slice (some ⟨blk, off, none⟩) d.size cap, .int .i64 a, .int .i64 m, .int .i64 b, .func (.func g) #[] cb] w fun e w' => e = .returned (.tuple #[]) ∧ ∃ d', SWK enc k w0 blk off d' w' ∧ Rot d a m b d' ∧ PermIn a b d d' := by
  have mixed := Try.laysIns.mixed
  have S0 : Aside (SWK enc k w0 blk off d w) := S
  clear S
  go_enter Try.func58, Try.ntmps58
  go_wp2
  go_loopg [10, 11] (m - a + (b - m)) (fun kx s10 s11 wr => ∃ (i j : Nat) (dk : Array α), s10 = .int .i64 i ∧ s11 = .int .i64 j ∧ 0 < i ∧ 0 < j ∧ a + i ≤ m ∧ m + j ≤ b ∧ i + j ≤ kx ∧ dk.size = d.size ∧ Aside (SWK enc k w0 blk off dk wr) ∧ Hid ((∀ d', Rot dk (m - i) m (m + j) d' → Rot d a m b d') ∧ PermIn a b d dk))
  case atStart => exact ⟨m - a, b - m, d, by go_num, by go_num, by omega, by omega, by omega, by omega, Nat.le_refl _, rfl, S0, Lib.hid ⟨fun d' h => by rw [show m - (m - a) = a by omega, show m + (b - m) = b by omega] at h; exact h, permIn_refl _ _ _⟩⟩
  case round =>
    clear S0
    obtain ⟨i, j, dk, rfl, rfl, hi, hj, hai, hjb, hkx, hds, S1, HX⟩ := hrel
    have rmi : (m : Int) - (i : Int) = ((m - i : Nat) : Int) := by omega
    by_cases heq : i = j
    · subst heq
      have hez : ((i : Int) != (i : Int)) = false := by simp
      have hc := swapRange_any k aE zE enc g cb blk off cap (m - i) m i d0 dk w0 wr R (by omega) S1.out (by omega) (by omega) (by omega)
      rw [hds] at hc
      go_wp2_with (first | (go_at_call 60; (with_reducible refine hc.mono ?_); rintro e w2 ⟨rfl, d2, S2, X2, P2⟩))
      go_end0
      refine ⟨rfl, d2, S2, HX.out.1 _ (Rot.ofXch (by omega) X2), permIn_trans _ _ _ _ _ HX.out.2 (permIn_mono _ _ _ _ _ _ (by omega) (by omega) (by omega) P2)⟩
    · have hez : ((i : Int) != (j : Int)) = true := by simpa using fun h => heq (by omega)
      by_cases hgt : j < i
      · have hgz : (j : Int) < (i : Int) := by omega
        have hc := swapRange_any k aE zE enc g cb blk off cap (m - i) m j d0 dk w0 wr R (by omega) S1.out (by omega) (by omega) (by omega)
        rw [hds] at hc
        clear S1
        go_wp2_with (first | (go_at_call 60; (with_reducible refine hc.mono ?_); rintro e w2 ⟨rfl, d2, S2, X2, P2⟩))
        go_roundg (i - j + j)
        case measure => omega
        case rel =>
          exact ⟨i - j, j, d2, by go_num, rfl, by omega, hj, by omega, hjb, Nat.le_refl _, X2.1.trans hds, S2, Lib.hid ⟨fun d' h => HX.out.1 _ (Rot.left (by omega) hgt (by omega) X2 h), permIn_trans _ _ _ _ _ HX.out.2 (permIn_mono _ _ _ _ _ _ (by omega) (by omega) (by omega) P2)⟩⟩
      · have hgz : ¬ (j : Int) < (i : Int) := by omega
        have rmj : (m : Int) + (j : Int) - (i : Int) = ((m + j - i : Nat) : Int) := by omega
        have hc := swapRange_any k aE zE enc g cb blk off cap (m - i) (m + j - i) i d0 dk w0 wr R (by omega) S1.out (by omega) (by omega) (by omega)
        rw [hds] at hc
        clear S1
        go_wp2_with (first | (go_at_call 60; (with_reducible refine hc.mono ?_); rintro e w2 ⟨rfl, d2, S2, X2, P2⟩))
        go_roundg (i + (j - i))
        case measure => omega
        case rel =>
          exact ⟨i, j - i, d2, rfl, by go_num, hi, by omega, hai, by omega, Nat.le_refl _, X2.1.trans hds, S2, Lib.hid ⟨fun d' h => HX.out.1 _ (Rot.right (by omega) (by omega) (by omega) X2 h), permIn_trans _ _ _ _ _ HX.out.2 (permIn_mono _ _ _ _ _ _ (by omega) (by omega) (by omega) P2)⟩⟩
end Go.Proofs.Ytdcfaniimhjghaa
