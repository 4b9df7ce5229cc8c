/- The stable sort of structs: the library's functions. -/
import Derived.Test.YtdcfaniimhjghaaSE
import Derived.Test.YtdcfaniimhjghaaPN
import Derived.Shelf.SlSortCmp.PdqK
namespace Go.Proofs.Ytdcfaniimhjghaa
open Go.Proofs Go.Shelf Go.RowKit Go.Lib Go.Sort
set_option linter.unusedVariables false
set_option linter.unusedSimpArgs false
variable {α : Type} [Inhabited α]

theorem insert_any (k : Nat) (aE : ∀ w, (isAgg 48).run Try.prog w = .ok true w) (zE : ∀ w, (Go.sizeOf 48).run Try.prog w = .ok k w) (enc : α → List Value) (cf : α → α → Int) (g : Nat) (cb : Array Value) (hO : SWO (ltOf cf)) (blk off cap : Nat) (d0 : Array α) (w0 : World)
    (eg : ∀ args w, (callFunc g args).run Try.prog w = .ok (.enter g args) w) (hcmp : CmpLays Try.prog g cb enc k cf blk off d0.size w0)
    (R : RowK enc k w0 blk off d0) (hsz : d0.size < 2305843009213693952) (a b : Nat) (d : Array α) (w : World) (hs : d0.size = d.size) (S : SWK enc k w0 blk off d w) (hab : a ≤ b) (hb : b ≤ d.size) :
    Calls Try.prog 51 #[.slice (some ⟨blk, off, none⟩) d.size cap, .int .i64 a, .int .i64 b, .func (.func g) #[] cb] w fun e w' => e = .returned (.tuple #[]) ∧ ∃ d', SWK enc k w0 blk off d' w' ∧ Mg (ltOf cf) a b d d' := by
  have hc := AnyQ.insertionSortCmpFunc_w Try.laysIns k aE zE enc cf g cb blk off cap a b d0 d w0 w eg hcmp R hs S hO hab hb (by omega)
  change Calls Try.prog 51 _ _ _ at hc
  refine hc.mono ?_
  rintro e w' ⟨rfl, h⟩
  exact ⟨rfl, _, h, insertionSort_holds hO d a b hab hb⟩

set_option maxHeartbeats 8000000 in
set_option maxRecDepth 1000000 in
theorem stable_any (k : Nat) (aE : ∀ w, (isAgg 48).run Try.prog w = .ok true w) (zE : ∀ w, (Go.sizeOf 48).run Try.prog w = .ok k w) (enc : α → List Value) (cf : α → α → Int) (g : Nat) (cb : Array Value) (hO : SWO (ltOf cf)) (blk off cap : Nat) (d0 : Array α) (w0 : World)
    (eg : ∀ args w, (callFunc g args).run Try.prog w = .ok (.enter g args) w) (hcmp : CmpLays Try.prog g cb enc k cf blk off d0.size w0)
    (R : RowK enc k w0 blk off d0) (hsz : d0.size < 1000000000) :
    Calls Try.prog 40 #[.slice (some ⟨blk, off, none⟩) d0.size cap, .int .i64 d0.size, .func (.func g) #[] cb] w0 fun e w' => e = .returned (.tuple #[]) ∧ ∃ d', SWK enc k w0 blk off d' w' ∧ Mg (ltOf cf) 0 d0.size d0 d' := by
  have mixed := Try.laysIns.mixed
  have S0 : Aside (SWK enc k w0 blk off d0 w0) := SWK.start R.hH
  have INS : Aside _ := insert_any k aE zE enc cf g cb hO blk off cap d0 w0 eg hcmp R (by omega)
  have MRG : Aside _ := merge_any k aE zE enc cf g cb hO blk off cap d0 w0 eg hcmp R (by omega)
  clear hcmp R eg
  obtain ⟨n, hn⟩ : ∃ n, n = d0.size := ⟨_, rfl⟩
  rw [← hn] at hsz ⊢
  have HN := Lib.hid hn
  clear hn
  go_enter Try.func40, Try.ntmps40
  go_wp2
  go_loopg [7, 8] n (fun kx s7 s8 wr => ∃ (q a c : Nat) (dk : Array α), s7 = .int .i64 a ∧ s8 = .int .i64 (c : Int) ∧ (c ≤ a + 20 ∧ a + 20 ≤ c) ∧ a ≤ n ∧ n - a ≤ kx ∧ Hid (a = q * 20 ∧ dk.size = d0.size) ∧ Aside (SWK enc k w0 blk off dk wr) ∧ Hid (B1 (ltOf cf) 20 dk a ∧ PermIn 0 n d0 dk))
  case atStart => exact ⟨0, 0, 20, d0, rfl, rfl, by omega, Nat.zero_le _, by omega, Lib.hid ⟨by omega, rfl⟩, S0, Lib.hid ⟨B1.zero (by omega) _, permIn_refl _ _ _⟩⟩
  case round =>
    clear S0
    obtain ⟨q, a, c, dk, rfl, rfl, hac, han, hkx, HA, S1, HX⟩ := hrel
    have hd := HA.out.2
    have hN := HN.out
    by_cases hlt : c ≤ n
    · have hltz : (c : Int) ≤ (n : Int) := by omega
      have hc := INS.out a c dk wr (by omega) S1.out (by omega) (by omega)
      rw [hd, ← hN] at hc
      clear hd hN S1
      go_wp2_with (first | (go_at_call 51; (with_reducible refine hc.mono ?_); rintro e w2 ⟨rfl, d2, S2, M2⟩))
      go_roundg (n - c)
      case measure => omega
      case rel =>
        have hd := HA.out.2
        have hN := HN.out
        obtain rfl : c = a + 20 := by omega
        exact ⟨q + 1, a + 20, a + 20 + 20, d2, rfl, by go_num, by omega, hlt, Nat.le_refl _, Lib.hid ⟨by have := HA.out.1; omega, M2.size.trans hd⟩, S2, Lib.hid ⟨HX.out.1.step HA.out.1 (by omega) M2, permIn_trans _ _ _ _ _ HX.out.2 (permIn_mono _ _ _ _ _ _ (by omega) (by omega) (by omega) M2.1)⟩⟩
    · have hltz : ¬ (c : Int) ≤ (n : Int) := by omega
      have hc := INS.out a n dk wr (by omega) S1.out (by omega) (by omega)
      rw [hd, ← hN] at hc
      clear hd hN S1
      go_wp2_with (first | (go_at_call 51; (with_reducible refine hc.mono ?_); rintro e w2 ⟨rfl, d2, S2, M2⟩))
      have hp : PermIn 0 n d0 d2 := permIn_trans _ _ _ _ _ HX.out.2 (permIn_mono _ _ _ _ _ _ (by omega) (by omega) (by have := HA.out.2; have := HN.out; omega) M2.1)
      have hb : Blk (ltOf cf) 20 d2 n := HX.out.1.last HA.out.1 (by omega) (by omega) han M2
      have S3 : Aside (SWK enc k w0 blk off d2 w2) := S2
      have HY := Lib.hid (And.intro hp hb)
      clear hp hb M2 S2 HX HA
      go_loopg [6] (n + 1) (fun kx s6 wr => ∃ (s : Nat) (dk : Array α), s6 = .int .i64 s ∧ 0 < s ∧ s ≤ 2 * n + 20 ∧ (n + 1 - s ≤ kx) ∧ Aside (SWK enc k w0 blk off dk wr) ∧ Hid (PermIn 0 n d0 dk ∧ Blk (ltOf cf) s dk n))
      case atStart => exact ⟨20, d2, rfl, by omega, by omega, by omega, S3, HY⟩
      case round =>
        clear S3 HY
        obtain ⟨s, dk, rfl, hs0, hsn, hkx2, S4, HZ⟩ := hrel
        by_cases hlt2 : s < n
        · have hltz2 : (s : Int) < (n : Int) := by omega
          have e2s : (2 : Int) * (s : Int) = ((2 * s : Nat) : Int) := by omega
          obtain ⟨t, ht⟩ : ∃ t, t = 2 * s := ⟨_, rfl⟩
          rw [← ht] at e2s
          have ht1 : t ≤ 2 * s ∧ 2 * s ≤ t := by omega
          have HT := Lib.hid ht
          clear ht
          go_wp2
          go_loopg [7, 8] n (fun kx s7 s8 wr => ∃ (q a c : Nat) (dj : Array α), s7 = .int .i64 a ∧ s8 = .int .i64 (c : Int) ∧ (c ≤ a + t ∧ a + t ≤ c) ∧ a ≤ n ∧ n - a ≤ kx ∧ Hid (a = q * t ∧ dj.size = d0.size) ∧ Aside (SWK enc k w0 blk off dj wr) ∧ Hid (Blks (ltOf cf) s dj n a ∧ PermIn 0 n d0 dj))
          case atStart => exact ⟨0, 0, t, dk, rfl, rfl, by omega, Nat.zero_le _, by omega, Lib.hid ⟨by omega, HZ.out.1.1⟩, S4, Lib.hid ⟨Blks.start hs0 HZ.out.2, HZ.out.1⟩⟩
          case round =>
            clear S4 HZ
            obtain ⟨q, a, c, dj, rfl, rfl, hac, han, hkx3, HA, S5, HW⟩ := hrel
            obtain ⟨u, hu⟩ : ∃ u, u = a + s := ⟨_, rfl⟩
            have eas : (a : Int) + (s : Int) = (u : Int) := by omega
            have hu1 : u ≤ a + s ∧ a + s ≤ u := by omega
            have hd := HA.out.2
            have hN := HN.out
            have hA := HA.out.1
            rw [HT.out] at hA
            have hl := HW.out.1.left hA
            have hr := HW.out.1.right hA
            rw [← hu] at hl hr
            clear hu
            by_cases hlt3 : c ≤ n
            · have hltz3 : (c : Int) ≤ (n : Int) := by omega
              rw [Nat.min_eq_left (by omega), show u + s = c by omega] at hr
              have hc := MRG.out (c - a + 1) a u c dj wr (by omega) (by omega) S5.out (by omega) (by omega) (by omega) (hl (by omega)) hr
              rw [hd, ← hN] at hc
              clear hd hN hA hr hl S5
              go_wp2_with (first | (go_at_call 52; (with_reducible refine hc.mono ?_); rintro e w2 ⟨rfl, d3, S6, M3⟩))
              go_roundg (n - c)
              case measure => omega
              case rel =>
                have hd := HA.out.2
                have hN := HN.out
                have hA := HA.out.1
                obtain rfl : c = a + t := by omega
                refine ⟨q + 1, a + t, a + t + t, d3, rfl, by go_num, by omega, hlt3, Nat.le_refl _, Lib.hid ⟨by rw [mul_step]; omega, M3.size.trans hd⟩, S6, Lib.hid ⟨?_, permIn_trans _ _ _ _ _ HW.out.2 (permIn_mono _ _ _ _ _ _ (by omega) (by omega) (by omega) M3.1)⟩⟩
                have := HT.out
                subst this
                exact HW.out.1.step hA hs0 M3
            · have hltz3 : ¬ (c : Int) ≤ (n : Int) := by omega
              have es2 : (s : Int) * 2 = (t : Int) := by omega
              by_cases hlt4 : u < n
              · have hltz4 : (u : Int) < (n : Int) := by omega
                rw [Nat.min_eq_right (by omega)] at hr
                have hc := MRG.out (n - a + 1) a u n dj wr (by omega) (by omega) S5.out (by omega) (by omega) (by omega) (hl (by omega)) hr
                rw [hd, ← hN] at hc
                clear hd hN hA hr hl S5
                go_wp2_with (first | (go_at_call 52; (with_reducible refine hc.mono ?_); rintro e w2 ⟨rfl, d3, S6, M3⟩))
                go_roundg (n + 1 - t)
                case measure => omega
                case rel =>
                  have hd := HA.out.2
                  have hN := HN.out
                  have hA := HA.out.1
                  refine ⟨t, d3, by go_num, by omega, by omega, Nat.le_refl _, S6, Lib.hid ⟨permIn_trans _ _ _ _ _ HW.out.2 (permIn_mono _ _ _ _ _ _ (by omega) (by omega) (by omega) M3.1), ?_⟩⟩
                  have := HT.out
                  subst this
                  exact HW.out.1.last hA hs0 (by omega) han M3
              · have hltz4 : ¬ (u : Int) < (n : Int) := by omega
                have hm : Mg (ltOf cf) a n dj dj := Mg.idle (HW.out.1.rest hA (by omega))
                have HM := Lib.hid hm
                clear hd hN hA hm hr hl
                go_wp2
                go_roundg (n + 1 - t)
                case measure => omega
                case rel =>
                  have hA := HA.out.1
                  refine ⟨t, dj, by go_num, by omega, by omega, Nat.le_refl _, S5, Lib.hid ⟨HW.out.2, ?_⟩⟩
                  have := HT.out
                  subst this
                  exact HW.out.1.last hA hs0 (by omega) han HM.out
        · have hltz2 : ¬ (s : Int) < (n : Int) := by omega
          go_wp2
          go_end0
          exact ⟨rfl, dk, S4.out, HZ.out.1, HZ.out.2.all (by omega)⟩

set_option maxHeartbeats 2000000 in
theorem stableSort_any (k : Nat) (aE : ∀ w, (isAgg 48).run Try.prog w = .ok true w) (zE : ∀ w, (Go.sizeOf 48).run Try.prog w = .ok k w) (enc : α → List Value) (cf : α → α → Int) (g : Nat) (cb : Array Value) (hO : SWO (ltOf cf)) (blk off cap : Nat) (d0 : Array α) (w0 : World)
    (eg : ∀ args w, (callFunc g args).run Try.prog w = .ok (.enter g args) w) (hcmp : CmpLays Try.prog g cb enc k cf blk off d0.size w0)
    (R : RowK enc k w0 blk off d0) (hsz : d0.size < 1000000000) :
    Calls Try.prog 29 #[.slice (some ⟨blk, off, none⟩) d0.size cap, .func (.func g) #[] cb] w0 fun e w' => e = .returned (.tuple #[]) ∧ ∃ d', SWK enc k w0 blk off d' w' ∧ Mg (ltOf cf) 0 d0.size d0 d' := by
  have hc := stable_any k aE zE enc cf g cb hO blk off cap d0 w0 eg hcmp R hsz
  clear hcmp R eg
  go_enter Try.func29, Try.ntmps29
  go_wp2_with (first | (go_at_call 40; (with_reducible refine hc.mono ?_); rintro e w2 ⟨rfl, d3, S6, M3⟩))
  go_end0
  exact ⟨rfl, d3, S6, M3⟩
end Go.Proofs.Ytdcfaniimhjghaa
