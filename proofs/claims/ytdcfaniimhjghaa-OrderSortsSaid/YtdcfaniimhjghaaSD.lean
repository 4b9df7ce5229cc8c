/- A merge in place, where the right part has one element: the library's function. -/
import Derived.Test.YtdcfaniimhjghaaSB
namespace Go.Proofs.Ytdcfaniimhjghaa
open Go.Proofs Go.Shelf Go.RowKit Go.Lib Go.Sort
set_option linter.unusedVariables false
set_option linter.unusedSimpArgs false
variable {α : Type} [Inhabited α]

set_option maxHeartbeats 8000000 in
set_option maxRecDepth 1000000 in
theorem merge_right (k : Nat) (aE : ∀ w, (isAgg 48).run Try.prog w = .ok true w) (zE : ∀ w, (Go.sizeOf 48).run Try.prog w = .ok k w) (enc : α → List Value) (cf : α → α → Int) (g : Nat) (cb : Array Value) (hO : SWO (ltOf cf)) (blk off cap a m b : Nat) (d0 d : Array α) (w0 w : World)
    (eg : ∀ args w, (callFunc g args).run Try.prog w = .ok (.enter g args) w) (hcmp : CmpLays Try.prog g cb enc k cf blk off d0.size w0)
    (R : RowK enc k w0 blk off d0) (hs : d0.size = d.size) (S : SWK enc k w0 blk off d w) (ham : a + 1 < m) (hmb : m + 1 = b) (hb : b ≤ d.size) (hR : SortedIn (ltOf cf) a m d) (hsz : d.size < 2305843009213693952) :
    Calls Try.prog 52 #[.slice (some ⟨blk, off, none⟩) d.size cap, .int .i64 a, .int .i64 m, .int .i64 b, .func (.func g) #[] cb] w fun e w' => e = .returned (.tuple #[]) ∧ ∃ d', SWK enc k w0 blk off d' w' ∧ Mg (ltOf cf) a b d d' := by
  have mixed := Try.laysIns.mixed
  have HC : Aside _ := hcmp
  have S0 : Aside (SWK enc k w0 blk off d w) := S
  have HR : Hid _ := hR
  clear S hcmp hR
  have h1z : ((m : Int) - (a : Int) == 1) = false := by simp; omega
  have h2z : (b : Int) - (m : Int) = 1 := by omega
  go_enter Try.func52, Try.ntmps52
  go_wp2
  go_loopg [14, 15] (m - a) (fun kx s14 s15 wr => ∃ (i j : Nat), s14 = .int .i64 i ∧ s15 = .int .i64 j ∧ a ≤ i ∧ i ≤ j ∧ j ≤ m ∧ j - i ≤ kx ∧ Aside (SWK enc k w0 blk off d wr) ∧ Hid ((∀ q, a ≤ q → q < i → ltOf cf d[m]! d[q]! = false) ∧ ∀ q, j ≤ q → q < m → ltOf cf d[m]! d[q]! = true))
  case atStart => exact ⟨a, m, rfl, rfl, Nat.le_refl _, by omega, Nat.le_refl _, Nat.le_refl _, S0, Lib.hid ⟨fun q h1 h2 => by omega, fun q h1 h2 => by omega⟩⟩
  case round =>
    clear S0
    obtain ⟨i, j, rfl, rfl, hi, hij, hj, hkx, S1, HX⟩ := hrel
    by_cases hlt : i < j
    · have hltz : (i : Int) < (j : Int) := by omega
      obtain ⟨h, hh⟩ : ∃ h, h = (i + j) / 2 := ⟨_, rfl⟩
      have eh : ((i : Int) + (j : Int)) / 2 = (h : Int) := by omega
      have hh1 : i ≤ h ∧ h < j := by omega
      clear hh
      go_wp2_with fail
      cases hG : ltOf cf d[m]! d[h]! with
      | false =>
        have ea1x : ((m : Int)).toNat = m := by omega
        have pa1x : (0 : Int) ≤ (m : Int) := by omega
        have ba1x : (m : Int) < (d.size : Int) := by omega
        have ra1x : IntKind.i64.wrap ((m : Int)) = (m : Int) := by rw [IntKind.wrap_i64]; omega
        have ea1y : ((h : Int)).toNat = h := by omega
        have pa1y : (0 : Int) ≤ (h : Int) := by omega
        have ba1y : (h : Int) < (d.size : Int) := by omega
        have ra1y : IntKind.i64.wrap ((h : Int)) = (h : Int) := by rw [IntKind.wrap_i64]; omega
        obtain ⟨x1, hx1⟩ : ∃ x, x = d[m]! := ⟨_, rfl⟩
        obtain ⟨y1, hy1⟩ : ∃ x, x = d[h]! := ⟨_, rfl⟩
        have l1a := S1.out.ld R (by omega) Try.prog (m) (by omega)
        have l1b := S1.out.ld R (by omega) Try.prog (h) (by omega)
        rw [← hx1] at l1a
        rw [← hy1] at l1b
        have hc1 := S1.out.cmp HC.out (by omega) x1 y1
        have hv1 : ¬ cf x1 y1 < 0 := by rw [hx1, hy1]; exact of_decide_eq_false hG
        have hd1 : decide (cf x1 y1 < 0) = false := decide_eq_false hv1
        clear hx1 hy1
        go_wp2_with fail
        go_quiet_grown (first | (go_at_fn g; refine Calls.grown_of (hc1 _ _)))
        have S2 : Aside (SWK enc k w0 blk off d (grow (wr.drewN nq) osq)) := S1.out.grown nq osq
        clear l1a l1b hc1 S1
        generalize grow (wr.drewN nq) osq = w2 at S2 ⊢
        clear nq osq
        go_wp2
        go_roundg (j - (h + 1))
        case measure => omega
        case rel =>
          exact ⟨h + 1, j, by go_num, rfl, by omega, by omega, hj, Nat.le_refl _, S2, Lib.hid ⟨fun q h1 h2 => hO.ntrans _ _ _ hG (sorted_le hO HR.out h1 (by omega) (by omega)), HX.out.2⟩⟩
      | true =>
        have ea2x : ((m : Int)).toNat = m := by omega
        have pa2x : (0 : Int) ≤ (m : Int) := by omega
        have ba2x : (m : Int) < (d.size : Int) := by omega
        have ra2x : IntKind.i64.wrap ((m : Int)) = (m : Int) := by rw [IntKind.wrap_i64]; omega
        have ea2y : ((h : Int)).toNat = h := by omega
        have pa2y : (0 : Int) ≤ (h : Int) := by omega
        have ba2y : (h : Int) < (d.size : Int) := by omega
        have ra2y : IntKind.i64.wrap ((h : Int)) = (h : Int) := by rw [IntKind.wrap_i64]; omega
        obtain ⟨x2, hx2⟩ : ∃ x, x = d[m]! := ⟨_, rfl⟩
        obtain ⟨y2, hy2⟩ : ∃ x, x = d[h]! := ⟨_, rfl⟩
        have l2a := S1.out.ld R (by omega) Try.prog (m) (by omega)
        have l2b := S1.out.ld R (by omega) Try.prog (h) (by omega)
        rw [← hx2] at l2a
        rw [← hy2] at l2b
        have hc2 := S1.out.cmp HC.out (by omega) x2 y2
        have hv2 : cf x2 y2 < 0 := by rw [hx2, hy2]; exact of_decide_eq_true hG
        have hd2 : decide (cf x2 y2 < 0) = true := decide_eq_true hv2
        clear hx2 hy2
        go_wp2_with fail
        go_quiet_grown (first | (go_at_fn g; refine Calls.grown_of (hc2 _ _)))
        have S2 : Aside (SWK enc k w0 blk off d (grow (wr.drewN nq) osq)) := S1.out.grown nq osq
        clear l2a l2b hc2 S1
        generalize grow (wr.drewN nq) osq = w2 at S2 ⊢
        clear nq osq
        go_wp2
        go_roundg (h - i)
        case measure => omega
        case rel =>
          refine ⟨i, h, rfl, rfl, hi, by omega, by omega, Nat.le_refl _, S2, Lib.hid ⟨HX.out.1, fun q h1 h2 => ?_⟩⟩
          cases hq2 : ltOf cf d[m]! d[q]! with
          | true => rfl
          | false =>
            have := hO.ntrans _ _ _ hq2 (sorted_le hO HR.out (by omega) h1 h2)
            rw [this] at hG
            cases hG
    · have hltz : ¬ (i : Int) < (j : Int) := by omega
      obtain rfl : i = j := by omega
      go_wp2
      go_loopg [17] (m - i) (fun kx s17 w3 => ∃ (q : Nat) (dk : Array α), s17 = .int .i64 q ∧ i ≤ q ∧ q ≤ m ∧ q - i ≤ kx ∧ dk.size = d.size ∧ Aside (SWK enc k w0 blk off dk w3) ∧ Hid (Rot d q m (m + 1) dk ∧ PermIn a b d dk))
      case atStart => exact ⟨m, d, rfl, by omega, Nat.le_refl _, Nat.le_refl _, rfl, S1, Lib.hid ⟨Rot.none_left, permIn_refl _ _ _⟩⟩
      case round =>
        clear S1
        obtain ⟨q, dk, rfl, hq1, hq2, hkx2, hds, S3, HY⟩ := hrel
        by_cases hlt2 : i < q
        · have hltz2 : (i : Int) < (q : Int) := by omega
          obtain ⟨p, rfl⟩ : ∃ p, q = p + 1 := ⟨q - 1, by omega⟩
          have eq1 : ((p + 1 : Nat) : Int) = (p : Int) + 1 := by omega
          have eq2 : (p : Int) + 1 - 1 = (p : Int) := by omega
          go_wp2_with fail
          have ea3i : ((p : Int) + 1).toNat = p + 1 := by omega
          have pa3i : (0 : Int) ≤ (p : Int) + 1 := by omega
          have ba3i : (p : Int) + 1 < (d.size : Int) := by omega
          have ra3i : IntKind.i64.wrap ((p : Int) + 1) = (p : Int) + 1 := by rw [IntKind.wrap_i64]; omega
          have ea3j : ((p : Int)).toNat = p := by omega
          have pa3j : (0 : Int) ≤ (p : Int) := by omega
          have ba3j : (p : Int) < (d.size : Int) := by omega
          have ra3j : IntKind.i64.wrap ((p : Int)) = (p : Int) := by rw [IntKind.wrap_i64]; omega
          have S4 : Aside (SWK enc k w0 blk off (Go.Sort.swp dk (p + 1) (p)) ((wr.drew.setCells blk (off + (p + 1) * k) (enc dk[p]!)).setCells blk (off + (p) * k) (enc dk[p + 1]!))) := S3.out.swapped R (p + 1) (p) (by omega) (by omega)
          have l3a := S3.out.ld1 R (by omega) Try.prog (p + 1) (by omega)
          have l3b := S3.out.ld1 R (by omega) Try.prog (p) (by omega)
          have s3a := S3.out.st1 R (by omega) Try.prog (p + 1) (by omega) dk[p]!
          have s3b := S3.out.st2 R (by omega) Try.prog (p + 1) (p) (by omega) (by omega) dk[p]! dk[p + 1]!
          have n3a : (enc dk[p + 1]!).length = k := R.hk _
          have n3b : (enc dk[p]!).length = k := R.hk _
          generalize enc dk[p + 1]! = cI3 at S4 l3a s3b n3a
          generalize enc dk[p]! = cJ3 at S4 l3b s3a s3b n3b
          clear S3
          go_wp2_with fail
          go_big_region_o
          clear l3a l3b s3a s3b
          generalize (wr.drew.setCells blk (off + (p + 1) * k) cJ3).setCells blk (off + (p) * k) cI3 = w4 at S4 ⊢
          go_wp2
          go_roundg (p - i)
          case measure => omega
          case rel =>
            exact ⟨p, Go.Sort.swp dk (p + 1) p, by go_num, by omega, by omega, Nat.le_refl _, by rw [size_swp]; exact hds, S4, Lib.hid ⟨HY.out.1.down (by omega) (by omega) hq2, permIn_trans _ _ _ _ _ HY.out.2 (swp_permIn _ _ _ _ _ (by omega) (by omega) (by omega) (by omega) (by omega))⟩⟩
        · have hltz2 : ¬ (i : Int) < (q : Int) := by omega
          go_wp2
          (try simp only [Exit.inBlock, Exit.then]); refine bodyPost_ret (results_none rfl _ _ _) rfl ?_
          obtain rfl : i = q := by omega
          subst hmb
          exact ⟨rfl, dk, S3.out, HY.out.2, ins_right hO hb hi hj HR.out HX.out.1 HX.out.2 HY.out.1⟩
end Go.Proofs.Ytdcfaniimhjghaa
