/- A merge in place: the library's function. -/
import Derived.Test.YtdcfaniimhjghaaSC
import Derived.Test.YtdcfaniimhjghaaSD
import Derived.Deep.Cut
namespace Go.Proofs.Ytdcfaniimhjghaa
open Go.Proofs Go.Shelf Go.RowKit Go.Lib Go.Sort
set_option linter.unusedVariables false
set_option linter.unusedSimpArgs false
variable {α : Type} [Inhabited α]

set_option maxHeartbeats 8000000 in
set_option maxRecDepth 1000000 in
theorem merge_any (k : Nat) (aE : ∀ w, (isAgg 48).run Try.prog w = .ok true w) (zE : ∀ w, (Go.sizeOf 48).run Try.prog w = .ok k w) (enc : α → List Value) (cf : α → α → Int) (g : Nat) (cb : Array Value) (hO : SWO (ltOf cf)) (blk off cap : Nat) (d0 : Array α) (w0 : World)
    (eg : ∀ args w, (callFunc g args).run Try.prog w = .ok (.enter g args) w) (hcmp : CmpLays Try.prog g cb enc k cf blk off d0.size w0)
    (R : RowK enc k w0 blk off d0) (hsz : d0.size < 2305843009213693952) :
    ∀ (N a m b : Nat) (d : Array α) (w : World), b - a < N → d0.size = d.size → SWK enc k w0 blk off d w → a < m → m < b → b ≤ d.size → SortedIn (ltOf cf) a m d → SortedIn (ltOf cf) m b d →
    Calls Try.prog 52 #[.slice (some ⟨blk, off, none⟩) d.size cap, .int .i64 a, .int .i64 m, .int .i64 b, .func (.func g) #[] cb] w fun e w' => e = .returned (.tuple #[]) ∧ ∃ d', SWK enc k w0 blk off d' w' ∧ Mg (ltOf cf) a b d d' := by
  have mixed := Try.laysIns.mixed
  intro N
  induction N with
  | zero => intro _ _ _ _ _ h; exact absurd h (Nat.not_lt_zero _)
  | succ N ih =>
  intro a m b d w hN hs S ham hmb hb hL hR
  by_cases h1 : a + 1 = m
  · exact merge_left k aE zE enc cf g cb hO blk off cap a m b d0 d w0 w eg hcmp R hs S h1 hmb hb hR (by omega)
  by_cases h2 : m + 1 = b
  · exact merge_right k aE zE enc cf g cb hO blk off cap a m b d0 d w0 w eg hcmp R hs S (by omega) h2 hb hL (by omega)
  have h1z : ((m : Int) - (a : Int) == 1) = false := by simp; omega
  have h2z : ((b : Int) - (m : Int) == 1) = false := by simp; omega
  have HC : Aside _ := hcmp
  have S0 : Aside (SWK enc k w0 blk off d w) := S
  have IH : Aside _ := ih
  obtain ⟨mid, hmid⟩ : ∃ mid, mid = (a + b) / 2 := ⟨_, rfl⟩
  have eh : ((a : Int) + (b : Int)) / 2 = (mid : Int) := by omega
  obtain ⟨n, hn⟩ : ∃ n, n = mid + m := ⟨_, rfl⟩
  have en : (mid : Int) + (m : Int) = (n : Int) := by omega
  obtain ⟨lo, hi, hat⟩ : ∃ lo hi, ((mid < m ∧ lo = n - b ∧ hi = mid) ∨ (m ≤ mid ∧ lo = a ∧ hi = m)) := by
    rcases Nat.lt_or_ge mid m with h | h
    · exact ⟨_, _, Or.inl ⟨h, rfl, rfl⟩⟩
    · exact ⟨_, _, Or.inr ⟨h, rfl, rfl⟩⟩
  have SWW : Sw (ltOf cf) d a m b n lo hi := ⟨ham, hmb, by omega, by rw [← hmid]; exact hat, hL, hR⟩
  have HW : Hid (Sw (ltOf cf) d a m b n lo hi) := SWW
  have hlohi := SWW.lohi
  have hhi : hi ≤ d.size := by omega
  have hnb : n ≤ d.size + d.size := by omega
  have HM := Lib.hid hmid
  have hm1 : 2 * mid ≤ a + b ∧ a + b ≤ 2 * mid + 1 := by omega
  have hn1 : n ≤ mid + m ∧ mid + m ≤ n := by omega
  clear SWW ih hcmp S hL hR hmid hn
  go_enter Try.func52, Try.ntmps52
  go_upto_if 140 with fail
  go_cut [20, 21] from 25 (fun s20 s21 wc => s20 = .int .i64 (lo : Int) ∧ s21 = .int .i64 (hi : Int) ∧ wc = w)
  case first => as_aux_lemma =>
    rcases hat with ⟨h3, e1, e2⟩ | ⟨h3, e1, e2⟩
    · have h3z : (mid : Int) < (m : Int) := by omega
      have enb : (n : Int) - (b : Int) = ((n - b : Nat) : Int) := by omega
      have E := Lib.hid (And.intro e1 e2)
      clear e1 e2
      go_wp2_with fail
      go_meet
      case rel => exact ⟨by rw [E.out.1], by rw [E.out.2], rfl⟩
    · have h3z : ¬ (mid : Int) < (m : Int) := by omega
      have E := Lib.hid (And.intro e1 e2)
      clear e1 e2
      go_wp2_with fail
      go_meet
      case rel => exact ⟨by rw [E.out.1], by rw [E.out.2], rfl⟩
  case rest =>
  obtain ⟨rfl, rfl, rfl⟩ := hcut
  have ep : (n : Int) - 1 = ((n - 1 : Nat) : Int) := by omega
  go_wp2_with fail
  go_loopg [20, 21] (hi - lo) (fun kx s20 s21 wr => ∃ (s r : Nat), s20 = .int .i64 s ∧ s21 = .int .i64 r ∧ s ≤ r ∧ r ≤ hi ∧ lo ≤ s ∧ r - s ≤ kx ∧ Aside (SWK enc k w0 blk off d wr) ∧ Hid (Sc (ltOf cf) d n lo hi s r))
  case atStart => exact ⟨lo, hi, rfl, rfl, hlohi, Nat.le_refl _, Nat.le_refl _, Nat.le_refl _, S0, Lib.hid (Sc.start HW.out)⟩
  case round =>
    clear S0
    obtain ⟨s, r, rfl, rfl, hsr, hr, hls, hkx, S1, HX⟩ := hrel
    by_cases hlt : s < r
    · have hltz : (s : Int) < (r : Int) := by omega
      obtain ⟨h, hh⟩ : ∃ h, h = (s + r) / 2 := ⟨_, rfl⟩
      have eh : ((s : Int) + (r : Int)) / 2 = (h : Int) := by omega
      have hh1 : s ≤ h ∧ h < r := by omega
      clear hh
      obtain ⟨x1, x2, x3, x4, x5⟩ := HW.out.c (c := h) (by omega) (by omega)
      have epc : ((n - 1 : Nat) : Int) - (h : Int) = ((n - 1 - h : Nat) : Int) := by omega
      obtain ⟨q, hq⟩ : ∃ q, q = n - 1 - h := ⟨_, rfl⟩
      rw [← hq] at epc x3 x4
      have HQ := Lib.hid hq
      clear hq
      go_wp2_with fail
      cases hG : ltOf cf d[q]! d[h]! with
      | false =>
        have ea1x : ((q : Int)).toNat = q := by omega
        have pa1x : (0 : Int) ≤ (q : Int) := by omega
        have ba1x : (q : Int) < (d.size : Int) := by omega
        have ra1x : IntKind.i64.wrap ((q : Int)) = (q : Int) := by rw [IntKind.wrap_i64]; omega
        have ea1y : ((h : Int)).toNat = h := by omega
        have pa1y : (0 : Int) ≤ (h : Int) := by omega
        have ba1y : (h : Int) < (d.size : Int) := by omega
        have ra1y : IntKind.i64.wrap ((h : Int)) = (h : Int) := by rw [IntKind.wrap_i64]; omega
        obtain ⟨x1, hx1⟩ : ∃ x, x = d[q]! := ⟨_, rfl⟩
        obtain ⟨y1, hy1⟩ : ∃ x, x = d[h]! := ⟨_, rfl⟩
        have l1a := S1.out.ld R (by omega) Try.prog (q) (by omega)
        have l1b := S1.out.ld R (by omega) Try.prog (h) (by omega)
        rw [← hx1] at l1a
        rw [← hy1] at l1b
        have hc1 := S1.out.cmp HC.out (by omega) x1 y1
        have hv1 : ¬ cf x1 y1 < 0 := by rw [hx1, hy1]; exact of_decide_eq_false hG
        have hd1 : decide (cf x1 y1 < 0) = false := decide_eq_false hv1
        clear hx1 hy1
        go_wp2_with fail
        go_quiet_grown (first | (go_at_fn g; refine Calls.grown_of (hc1 _ _)))
        have S2 : Aside (SWK enc k w0 blk off d (grow (wr.drewN nq) osq)) := S1.out.grown nq osq
        clear l1a l1b hc1 S1
        generalize grow (wr.drewN nq) osq = w2 at S2 ⊢
        clear nq osq
        go_wp2
        go_roundg (r - (h + 1))
        case measure => omega
        case rel =>
          have hq := HQ.out
          subst hq
          exact ⟨h + 1, r, by go_num, rfl, by omega, hr, by omega, Nat.le_refl _, S2, Lib.hid (HX.out.up hO HW.out hh1.1 hh1.2 hG)⟩
      | true =>
        have ea2x : ((q : Int)).toNat = q := by omega
        have pa2x : (0 : Int) ≤ (q : Int) := by omega
        have ba2x : (q : Int) < (d.size : Int) := by omega
        have ra2x : IntKind.i64.wrap ((q : Int)) = (q : Int) := by rw [IntKind.wrap_i64]; omega
        have ea2y : ((h : Int)).toNat = h := by omega
        have pa2y : (0 : Int) ≤ (h : Int) := by omega
        have ba2y : (h : Int) < (d.size : Int) := by omega
        have ra2y : IntKind.i64.wrap ((h : Int)) = (h : Int) := by rw [IntKind.wrap_i64]; omega
        obtain ⟨x2, hx2⟩ : ∃ x, x = d[q]! := ⟨_, rfl⟩
        obtain ⟨y2, hy2⟩ : ∃ x, x = d[h]! := ⟨_, rfl⟩
        have l2a := S1.out.ld R (by omega) Try.prog (q) (by omega)
        have l2b := S1.out.ld R (by omega) Try.prog (h) (by omega)
        rw [← hx2] at l2a
        rw [← hy2] at l2b
        have hc2 := S1.out.cmp HC.out (by omega) x2 y2
        have hv2 : cf x2 y2 < 0 := by rw [hx2, hy2]; exact of_decide_eq_true hG
        have hd2 : decide (cf x2 y2 < 0) = true := decide_eq_true hv2
        clear hx2 hy2
        go_wp2_with fail
        go_quiet_grown (first | (go_at_fn g; refine Calls.grown_of (hc2 _ _)))
        have S2 : Aside (SWK enc k w0 blk off d (grow (wr.drewN nq) osq)) := S1.out.grown nq osq
        clear l2a l2b hc2 S1
        generalize grow (wr.drewN nq) osq = w2 at S2 ⊢
        clear nq osq
        go_wp2
        go_roundg (h - s)
        case measure => omega
        case rel =>
          have hq := HQ.out
          subst hq
          exact ⟨s, h, rfl, rfl, by omega, by omega, hls, Nat.le_refl _, S2, Lib.hid (HX.out.dn hO HW.out hh1.1 hh1.2 hG)⟩
    · have hltz : ¬ (s : Int) < (r : Int) := by omega
      obtain rfl : s = r := by omega
      obtain ⟨b1, b2, b3, b4, b5, b6, b7⟩ := HX.out.bounds HW.out
      rw [← HM.out] at b5 b6
      have hdone := fun d1 d2 d3 => HX.out.done (d1 := d1) (d2 := d2) (d3 := d3) hO hb HW.out
      have hcut' := fun d1 => HX.out.cut (d1 := d1) hO hb HW.out
      rw [← HM.out] at hdone hcut'
      have DONE : Aside _ := hdone
      have CUT : Aside _ := hcut'
      clear hdone hcut' HX HW
      obtain ⟨e, he⟩ : ∃ e, e = n - s := ⟨_, rfl⟩
      have ee : (n : Int) - (s : Int) = (e : Int) := by omega
      rw [← he] at b3 b4 b6 DONE CUT
      have he1 : e + s = n := by omega
      clear he
      obtain ⟨B185, hB185⟩ : ∃ B, B = (decide (s < m) && decide (m < e)) := ⟨_, rfl⟩
      have HB185 := Lib.hid hB185
      clear hB185
      go_upto_region 39 with fail
      go_cut [185] from 25 (fun sx wx => sx = .bool B185 ∧ wx = wr)
      case first => as_aux_lemma =>
        by_cases c1 : s < m
        · have c1z : (s : Int) < (m : Int) := by omega
          by_cases c2 : m < e
          · have c2z : (m : Int) < (e : Int) := by omega
            go_wp2_with fail
            go_meet
            case rel => exact ⟨by rw [HB185.out]; simp [c1, c2], rfl⟩
          · have c2z : ¬ (m : Int) < (e : Int) := by omega
            have c2b : decide ((m : Int) < (e : Int)) = false := decide_eq_false c2z
            go_wp2_with fail
            go_meet
            case rel => exact ⟨by rw [HB185.out]; simp [c1, c2], rfl⟩
        · have c1z : ¬ (s : Int) < (m : Int) := by omega
          have c1b : decide ((s : Int) < (m : Int)) = false := decide_eq_false c1z
          go_wp2_with fail
          go_meet
          case rel => exact ⟨by rw [HB185.out]; simp [c1], rfl⟩
      case rest =>
      obtain ⟨rfl, rfl⟩ := hcut
      go_upto_if 185 with fail
      go_cut [] from 25 (fun wx => ∃ d1, SWK enc k w0 blk off d1 wx ∧ Rot d s m e d1 ∧ PermIn a b d d1)
      case first => as_aux_lemma =>
        cases B185 with
        | true =>
          have hB := HB185.out
          simp only [Bool.true_eq, Bool.and_eq_true, decide_eq_true_eq] at hB
          have hc := rotate_any k aE zE enc g cb blk off cap s m e d0 d w0 wc R (by omega) S1.out hB.1 hB.2 (by omega) (by omega)
          clear hB
          go_wp2_with (first | (go_at_call 58; (with_reducible refine hc.mono ?_); rintro e2 w2 ⟨rfl, d1, S2, R2, P2⟩))
          go_meet
          case rel => exact ⟨d1, S2, R2, permIn_mono _ _ _ _ _ _ (by omega) (by omega) (by omega) P2⟩
        | false =>
          go_wp2_with fail
          go_meet
          case rel =>
            have hB := HB185.out
            rcases Nat.lt_or_ge s m with c1 | c1
            · have c2 : ¬ m < e := fun h => by simp [c1, h] at hB
              obtain rfl : e = m := by omega
              exact ⟨d, S1.out, Rot.none_right b2, permIn_refl _ _ _⟩
            · obtain rfl : s = m := by omega
              exact ⟨d, S1.out, Rot.none_left, permIn_refl _ _ _⟩
      case rest =>
      clear S1
      obtain ⟨d1, hS1, R1, P1⟩ := hcut
      obtain ⟨t1, t2, t3, t4, t5⟩ := CUT.out d1 R1
      have z1 := R1.1
      clear CUT
      obtain ⟨B199, hB199⟩ : ∃ B, B = (decide (a < s) && decide (s < mid)) := ⟨_, rfl⟩
      have HB199 := Lib.hid hB199
      clear hB199
      go_upto_region 41 with fail
      go_cut [199] from 25 (fun sx wx => sx = .bool B199 ∧ wx = wc)
      case first => as_aux_lemma =>
        by_cases c1 : a < s
        · have c1z : (a : Int) < (s : Int) := by omega
          by_cases c2 : s < mid
          · have c2z : (s : Int) < (mid : Int) := by omega
            go_wp2_with fail
            go_meet
            case rel => exact ⟨by rw [HB199.out]; simp [c1, c2], rfl⟩
          · have c2z : ¬ (s : Int) < (mid : Int) := by omega
            have c2b : decide ((s : Int) < (mid : Int)) = false := decide_eq_false c2z
            go_wp2_with fail
            go_meet
            case rel => exact ⟨by rw [HB199.out]; simp [c1, c2], rfl⟩
        · have c1z : ¬ (a : Int) < (s : Int) := by omega
          have c1b : decide ((a : Int) < (s : Int)) = false := decide_eq_false c1z
          go_wp2_with fail
          go_meet
          case rel => exact ⟨by rw [HB199.out]; simp [c1], rfl⟩
      case rest =>
      obtain ⟨rfl, rfl⟩ := hcut
      go_upto_if 199 with fail
      go_cut [] from 25 (fun wx => ∃ d2, SWK enc k w0 blk off d2 wx ∧ Mg (ltOf cf) a mid d1 d2)
      case first => as_aux_lemma =>
        cases B199 with
        | true =>
          have hB := HB199.out
          simp only [Bool.true_eq, Bool.and_eq_true, decide_eq_true_eq] at hB
          have hc := IH.out a s mid d1 wc (by omega) (by omega) hS1 hB.1 hB.2 (by omega) t1 t2
          rw [z1] at hc
          clear hB
          go_wp2_with (first | (go_at_call 52; (with_reducible refine hc.mono ?_); rintro e2 w2 ⟨rfl, d2, S2, M2⟩))
          go_meet
          case rel => exact ⟨d2, S2, M2⟩
        | false =>
          go_wp2_with fail
          go_meet
          case rel =>
            have hB := HB199.out
            rcases Nat.lt_or_ge a s with c1 | c1
            · have c2 : ¬ s < mid := fun h => by simp [c1, h] at hB
              obtain rfl : s = mid := by omega
              exact ⟨d1, hS1, Mg.idle t1⟩
            · obtain rfl : a = s := by omega
              exact ⟨d1, hS1, Mg.idle t2⟩
      case rest =>
      obtain ⟨d2, hS2, M2⟩ := hcut
      have z2 := M2.1.1
      have t3' : SortedIn (ltOf cf) mid e d2 := sorted_congr _ t3 fun i h3 h4 => M2.1.2.1 i (Or.inr h3)
      have t4' : SortedIn (ltOf cf) e b d2 := sorted_congr _ t4 fun i h3 h4 => M2.1.2.1 i (Or.inr (by omega))
      by_cases c1 : mid < e
      · have c1z : (mid : Int) < (e : Int) := by omega
        by_cases c2 : e < b
        · have c2z : (e : Int) < (b : Int) := by omega
          have hc := IH.out mid e b d2 wc (by omega) (by omega) hS2 c1 c2 (by omega) t3' t4'
          rw [z2, z1] at hc
          go_wp2_with (first | (go_at_call 52; (with_reducible refine hc.mono ?_); rintro e2 w2 ⟨rfl, d3, S3, M3⟩))
          go_end0
          exact ⟨rfl, d3, S3, DONE.out d1 d2 d3 P1 R1 M2 M3⟩
        · have c2z : ¬ (e : Int) < (b : Int) := by omega
          have c2b : decide ((e : Int) < (b : Int)) = false := decide_eq_false c2z
          go_wp2_with fail
          go_end0
          obtain rfl : e = b := by omega
          exact ⟨rfl, d2, hS2, DONE.out d1 d2 d2 P1 R1 M2 (Mg.idle t3')⟩
      · have c1z : ¬ (mid : Int) < (e : Int) := by omega
        have c1b : decide ((mid : Int) < (e : Int)) = false := decide_eq_false c1z
        go_wp2_with fail
        go_end0
        obtain rfl : e = mid := by omega
        exact ⟨rfl, d2, hS2, DONE.out d1 d2 d2 P1 R1 M2 (Mg.idle t4')⟩
end Go.Proofs.Ytdcfaniimhjghaa
