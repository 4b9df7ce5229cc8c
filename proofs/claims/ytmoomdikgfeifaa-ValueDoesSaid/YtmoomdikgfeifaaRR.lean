/- The document's own numbers: rounded to the nearest one, of two that are as near to the even one. -/
import Derived.Test.YtmoomdikgfeifaaRQ
import Derived.Deep.CutRange
namespace Go.Proofs.Ytmoomdikgfeifaa
open Go.ChangeShapes Go.WideShapes Go.ChangeAt Go.RowKit
set_option linter.unusedVariables false

/-- Memory behind the quotient: the boxes, and the three numbers. -/
structure EvW (w : World) (Bq Br : Nat) (u0 v0 u1 v1 : Value) (Q : Int) (nq : Bool) (oq : Option Addr) (lq cq : Nat) (wr : World) : Prop where
  six : Six wr w.heap.size u0 v0 u1 v1
  q : Two wr Bq (.bool nq) (.slice oq lq cq)
  rq : RN wr (.agg #[.bool nq, .slice oq lq cq]) Q
  old : Old w wr
theorem EvW.step {w : World} {Bq Br : Nat} {u0 v0 u1 v1 : Value} {Q : Int} {nq : Bool} {oq : Option Addr} {lq cq : Nat} {wr w' : World} (h : EvW w Bq Br u0 v0 u1 v1 Q nq oq lq cq wr) (ho : Old wr w') : EvW w Bq Br u0 v0 u1 v1 Q nq oq lq cq w' :=
  ⟨h.six.old ho, h.q.old ho, h.rq.old ho, h.old.trans ho⟩

set_option maxHeartbeats 3200000 in
set_option maxRecDepth 100000 in
theorem even_walk (na nb : Bool) (oa ob : Option Addr) (la ca lb cb : Nat) (w : World) (a b Q R n : Int)
    (hx : RN w (.agg #[.bool na, .slice oa la ca]) a) (hy : RN w (.agg #[.bool nb, .slice ob lb cb]) b) (hyb : Rd w (.slice ob lb cb) (dig b.natAbs))
    (hquo : ∀ W, RN W (.agg #[.bool na, .slice oa la ca]) a → RN W (.agg #[.bool nb, .slice ob lb cb]) b → Calls Try.prog 46 #[.agg #[.bool na, .slice oa la ca], .agg #[.bool nb, .slice ob lb cb]] W (RetQI W Q R))
    (hup : ∀ W v, Rd W v (dig R.natAbs) → Calls Try.prog 67 #[v, v] W (RetD W (dig (R.natAbs + R.natAbs))))
    (hby : ∀ W u, Rd W u (dig (R.natAbs + R.natAbs)) → Rd W (.slice ob lb cb) (dig b.natAbs) → Calls Try.prog 68 #[u, .slice ob lb cb] W (RetC W ((R.natAbs + R.natAbs : Nat) : Int) (b.natAbs : Int)))
    (hof : ∀ W, Calls Try.prog 41 #[.int .i64 1] W (RetI W 1))
    (hsub : ∀ W z y, RN W z Q → RN W y 1 → Calls Try.prog 43 #[z, y] W (RetI W (Q - 1)))
    (hadd : ∀ W z y, RN W z Q → RN W y 1 → Calls Try.prog 42 #[z, y] W (RetI W (Q + 1)))
    (h1 : R.natAbs + R.natAbs < b.natAbs → n = Q) (h2 : R.natAbs + R.natAbs = b.natAbs → Q.natAbs % 2 = 0 → n = Q)
    (h3 : (b.natAbs < R.natAbs + R.natAbs ∨ (R.natAbs + R.natAbs = b.natAbs ∧ Q.natAbs % 2 = 1)) → (na != nb) = true → n = Q - 1)
    (h4 : (b.natAbs < R.natAbs + R.natAbs ∨ (R.natAbs + R.natAbs = b.natAbs ∧ Q.natAbs % 2 = 1)) → (na != nb) = false → n = Q + 1) (sQ : Sm 900 Q) :
    Calls Try.prog 45 #[.agg #[.bool na, .slice oa la ca], .agg #[.bool nb, .slice ob lb cb]] w (RetI w n) := by
  have hS := Lib.hid (Six.new w (.bool na) (.slice oa la ca) (.bool nb) (.slice ob lb cb))
  have HO := Lib.hid ((((Old.refl w).alloc (.cells #[.bool na, .slice oa la ca] 47)).alloc (.cells #[.bool nb, .slice ob lb cb] 47)).alloc (.cells #[.bool false, .slice none 0 0] 47))
  have HUP := Lib.hid hup
  have HBY := Lib.hid hby
  have HOF := Lib.hid hof
  have HSUB := Lib.hid hsub
  have HADD := Lib.hid hadd
  have K1 := Lib.hid h1
  have K2 := Lib.hid h2
  have K3 := Lib.hid h3
  have K4 := Lib.hid h4
  clear hup hby hof hsub hadd h1 h2 h3 h4
  go_enter Try.func45, Try.ntmps45
  go_wp2_with fail
  generalize hW : ((w.alloc (.cells #[.bool na, .slice oa la ca] 47)).alloc (.cells #[.bool nb, .slice ob lb cb] 47)).alloc (.cells #[.bool false, .slice none 0 0] 47) = W at *
  clear hW
  refine (hquo _ (hx.old HO.out) (hy.old HO.out)).mono ?_
  rintro e w1 ⟨z1, z2, rfl, hz1, hz2, ho1⟩
  obtain ⟨nq, oq, lq, cq, rfl⟩ := hz1.form
  obtain ⟨vr, rfl, hvr⟩ := hz2
  obtain ⟨orr, cr, rfl, _⟩ := id hvr
  obtain ⟨lr, hlr⟩ : ∃ l, l = (dig R.natAbs).length := ⟨_, rfl⟩
  rw [← hlr] at hvr ⊢
  clear hlr
  have E1 : EvW w w1.heap.size (w1.heap.size + 1) (.bool na) (.slice oa la ca) (.bool nb) (.slice ob lb cb) Q nq oq lq cq ((w1.alloc (.cells #[.bool nq, .slice oq lq cq] 47)).alloc (.cells #[.bool (decide (R < 0)), .slice orr lr cr] 47)) :=
    ⟨(hS.out.old ho1).old (((Old.refl _).alloc _).alloc _), (Two.new _ _ _).alloc _, hz1.old (((Old.refl _).alloc _).alloc _), (HO.out.trans ho1).trans (((Old.refl _).alloc _).alloc _)⟩
  have TR := Two.new (w1.alloc (.cells #[.bool nq, .slice oq lq cq] 47)) (.bool (decide (R < 0))) (.slice orr lr cr)
  rw [show (w1.alloc (.cells #[.bool nq, .slice oq lq cq] 47)).heap.size = w1.heap.size + 1 by simp] at TR
  have RR := Lib.hid (hvr.old (((Old.refl w1).alloc (.cells #[.bool nq, .slice oq lq cq] 47)).alloc (.cells #[.bool (decide (R < 0)), .slice orr lr cr] 47)))
  have HE1 := Lib.hid E1
  have LOW : Hid (w.heap.size + 1 + 1 < w1.heap.size) := (hS.out.old ho1).t2.lt
  clear E1 hz1 hvr ho1 hS HO TR
  obtain ⟨sr, hsr⟩ : ∃ sr, sr = decide (R < 0) := ⟨_, rfl⟩
  rw [← hsr] at HE1 RR ⊢
  clear hsr
  go_wp2_with fail
  generalize hW2 : ((w1.alloc (.cells #[.bool nq, .slice oq lq cq] 47)).alloc (.cells #[.bool sr, .slice orr lr cr] 47)) = W2 at *
  clear hW2
  have lw1 := HE1.out.q.lt
  have hlow : w.heap.size + 1 + 1 < w1.heap.size := LOW.out
  refine (HUP.out _ _ RR.out).mono ?_
  rintro e w2 ⟨vt, rfl, hvt, ho2⟩
  obtain ⟨ot, ct, rfl, _⟩ := id hvt
  obtain ⟨lt, hlt⟩ : ∃ l, l = (dig (R.natAbs + R.natAbs)).length := ⟨_, rfl⟩
  rw [← hlt] at hvt ⊢
  clear hlt
  have HE2 := Lib.hid (HE1.out.step ho2)
  have VT := Lib.hid hvt
  clear hvt ho2 HE1 RR
  have cy := HE2.out.six.t1.c1
  have ly := HE2.out.six.t1.lt
  go_wp2_with fail
  have OA := Lib.hid ((Old.refl w2).alloc (.cells #[.bool false, .slice ot lt ct] 47))
  refine (HBY.out _ _ (VT.out.old OA.out) (hyb.old (HE2.out.old.trans OA.out))).mono ?_
  rintro e w3 ⟨r, rfl, hr1, hr2, ho3⟩
  have HE3 := Lib.hid ((HE2.out.step OA.out).step ho3)
  have HR1 := Lib.hid hr1
  have HR2 := Lib.hid hr2
  clear hr1 hr2 ho3 OA HE2 VT cy ly HBY HUP
  obtain ⟨od, hod⟩ : ∃ od : Bool, od = decide (Q.natAbs % 2 = 1) := ⟨_, rfl⟩
  have HOD := Lib.hid hod
  clear hod
  go_upto_region 4 with (fail)
  go_cut [9] from 27 to 38 (fun o wx => o = .bool od ∧ wx = w3)
  case first =>
    have c1 := HE3.out.q.c1
    obtain ⟨vq, evq, hvq⟩ := HE3.out.rq
    simp only [Value.agg.injEq, Array.mk.injEq, List.cons.injEq, and_true, Value.bool.injEq] at evq
    obtain ⟨enq, rfl⟩ := evq
    clear enq
    have hl := rd_len hvq
    unfold Sm at sQ
    by_cases hl0 : lq = 0
    · have hq0 : Q.natAbs = 0 := dig_nil.1 (List.length_eq_zero_iff.1 (by omega))
      have e0 : od = false := by rw [HOD.out, hq0]; rfl
      subst e0
      subst hl0
      clear hl hq0
      go_wp2_with fail
      go_meet
      exact ⟨rfl, rfl⟩
    · obtain ⟨gq, rfl, cq0⟩ := rd_cell hvq (j := 0) (by omega)
      have hd : (dig Q.natAbs).getD 0 0 = ((Q.natAbs % 10000 : Nat) : Int) := by
        rw [dig_pos (n := Q.natAbs) (by intro h; rw [h, dig_zero] at hl; exact hl0 (by simpa using hl))]; rfl
      rw [hd] at cq0
      have hm : ((Q.natAbs % 10000 : Nat) : Int) % 2 = ((Q.natAbs % 2 : Nat) : Int) := by omega
      obtain ⟨d, hdd⟩ : ∃ d : Int, d = ((Q.natAbs % 10000 : Nat) : Int) := ⟨_, rfl⟩
      rw [← hdd] at cq0 hm
      have bd : 0 ≤ d ∧ d < 10000 := by omega
      have hp : (0 : Int) < (lq : Int) := by omega
      have lq9 : lq ≤ 900 := by omega
      by_cases ho : Q.natAbs % 2 = 1
      · have e0 : od = true := by rw [HOD.out]; simpa using ho
        have h2 : (d % 2 == 1) = true := by have : d % 2 = 1 := by omega
                                            simpa using this
        subst e0
        clear hm hdd hd hl hl0 ho
        go_wp2_with fail
        go_meet
        exact ⟨rfl, rfl⟩
      · have e0 : od = false := by rw [HOD.out]; simpa using ho
        have h2 : (d % 2 == 1) = false := by have : ¬ d % 2 = 1 := by omega
                                             simpa using this
        subst e0
        clear hm hdd hd hl hl0 ho
        go_wp2_with fail
        go_meet
        exact ⟨rfl, rfl⟩
  case rest =>
    obtain ⟨rfl, rfl⟩ := hcut
    by_cases hlt : R.natAbs + R.natAbs < b.natAbs
    · have hr : r < 0 := HR1.out.2 (by omega)
      have HN := Lib.hid (K1.out hlt)
      have c0 := HE3.out.q.c0
      have c1 := HE3.out.q.c1
      have T5 := Lib.hid HE3.out.six.t2
      have t0 := T5.out.c0
      have t1 := T5.out.c1
      have t2 := T5.out.f 0
      have t3 := T5.out.f 1
      go_wp2_with fail
      have ht := T5.out.set (.bool nq) (.slice oq lq cq)
      obtain ⟨vq, evq, hvq⟩ := HE3.out.rq
      simp only [Value.agg.injEq, Array.mk.injEq, List.cons.injEq, and_true, Value.bool.injEq] at evq
      obtain ⟨enq, rfl⟩ := evq
      exact bodyPost_ret (v := .agg #[.bool nq, .slice oq lq cq]) (by simp [results, Try.results45, go_sem, ht.c0, ht.c1]) rfl (retI_of (n := n) (ret_two T5.out (by omega) HE3.out.old hvq) (by rw [HN.out, enq]) (by rw [HN.out]))
    · by_cases heq : R.natAbs + R.natAbs = b.natAbs
      · have hr : r = 0 := by have h1 := HR1.out; have h2 := HR2.out; omega
        subst hr
        by_cases ho : Q.natAbs % 2 = 1
        · have e0 : od = true := by rw [HOD.out]; simpa using ho
          subst e0
          have u0 := HE3.out.six.t0.c0
          have u1 := HE3.out.six.t1.c0
          by_cases hs : (na != nb) = true
          · have hs' : (!na == nb) = true := hs
            have hn := K3.out (Or.inr ⟨heq, ho⟩) hs
            have HN := Lib.hid hn
            have g0 := HE3.out.q.c0
            have g1 := HE3.out.q.c1
            clear hn
            go_wp2_with fail
            go_region_held3 (fun w' => w'.cell? ⟨w1.heap.size, 0, none⟩ = some (.bool nq) ∧ w'.cell? ⟨w1.heap.size, 1, none⟩ = some (.slice oq lq cq))
              (first | (with_reducible exact ⟨d0, d1'⟩) | (with_reducible exact ⟨e0, e1⟩) | (with_reducible exact ⟨x0, x1⟩) | go_keep)
              (first
                | (go_at_call 41; refine (HOF.out _).mono ?_; rintro e w4 ⟨z4, rfl, hz4, ho4⟩; have O4 := Lib.hid ((Old.refl _).drew.trans ho4); have Z4 := Lib.hid hz4; have d0 := (HE3.out.step O4.out).q.c0; have d1' := (HE3.out.step O4.out).q.c1; clear hz4 ho4)
                | (go_at_call 43; refine (HSUB.out _ _ _ (HE3.out.step O4.out).rq Z4.out).mono ?_; rintro e w5 ⟨z5, rfl, ⟨v5, rfl, hr5⟩, ho5⟩; obtain ⟨o5, c5, rfl, _⟩ := id hr5; have O5 := Lib.hid (O4.out.trans ho5); have R5 := Lib.hid hr5; have e0 := (HE3.out.step O5.out).q.c0; have e1 := (HE3.out.step O5.out).q.c1; have T5 := Lib.hid (HE3.out.step O5.out).six.t2; have t0 := T5.out.c0; have t1 := T5.out.c1; have t2 := T5.out.f 0; have t3 := T5.out.f 1; have bq : ¬ w1.heap.size = w.heap.size + 1 + 1 := by omega
                   have x0 := cell_far (B := w.heap.size + 1 + 1) e0 bq (.bool (decide (Q - 1 < 0))) (.slice o5 (dig (Q - 1).natAbs).length c5); have x1 := cell_far (B := w.heap.size + 1 + 1) e1 bq (.bool (decide (Q - 1 < 0))) (.slice o5 (dig (Q - 1).natAbs).length c5); clear hr5 ho5 d0 d1'))
            go_wp2_with fail
            have ht := T5.out.set (.bool (decide (Q - 1 < 0))) (.slice o5 (dig (Q - 1).natAbs).length c5)
            exact bodyPost_ret (v := .agg #[.bool (decide (Q - 1 < 0)), .slice o5 (dig (Q - 1).natAbs).length c5]) (by simp [results, Try.results45, go_sem, ht.c0, ht.c1]) rfl (retI_of (n := n) (ret_two T5.out (by omega) (HE3.out.step O5.out).old R5.out) (by rw [HN.out]) (by rw [HN.out]))
          · have hs0 : (na != nb) = false := by simpa using hs
            have hs' : (!na == nb) = false := hs0
            have hn := K4.out (Or.inr ⟨heq, ho⟩) hs0
            have HN := Lib.hid hn
            have g0 := HE3.out.q.c0
            have g1 := HE3.out.q.c1
            clear hn
            go_wp2_with fail
            go_region_held3 (fun w' => w'.cell? ⟨w1.heap.size, 0, none⟩ = some (.bool nq) ∧ w'.cell? ⟨w1.heap.size, 1, none⟩ = some (.slice oq lq cq))
              (first | (with_reducible exact ⟨d0, d1'⟩) | (with_reducible exact ⟨e0, e1⟩) | (with_reducible exact ⟨x0, x1⟩) | go_keep)
              (first
                | (go_at_call 41; refine (HOF.out _).mono ?_; rintro e w4 ⟨z4, rfl, hz4, ho4⟩; have O4 := Lib.hid ((Old.refl _).drew.trans ho4); have Z4 := Lib.hid hz4; have d0 := (HE3.out.step O4.out).q.c0; have d1' := (HE3.out.step O4.out).q.c1; clear hz4 ho4)
                | (go_at_call 42; refine (HADD.out _ _ _ (HE3.out.step O4.out).rq Z4.out).mono ?_; rintro e w5 ⟨z5, rfl, ⟨v5, rfl, hr5⟩, ho5⟩; obtain ⟨o5, c5, rfl, _⟩ := id hr5; have O5 := Lib.hid (O4.out.trans ho5); have R5 := Lib.hid hr5; have e0 := (HE3.out.step O5.out).q.c0; have e1 := (HE3.out.step O5.out).q.c1; have T5 := Lib.hid (HE3.out.step O5.out).six.t2; have t0 := T5.out.c0; have t1 := T5.out.c1; have t2 := T5.out.f 0; have t3 := T5.out.f 1; have bq : ¬ w1.heap.size = w.heap.size + 1 + 1 := by omega
                   have x0 := cell_far (B := w.heap.size + 1 + 1) e0 bq (.bool (decide (Q + 1 < 0))) (.slice o5 (dig (Q + 1).natAbs).length c5); have x1 := cell_far (B := w.heap.size + 1 + 1) e1 bq (.bool (decide (Q + 1 < 0))) (.slice o5 (dig (Q + 1).natAbs).length c5); clear hr5 ho5 d0 d1'))
            go_wp2_with fail
            have ht := T5.out.set (.bool (decide (Q + 1 < 0))) (.slice o5 (dig (Q + 1).natAbs).length c5)
            exact bodyPost_ret (v := .agg #[.bool (decide (Q + 1 < 0)), .slice o5 (dig (Q + 1).natAbs).length c5]) (by simp [results, Try.results45, go_sem, ht.c0, ht.c1]) rfl (retI_of (n := n) (ret_two T5.out (by omega) (HE3.out.step O5.out).old R5.out) (by rw [HN.out]) (by rw [HN.out]))
        · have e0 : od = false := by rw [HOD.out]; simpa using ho
          subst e0
          have HN := Lib.hid (K2.out heq (by omega))
          have c0 := HE3.out.q.c0
          have c1 := HE3.out.q.c1
          have T5 := Lib.hid HE3.out.six.t2
          have t0 := T5.out.c0
          have t1 := T5.out.c1
          have t2 := T5.out.f 0
          have t3 := T5.out.f 1
          go_wp2_with fail
          have ht := T5.out.set (.bool nq) (.slice oq lq cq)
          obtain ⟨vq, evq, hvq⟩ := HE3.out.rq
          simp only [Value.agg.injEq, Array.mk.injEq, List.cons.injEq, and_true, Value.bool.injEq] at evq
          obtain ⟨enq, rfl⟩ := evq
          exact bodyPost_ret (v := .agg #[.bool nq, .slice oq lq cq]) (by simp [results, Try.results45, go_sem, ht.c0, ht.c1]) rfl (retI_of (n := n) (ret_two T5.out (by omega) HE3.out.old hvq) (by rw [HN.out, enq]) (by rw [HN.out]))
      · have hr : 0 < r := HR2.out.2 (by omega)
        have hr0 : ¬ r < 0 := by omega
        have hr1 : (r == 0) = false := eq0_false (by omega)
        have u0 := HE3.out.six.t0.c0
        have u1 := HE3.out.six.t1.c0
        by_cases hs : (na != nb) = true
        · have hs' : (!na == nb) = true := hs
          have hn := K3.out (Or.inl (by omega)) hs
          have HN := Lib.hid hn
          have g0 := HE3.out.q.c0
          have g1 := HE3.out.q.c1
          clear hn
          go_wp2_with fail
          go_region_held3 (fun w' => w'.cell? ⟨w1.heap.size, 0, none⟩ = some (.bool nq) ∧ w'.cell? ⟨w1.heap.size, 1, none⟩ = some (.slice oq lq cq))
            (first | (with_reducible exact ⟨d0, d1'⟩) | (with_reducible exact ⟨e0, e1⟩) | (with_reducible exact ⟨x0, x1⟩) | go_keep)
            (first
              | (go_at_call 41; refine (HOF.out _).mono ?_; rintro e w4 ⟨z4, rfl, hz4, ho4⟩; have O4 := Lib.hid ((Old.refl _).drew.trans ho4); have Z4 := Lib.hid hz4; have d0 := (HE3.out.step O4.out).q.c0; have d1' := (HE3.out.step O4.out).q.c1; clear hz4 ho4)
              | (go_at_call 43; refine (HSUB.out _ _ _ (HE3.out.step O4.out).rq Z4.out).mono ?_; rintro e w5 ⟨z5, rfl, ⟨v5, rfl, hr5⟩, ho5⟩; obtain ⟨o5, c5, rfl, _⟩ := id hr5; have O5 := Lib.hid (O4.out.trans ho5); have R5 := Lib.hid hr5; have e0 := (HE3.out.step O5.out).q.c0; have e1 := (HE3.out.step O5.out).q.c1; have T5 := Lib.hid (HE3.out.step O5.out).six.t2; have t0 := T5.out.c0; have t1 := T5.out.c1; have t2 := T5.out.f 0; have t3 := T5.out.f 1; have bq : ¬ w1.heap.size = w.heap.size + 1 + 1 := by omega
                 have x0 := cell_far (B := w.heap.size + 1 + 1) e0 bq (.bool (decide (Q - 1 < 0))) (.slice o5 (dig (Q - 1).natAbs).length c5); have x1 := cell_far (B := w.heap.size + 1 + 1) e1 bq (.bool (decide (Q - 1 < 0))) (.slice o5 (dig (Q - 1).natAbs).length c5); clear hr5 ho5 d0 d1'))
          go_wp2_with fail
          have ht := T5.out.set (.bool (decide (Q - 1 < 0))) (.slice o5 (dig (Q - 1).natAbs).length c5)
          exact bodyPost_ret (v := .agg #[.bool (decide (Q - 1 < 0)), .slice o5 (dig (Q - 1).natAbs).length c5]) (by simp [results, Try.results45, go_sem, ht.c0, ht.c1]) rfl (retI_of (n := n) (ret_two T5.out (by omega) (HE3.out.step O5.out).old R5.out) (by rw [HN.out]) (by rw [HN.out]))
        · have hs0 : (na != nb) = false := by simpa using hs
          have hs' : (!na == nb) = false := hs0
          have hn := K4.out (Or.inl (by omega)) hs0
          have HN := Lib.hid hn
          have g0 := HE3.out.q.c0
          have g1 := HE3.out.q.c1
          clear hn
          go_wp2_with fail
          go_region_held3 (fun w' => w'.cell? ⟨w1.heap.size, 0, none⟩ = some (.bool nq) ∧ w'.cell? ⟨w1.heap.size, 1, none⟩ = some (.slice oq lq cq))
            (first | (with_reducible exact ⟨d0, d1'⟩) | (with_reducible exact ⟨e0, e1⟩) | (with_reducible exact ⟨x0, x1⟩) | go_keep)
            (first
              | (go_at_call 41; refine (HOF.out _).mono ?_; rintro e w4 ⟨z4, rfl, hz4, ho4⟩; have O4 := Lib.hid ((Old.refl _).drew.trans ho4); have Z4 := Lib.hid hz4; have d0 := (HE3.out.step O4.out).q.c0; have d1' := (HE3.out.step O4.out).q.c1; clear hz4 ho4)
              | (go_at_call 42; refine (HADD.out _ _ _ (HE3.out.step O4.out).rq Z4.out).mono ?_; rintro e w5 ⟨z5, rfl, ⟨v5, rfl, hr5⟩, ho5⟩; obtain ⟨o5, c5, rfl, _⟩ := id hr5; have O5 := Lib.hid (O4.out.trans ho5); have R5 := Lib.hid hr5; have e0 := (HE3.out.step O5.out).q.c0; have e1 := (HE3.out.step O5.out).q.c1; have T5 := Lib.hid (HE3.out.step O5.out).six.t2; have t0 := T5.out.c0; have t1 := T5.out.c1; have t2 := T5.out.f 0; have t3 := T5.out.f 1; have bq : ¬ w1.heap.size = w.heap.size + 1 + 1 := by omega
                 have x0 := cell_far (B := w.heap.size + 1 + 1) e0 bq (.bool (decide (Q + 1 < 0))) (.slice o5 (dig (Q + 1).natAbs).length c5); have x1 := cell_far (B := w.heap.size + 1 + 1) e1 bq (.bool (decide (Q + 1 < 0))) (.slice o5 (dig (Q + 1).natAbs).length c5); clear hr5 ho5 d0 d1'))
          go_wp2_with fail
          have ht := T5.out.set (.bool (decide (Q + 1 < 0))) (.slice o5 (dig (Q + 1).natAbs).length c5)
          exact bodyPost_ret (v := .agg #[.bool (decide (Q + 1 < 0)), .slice o5 (dig (Q + 1).natAbs).length c5]) (by simp [results, Try.results45, go_sem, ht.c0, ht.c1]) rfl (retI_of (n := n) (ret_two T5.out (by omega) (HE3.out.step O5.out).old R5.out) (by rw [HN.out]) (by rw [HN.out]))

theorem evenI (a b : Int) (x y : Value) (w : World) (hx : RN w x a) (hy : RN w y b) (ha : Lo a) (hb : Lo b) (h0 : ¬ b = 0) : Calls Try.prog 45 #[x, y] w (RetI w (sgn a b (rnd a.natAbs b.natAbs))) := by
  obtain ⟨na, oa, la, ca, rfl⟩ := hx.form
  obtain ⟨nb, ob, lb, cb, rfl⟩ := hy.form
  have eq : (a.tdiv b).natAbs = a.natAbs / b.natAbs := Int.natAbs_tdiv a b
  have er : (a.tmod b).natAbs = a.natAbs % b.natAbs := Int.natAbs_tmod a b
  have hs := sgn_div a b
  have hna : na = decide (a < 0) := by
    obtain ⟨v, e, _⟩ := hx
    simp only [Value.agg.injEq, Array.mk.injEq, List.cons.injEq, and_true, Value.bool.injEq] at e
    exact e.1
  have hnb : nb = decide (b < 0) ∧ Rd w (.slice ob lb cb) (dig b.natAbs) := by
    obtain ⟨v, e, hr⟩ := hy
    simp only [Value.agg.injEq, Array.mk.injEq, List.cons.injEq, and_true, Value.bool.injEq] at e
    obtain ⟨e1, rfl⟩ := e
    exact ⟨e1, hr⟩
  have hle : a.natAbs / b.natAbs ≤ a.natAbs := Nat.div_le_self _ _
  have hrl : a.natAbs % b.natAbs ≤ a.natAbs := Nat.mod_le _ _
  have loQ : Lo (a.tdiv b) := by unfold Lo at *; rw [eq]; omega
  have lo1 : Lo 1 := i64_lo (by decide)
  have lR : (dig (a.tmod b).natAbs).length ≤ 19 := by rw [er]; exact Nat.le_trans (dig_mono hrl) (dig_len ha)
  have lb19 : (dig b.natAbs).length ≤ 19 := dig_len hb
  have l2 : (dig ((a.tmod b).natAbs + (a.tmod b).natAbs)).length ≤ 20 := dig_len (by rw [p10_19]; unfold Lo at ha; rw [er]; omega)
  have hsg : (na != nb) = true ↔ ¬ (a < 0 ↔ b < 0) := by
    rw [hna, hnb.1]
    by_cases h1 : a < 0 <;> by_cases h2 : b < 0 <;> simp [h1, h2]
  refine even_walk na nb oa ob la ca lb cb w a b (a.tdiv b) (a.tmod b) _ hx hy hnb.2 (fun W k1 k2 => quoI a b _ _ W k1 k2 ha hb h0)
    (fun W v h => by
      have := up_any _ _ v v W h h (dig_dg _) (dig_dg _) (by omega) (by omega)
      rw [up_dig] at this
      exact this)
    (fun W u k1 k2 => by
      have := by_any _ _ u _ W k1 k2 (dig_dg _) (dig_dg _) (dig_can _) (dig_can _) (by omega) (by omega)
      rw [dig_val, dig_val] at this
      exact this)
    (fun W => ofI 1 W (by decide)) (fun W z y k1 k2 => subI _ _ z y W k1 k2 loQ.sm lo1.sm) (fun W z y k1 k2 => addI _ _ z y W k1 k2 loQ.sm lo1.sm) ?_ ?_ ?_ ?_ loQ.sm
  · intro h
    rw [er] at h
    rw [← hs]
    unfold rnd
    rw [if_neg (by omega)]
  · intro h h2
    rw [er] at h
    rw [eq] at h2
    rw [← hs]
    unfold rnd
    rw [if_neg (by omega)]
  · intro h h2
    rw [er, eq] at h
    rw [← hs]
    unfold rnd
    rw [if_pos (by omega), sgn_other _ (hsg.1 h2), sgn_other _ (hsg.1 h2)]
    omega
  · intro h h2
    rw [er, eq] at h
    rw [← hs]
    unfold rnd
    have h3 : (a < 0 ↔ b < 0) := by
      by_cases h4 : (a < 0 ↔ b < 0)
      · exact h4
      · rw [hsg.2 h4] at h2; cases h2
    rw [if_pos (by omega), sgn_same _ h3, sgn_same _ h3]
    omega

end Go.Proofs.Ytmoomdikgfeifaa
