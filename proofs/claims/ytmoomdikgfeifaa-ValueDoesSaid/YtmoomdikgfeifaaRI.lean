/- The document's own numbers: back into an int64. -/
import Derived.Test.YtmoomdikgfeifaaRH
namespace Go.Proofs.Ytmoomdikgfeifaa
open Go.ChangeShapes Go.WideShapes Go.ChangeAt Go.RowKit
set_option linter.unusedVariables false

theorem val_drop_le {l : List Int} (hd : Dg l) (k : Nat) : 0 ≤ val (l.drop k) ∧ val (l.drop k) ≤ val l := by
  have h1 : Dg (l.drop k) := fun d h => hd d (List.mem_of_mem_drop h)
  have h2 := (val_bd _ h1).1
  have h3 := (val_bd _ (dg_take hd k)).1
  have h4 := val_split l k
  have h5 : 1 * val (l.drop k) ≤ p10 k * val (l.drop k) := Int.mul_le_mul_of_nonneg_right (by have := p10_pos k; omega) h2
  omega
theorem val_drop_succ (l : List Int) (k : Nat) (hk : k < l.length) : val (l.drop k) = l.getD k 0 + 10000 * val (l.drop (k + 1)) := by
  rw [List.drop_eq_getElem_cons hk, List.getD_eq_getElem?_getD, List.getElem?_eq_getElem hk]; rfl

set_option maxHeartbeats 1600000 in
set_option maxRecDepth 100000 in
theorem int_walk (na : Bool) (oa : Option Addr) (la ca : Nat) (w : World) (a lo hi : Int) (hx : RN w (.agg #[.bool na, .slice oa la ca]) a)
    (hof1 : ∀ W, Calls Try.prog 41 #[.int .i64 (-9223372036854775808)] W (RetI W lo)) (hof2 : ∀ W, Calls Try.prog 41 #[.int .i64 9223372036854775807] W (RetI W hi))
    (hc1 : ∀ W y, RN W (.agg #[.bool na, .slice oa la ca]) a → RN W y lo → Calls Try.prog 33 #[.agg #[.bool na, .slice oa la ca], y] W (RetS W a lo))
    (hc2 : ∀ W y, RN W (.agg #[.bool na, .slice oa la ca]) a → RN W y hi → Calls Try.prog 33 #[.agg #[.bool na, .slice oa la ca], y] W (RetS W a hi))
    (out1 : a < lo → ¬ I64 a) (out2 : hi < a → ¬ I64 a) (inn : lo ≤ a → a ≤ hi → I64 a) (sa : Sm 900 a) :
    Calls Try.prog 47 #[.agg #[.bool na, .slice oa la ca]] w fun e w' => e = pr (fitV a) (fitE a) ∧ Old w w' := by
  have HO := Lib.hid ((Old.refl w).alloc (.cells #[.bool na, .slice oa la ca] 47))
  have T0 := Lib.hid (Two.new w (.bool na) (.slice oa la ca))
  go_enter Try.func47, Try.ntmps47
  go_wp2_with fail
  generalize hW : (w.alloc (.cells #[.bool na, .slice oa la ca] 47)) = W at *
  clear hW
  refine (hof1 _).mono ?_
  rintro e w1 ⟨x1, rfl, hx1, ho1⟩
  obtain ⟨n1, o1, l1, k1, rfl⟩ := hx1.form
  go_wp2_with fail
  refine (hof2 _).mono ?_
  rintro e w2 ⟨x2, rfl, hx2, ho2⟩
  obtain ⟨n2, o2, l2, k2, rfl⟩ := hx2.form
  have T2 := Lib.hid (T0.out.old (ho1.trans ho2))
  have O2 := Lib.hid (HO.out.trans (ho1.trans ho2))
  have X1 := Lib.hid (hx1.old ho2)
  have X2 := Lib.hid hx2
  clear hx1 hx2 ho1 ho2 T0
  have A2 := Lib.hid (hx.old O2.out)
  clear HO hx
  have t0 := T2.out.c0
  have t1 := T2.out.c1
  have tl := T2.out.lt
  go_wp2_with fail
  have T3 := Lib.hid ((T2.out.alloc (.cells #[.bool n1, .slice o1 l1 k1] 47)).alloc (.cells #[.bool n2, .slice o2 l2 k2] 47))
  have T4 := Lib.hid ((Two.new w2 (.bool n1) (.slice o1 l1 k1)).alloc (.cells #[.bool n2, .slice o2 l2 k2] 47))
  have T5 := Two.new (w2.alloc (.cells #[.bool n1, .slice o1 l1 k1] 47)) (.bool n2) (.slice o2 l2 k2)
  rw [show (w2.alloc (.cells #[.bool n1, .slice o1 l1 k1] 47)).heap.size = w2.heap.size + 1 by simp] at T5
  have O23 := ((Old.refl w2).alloc (.cells #[.bool n1, .slice o1 l1 k1] 47)).alloc (.cells #[.bool n2, .slice o2 l2 k2] 47)
  have A3 := Lib.hid (A2.out.old O23)
  have X13 := Lib.hid (X1.out.old O23)
  have X23 := Lib.hid (X2.out.old O23)
  have O3 := Lib.hid (O2.out.trans O23)
  clear O23 A2 X1 X2 O2 T2 t0 t1 tl
  generalize hW : ((w2.alloc (.cells #[.bool n1, .slice o1 l1 k1] 47)).alloc (.cells #[.bool n2, .slice o2 l2 k2] 47)) = W3 at *
  clear hW
  refine (hc1 _ _ A3.out X13.out).mono ?_
  rintro e w4 ⟨r1, rfl, hr1, ho4⟩
  have O4 := Lib.hid (O3.out.trans ho4)
  have T34 := Lib.hid (T3.out.old ho4)
  have T44 := Lib.hid (T4.out.old ho4)
  have T54 := Lib.hid (T5.old ho4)
  have A4 := Lib.hid (A3.out.old ho4)
  have X24 := Lib.hid (X23.out.old ho4)
  clear O3 T3 T4 T5 A3 X13 X23 ho4
  have t0 := T34.out.c0
  have t1 := T34.out.c1
  have t4 := T54.out.c0
  have t5 := T54.out.c1
  have OUT1 := Lib.hid out1
  have OUT2 := Lib.hid out2
  have INN := Lib.hid inn
  clear out1 out2 inn
  by_cases hlo : a < lo
  · have hr : r1 = -1 := by omega
    have HF := Lib.hid (OUT1.out hlo)
    subst hr
    clear hr1
    go_wp2_with fail
    go_ret2
    exact ⟨two _ _ _ _ (fitV_out HF.out).symm (fitE_out HF.out).symm, O4.out⟩
  · have hr : 0 ≤ r1 := by omega
    clear hr1
    go_wp2_with fail
    refine (hc2 _ _ A4.out X24.out).mono ?_
    rintro e w5 ⟨r2, rfl, hr2, ho5⟩
    have O5 := Lib.hid (O4.out.trans ho5)
    have T35 := Lib.hid (T34.out.old ho5)
    have A5 := Lib.hid (A4.out.old ho5)
    clear O4 T34 T44 T54 A4 X24 ho5 t0 t1 t4 t5
    have t0 := T35.out.c0
    have t1 := T35.out.c1
    by_cases hhi : hi < a
    · have hr3 : 0 < r2 := by omega
      have HF := Lib.hid (OUT2.out hhi)
      clear hr2
      go_wp2_with fail
      go_ret2
      exact ⟨two _ _ _ _ (fitV_out HF.out).symm (fitE_out HF.out).symm, O5.out⟩
    · have hr3 : ¬ 0 < r2 := by omega
      have hf := INN.out (by omega) (by omega)
      have HF := Lib.hid hf
      clear hr2
      obtain ⟨v, ev, hrd⟩ := A5.out
      simp only [Value.agg.injEq, Array.mk.injEq, List.cons.injEq, and_true, Value.bool.injEq] at ev
      obtain ⟨ena, rfl⟩ := ev
      obtain ⟨oa', ca', eo, a1, a2, a3⟩ := hrd
      simp only [Value.slice.injEq] at eo
      obtain ⟨rfl, hla, rfl⟩ := eo
      unfold I64 at hf
      unfold Sm at sa
      have HLA := Lib.hid hla
      rw [← hla] at sa a1 a3
      clear hla
      have HV : Hid (∀ k, 0 ≤ val ((dig a.natAbs).drop k) ∧ val ((dig a.natAbs).drop k) ≤ a.natAbs) := fun k => by
        have := val_drop_le (dig_dg a.natAbs) k
        rw [dig_val] at this; exact this
      have HN : Hid (∀ k, k < la → val ((dig a.natAbs).drop k) = (dig a.natAbs).getD k 0 + 10000 * val ((dig a.natAbs).drop (k + 1))) := fun k hk => val_drop_succ _ k (by have := HLA.out; omega)
      have HG : Hid (∀ k, 0 ≤ (dig a.natAbs).getD k 0 ∧ (dig a.natAbs).getD k 0 < 10000) := fun k => dg_getD (dig_dg _) k
      have H0 : Hid (val ((dig a.natAbs).drop 0) = a.natAbs) := by show val ((dig a.natAbs).drop 0) = _; rw [List.drop_zero, dig_val]
      have HL : Hid (val ((dig a.natAbs).drop la) = 0) := by show val ((dig a.natAbs).drop la) = 0; rw [List.drop_eq_nil_of_le (by have := HLA.out; omega)]; rfl
      obtain ⟨V, hV⟩ : ∃ V : Nat → Int, V = fun k => val ((dig a.natAbs).drop k) := ⟨_, rfl⟩
      obtain ⟨D, hD⟩ : ∃ D : Nat → Int, D = fun k => (dig a.natAbs).getD k 0 := ⟨_, rfl⟩
      have HV' : Hid (∀ k, 0 ≤ V k ∧ V k ≤ a.natAbs) := by rw [hV]; exact HV
      have HN' : Hid (∀ k, k < la → V k = D k + 10000 * V (k + 1)) := by rw [hV, hD]; exact HN
      have HG' : Hid (∀ k, 0 ≤ D k ∧ D k < 10000) := by rw [hD]; exact HG
      have H0' : Hid (V 0 = a.natAbs) := by rw [hV]; exact H0
      have HL' : Hid (V la = 0) := by rw [hV]; exact HL
      have a3' : Hid (∀ j, j < la → ∃ g, oa = some ⟨g, 0, none⟩ ∧ g < w5.heap.size ∧ w5.cell? ⟨g, j, none⟩ = some (.int .i64 (D j))) := by rw [hD]; exact a3
      clear HV HN HG H0 HL a3 hV hD HLA A5
      by_cases hneg : a < 0
      · obtain rfl : na = true := by rw [ena]; simpa using hneg
        clear ena
        go_wp2_with fail
        go_loop [6, 7] (fun n i => ∃ k : Nat, k ≤ la ∧ i = .int .i64 ((k : Int) - 1) ∧ n = .int .i64 (-(V k))) (fun _ i => (intOf i + 1).toNat)
        case atStart => exact ⟨la, Nat.le_refl _, rfl, by rw [HL'.out]; rfl⟩
        case round =>
          obtain ⟨k, hk, rfl, rfl⟩ := hrel
          rcases k with _ | k
          · have e0 := H0'.out
            have E0 : Hid (-(V 0) = a) := by show -(V 0) = a; omega
            clear e0
            go_wp2_with fail
            go_ret2
            exact ⟨two _ _ _ _ (E0.out.trans (fitV_in HF.out).symm) (fitE_in HF.out).symm, O5.out⟩
          · obtain ⟨g, rfl, hg, hcell⟩ := a3'.out k (by omega)
            have b1 := HV'.out k
            have b2 := HV'.out (k + 1)
            have b3 := HG'.out k
            have b4 := HN'.out k (by omega)
            obtain ⟨x, hx⟩ : ∃ x, x = D k := ⟨_, rfl⟩
            obtain ⟨y, hy⟩ : ∃ y, y = V (k + 1) := ⟨_, rfl⟩
            obtain ⟨z, hz⟩ : ∃ z, z = V k := ⟨_, rfl⟩
            rw [← hx] at hcell b3 b4
            rw [← hy] at b2 b4 ⊢
            rw [← hz] at b1 b4
            have HZ : Hid (-y * 10000 - x = -(V k)) := by show -y * 10000 - x = -(V k); rw [← hz]; omega
            have b5 : -9223372036854775808 ≤ -y * 10000 - x := by omega
            have b6 : -9223372036854775808 ≤ -y * 10000 := by omega
            clear hx hy hz b4 b1
            go_wp2_with fail
            exact ⟨⟨k, by omega, rfl, congrArg (Value.int IntKind.i64) HZ.out⟩, by simp [intOf]⟩
      · obtain rfl : na = false := by rw [ena]; simpa using hneg
        clear ena
        go_wp2_with fail
        go_loop [6, 7] (fun n i => ∃ k : Nat, k ≤ la ∧ i = .int .i64 ((k : Int) - 1) ∧ n = .int .i64 (V k)) (fun _ i => (intOf i + 1).toNat)
        case atStart => exact ⟨la, Nat.le_refl _, rfl, by rw [HL'.out]⟩
        case round =>
          obtain ⟨k, hk, rfl, rfl⟩ := hrel
          rcases k with _ | k
          · have e0 := H0'.out
            have E0 : Hid (V 0 = a) := by show V 0 = a; omega
            clear e0
            go_wp2_with fail
            go_ret2
            exact ⟨two _ _ _ _ (E0.out.trans (fitV_in HF.out).symm) (fitE_in HF.out).symm, O5.out⟩
          · obtain ⟨g, rfl, hg, hcell⟩ := a3'.out k (by omega)
            have b1 := HV'.out k
            have b2 := HV'.out (k + 1)
            have b3 := HG'.out k
            have b4 := HN'.out k (by omega)
            obtain ⟨x, hx⟩ : ∃ x, x = D k := ⟨_, rfl⟩
            obtain ⟨y, hy⟩ : ∃ y, y = V (k + 1) := ⟨_, rfl⟩
            obtain ⟨z, hz⟩ : ∃ z, z = V k := ⟨_, rfl⟩
            rw [← hx] at hcell b3 b4
            rw [← hy] at b2 b4 ⊢
            rw [← hz] at b1 b4
            have HZ : Hid (y * 10000 + x = V k) := by show y * 10000 + x = V k; rw [← hz]; omega
            have b5 : y * 10000 + x ≤ 9223372036854775807 := by omega
            have b6 : y * 10000 ≤ 9223372036854775807 := by omega
            clear hx hy hz b4 b1
            go_wp2_with fail
            exact ⟨⟨k, by omega, rfl, congrArg (Value.int IntKind.i64) HZ.out⟩, by simp [intOf]⟩

theorem sm_big {n : Int} (h : (n.natAbs : Int) < p10 20) : Sm 900 n := Nat.le_trans (dig_len h) (by omega)
theorem p10_20 : p10 20 = 100000000000000000000000000000000000000000000000000000000000000000000000000000000 := by decide
/-- A number of at most 19 digits to the base 10000. -/
def Lo (n : Int) : Prop := (n.natAbs : Int) < p10 19
theorem p10_19 : p10 20 = 10000 * p10 19 := rfl
theorem Lo.sm {n : Int} (h : Lo n) : Sm 900 n := sm_big (by unfold Lo at h; have := p10_pos 19; rw [p10_19]; omega)
theorem Lo.sub {n m : Int} (h : Lo n) (k : Lo m) : Sm 900 (n - m) := sm_big (by unfold Lo at h k; rw [p10_19]; omega)
theorem i64_lo {n : Int} (h : I64 n) : Lo n := by
  unfold Lo I64 at *
  have : p10 19 = 10000000000000000000000000000000000000000000000000000000000000000000000000000 := by decide
  rw [this]; omega

theorem intI (a : Int) (x : Value) (w : World) (hx : RN w x a) (ha : Lo a) : Calls Try.prog 47 #[x] w fun e w' => e = pr (fitV a) (fitE a) ∧ Old w w' := by
  obtain ⟨na, oa, la, ca, rfl⟩ := hx.form
  have h1 : I64 (-9223372036854775808) := by decide
  have h2 : I64 9223372036854775807 := by decide
  exact int_walk na oa la ca w a (-9223372036854775808) 9223372036854775807 hx (fun W => ofI _ W h1) (fun W => ofI _ W h2)
    (fun W y k1 k2 => cmpI _ _ _ _ W k1 k2 ha.sm (i64_lo h1).sm (ha.sub (i64_lo h1))) (fun W y k1 k2 => cmpI _ _ _ _ W k1 k2 ha.sm (i64_lo h2).sm (ha.sub (i64_lo h2)))
    (fun h k => by unfold I64 at k; omega) (fun h k => by unfold I64 at k; omega) (fun h k => ⟨h, k⟩) ha.sm

end Go.Proofs.Ytmoomdikgfeifaa
