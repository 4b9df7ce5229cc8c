/- Layer template: which values are a fact's. -/
import Derived.Test.YtcedcfkjoppjdaaNI
namespace Go.Proofs.Ytcedcfkjoppjdaa
open Go.ChangeShapes Go.WideShapes Go.ChangeAt Go.RowKit Go.Lib
set_option linter.unusedVariables false
set_option linter.unusedSimpArgs false
set_option maxRecDepth 100000

/-- The slice v reads as these values. -/
def VR (w : World) (v : Value) (l : List Vl) : Prop :=
  ∃ oa cap, v = .slice oa l.length cap ∧ l.length ≤ cap ∧ cap ≤ maxLen ∧ ∀ j x, l[j]? = some x → ∃ g o, oa = some ⟨g, o, none⟩ ∧ g < w.heap.size ∧ w.cell? ⟨g, o + j * 3, none⟩ = some (.int .u8 x.k) ∧ w.cell? ⟨g, o + j * 3 + 1, none⟩ = some (.int .i64 x.n) ∧ w.cell? ⟨g, o + j * 3 + 2, none⟩ = some (.string x.s) ∧ x.s.size ≤ maxLen
theorem VR.old {w w' : World} {v : Value} {l : List Vl} (h : VR w v l) (ho : Old w w') : VR w' v l := by
  obtain ⟨oa, cap, rfl, h1, h2, h3⟩ := h
  refine ⟨oa, cap, rfl, h1, h2, fun j x hj => ?_⟩
  obtain ⟨g, o, rfl, hg, c0, c1, c2, hs⟩ := h3 j x hj
  exact ⟨g, o, rfl, Nat.lt_of_lt_of_le hg ho.size, (ho.cell hg).trans c0, (ho.cell hg).trans c1, (ho.cell hg).trans c2, hs⟩

/-- May this value be, and be in a slot of that kind? -/
def goB (k' k n : Int) (s : ByteArray) : Bool := mayB k n s && (k == 0 || k == k')
theorem goes_any (n' : ByteArray) (k' k n : Int) (s : ByteArray) (w : World) : Calls Try.prog 33 #[sv n' k', vl k n s] w fun e w' => e = .returned (.bool (goB k' k n s)) ∧ Old w w' := by
  have HO := Lib.hid (((Old.refl w).alloc (.cells #[.string n', .int .u8 k'] 41)).alloc (.cells #[.int .u8 k, .int .i64 n, .string s] 45))
  have hb0 := Three.new (w.alloc (.cells #[.string n', .int .u8 k'] 41)) (.int .u8 k) (.int .i64 n) (.string s)
  have es : (w.alloc (.cells #[.string n', .int .u8 k'] 41)).heap.size = w.heap.size + 1 := by simp
  rw [es] at hb0
  have HB := Lib.hid hb0
  have HA := Lib.hid ((Two.new w (.string n') (.int .u8 k') 41).old ((Old.refl _).alloc (.cells #[.int .u8 k, .int .i64 n, .string s] 45)))
  clear hb0 es
  have hm := fun W => may_any k n s W
  unfold goB
  cases hE : mayB k n s
  · rw [hE] at hm
    clear hE
    rw [Bool.false_and]
    go_enter Try.func33, Try.ntmps33
    go_wp2_with (go_at_call 37; (with_reducible refine (hm _).mono ?_); rintro e w1 ⟨rfl, o1⟩; have HO1 := Lib.hid (HO.out.trans o1); clear o1)
    go_ret
    exact ⟨rfl, HO1.out⟩
  · rw [hE] at hm
    clear hE
    rw [Bool.true_and]
    by_cases h0 : k = 0
    · subst h0
      go_enter Try.func33, Try.ntmps33
      go_wp2_with (go_at_call 37; (with_reducible refine (hm _).mono ?_); rintro e w1 ⟨rfl, o1⟩; have HO1 := Lib.hid (HO.out.trans o1); have A := Lib.hid (HA.out.old o1); have B := Lib.hid (HB.out.old o1); have c0 := A.out.c0; have c1 := A.out.c1; have b0 := B.out.c0; have b1 := B.out.c1; have b2 := B.out.c2; clear o1)
      go_ret
      exact ⟨rb _ _ (by simp), HO1.out⟩
    · have e0 : (k == 0) = false := by simpa using h0
      clear h0
      go_enter Try.func33, Try.ntmps33
      go_wp2_with (go_at_call 37; (with_reducible refine (hm _).mono ?_); rintro e w1 ⟨rfl, o1⟩; have HO1 := Lib.hid (HO.out.trans o1); have A := Lib.hid (HA.out.old o1); have B := Lib.hid (HB.out.old o1); have c0 := A.out.c0; have c1 := A.out.c1; have b0 := B.out.c0; have b1 := B.out.c1; have b2 := B.out.c2; clear o1)
      go_ret
      exact ⟨rb _ _ (by rw [e0]; simp), HO1.out⟩

/-- Of the first values each may be in its slot. -/
def vTo (ls : List Sl) (s : List Vl) : Nat → Bool
  | 0 => true
  | j + 1 => vTo ls s j && (match ls[j]?, s[j]? with | some y, some x => goB y.k x.k x.n x.s | _, _ => false)
theorem vTo_next {ls : List Sl} {s : List Vl} {j : Nat} {y : Sl} {x : Vl} (h : vTo ls s j = true) (hy : ls[j]? = some y) (hx : s[j]? = some x) (hg : goB y.k x.k x.n x.s = true) : vTo ls s (j + 1) = true := by
  rw [vTo, h, hy, hx]; exact hg
theorem vTo_no {ls : List Sl} {s : List Vl} {j : Nat} {y : Sl} {x : Vl} (hy : ls[j]? = some y) (hx : s[j]? = some x) (hg : goB y.k x.k x.n x.s = false) : ∀ n, j < n → vTo ls s n = false
  | 0, h => absurd h (Nat.not_lt_zero _)
  | n + 1, h => by
    rw [vTo]
    rcases Nat.lt_or_eq_of_le (Nat.le_of_lt_succ h) with h | h
    · rw [vTo_no hy hx hg n h]; rfl
    · subst h; rw [hy, hx]; simp only [hg, Bool.and_false]
/-- May these be the values of a fact with such slots? -/
def fitL (ls : List Sl) (s : List Vl) : Int := if s.length ≠ ls.length then 14 else if vTo ls s s.length = true then 0 else 8
def fitsI (l : List Tp) (t : Int) (s : List Vl) : Int := if t < 0 then 5 else match l[t.toNat]? with | some x => fitL x.l s | none => 5
theorem fitsI_neg {l : List Tp} {t : Int} {s : List Vl} (h : t < 0) : fitsI l t s = 5 := by unfold fitsI; rw [if_pos h]
theorem fitsI_far {l : List Tp} {t : Int} {s : List Vl} (h : (l.length : Int) ≤ t) : fitsI l t s = 5 := by
  unfold fitsI
  by_cases h0 : t < 0
  · rw [if_pos h0]
  · rw [if_neg h0, List.getElem?_eq_none (by omega)]
theorem fitsI_at {l : List Tp} {m : Nat} {s : List Vl} {x : Tp} (h : l[m]? = some x) : fitsI l (m : Int) s = fitL x.l s := by
  unfold fitsI
  rw [if_neg (by omega), Int.toNat_natCast, h]

set_option maxHeartbeats 3200000 in
theorem fits_any (l : List Tp) (v : Value) (t : Int) (s : List Vl) (u : Value) (w : World) (hl : TR w v l) (hu : VR w u s) (ht : -9223372036854775808 ≤ t ∧ t ≤ 9223372036854775807) : Calls Try.prog 22 #[v, .int .i64 t, u] w fun e w' => e = .returned (.int .i64 (fitsI l t s)) ∧ Old w w' := by
  obtain ⟨oa, c, rfl, a1, a2, a3⟩ := hl
  obtain ⟨N, hN⟩ : ∃ n, n = l.length := ⟨_, rfl⟩
  rw [← hN] at a1 ⊢
  unfold maxLen at a2
  have HN := Lib.hid hN
  have HA := Lib.hid a3
  obtain ⟨ob, uc, rfl, f1, f2, f3⟩ := hu
  obtain ⟨S, hS⟩ : ∃ n, n = s.length := ⟨_, rfl⟩
  rw [← hS] at f1 ⊢
  unfold maxLen at f2
  have HS := Lib.hid hS
  have HF := Lib.hid f3
  clear hN a3 hS f3
  by_cases h0 : t < 0
  · rw [fitsI_neg h0]
    go_enter Try.func22, Try.ntmps22
    go_wp2_with fail
    go_ret
    exact ⟨rfl, Old.refl w⟩
  by_cases hfar : (N : Int) ≤ t
  · rw [fitsI_far (by rw [← HN.out]; exact hfar)]
    have h0' : 0 ≤ t := by omega
    clear h0
    go_enter Try.func22, Try.ntmps22
    go_wp2_with fail
    go_ret
    exact ⟨rfl, Old.refl w⟩
  obtain ⟨m, rfl⟩ : ∃ m : Nat, t = (m : Int) := ⟨t.toNat, by omega⟩
  have hm : m < N := by omega
  clear h0 hfar ht
  obtain ⟨x, hx⟩ : ∃ x, l[m]? = some x := ⟨l[m]'(by rw [← HN.out]; exact hm), List.getElem?_eq_getElem _⟩
  obtain ⟨xn, xv, xl⟩ := x
  obtain ⟨g, o, rfl, hgl, c0, c1, hs, hsr⟩ := HA.out m _ hx
  obtain ⟨sa, sc, hv, b1, b2, b3⟩ := id hsr
  obtain ⟨M, hM⟩ : ∃ M, M = xl.length := ⟨_, rfl⟩
  simp only at hv hsr c0 c1 hs b1 b2 b3
  rw [← hM] at hv b1
  unfold maxLen at b2
  subst hv
  have HM := Lib.hid hM
  have HB := Lib.hid b3
  rw [fitsI_at hx]
  have C0 := Lib.hid c0
  have C1 := Lib.hid c1
  have DL0 := Lib.hid hgl
  have d0 := C0.out
  have d1 := C1.out
  clear hM b3 hx hs hsr c0 c1 hgl
  by_cases hSM : S = M
  · subst hSM
    have e : fitL xl s = if vTo xl s S = true then 0 else 8 := by unfold fitL; rw [← HM.out, ← HS.out, if_neg (by simp)]
    have HV := Lib.hid e
    clear e
    go_enter Try.func22, Try.ntmps22
    go_wp2_with fail
    go_loopw [30] (fun i wr => ∃ j : Nat, j ≤ S ∧ i = .int .i64 (j : Int) ∧ Hid (vTo xl s j = true) ∧ Hid (Old w wr)) (fun i _ => (S - intOf i).toNat)
    case atStart => exact ⟨0, Nat.zero_le _, rfl, Lib.hid rfl, Lib.hid (Old.refl w)⟩
    case round =>
      obtain ⟨j, hjm, rfl, HT, HW⟩ := hrel
      by_cases hj : j < S
      · obtain ⟨y, hy⟩ : ∃ y, xl[j]? = some y := ⟨xl[j]'(by rw [← HM.out]; exact hj), List.getElem?_eq_getElem _⟩
        obtain ⟨x, hx⟩ : ∃ x, s[j]? = some x := ⟨s[j]'(by rw [← HS.out]; exact hj), List.getElem?_eq_getElem _⟩
        obtain ⟨sg, so, rfl, hsg, s0, s1, hys⟩ := HB.out j y hy
        obtain ⟨ug, uo, rfl, hug, u0, u1, u2, hxs⟩ := HF.out j x hx
        obtain ⟨yn, yk⟩ := y
        obtain ⟨vk, vn, vs⟩ := x
        simp only at s0 s1 u0 u1 u2 hxs
        have HY := Lib.hid hy
        have HX := Lib.hid hx
        have q0 := (HW.out.cell hsg).trans s0
        have q1 := (HW.out.cell hsg).trans s1
        have p0 := (HW.out.cell hug).trans u0
        have p1 := (HW.out.cell hug).trans u1
        have p2 := (HW.out.cell hug).trans u2
        have SL := Lib.hid (Nat.lt_of_lt_of_le hsg HW.out.size)
        have UL0 := Lib.hid (Nat.lt_of_lt_of_le hug HW.out.size)
        have DL1 := Lib.hid (Nat.lt_of_lt_of_le DL0.out HW.out.size)
        have d0 := (HW.out.cell DL0.out).trans C0.out
        have d1 := (HW.out.cell DL0.out).trans C1.out
        clear hy hx hsg hug s0 s1 u0 u1 u2 hys
        have HP := Lib.hid ((Old.refl wr).alloc (.cells #[.int .u8 vk, .int .i64 vn, .string vs] 45))
        have HT2 := Three.new wr (.int .u8 vk) (.int .i64 vn) (.string vs)
        have T0 := Lib.hid HT2.c0
        have T1 := Lib.hid HT2.c1
        have T2 := Lib.hid HT2.c2
        have TL := Lib.hid HT2.lt
        have E0 := Lib.hid ((HP.out.cell SL.out).trans q0)
        have E1 := Lib.hid ((HP.out.cell SL.out).trans q1)
        have EL := Lib.hid (Nat.lt_of_lt_of_le SL.out HP.out.size)
        clear HT2 q0 q1
        have hgo := fun W => goes_any yn yk vk vn vs W
        go_upto_region 9 with fail
        clear p0 p1 p2 d0 d1
        cases hG : goB yk vk vn vs
        · rw [hG] at hgo
          have HV2 : Hid (fitL xl s = 8) := Lib.hid (by rw [HV.out, vTo_no HY.out HX.out hG S hj]; rfl)
          clear hG
          refine wp_region_inv (spOf [.eq (.slice (some ⟨sg, so, none⟩) S sc), .eq (.int .i64 (j : Int)), .eq (.pointer (some ⟨sg, so + j * 2, none⟩)), .eq (sv yn yk), .eq (vl vk vn vs), .eq (.bool false), .eq (.bool true)]) (by kernel_rfl) (by kernel_rfl) (spOf_mono _) ?_ ?_
          · refine ⟨?_, ?_, ?_, ?_, ?_, ?_, ?_, trivial⟩
            · refine step_plain rfl fun ρ w2 ho hr hd => ?_
              have x0 : ρ (.tmp 7) = .slice (some ⟨sg, so, none⟩) S sc := (hr.1 7 rfl).trans rfl
              exact does_move rfl x0 ⟨rfl, Old.refl _⟩
            · refine step_plain rfl fun ρ w2 ho hr hd => ?_
              have x0 : ρ (.tmp 8) = .int .i64 (j : Int) := (hr.1 8 rfl).trans rfl
              exact does_move rfl x0 ⟨rfl, Old.refl _⟩
            · refine step_plain rfl fun ρ w2 ho hr hd => ?_
              obtain ⟨h0, h1, _⟩ := hd
              have x0 : ρ (.tmp 35) = .slice (some ⟨sg, so, none⟩) S sc := h0 rfl
              have y0 : ρ (.tmp 36) = .int .i64 (j : Int) := h1 rfl
              refine does_value (v := .pointer (some ⟨sg, so + j * 2, none⟩)) (w' := w2) ?_ ⟨rfl, Old.refl _⟩
              unfold execOp
              simp only [x0, y0]
              go_simp
            · refine step_plain rfl fun ρ w2 ho hr hd => ?_
              obtain ⟨h0, _⟩ := hd
              have x0 : ρ (.tmp 37) = .pointer (some ⟨sg, so + j * 2, none⟩) := h0 rfl
              have q0 := (ho.cell EL.out).trans E0.out
              have q1 := (ho.cell EL.out).trans E1.out
              refine does_value (v := sv yn yk) (w' := w2) ?_ ⟨rfl, Old.refl _⟩
              unfold execOp
              simp only [x0]
              go_simp
            · refine step_plain rfl fun ρ w2 ho hr hd => ?_
              have x0 : ρ (.tmp 9) = .pointer (some ⟨wr.heap.size, 0, none⟩) := (hr.1 9 rfl).trans rfl
              have q0 := (ho.cell TL.out).trans T0.out
              have q1 := (ho.cell TL.out).trans T1.out
              have q2 := (ho.cell TL.out).trans T2.out
              refine does_value (v := vl vk vn vs) (w' := w2) ?_ ⟨rfl, Old.refl _⟩
              unfold execOp
              simp only [x0]
              go_simp
            · refine step_plain rfl fun ρ w2 ho hr hd => ?_
              obtain ⟨h0, h1, _⟩ := hd
              have x0 : ρ (.tmp 38) = sv yn yk := h0 rfl
              have x1 : ρ (.tmp 39) = vl vk vn vs := h1 rfl
              exact does_call2 rfl (hr.2.2.2 _) x0 x1 rfl ((hgo w2).mono fun e w' h => ⟨_, h.1, rfl, h.2⟩)
            · refine step_plain rfl fun ρ w2 ho hr hd => ?_
              obtain ⟨h0, _⟩ := hd
              have x0 : ρ (.tmp 40) = .bool false := h0 rfl
              refine does_value (v := .bool true) (w' := w2) ?_ ⟨rfl, Old.refl _⟩
              unfold execOp
              simp only [x0]
              go_simp
          · intro a' w' hoE hst hl
            obtain ⟨_, _, _, _, _, _, k6, _⟩ := hl
            have e6 : a'.eval (.tmp 41) = .bool true := k6
            rw [act_fresh hst [false, false, false, false, false, false, false, false, false, false, false, false, false, false, false, false, false, false, false, false, false, false, false, false, false, false, false, false, false, false, false, false, false, false, false, true, true, true, true, true, true, true, false] (by kernel_rfl) (by kernel_rfl)]
            simp only [fresh, e6]
            clear hst k6 e6
            have HQ := Lib.hid ((HW.out.trans HP.out).trans hoE)
            clear hoE
            go_wp2_with fail
            go_ret
            exact ⟨ri HV2.out.symm, HQ.out⟩
        · rw [hG] at hgo
          have HG := Lib.hid hG
          clear hG
          refine wp_region_inv (spOf [.eq (.slice (some ⟨sg, so, none⟩) S sc), .eq (.int .i64 (j : Int)), .eq (.pointer (some ⟨sg, so + j * 2, none⟩)), .eq (sv yn yk), .eq (vl vk vn vs), .eq (.bool true), .eq (.bool false)]) (by kernel_rfl) (by kernel_rfl) (spOf_mono _) ?_ ?_
          · refine ⟨?_, ?_, ?_, ?_, ?_, ?_, ?_, trivial⟩
            · refine step_plain rfl fun ρ w2 ho hr hd => ?_
              have x0 : ρ (.tmp 7) = .slice (some ⟨sg, so, none⟩) S sc := (hr.1 7 rfl).trans rfl
              exact does_move rfl x0 ⟨rfl, Old.refl _⟩
            · refine step_plain rfl fun ρ w2 ho hr hd => ?_
              have x0 : ρ (.tmp 8) = .int .i64 (j : Int) := (hr.1 8 rfl).trans rfl
              exact does_move rfl x0 ⟨rfl, Old.refl _⟩
            · refine step_plain rfl fun ρ w2 ho hr hd => ?_
              obtain ⟨h0, h1, _⟩ := hd
              have x0 : ρ (.tmp 35) = .slice (some ⟨sg, so, none⟩) S sc := h0 rfl
              have y0 : ρ (.tmp 36) = .int .i64 (j : Int) := h1 rfl
              refine does_value (v := .pointer (some ⟨sg, so + j * 2, none⟩)) (w' := w2) ?_ ⟨rfl, Old.refl _⟩
              unfold execOp
              simp only [x0, y0]
              go_simp
            · refine step_plain rfl fun ρ w2 ho hr hd => ?_
              obtain ⟨h0, _⟩ := hd
              have x0 : ρ (.tmp 37) = .pointer (some ⟨sg, so + j * 2, none⟩) := h0 rfl
              have q0 := (ho.cell EL.out).trans E0.out
              have q1 := (ho.cell EL.out).trans E1.out
              refine does_value (v := sv yn yk) (w' := w2) ?_ ⟨rfl, Old.refl _⟩
              unfold execOp
              simp only [x0]
              go_simp
            · refine step_plain rfl fun ρ w2 ho hr hd => ?_
              have x0 : ρ (.tmp 9) = .pointer (some ⟨wr.heap.size, 0, none⟩) := (hr.1 9 rfl).trans rfl
              have q0 := (ho.cell TL.out).trans T0.out
              have q1 := (ho.cell TL.out).trans T1.out
              have q2 := (ho.cell TL.out).trans T2.out
              refine does_value (v := vl vk vn vs) (w' := w2) ?_ ⟨rfl, Old.refl _⟩
              unfold execOp
              simp only [x0]
              go_simp
            · refine step_plain rfl fun ρ w2 ho hr hd => ?_
              obtain ⟨h0, h1, _⟩ := hd
              have x0 : ρ (.tmp 38) = sv yn yk := h0 rfl
              have x1 : ρ (.tmp 39) = vl vk vn vs := h1 rfl
              exact does_call2 rfl (hr.2.2.2 _) x0 x1 rfl ((hgo w2).mono fun e w' h => ⟨_, h.1, rfl, h.2⟩)
            · refine step_plain rfl fun ρ w2 ho hr hd => ?_
              obtain ⟨h0, _⟩ := hd
              have x0 : ρ (.tmp 40) = .bool true := h0 rfl
              refine does_value (v := .bool false) (w' := w2) ?_ ⟨rfl, Old.refl _⟩
              unfold execOp
              simp only [x0]
              go_simp
          · intro a' w' hoE hst hl
            obtain ⟨_, _, _, _, _, _, k6, _⟩ := hl
            have e6 : a'.eval (.tmp 41) = .bool false := k6
            rw [act_fresh hst [false, false, false, false, false, false, false, false, false, false, false, false, false, false, false, false, false, false, false, false, false, false, false, false, false, false, false, false, false, false, false, false, false, false, false, true, true, true, true, true, true, true, false] (by kernel_rfl) (by kernel_rfl)]
            simp only [fresh, e6]
            clear hst k6 e6
            have HQ := Lib.hid ((HW.out.trans HP.out).trans hoE)
            clear hoE
            go_wp2_with fail
            refine ⟨⟨j + 1, hj, rfl, Lib.hid (vTo_next HT.out HY.out HX.out HG.out), HQ⟩, by simp only [intOf]; omega⟩
      · have hj' : j = S := by omega
        subst hj'
        have d0 := (HW.out.cell DL0.out).trans C0.out
        have d1 := (HW.out.cell DL0.out).trans C1.out
        go_wp2_with fail
        go_ret
        exact ⟨ri (by rw [HV.out, HT.out]; rfl), HW.out⟩
  · have e : fitL xl s = 14 := by unfold fitL; rw [← HM.out, ← HS.out, if_pos hSM]
    rw [e]
    have hne : ((S : Int) != (M : Int)) = true := u8_ne (by omega)
    clear e hSM
    go_enter Try.func22, Try.ntmps22
    go_wp2_with fail
    go_ret
    exact ⟨rfl, Old.refl w⟩

set_option maxHeartbeats 3200000 in
theorem rfits_any (l : List Tp) (v : Value) (t : Int) (s : List Vl) (u : Value) (w : World) (hl : TR w v l) (hu : VR w u s) (ht : -9223372036854775808 ≤ t ∧ t ≤ 9223372036854775807) : Calls Try.prog 23 #[v, .int .i64 t, u] w fun e w' => e = .returned (.int .i64 (fitsI l t s)) ∧ Old w w' := by
  obtain ⟨oa, c, rfl, a1, a2, a3⟩ := hl
  obtain ⟨N, hN⟩ : ∃ n, n = l.length := ⟨_, rfl⟩
  rw [← hN] at a1 ⊢
  unfold maxLen at a2
  have HN := Lib.hid hN
  have HA := Lib.hid a3
  obtain ⟨ob, uc, rfl, f1, f2, f3⟩ := hu
  obtain ⟨S, hS⟩ : ∃ n, n = s.length := ⟨_, rfl⟩
  rw [← hS] at f1 ⊢
  unfold maxLen at f2
  have HS := Lib.hid hS
  have HF := Lib.hid f3
  clear hN a3 hS f3
  by_cases h0 : t < 0
  · rw [fitsI_neg h0]
    go_enter Try.func23, Try.ntmps23
    go_wp2_with fail
    go_ret
    exact ⟨rfl, Old.refl w⟩
  by_cases hfar : (N : Int) ≤ t
  · rw [fitsI_far (by rw [← HN.out]; exact hfar)]
    have h0' : 0 ≤ t := by omega
    clear h0
    go_enter Try.func23, Try.ntmps23
    go_wp2_with fail
    go_ret
    exact ⟨rfl, Old.refl w⟩
  obtain ⟨m, rfl⟩ : ∃ m : Nat, t = (m : Int) := ⟨t.toNat, by omega⟩
  have hm : m < N := by omega
  clear h0 hfar ht
  obtain ⟨x, hx⟩ : ∃ x, l[m]? = some x := ⟨l[m]'(by rw [← HN.out]; exact hm), List.getElem?_eq_getElem _⟩
  obtain ⟨xn, xv, xl⟩ := x
  obtain ⟨g, o, rfl, hgl, c0, c1, hs, hsr⟩ := HA.out m _ hx
  obtain ⟨sa, sc, hv, b1, b2, b3⟩ := id hsr
  obtain ⟨M, hM⟩ : ∃ M, M = xl.length := ⟨_, rfl⟩
  simp only at hv hsr c0 c1 hs b1 b2 b3
  rw [← hM] at hv b1
  unfold maxLen at b2
  subst hv
  have HM := Lib.hid hM
  have HB := Lib.hid b3
  rw [fitsI_at hx]
  have C0 := Lib.hid c0
  have C1 := Lib.hid c1
  have DL0 := Lib.hid hgl
  have d0 := C0.out
  have d1 := C1.out
  clear hM b3 hx hs hsr c0 c1 hgl
  by_cases hSM : S = M
  · subst hSM
    have e : fitL xl s = if vTo xl s S = true then 0 else 8 := by unfold fitL; rw [← HM.out, ← HS.out, if_neg (by simp)]
    have HV := Lib.hid e
    clear e
    go_enter Try.func23, Try.ntmps23
    go_wp2_with fail
    go_loopw [7] (fun i wr => ∃ j : Nat, j ≤ S ∧ i = .int .i64 (j : Int) ∧ Hid (vTo xl s j = true) ∧ Hid (Old w wr)) (fun i _ => (S - intOf i).toNat)
    case atStart => exact ⟨0, Nat.zero_le _, rfl, Lib.hid rfl, Lib.hid (Old.refl w)⟩
    case round =>
      obtain ⟨j, hjm, rfl, HT, HW⟩ := hrel
      by_cases hj : j < S
      · obtain ⟨y, hy⟩ : ∃ y, xl[j]? = some y := ⟨xl[j]'(by rw [← HM.out]; exact hj), List.getElem?_eq_getElem _⟩
        obtain ⟨x, hx⟩ : ∃ x, s[j]? = some x := ⟨s[j]'(by rw [← HS.out]; exact hj), List.getElem?_eq_getElem _⟩
        obtain ⟨sg, so, rfl, hsg, s0, s1, hys⟩ := HB.out j y hy
        obtain ⟨ug, uo, rfl, hug, u0, u1, u2, hxs⟩ := HF.out j x hx
        obtain ⟨yn, yk⟩ := y
        obtain ⟨vk, vn, vs⟩ := x
        simp only at s0 s1 u0 u1 u2 hxs
        have HY := Lib.hid hy
        have HX := Lib.hid hx
        have q0 := (HW.out.cell hsg).trans s0
        have q1 := (HW.out.cell hsg).trans s1
        have p0 := (HW.out.cell hug).trans u0
        have p1 := (HW.out.cell hug).trans u1
        have p2 := (HW.out.cell hug).trans u2
        have SL := Lib.hid (Nat.lt_of_lt_of_le hsg HW.out.size)
        have UL0 := Lib.hid (Nat.lt_of_lt_of_le hug HW.out.size)
        have DL1 := Lib.hid (Nat.lt_of_lt_of_le DL0.out HW.out.size)
        have d0 := (HW.out.cell DL0.out).trans C0.out
        have d1 := (HW.out.cell DL0.out).trans C1.out
        clear hy hx hsg hug s0 s1 u0 u1 u2 hys
        have hm := fun W => rmay_any vk vn vs W hxs
        cases hE : mayB vk vn vs
        · rw [hE] at hm
          have HV2 : Hid (fitL xl s = 8) := Lib.hid (by rw [HV.out, vTo_no HY.out HX.out (by unfold goB; rw [hE]; rfl) S hj]; rfl)
          clear hE
          go_wp2_with (go_at_call 34; (with_reducible refine (hm _).mono ?_); rintro e w2 ⟨rfl, o2⟩; have HQ0 := Lib.hid (HW.out.trans o2); clear o2)
          go_ret
          exact ⟨ri HV2.out.symm, HQ0.out⟩
        · rw [hE] at hm
          have HE := Lib.hid hE
          clear hE
          by_cases hz : vk = 0
          · subst hz
            have HG : Hid (goB yk 0 vn vs = true) := Lib.hid (by unfold goB; rw [HE.out]; rfl)
            go_upto_region 10 with (go_at_call 34; (with_reducible refine (hm _).mono ?_); rintro e w2 ⟨rfl, o2⟩; have HQ0 := Lib.hid (HW.out.trans o2); have U0 := Lib.hid ((o2.cell UL0.out).trans p0); have UL := Lib.hid (Nat.lt_of_lt_of_le UL0.out o2.size); have D1 := Lib.hid ((o2.cell DL1.out).trans d1); have DL := Lib.hid (Nat.lt_of_lt_of_le DL1.out o2.size); have E1 := Lib.hid ((o2.cell SL.out).trans q1); have EL := Lib.hid (Nat.lt_of_lt_of_le SL.out o2.size); clear o2)
            clear p0 p1 p2 d0 d1 q0 q1
            refine wp_region_inv (spOf [.eq (.slice (some ⟨ug, uo, none⟩) S uc), .eq (.int .i64 (j : Int)), .eq (.pointer (some ⟨ug, uo + j * 3, none⟩)), .eq (.pointer (some ⟨ug, uo + j * 3, none⟩)), .eq (.int .u8 0), .eq (.bool false), .eq (.bool false), .any, .any, .any, .any, .any, .any, .any, .any, .any, .any, .any, .any, .any, .any, .any, .eq (.bool false)]) (by kernel_rfl) (by kernel_rfl) (spOf_mono _) ?_ ?_
            · refine ⟨?_, ?_, ?_, ?_, ?_, ?_, ?_, ?_, ?_, ?_, ?_, ?_, ?_, ?_, ?_, ?_, ?_, ?_, ?_, ?_, ?_, ?_, ?_, trivial⟩
              · refine step_plain rfl fun ρ w2 ho hr hd => ?_
                have x0 : ρ (.tmp 2) = .slice (some ⟨ug, uo, none⟩) S uc := (hr.1 2 rfl).trans rfl
                exact does_move rfl x0 ⟨rfl, Old.refl _⟩
              · refine step_plain rfl fun ρ w2 ho hr hd => ?_
                have x0 : ρ (.tmp 7) = .int .i64 (j : Int) := (hr.1 7 rfl).trans rfl
                exact does_move rfl x0 ⟨rfl, Old.refl _⟩
              · refine step_plain rfl fun ρ w2 ho hr hd => ?_
                obtain ⟨h0, h1, _⟩ := hd
                have x0 : ρ (.tmp 37) = .slice (some ⟨ug, uo, none⟩) S uc := h0 rfl
                have y0 : ρ (.tmp 38) = .int .i64 (j : Int) := h1 rfl
                refine does_value (v := .pointer (some ⟨ug, uo + j * 3, none⟩)) (w' := w2) ?_ ⟨rfl, Old.refl _⟩
                unfold execOp
                simp only [x0, y0]
                go_simp
              · refine step_plain rfl fun ρ w2 ho hr hd => ?_
                obtain ⟨h0, _⟩ := hd
                have x0 : ρ (.tmp 39) = .pointer (some ⟨ug, uo + j * 3, none⟩) := h0 rfl
                refine does_value (v := .pointer (some ⟨ug, uo + j * 3, none⟩)) (w' := w2) ?_ ⟨rfl, Old.refl _⟩
                unfold execOp
                simp only [x0]
                go_simp
              · refine step_plain rfl fun ρ w2 ho hr hd => ?_
                obtain ⟨h0, _⟩ := hd
                have x0 : ρ (.tmp 40) = .pointer (some ⟨ug, uo + j * 3, none⟩) := h0 rfl
                have q0 := (ho.cell UL.out).trans U0.out
                refine does_value (v := .int .u8 0) (w' := w2) ?_ ⟨rfl, Old.refl _⟩
                unfold execOp
                simp only [x0]
                go_simp
              · refine step_plain rfl fun ρ w2 ho hr hd => ?_
                obtain ⟨h0, _⟩ := hd
                have x0 : ρ (.tmp 41) = .int .u8 0 := h0 rfl
                refine does_value (v := .bool false) (w' := w2) ?_ ⟨rfl, Old.refl _⟩
                unfold execOp
                simp only [x0, hr.2.1]
                go_simp
              · refine step_plain rfl fun ρ w2 ho hr hd => ?_
                obtain ⟨h0, _⟩ := hd
                have x0 : ρ (.tmp 42) = .bool false := h0 rfl
                exact does_move rfl x0 ⟨rfl, Old.refl _⟩
              · refine step_skip rfl (fun ρ w2 ho hr hd => ?_) (fun _ => trivial)
                obtain ⟨h0, _⟩ := hd
                have hgd : ρ (.tmp 43) = .bool false := h0 rfl
                exact hgd
              · refine step_skip rfl (fun ρ w2 ho hr hd => ?_) (fun _ => trivial)
                obtain ⟨h0, _⟩ := hd
                have hgd : ρ (.tmp 43) = .bool false := h0 rfl
                exact hgd
              · refine step_skip rfl (fun ρ w2 ho hr hd => ?_) (fun _ => trivial)
                obtain ⟨h0, h1, h2, _⟩ := hd
                have hgd : ρ (.tmp 43) = .bool false := h2 rfl
                exact hgd
              · refine step_skip rfl (fun ρ w2 ho hr hd => ?_) (fun _ => trivial)
                obtain ⟨h0, h1, _⟩ := hd
                have hgd : ρ (.tmp 43) = .bool false := h1 rfl
                exact hgd
              · refine step_skip rfl (fun ρ w2 ho hr hd => ?_) (fun _ => trivial)
                obtain ⟨h0, h1, _⟩ := hd
                have hgd : ρ (.tmp 43) = .bool false := h1 rfl
                exact hgd
              · refine step_skip rfl (fun ρ w2 ho hr hd => ?_) (fun _ => trivial)
                obtain ⟨h0, _⟩ := hd
                have hgd : ρ (.tmp 43) = .bool false := h0 rfl
                exact hgd
              · refine step_skip rfl (fun ρ w2 ho hr hd => ?_) (fun _ => trivial)
                obtain ⟨h0, _⟩ := hd
                have hgd : ρ (.tmp 43) = .bool false := h0 rfl
                exact hgd
              · refine step_skip rfl (fun ρ w2 ho hr hd => ?_) (fun _ => trivial)
                obtain ⟨h0, h1, h2, _⟩ := hd
                have hgd : ρ (.tmp 43) = .bool false := h2 rfl
                exact hgd
              · refine step_skip rfl (fun ρ w2 ho hr hd => ?_) (fun _ => trivial)
                obtain ⟨h0, h1, _⟩ := hd
                have hgd : ρ (.tmp 43) = .bool false := h1 rfl
                exact hgd
              · refine step_skip rfl (fun ρ w2 ho hr hd => ?_) (fun _ => trivial)
                obtain ⟨h0, h1, _⟩ := hd
                have hgd : ρ (.tmp 43) = .bool false := h1 rfl
                exact hgd
              · refine step_skip rfl (fun ρ w2 ho hr hd => ?_) (fun _ => trivial)
                obtain ⟨h0, _⟩ := hd
                have hgd : ρ (.tmp 43) = .bool false := h0 rfl
                exact hgd
              · refine step_skip rfl (fun ρ w2 ho hr hd => ?_) (fun _ => trivial)
                obtain ⟨h0, h1, h2, _⟩ := hd
                have hgd : ρ (.tmp 43) = .bool false := h2 rfl
                exact hgd
              · refine step_skip rfl (fun ρ w2 ho hr hd => ?_) (fun _ => trivial)
                obtain ⟨h0, h1, _⟩ := hd
                have hgd : ρ (.tmp 43) = .bool false := h1 rfl
                exact hgd
              · refine step_skip rfl (fun ρ w2 ho hr hd => ?_) (fun _ => trivial)
                obtain ⟨h0, h1, _⟩ := hd
                have hgd : ρ (.tmp 43) = .bool false := h1 rfl
                exact hgd
              · refine step_skip rfl (fun ρ w2 ho hr hd => ?_) (fun _ => trivial)
                obtain ⟨h0, h1, h2, _⟩ := hd
                have hgd : ρ (.tmp 43) = .bool false := h2 rfl
                exact hgd
              · refine step_plain rfl fun ρ w2 ho hr hd => ?_
                obtain ⟨h0, h1, _⟩ := hd
                have x0 : ρ (.tmp 43) = .bool false := h0 rfl
                exact does_pick rfl x0 (hr.2.1 _) ⟨rfl, Old.refl _⟩
            · intro a' w' hoE hst hl
              obtain ⟨_, _, _, _, _, _, _, _, _, _, _, _, _, _, _, _, _, _, _, _, _, _, k22, _⟩ := hl
              have e22 : a'.eval (.tmp 59) = .bool false := k22
              rw [act_fresh hst [false, false, false, false, false, false, false, false, false, false, false, false, false, false, false, false, false, false, false, false, false, false, false, false, false, false, false, false, false, false, false, false, false, false, false, false, false, true, true, true, true, true, true, true, true, true, true, true, true, true, true, true, true, true, true, true, true, true, true, true] (by kernel_rfl) (by kernel_rfl)]
              simp only [fresh, e22]
              clear hst k22 e22
              have HQ := Lib.hid (HQ0.out.trans hoE)
              clear hoE
              go_wp2_with fail
              first
                | refine ⟨⟨j + 1, hj, rfl, Lib.hid (vTo_next HT.out HY.out HX.out HG.out), HQ⟩, by simp only [intOf]; omega⟩
                | refine ⟨⟨j + 1, hj, by omega, Lib.hid (vTo_next HT.out HY.out HX.out HG.out)⟩, by simp only [intOf]; omega⟩
          · by_cases hk : yk = vk
            · subst hk
              have HG : Hid (goB yk yk vn vs = true) := Lib.hid (by unfold goB; rw [HE.out]; simp)
              have hne := u8_ne hz
              clear hz
              go_upto_region 10 with (go_at_call 34; (with_reducible refine (hm _).mono ?_); rintro e w2 ⟨rfl, o2⟩; have HQ0 := Lib.hid (HW.out.trans o2); have U0 := Lib.hid ((o2.cell UL0.out).trans p0); have UL := Lib.hid (Nat.lt_of_lt_of_le UL0.out o2.size); have D1 := Lib.hid ((o2.cell DL1.out).trans d1); have DL := Lib.hid (Nat.lt_of_lt_of_le DL1.out o2.size); have E1 := Lib.hid ((o2.cell SL.out).trans q1); have EL := Lib.hid (Nat.lt_of_lt_of_le SL.out o2.size); clear o2)
              clear p0 p1 p2 d0 d1 q0 q1
              refine wp_region_inv (spOf [.eq (.slice (some ⟨ug, uo, none⟩) S uc), .eq (.int .i64 (j : Int)), .eq (.pointer (some ⟨ug, uo + j * 3, none⟩)), .eq (.pointer (some ⟨ug, uo + j * 3, none⟩)), .eq (.int .u8 yk), .eq (.bool true), .eq (.bool true), .eq (.slice (some ⟨ug, uo, none⟩) S uc), .eq (.int .i64 (j : Int)), .eq (.pointer (some ⟨ug, uo + j * 3, none⟩)), .eq (.pointer (some ⟨ug, uo + j * 3, none⟩)), .eq (.int .u8 yk), .eq (.slice (some ⟨g, o, none⟩) N c), .eq (.int .i64 (m : Int)), .eq (.pointer (some ⟨g, o + m * 2, none⟩)), .eq (.pointer (some ⟨g, o + m * 2 + 1, none⟩)), .eq (.slice (some ⟨sg, so, none⟩) S sc), .eq (.int .i64 (j : Int)), .eq (.pointer (some ⟨sg, so + j * 2, none⟩)), .eq (.pointer (some ⟨sg, so + j * 2 + 1, none⟩)), .eq (.int .u8 yk), .eq (.bool false), .eq (.bool false)]) (by kernel_rfl) (by kernel_rfl) (spOf_mono _) ?_ ?_
              · refine ⟨?_, ?_, ?_, ?_, ?_, ?_, ?_, ?_, ?_, ?_, ?_, ?_, ?_, ?_, ?_, ?_, ?_, ?_, ?_, ?_, ?_, ?_, ?_, trivial⟩
                · refine step_plain rfl fun ρ w2 ho hr hd => ?_
                  have x0 : ρ (.tmp 2) = .slice (some ⟨ug, uo, none⟩) S uc := (hr.1 2 rfl).trans rfl
                  exact does_move rfl x0 ⟨rfl, Old.refl _⟩
                · refine step_plain rfl fun ρ w2 ho hr hd => ?_
                  have x0 : ρ (.tmp 7) = .int .i64 (j : Int) := (hr.1 7 rfl).trans rfl
                  exact does_move rfl x0 ⟨rfl, Old.refl _⟩
                · refine step_plain rfl fun ρ w2 ho hr hd => ?_
                  obtain ⟨h0, h1, _⟩ := hd
                  have x0 : ρ (.tmp 37) = .slice (some ⟨ug, uo, none⟩) S uc := h0 rfl
                  have y0 : ρ (.tmp 38) = .int .i64 (j : Int) := h1 rfl
                  refine does_value (v := .pointer (some ⟨ug, uo + j * 3, none⟩)) (w' := w2) ?_ ⟨rfl, Old.refl _⟩
                  unfold execOp
                  simp only [x0, y0]
                  go_simp
                · refine step_plain rfl fun ρ w2 ho hr hd => ?_
                  obtain ⟨h0, _⟩ := hd
                  have x0 : ρ (.tmp 39) = .pointer (some ⟨ug, uo + j * 3, none⟩) := h0 rfl
                  refine does_value (v := .pointer (some ⟨ug, uo + j * 3, none⟩)) (w' := w2) ?_ ⟨rfl, Old.refl _⟩
                  unfold execOp
                  simp only [x0]
                  go_simp
                · refine step_plain rfl fun ρ w2 ho hr hd => ?_
                  obtain ⟨h0, _⟩ := hd
                  have x0 : ρ (.tmp 40) = .pointer (some ⟨ug, uo + j * 3, none⟩) := h0 rfl
                  have q0 := (ho.cell UL.out).trans U0.out
                  refine does_value (v := .int .u8 yk) (w' := w2) ?_ ⟨rfl, Old.refl _⟩
                  unfold execOp
                  simp only [x0]
                  go_simp
                · refine step_plain rfl fun ρ w2 ho hr hd => ?_
                  obtain ⟨h0, _⟩ := hd
                  have x0 : ρ (.tmp 41) = .int .u8 yk := h0 rfl
                  refine does_value (v := .bool true) (w' := w2) ?_ ⟨rfl, Old.refl _⟩
                  unfold execOp
                  simp only [x0, hr.2.1]
                  go_simp
                · refine step_plain rfl fun ρ w2 ho hr hd => ?_
                  obtain ⟨h0, _⟩ := hd
                  have x0 : ρ (.tmp 42) = .bool true := h0 rfl
                  exact does_move rfl x0 ⟨rfl, Old.refl _⟩
                · refine step_guard rfl fun ρ w2 ho hr hd => ?_
                  obtain ⟨h0, _⟩ := hd
                  have hgd : ρ (.tmp 43) = .bool true := h0 rfl
                  have x0 : ρ (.tmp 2) = .slice (some ⟨ug, uo, none⟩) S uc := (hr.1 2 rfl).trans rfl
                  refine ⟨hgd, ?_⟩
                  exact does_move rfl x0 ⟨rfl, Old.refl _⟩
                · refine step_guard rfl fun ρ w2 ho hr hd => ?_
                  obtain ⟨h0, _⟩ := hd
                  have hgd : ρ (.tmp 43) = .bool true := h0 rfl
                  have x0 : ρ (.tmp 7) = .int .i64 (j : Int) := (hr.1 7 rfl).trans rfl
                  refine ⟨hgd, ?_⟩
                  exact does_move rfl x0 ⟨rfl, Old.refl _⟩
                · refine step_guard rfl fun ρ w2 ho hr hd => ?_
                  obtain ⟨h0, h1, h2, _⟩ := hd
                  have hgd : ρ (.tmp 43) = .bool true := h2 rfl
                  have x0 : ρ (.tmp 44) = .slice (some ⟨ug, uo, none⟩) S uc := h0 rfl
                  have y0 : ρ (.tmp 45) = .int .i64 (j : Int) := h1 rfl
                  refine ⟨hgd, ?_⟩
                  refine does_value (v := .pointer (some ⟨ug, uo + j * 3, none⟩)) (w' := w2) ?_ ⟨rfl, Old.refl _⟩
                  unfold execOp
                  simp only [x0, y0]
                  go_simp
                · refine step_guard rfl fun ρ w2 ho hr hd => ?_
                  obtain ⟨h0, h1, _⟩ := hd
                  have hgd : ρ (.tmp 43) = .bool true := h1 rfl
                  have x0 : ρ (.tmp 46) = .pointer (some ⟨ug, uo + j * 3, none⟩) := h0 rfl
                  refine ⟨hgd, ?_⟩
                  refine does_value (v := .pointer (some ⟨ug, uo + j * 3, none⟩)) (w' := w2) ?_ ⟨rfl, Old.refl _⟩
                  unfold execOp
                  simp only [x0]
                  go_simp
                · refine step_guard rfl fun ρ w2 ho hr hd => ?_
                  obtain ⟨h0, h1, _⟩ := hd
                  have hgd : ρ (.tmp 43) = .bool true := h1 rfl
                  have x0 : ρ (.tmp 47) = .pointer (some ⟨ug, uo + j * 3, none⟩) := h0 rfl
                  have q0 := (ho.cell UL.out).trans U0.out
                  refine ⟨hgd, ?_⟩
                  refine does_value (v := .int .u8 yk) (w' := w2) ?_ ⟨rfl, Old.refl _⟩
                  unfold execOp
                  simp only [x0]
                  go_simp
                · refine step_guard rfl fun ρ w2 ho hr hd => ?_
                  obtain ⟨h0, _⟩ := hd
                  have hgd : ρ (.tmp 43) = .bool true := h0 rfl
                  have x0 : ρ (.tmp 0) = .slice (some ⟨g, o, none⟩) N c := (hr.1 0 rfl).trans rfl
                  refine ⟨hgd, ?_⟩
                  exact does_move rfl x0 ⟨rfl, Old.refl _⟩
                · refine step_guard rfl fun ρ w2 ho hr hd => ?_
                  obtain ⟨h0, _⟩ := hd
                  have hgd : ρ (.tmp 43) = .bool true := h0 rfl
                  have x0 : ρ (.tmp 1) = .int .i64 (m : Int) := (hr.1 1 rfl).trans rfl
                  refine ⟨hgd, ?_⟩
                  exact does_move rfl x0 ⟨rfl, Old.refl _⟩
                · refine step_guard rfl fun ρ w2 ho hr hd => ?_
                  obtain ⟨h0, h1, h2, _⟩ := hd
                  have hgd : ρ (.tmp 43) = .bool true := h2 rfl
                  have x0 : ρ (.tmp 49) = .slice (some ⟨g, o, none⟩) N c := h0 rfl
                  have y0 : ρ (.tmp 50) = .int .i64 (m : Int) := h1 rfl
                  refine ⟨hgd, ?_⟩
                  refine does_value (v := .pointer (some ⟨g, o + m * 2, none⟩)) (w' := w2) ?_ ⟨rfl, Old.refl _⟩
                  unfold execOp
                  simp only [x0, y0]
                  go_simp
                · refine step_guard rfl fun ρ w2 ho hr hd => ?_
                  obtain ⟨h0, h1, _⟩ := hd
                  have hgd : ρ (.tmp 43) = .bool true := h1 rfl
                  have x0 : ρ (.tmp 51) = .pointer (some ⟨g, o + m * 2, none⟩) := h0 rfl
                  refine ⟨hgd, ?_⟩
                  refine does_value (v := .pointer (some ⟨g, o + m * 2 + 1, none⟩)) (w' := w2) ?_ ⟨rfl, Old.refl _⟩
                  unfold execOp
                  simp only [x0]
                  go_simp
                · refine step_guard rfl fun ρ w2 ho hr hd => ?_
                  obtain ⟨h0, h1, _⟩ := hd
                  have hgd : ρ (.tmp 43) = .bool true := h1 rfl
                  have x0 : ρ (.tmp 52) = .pointer (some ⟨g, o + m * 2 + 1, none⟩) := h0 rfl
                  have q0 := (ho.cell DL.out).trans D1.out
                  refine ⟨hgd, ?_⟩
                  refine does_value (v := .slice (some ⟨sg, so, none⟩) S sc) (w' := w2) ?_ ⟨rfl, Old.refl _⟩
                  unfold execOp
                  simp only [x0]
                  go_simp
                · refine step_guard rfl fun ρ w2 ho hr hd => ?_
                  obtain ⟨h0, _⟩ := hd
                  have hgd : ρ (.tmp 43) = .bool true := h0 rfl
                  have x0 : ρ (.tmp 7) = .int .i64 (j : Int) := (hr.1 7 rfl).trans rfl
                  refine ⟨hgd, ?_⟩
                  exact does_move rfl x0 ⟨rfl, Old.refl _⟩
                · refine step_guard rfl fun ρ w2 ho hr hd => ?_
                  obtain ⟨h0, h1, h2, _⟩ := hd
                  have hgd : ρ (.tmp 43) = .bool true := h2 rfl
                  have x0 : ρ (.tmp 53) = .slice (some ⟨sg, so, none⟩) S sc := h0 rfl
                  have y0 : ρ (.tmp 54) = .int .i64 (j : Int) := h1 rfl
                  refine ⟨hgd, ?_⟩
                  refine does_value (v := .pointer (some ⟨sg, so + j * 2, none⟩)) (w' := w2) ?_ ⟨rfl, Old.refl _⟩
                  unfold execOp
                  simp only [x0, y0]
                  go_simp
                · refine step_guard rfl fun ρ w2 ho hr hd => ?_
                  obtain ⟨h0, h1, _⟩ := hd
                  have hgd : ρ (.tmp 43) = .bool true := h1 rfl
                  have x0 : ρ (.tmp 55) = .pointer (some ⟨sg, so + j * 2, none⟩) := h0 rfl
                  refine ⟨hgd, ?_⟩
                  refine does_value (v := .pointer (some ⟨sg, so + j * 2 + 1, none⟩)) (w' := w2) ?_ ⟨rfl, Old.refl _⟩
                  unfold execOp
                  simp only [x0]
                  go_simp
                · refine step_guard rfl fun ρ w2 ho hr hd => ?_
                  obtain ⟨h0, h1, _⟩ := hd
                  have hgd : ρ (.tmp 43) = .bool true := h1 rfl
                  have x0 : ρ (.tmp 56) = .pointer (some ⟨sg, so + j * 2 + 1, none⟩) := h0 rfl
                  have q0 := (ho.cell EL.out).trans E1.out
                  refine ⟨hgd, ?_⟩
                  refine does_value (v := .int .u8 yk) (w' := w2) ?_ ⟨rfl, Old.refl _⟩
                  unfold execOp
                  simp only [x0]
                  go_simp
                · refine step_guard rfl fun ρ w2 ho hr hd => ?_
                  obtain ⟨h0, h1, h2, _⟩ := hd
                  have hgd : ρ (.tmp 43) = .bool true := h2 rfl
                  have x0 : ρ (.tmp 48) = .int .u8 yk := h0 rfl
                  have y0 : ρ (.tmp 57) = .int .u8 yk := h1 rfl
                  refine ⟨hgd, ?_⟩
                  refine does_value (v := .bool false) (w' := w2) ?_ ⟨rfl, Old.refl _⟩
                  unfold execOp
                  simp only [x0, y0]
                  go_simp
                · refine step_plain rfl fun ρ w2 ho hr hd => ?_
                  obtain ⟨h0, h1, _⟩ := hd
                  have x0 : ρ (.tmp 43) = .bool true := h0 rfl
                  have y0 : ρ (.tmp 58) = .bool false := h1 rfl
                  exact does_pick rfl x0 y0 ⟨rfl, Old.refl _⟩
              · intro a' w' hoE hst hl
                obtain ⟨_, _, _, _, _, _, _, _, _, _, _, _, _, _, _, _, _, _, _, _, _, _, k22, _⟩ := hl
                have e22 : a'.eval (.tmp 59) = .bool false := k22
                rw [act_fresh hst [false, false, false, false, false, false, false, false, false, false, false, false, false, false, false, false, false, false, false, false, false, false, false, false, false, false, false, false, false, false, false, false, false, false, false, false, false, true, true, true, true, true, true, true, true, true, true, true, true, true, true, true, true, true, true, true, true, true, true, true] (by kernel_rfl) (by kernel_rfl)]
                simp only [fresh, e22]
                clear hst k22 e22
                have HQ := Lib.hid (HQ0.out.trans hoE)
                clear hoE
                go_wp2_with fail
                first
                  | refine ⟨⟨j + 1, hj, rfl, Lib.hid (vTo_next HT.out HY.out HX.out HG.out), HQ⟩, by simp only [intOf]; omega⟩
                  | refine ⟨⟨j + 1, hj, by omega, Lib.hid (vTo_next HT.out HY.out HX.out HG.out)⟩, by simp only [intOf]; omega⟩
            · have HV2 : Hid (fitL xl s = 8) := Lib.hid (by rw [HV.out, vTo_no HY.out HX.out (by unfold goB; rw [HE.out]; simp only; simp [hz]; exact fun h => hk h.symm) S hj]; rfl)
              have hne := u8_ne hz
              have hne2 : (vk != yk) = true := u8_ne (fun h => hk h.symm)
              clear hz hk
              go_upto_region 10 with (go_at_call 34; (with_reducible refine (hm _).mono ?_); rintro e w2 ⟨rfl, o2⟩; have HQ0 := Lib.hid (HW.out.trans o2); have U0 := Lib.hid ((o2.cell UL0.out).trans p0); have UL := Lib.hid (Nat.lt_of_lt_of_le UL0.out o2.size); have D1 := Lib.hid ((o2.cell DL1.out).trans d1); have DL := Lib.hid (Nat.lt_of_lt_of_le DL1.out o2.size); have E1 := Lib.hid ((o2.cell SL.out).trans q1); have EL := Lib.hid (Nat.lt_of_lt_of_le SL.out o2.size); clear o2)
              clear p0 p1 p2 d0 d1 q0 q1
              refine wp_region_inv (spOf [.eq (.slice (some ⟨ug, uo, none⟩) S uc), .eq (.int .i64 (j : Int)), .eq (.pointer (some ⟨ug, uo + j * 3, none⟩)), .eq (.pointer (some ⟨ug, uo + j * 3, none⟩)), .eq (.int .u8 vk), .eq (.bool true), .eq (.bool true), .eq (.slice (some ⟨ug, uo, none⟩) S uc), .eq (.int .i64 (j : Int)), .eq (.pointer (some ⟨ug, uo + j * 3, none⟩)), .eq (.pointer (some ⟨ug, uo + j * 3, none⟩)), .eq (.int .u8 vk), .eq (.slice (some ⟨g, o, none⟩) N c), .eq (.int .i64 (m : Int)), .eq (.pointer (some ⟨g, o + m * 2, none⟩)), .eq (.pointer (some ⟨g, o + m * 2 + 1, none⟩)), .eq (.slice (some ⟨sg, so, none⟩) S sc), .eq (.int .i64 (j : Int)), .eq (.pointer (some ⟨sg, so + j * 2, none⟩)), .eq (.pointer (some ⟨sg, so + j * 2 + 1, none⟩)), .eq (.int .u8 yk), .eq (.bool true), .eq (.bool true)]) (by kernel_rfl) (by kernel_rfl) (spOf_mono _) ?_ ?_
              · refine ⟨?_, ?_, ?_, ?_, ?_, ?_, ?_, ?_, ?_, ?_, ?_, ?_, ?_, ?_, ?_, ?_, ?_, ?_, ?_, ?_, ?_, ?_, ?_, trivial⟩
                · refine step_plain rfl fun ρ w2 ho hr hd => ?_
                  have x0 : ρ (.tmp 2) = .slice (some ⟨ug, uo, none⟩) S uc := (hr.1 2 rfl).trans rfl
                  exact does_move rfl x0 ⟨rfl, Old.refl _⟩
                · refine step_plain rfl fun ρ w2 ho hr hd => ?_
                  have x0 : ρ (.tmp 7) = .int .i64 (j : Int) := (hr.1 7 rfl).trans rfl
                  exact does_move rfl x0 ⟨rfl, Old.refl _⟩
                · refine step_plain rfl fun ρ w2 ho hr hd => ?_
                  obtain ⟨h0, h1, _⟩ := hd
                  have x0 : ρ (.tmp 37) = .slice (some ⟨ug, uo, none⟩) S uc := h0 rfl
                  have y0 : ρ (.tmp 38) = .int .i64 (j : Int) := h1 rfl
                  refine does_value (v := .pointer (some ⟨ug, uo + j * 3, none⟩)) (w' := w2) ?_ ⟨rfl, Old.refl _⟩
                  unfold execOp
                  simp only [x0, y0]
                  go_simp
                · refine step_plain rfl fun ρ w2 ho hr hd => ?_
                  obtain ⟨h0, _⟩ := hd
                  have x0 : ρ (.tmp 39) = .pointer (some ⟨ug, uo + j * 3, none⟩) := h0 rfl
                  refine does_value (v := .pointer (some ⟨ug, uo + j * 3, none⟩)) (w' := w2) ?_ ⟨rfl, Old.refl _⟩
                  unfold execOp
                  simp only [x0]
                  go_simp
                · refine step_plain rfl fun ρ w2 ho hr hd => ?_
                  obtain ⟨h0, _⟩ := hd
                  have x0 : ρ (.tmp 40) = .pointer (some ⟨ug, uo + j * 3, none⟩) := h0 rfl
                  have q0 := (ho.cell UL.out).trans U0.out
                  refine does_value (v := .int .u8 vk) (w' := w2) ?_ ⟨rfl, Old.refl _⟩
                  unfold execOp
                  simp only [x0]
                  go_simp
                · refine step_plain rfl fun ρ w2 ho hr hd => ?_
                  obtain ⟨h0, _⟩ := hd
                  have x0 : ρ (.tmp 41) = .int .u8 vk := h0 rfl
                  refine does_value (v := .bool true) (w' := w2) ?_ ⟨rfl, Old.refl _⟩
                  unfold execOp
                  simp only [x0, hr.2.1]
                  go_simp
                · refine step_plain rfl fun ρ w2 ho hr hd => ?_
                  obtain ⟨h0, _⟩ := hd
                  have x0 : ρ (.tmp 42) = .bool true := h0 rfl
                  exact does_move rfl x0 ⟨rfl, Old.refl _⟩
                · refine step_guard rfl fun ρ w2 ho hr hd => ?_
                  obtain ⟨h0, _⟩ := hd
                  have hgd : ρ (.tmp 43) = .bool true := h0 rfl
                  have x0 : ρ (.tmp 2) = .slice (some ⟨ug, uo, none⟩) S uc := (hr.1 2 rfl).trans rfl
                  refine ⟨hgd, ?_⟩
                  exact does_move rfl x0 ⟨rfl, Old.refl _⟩
                · refine step_guard rfl fun ρ w2 ho hr hd => ?_
                  obtain ⟨h0, _⟩ := hd
                  have hgd : ρ (.tmp 43) = .bool true := h0 rfl
                  have x0 : ρ (.tmp 7) = .int .i64 (j : Int) := (hr.1 7 rfl).trans rfl
                  refine ⟨hgd, ?_⟩
                  exact does_move rfl x0 ⟨rfl, Old.refl _⟩
                · refine step_guard rfl fun ρ w2 ho hr hd => ?_
                  obtain ⟨h0, h1, h2, _⟩ := hd
                  have hgd : ρ (.tmp 43) = .bool true := h2 rfl
                  have x0 : ρ (.tmp 44) = .slice (some ⟨ug, uo, none⟩) S uc := h0 rfl
                  have y0 : ρ (.tmp 45) = .int .i64 (j : Int) := h1 rfl
                  refine ⟨hgd, ?_⟩
                  refine does_value (v := .pointer (some ⟨ug, uo + j * 3, none⟩)) (w' := w2) ?_ ⟨rfl, Old.refl _⟩
                  unfold execOp
                  simp only [x0, y0]
                  go_simp
                · refine step_guard rfl fun ρ w2 ho hr hd => ?_
                  obtain ⟨h0, h1, _⟩ := hd
                  have hgd : ρ (.tmp 43) = .bool true := h1 rfl
                  have x0 : ρ (.tmp 46) = .pointer (some ⟨ug, uo + j * 3, none⟩) := h0 rfl
                  refine ⟨hgd, ?_⟩
                  refine does_value (v := .pointer (some ⟨ug, uo + j * 3, none⟩)) (w' := w2) ?_ ⟨rfl, Old.refl _⟩
                  unfold execOp
                  simp only [x0]
                  go_simp
                · refine step_guard rfl fun ρ w2 ho hr hd => ?_
                  obtain ⟨h0, h1, _⟩ := hd
                  have hgd : ρ (.tmp 43) = .bool true := h1 rfl
                  have x0 : ρ (.tmp 47) = .pointer (some ⟨ug, uo + j * 3, none⟩) := h0 rfl
                  have q0 := (ho.cell UL.out).trans U0.out
                  refine ⟨hgd, ?_⟩
                  refine does_value (v := .int .u8 vk) (w' := w2) ?_ ⟨rfl, Old.refl _⟩
                  unfold execOp
                  simp only [x0]
                  go_simp
                · refine step_guard rfl fun ρ w2 ho hr hd => ?_
                  obtain ⟨h0, _⟩ := hd
                  have hgd : ρ (.tmp 43) = .bool true := h0 rfl
                  have x0 : ρ (.tmp 0) = .slice (some ⟨g, o, none⟩) N c := (hr.1 0 rfl).trans rfl
                  refine ⟨hgd, ?_⟩
                  exact does_move rfl x0 ⟨rfl, Old.refl _⟩
                · refine step_guard rfl fun ρ w2 ho hr hd => ?_
                  obtain ⟨h0, _⟩ := hd
                  have hgd : ρ (.tmp 43) = .bool true := h0 rfl
                  have x0 : ρ (.tmp 1) = .int .i64 (m : Int) := (hr.1 1 rfl).trans rfl
                  refine ⟨hgd, ?_⟩
                  exact does_move rfl x0 ⟨rfl, Old.refl _⟩
                · refine step_guard rfl fun ρ w2 ho hr hd => ?_
                  obtain ⟨h0, h1, h2, _⟩ := hd
                  have hgd : ρ (.tmp 43) = .bool true := h2 rfl
                  have x0 : ρ (.tmp 49) = .slice (some ⟨g, o, none⟩) N c := h0 rfl
                  have y0 : ρ (.tmp 50) = .int .i64 (m : Int) := h1 rfl
                  refine ⟨hgd, ?_⟩
                  refine does_value (v := .pointer (some ⟨g, o + m * 2, none⟩)) (w' := w2) ?_ ⟨rfl, Old.refl _⟩
                  unfold execOp
                  simp only [x0, y0]
                  go_simp
                · refine step_guard rfl fun ρ w2 ho hr hd => ?_
                  obtain ⟨h0, h1, _⟩ := hd
                  have hgd : ρ (.tmp 43) = .bool true := h1 rfl
                  have x0 : ρ (.tmp 51) = .pointer (some ⟨g, o + m * 2, none⟩) := h0 rfl
                  refine ⟨hgd, ?_⟩
                  refine does_value (v := .pointer (some ⟨g, o + m * 2 + 1, none⟩)) (w' := w2) ?_ ⟨rfl, Old.refl _⟩
                  unfold execOp
                  simp only [x0]
                  go_simp
                · refine step_guard rfl fun ρ w2 ho hr hd => ?_
                  obtain ⟨h0, h1, _⟩ := hd
                  have hgd : ρ (.tmp 43) = .bool true := h1 rfl
                  have x0 : ρ (.tmp 52) = .pointer (some ⟨g, o + m * 2 + 1, none⟩) := h0 rfl
                  have q0 := (ho.cell DL.out).trans D1.out
                  refine ⟨hgd, ?_⟩
                  refine does_value (v := .slice (some ⟨sg, so, none⟩) S sc) (w' := w2) ?_ ⟨rfl, Old.refl _⟩
                  unfold execOp
                  simp only [x0]
                  go_simp
                · refine step_guard rfl fun ρ w2 ho hr hd => ?_
                  obtain ⟨h0, _⟩ := hd
                  have hgd : ρ (.tmp 43) = .bool true := h0 rfl
                  have x0 : ρ (.tmp 7) = .int .i64 (j : Int) := (hr.1 7 rfl).trans rfl
                  refine ⟨hgd, ?_⟩
                  exact does_move rfl x0 ⟨rfl, Old.refl _⟩
                · refine step_guard rfl fun ρ w2 ho hr hd => ?_
                  obtain ⟨h0, h1, h2, _⟩ := hd
                  have hgd : ρ (.tmp 43) = .bool true := h2 rfl
                  have x0 : ρ (.tmp 53) = .slice (some ⟨sg, so, none⟩) S sc := h0 rfl
                  have y0 : ρ (.tmp 54) = .int .i64 (j : Int) := h1 rfl
                  refine ⟨hgd, ?_⟩
                  refine does_value (v := .pointer (some ⟨sg, so + j * 2, none⟩)) (w' := w2) ?_ ⟨rfl, Old.refl _⟩
                  unfold execOp
                  simp only [x0, y0]
                  go_simp
                · refine step_guard rfl fun ρ w2 ho hr hd => ?_
                  obtain ⟨h0, h1, _⟩ := hd
                  have hgd : ρ (.tmp 43) = .bool true := h1 rfl
                  have x0 : ρ (.tmp 55) = .pointer (some ⟨sg, so + j * 2, none⟩) := h0 rfl
                  refine ⟨hgd, ?_⟩
                  refine does_value (v := .pointer (some ⟨sg, so + j * 2 + 1, none⟩)) (w' := w2) ?_ ⟨rfl, Old.refl _⟩
                  unfold execOp
                  simp only [x0]
                  go_simp
                · refine step_guard rfl fun ρ w2 ho hr hd => ?_
                  obtain ⟨h0, h1, _⟩ := hd
                  have hgd : ρ (.tmp 43) = .bool true := h1 rfl
                  have x0 : ρ (.tmp 56) = .pointer (some ⟨sg, so + j * 2 + 1, none⟩) := h0 rfl
                  have q0 := (ho.cell EL.out).trans E1.out
                  refine ⟨hgd, ?_⟩
                  refine does_value (v := .int .u8 yk) (w' := w2) ?_ ⟨rfl, Old.refl _⟩
                  unfold execOp
                  simp only [x0]
                  go_simp
                · refine step_guard rfl fun ρ w2 ho hr hd => ?_
                  obtain ⟨h0, h1, h2, _⟩ := hd
                  have hgd : ρ (.tmp 43) = .bool true := h2 rfl
                  have x0 : ρ (.tmp 48) = .int .u8 vk := h0 rfl
                  have y0 : ρ (.tmp 57) = .int .u8 yk := h1 rfl
                  refine ⟨hgd, ?_⟩
                  refine does_value (v := .bool true) (w' := w2) ?_ ⟨rfl, Old.refl _⟩
                  unfold execOp
                  simp only [x0, y0]
                  go_simp
                · refine step_plain rfl fun ρ w2 ho hr hd => ?_
                  obtain ⟨h0, h1, _⟩ := hd
                  have x0 : ρ (.tmp 43) = .bool true := h0 rfl
                  have y0 : ρ (.tmp 58) = .bool true := h1 rfl
                  exact does_pick rfl x0 y0 ⟨rfl, Old.refl _⟩
              · intro a' w' hoE hst hl
                obtain ⟨_, _, _, _, _, _, _, _, _, _, _, _, _, _, _, _, _, _, _, _, _, _, k22, _⟩ := hl
                have e22 : a'.eval (.tmp 59) = .bool true := k22
                rw [act_fresh hst [false, false, false, false, false, false, false, false, false, false, false, false, false, false, false, false, false, false, false, false, false, false, false, false, false, false, false, false, false, false, false, false, false, false, false, false, false, true, true, true, true, true, true, true, true, true, true, true, true, true, true, true, true, true, true, true, true, true, true, true] (by kernel_rfl) (by kernel_rfl)]
                simp only [fresh, e22]
                clear hst k22 e22
                have HQ := Lib.hid (HQ0.out.trans hoE)
                clear hoE
                go_wp2_with fail
                go_ret
                exact ⟨ri HV2.out.symm, HQ.out⟩
      · have hj' : j = S := by omega
        subst hj'
        have d0 := (HW.out.cell DL0.out).trans C0.out
        have d1 := (HW.out.cell DL0.out).trans C1.out
        go_wp2_with fail
        go_ret
        exact ⟨ri (by rw [HV.out, HT.out]; rfl), HW.out⟩
  · have e : fitL xl s = 14 := by unfold fitL; rw [← HM.out, ← HS.out, if_pos hSM]
    rw [e]
    have hne : ((S : Int) != (M : Int)) = true := u8_ne (by omega)
    clear e hSM
    go_enter Try.func23, Try.ntmps23
    go_wp2_with fail
    go_ret
    exact ⟨rfl, Old.refl w⟩

end Go.Proofs.Ytcedcfkjoppjdaa
