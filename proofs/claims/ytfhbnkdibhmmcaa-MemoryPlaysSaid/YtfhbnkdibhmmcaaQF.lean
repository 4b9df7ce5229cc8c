/- Layer memory: Find. -/
import Derived.Test.YtfhbnkdibhmmcaaQE
namespace Go.Proofs.Ytfhbnkdibhmmcaa
open Go.ChangeShapes Go.WideShapes Go.ChangeAt Go.RowKit Go.Lib
set_option linter.unusedVariables false
set_option linter.unusedSimpArgs false
set_option maxRecDepth 100000

theorem wpList_nextM {w : World} {E : List En} {ops : Array Oper} {rest : List Oper} {o : Oper} {a : Act} {Q : Exit → Act → World → Prop} (hg : o.guard = none) (it : Operand) (hop : o.op = Op.next it false) (b r n : Nat) (left : Lit → Bool) (cnt : Nat)
    (hit : a.eval it = .pointer (some ⟨r, 0, none⟩)) (h : w.ranges Try.prog 3 Rm b r n (Dm E) left cnt) (hu : E.Pairwise (fun x y => x.id < y.id)) (hr : ∀ x ∈ E, VR w x.v x.l)
    (hDone : cnt = 0 → (∀ kl, left kl = false) → wpList Try.prog ops Q rest (a.put o.dst (.tuple #[.bool false])) w)
    (hMore : ∀ (i t : Int) (oa : Option Addr) (m c : Nat) (l : List Vl) (w' : World) (cnt' : Nat), (⟨i, t, .slice oa m c, l⟩ : En) ∈ E → left (.int .i64 i) = true → w'.ranges Try.prog 3 Rm b r n (Dm E) (fun z => left z && !z.sameKey (.int .i64 i)) cnt' → cnt' < cnt →
      w.grownBy w' (some r) → w'.heap.size = w.heap.size → (Instr.entry (.pointer (some ⟨r, 0, none⟩))).run Try.prog w' = .ok (.tuple #[.int .i64 i, fv i t (.slice oa m c)]) w' → wpList Try.prog ops Q rest (a.put o.dst (.tuple #[.bool true, .int .i64 i, fv i t (.slice oa m c)])) w') :
    wpList Try.prog ops Q (o :: rest) a w := by
  refine wpList_plain hg fun K' hK' => ?_
  unfold Oper.wp
  rcases h.next keyed3 o.type with ⟨h0, hl, hrun⟩ | ⟨key, v, kl, y, w', cnt', hkey, hlk, hv, hat, hrun, hrg, hlt, hgr, hsz, hen⟩
  · simp [execOp, hop, hit, hrun, Result.andThen]
    exact hK' _ _ (hDone h0 hl)
  · obtain ⟨i, rfl, rfl, _⟩ := Maps.keyOf_int_inv Try.underlying3 hkey
    obtain ⟨yd, yp⟩ := y
    have hy : yd = .held v := by
      simp only [Rm, Option.some.injEq, Prod.mk.injEq] at hv
      exact hv.1.symm
    subst hy
    have hx : ∃ x ∈ E, x.id = i := by
      refine Classical.byContradiction fun hn => ?_
      have hx' : ∀ x ∈ E, x.id ≠ i := fun x hx1 e => hn ⟨x, hx1, e⟩
      have := hat .nil
      rw [Dm_no hx'] at this
      cases this
    obtain ⟨x, hx, rfl⟩ := hx
    have hh := hat .nil
    rw [Dm_at hu hx] at hh
    have e1 : v = fv x.id x.t x.v := by
      simp only [DataW.held.injEq] at hh
      exact hh.symm
    subst e1
    obtain ⟨oa, c, e3, _⟩ := hr x hx
    obtain ⟨xi, xt, xv, xl⟩ := x
    simp only at e3
    subst e3
    simp [execOp, hop, hit, hrun, Result.andThen]
    exact hK' _ _ (hMore xi xt oa xl.length c xl w' cnt' hx hlk hrg hlt hgr hsz hen)

theorem idOf_mem {E : List En} (hu : E.Pairwise (fun x y => ¬ (x.t = y.t ∧ x.l = y.l))) {x : En} (hx : x ∈ E) {t : Int} {s : List Vl} (ht : x.t = t) (hl : x.l = s) : idOf (E.map En.ft) t s = x.id := by
  subst ht hl
  unfold idOf
  induction E with
  | nil => cases hx
  | cons y r ih =>
    obtain ⟨h1, h2⟩ := List.pairwise_cons.1 hu
    rw [List.map_cons, List.find?_cons]
    rcases List.mem_cons.1 hx with rfl | hx'
    · simp [En.ft]
    · have := h1 x hx'
      rw [decide_eq_false (by show ¬ (y.t = x.t ∧ y.l = x.l); exact this)]
      exact ih h2 hx'
theorem idOf_no {E : List En} {t : Int} {s : List Vl} (hx : ∀ x ∈ E, ¬ (x.t = t ∧ x.l = s)) : idOf (E.map En.ft) t s = 0 := by
  unfold idOf
  have : (E.map En.ft).find? (fun x => decide (x.t = t ∧ x.l = s)) = none := by
    rw [List.find?_eq_none]
    intro p hp
    obtain ⟨x, hx', rfl⟩ := List.mem_map.1 hp
    have h0 := hx x hx'
    rw [decide_eq_true_eq]
    exact h0
  rw [this]
/-- Of those that were told none has these values. -/
def NoneYet (E : List En) (left : Lit → Bool) (t : Int) (s : List Vl) : Prop := ∀ x ∈ E, left (.int .i64 x.id) = false → ¬ (x.t = t ∧ x.l = s)
theorem NoneYet.start (E : List En) (t : Int) (s : List Vl) : NoneYet E (Maps.has (Dm E)) t s := fun x hx h => by
  rw [(Dm_has E _).2 ⟨x, hx, rfl⟩] at h
  cases h
theorem NoneYet.step {E : List En} {left : Lit → Bool} {t : Int} {s : List Vl} (h : NoneYet E left t s) (hu : E.Pairwise (fun x y => x.id < y.id)) {y : En} (hy : y ∈ E) (hn : ¬ (y.t = t ∧ y.l = s)) : NoneYet E (fun z => left z && !z.sameKey (.int .i64 y.id)) t s := fun x hx hl => by
  by_cases e : x.id = y.id
  · have h1 := getOf_mem hu hx
    have h2 := getOf_mem hu hy
    rw [e, h2] at h1
    simp only [Option.some.injEq, En.ft, Ft.mk.injEq] at h1
    rw [← h1.2.1, ← h1.2.2]
    exact hn
  · refine h x hx ?_
    simp only [lit_same, decide_eq_false e, Bool.not_false, Bool.and_true] at hl
    exact hl

theorem ranges_old {w w' : World} {b r n : Nat} {D : DataW Value} {left : Lit → Bool} {cnt : Nat} (h : w.ranges Try.prog 3 Rm b r n D left cnt) (ho : Old w w') : w'.ranges Try.prog 3 Rm b r n D left cnt := by
  have h1 := h.owns.lt
  have h2 := h.lt
  obtain ⟨es, clock, since, seen, c0, hb, F, hs, hD, hr, rest⟩ := h
  exact ⟨es, clock, since, seen, c0, (ho.block b h1).trans hb, F, hs, hD, (ho.block r h2).trans hr, rest⟩

theorem find_any {w : World} {p b lim last : Nat} {L : List Ft} (h : Mem w p b lim last L) (t : Int) (u : Value) (s : List Vl) (hs : VR w u s) : Calls Try.prog 21 #[.pointer (some ⟨p, 0, none⟩), .int .i64 t, u] w fun e w' => e = .returned (.int .i64 (idOf L t s)) ∧ Old w w' := by
  obtain ⟨E, rfl, h⟩ := h
  have hm := made_any h
  obtain ⟨c0, c1, c2⟩ := obj_cells h.obj
  have HM := Lib.hid h
  have HS := Lib.hid hs
  generalize hI : idOf (E.map En.ft) t s = I
  have HI := Lib.hid hI
  clear hI
  obtain ⟨ua, uc, rfl, _⟩ := id hs
  obtain ⟨N, hN⟩ : ∃ N, N = s.length := ⟨_, rfl⟩
  rw [← hN] at HS ⊢
  clear hN hs h
  go_enter Try.func21, Try.ntmps21
  go_wp2_with (first
    | (go_at_call 29; (with_reducible refine hm.mono ?_); rintro e w1 ⟨rfl, rfl⟩)
    | (at_range; refine wpList_range_own _ rfl _ 59 rfl 3 38 keyed3 Try.underlying59 Rm b E.length (Dm E) rfl HM.out.own ?_; intro w0 hrg0 hg0 hs0))
  go_frame
  go_loopw [7] (fun _ wr => ∃ left cnt, wr.ranges Try.prog 3 Rm b w.heap.size E.length (Dm E) left cnt ∧ Hid (NoneYet E left t s) ∧ Hid (Old w wr)) (fun _ wr => wr.rangeLeft b w.heap.size)
  case atStart => exact ⟨_, _, hrg0, Lib.hid (NoneYet.start E t s), Lib.hid ((Old.refl w).grown hg0 (fun k e => by cases e))⟩
  case round =>
    obtain ⟨left, cnt, hrg, HN, HO⟩ := hrel
    go_wp2_with (first
      | (at_next; refine wpList_nextM rfl _ rfl b w.heap.size E.length left cnt rfl hrg HM.out.up (fun x hx => ((HM.out.rows x hx).1).old HO.out) ?_ ?_))
    · intro hc0 hl0
      go_wp2
      go_ret
      refine ⟨?_, HO.out⟩
      rw [← HI.out, idOf_no (fun x hx => HN.out x hx (hl0 _))]
      rfl
    · intro i t' oa m c l w1 cnt1 hx hlx hrg1 hlt hg1 hs1 hen
      have HO1 := Lib.hid (HO.out.grown hg1 (fun k e => by cases e; exact Nat.le_refl _))
      have HX := Lib.hid hx
      have HO2 := Lib.hid (HO1.out.alloc (.cells #[.int .i64 i, .int .i64 t', .slice oa m c] 38))
      have HLT := Lib.hid hlt
      clear hx hlt hs1 hg1
      by_cases ht : t' = t
      · subst ht
        have hq := eqf_any l s _ _ _ ((HM.out.rows _ HX.out).1.old HO2.out) (HS.out.old HO2.out)
        generalize hE : decide (l = s) = B at hq
        have HQ := Lib.hid hE
        clear hE
        cases B
        · go_wp2_with (go_at_call 33; (with_reducible refine hq.mono ?_); rintro e w3 ⟨rfl, ho⟩; have HO3 := Lib.hid (HO2.out.trans ho); have HOA := Lib.hid ((Old.refl w1).alloc (.cells #[.int .i64 i, .int .i64 t', .slice oa m c] 38) |>.trans ho); clear ho)
          have hrg3 := ranges_old hrg1 HOA.out
          refine ⟨⟨_, cnt1, hrg3, Lib.hid (HN.out.step HM.out.up HX.out (fun h => ?_)), HO3⟩, ?_⟩
          · have := HQ.out
            rw [decide_eq_false_iff_not] at this
            exact this h.2
          · rw [hrg3.left_eq, hrg.left_eq]
            exact HLT.out
        · go_wp2_with (go_at_call 33; (with_reducible refine hq.mono ?_); rintro e w3 ⟨rfl, ho⟩; have HO3 := Lib.hid (HO2.out.trans ho); clear ho)
          go_ret
          refine ⟨?_, HO3.out⟩
          rw [← HI.out, idOf_mem HM.out.uniq HX.out rfl (of_decide_eq_true HQ.out)]
          rfl
      · have htf : (t' == t) = false := by simpa using ht
        go_wp2
        have hrg3 := hrg1.alloc (.cells #[.int .i64 i, .int .i64 t', .slice oa m c] 38)
        refine ⟨⟨_, cnt1, hrg3, Lib.hid (HN.out.step HM.out.up HX.out (fun h => ht h.1)), HO2⟩, ?_⟩
        rw [hrg3.left_eq, hrg.left_eq]
        exact HLT.out

end Go.Proofs.Ytfhbnkdibhmmcaa
