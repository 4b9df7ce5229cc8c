/- Layer memory: what tells the facts by rising ids. -/
import Derived.Test.YtfhbnkdibhmmcaaQK
import Derived.Test.YtfhbnkdibhmmcaaQL
import Derived.Maps.OwnIn
namespace Go.Proofs.Ytfhbnkdibhmmcaa
open Go.ChangeShapes Go.WideShapes Go.ChangeAt Go.RowKit Go.Lib
set_option linter.unusedVariables false
set_option linter.unusedSimpArgs false
set_option maxRecDepth 100000

theorem wpListIn_look {F : Fence} {nF : Nat} {W : World} {p b lim last : Nat} {E : List En} (hm : MemE W p b lim last E) {id : Int} (hid : I64 id) {ops : Array Oper} {rest : List Oper} {o : Oper} {a : Act} {Q : Exit → Act → World → Prop} (hgd : o.guard = none) (m x : Operand)
    (ho : o.op = .lookup 59 m x false) (hm' : a.eval m = .map (some b)) (hx : a.eval x = .int .i64 id)
    (h : ∀ i t oa n c l, (⟨i, t, l⟩ : Ft) = (getOf (E.map En.ft) id).getD noFt → VR W (.slice oa n c) l → l.length ≤ 10 → n = l.length → wpListIn F nF Try.prog ops Q rest (a.put o.dst (fv i t (.slice oa n c))) W) : wpListIn F nF Try.prog ops Q (o :: rest) a W := by
  refine wpListIn_plain hgd fun K hK => ?_
  obtain ⟨i, t, oa, n, c, l, h1, h2, h3, h4, _, hrun⟩ := look_run hm hid
  unfold Oper.wpIn
  refine ⟨by simp [Oper.about, ho], ?_⟩
  rw [Oper.semAt_plain F _ _ (by rw [ho]; intro c hc'; cases hc')]
  simp [execOp, ho, hm', hx, hrun, Result.andThen]
  exact hK _ _ (h i t oa n c l h1 h2 h3 h4)

theorem Rd.of_owns {w : World} {base n : Nat} {v : Value} {ds : List Int} (h : w.ownsRow base 3 1 v n (ds.map (Value.int .i64))) : Rd w v ds := by
  obtain ⟨hl, h⟩ := h
  rw [List.length_map, Nat.mul_one] at hl
  subst hl
  rcases h with ⟨rfl, hn⟩ | ⟨g, cap, cur, rfl, hb, hg, hc, hm, hsz, ht⟩
  · rw [List.length_eq_zero_iff] at hn
    subst hn
    exact Rd.nil w
  · refine ⟨_, cap, rfl, hc, hm, fun j hj => ⟨g, rfl, blk_lt hg, ?_⟩⟩
    have h0 : (ds.map (Value.int .i64))[j]? = some (.int .i64 (ds.getD j 0)) := by
      rw [List.getElem?_map, List.getElem?_eq_getElem hj, List.getD_eq_getElem?_getD, List.getElem?_eq_getElem hj]
      rfl
    rw [← ht, List.getElem?_take, if_pos (by omega), Array.getElem?_toList] at h0
    simp [World.cell?, hg, h0]
/-- What the iterator has captured. -/
def It (w : World) (B3 B1 p : Nat) (v : Value) (E : List En) : Prop := w.cell? ⟨B3, 0, none⟩ = some v ∧ w.cell? ⟨B1, 0, none⟩ = some (.pointer (some ⟨p, 0, none⟩)) ∧ Rd w v (E.map (·.id))
theorem cell_in {w : World} {a : Addr} {v : Value} (h : w.cell? a = some v) : a.block < w.heap.size := by
  rcases Nat.lt_or_ge a.block w.heap.size with h1 | h1
  · exact h1
  · simp [World.cell?, Array.getElem?_eq_none h1] at h
theorem Chg.cell {S : Nat → Prop} {w w' : World} (hc : Chg S w w') (hs : ∀ k o u, S k → w.cell? ⟨k, o, none⟩ ≠ some u) {b o : Nat} {v : Value} (h : w.cell? ⟨b, o, none⟩ = some v) : w'.cell? ⟨b, o, none⟩ = some v :=
  (World.cell?_of_block (w := w) (a := ⟨b, o, none⟩) (hc.block b (cell_in h) (fun e => hs _ _ _ e h))).trans h
theorem It.chg {S : Nat → Prop} {w w' : World} {B3 B1 p : Nat} {v : Value} {E : List En} (h : It w B3 B1 p v E) (hc : Chg S w w') (hs : ∀ k o u, S k → w.cell? ⟨k, o, none⟩ ≠ some u) : It w' B3 B1 p v E := by
  obtain ⟨h1, h2, oa, cap, rfl, h3, h4, h5⟩ := h
  refine ⟨hc.cell hs h1, hc.cell hs h2, oa, cap, rfl, h3, h4, fun j hj => ?_⟩
  obtain ⟨g, rfl, hg, hj⟩ := h5 j hj
  exact ⟨g, rfl, Nat.lt_of_lt_of_le hg hc.size, hc.cell hs hj⟩
theorem It.old {w w' : World} {B3 B1 p : Nat} {v : Value} {E : List En} (h : It w B3 B1 p v E) (ho : Old w w') : It w' B3 B1 p v E := h.chg (S := fun _ => False) (Chg.ofOld ho) (fun _ _ _ e => e.elim)

theorem one_cell {w : World} {g : Nat} {x : Value} {t : TypeId} (h : w.heap[g]? = some (.cells #[x] t (0, 0))) : w.cell? ⟨g, 0, none⟩ = some x := by simp [World.cell?, h]
theorem inorder_any {w : World} {p b lim last : Nat} {E : List En} (h : MemE w p b lim last E) : Calls Try.prog 31 #[.pointer (some ⟨p, 0, none⟩)] w fun e w' => (∃ B3 B1 v, e = .returned (.func (.func 37) #[] #[.pointer (some ⟨B3, 0, none⟩), .pointer (some ⟨B1, 0, none⟩)]) ∧ It w' B3 B1 p v E) ∧ Old w w' := by
  have h1 := h.old ((Old.refl w).alloc (.cells #[.pointer (some ⟨p, 0, none⟩)] 25))
  have hb1 : (w.alloc (.cells #[.pointer (some ⟨p, 0, none⟩)] 25)).cell? ⟨w.heap.size, 0, none⟩ = some (.pointer (some ⟨p, 0, none⟩)) := one_cell (MapKept.heap_alloc w (.cells #[.pointer (some ⟨p, 0, none⟩)] 25)).1
  obtain ⟨c0, c1, c2⟩ := obj_cells h1.obj
  have h2 := h1.old ((Old.refl _).alloc (.cells #[.map (some b)] 59))
  have hs : (w.alloc (.cells #[.pointer (some ⟨p, 0, none⟩)] 25)).heap.size = w.heap.size + 1 := by simp
  have hb2 : ((w.alloc (.cells #[.pointer (some ⟨p, 0, none⟩)] 25)).alloc (.cells #[.map (some b)] 59)).cell? ⟨w.heap.size + 1, 0, none⟩ = some (.map (some b)) := by
    have := (MapKept.heap_alloc (w.alloc (.cells #[.pointer (some ⟨p, 0, none⟩)] 25)) (.cells #[.map (some b)] 59)).1
    rw [hs] at this
    exact one_cell this
  have hb3 := (((Old.refl _).alloc (.cells #[.map (some b)] 59)).cell (cell_in hb1)).trans hb1
  have HB3 := Lib.hid hb3
  have HO2 := Lib.hid (((Old.refl w).alloc (.cells #[.pointer (some ⟨p, 0, none⟩)] 25)).alloc (.cells #[.map (some b)] 59))
  have hsort := sorted_run (by simp) hb2 h2.own h.up (Nat.le_trans h.room h.lims)
  have hkeys := keys_run b (w.alloc (.cells #[.pointer (some ⟨p, 0, none⟩)] 25))
  rw [hs] at hkeys
  clear h1 h2 hb2 hb3 h
  go_enter Try.func31, Try.ntmps31
  go_wp2_with (first
    | (go_at_call 36; (with_reducible refine hkeys.mono ?_); rintro e w1 ⟨rfl, rfl⟩)
    | (go_at_call 35; (with_reducible refine hsort.mono ?_); rintro e w2 ⟨v, rfl, hrow, ho⟩; obtain ⟨oa, cap, rfl⟩ := own_shape hrow; have HR := Lib.hid (Rd.of_owns hrow); have HO3 := Lib.hid ho; clear hrow ho))
  go_ret
  refine ⟨⟨w2.heap.size, w.heap.size, .slice oa E.length cap, rfl, ?_, ?_, HR.out.old ((Old.refl _).alloc _)⟩, (HO2.out.trans HO3.out).alloc _⟩
  · exact one_cell (MapKept.heap_alloc w2 (.cells #[.slice oa E.length cap] 69)).1
  · have h1 := (HO3.out.cell (cell_in HB3.out)).trans HB3.out
    exact (((Old.refl w2).alloc (.cells #[.slice oa E.length cap] 69)).cell (cell_in h1)).trans h1

/-- What the iterator asks of the world of each round. -/
def Gm (p b lim last : Nat) (E : List En) (v : Value) (B3 B1 B : Nat) (w : World) : Prop := MemE w p b lim last E ∧ It w B3 B1 p v E ∧ B ≤ w.heap.size
/-- What it tells. -/
def Ym (E : List En) (B k : Nat) (v : Value) (w : World) : Prop := ∃ x, E[k]? = some x ∧ FV w B v x.ft

set_option maxHeartbeats 1000000 in
theorem tells_any (n : Nat) (hn : 2 ≤ n) (p b lim last : Nat) (E : List En) (v : Value) (B3 B1 B : Nat) : Tells Fence.wide n Try.prog 37 #[.pointer (some ⟨B3, 0, none⟩), .pointer (some ⟨B1, 0, none⟩)] (Ym E B) (Gm p b lim last E v B3 B1 B) E.length := by
  intro l J W hJo hJG hY h0
  refine callsIn_of_wp Try.func37 rfl trivial ?_ rfl
  simp only [Try.ntmps37, List.size_toArray, List.length_cons, List.length_nil, Nat.reduceAdd, Nat.reduceSub, Array.replicate_succ, Array.replicate_zero, List.push_toArray, List.append_toArray, List.nil_append, List.cons_append]
  obtain ⟨hM, ⟨hc3, hc1, hrd⟩, hB⟩ := hJG 0 W h0
  obtain ⟨oa, cap, rfl, r1, r2, r3⟩ := hrd
  rw [List.length_map] at hc3 r1
  have hlim : E.length ≤ 200 := Nat.le_trans hM.room hM.lims
  obtain ⟨N, hN⟩ : ∃ N, N = E.length := ⟨_, rfl⟩
  rw [← hN] at hc3 r1 hlim
  have HN := Lib.hid hN
  have HY := Lib.hid hY
  have HJG := Lib.hid hJG
  have HJO := Lib.hid hJo
  have H0 := Lib.hid h0
  have f30 : Fence.wide.fn 30 := trivial
  have hn1 : 1 ≤ n := by omega
  clear r3 hM hB hJG hJo h0 hY hN
  gi_wp2
  gi_loopw [8] (fun i wr => ∃ k : Nat, k ≤ N ∧ i = .int .i64 (k : Int) ∧ Hid (J k wr)) (fun i _ => (N - intOf i).toNat)
  case atStart => exact ⟨0, Nat.zero_le _, rfl, H0⟩
  case round =>
    obtain ⟨k, hk, rfl, HJ⟩ := hrel
    obtain ⟨hM, ⟨hc3, hc1, hrd⟩, hB⟩ := HJG.out k wr HJ.out
    by_cases hkn : k < N
    · obtain ⟨oa', cap', e', q1, q2, q3⟩ := hrd
      rw [List.length_map] at e' q3
      simp only [Value.slice.injEq] at e'
      obtain ⟨rfl, _, rfl⟩ := e'
      obtain ⟨g, rfl, hg, hcell⟩ := q3 k (by rw [← HN.out]; exact hkn)
      obtain ⟨x, hx⟩ : ∃ x, E[k]? = some x := ⟨E[k]'(by rw [← HN.out]; exact hkn), List.getElem?_eq_getElem _⟩
      have hid : (E.map (·.id)).getD k 0 = x.id := by
        rw [List.getD_eq_getElem?_getD, List.getElem?_map, hx]
        rfl
      rw [hid] at hcell
      have hxE := List.mem_iff_getElem?.2 ⟨k, hx⟩
      have hI : I64 x.id := by
        have := hM.ids x hxE
        have := hM.lasts
        unfold I64
        omega
      have hget := getOf_mem hM.up hxE
      have HGET := Lib.hid hget
      have HI := Lib.hid hI
      have HM := Lib.hid hM
      have HX := Lib.hid hx
      have HB := Lib.hid hB
      have HK := Lib.hid hkn
      obtain ⟨c0, c1, c2⟩ := obj_cells hM.obj
      obtain ⟨xi, xt, xv, xl⟩ := x
      simp only at hcell
      clear q3 hid hxE hI hget hM hx hB q1 q2 hg
      gi_wp2_with (first
        | (gi_at_lookup; refine wpListIn_look HM.out HI.out rfl _ _ rfl rfl rfl ?_; rw [HGET.out]; intro i t ob m c ll hx hv hl hn'; have HX2 := Lib.hid hx; have HV := Lib.hid hv; have HL := Lib.hid hl; clear hx hv hl hn')
        | (gi_at_call 30; refine (callsIn_wide.2 (owned_any i t (.slice ob m c) ll _ HV.out HL.out)).mono ?_; rintro e w2 ⟨⟨u, rfl, hf⟩, ho⟩; obtain ⟨fn, tmps, assign, body, hy, hR⟩ := HY.out k u w2 (HJO.out k wr w2 HJ.out ho) (by rw [← HN.out]; exact HK.out) ⟨_, HX.out, hf.low (B' := B) HB.out |> (fun h => by rw [HX2.out] at h; exact h)⟩; obtain ⟨v2, rfl, hown, hlim2⟩ := hf; obtain ⟨od, cap2, rfl⟩ := own_shape hown; clear hown hlim2 ho))
      refine hR.mono ?_
      rintro e W3 ⟨rfl, hJ3⟩
      have HJ3 := Lib.hid hJ3
      clear hJ3
      gi_wp2
      first
        | exact ⟨⟨k + 1, HK.out, by simp, HJ3⟩, by simp only [intOf]; omega⟩
        | (go_roundw; case rel => exact ⟨k + 1, HK.out, by simp, HJ3⟩; case measure => simp only [intOf]; omega)
        | trace_state
    · have hkn' : k = N := by omega
      subst hkn'
      have HJ' := HJ.out
      rw [HN.out] at HJ'
      have HJ' := Lib.hid HJ'
      gi_wp2
      go_end0
      exact ⟨⟨_, rfl⟩, HJ'.out⟩

end Go.Proofs.Ytfhbnkdibhmmcaa
