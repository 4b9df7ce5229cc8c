/- Layer memory: New, owned, Get, Remove. -/
import Derived.Test.YtfhbnkdibhmmcaaQD
namespace Go.Proofs.Ytfhbnkdibhmmcaa
open Go.ChangeShapes Go.WideShapes Go.ChangeAt Go.RowKit Go.Lib
set_option linter.unusedVariables false
set_option linter.unusedSimpArgs false
set_option maxRecDepth 100000

/-- A block of three cells that a fact was boxed in. -/
def Fb (w : World) (b : Nat) (x y z : Value) : Prop := w.heap[b]? = some (.cells #[x, y, z] 38 (0, 0))
theorem Fb.c0 {w : World} {b : Nat} {x y z : Value} (h : Fb w b x y z) : w.cell? ⟨b, 0, none⟩ = some x := (obj_cells h).1
theorem Fb.c1 {w : World} {b : Nat} {x y z : Value} (h : Fb w b x y z) : w.cell? ⟨b, 1, none⟩ = some y := (obj_cells h).2.1
theorem Fb.c2 {w : World} {b : Nat} {x y z : Value} (h : Fb w b x y z) : w.cell? ⟨b, 2, none⟩ = some z := (obj_cells h).2.2
theorem Fb.f {w : World} {b : Nat} {x y z : Value} (h : Fb w b x y z) (o : Nat) : w.frozen? ⟨b, o, none⟩ = false := by unfold Fb at h; simp [World.frozen?, h]
theorem Fb.new (w : World) (x y z : Value) : Fb (w.alloc (.cells #[x, y, z] 38)) w.heap.size x y z := (MapKept.heap_alloc w _).1
theorem Fb.old {w w' : World} {b : Nat} {x y z : Value} (h : Fb w b x y z) (ho : Old w w') : Fb w' b x y z := (ho.block b (blk_lt h)).trans h
theorem Fb.alloc {w : World} {b : Nat} {x y z : Value} (h : Fb w b x y z) (o : Obj) : Fb (w.alloc o) b x y z := h.old ((Old.refl w).alloc o)
theorem Fb.lt {w : World} {b : Nat} {x y z : Value} (h : Fb w b x y z) : b < w.heap.size := blk_lt h
theorem Fb.set0 {w : World} {b : Nat} {x y z : Value} (h : Fb w b x y z) (u : Value) : Fb (w.setCell ⟨b, 0, none⟩ u) b u y z := by
  have hlt := h.lt
  unfold Fb at *
  show (w.heap.modify b _)[b]? = _
  rw [Array.getElem?_modify, if_pos rfl, h]
  simp
theorem Fb.set1 {w : World} {b : Nat} {x y z : Value} (h : Fb w b x y z) (u : Value) : Fb (w.setCell ⟨b, 1, none⟩ u) b x u z := by
  have hlt := h.lt
  unfold Fb at *
  show (w.heap.modify b _)[b]? = _
  rw [Array.getElem?_modify, if_pos rfl, h]
  simp
theorem Fb.set2 {w : World} {b : Nat} {x y z : Value} (h : Fb w b x y z) (u : Value) : Fb (w.setCell ⟨b, 2, none⟩ u) b x y u := by
  have hlt := h.lt
  unfold Fb at *
  show (w.heap.modify b _)[b]? = _
  rw [Array.getElem?_modify, if_pos rfl, h]
  simp
theorem Fb.other {w : World} {b : Nat} {x y z : Value} (h : Fb w b x y z) {a : Addr} (hne : a.block ≠ b) (u : Value) : Fb (w.setCell a u) b x y z := by
  unfold Fb at *
  show (w.heap.modify a.block _)[b]? = _
  rw [Array.getElem?_modify, if_neg hne, h]
theorem Fb.set {w : World} {b : Nat} {x y z : Value} (h : Fb w b x y z) (u v t : Value) : Fb (((w.setCell ⟨b, 0, none⟩ u).setCell ⟨b, 1, none⟩ v).setCell ⟨b, 2, none⟩ t) b u v t := ((h.set0 u).set1 v).set2 t
theorem old_set3 {a w : World} (ho : Old a w) {b : Nat} (hb : a.heap.size ≤ b) (u v t : Value) : Old a (((w.setCell ⟨b, 0, none⟩ u).setCell ⟨b, 1, none⟩ v).setCell ⟨b, 2, none⟩ t) :=
  ((ho.setCell (p := ⟨b, 0, none⟩) hb u).setCell (p := ⟨b, 1, none⟩) hb v).setCell (p := ⟨b, 2, none⟩) hb t
/-- A row of the call's own stays, whatever cell of another block is stored into. -/
theorem own_set {w : World} {base n size : Nat} {e : TypeId} {v : Value} {cs : List Value} (h : w.ownsRow base e size v n cs) {a : Addr} (ha : a.block < base) (u : Value) : (w.setCell a u).ownsRow base e size v n cs := by
  refine ⟨h.1, ?_⟩
  rcases h.2 with h' | ⟨g, cap, cur, rfl, hb, hg, hc⟩
  · exact Or.inl h'
  · refine Or.inr ⟨g, cap, cur, rfl, hb, ?_, hc⟩
    show (w.heap.modify a.block _)[g]? = _
    rw [Array.getElem?_modify, if_neg (by omega), hg]
theorem own_low {w : World} {base base' n size : Nat} {e : TypeId} {v : Value} {cs : List Value} (h : w.ownsRow base e size v n cs) (hb : base' ≤ base) : w.ownsRow base' e size v n cs := by
  refine ⟨h.1, ?_⟩
  rcases h.2 with h' | ⟨g, cap, cur, rfl, hb', hg, hc⟩
  · exact Or.inl h'
  · exact Or.inr ⟨g, cap, cur, rfl, Nat.le_trans hb hb', hg, hc⟩
theorem FV.low {w : World} {B B' : Nat} {u : Value} {x : Ft} (h : FV w B u x) (hb : B' ≤ B) : FV w B' u x := by
  obtain ⟨v, rfl, ho, hs⟩ := h
  exact ⟨v, rfl, own_low ho hb, hs⟩
theorem own_old {w w' : World} {base n size : Nat} {e : TypeId} {v : Value} {cs : List Value} (h : w.ownsRow base e size v n cs) (ho : Old w w') : w'.ownsRow base e size v n cs := by
  refine ⟨h.1, ?_⟩
  rcases h.2 with h' | ⟨g, cap, cur, rfl, hb', hg, hc⟩
  · exact Or.inl h'
  · exact Or.inr ⟨g, cap, cur, rfl, hb', (ho.block g (blk_lt hg)).trans hg, hc⟩
theorem FV.old {w w' : World} {B : Nat} {u : Value} {x : Ft} (h : FV w B u x) (ho : Old w w') : FV w' B u x := by
  obtain ⟨v, rfl, hw, hs⟩ := h
  exact ⟨v, rfl, own_old hw ho, hs⟩
theorem size38 : (Try.prog.info? 38).map (·.size) = some 3 := by kernel_rfl
/-- A fact that was put into a result's box is what is told. -/
theorem ret_fact {fn : Func} {p : Tmp} (hf : fn.results = #[.cell p 38]) (tmps : Array Value) (w : World) (g : Nat) {x y z : Value} (hp : tmps.getD p undef = .pointer (some ⟨g, 0, none⟩)) (hg : Fb w g x y z) : (results fn tmps).run Try.prog w = .ok (.agg #[x, y, z]) w :=
  results_cell_row hf tmps w g 38 #[x, y, z] (0, 0) _ hp hg Try.underlying38 rfl size38
theorem ret_fact2 {fn : Func} {p u : Tmp} (hf : fn.results = #[.cell p 38, .tmp u]) (tmps : Array Value) (w : World) (g : Nat) {x y z b : Value} (hp : tmps.getD p undef = .pointer (some ⟨g, 0, none⟩)) (hb : tmps.getD u undef = b) (hg : Fb w g x y z) : (results fn tmps).run Try.prog w = .ok (.tuple #[.agg #[x, y, z], b]) w := by
  rw [results_cell_tmp hf, hp, hb]
  simp [asAddr, Result.andThen, run_loadVar_row w g 38 38 #[x, y, z] (0, 0) _ hg Try.underlying38 rfl size38]
theorem Old.ofGrownBy {w w' : World} {row : Option Nat} (hg : w.grownBy w' row) (hr : ∀ k, row = some k → w.heap.size ≤ k) : Old w w' := (Old.refl w).grown hg hr

theorem owned_any (id t : Int) (v : Value) (l : List Vl) (w : World) (hv : VR w v l) (hl : l.length ≤ 10) : Calls Try.prog 30 #[fv id t v] w fun e w' => (∃ u, e = .returned u ∧ FV w' w.heap.size u ⟨id, t, l⟩) ∧ Old w w' := by
  have HV := Lib.hid hv
  have HL := Lib.hid hl
  obtain ⟨i, hi, hz, hsz, hby⟩ := info_parts info45
  have HLIM := Lib.hid hv.lim
  have hcr := hv.cr
  obtain ⟨oa, c, rfl, a1, a2, _⟩ := hv
  obtain ⟨n, hn⟩ : ∃ n, n = l.length := ⟨_, rfl⟩
  rw [← hn] at a1 HV hl hcr ⊢
  unfold maxLen at a2
  have HN := Lib.hid hn
  clear hn
  have HO := Lib.hid (((Old.refl w).alloc (.cells #[.int .i64 id, .int .i64 t, .slice oa n c] 38)).alloc (.cells #[.int .i64 0, .int .i64 0, .slice none 0 0] 38))
  have HB := Lib.hid ((Fb.new w (.int .i64 id) (.int .i64 t) (.slice oa n c)).alloc (.cells #[.int .i64 0, .int .i64 0, .slice none 0 0] 38))
  have HB2 : Fb ((w.alloc (.cells #[.int .i64 id, .int .i64 t, .slice oa n c] 38)).alloc (.cells #[.int .i64 0, .int .i64 0, .slice none 0 0] 38)) (w.heap.size + 1) (.int .i64 0) (.int .i64 0) (.slice none 0 0) := by
    have := Fb.new (w.alloc (.cells #[.int .i64 id, .int .i64 t, .slice oa n c] 38)) (.int .i64 0) (.int .i64 0) (.slice none 0 0)
    rwa [sz_alloc] at this
  have HB2 := Lib.hid HB2
  have HCR := Lib.hid (hcr.old HO.out)
  clear hcr
  have L1 := Lib.hid (show n * 32 ≤ 140737488355328 by omega)
  have L2 := Lib.hid (show n ≤ maxLen by unfold maxLen; omega)
  have L3 := Lib.hid (show w.heap.size + 2 ≤ ((w.alloc (.cells #[.int .i64 id, .int .i64 t, .slice oa n c] 38)).alloc (.cells #[.int .i64 0, .int .i64 0, .slice none 0 0] 38)).heap.size by simp)
  go_enter Try.func30, Try.ntmps30
  go_wp2_with (first
    | (at_builtin; refine wpList_app0 _ rfl _ _ 23 rfl (w.heap.size + 2) 45 i _ 3 32 Try.underlying23 hi hz hsz hby rfl (Nat.zero_lt_succ 2) rfl (.slice oa n c) n (vcells l) rfl HCR.out (vcells_one l) L1.out L2.out L3.out ?_; intro ob cap w1 hown ho; have HG := Lib.hid (HO.out.trans ho); have HOWN := Lib.hid hown; have HC := Lib.hid (HB.out.old ho); have HC2 := Lib.hid (HB2.out.old ho); clear ho hown; have c0 := HC.out.c0; have c1 := HC.out.c1; have c2 := HC.out.c2; have f2 := HC.out.f 2; have d0 := HC2.out.c0; have d1 := HC2.out.c1; have d2 := HC2.out.c2; have g0 := HC2.out.f 0; have g1 := HC2.out.f 1; have g2 := HC2.out.f 2))
  refine bodyPost_ret (ret_fact rfl _ _ (w.heap.size + 1) rfl ((HC2.out.other (a := ⟨w.heap.size, 2, none⟩) (by simp) _).set _ _ _)) rfl ?_
  refine ⟨⟨_, rfl, .slice ob n cap, rfl, ?_, HLIM.out⟩, old_set3 (HG.out.setCell (p := ⟨w.heap.size, 2, none⟩) (Nat.le_refl _) _) (Nat.le_succ _) _ _ _⟩
  have := HOWN.out
  rw [← HN.out]
  exact own_low (own_set (own_set (own_set (own_set this (a := ⟨w.heap.size, 2, none⟩) (by simp) _) (a := ⟨w.heap.size + 1, 0, none⟩) (by simp) _) (a := ⟨w.heap.size + 1, 1, none⟩) (by simp) _) (a := ⟨w.heap.size + 1, 2, none⟩) (by simp) _) (by omega)

theorem zero38 (w : World) : (zeroValue 38).run Try.prog w = .ok (fv 0 0 (.slice none 0 0)) w := by kernel_rfl
theorem key_int {id : Int} (h : I64 id) : keyOf Try.prog 3 (.int .i64 id) = some (.int .i64 id) := Maps.keyOf_int_mk Try.underlying3 (WalkArith.wf_i64 h)
theorem keyed3 : Maps.Keyed Try.prog 3 := Maps.int_keyed Try.underlying3

theorem getOf_mem {E : List En} (hu : E.Pairwise (fun x y => x.id < y.id)) {x : En} (hx : x ∈ E) : getOf (E.map En.ft) x.id = some x.ft := by
  unfold getOf
  induction E with
  | nil => cases hx
  | cons y r ih =>
    obtain ⟨h1, h2⟩ := List.pairwise_cons.1 hu
    rw [List.map_cons, List.find?_cons]
    rcases List.mem_cons.1 hx with rfl | hx'
    · simp [En.ft]
    · have := h1 x hx'
      rw [decide_eq_false (by show y.id ≠ x.id; omega)]
      exact ih h2 hx'
theorem getOf_no {E : List En} {id : Int} (hx : ∀ x ∈ E, x.id ≠ id) : getOf (E.map En.ft) id = none := by
  unfold getOf
  rw [List.find?_eq_none]
  intro p hp
  obtain ⟨x, hx', rfl⟩ := List.mem_map.1 hp
  have h0 := hx x hx'
  rw [decide_eq_true_eq]
  exact h0

theorem VR.nil (w : World) : VR w (.slice none 0 0) [] := ⟨none, 0, rfl, Nat.le_refl _, Nat.zero_le _, fun j x hj => by simp at hj⟩
/-- 'm[k]' at a memory's map. -/
theorem look_run {w : World} {p b lim last : Nat} {E : List En} (h : MemE w p b lim last E) {id : Int} (hid : I64 id) : ∃ i t oa n c l, (⟨i, t, l⟩ : Ft) = (getOf (E.map En.ft) id).getD noFt ∧ VR w (.slice oa n c) l ∧ l.length ≤ 10 ∧ n = l.length ∧
    (Instr.lookup 59 (.map (some b)) (.int .i64 id) true).run Try.prog w = .ok (.tuple #[fv i t (.slice oa n c), .bool (getOf (E.map En.ft) id).isSome]) w ∧
    (Instr.lookup 59 (.map (some b)) (.int .i64 id) false).run Try.prog w = .ok (fv i t (.slice oa n c)) w := by
  have hz : Rm (fv 0 0 (.slice none 0 0)) = some (.held (fv 0 0 (.slice none 0 0)), []) := rfl
  obtain ⟨v, ps, hrun, hv⟩ := h.own.look_ok keyed3 Try.underlying59 (zero38 w) hz (key_int hid)
  obtain ⟨v', ps', hrun', hv'⟩ := h.own.lookup keyed3 Try.underlying59 (zero38 w) hz (key_int hid)
  by_cases hx : ∃ x ∈ E, x.id = id
  · obtain ⟨x, hx, rfl⟩ := hx
    rw [Dm_at h.up hx] at hv hv'
    have e1 : v = fv x.id x.t x.v := (by simpa [Rm] using hv : _ ∧ _).1
    have e2 : v' = fv x.id x.t x.v := (by simpa [Rm] using hv' : _ ∧ _).1
    have hh : Maps.has (Dm E) (.int .i64 x.id) = true := (Dm_has _ _).2 ⟨x, hx, rfl⟩
    rw [hh, e1] at hrun
    rw [e2] at hrun'
    rw [getOf_mem h.up hx]
    obtain ⟨hr, hl⟩ := h.rows x hx
    obtain ⟨oa, c, e3, _⟩ := id hr
    rw [e3] at hrun hrun' hr
    exact ⟨x.id, x.t, oa, x.l.length, c, x.l, rfl, hr, hl, rfl, hrun, hrun'⟩
  · have hx' : ∀ x ∈ E, x.id ≠ id := fun x hx1 e => hx ⟨x, hx1, e⟩
    rw [Dm_no hx'] at hv hv'
    have e1 : v = fv 0 0 (.slice none 0 0) := (by simpa [Rm] using hv : _ ∧ _).1
    have e2 : v' = fv 0 0 (.slice none 0 0) := (by simpa [Rm] using hv' : _ ∧ _).1
    have hh : Maps.has (Dm E) (.int .i64 id) = false := by
      rw [Bool.eq_false_iff]
      intro e
      obtain ⟨x, hx1, e⟩ := (Dm_has _ _).1 e
      exact hx' x hx1 (by injection e with _ e; exact e.symm)
    rw [hh, e1] at hrun
    rw [e2] at hrun'
    rw [getOf_no hx']
    exact ⟨0, 0, none, 0, 0, [], rfl, VR.nil w, by simp, rfl, hrun, hrun'⟩
theorem wpList_look {W : World} {p b lim last : Nat} {E : List En} (hm : MemE W p b lim last E) {id : Int} (hid : I64 id) {ops : Array Oper} {rest : List Oper} {o : Oper} {a : Act} {Q : Exit → Act → World → Prop} (hgd : o.guard = none) (m x : Operand)
    (ho : o.op = .lookup 59 m x true) (hm' : a.eval m = .map (some b)) (hx : a.eval x = .int .i64 id)
    (h : ∀ i t oa n c l, (⟨i, t, l⟩ : Ft) = (getOf (E.map En.ft) id).getD noFt → VR W (.slice oa n c) l → l.length ≤ 10 → n = l.length → wpList Try.prog ops Q rest (a.put o.dst (.tuple #[fv i t (.slice oa n c), .bool (getOf (E.map En.ft) id).isSome])) W) : wpList Try.prog ops Q (o :: rest) a W := by
  refine wpList_plain hgd fun K hK => ?_
  obtain ⟨i, t, oa, n, c, l, h1, h2, h3, h4, hrun, _⟩ := look_run hm hid
  unfold Oper.wp
  simp [execOp, ho, hm', hx, hrun, Result.andThen]
  exact hK _ _ (h i t oa n c l h1 h2 h3 h4)

theorem new_any (lim : Nat) (h1 : 1 ≤ lim) (h2 : lim ≤ 200) (w : World) : Calls Try.prog 10 #[.int .i64 (lim : Int)] w fun e w' => e = .returned (.tuple #[.pointer (some ⟨w.heap.size + 1, 0, none⟩), .int .i64 0]) ∧ Mem w' (w.heap.size + 1) w.heap.size lim 0 [] ∧ Old w w' := by
  have hmm := @run_makeMap Try.prog
  go_enter Try.func10, Try.ntmps10
  go_wp2
  go_ret2
  refine ⟨rfl, ⟨[], rfl, ?_⟩, ((Old.refl w).alloc _).alloc _⟩
  refine ⟨?_, ?_, List.Pairwise.nil, by simp, by simp, List.Pairwise.nil, Nat.zero_le _, h2, Nat.zero_le _⟩
  · have := (MapKept.heap_alloc (w.alloc (.map #[] 0)) (.cells #[.int .i64 (lim : Int), .int .i64 0, .map (some w.heap.size)] 61)).1
    rw [sz_alloc] at this
    exact this
  · exact (World.ownsMap_made w Try.prog 3 Rm).alloc _
theorem new_bad (lim : Int) (h : lim < 1 ∨ 200 < lim) (w : World) : Calls Try.prog 10 #[.int .i64 lim] w fun e w' => e = .returned (.tuple #[.pointer none, .int .i64 2]) ∧ w = w' := by
  rcases Int.lt_or_le lim 1 with h1 | h1
  · go_enter Try.func10, Try.ntmps10
    go_wp2
    go_ret2
    exact ⟨rfl, rfl⟩
  · have h2 : 200 < lim := by omega
    go_enter Try.func10, Try.ntmps10
    go_wp2
    go_ret2
    exact ⟨rfl, rfl⟩

theorem get_any {w : World} {p b lim last : Nat} {L : List Ft} (h : Mem w p b lim last L) (id : Int) (hid : I64 id) : Calls Try.prog 18 #[.pointer (some ⟨p, 0, none⟩), .int .i64 id] w fun e w' => (∃ u, e = .returned (.tuple #[u, .bool (getOf L id).isSome]) ∧ FV w' w.heap.size u ((getOf L id).getD noFt)) ∧ Old w w' := by
  obtain ⟨E, rfl, h⟩ := h
  have h' := h.old ((Old.refl w).alloc (.cells #[.int .i64 0, .int .i64 0, .slice none 0 0] 38))
  have hm := made_any h'
  have HO := Lib.hid ((Old.refl w).alloc (.cells #[.int .i64 0, .int .i64 0, .slice none 0 0] 38))
  have HB := Lib.hid (Fb.new w (.int .i64 0) (.int .i64 0) (.slice none 0 0))
  obtain ⟨c0, c1, c2⟩ := obj_cells h'.obj
  have HM := Lib.hid h'
  clear h'
  generalize hG : (getOf (E.map En.ft) id).isSome = G
  have HG := Lib.hid hG
  clear hG
  go_enter Try.func18, Try.ntmps18
  go_wp2_with (first
    | (go_at_call 29; (with_reducible refine hm.mono ?_); rintro e w1 ⟨rfl, rfl⟩)
    | (at_lookup; refine wpList_look HM.out hid rfl _ _ rfl rfl rfl ?_; rw [HG.out]; intro i t oa n c l hx hv hl hn; have HX := Lib.hid hx; have HV := Lib.hid hv; have HL := Lib.hid hl; clear hx hv hl hn)
    | (go_at_call 30; (with_reducible refine (owned_any i t (.slice oa n c) l _ (HV.out.old ((Old.refl _).alloc _)) HL.out).mono ?_); rintro e w2 ⟨⟨u, rfl, hf⟩, ho⟩; obtain ⟨v2, rfl, hown, hlim⟩ := hf; obtain ⟨ob, cap, rfl⟩ := own_shape hown; have HOWN := Lib.hid hown; have HLIM := Lib.hid hlim; have HB2 := Lib.hid ((HB.out.old ((Old.refl _).alloc _)).old ho); have HO2 := Lib.hid ((HO.out.alloc _).trans ho); clear ho hown hlim; have d0 := HB2.out.c0; have d1 := HB2.out.c1; have d2 := HB2.out.c2; have g0 := HB2.out.f 0; have g1 := HB2.out.f 1; have g2 := HB2.out.f 2))
  refine bodyPost_ret (ret_fact2 rfl _ _ w.heap.size rfl rfl (HB2.out.set _ _ _)) rfl ?_
  refine ⟨⟨_, rfl, ?_⟩, old_set3 HO2.out (Nat.le_refl _) _ _ _⟩
  rw [← HX.out]
  have h1 := own_low (base' := w.heap.size + 2) HOWN.out (by simp)
  have hlt : w.heap.size < w.heap.size + 2 := by omega
  have h2 := own_set (own_set (own_set h1 (a := ⟨w.heap.size, 0, none⟩) hlt (.int .i64 i)) (a := ⟨w.heap.size, 1, none⟩) hlt (.int .i64 t)) (a := ⟨w.heap.size, 2, none⟩) hlt (.slice ob l.length cap)
  exact ⟨.slice ob l.length cap, rfl, own_low h2 (by omega), HLIM.out⟩

theorem get_nil (w : World) (id : Int) : Calls Try.prog 18 #[.pointer none, .int .i64 id] w fun e w' => e = .returned (.tuple #[fv 0 0 (.slice none 0 0), .bool false]) ∧ Old w w' := by
  have HO := Lib.hid ((Old.refl w).alloc (.cells #[.int .i64 0, .int .i64 0, .slice none 0 0] 38))
  have HB := Fb.new w (.int .i64 0) (.int .i64 0) (.slice none 0 0)
  have d0 := HB.c0
  have d1 := HB.c1
  have d2 := HB.c2
  have g0 := HB.f 0
  have g1 := HB.f 1
  have g2 := HB.f 2
  have HB := Lib.hid HB
  go_enter Try.func18, Try.ntmps18
  go_wp2_with (first
    | (go_at_call 29; (with_reducible refine (made_nil _).mono ?_); rintro e w1 ⟨rfl, rfl⟩))
  exact bodyPost_ret (ret_fact2 rfl _ _ w.heap.size rfl rfl HB.out) rfl ⟨rfl, HO.out⟩

theorem turn_map {w w' : World} {b : Nat} (ht : w.mapTurned w' b) : ∃ es clock, w.heap[b]? = some (.map es clock) := by
  obtain ⟨es, clock, _, _, hb, _⟩ := ht
  exact ⟨es, clock, hb⟩
theorem cells_turn {w w' : World} {b g : Nat} {cs : Array Value} {t : TypeId} {fr : Nat × Nat} (h : w.heap[g]? = some (.cells cs t fr)) (ht : w.mapTurned w' b) : w'.heap[g]? = some (.cells cs t fr) := by
  obtain ⟨es, clock, hb⟩ := turn_map ht
  rw [ht.grown.block g (blk_lt h) (fun e => by cases e; rw [hb] at h; cases h)]
  exact h
theorem Fb.turn {w w' : World} {b g : Nat} {x y z : Value} (h : Fb w g x y z) (ht : w.mapTurned w' b) : Fb w' g x y z := cells_turn h ht
theorem own_turn {w w' : World} {b base n size : Nat} {e : TypeId} {v : Value} {cs : List Value} (h : w.ownsRow base e size v n cs) (ht : w.mapTurned w' b) : w'.ownsRow base e size v n cs := by
  refine ⟨h.1, ?_⟩
  rcases h.2 with h' | ⟨g, cap, cur, rfl, hb', hg, hc⟩
  · exact Or.inl h'
  · exact Or.inr ⟨g, cap, cur, rfl, hb', cells_turn hg ht, hc⟩
theorem VR.turn {w w' : World} {b : Nat} {v : Value} {l : List Vl} (h : VR w v l) (ht : w.mapTurned w' b) : VR w' v l :=
  h.chg (Chg.ofTurn ht) (fun k o c e h1 => by
    obtain ⟨es, clock, hb⟩ := turn_map ht
    subst e
    simp [World.cell?, hb] at h1)
theorem MemE.del {w w' : World} {p b lim last n : Nat} {E : List En} {id : Int} (h : MemE w p b lim last E) (hown : w'.ownsMap Try.prog 3 Rm b n ((Dm E).del (.int .i64 id))) (ht : w.mapTurned w' b) : MemE w' p b lim last (E.filter fun x => decide (x.id ≠ id)) where
  obj := cells_turn h.obj ht
  own := by
    have := own_tight hown
    rw [Dm_del, Dm_size] at this
    exact this
  up := h.up.filter _
  ids := fun x hx => h.ids x (List.mem_filter.1 hx).1
  rows := fun x hx => ⟨(h.rows x (List.mem_filter.1 hx).1).1.turn ht, (h.rows x (List.mem_filter.1 hx).1).2⟩
  uniq := h.uniq.filter _
  room := Nat.le_trans (List.length_filter_le _ _) h.room
  lims := h.lims
  lasts := h.lasts
theorem delOf_ft (E : List En) (id : Int) : delOf (E.map En.ft) id = (E.filter fun x => decide (x.id ≠ id)).map En.ft := by
  unfold delOf
  rw [List.filter_map]
  rfl
theorem delOf_no {L : List Ft} {id : Int} (h : (getOf L id).isSome = false) : delOf L id = L := by
  unfold delOf
  rw [List.filter_eq_self]
  intro x hx
  unfold getOf at h
  rw [Option.isSome_eq_false_iff, Option.isNone_iff_eq_none, List.find?_eq_none] at h
  have := h x hx
  simpa using this

theorem remove_any {w : World} {p b lim last : Nat} {L : List Ft} (h : Mem w p b lim last L) (id : Int) (hid : I64 id) : Calls Try.prog 13 #[.pointer (some ⟨p, 0, none⟩), .int .i64 id] w fun e w' => (∃ u, e = .returned (.tuple #[u, .bool (getOf L id).isSome]) ∧ FV w' w.heap.size u ((getOf L id).getD noFt)) ∧ Mem w' p b lim last (delOf L id) ∧ Chg (· = b) w w' := by
  have h' := h.old ((Old.refl w).alloc (.cells #[.int .i64 0, .int .i64 0, .slice none 0 0] 38))
  have hget := get_any h' id hid
  have HO := Lib.hid ((Old.refl w).alloc (.cells #[.int .i64 0, .int .i64 0, .slice none 0 0] 38))
  have HB := Lib.hid (Fb.new w (.int .i64 0) (.int .i64 0) (.slice none 0 0))
  have HM := Lib.hid h'
  have HM0 := Lib.hid h
  have HP : p < w.heap.size ∧ b < w.heap.size := by
    obtain ⟨E, _, hE⟩ := h
    exact ⟨blk_lt hE.obj, hE.own.lt⟩
  have HP := Lib.hid HP
  clear h' h
  rw [sz_alloc] at hget
  generalize hX : (getOf L id).getD noFt = X at hget ⊢
  generalize hG : (getOf L id).isSome = G at hget ⊢
  have HG := Lib.hid hG
  clear hG hX
  cases G
  · rw [delOf_no HG.out]
    go_enter Try.func13, Try.ntmps13
    go_wp2_with (first
      | (go_at_call 18; (with_reducible refine hget.mono ?_); rintro e w2 ⟨⟨u, rfl, hf⟩, ho⟩; obtain ⟨v2, rfl, hown, hlim⟩ := hf; obtain ⟨ob, cap, rfl⟩ := own_shape hown; have HOWN := Lib.hid hown; have HLIM := Lib.hid hlim; have HB2 := Lib.hid ((HB.out.old ho).old ((Old.refl _).alloc (.cells #[.int .i64 X.id, .int .i64 X.t, .slice ob X.l.length cap] 38))); have HO2 := Lib.hid ((HO.out.trans ho).alloc (.cells #[.int .i64 X.id, .int .i64 X.t, .slice ob X.l.length cap] 38)); clear ho hown hlim; have d0 := HB2.out.c0; have d1 := HB2.out.c1; have d2 := HB2.out.c2; have g0 := HB2.out.f 0; have g1 := HB2.out.f 1; have g2 := HB2.out.f 2))
    have h1 := own_low (base' := w.heap.size + 1) HOWN.out (by omega)
    have hlt : w.heap.size < w.heap.size + 1 := by omega
    have h2 := own_set (own_set (own_set (own_old h1 ((Old.refl _).alloc (.cells #[.int .i64 X.id, .int .i64 X.t, .slice ob X.l.length cap] 38))) (a := ⟨w.heap.size, 0, none⟩) hlt (.int .i64 X.id)) (a := ⟨w.heap.size, 1, none⟩) hlt (.int .i64 X.t)) (a := ⟨w.heap.size, 2, none⟩) hlt (.slice ob X.l.length cap)
    have ho := old_set3 HO2.out (Nat.le_refl _) (.int .i64 X.id) (.int .i64 X.t) (.slice ob X.l.length cap)
    exact bodyPost_ret (ret_fact2 rfl _ _ w.heap.size rfl rfl (HB2.out.set _ _ _)) rfl ⟨⟨_, rfl, .slice ob X.l.length cap, rfl, own_low h2 (by omega), HLIM.out⟩, HM0.out.old ho, Chg.ofOld ho⟩
  · obtain ⟨E, rfl, hE⟩ := HM.out
    have HE := Lib.hid hE
    clear hE HM HM0
    rw [delOf_ft]
    go_enter Try.func13, Try.ntmps13
    go_wp2_with (first
      | (go_at_call 18; (with_reducible refine hget.mono ?_); rintro e w2 ⟨⟨u, rfl, hf⟩, ho⟩; obtain ⟨v2, rfl, hown, hlim⟩ := hf; obtain ⟨ob, cap, rfl⟩ := own_shape hown; have HOWN := Lib.hid hown; have HLIM := Lib.hid hlim; have HB2 := Lib.hid ((HB.out.old ho).old ((Old.refl _).alloc (.cells #[.int .i64 X.id, .int .i64 X.t, .slice ob X.l.length cap] 38))); have HO2 := Lib.hid ((HO.out.trans ho).alloc (.cells #[.int .i64 X.id, .int .i64 X.t, .slice ob X.l.length cap] 38)); have HM2 := Lib.hid ((HE.out.old ho).old ((Old.refl _).alloc (.cells #[.int .i64 X.id, .int .i64 X.t, .slice ob X.l.length cap] 38))); have FB2 := Lib.hid (Fb.new w2 (.int .i64 X.id) (.int .i64 X.t) (.slice ob X.l.length cap)); clear ho hown hlim; have c0 := (obj_cells HM2.out.obj).1; have c1 := (obj_cells HM2.out.obj).2.1; have c2 := (obj_cells HM2.out.obj).2.2)
      | (at_delete; refine wpList_delete_own _ rfl _ _ 59 3 rfl 38 keyed3 Try.underlying59 Rm b E.length (Dm E) rfl HM2.out.own _ _ rfl (key_int hid) ?_; intro w3 hown3 hturn3; have HD := Lib.hid (HM2.out.del hown3 hturn3); have HT := Lib.hid hturn3; have FB3 := Lib.hid (FB2.out.turn hturn3); have HB3 := Lib.hid (HB2.out.turn hturn3); clear hown3 hturn3; have d0 := HB3.out.c0; have d1 := HB3.out.c1; have d2 := HB3.out.c2; have g0 := HB3.out.f 0; have g1 := HB3.out.f 1; have g2 := HB3.out.f 2; have a0 := FB3.out.c0; have a1 := FB3.out.c1; have a2 := FB3.out.c2))
    have h1 := own_low (base' := w.heap.size + 1) HOWN.out (by omega)
    have hlt : w.heap.size < w.heap.size + 1 := by omega
    have h2 := own_set (own_set (own_set (own_turn (own_old h1 ((Old.refl _).alloc (.cells #[.int .i64 X.id, .int .i64 X.t, .slice ob X.l.length cap] 38))) HT.out) (a := ⟨w.heap.size, 0, none⟩) hlt (.int .i64 X.id)) (a := ⟨w.heap.size, 1, none⟩) hlt (.int .i64 X.t)) (a := ⟨w.heap.size, 2, none⟩) hlt (.slice ob X.l.length cap)
    refine bodyPost_ret (ret_fact2 rfl _ _ w.heap.size rfl rfl (HB3.out.set _ _ _)) rfl ⟨⟨_, rfl, .slice ob X.l.length cap, rfl, own_low h2 (by omega), HLIM.out⟩, ⟨_, rfl, ?_⟩, ?_⟩
    · refine HD.out.chg (Chg.ofSet3 w3 w.heap.size _ _ _) (fun e => ?_) (fun e => ?_) (fun k o c e h => ?_)
      · have := HP.out.1
        omega
      · have := HP.out.2
        omega
      · subst e
        have hb := HB3.out
        unfold Fb at hb
        rcases o with _ | _ | _ | o <;> simp [World.cell?, hb] at h
    · exact ((Chg.ofOld HO2.out).trans (Chg.ofTurn HT.out)).later (Chg.ofSet3 w3 w.heap.size _ _ _) (fun k e => Or.inl (by omega))

end Go.Proofs.Ytfhbnkdibhmmcaa
