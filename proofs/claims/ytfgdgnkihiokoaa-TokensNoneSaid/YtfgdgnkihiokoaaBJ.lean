/- The arena: Tuple. -/
import Derived.Test.YtfgdgnkihiokoaaBI
import Derived.Sort.OwnSorted
namespace Go.Proofs.Ytfgdgnkihiokoaa
open Go.ChangeShapes Go.WideShapes Go.ChangeAt Go.RowKit Go.Lib
set_option linter.unusedVariables false
set_option linter.unusedSimpArgs false
set_option maxRecDepth 100000

theorem info3 : (Try.prog.info? 3).map (fun i => (i.zero, i.size, i.bytes)) = some (some (.int .i64 0), 1, 8) := by kernel_rfl
theorem info32 : (Try.prog.info? 32).map (fun i => (i.zero, i.size, i.bytes)) = some (some (.agg #[.int .i64 0, .int .i64 0, .int .i64 0, .int .i64 0]), 4, 32) := by kernel_rfl
theorem Tb.other {w : World} {g : Nat} {t : Tk} (h : Tb w g t) {a : Addr} (hne : a.block ≠ g) (u : Value) : Tb (w.setCell a u) g t := by
  unfold Tb at *
  show (w.heap.modify a.block _)[g]? = _
  rw [Array.getElem?_modify, if_neg hne, h]
def C4 (w : World) (g : Nat) (a b c d : Value) : Prop := w.heap[g]? = some (.cells #[a, b, c, d] 32 (0, 0))
theorem C4.set0 {w : World} {g : Nat} {a b c d : Value} (h : C4 w g a b c d) (u : Value) : C4 (w.setCell ⟨g, 0, none⟩ u) g u b c d := by
  unfold C4 at *
  show (w.heap.modify g _)[g]? = _
  rw [Array.getElem?_modify, if_pos rfl, h]
  simp
theorem C4.set1 {w : World} {g : Nat} {a b c d : Value} (h : C4 w g a b c d) (u : Value) : C4 (w.setCell ⟨g, 1, none⟩ u) g a u c d := by
  unfold C4 at *
  show (w.heap.modify g _)[g]? = _
  rw [Array.getElem?_modify, if_pos rfl, h]
  simp
theorem C4.set2 {w : World} {g : Nat} {a b c d : Value} (h : C4 w g a b c d) (u : Value) : C4 (w.setCell ⟨g, 2, none⟩ u) g a b u d := by
  unfold C4 at *
  show (w.heap.modify g _)[g]? = _
  rw [Array.getElem?_modify, if_pos rfl, h]
  simp
theorem C4.set3 {w : World} {g : Nat} {a b c d : Value} (h : C4 w g a b c d) (u : Value) : C4 (w.setCell ⟨g, 3, none⟩ u) g a b c u := by
  unfold C4 at *
  show (w.heap.modify g _)[g]? = _
  rw [Array.getElem?_modify, if_pos rfl, h]
  simp
theorem Tb.set {w : World} {g : Nat} {t : Tk} (h : Tb w g t) (u : Tk) : Tb ((((w.setCell ⟨g, 0, none⟩ (.int .i64 u.id)).setCell ⟨g, 1, none⟩ (.int .i64 u.par)).setCell ⟨g, 2, none⟩ (.int .i64 u.node)).setCell ⟨g, 3, none⟩ (.int .i64 u.fact)) g u :=
  (((C4.set0 (a := .int .i64 t.id) (b := .int .i64 t.par) (c := .int .i64 t.node) (d := .int .i64 t.fact) h _).set1 _).set2 _).set3 _
theorem Tb.frozen {w : World} {g : Nat} {t : Tk} (h : Tb w g t) (o : Nat) : w.frozen? ⟨g, o, none⟩ = false := by
  unfold Tb at h
  simp [World.frozen?, h]
/-- A row of numbers does not lie in a token's box. -/
theorem Ints.box {w : World} {base g : Nat} {v : Value} {l : List Int} {t : Tk} (h : Ints w base v l) (hb : Tb w g t) : ∀ k, v.ownBlock = some k → k ≠ g := fun k hk e => by
  subst e
  unfold Tb at hb
  rcases h.2 with ⟨rfl, _⟩ | ⟨g', cap, cur, rfl, _, hg, _⟩
  · simp [Value.ownBlock] at hk
  · obtain rfl : g' = k := by simpa [Value.ownBlock] using hk
    rw [hg] at hb
    simp at hb
theorem Ints.set {w : World} {base g : Nat} {v : Value} {l : List Int} {t : Tk} (h : Ints w base v l) (hb : Tb w g t) (o : Nat) (u : Value) : Ints (w.setCell ⟨g, o, none⟩ u) base v l := by
  have hne := h.box hb
  refine ⟨h.1, ?_⟩
  rcases h.2 with h' | ⟨g', cap, cur, rfl, hb', hg, hc⟩
  · exact Or.inl h'
  · refine Or.inr ⟨g', cap, cur, rfl, hb', ?_, hc⟩
    have := hne g' rfl
    show (w.heap.modify g _)[g']? = _
    rw [Array.getElem?_modify, if_neg (fun e => this e.symm), hg]
/-- A token is put into its box. -/
theorem Ints.set4 {w : World} {base g : Nat} {v : Value} {l : List Int} {t : Tk} (h : Ints w base v l) (hb : Tb w g t) (u : Tk) : Ints ((((w.setCell ⟨g, 0, none⟩ (.int .i64 u.id)).setCell ⟨g, 1, none⟩ (.int .i64 u.par)).setCell ⟨g, 2, none⟩ (.int .i64 u.node)).setCell ⟨g, 3, none⟩ (.int .i64 u.fact)) base v l := by
  have st : ∀ {W : World} {x : Tk} {o : Nat} {q : Int}, Tb W g x → (o = 0 ∨ o = 1 ∨ o = 2 ∨ o = 3) → ∃ y, Tb (W.setCell ⟨g, o, none⟩ (.int .i64 q)) g y := fun {W x o q} hx ho => by
    unfold Tb at hx
    rcases ho with rfl | rfl | rfl | rfl
    · exact ⟨⟨q, x.par, x.node, x.fact⟩, by unfold Tb; show (W.heap.modify g _)[g]? = _; simp [Array.getElem?_modify, hx]⟩
    · exact ⟨⟨x.id, q, x.node, x.fact⟩, by unfold Tb; show (W.heap.modify g _)[g]? = _; simp [Array.getElem?_modify, hx]⟩
    · exact ⟨⟨x.id, x.par, q, x.fact⟩, by unfold Tb; show (W.heap.modify g _)[g]? = _; simp [Array.getElem?_modify, hx]⟩
    · exact ⟨⟨x.id, x.par, x.node, q⟩, by unfold Tb; show (W.heap.modify g _)[g]? = _; simp [Array.getElem?_modify, hx]⟩
  obtain ⟨y1, h1⟩ := st (q := u.id) hb (.inl rfl)
  obtain ⟨y2, h2⟩ := st (q := u.par) h1 (.inr (.inl rfl))
  obtain ⟨y3, h3⟩ := st (q := u.node) h2 (.inr (.inr (.inl rfl)))
  exact (((h.set hb 0 _).set h1 1 _).set h2 2 _).set h3 3 _
theorem old4 {a w : World} (ho : Old a w) {b : Nat} (hb : a.heap.size ≤ b) (x y z u : Value) : Old a ((((w.setCell ⟨b, 0, none⟩ x).setCell ⟨b, 1, none⟩ y).setCell ⟨b, 2, none⟩ z).setCell ⟨b, 3, none⟩ u) :=
  (((ho.setCell (p := ⟨b, 0, none⟩) hb x).setCell (p := ⟨b, 1, none⟩) hb y).setCell (p := ⟨b, 2, none⟩) hb z).setCell (p := ⟨b, 3, none⟩) hb u

/-- Reverse of numbers of the call's own. -/
theorem reverse_any {w : World} {base : Nat} {v : Value} {l : List Int} (h : Ints w base v l) (hl : l.length ≤ 1000000) {w0 : World} (ho : Old w0 w) (hb : w0.heap.size ≤ base) :
    Calls Try.prog 25 #[v] w fun e w' => e = .returned (.tuple #[]) ∧ Ints w' base v l.reverse ∧ Old w0 w' := by
  rcases h.2 with ⟨rfl, e⟩ | ⟨g, cap, cur, rfl, hbase, hb', h1, h2, h3, h4⟩
  · have : l = [] := by simpa using e
    subst this
    refine (Any.slices_Reverse_int_empty Try.laysRev none 0 w).mono ?_
    rintro e w' ⟨rfl, rfl⟩
    exact ⟨rfl, h, ho⟩
  · have hH : Sort.Holds (Value.int .i64) w g 0 l.toArray := by
      intro j hj
      have hj' : j < l.length := by simpa using hj
      refine ⟨?_, by simp [World.frozen?, hb']⟩
      have e1 : (cur.toList.take (l.length * 1))[j]? = (l.map (Value.int .i64))[j]? := by rw [h4]
      rw [List.getElem?_take_of_lt (by omega), Array.getElem?_toList] at e1
      simp [World.cell?, hb', e1, hj']
    refine (Any.slices_Reverse_int Try.laysRev g 0 cap l w hH (by omega)).mono ?_
    rintro e w' ⟨rfl, n, rfl⟩
    have hgl := blk_lt hb'
    have hheap : (Sort.putRow (Value.int .i64) (Sort.ahead w n) g 0 l.reverse.toArray).heap[g]? = some (.cells (Sort.putCells (Value.int .i64) 0 l.reverse.toArray cur) 3 (0, 0)) := by
      simp [Sort.putRow, Sort.mapBlock, Sort.ahead, Array.getElem?_modify, hb', Sort.onCells]
    refine ⟨rfl, ⟨by simp, Or.inr ⟨g, cap, _, by simp, hbase, hheap, by simpa using h1, h2, by simp [Sort.putCells, h3], ?_⟩⟩, ?_⟩
    · have hlr : l.reverse.length = l.length := List.length_reverse
      apply List.ext_getElem?
      intro j
      by_cases hj : j < l.length
      · rw [List.getElem?_take_of_lt (by omega), Array.getElem?_toList]
        simp [Sort.putCells, hj, show j < cur.size by omega, hlr]
      · rw [List.getElem?_take_eq_none (by omega), List.getElem?_eq_none (by simp; omega)]
    · exact ⟨ho.os, ho.output, by simpa [Sort.putRow, Sort.mapBlock, Sort.ahead] using ho.size, fun k hk => by
        have : g ≠ k := by omega
        rw [← ho.block k hk]
        simp [Sort.putRow, Sort.mapBlock, Sort.ahead, Array.getElem?_modify, this]⟩
end Go.Proofs.Ytfgdgnkihiokoaa
