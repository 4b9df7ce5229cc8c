/- Slices by their cells; append of one to one of the call's own, in a statement that draws no order. -/
import Derived.Test.YtfhbnkdibhmmcaaQB
import Derived.Maps.OwnSet
import Derived.Maps.RangeWalk
import Derived.Maps.AppendAt
namespace Go.Proofs.Ytfhbnkdibhmmcaa
open Go.ChangeShapes Go.WideShapes Go.ChangeAt Go.RowKit Go.Lib
set_option linter.unusedVariables false
set_option linter.unusedSimpArgs false
set_option maxRecDepth 100000

/-- The slice v has n elements of that many cells; these are the cells. -/
def CR (w : World) (v : Value) (n size : Nat) (cs : List Value) : Prop :=
  ∃ oa cap, v = .slice oa n cap ∧ n ≤ cap ∧ cap ≤ maxLen ∧ cs.length = n * size ∧ ∀ j u, cs[j]? = some u → ∃ g o, oa = some ⟨g, o, none⟩ ∧ g < w.heap.size ∧ w.cell? ⟨g, o + j, none⟩ = some u
theorem CR.old {w w' : World} {v : Value} {n size : Nat} {cs : List Value} (h : CR w v n size cs) (ho : Old w w') : CR w' v n size cs := by
  obtain ⟨oa, cap, rfl, h1, h2, h3, h4⟩ := h
  refine ⟨oa, cap, rfl, h1, h2, h3, fun j u hj => ?_⟩
  obtain ⟨g, o, rfl, hg, c⟩ := h4 j u hj
  exact ⟨g, o, rfl, Nat.lt_of_lt_of_le hg ho.size, (ho.cell hg).trans c⟩
theorem CR.owned {w : World} {base n size : Nat} {e : TypeId} {v : Value} {cs : List Value} (h : w.ownsRow base e size v n cs) : CR w v n size cs := by
  obtain ⟨hl, h⟩ := h
  rcases h with ⟨rfl, rfl⟩ | ⟨g, cap, cur, rfl, hb, hg, hc, hm, hsz, ht⟩
  · exact ⟨none, 0, rfl, Nat.le_refl _, Nat.zero_le _, hl, fun j u hj => by
      rw [Nat.zero_mul] at hl
      rw [List.eq_nil_of_length_eq_zero hl] at hj
      simp at hj⟩
  · refine ⟨_, cap, rfl, hc, hm, hl, fun j u hj => ?_⟩
    have hjl : j < cs.length := (List.getElem?_eq_some_iff.1 hj).1
    refine ⟨g, 0, rfl, blk_lt hg, ?_⟩
    rw [← ht, List.getElem?_take, if_pos (by omega), Array.getElem?_toList] at hj
    simp [World.cell?, hg, hj]

def vcells : List Vl → List Value
  | [] => []
  | x :: l => .int .u8 x.k :: .int .i64 x.n :: .string x.s :: vcells l
theorem vcells_len : ∀ l : List Vl, (vcells l).length = l.length * 3
  | [] => rfl
  | x :: l => by rw [vcells, List.length_cons, List.length_cons, List.length_cons, List.length_cons, vcells_len l]; omega
theorem vcells_app : ∀ (a b : List Vl), vcells (a ++ b) = vcells a ++ vcells b
  | [], b => rfl
  | x :: a, b => by rw [List.cons_append, vcells, vcells_app a b]; rfl
theorem vcells_at : ∀ {l : List Vl} {i : Nat} {x : Vl}, l[i]? = some x → (vcells l)[i * 3]? = some (.int .u8 x.k) ∧ (vcells l)[i * 3 + 1]? = some (.int .i64 x.n) ∧ (vcells l)[i * 3 + 2]? = some (.string x.s)
  | [], i, x, h => by simp at h
  | y :: l, 0, x, h => by cases h; exact ⟨rfl, rfl, rfl⟩
  | y :: l, i + 1, x, h => by
    have ih := vcells_at (l := l) (i := i) (x := x) (by simpa using h)
    rw [show (i + 1) * 3 = i * 3 + 1 + 1 + 1 by omega]
    exact ih
theorem vcells_one : ∀ (l : List Vl), ∀ u ∈ vcells l, u.oneCell' = true
  | [], u, h => by cases h
  | x :: l, u, h => by
    simp only [vcells, List.mem_cons] at h
    rcases h with rfl | rfl | rfl | h
    · rfl
    · rfl
    · rfl
    · exact vcells_one l u h
/-- A cell of a row of values is one of a value's three. -/
theorem vcells_of : ∀ {l : List Vl} {j : Nat} {u : Value}, (vcells l)[j]? = some u → ∃ i x, l[i]? = some x ∧ ((j = i * 3 ∧ u = .int .u8 x.k) ∨ (j = i * 3 + 1 ∧ u = .int .i64 x.n) ∨ (j = i * 3 + 2 ∧ u = .string x.s))
  | [], j, u, h => by simp [vcells] at h
  | y :: l, 0, u, h => ⟨0, y, rfl, Or.inl ⟨rfl, by simpa [vcells] using h.symm⟩⟩
  | y :: l, 1, u, h => ⟨0, y, rfl, Or.inr (Or.inl ⟨rfl, by simpa [vcells] using h.symm⟩)⟩
  | y :: l, 2, u, h => ⟨0, y, rfl, Or.inr (Or.inr ⟨rfl, by simpa [vcells] using h.symm⟩)⟩
  | y :: l, j + 3, u, h => by
    obtain ⟨i, x, hi, hx⟩ := vcells_of (l := l) (j := j) (u := u) (by simpa [vcells] using h)
    refine ⟨i + 1, x, by simpa using hi, ?_⟩
    rcases hx with ⟨rfl, rfl⟩ | ⟨rfl, rfl⟩ | ⟨rfl, rfl⟩
    · exact Or.inl ⟨by omega, rfl⟩
    · exact Or.inr (Or.inl ⟨by omega, rfl⟩)
    · exact Or.inr (Or.inr ⟨by omega, rfl⟩)

theorem VR.cr {w : World} {v : Value} {l : List Vl} (h : VR w v l) : CR w v l.length 3 (vcells l) := by
  obtain ⟨oa, cap, rfl, h1, h2, h3⟩ := h
  refine ⟨oa, cap, rfl, h1, h2, vcells_len l, fun j u hj => ?_⟩
  obtain ⟨i, x, hi, hx⟩ := vcells_of hj
  obtain ⟨g, o, rfl, hg, c0, c1, c2, hs⟩ := h3 i x hi
  rcases hx with ⟨rfl, rfl⟩ | ⟨rfl, rfl⟩ | ⟨rfl, rfl⟩
  · exact ⟨g, o, rfl, hg, c0⟩
  · exact ⟨g, o, rfl, hg, c1⟩
  · exact ⟨g, o, rfl, hg, c2⟩
theorem VR.lim {w : World} {v : Value} {l : List Vl} (h : VR w v l) : ∀ x ∈ l, x.s.size ≤ maxLen := fun x hx => by
  obtain ⟨oa, cap, rfl, h1, h2, h3⟩ := h
  obtain ⟨j, hj⟩ := List.mem_iff_getElem?.1 hx
  obtain ⟨g, o, _, _, _, _, _, hs⟩ := h3 j x hj
  exact hs
theorem CR.vr {w : World} {v : Value} {l : List Vl} (h : CR w v l.length 3 (vcells l)) (hs : ∀ x ∈ l, x.s.size ≤ maxLen) : VR w v l := by
  obtain ⟨oa, cap, rfl, h1, h2, _, h3⟩ := h
  refine ⟨oa, cap, rfl, h1, h2, fun j x hj => ?_⟩
  obtain ⟨a0, a1, a2⟩ := vcells_at hj
  obtain ⟨g, o, rfl, hg, c0⟩ := h3 _ _ a0
  obtain ⟨g', o', e', _, c1⟩ := h3 _ _ a1
  obtain ⟨g'', o'', e'', _, c2⟩ := h3 _ _ a2
  simp only [Option.some.injEq, Addr.mk.injEq, and_true] at e' e''
  obtain ⟨rfl, rfl⟩ := e'
  obtain ⟨rfl, rfl⟩ := e''
  exact ⟨_, _, rfl, hg, c0, c1, c2, hs x (List.mem_iff_getElem?.2 ⟨j, hj⟩)⟩

/-- append of any slice, of no elements too, to one of the call's own. -/
theorem run_appC {P : Program} (W : World) (base : Nat) (t ty e : TypeId) (i : TypeInfo) (z : Value) (size bytes : Nat) (ht : P.underlying t = some (.slice e)) (hi : P.info? e = some i) (hz : i.zero = some z)
    (hsize : i.size = size) (hby : i.bytes = bytes) (hzs : z.cells.size = size) (hsz : 0 < size)
    (v : Value) (n : Nat) (xs : List Value) (hown : W.ownsRow base e size v n xs)
    (vx : Value) (m : Nat) (cs : List Value) (hr : CR W vx m size cs) (h1 : ∀ u ∈ cs, u.oneCell' = true) (hlen : (n + m) * bytes ≤ 140737488355328) (hlen2 : n + m ≤ maxLen) (hbase : base ≤ W.heap.size) :
    ∃ v' w', (Builtin.append_ #[t, t] ty #[v, vx]).run P W = .ok v' w' ∧ w'.ownsRow base e size v' (n + m) (xs ++ cs) ∧ W.grownBy w' v.ownBlock ∧ (v' = .slice none 0 0 ↔ v = .slice none 0 0 ∧ m = 0) := by
  obtain ⟨oa, cap, rfl, r1, r2, r3, r4⟩ := hr
  rcases Nat.eq_zero_or_pos m with h0 | h0
  · subst h0
    have hc : cs = [] := List.eq_nil_of_length_eq_zero (by simpa using r3)
    subst hc
    refine ⟨v, W, ?_, by simpa using hown, World.grownBy.refl W _, by simp⟩
    rcases hown.2 with ⟨rfl, rfl⟩ | ⟨g, cap', cur, rfl, _, _, hnc, _⟩
    · rcases oa with _ | a <;> simp [Builtin.append_, run_underlying ht, sizeOf, typeInfo, hi, Builtin.lenOf, Builtin.firstCells, loadCells, loadCellsFrom]
    · rcases oa with _ | a <;> simp [Builtin.append_, run_underlying ht, sizeOf, typeInfo, hi, Builtin.lenOf, Builtin.firstCells, hnc, storeCells, loadCells, loadCellsFrom]
  · have hp : 0 < cs.length := by rw [r3]; exact Nat.mul_pos h0 hsz
    obtain ⟨g, o, rfl, hg, _⟩ := r4 0 _ (List.getElem?_eq_getElem hp)
    obtain ⟨v', w', hrun, h2, h3, h4⟩ := run_append_own (P := P) W base t ty e i z size bytes ht hi hz hsize hby hzs hsz v n xs hown ⟨g, o, none⟩ m cap cs r3 (fun j u hj => by
      obtain ⟨g', o', e', _, c⟩ := r4 j u hj
      simp only [Option.some.injEq, Addr.mk.injEq, and_true] at e'
      obtain ⟨rfl, rfl⟩ := e'
      rw [Addr.add_lit]
      exact c) h1 hlen2 hlen hbase
    exact ⟨v', w', hrun, h2, h3, h4⟩
theorem wpList_appC {P : Program} (W : World) {ops : Array Oper} {rest : List Oper} {o : Oper} {a : Act} {Q : Exit → Act → World → Prop} (hgd : o.guard = none) (s x : Operand) (t : TypeId)
    (ho : o.op = .call { callee := .builtin .append, args := #[s, x], argTypes := #[t, t] })
    (base : Nat) (e : TypeId) (i : TypeInfo) (z : Value) (size bytes : Nat) (ht : P.underlying t = some (.slice e)) (hi : P.info? e = some i) (hz : i.zero = some z)
    (hsize : i.size = size) (hby : i.bytes = bytes) (hzs : z.cells.size = size) (hsz : 0 < size)
    (v : Value) (n : Nat) (xs : List Value) (hs : a.eval s = v) (hown : W.ownsRow base e size v n xs)
    (vx : Value) (m : Nat) (cs : List Value) (hx : a.eval x = vx) (hr : CR W vx m size cs) (h1 : ∀ u ∈ cs, u.oneCell' = true) (hlen : (n + m) * bytes ≤ 140737488355328) (hlen2 : n + m ≤ maxLen) (hbase : base ≤ W.heap.size)
    (h : ∀ v' w', w'.ownsRow base e size v' (n + m) (xs ++ cs) → W.grownBy w' v.ownBlock → (v' = .slice none 0 0 ↔ v = .slice none 0 0 ∧ m = 0) → wpList P ops Q rest (a.put o.dst v') w') : wpList P ops Q (o :: rest) a W :=
  wpList_plain hgd fun K hK => by
    obtain ⟨v', w', hrun, h2, h3, h4⟩ := run_appC (P := P) W base t o.type e i z size bytes ht hi hz hsize hby hzs hsz v n xs hown vx m cs hr h1 hlen hlen2 hbase
    unfold Oper.wp execOp
    simp only [ho, resolve, invoke, builtin, Sem.run_bind, Sem.run_pure, Result.andThen_ok, List.map_toArray, List.map_cons, List.map_nil, hs, hx, hrun]
    exact hK _ _ (h v' w' h2 h3 h4)

theorem own_shape {w : World} {base n size : Nat} {e : TypeId} {v : Value} {cs : List Value} (h : w.ownsRow base e size v n cs) : ∃ oa cap, v = .slice oa n cap := by
  rcases h.2 with ⟨rfl, rfl⟩ | ⟨g, cap, cur, rfl, _⟩
  · exact ⟨_, _, rfl⟩
  · exact ⟨_, _, rfl⟩
/-- append of any slice to nil: a row of the call's own. -/
theorem wpList_app0 {P : Program} (W : World) {ops : Array Oper} {rest : List Oper} {o : Oper} {a : Act} {Q : Exit → Act → World → Prop} (hgd : o.guard = none) (s x : Operand) (t : TypeId)
    (ho : o.op = .call { callee := .builtin .append, args := #[s, x], argTypes := #[t, t] })
    (base : Nat) (e : TypeId) (i : TypeInfo) (z : Value) (size bytes : Nat) (ht : P.underlying t = some (.slice e)) (hi : P.info? e = some i) (hz : i.zero = some z)
    (hsize : i.size = size) (hby : i.bytes = bytes) (hzs : z.cells.size = size) (hsz : 0 < size)
    (hs : a.eval s = .slice none 0 0)
    (vx : Value) (m : Nat) (cs : List Value) (hx : a.eval x = vx) (hr : CR W vx m size cs) (h1 : ∀ u ∈ cs, u.oneCell' = true) (hlen : m * bytes ≤ 140737488355328) (hlen2 : m ≤ maxLen) (hbase : base ≤ W.heap.size)
    (h : ∀ ob cap w', w'.ownsRow base e size (.slice ob m cap) m cs → Old W w' → wpList P ops Q rest (a.put o.dst (.slice ob m cap)) w') : wpList P ops Q (o :: rest) a W :=
  wpList_appC W hgd s x t ho base e i z size bytes ht hi hz hsize hby hzs hsz (.slice none 0 0) 0 [] hs (World.ownsRow_nil _ _ _ _) vx m cs hx hr h1 (by rw [Nat.zero_add]; exact hlen) (by rw [Nat.zero_add]; exact hlen2) hbase (fun v' w' h2 h3 _ => by
    rw [Nat.zero_add, List.nil_append] at h2
    obtain ⟨ob, cap, rfl⟩ := own_shape h2
    exact h ob cap w' h2 ((Old.refl W).grown h3 (fun k e => by cases e)))

theorem info45 : (Try.prog.info? 45).map (fun i => (i.zero, i.size, i.bytes)) = some (some (.agg #[.int .u8 0, .int .i64 0, .string ⟨#[]⟩]), 3, 32) := by kernel_rfl
theorem info38 : (Try.prog.info? 38).map (fun i => (i.zero, i.size, i.bytes)) = some (some (.agg #[.int .i64 0, .int .i64 0, .slice none 0 0]), 3, 40) := by kernel_rfl

end Go.Proofs.Ytfhbnkdibhmmcaa
