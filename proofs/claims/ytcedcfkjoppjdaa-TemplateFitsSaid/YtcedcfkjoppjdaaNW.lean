/- Layer template: templates appended to templates. -/
import Derived.Test.YtcedcfkjoppjdaaNS
import Derived.Laws.AppendOwn
import Derived.Deep.RegionLaw
namespace Go.Proofs.Ytcedcfkjoppjdaa
open Go.ChangeShapes Go.WideShapes Go.ChangeAt Go.RowKit Go.Lib
set_option linter.unusedVariables false
set_option linter.unusedSimpArgs false
set_option maxRecDepth 100000

/-- The cells of a row of templates. -/
def tcells : List Tp → List Value
  | [] => []
  | x :: l => .string x.n :: x.v :: tcells l
theorem tcells_len : ∀ l : List Tp, (tcells l).length = l.length * 2
  | [] => rfl
  | x :: l => by rw [tcells, List.length_cons, List.length_cons, List.length_cons, tcells_len l]; omega
theorem tcells_app : ∀ (a b : List Tp), tcells (a ++ b) = tcells a ++ tcells b
  | [], b => rfl
  | x :: a, b => by rw [List.cons_append, tcells, tcells_app a b]; rfl
theorem tcells_at : ∀ {l : List Tp} {i : Nat} {x : Tp}, l[i]? = some x → (tcells l)[i * 2]? = some (.string x.n) ∧ (tcells l)[i * 2 + 1]? = some x.v
  | [], i, x, h => by simp at h
  | y :: l, 0, x, h => by cases h; exact ⟨rfl, rfl⟩
  | y :: l, i + 1, x, h => by
    have ih := tcells_at (l := l) (i := i) (x := x) (by simpa using h)
    rw [show (i + 1) * 2 = i * 2 + 1 + 1 by omega]
    exact ih
theorem tcells_one : ∀ (l : List Tp), (∀ x ∈ l, x.v.oneCell' = true) → ∀ u ∈ tcells l, u.oneCell' = true
  | [], _, u, h => by simp [tcells] at h
  | x :: l, hl, u, h => by
    simp only [tcells, List.mem_cons] at h
    rcases h with rfl | rfl | h
    · rfl
    · exact hl x (List.mem_cons_self ..)
    · exact tcells_one l (fun y hy => hl y (List.mem_cons_of_mem _ hy)) u h
theorem TR.one {w : World} {v : Value} {l : List Tp} (h : TR w v l) : ∀ x ∈ l, x.v.oneCell' = true := fun x hx => by
  obtain ⟨j, hj⟩ := List.mem_iff_getElem?.1 hx
  obtain ⟨oa, cap, _, _, _, h3⟩ := h
  obtain ⟨_, _, _, _, _, _, _, hs⟩ := h3 j x hj
  obtain ⟨sa, sc, e, _⟩ := hs
  rw [e]; rfl
theorem TR.sr {w : World} {v : Value} {l : List Tp} (h : TR w v l) : ∀ (j : Nat) (x : Tp), l[j]? = some x → SR w x.v x.l ∧ x.n.size ≤ maxLen := fun j x hj => by
  obtain ⟨oa, cap, _, _, _, h3⟩ := h
  obtain ⟨_, _, _, _, _, _, hn, hs⟩ := h3 j x hj
  exact ⟨hs, hn⟩
theorem tnews_of {w : World} {ug uo S uc : Nat} {l : List Tp} (h : TR w (.slice (some ⟨ug, uo, none⟩) S uc) l) : ∀ j u, (tcells l)[j]? = some u → w.cell? ((⟨ug, uo, none⟩ : Addr).add j) = some u := fun j u hj => by
  obtain ⟨oa, cap, e, h1, h2, h3⟩ := h
  cases e
  have hlt : j < (tcells l).length := (List.getElem?_eq_some_iff.1 hj).1
  rw [tcells_len] at hlt
  have hx : ∃ x, l[j / 2]? = some x := ⟨l[j / 2]'(by omega), List.getElem?_eq_getElem _⟩
  obtain ⟨x, hx⟩ := hx
  obtain ⟨a0, a1⟩ := tcells_at hx
  obtain ⟨g, o, e, hg, c0, c1, _⟩ := h3 _ x hx
  cases e
  have ea : (⟨ug, uo, none⟩ : Addr).add j = ⟨ug, uo + j, none⟩ := by
    unfold Addr.add
    split
    · subst_vars; rfl
    · rfl
  rw [ea]
  have c : j = j / 2 * 2 ∨ j = j / 2 * 2 + 1 := by omega
  rcases c with e | e
  · rw [e] at hj ⊢
    rw [a0] at hj; cases hj; exact c0
  · rw [e] at hj ⊢
    rw [a1] at hj; cases hj
    rw [← Nat.add_assoc]; exact c1
/-- What owns the cells of a row of templates reads as them. -/
theorem own_tr {w : World} {base n : Nat} {v : Value} {l : List Tp} (h : w.ownsRow base 33 2 v n (tcells l)) (hn : n = l.length) (hz : 0 < n) (hs : ∀ (j : Nat) (x : Tp), l[j]? = some x → SR w x.v x.l ∧ x.n.size ≤ maxLen) : TR w v l := by
  obtain ⟨hl, h⟩ := h
  rcases h with ⟨_, h⟩ | ⟨g, cap, cur, rfl, hb, hg, hc, hm, hsz, ht⟩
  · omega
  refine ⟨_, cap, by rw [← hn], by omega, hm, fun j x hj => ?_⟩
  obtain ⟨a0, a1⟩ := tcells_at hj
  have hjl : j < l.length := (List.getElem?_eq_some_iff.1 hj).1
  rw [← ht, List.getElem?_take, if_pos (by omega), Array.getElem?_toList] at a0 a1
  refine ⟨g, 0, rfl, blk_lt hg, ?_, ?_, (hs j x hj).2, (hs j x hj).1⟩
  · simp [World.cell?, hg, a0]
  · simp [World.cell?, hg, a1]
theorem one_lies {W : World} {b : Nat} {n : ByteArray} {u : Value} {ls : List Sl} (h : W.heap[b]? = some (.cells #[.string n, u] 33)) (hs : SR W u ls) (hn : n.size ≤ maxLen) : TR W (.slice (some ⟨b, 0, none⟩) 1 1) [⟨n, u, ls⟩] := by
  have l0 := blk_lt h
  refine ⟨_, _, rfl, Nat.le_refl _, by unfold maxLen; omega, fun j x hj => ?_⟩
  rcases j with _ | j
  · simp at hj
    subst hj
    exact ⟨_, 0, rfl, l0, by simp [World.cell?, h], by simp [World.cell?, h], hn, hs⟩
  · simp at hj
theorem info33 : (Try.prog.info? 33).map (fun i => (i.zero, i.size, i.bytes)) = some (some (.agg #[.string ⟨#[]⟩, .slice none 0 0]), 2, 40) := by kernel_rfl
theorem run_app_none (base : Nat) (W : World) (ty : TypeId) (v : Value) (n : Nat) (xs : List Value) (hown : W.ownsRow base 33 2 v n xs) (c : Nat) :
    (Builtin.append_ #[22, 22] ty #[v, .slice none 0 c]).run Try.prog W = .ok v W := by
  obtain ⟨i, hi, hz, hs, hb⟩ := info_parts info33
  rcases hown.2 with ⟨rfl, rfl⟩ | ⟨g, cap, cur, rfl, _, _, hnc, _⟩
  · simp [Builtin.append_, run_underlying Try.underlying22, sizeOf, typeInfo, hi, Builtin.lenOf, Builtin.firstCells]
  · simp [Builtin.append_, run_underlying Try.underlying22, sizeOf, typeInfo, hi, Builtin.lenOf, Builtin.firstCells, hnc, storeCells]
/-- A row of templates appended to one of the call's own, in a statement that leaves its order open. -/
theorem step_appT {ops : Array Oper} {o : Oper} {a : Act} {K : Act → World → Prop} {Q : Exit → Act → World → Prop} {E : Prop} (W : World) (hgd : o.guard = none) (s x : Operand)
    (ho : o.op = .call { callee := .builtin .append, args := #[s, x], argTypes := #[22, 22] })
    (base : Nat) (v : Value) (n : Nat) (xs : List Value) (hs : a.eval s = v) (hown : W.ownsRow base 33 2 v n xs)
    (vx : Value) (l : List Tp) (hx : a.eval x = vx) (hr : TR W vx l) (hlen : n + l.length ≤ 4000) (hbase : base ≤ W.heap.size)
    (h : ∀ v' w', w'.ownsRow base 33 2 v' (n + l.length) (xs ++ tcells l) → W.grownBy w' v.ownBlock → K (a.put o.dst v') w') :
    if Region.wanted o (yielded ops a.tmps) = true then Oper.wp Try.prog o a W K Q else E := by
  have hw : Region.wanted o (yielded ops a.tmps) = true := by simp [Region.wanted, hgd]
  rw [if_pos hw]
  obtain ⟨i, hi, hz, hsz, hby⟩ := info_parts info33
  have hr0 := hr
  obtain ⟨oa, c, rfl, r1, r2, r3⟩ := hr
  rcases Nat.eq_zero_or_pos l.length with h0 | h0
  · have hl : l = [] := List.eq_nil_of_length_eq_zero h0
    subst hl
    rcases oa with _ | ad
    · unfold Oper.wp execOp
      simp only [ho, resolve, invoke, builtin, Sem.run_bind, Sem.run_pure, Result.andThen_ok, List.map_toArray, List.map_cons, List.map_nil, hs, hx, List.length_nil, run_app_none base W o.type v n xs hown c]
      exact h v W (by simpa [tcells] using hown) (World.grownBy.refl W _)
    · exact wp_append_own W s x 22 ho base 33 i (.agg #[.string ⟨#[]⟩, .slice none 0 0]) 2 40 Try.underlying22 hi hz hsz hby rfl (by decide) v n xs hs hown ad 0 c [] hx rfl (fun j u hj => by simp at hj) (fun u hu => by simp at hu) (by unfold maxLen; simp at hlen; omega) (by simp at hlen; omega) hbase (fun v' w' h2 h3 _ => h v' w' h2 h3)
  · obtain ⟨x0, hx0⟩ : ∃ x, l[0]? = some x := ⟨l[0], List.getElem?_eq_getElem h0⟩
    obtain ⟨g, o', rfl, _⟩ := r3 0 x0 hx0
    exact wp_append_own W s x 22 ho base 33 i (.agg #[.string ⟨#[]⟩, .slice none 0 0]) 2 40 Try.underlying22 hi hz hsz hby rfl (by decide) v n xs hs hown ⟨g, o', none⟩ l.length c (tcells l) hx (tcells_len l) (tnews_of hr0) (tcells_one l hr0.one) (by unfold maxLen; omega) (by omega) hbase (fun v' w' h2 h3 _ => h v' w' h2 h3)
end Go.Proofs.Ytcedcfkjoppjdaa
