/- Layer memory: the document's memory: Copy; append as one step of a drawn statement. -/
import Derived.Test.YtfhbnkdibhmmcaaSD
import Derived.Test.YtfhbnkdibhmmcaaSA
import Derived.Deep.RegionLaw
namespace Go.Proofs.Ytfhbnkdibhmmcaa
open Go.ChangeShapes Go.WideShapes Go.ChangeAt Go.RowKit Go.Lib
set_option linter.unusedVariables false
set_option linter.unusedSimpArgs false
set_option maxRecDepth 100000

theorem step_appC {ops : Array Oper} {o : Oper} {a : Act} {K : Act → World → Prop} {Q : Exit → Act → World → Prop} {R : Prop} (W : World) (hgd : o.guard = none) (s x : Operand) (t : TypeId)
    (ho : o.op = .call { callee := .builtin .append, args := #[s, x], argTypes := #[t, t] })
    (base : Nat) (e : TypeId) (i : TypeInfo) (z : Value) (size bytes : Nat) (ht : Try.prog.underlying t = some (.slice e)) (hi : Try.prog.info? e = some i) (hz : i.zero = some z)
    (hsize : i.size = size) (hby : i.bytes = bytes) (hzs : z.cells.size = size) (hsz : 0 < size)
    (v : Value) (n : Nat) (xs : List Value) (hs : a.eval s = v) (hown : W.ownsRow base e size v n xs)
    (vx : Value) (m : Nat) (cs : List Value) (hx : a.eval x = vx) (hr : CR W vx m size cs) (h1 : ∀ u ∈ cs, u.oneCell' = true) (hlen : (n + m) * bytes ≤ 140737488355328) (hlen2 : n + m ≤ maxLen) (hbase : base ≤ W.heap.size)
    (h : ∀ v' w', w'.ownsRow base e size v' (n + m) (xs ++ cs) → W.grownBy w' v.ownBlock → K (a.put o.dst v') w') :
    if Region.wanted o (yielded ops a.tmps) = true then Oper.wp Try.prog o a W K Q else R := by
  have hw : Region.wanted o (yielded ops a.tmps) = true := by simp [Region.wanted, hgd]
  rw [if_pos hw]
  obtain ⟨v', w', hrun, h2, h3, h4⟩ := run_appC (P := Try.prog) W base t o.type e i z size bytes ht hi hz hsize hby hzs hsz v n xs hown vx m cs hr h1 hlen hlen2 hbase
  unfold Oper.wp execOp
  simp only [ho, resolve, invoke, builtin, Sem.run_bind, Sem.run_pure, Result.andThen_ok, List.map_toArray, List.map_cons, List.map_nil, hs, hx, hrun]
  exact h v' w' h2 h3

theorem fcells_of : ∀ {l : List (Ft × Value)} {j : Nat} {u : Value}, (fcells l)[j]? = some u → ∃ i x, l[i]? = some x ∧ ((j = i * 3 ∧ u = .int .i64 x.1.id) ∨ (j = i * 3 + 1 ∧ u = .int .i64 x.1.t) ∨ (j = i * 3 + 2 ∧ u = x.2))
  | [], j, u, h => by simp [fcells] at h
  | y :: l, 0, u, h => ⟨0, y, rfl, Or.inl ⟨rfl, by simpa [fcells] using h.symm⟩⟩
  | y :: l, 1, u, h => ⟨0, y, rfl, Or.inr (Or.inl ⟨rfl, by simpa [fcells] using h.symm⟩)⟩
  | y :: l, 2, u, h => ⟨0, y, rfl, Or.inr (Or.inr ⟨rfl, by simpa [fcells] using h.symm⟩)⟩
  | y :: l, j + 3, u, h => by
    obtain ⟨i, x, hi, hx⟩ := fcells_of (l := l) (j := j) (u := u) (by simpa [fcells] using h)
    refine ⟨i + 1, x, by simpa using hi, ?_⟩
    rcases hx with ⟨rfl, rfl⟩ | ⟨rfl, rfl⟩ | ⟨rfl, rfl⟩
    · exact Or.inl ⟨by omega, rfl⟩
    · exact Or.inr (Or.inl ⟨by omega, rfl⟩)
    · exact Or.inr (Or.inr ⟨by omega, rfl⟩)
/-- Facts and their slices, as cells. -/
def RV2 (S : Nat → Prop) (w : World) (V : List (Ft × Value)) : Prop := ∀ y ∈ V, VR w y.2 y.1.l ∧ VS S y.2
theorem RV2.old {k : Nat → Prop} {w w' : World} {V : List (Ft × Value)} (h : RV2 k w V) (ho : Old w w') : RV2 k w' V := fun y hy => ⟨(h y hy).1.old ho, (h y hy).2⟩
theorem RV2.one {k : Nat → Prop} {w : World} : ∀ {V : List (Ft × Value)}, RV2 k w V → ∀ u ∈ fcells V, u.oneCell' = true
  | [], _, u, h => by cases h
  | x :: l, hv, u, h => by
    simp only [fcells, List.mem_cons] at h
    rcases h with rfl | rfl | rfl | h
    · rfl
    · rfl
    · obtain ⟨oa, c, e, _⟩ := (hv x (by simp)).1
      rw [e]
      rfl
    · exact RV2.one (V := l) (fun y hy => hv y (by simp [hy])) u h
theorem RX.split {k : Nat → Prop} {w : World} {r : Value} {L : List Ft} (h : RX k w r L) : ∃ V : List (Ft × Value), V.map (·.1) = L ∧ V.length = L.length ∧ CR w r L.length 3 (fcells V) ∧ RV2 k w V := by
  obtain ⟨oa, cap, rfl, h1, h2, h3⟩ := h
  obtain ⟨U, hU, hq⟩ := ex_list (Q := fun j (u : Value) => ∀ x, L[j]? = some x → ∃ g o, oa = some ⟨g, o, none⟩ ∧ g < w.heap.size ∧ w.cell? ⟨g, o + j * 3, none⟩ = some (.int .i64 x.id) ∧ w.cell? ⟨g, o + j * 3 + 1, none⟩ = some (.int .i64 x.t) ∧ w.cell? ⟨g, o + j * 3 + 2, none⟩ = some u ∧ VR w u x.l ∧ VS k u) L.length (fun j hj => by
    obtain ⟨x, hx⟩ : ∃ x, L[j]? = some x := ⟨L[j], List.getElem?_eq_getElem hj⟩
    obtain ⟨g, o, u, e, hg, hk, c0, c1, c2, hv, hvx⟩ := h3 j x hx
    refine ⟨u, fun y hy => ?_⟩
    rw [hx] at hy
    cases hy
    exact ⟨g, o, e, hg, c0, c1, c2, hv, hvx⟩)
  have hz : (L.zip U).map (·.1) = L := by
    rw [← List.unzip_fst, List.unzip_zip hU.symm]
  have hzl : (L.zip U).length = L.length := by
    rw [List.length_zip, hU, Nat.min_self]
  have hat : ∀ (i : Nat) (y : Ft × Value), (L.zip U)[i]? = some y → L[i]? = some y.1 ∧ U[i]? = some y.2 := fun i y hy => by
    rw [List.getElem?_zip_eq_some] at hy
    exact hy
  refine ⟨L.zip U, hz, hzl, ⟨oa, cap, rfl, h1, h2, by rw [fcells_len, hzl], fun j u hj => ?_⟩, fun y hy => ?_⟩
  · obtain ⟨i, x, hi, hx⟩ := fcells_of hj
    obtain ⟨p1, p2⟩ := hat i x hi
    obtain ⟨g, o, rfl, hg, c0, c1, c2, _⟩ := hq i x.2 p2 x.1 p1
    rcases hx with ⟨rfl, rfl⟩ | ⟨rfl, rfl⟩ | ⟨rfl, rfl⟩
    · exact ⟨g, o, rfl, hg, c0⟩
    · exact ⟨g, o, rfl, hg, c1⟩
    · exact ⟨g, o, rfl, hg, c2⟩
  · obtain ⟨i, hi⟩ := List.mem_iff_getElem?.1 hy
    obtain ⟨p1, p2⟩ := hat i y hi
    obtain ⟨g, o, rfl, hg, c0, c1, c2, hv, hvx⟩ := hq i y.2 p2 y.1 p1
    exact ⟨hv, hvx⟩
theorem RX.join {k : Nat → Prop} {base n : Nat} {w : World} {r : Value} {V : List (Ft × Value)} {L : List Ft} (h : w.ownsRow base 38 3 r n (fcells V)) (hk : ∀ b, k b → b < base) (hv : RV2 k w V) (hV : V.map (·.1) = L) : RX k w r L := by
  have hb := own_from h
  obtain ⟨oa, cap, rfl, h1, h2, h3, h4⟩ := CR.owned h
  have hn : n = L.length := by
    have := congrArg List.length hV
    rw [List.length_map] at this
    rw [fcells_len] at h3
    omega
  subst hn
  refine ⟨oa, cap, rfl, h1, h2, fun j x hj => ?_⟩
  rw [← hV, List.getElem?_map] at hj
  obtain ⟨y, hy, rfl⟩ : ∃ y, V[j]? = some y ∧ y.1 = x := by
    cases h : V[j]? with
    | none => rw [h] at hj; cases hj
    | some y => rw [h] at hj; exact ⟨y, rfl, by simpa using hj⟩
  obtain ⟨a0, a1, a2⟩ := fcells_at hy
  obtain ⟨g, o, rfl, hg, c0⟩ := h4 _ _ a0
  obtain ⟨g', o', e', _, c1⟩ := h4 _ _ a1
  obtain ⟨g'', o'', e'', _, c2⟩ := h4 _ _ a2
  simp only [Option.some.injEq, Addr.mk.injEq, and_true] at e' e''
  obtain ⟨rfl, rfl⟩ := e'
  obtain ⟨rfl, rfl⟩ := e''
  have hkb := hb g rfl
  obtain ⟨q1, q2⟩ := hv y (List.mem_iff_getElem?.2 ⟨j, hy⟩)
  exact ⟨_, _, _, rfl, hg, fun e => by have := hk _ e; omega, c0, c1, c2, q1, q2⟩

end Go.Proofs.Ytfhbnkdibhmmcaa
