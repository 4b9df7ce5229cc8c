/- The arena: from: what is below a token, in a slice. -/
import Derived.Test.YtfgdgnkihiokoaaBM
import Derived.Deep.Cut
import Derived.Deep.CutBlock
import Derived.StillTailTactics
import Derived.Sort.OwnSorted
namespace Go.Proofs.Ytfgdgnkihiokoaa
open Go.ChangeShapes Go.WideShapes Go.ChangeAt Go.RowKit Go.Lib
set_option linter.unusedVariables false
set_option linter.unusedSimpArgs false
set_option maxRecDepth 100000

theorem wpList_nextU {w : World} {l : List Int} {ops : Array Oper} {rest : List Oper} {o : Oper} {a : Act} {Q : Exit → Act → World → Prop} (hg : o.guard = none) (it : Operand) (hop : o.op = Op.next it false) (b r n : Nat) (left : Lit → Bool) (cnt : Nat)
    (hit : a.eval it = .pointer (some ⟨r, 0, none⟩)) (h : w.ranges Try.prog 3 Rm b r n (Dz (se l)) left cnt) (hu : l.Pairwise (· < ·))
    (hDone : cnt = 0 → (∀ kl, left kl = false) → wpList Try.prog ops Q rest (a.put o.dst (.tuple #[.bool false])) w)
    (hMore : ∀ (i : Int) (w' : World) (cnt' : Nat), i ∈ l → left (.int .i64 i) = true → w'.ranges Try.prog 3 Rm b r n (Dz (se l)) (fun z => left z && !z.sameKey (.int .i64 i)) cnt' → cnt' < cnt →
      w.grownBy w' (some r) → w'.heap.size = w.heap.size → (Instr.entry (.pointer (some ⟨r, 0, none⟩))).run Try.prog w' = .ok (.tuple #[.int .i64 i, .agg #[]]) w' → wpList Try.prog ops Q rest (a.put o.dst (.tuple #[.bool true, .int .i64 i, .agg #[]])) w') :
    wpList Try.prog ops Q (o :: rest) a w := by
  refine wpList_plain hg fun K' hK' => ?_
  unfold Oper.wp
  rcases h.next keyed3 o.type with ⟨h0, hl, hrun⟩ | ⟨key, v, kl, y, w', cnt', hkey, hlk, hv, hat, hrun, hrg, hlt, hgr, hsz, hen⟩
  · simp [execOp, hop, hit, hrun, Result.andThen]
    exact hK' _ _ (hDone h0 hl)
  · obtain ⟨i, rfl, rfl, _⟩ := Maps.keyOf_int_inv Try.underlying3 hkey
    obtain ⟨yd, yp⟩ := y
    have hy : yd = .held v := by
      simp only [Rm, Option.some.injEq, Prod.mk.injEq] at hv
      exact hv.1.symm
    subst hy
    have hx : i ∈ l := by
      refine Classical.byContradiction fun hn => ?_
      have hx' : ∀ x ∈ se l, x.1 ≠ i := fun x hx1 e => by
        obtain ⟨j, hj, rfl⟩ := List.mem_map.1 hx1
        exact hn (e ▸ hj)
      have := hat .nil
      rw [Dz_no hx'] at this
      cases this
    have hh := hat .nil
    have hup : (se l).Pairwise (fun x y => x.1 < y.1) := by unfold se; rw [List.pairwise_map]; exact hu
    rw [show Lit.int .i64 i = Lit.int .i64 ((i, Value.agg #[]) : Int × Value).1 from rfl, Dz_at hup (x := (i, .agg #[])) (List.mem_map.2 ⟨i, hx, rfl⟩)] at hh
    have e1 : v = .agg #[] := by
      simp only [DataW.held.injEq] at hh
      exact hh.symm
    subst e1
    simp [execOp, hop, hit, hrun, Result.andThen]
    exact hK' _ _ (hMore i w' cnt' hx hlk hrg hlt hgr hsz hen)
theorem ranges_chg {S : Nat → Prop} {w w' : World} {b r n : Nat} {D : DataW Value} {left : Lit → Bool} {cnt : Nat} (h : w.ranges Try.prog 3 Rm b r n D left cnt) (hc : Chg S w w') (hb : ¬ S b) (hr : ¬ S r) : w'.ranges Try.prog 3 Rm b r n D left cnt := by
  have h1 := h.owns.lt
  have h2 := h.lt
  obtain ⟨es, clock, since, seen, c0, hb', F, hs, hD, hr', rest⟩ := h
  exact ⟨es, clock, since, seen, c0, (hc.block b h1 hb).trans hb', F, hs, hD, (hc.block r h2 hr).trans hr', rest⟩
/-- Cells of a slice of tokens. -/
theorem tcs_at : ∀ {l : List Tk} {i : Nat} {t : Tk}, l[i]? = some t → (tcs l)[i * 4]? = some (.int .i64 t.id)
  | [], i, t, h => by simp at h
  | y :: l, 0, t, h => by cases h; rfl
  | y :: l, i + 1, t, h => by
    have ih := tcs_at (l := l) (i := i) (t := t) (by simpa using h)
    rw [show (i + 1) * 4 = i * 4 + 1 + 1 + 1 + 1 by omega]
    exact ih
theorem Toks.cell {w : World} {base n cap : Nat} {oa : Option Addr} {l : List Tk} (h : Toks w base (.slice oa n cap) l) {i : Nat} {t : Tk} (hi : l[i]? = some t) : ∃ g, oa = some ⟨g, 0, none⟩ ∧ n = l.length ∧ base ≤ g ∧ g < w.heap.size ∧ w.cell? ⟨g, i * 4, none⟩ = some (.int .i64 t.id) := by
  have hil : i < l.length := (List.getElem?_eq_some_iff.1 hi).1
  rcases h.2 with ⟨e, e2⟩ | ⟨g, cp, cur, e, hb, hg, hc, hm, hsz, ht⟩
  · omega
  · obtain ⟨rfl, e2, _⟩ : oa = some ⟨g, 0, none⟩ ∧ n = l.length ∧ cap = cp := by simpa using e
    refine ⟨g, rfl, e2, hb, blk_lt hg, ?_⟩
    have h1 := tcs_at hi
    rw [← ht, List.getElem?_take, if_pos (by omega), Array.getElem?_toList] at h1
    simp [World.cell?, hg, h1]

/-- Between two steps of from: the variable in block g5, the arena's pointer in block g2, what was gathered. -/
structure Fr (w wr : World) (b : Bs) (A : Nat → Prop) (L : List Tk) (last cap g2 g5 : Nat) (oa : Option Addr) (n cp : Nat) (l : List Tk) : Prop where
  ar : Ar wr b A L last cap
  v5 : Var wr g5 29 (.slice oa n cp)
  v2 : Var wr g2 24 (ptr b)
  row : Toks wr (g5 + 1) (.slice oa n cp) l
  len : n = l.length
  old : Old w wr
theorem Fr.chg {w wr wr' : World} {b : Bs} {A : Nat → Prop} {L : List Tk} {last cap g2 g5 n cp n' cp' : Nat} {oa ob : Option Addr} {l l' : List Tk} (h : Fr w wr b A L last cap g2 g5 oa n cp l) (hA : ∀ j, A j → j < w.heap.size) (h2 : w.heap.size ≤ g2) (h25 : g2 < g5)
    (hc : Chg (fun j => j = g5 ∨ (Value.slice oa n cp).ownBlock = some j) wr wr') (hv : Var wr' g5 29 (.slice ob n' cp')) (hr : Toks wr' (g5 + 1) (.slice ob n' cp') l') (hn : n' = l'.length) : Fr w wr' b A L last cap g2 g5 ob n' cp' l' where
  ar := h.ar.chg hc (fun j hj e => by
    have := hA j hj
    rcases e with e | e
    · omega
    · have := row_low h.row j e; omega)
  v5 := hv
  v2 := (hc.block g2 h.v2.lt (fun e => by
    rcases e with e | e
    · omega
    · have := row_low h.row g2 e; omega)).trans h.v2
  row := hr
  len := hn
  old := hc.old h.old (fun j e => by
    rcases e with e | e
    · omega
    · have := row_low h.row j e; omega)
theorem Fr.o {w wr wr' : World} {b : Bs} {A : Nat → Prop} {L : List Tk} {last cap g2 g5 n cp : Nat} {oa : Option Addr} {l : List Tk} (h : Fr w wr b A L last cap g2 g5 oa n cp l) (ho : Old wr wr') : Fr w wr' b A L last cap g2 g5 oa n cp l :=
  ⟨h.ar.old ho, h.v5.old ho, h.v2.old ho, h.row.old ho, h.len, h.old.trans ho⟩
theorem Fr.grown {w wr wr' : World} {b : Bs} {A : Nat → Prop} {L : List Tk} {last cap g2 g5 n cp r : Nat} {oa : Option Addr} {l : List Tk} (h : Fr w wr b A L last cap g2 g5 oa n cp l) (hA : ∀ j, A j → j < w.heap.size) (h2 : w.heap.size ≤ g2) (h25 : g2 < g5) (hg : wr.grownBy wr' (some r)) (hr : g5 < r) (hrow : some r ≠ (Value.slice oa n cp).ownBlock) : Fr w wr' b A L last cap g2 g5 oa n cp l := by
  have hc := Chg.ofGrown hg
  have hlt := fun (j : Nat) (hj : A j) => hA j hj
  refine ⟨h.ar.chg hc (fun j hj e => ?_), (hc.block g5 h.v5.lt (fun e => ?_)).trans h.v5, (hc.block g2 h.v2.lt (fun e => ?_)).trans h.v2, ?_, h.len, hc.old h.old (fun j e => ?_)⟩
  · have := hA j hj
    have := Option.some.inj e
    omega
  · have := Option.some.inj e; omega
  · have := Option.some.inj e; omega
  · refine ⟨h.row.1, ?_⟩
    rcases h.row.2 with h' | ⟨g', cap', cur, e', hb', hg', hc'⟩
    · exact Or.inl h'
    · refine Or.inr ⟨g', cap', cur, e', hb', (hc.block g' (blk_lt hg') (fun e => ?_)).trans hg', hc'⟩
      rw [e'] at hrow
      exact hrow (by rw [Option.some.inj e]; rfl)
  · have := Option.some.inj e; omega
theorem Fr.gather {w wr : World} {b : Bs} {A : Nat → Prop} {L : List Tk} {last cap g2 g5 n cp : Nat} {oa : Option Addr} {l : List Tk} (h : Fr w wr b A L last cap g2 g5 oa n cp l) (hA : ∀ j, A j → j < w.heap.size) (h2 : w.heap.size ≤ g2) (h25 : g2 < g5) (hg : Good L last) {i : Int} (hi : I64 i) {t : Tk} (ht : getT L i = some t) (hn1 : n < 1000000) :
    Calls Try.prog 27 #[.int .i64 i, .pointer (some ⟨g5, 0, none⟩), .pointer (some ⟨g2, 0, none⟩)] wr fun e w' => e = .returned (.tuple #[]) ∧ ∃ ob cp', Fr w w' b A L last cap g2 g5 ob (n + 1) cp' (l ++ [t]) ∧ Chg (fun j => j = g5 ∨ (Value.slice oa n cp).ownBlock = some j) wr w' := by
  refine (gather_any h.ar hg.up hi ht h.v5 h.v2 h.row h.len hn1 (by have := h.v5.lt; omega) (by omega)).mono ?_
  rintro e w' ⟨rfl, ob, cp', h1, h3, h4⟩
  exact ⟨rfl, ob, cp', h.chg hA h2 h25 h4 h1 h3 (by rw [List.length_append, ← h.len]; rfl), h4⟩
end Go.Proofs.Ytfgdgnkihiokoaa
