/- Arguments opened; the row's last step where nothing turns. -/
import Derived.Test.YtfhbnkdibhmmcaaQC
import Derived.Test.YtfhbnkdibhmmcaaVZ
import Derived.Deep.Slices
import Derived.Deep.Fields
import Derived.ReadAgain
import Derived.ChangeSame
namespace Go.Proofs.Ytfhbnkdibhmmcaa
open Go.ChangeShapes Go.WideShapes Go.ChangeAt Go.RowKit Go.Joins Go.Deep
set_option linter.unusedVariables false
set_option maxRecDepth 100000

theorem Old.same {w w' : World} (ho : Old w w') {p : MemPlace} (hp : p.block < w.heap.size) : w.sameAt w' p := by
  cases p with
  | cell b off => exact ho.cell (p := ⟨b, off, none⟩) hp
  | map b => exact ho.block b hp
section
variable {H : Type} {enc : TypeId × Value → H} {P : Program} {W W' : World} {base : Nat} {sp : Nat → Bool} {held : Bool}
theorem trodAll_old (ho : Old W W') : ∀ {ts : List TypeId} {vs : List Value} {ds : List (DataW H)} {ps : List MemPlace}, DataW.TrodAll enc P W base sp held ts vs ds ps → (∀ p ∈ ps, p.block < W.heap.size) → DataW.TrodAll enc P W' base sp held ts vs ds ps
  | [], [], [], _, h, _ => h
  | _ :: _, _ :: _, _ :: _, _, ⟨p, q, ⟨n, h1⟩, h2, e⟩, hs =>
    ⟨p, q, ⟨n, DataW.trod_carry n _ _ _ h1 (fun x hx => ho.same (hs x (by rw [e]; exact List.mem_append_left _ hx)))⟩, trodAll_old ho h2 (fun x hx => hs x (by rw [e]; exact List.mem_append_right _ hx)), e⟩
/-- The row's last step where nothing that was there has turned, whatever the arguments' types: true. -/
theorem post_true {f : Func} {s : ChangeSpec} {apart fresh handsOn again : Bool} {args : Array Value} {ds : List (DataW H)} {before : List MemPlace} {tb : TypeId}
    (K : Kids P (· < P.types.size)) (hz : ∀ t e, t < P.types.size → P.underlying t = some (.slice e) → 0 < P.cellsOf e) (hts : ∀ t ∈ f.params.toList, t < P.types.size)
    (hvs : s.vars = []) (hW : DataW.Whole enc P f.params.toList s.vars apart W args.toList ds [] before)
    (hs : s.fn H ds = { results := [.lit (.bool true)], args := ds }) (hr : f.resultTypes = #[tb]) (htb : P.underlying tb = some .bool) (ho : Old W W') :
    s.post enc P f apart fresh handsOn again W args (.bool true) W' := by
  have hW' := hW
  obtain ⟨p, q, hA, hV, hpq, hfz, hnd⟩ := hW
  have hlt : ∀ x ∈ before, x.block < W.heap.size := fun x hx => hW'.lt x hx
  rw [hvs] at hV
  obtain ⟨_, rfl⟩ := trodVars_none hV
  simp only [List.append_nil] at hpq
  subst hpq
  refine post_of_old (pa := before) (pv := []) hW' (fun b sp hd => ?_) (fun sp hsp => ?_) (fun sp _ => ?_) (by simp) ho ?_
  · rw [List.append_nil, hs, hr]
    exact trodAll_cons_mk (shut_bool htb _) trodAll_mk0
  · rw [List.append_nil, hs]
    exact trodAll_old ho (DataW.TrodAll.respare K hz hts hA (fun x hx => hsp x hx)) hlt
  · rw [hvs, List.append_nil, hs]
    exact rfl
  · exact ok_one hr rfl (okWide_bool_mk htb _)
end

theorem ex_list {α : Type} {Q : Nat → α → Prop} : ∀ n, (∀ i, i < n → ∃ x, Q i x) → ∃ l : List α, l.length = n ∧ ∀ (i : Nat) (x : α), l[i]? = some x → Q i x
  | 0, _ => ⟨[], rfl, fun i x h => by simp at h⟩
  | n + 1, h => by
    obtain ⟨l, hl, hq⟩ := ex_list n (fun i hi => h i (by omega))
    obtain ⟨x, hx⟩ := h n (by omega)
    refine ⟨l ++ [x], by simp [hl], fun i y hi => ?_⟩
    by_cases e : i < n
    · rw [List.getElem?_append_left (by omega)] at hi
      exact hq i y hi
    · have hlt : i < (l ++ [x]).length := (List.getElem?_eq_some_iff.1 hi).1
      have : i = n := by simp [hl] at hlt; omega
      subst this
      rw [List.getElem?_append_right (by omega), hl, Nat.sub_self] at hi
      simp at hi
      subst hi
      exact hx
theorem add_none (b o n : Nat) : (⟨b, o, none⟩ : Addr).add n = ⟨b, o + n, none⟩ := by
  unfold Addr.add
  split
  · subst_vars; rfl
  · rfl
theorem cell_lt {w : World} {a : Addr} {v : Value} (h : w.cell? a = some v) : a.block < w.heap.size := by
  unfold World.cell? at h
  split at h
  · rename_i hb
    exact blk_lt hb
  · cases h
section
variable {H : Type} {enc : TypeId × Value → H} {P : Program} {w : World} {base : Nat} {sp : Nat → Bool} {held : Bool}
theorem part_at {e : TypeId} {fs : Array Field} {a : Addr} {cs : List Value} {n : Nat} {y : DataW H × List MemPlace} (he : P.underlying e = some (.struct fs)) (hone : oneCellFields P fs = true)
    (hc : w.cells? base a (P.cellsOf e) = some cs) (ht : DataW.trod enc P w base sp held n e cs = some y) (j : Nat) (f : Field) (hf : fs[j]? = some f) (hj : j < P.cellsOf e) :
    ∃ v z m, w.cell? (a.add j) = some v ∧ DataW.trod enc P w base sp held m f.type [v] = some z := by
  obtain ⟨_, hl, hat⟩ := World.cells?_some hc
  obtain ⟨xs, m, _, _, _, hxl, hx⟩ := DataW.trod_struct he ht
  obtain ⟨ho, hk⟩ := hone_of hone j f hf
  have hjs : j < fs.size := (Array.getElem?_eq_some_iff.1 hf).1
  have h1 := hx j f hf
  rw [ho, hk, take1_drop cs j undef (by omega), List.getElem?_eq_getElem (by omega)] at h1
  refine ⟨cs.getD j undef, _, m, ?_, h1⟩
  rw [hat j hj, List.getD_eq_getElem?_getD, List.getElem?_eq_getElem (by omega)]
  rfl
end
section
variable {H : Type} {enc : TypeId × Value → H} {w : World} {base : Nat} {sp : Nat → Bool} {held : Bool}
theorem cells45 : Try.prog.cellsOf 45 = 3 := by kernel_rfl
theorem open_vr {fuel : Nat} {cs : List Value} {x : DataW H × List MemPlace} (h : DataW.trod enc Try.prog w base (fun _ => true) held fuel 23 cs = some x) : ∃ v l, cs = [v] ∧ VR w v l ∧ ∀ y ∈ l, (Lit.int .u8 y.k).wf = true ∧ (Lit.int .i64 y.n).wf = true := by
  rcases open_slice Try.underlying23 h with ⟨rfl, _⟩ | ⟨a, len, cap, m, n, D, Pl, rfl, _, hl, hm, hmm, _, hi⟩
  · exact ⟨_, [], rfl, ⟨none, 0, rfl, Nat.le_refl _, Nat.zero_le _, fun j x hj => by simp at hj⟩, fun y hy => by simp at hy⟩
  · simp only [if_true] at hmm
    subst hmm
    rw [cells45] at hi
    have key : ∀ i, i < len → ∃ x : Vl, w.cell? (a.add (i * 3)) = some (.int .u8 x.k) ∧ w.cell? ((a.add (i * 3)).add 1) = some (.int .i64 x.n) ∧ w.cell? ((a.add (i * 3)).add 2) = some (.string x.s) ∧ x.s.size ≤ maxLen ∧ (Lit.int .u8 x.k).wf = true ∧ (Lit.int .i64 x.n).wf = true := fun i hlt => by
      obtain ⟨cs', hc, ht⟩ := hi i (by omega)
      rw [← cells45] at hc
      obtain ⟨v0, z0, m0, c0, t0⟩ := part_at Try.underlying45 (by kernel_rfl) hc ht 0 _ rfl (by rw [cells45]; omega)
      obtain ⟨v1, z1, m1, c1, t1⟩ := part_at Try.underlying45 (by kernel_rfl) hc ht 1 _ rfl (by rw [cells45]; omega)
      obtain ⟨v2, z2, m2, c2, t2⟩ := part_at Try.underlying45 (by kernel_rfl) hc ht 2 _ rfl (by rw [cells45]; omega)
      obtain ⟨k, e0, _, wk⟩ := DataW.trod_int Try.underlying5 t0
      obtain ⟨nn, e1, _, wn⟩ := DataW.trod_int Try.underlying2 t1
      obtain ⟨s, e2, _, hs⟩ := DataW.trod_string Try.underlying9 t2
      simp at e0 e1 e2
      subst e0 e1 e2
      rw [cells45] at c0 c1 c2
      exact ⟨⟨k, nn, s⟩, c0, c1, c2, hs, wk, wn⟩
    obtain ⟨l, hll, hlq⟩ := ex_list len key
    subst hll
    refine ⟨_, l, rfl, ⟨some a, m, rfl, hl, hm, fun j x hj => ?_⟩, fun y hy => ?_⟩
    · obtain ⟨c0, c1, c2, hs, _, _⟩ := hlq j x hj
      have h0 : 0 < l.length := Nat.lt_of_le_of_lt (Nat.zero_le _) (List.getElem?_eq_some_iff.1 hj).1
      obtain ⟨y, hy⟩ : ∃ y, l[0]? = some y := ⟨l[0], List.getElem?_eq_getElem h0⟩
      have hsp := World.cell?_spot (hlq 0 y hy).1
      obtain ⟨b, o, spt⟩ := a
      have hsp' : spt = none := by simpa [Addr.add] using hsp
      subst hsp'
      rw [add_none] at c0 c1 c2
      rw [add_none] at c1 c2
      exact ⟨b, o, rfl, cell_lt c0, c0, c1, c2, hs⟩
    · obtain ⟨j, hj⟩ := List.mem_iff_getElem?.1 hy
      exact ⟨(hlq j y hj).2.2.2.2.1, (hlq j y hj).2.2.2.2.2⟩
end
theorem arg_vr {H : Type} {enc : TypeId × Value → H} {w : World} {base b0 : Nat} {r : Reach} {held : Bool} {v : Value} {d : DataW H} {p : List MemPlace} (hv : Value.okWide Try.prog w r b0 23 v) (h : DataW.Trod enc Try.prog w base (fun _ => true) held 23 v d p) : ∃ l, VR w v l := by
  obtain ⟨a, len, cap, rfl⟩ := okWide_slice Try.underlying23 hv
  obtain ⟨fuel, hf⟩ := h
  obtain ⟨v', l, e, hl, _⟩ := open_vr hf
  simp [Value.cells] at e
  subst e
  exact ⟨l, hl⟩
theorem types_ok {f : Func} (h : (f.params.toList.all fun t => decide (t < Try.prog.types.size)) = true) : ∀ t ∈ f.params.toList, t < Try.prog.types.size := fun t ht => by
  have := List.all_eq_true.1 h t ht
  simpa using this
theorem kids : Kids Try.prog (· < Try.prog.types.size) := kids_rows (by kernel_rfl) (by kernel_rfl)
theorem full : ∀ t e, t < Try.prog.types.size → Try.prog.underlying t = some (.slice e) → 0 < Try.prog.cellsOf e := slices_full_of Try.prog (by kernel_rfl)
end Go.Proofs.Ytfhbnkdibhmmcaa
