/- A law's arguments: numbers, tuples, activations; the row's last step. -/
import Derived.Test.YtdcfaniimhjghaaOL
import Derived.Deep.Slices
import Derived.Deep.Fields
import Derived.ReadAgain
import Derived.ChangeSame
import Derived.Lib.SmallJoins
namespace Go.Proofs.Ytdcfaniimhjghaa
open Go.ChangeShapes Go.WideShapes Go.ChangeAt Go.RowKit Go.Joins Go.Deep
set_option linter.unusedVariables false
set_option linter.unusedSimpArgs false
set_option maxRecDepth 100000

theorem own : ownKnob Try.prog.godebug = none := by kernel_rfl
/-- The row's last step where nothing that was there has turned. -/
theorem post_of_old {H : Type} {enc : TypeId × Value → H} {P : Program} {f : Func} {s : ChangeSpec} {apart fresh handsOn again : Bool} {W W' : World} {args : Array Value} {v : Value} {ds gs : List (DataW H)} {before pa pv : List MemPlace}
    (hW : DataW.Whole enc P f.params.toList s.vars apart W args.toList ds gs before)
    (hres : ∀ (b : Nat) (sp : Nat → Bool) (hd : Bool), DataW.TrodAll enc P W' b sp hd f.resultTypes.toList (v.resultList f.resultTypes.size) (s.fn H (ds ++ gs)).results [])
    (hargs : ∀ sp : Nat → Bool, (∀ p ∈ before, sp p.block = true) → DataW.TrodAll enc P W' 0 sp true f.params.toList args.toList (s.fn H (ds ++ gs)).args pa)
    (hvars : ∀ sp : Nat → Bool, (∀ p ∈ before, sp p.block = true) → DataW.TrodVars enc P W' sp s.vars (s.fn H (ds ++ gs)).vars pv)
    (hps : before = pa ++ pv) (ho : Old W W')
    (hok : ∀ (j : Nat) (t : TypeId) (r : Value), f.resultTypes[j]? = some t → (v.resultList f.resultTypes.size)[j]? = some r → Value.okWide P W' .any 0 t r) :
    s.post enc P f apart fresh handsOn again W args v W' := by
  have hlt : ∀ p ∈ before, p.block < W.heap.size := fun p hp => hW.lt p hp
  have hin : ∀ p ∈ before, (fun b => decide (b < W.heap.size)) p.block = true := fun p hp => decide_eq_true (hlt p hp)
  have hpart : ∀ p ∈ before, p ∈ pa ∨ p ∈ pv := fun p hp => List.mem_append.1 (hps ▸ hp)
  refine ⟨ds, gs, before, [], pa, pv, hW, hres _ _ _, hargs _ hin, hvars _ hin, World.keptBut_mono (fun p hp => ⟨hp, Or.inr (hpart p hp)⟩) (ho.frame (· ∈ before)), fun _ => ?_⟩
  obtain ⟨_, _, _, _, _, hz, hn⟩ := hW
  refine ⟨hok, _, _, ([] ++ pa) ++ pv, ⟨[] ++ pa, pv, trodAll_append (hargs _ (fun _ _ => rfl)) (hres _ _ _), hvars _ (fun _ _ => rfl), rfl, fun b off hp => ?_, fun ha => ?_⟩, fun p hp _ => ?_⟩
  · have hb : MemPlace.cell b off ∈ before := by rw [hps]; simpa using hp
    rw [ho.frozen (hlt _ hb)]
    exact hz b off hb
  · have := hn ha
    rw [hps] at this
    simpa using this
  · rw [hps]
    simpa using hp
theorem Old.same {w w' : World} (ho : Old w w') {p : MemPlace} (hp : p.block < w.heap.size) : w.sameAt w' p := by
  cases p with
  | cell b off => exact ho.cell (p := ⟨b, off, none⟩) hp
  | map b => exact ho.block b hp
section
variable {H : Type} {enc : TypeId × Value → H} {P : Program} {W W' : World} {base : Nat} {sp : Nat → Bool} {held : Bool}
theorem trodAll_old (ho : Old W W') : ∀ {ts : List TypeId} {vs : List Value} {ds : List (DataW H)} {ps : List MemPlace}, DataW.TrodAll enc P W base sp held ts vs ds ps → (∀ p ∈ ps, p.block < W.heap.size) → DataW.TrodAll enc P W' base sp held ts vs ds ps
  | [], [], [], _, h, _ => h
  | _ :: _, _ :: _, _ :: _, _, ⟨p, q, ⟨n, h1⟩, h2, e⟩, hs =>
    ⟨p, q, ⟨n, DataW.trod_carry n _ _ _ h1 (fun x hx => ho.same (hs x (by rw [e]; exact List.mem_append_left _ hx)))⟩, trodAll_old ho h2 (fun x hx => hs x (by rw [e]; exact List.mem_append_right _ hx)), e⟩
/-- The row's last step where nothing that was there has turned, whatever the arguments' types: true. -/
theorem post_true {f : Func} {s : ChangeSpec} {apart fresh handsOn again : Bool} {args : Array Value} {ds : List (DataW H)} {before : List MemPlace} {tb : TypeId}
    (K : Kids P (· < P.types.size)) (hz : ∀ t e, t < P.types.size → P.underlying t = some (.slice e) → 0 < P.cellsOf e) (hts : ∀ t ∈ f.params.toList, t < P.types.size)
    (hvs : s.vars = []) (hW : DataW.Whole enc P f.params.toList s.vars apart W args.toList ds [] before)
    (hs : s.fn H ds = { results := [.lit (.bool true)], args := ds }) (hr : f.resultTypes = #[tb]) (htb : P.underlying tb = some .bool) (ho : Old W W') :
    s.post enc P f apart fresh handsOn again W args (.bool true) W' := by
  have hW' := hW
  obtain ⟨p, q, hA, hV, hpq, hfz, hnd⟩ := hW
  have hlt : ∀ x ∈ before, x.block < W.heap.size := fun x hx => hW'.lt x hx
  rw [hvs] at hV
  obtain ⟨_, rfl⟩ := trodVars_none hV
  simp only [List.append_nil] at hpq
  subst hpq
  refine post_of_old (pa := before) (pv := []) hW' (fun b sp hd => ?_) (fun sp hsp => ?_) (fun sp _ => ?_) (by simp) ho ?_
  · rw [List.append_nil, hs, hr]
    exact trodAll_cons_mk (shut_bool htb _) trodAll_mk0
  · rw [List.append_nil, hs]
    exact trodAll_old ho (DataW.TrodAll.respare K hz hts hA (fun x hx => hsp x hx)) hlt
  · rw [hvs, List.append_nil, hs]
    exact rfl
  · exact ok_one hr rfl (okWide_bool_mk htb _)
end

theorem ex_list {α : Type} {Q : Nat → α → Prop} : ∀ n, (∀ i, i < n → ∃ x, Q i x) → ∃ l : List α, l.length = n ∧ ∀ (i : Nat) (x : α), l[i]? = some x → Q i x
  | 0, _ => ⟨[], rfl, fun i x h => by simp at h⟩
  | n + 1, h => by
    obtain ⟨l, hl, hq⟩ := ex_list n (fun i hi => h i (by omega))
    obtain ⟨x, hx⟩ := h n (by omega)
    refine ⟨l ++ [x], by simp [hl], fun i y hi => ?_⟩
    by_cases e : i < n
    · rw [List.getElem?_append_left (by omega)] at hi
      exact hq i y hi
    · have hlt : i < (l ++ [x]).length := (List.getElem?_eq_some_iff.1 hi).1
      have : i = n := by simp [hl] at hlt; omega
      subst this
      rw [List.getElem?_append_right (by omega), hl, Nat.sub_self] at hi
      simp at hi
      subst hi
      exact hx
theorem adr_none (b o n : Nat) : (⟨b, o, none⟩ : Addr).add n = ⟨b, o + n, none⟩ := by
  unfold Addr.add
  split
  · subst_vars; rfl
  · rfl
theorem cell_lt {w : World} {a : Addr} {v : Value} (h : w.cell? a = some v) : a.block < w.heap.size := by
  unfold World.cell? at h
  split at h
  · rename_i hb
    exact blk_lt hb
  · cases h
section
variable {H : Type} {enc : TypeId × Value → H} {P : Program} {w : World} {base : Nat} {sp : Nat → Bool} {held : Bool}
theorem part_at {e : TypeId} {fs : Array Field} {a : Addr} {cs : List Value} {n : Nat} {y : DataW H × List MemPlace} (he : P.underlying e = some (.struct fs)) (hone : oneCellFields P fs = true)
    (hc : w.cells? base a (P.cellsOf e) = some cs) (ht : DataW.trod enc P w base sp held n e cs = some y) (j : Nat) (f : Field) (hf : fs[j]? = some f) (hj : j < P.cellsOf e) :
    ∃ v z m, w.cell? (a.add j) = some v ∧ DataW.trod enc P w base sp held m f.type [v] = some z := by
  obtain ⟨_, hl, hat⟩ := World.cells?_some hc
  obtain ⟨xs, m, _, _, _, hxl, hx⟩ := DataW.trod_struct he ht
  obtain ⟨ho, hk⟩ := hone_of hone j f hf
  have hjs : j < fs.size := (Array.getElem?_eq_some_iff.1 hf).1
  have h1 := hx j f hf
  rw [ho, hk, take1_drop cs j undef (by omega), List.getElem?_eq_getElem (by omega)] at h1
  refine ⟨cs.getD j undef, _, m, ?_, h1⟩
  rw [hat j hj, List.getD_eq_getElem?_getD, List.getElem?_eq_getElem (by omega)]
  rfl
end
theorem types_ok {f : Func} (h : (f.params.toList.all fun t => decide (t < Try.prog.types.size)) = true) : ∀ t ∈ f.params.toList, t < Try.prog.types.size := fun t ht => by
  have := List.all_eq_true.1 h t ht
  simpa using this
theorem kids : Kids Try.prog (· < Try.prog.types.size) := kids_rows (by kernel_rfl) (by kernel_rfl)
theorem full : ∀ t e, t < Try.prog.types.size → Try.prog.underlying t = some (.slice e) → 0 < Try.prog.cellsOf e := slices_full_of Try.prog (by kernel_rfl)


section
variable {H : Type} {enc : TypeId × Value → H} {w : World} {base : Nat} {sp : Nat → Bool} {held : Bool}
theorem cells3 : Try.prog.cellsOf 3 = 1 := by kernel_rfl
theorem cells25 : Try.prog.cellsOf 25 = 3 := by kernel_rfl
theorem open_ir {fuel : Nat} {cs : List Value} {x : DataW H × List MemPlace} (h : DataW.trod enc Try.prog w base (fun _ => true) held fuel 23 cs = some x) : ∃ v l, cs = [v] ∧ IR w v l := by
  rcases open_slice Try.underlying23 h with ⟨rfl, _⟩ | ⟨a, len, cap, m, n, D, Pl, rfl, _, hl, hm, hmm, _, hi⟩
  · exact ⟨_, [], rfl, none, 0, rfl, Nat.le_refl _, Nat.zero_le _, rfl, fun j x hj => by simp [ics] at hj⟩
  · simp only [if_true] at hmm
    subst hmm
    rw [cells3] at hi
    have key : ∀ i, i < len → ∃ x : Int, w.cell? ((a.add (i * 1)).add 0) = some (.int .i64 x) := fun i hlt => by
      obtain ⟨cs', hc, ht⟩ := hi i (by omega)
      obtain ⟨q0, e0, _, w0⟩ := DataW.trod_int Try.underlying3 ht
      obtain ⟨_, _, hat⟩ := World.cells?_some hc
      refine ⟨q0, ?_⟩
      rw [hat 0 (by omega), e0]
      rfl
    obtain ⟨l, hll, hlq⟩ := ex_list len key
    subst hll
    refine ⟨_, l, rfl, some a, m, rfl, hl, hm, by rw [ics_len, Nat.mul_one], fun j x hj => ?_⟩
    obtain ⟨y, hy, rfl⟩ : ∃ y, l[j]? = some y ∧ Value.int .i64 y = x := by
      unfold ics at hj
      rw [List.getElem?_map] at hj
      cases he : l[j]? with
      | none => rw [he] at hj; cases hj
      | some y => rw [he] at hj; exact ⟨y, rfl, Option.some.inj hj⟩
    have c0 := hlq j y hy
    have h0 : 0 < l.length := Nat.lt_of_le_of_lt (Nat.zero_le _) (List.getElem?_eq_some_iff.1 hy).1
    obtain ⟨y0, hy0⟩ : ∃ y, l[0]? = some y := ⟨l[0], List.getElem?_eq_getElem h0⟩
    have hsp := World.cell?_spot (hlq 0 y0 hy0)
    obtain ⟨b, o, spt⟩ := a
    have hsp' : spt = none := by simpa [Addr.add] using hsp
    subst hsp'
    rw [adr_none, adr_none, Nat.mul_one, Nat.add_zero] at c0
    exact ⟨b, o, rfl, cell_lt c0, c0⟩
theorem open_ar {fuel : Nat} {cs : List Value} {x : DataW H × List MemPlace} (h : DataW.trod enc Try.prog w base (fun _ => true) held fuel 22 cs = some x) : ∃ v P, cs = [v] ∧ AR w v P := by
  rcases open_slice Try.underlying22 h with ⟨rfl, _⟩ | ⟨a, len, cap, m, n, D, Pl, rfl, _, hl, hm, hmm, _, hi⟩
  · exact ⟨_, [], rfl, ⟨none, 0, rfl, Nat.le_refl _, Nat.zero_le _, rfl, fun j x hj => by simp [acs] at hj⟩, fun p hp => by cases hp⟩
  · simp only [if_true] at hmm
    subst hmm
    rw [cells25] at hi
    have key : ∀ i, i < len → ∃ p : Aw, w.cell? (a.add (i * 3)) = some (.int .i64 p.1.rule) ∧ w.cell? ((a.add (i * 3)).add 1) = some p.2 ∧ w.cell? ((a.add (i * 3)).add 2) = some (.int .i64 p.1.sal) ∧ IR w p.2 p.1.tup := fun i hlt => by
      obtain ⟨cs', hc, ht⟩ := hi i (by omega)
      rw [← cells25] at hc
      obtain ⟨v0, z0, m0, c0, t0⟩ := part_at Try.underlying25 (by kernel_rfl) hc ht 0 _ rfl (by rw [cells25]; omega)
      obtain ⟨v1, z1, m1, c1, t1⟩ := part_at Try.underlying25 (by kernel_rfl) hc ht 1 _ rfl (by rw [cells25]; omega)
      obtain ⟨v2, z2, m2, c2, t2⟩ := part_at Try.underlying25 (by kernel_rfl) hc ht 2 _ rfl (by rw [cells25]; omega)
      obtain ⟨q0, e0, _, w0⟩ := DataW.trod_int Try.underlying3 t0
      obtain ⟨v, l, e1, hr⟩ := open_ir t1
      obtain ⟨q2, e2, _, w2⟩ := DataW.trod_int Try.underlying3 t2
      simp at e0 e1 e2
      subst e0 e1 e2
      rw [cells25] at c0 c1 c2
      exact ⟨(⟨q0, l, q2⟩, v1), c0, c1, c2, hr⟩
    obtain ⟨P, hll, hlq⟩ := ex_list len key
    subst hll
    refine ⟨_, P, rfl, ⟨some a, m, rfl, hl, hm, acs_len P, fun j u hj => ?_⟩, fun p hp => by
      obtain ⟨j, hj⟩ := List.mem_iff_getElem?.1 hp
      exact (hlq j p hj).2.2.2⟩
    have hjl : j < P.length * 3 := by
      have := (List.getElem?_eq_some_iff.1 hj).1
      rw [acs_len] at this
      exact this
    have hq : j / 3 < P.length := by omega
    obtain ⟨p, hp⟩ : ∃ p, P[j / 3]? = some p := ⟨P[j / 3], List.getElem?_eq_getElem hq⟩
    obtain ⟨c0, c1, c2, _⟩ := hlq _ p hp
    obtain ⟨e0, e1, e2⟩ := acs_at hp
    obtain ⟨y0, hy0⟩ : ∃ y, P[0]? = some y := ⟨P[0]'(by omega), List.getElem?_eq_getElem _⟩
    have hsp := World.cell?_spot (hlq 0 y0 hy0).1
    obtain ⟨b, o, spt⟩ := a
    have hsp' : spt = none := by simpa [Addr.add] using hsp
    subst hsp'
    rw [adr_none] at c0 c1 c2
    rw [adr_none] at c1 c2
    have hg := cell_lt c0
    have h3 : j = j / 3 * 3 ∨ j = j / 3 * 3 + 1 ∨ j = j / 3 * 3 + 2 := by omega
    refine ⟨b, o, rfl, hg, ?_⟩
    rcases h3 with h3 | h3 | h3
    · rw [h3] at hj
      rw [e0] at hj
      obtain rfl := Option.some.inj hj
      rw [h3]
      exact c0
    · rw [h3] at hj
      rw [e1] at hj
      obtain rfl := Option.some.inj hj
      rw [h3, ← Nat.add_assoc]
      exact c1
    · rw [h3] at hj
      rw [e2] at hj
      obtain rfl := Option.some.inj hj
      rw [h3, ← Nat.add_assoc]
      exact c2
end
theorem arg_ints {H : Type} {enc : TypeId × Value → H} {w : World} {base b0 : Nat} {r : Reach} {held : Bool} {v : Value} {d : DataW H} {p : List MemPlace} (hv : Value.okWide Try.prog w r b0 23 v) (h : DataW.Trod enc Try.prog w base (fun _ => true) held 23 v d p) : ∃ l, IR w v l := by
  obtain ⟨a, len, cap, rfl⟩ := okWide_slice Try.underlying23 hv
  obtain ⟨fuel, hf⟩ := h
  obtain ⟨v', l, e, hl⟩ := open_ir hf
  simp [Value.cells] at e
  subst e
  exact ⟨l, hl⟩
theorem arg_acts {H : Type} {enc : TypeId × Value → H} {w : World} {base b0 : Nat} {r : Reach} {held : Bool} {v : Value} {d : DataW H} {p : List MemPlace} (hv : Value.okWide Try.prog w r b0 22 v) (h : DataW.Trod enc Try.prog w base (fun _ => true) held 22 v d p) : ∃ P, AR w v P := by
  obtain ⟨a, len, cap, rfl⟩ := okWide_slice Try.underlying22 hv
  obtain ⟨fuel, hf⟩ := h
  obtain ⟨v', l, e, hl⟩ := open_ar hf
  simp [Value.cells] at e
  subst e
  exact ⟨l, hl⟩
theorem arg_act {H : Type} {enc : TypeId × Value → H} {w : World} {base b0 : Nat} {r : Reach} {held : Bool} {v : Value} {d : DataW H} {p : List MemPlace} (hv : Value.okWide Try.prog w r b0 25 v) (h : DataW.Trod enc Try.prog w base (fun _ => true) held 25 v d p) : ∃ q : Aw, v = av q ∧ IR w q.2 q.1.tup := by
  obtain ⟨c0, c1, c2, y0, y1, y2, m, rfl, rfl, rfl, hy0, hy1, hy2⟩ := open_agg3 Try.underlying25 (by kernel_rfl) cells25 hv h
  obtain ⟨q0, e0, _, w0⟩ := DataW.trod_int Try.underlying3 hy0
  obtain ⟨v1, l, e1, hr⟩ := open_ir hy1
  obtain ⟨q2, e2, _, w2⟩ := DataW.trod_int Try.underlying3 hy2
  simp at e0 e1 e2
  subst e0 e1 e2
  exact ⟨(⟨q0, l, q2⟩, _), rfl, hr⟩
end Go.Proofs.Ytdcfaniimhjghaa
