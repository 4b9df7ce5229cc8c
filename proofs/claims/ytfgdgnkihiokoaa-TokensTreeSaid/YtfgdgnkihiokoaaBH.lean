/- The arena: New, Get, Add. -/
import Derived.Test.YtfgdgnkihiokoaaBG
import Derived.Deep.Cut
namespace Go.Proofs.Ytfgdgnkihiokoaa
open Go.ChangeShapes Go.WideShapes Go.ChangeAt Go.RowKit Go.Lib
set_option linter.unusedVariables false
set_option linter.unusedSimpArgs false
set_option maxRecDepth 100000

theorem TurnA.ar {w w' : World} {b : Bs} {A : Nat → Prop} {L : List Tk} {last cap : Nat} (h : TurnA w b A L last cap w') : ∃ A', Ar w' b A' L last cap ∧ Stp w w' A A' := by
  obtain ⟨⟨A', h1, h2⟩, h3⟩ := h
  exact ⟨A', h1, h2, h3⟩
theorem Ar.lt {w : World} {b : Bs} {A : Nat → Prop} {L : List Tk} {last cap : Nat} (h : Ar w b A L last cap) {j : Nat} (hj : A j) : j < w.heap.size := by
  obtain ⟨K, N, F, h, rfl⟩ := h
  exact h.lt hj
theorem Ar.old {w w' : World} {b : Bs} {A : Nat → Prop} {L : List Tk} {last cap : Nat} (h : Ar w b A L last cap) (ho : Old w w') : Ar w' b A L last cap := by
  obtain ⟨K, N, F, h, rfl⟩ := h
  exact ⟨K, N, F, h.old ho, rfl⟩
theorem Ar.chg {S : Nat → Prop} {w w' : World} {b : Bs} {A : Nat → Prop} {L : List Tk} {last cap : Nat} (h : Ar w b A L last cap) (hc : Chg S w w') (hs : ∀ j, A j → ¬ S j) : Ar w' b A L last cap := by
  obtain ⟨K, N, F, h, rfl⟩ := h
  exact ⟨K, N, F, h.chg hc hs, rfl⟩
theorem Ar.made {w : World} {b : Bs} {A : Nat → Prop} {L : List Tk} {last cap : Nat} (h : Ar w b A L last cap) : Calls Try.prog 21 #[ptr b] w fun e w' => e = .returned (.bool true) ∧ w = w' := by
  obtain ⟨K, N, F, h, rfl⟩ := h
  exact made_any h
theorem Ar.len {w : World} {b : Bs} {A : Nat → Prop} {L : List Tk} {last cap : Nat} (h : Ar w b A L last cap) : Calls Try.prog 9 #[ptr b] w fun e w' => e = .returned (.int .i64 (L.length : Int)) ∧ w = w' := by
  obtain ⟨K, N, F, h, rfl⟩ := h
  have := len_any h
  rwa [te, List.length_map] at this
theorem Stp.trans {w W W' : World} {A A' A'' : Nat → Prop} (h : Stp w W A A') (k : Stp W W' A' A'') : Stp w W' A A'' := h.next k.grow k.chg (fun _ e => e)
/-- Where an arena came with the call, what was there is as it was. -/
theorem Stp.toOld {w W W' : World} {A A' : Nat → Prop} (ho : Old w W) (h : Stp W W' A A') (hA : ∀ j, A j → w.heap.size ≤ j) : Old w W' ∧ ∀ j, A' j → w.heap.size ≤ j :=
  ⟨h.chg.old ho hA, fun j e => (h.grow j e).elim (hA j) (fun e => Nat.le_trans ho.size e)⟩

abbrev newB (s : Nat) : Bs := ⟨s + 4, s, s + 1, s + 2, s + 3⟩
theorem new_raw (w : World) : ArG (((((w.alloc (.map #[] 0)).alloc (.map #[] 0)).alloc (.map #[] 0)).alloc (.map #[] 0)).alloc (.cells #[.int .i64 0, .map (some w.heap.size), .map (some (w.heap.size + 1)), .map (some (w.heap.size + 2)), .map (some (w.heap.size + 3))] 53)) (newB w.heap.size) (· = w.heap.size + 1) (· = w.heap.size + 2) (· = w.heap.size + 3) 0 (te []) (pk []) (pn []) (pf []) 0 := by
  have m1 : (w.alloc (.map #[] 0)).ownsMap Try.prog 3 Rm w.heap.size 0 (Dz (te [])) := World.ownsMap_made w Try.prog 3 Rm
  have m2 := IxE.made (w.alloc (.map #[] 0))
  have m3 := IxE.made ((w.alloc (.map #[] 0)).alloc (.map #[] 0))
  have m4 := IxE.made (((w.alloc (.map #[] 0)).alloc (.map #[] 0)).alloc (.map #[] 0))
  simp only [sz_alloc] at m2 m3 m4
  have o : ∀ (W : World) (x : Obj), Chg (fun _ => False) W (W.alloc x) := fun W x => Chg.ofOld ((Old.refl W).alloc x)
  refine ⟨?_, own_chg (own_chg (own_chg (own_chg m1 (o _ _) (fun e => e)) (o _ _) (fun e => e)) (o _ _) (fun e => e)) (o _ _) (fun e => e), ((m2.chg (o _ _) (fun _ _ e => e)).chg (o _ _) (fun _ _ e => e)).chg (o _ _) (fun _ _ e => e), (m3.chg (o _ _) (fun _ _ e => e)).chg (o _ _) (fun _ _ e => e), m4.chg (o _ _) (fun _ _ e => e), ?_, ?_, ?_, ?_, ?_, ?_⟩
  · have := (MapKept.heap_alloc ((((w.alloc (.map #[] 0)).alloc (.map #[] 0)).alloc (.map #[] 0)).alloc (.map #[] 0)) (.cells #[.int .i64 0, .map (some w.heap.size), .map (some (w.heap.size + 1)), .map (some (w.heap.size + 2)), .map (some (w.heap.size + 3))] 53)).1
    simp only [sz_alloc] at this
    exact this
  · intro e; have e : w.heap.size = w.heap.size + 1 := e; omega
  · intro e; have e : w.heap.size = w.heap.size + 2 := e; omega
  · intro e; have e : w.heap.size = w.heap.size + 3 := e; omega
  · intro j e e2; have e : j = w.heap.size + 1 := e; have e2 : j = w.heap.size + 2 := e2; omega
  · intro j e e2; have e : j = w.heap.size + 1 := e; have e2 : j = w.heap.size + 3 := e2; omega
  · intro j e e2; have e : j = w.heap.size + 2 := e; have e2 : j = w.heap.size + 3 := e2; omega
theorem root64 : T64 rootT := ⟨by decide, by decide, by decide, by decide⟩
theorem new_any (w : World) : Calls Try.prog 8 #[] w fun e w' => e = .returned (ptr (newB w.heap.size)) ∧ (∃ A, Ar w' (newB w.heap.size) A [rootT] 0 4 ∧ ∀ j, A j → w.heap.size ≤ j) ∧ Old w w' := by
  have hA : Ar (((((w.alloc (.map #[] 0)).alloc (.map #[] 0)).alloc (.map #[] 0)).alloc (.map #[] 0)).alloc (.cells #[.int .i64 0, .map (some w.heap.size), .map (some (w.heap.size + 1)), .map (some (w.heap.size + 2)), .map (some (w.heap.size + 3))] 53)) (newB w.heap.size) _ [] 0 0 := ⟨_, _, _, new_raw w, rfl⟩
  have hp : Calls Try.prog 20 #[.pointer (some ⟨w.heap.size + 4, 0, none⟩), .agg #[.int .i64 0, .int .i64 (-1), .int .i64 0, .int .i64 0]] _ fun e w' => e = .returned (.tuple #[]) ∧ TurnA _ (newB w.heap.size) _ [rootT] 0 4 w' := put_any hA rootT root64 (by simp) (by omega)
  have HO := Lib.hid ((((((Old.refl w).alloc (.map #[] 0)).alloc (.map #[] 0)).alloc (.map #[] 0)).alloc (.map #[] 0)).alloc (.cells #[.int .i64 0, .map (some w.heap.size), .map (some (w.heap.size + 1)), .map (some (w.heap.size + 2)), .map (some (w.heap.size + 3))] 53))
  have hmm := @run_makeMap Try.prog
  have hB : ∀ j, Al (newB w.heap.size) (· = w.heap.size + 1) (· = w.heap.size + 2) (· = w.heap.size + 3) j → w.heap.size ≤ j := fun j e => by
    rcases e with e | e | e | e | e
    · have e : j = w.heap.size + 4 := e; omega
    · have e : j = w.heap.size := e; omega
    · have e : j = w.heap.size + 1 := e; omega
    · have e : j = w.heap.size + 2 := e; omega
    · have e : j = w.heap.size + 3 := e; omega
  have HB := Lib.hid hB
  clear hA hB
  go_enter Try.func8, Try.ntmps8
  go_wp2_with (go_at_call 20; (with_reducible refine hp.mono ?_); rintro e w1 ⟨rfl, ht⟩; have HT := Lib.hid ht; clear ht)
  go_ret
  obtain ⟨A', h1, h2⟩ := HT.out.ar
  obtain ⟨h3, h4⟩ := h2.toOld HO.out HB.out
  exact ⟨rfl, ⟨A', h1, h4⟩, h3⟩

/-! Get -/
theorem get_nil (i : Int) (w : World) : Calls Try.prog 11 #[.pointer none, .int .i64 i] w fun e w' => e = .returned (.tuple #[tv noTk, .bool false]) ∧ Old w w' := by
  have HO := Lib.hid ((Old.refl w).alloc (.cells #[.int .i64 0, .int .i64 0, .int .i64 0, .int .i64 0] 32))
  have HB := Tb.new w noTk
  go_enter Try.func11, Try.ntmps11
  go_wp2_with (go_at_call 21; (with_reducible refine (made_nil _).mono ?_); rintro e w1 ⟨rfl, rfl⟩)
  exact bodyPost_ret (ret_tok2 rfl _ _ w.heap.size rfl rfl HB) rfl ⟨rfl, HO.out⟩
theorem get_any {w : World} {b : Bs} {A : Nat → Prop} {L : List Tk} {last cap : Nat} (h : Ar w b A L last cap) (hu : L.Pairwise (fun x y => x.id < y.id)) {i : Int} (hi : I64 i) :
    Calls Try.prog 11 #[ptr b, .int .i64 i] w fun e w' => e = .returned (.tuple #[tv ((getT L i).getD noTk), .bool (getT L i).isSome]) ∧ Old w w' := by
  obtain ⟨K, N, F, h, rfl⟩ := h
  have HO := Lib.hid ((Old.refl w).alloc (.cells #[.int .i64 0, .int .i64 0, .int .i64 0, .int .i64 0] 32))
  have h1 := h.old HO.out
  have hm := made_any h1
  have c1 := h1.cells.2.1
  have hl := (tok_look h1.tok hu hi).2
  generalize (getT L i).getD noTk = t at hl ⊢
  generalize (getT L i).isSome = o at hl ⊢
  clear h1 h
  go_enter Try.func11, Try.ntmps11
  go_wp2_with (go_at_call 21; (with_reducible refine hm.mono ?_); rintro e w1 ⟨rfl, rfl⟩)
  have HB := Lib.hid ((Tb.new w t).old ((Old.refl _).alloc (.cells #[.int .i64 t.id, .int .i64 t.par, .int .i64 t.node, .int .i64 t.fact] 32)))
  exact bodyPost_ret (ret_tok2 (t := t) rfl _ _ w.heap.size rfl rfl HB.out) rfl ⟨rfl, ((Old.refl w).alloc _).alloc _⟩

/-! Add -/
/-- The last number goes up. -/
theorem ArG.bump {w : World} {b : Bs} {K N F : Nat → Prop} {last : Int} {T : List (Int × Value)} {PK PN PF : Prs} {cap : Nat} (h : ArG w b K N F last T PK PN PF cap) (u : Int) : ArG (w.setCell ⟨b.p, 0, none⟩ (.int .i64 u)) b K N F u T PK PN PF cap := by
  have hc := Chg.ofSet w ⟨b.p, 0, none⟩ (.int .i64 u)
  have ne : ∀ j, (∃ es clock, w.heap[j]? = some (.map es clock)) → j ≠ b.p := fun j hm e => h.pNot hm e.symm
  refine ⟨?_, own_chg h.tok hc (ne _ h.tMap), h.kids.chg hc (fun j hj => ne j (h.kids.isMap hj)), h.nodes.chg hc (fun j hj => ne j (h.nodes.isMap hj)), h.facts.chg hc (fun j hj => ne j (h.facts.isMap hj)), h.tk, h.tn, h.tf, h.kn, h.kf, h.nf⟩
  have hob := h.obj
  show (w.heap.modify b.p _)[b.p]? = _
  rw [Array.getElem?_modify, if_pos rfl, hob]
  simp
theorem add_nil (p n f : Int) (w : World) : Calls Try.prog 12 #[.pointer none, .int .i64 p, .int .i64 n, .int .i64 f] w fun e w' => e = .returned (.tuple #[.int .i64 0, .int .i64 1]) ∧ w = w' := by
  go_enter Try.func12, Try.ntmps12
  go_wp2_with (go_at_call 21; (with_reducible refine (made_nil _).mono ?_); rintro e w1 ⟨rfl, rfl⟩)
  go_ret2
  exact ⟨rfl, rfl⟩
/-- There is no such parent. -/
theorem add_none {w : World} {b : Bs} {A : Nat → Prop} {L : List Tk} {last cap : Nat} (h : Ar w b A L last cap) (hu : L.Pairwise (fun x y => x.id < y.id)) {p : Int} (hp : I64 p) (n f : Int) (hno : getT L p = none) :
    Calls Try.prog 12 #[ptr b, .int .i64 p, .int .i64 n, .int .i64 f] w fun e w' => e = .returned (.tuple #[.int .i64 0, .int .i64 5]) ∧ Old w w' := by
  have hm := h.made
  obtain ⟨K, N, F, h, rfl⟩ := h
  have c1 := h.cells.2.1
  have hl := (tok_look h.tok hu hp).2
  rw [hno] at hl
  clear h
  go_enter Try.func12, Try.ntmps12
  go_wp2_with (go_at_call 21; (with_reducible refine hm.mono ?_); rintro e w1 ⟨rfl, rfl⟩)
  go_ret2
  exact ⟨rfl, (Old.refl w).alloc _⟩
/-- A node, or a fact, below 0. -/
theorem add_arg {w : World} {b : Bs} {A : Nat → Prop} {L : List Tk} {last cap : Nat} (h : Ar w b A L last cap) (hu : L.Pairwise (fun x y => x.id < y.id)) {p : Int} (hp : I64 p) (n f : Int) (hno : getT L p ≠ none) (hnf : n < 0 ∨ f < 0) :
    Calls Try.prog 12 #[ptr b, .int .i64 p, .int .i64 n, .int .i64 f] w fun e w' => e = .returned (.tuple #[.int .i64 0, .int .i64 2]) ∧ Old w w' := by
  have hm := h.made
  obtain ⟨K, N, F, h, rfl⟩ := h
  have c1 := h.cells.2.1
  have hl := (tok_look h.tok hu hp).2
  obtain ⟨t, ht⟩ := Option.ne_none_iff_exists'.1 hno
  rw [ht] at hl
  clear h ht hno
  rcases Int.lt_or_le n 0 with h1 | h1
  · clear hnf
    go_enter Try.func12, Try.ntmps12
    go_wp2_with (go_at_call 21; (with_reducible refine hm.mono ?_); rintro e w1 ⟨rfl, rfl⟩)
    go_ret2
    exact ⟨rfl, (Old.refl w).alloc _⟩
  · have h2 : f < 0 := by omega
    clear hnf
    go_enter Try.func12, Try.ntmps12
    go_wp2_with (go_at_call 21; (with_reducible refine hm.mono ?_); rintro e w1 ⟨rfl, rfl⟩)
    go_ret2
    exact ⟨rfl, (Old.refl w).alloc _⟩
theorem add_any {w : World} {b : Bs} {A : Nat → Prop} {L : List Tk} {last cap : Nat} (h : Ar w b A L last cap) (hg : Good L last) {p n f : Int} (hp : I64 p) (hn : I64 n) (hf : I64 f) (hno : getT L p ≠ none) (hn0 : 0 ≤ n) (hf0 : 0 ≤ f) (hcap : cap + 4 < 1000000) (hlast : last < 1000000) :
    Calls Try.prog 12 #[ptr b, .int .i64 p, .int .i64 n, .int .i64 f] w fun e w' => e = .returned (.tuple #[.int .i64 ((last : Int) + 1), .int .i64 0]) ∧ TurnA w b A (L ++ [⟨(last : Int) + 1, p, n, f⟩]) (last + 1) (cap + 4) w' := by
  have hm := h.made
  obtain ⟨K, N, F, h, rfl⟩ := h
  have c1 := h.cells.2.1
  have hl := (tok_look h.tok hg.up hp).2
  obtain ⟨t, ht⟩ := Option.ne_none_iff_exists'.1 hno
  rw [ht] at hl
  have HA := Lib.hid (h.old ((Old.refl w).alloc (.cells #[.int .i64 t.id, .int .i64 t.par, .int .i64 t.node, .int .i64 t.fact] 32)))
  have HG := Lib.hid hg
  have H64 : Hid (T64 ⟨(last : Int) + 1, p, n, f⟩) := Lib.hid ⟨by unfold I64; simp only []; omega, hp, hn, hf⟩
  have h1 : (0 : Int) ≤ n := hn0
  have h2 : (0 : Int) ≤ f := hf0
  have d1 : decide (n < 0) = false := by simpa using hn0
  have d2 : decide (f < 0) = false := by simpa using hf0
  have HS0 := Lib.hid (Stp.ofOld (Al b K N F) ((Old.refl w).alloc (.cells #[.int .i64 t.id, .int .i64 t.par, .int .i64 t.node, .int .i64 t.fact] 32)))
  clear h ht hno hg
  go_enter Try.func12, Try.ntmps12
  go_upto_region 8 with (go_at_call 21; (with_reducible refine hm.mono ?_); rintro e w1 ⟨rfl, rfl⟩)
  generalize w.alloc (.cells #[.int .i64 t.id, .int .i64 t.par, .int .i64 t.node, .int .i64 t.fact] 32) = W0 at *
  have c0 := HA.out.cells.1
  have f0 := HA.out.frozen 0
  have b1 : (last : Int) < 1000000 := by omega
  have b2 : (0 : Int) ≤ (last : Int) := by omega
  have hcast : ((last + 1 : Nat) : Int) = (last : Int) + 1 := by omega
  have hb := HA.out.bump ((last : Int) + 1)
  rw [← hcast] at hb
  have hA1 : Ar (W0.setCell ⟨b.p, 0, none⟩ (.int .i64 ((last + 1 : Nat) : Int))) b _ L (last + 1) cap := ⟨K, N, F, hb, rfl⟩
  have hp := put_any hA1 ⟨(last : Int) + 1, p, n, f⟩ H64.out (fun x hx => by have := (HG.out.low x hx).2; simp only []; omega) hcap
  rw [hcast] at hp
  have hS : Stp W0 (W0.setCell ⟨b.p, 0, none⟩ (.int .i64 ((last : Int) + 1))) (Al b K N F) (Al b K N F) := ⟨fun j e => Or.inl e, (Chg.ofSet W0 ⟨b.p, 0, none⟩ _).mono (fun k e => Or.inl e)⟩
  have HP := Lib.hid hp
  have HS := Lib.hid (HS0.out.trans hS)
  have HC := Lib.hid hcast
  clear hb hA1 hp hS hcast
  go_wp2_with (go_at_call 20; (with_reducible refine HP.out.mono ?_); rintro e W2 ⟨rfl, ht⟩; obtain ⟨A', ha, hs⟩ := ht.ar; have H2 := Lib.hid ha; have HS2 := Lib.hid (HS.out.trans hs); clear ha hs ht; obtain ⟨K2, N2, F2, h2, e2⟩ := id H2.out; have c2 := h2.cells.1; rw [HC.out] at c2; clear h2)
  go_ret2
  exact ⟨rfl, ⟨A', H2.out, HS2.out.grow⟩, HS2.out.chg⟩
end Go.Proofs.Ytfgdgnkihiokoaa
