/- Rows of digits in memory: what it means that a slice reads as one, and that what was there before a call is as it was. -/
import Derived.Test.YtmoomdikgfeifaaG
import Derived.Test.YtmoomdikgfeifaaRM
import Derived.OwnWalk
import Derived.Below
namespace Go.Proofs.Ytmoomdikgfeifaa
open Go.ChangeShapes Go.WideShapes Go.ChangeAt Go.RowKit Go.Lib
set_option linter.unusedVariables false

/-- What was there is as it was. -/
structure Old (w w' : World) : Prop where
  os : w'.os = w.os
  output : w'.output = w.output
  size : w.heap.size ≤ w'.heap.size
  block : ∀ k, k < w.heap.size → w'.heap[k]? = w.heap[k]?
theorem Old.refl (w : World) : Old w w := ⟨rfl, rfl, Nat.le_refl _, fun _ _ => rfl⟩
theorem Old.trans {a b c : World} (h : Old a b) (k : Old b c) : Old a c :=
  ⟨k.os.trans h.os, k.output.trans h.output, Nat.le_trans h.size k.size, fun i hi => (k.block i (Nat.lt_of_lt_of_le hi h.size)).trans (h.block i hi)⟩
theorem Old.ofBelow {B : Nat} {w w' : World} (h : Below B w w') (hB : w.heap.size ≤ B) : Old w w' := ⟨h.os, h.output, h.size, fun k hk => h.block k (by omega)⟩
theorem Old.drew {a w : World} (h : Old a w) : Old a w.drew := ⟨h.os, h.output, h.size, h.block⟩
theorem Old.drewN {a w : World} (h : Old a w) (n : Nat) : Old a (w.drewN n) := ⟨h.os, h.output, h.size, h.block⟩
theorem Old.alloc {a w : World} (h : Old a w) (o : Obj) : Old a (w.alloc o) :=
  h.trans ⟨rfl, rfl, by simp, fun k hk => Below.heap_alloc _ _ _ (by omega)⟩
theorem Old.setCell {a w : World} (h : Old a w) {p : Addr} (hp : a.heap.size ≤ p.block) (u : Value) : Old a (w.setCell p u) :=
  ⟨h.os, h.output, by have := h.size; simp [World.setCell]; exact this, fun k hk => (Below.heap_setCell _ _ _ _ (by omega)).trans (h.block k hk)⟩
theorem Old.grown {a w w' : World} {row : Option Nat} (h : Old a w) (hg : w.grownBy w' row) (hr : ∀ k, row = some k → a.heap.size ≤ k) : Old a w' :=
  ⟨hg.os.trans h.os, hg.output.trans h.output, Nat.le_trans h.size hg.size, fun k hk => (hg.block k (Nat.lt_of_lt_of_le hk h.size) (fun e => by have := hr k e.symm; omega)).trans (h.block k hk)⟩
theorem Old.cell {w w' : World} (h : Old w w') {p : Addr} (hp : p.block < w.heap.size) : w'.cell? p = w.cell? p := World.cell?_of_block (w := w) (h.block p.block hp)
theorem Old.frozen {w w' : World} (h : Old w w') {p : Addr} (hp : p.block < w.heap.size) : w'.frozen? p = w.frozen? p := World.frozen?_of_block (w := w) (h.block p.block hp)
theorem Old.frame {W w' : World} (h : Old W w') (may : MemPlace → Prop) : W.keptBut w' may := by
  refine ⟨h.os, h.output, fun i hi => ?_⟩
  rw [h.block i hi]
  split <;> simp_all
theorem Old.ofGrown {w w' : World} (h : Grown w w') : Old w w' := by
  obtain ⟨⟨h1, h2, h3⟩, _, h5⟩ := h
  refine ⟨h1, h2, h5, fun k hk => ?_⟩
  have h4 := h3 k hk
  revert h4
  cases hw : w.heap[k]? with
  | none => have := Array.getElem?_eq_none_iff.1 hw; omega
  | some o =>
    cases hw' : w'.heap[k]? with
    | none => have := Array.getElem?_eq_none_iff.1 hw'; omega
    | some o' =>
      cases o <;> cases o' <;> intro h4
      all_goals first
        | (obtain ⟨rfl, rfl, h6, h7⟩ := h4
           refine congrArg some (congrArg (fun c => Obj.cells c _ _) (Array.ext_getElem? fun j => ?_))
           exact h7 j (fun f => f))
        | (rcases h4 with h4 | ⟨rfl, rfl⟩
           · exact h4.elim
           · rfl)
        | exact h4

/-- The slice v reads as the row ds. -/
def Rd (w : World) (v : Value) (ds : List Int) : Prop :=
  ∃ oa cap, v = .slice oa ds.length cap ∧ ds.length ≤ cap ∧ cap ≤ maxLen ∧ ∀ j, j < ds.length → ∃ g, oa = some ⟨g, 0, none⟩ ∧ g < w.heap.size ∧ w.cell? ⟨g, j, none⟩ = some (.int .i64 (ds.getD j 0))
theorem Rd.old {w w' : World} {v : Value} {ds : List Int} (h : Rd w v ds) (ho : Old w w') : Rd w' v ds := by
  obtain ⟨oa, cap, rfl, h1, h2, h3⟩ := h
  refine ⟨oa, cap, rfl, h1, h2, fun j hj => ?_⟩
  obtain ⟨g, rfl, hg, hc⟩ := h3 j hj
  exact ⟨g, rfl, Nat.lt_of_lt_of_le hg ho.size, (ho.cell hg).trans hc⟩
theorem Rd.nil (w : World) : Rd w (.slice none 0 0) [] := ⟨none, 0, rfl, Nat.le_refl _, Nat.zero_le _, fun j hj => absurd hj (Nat.not_lt_zero _)⟩
theorem Rd.take {w : World} {oa : Option Addr} {cap : Nat} {ds : List Int} (h1 : ds.length ≤ cap) (h2 : cap ≤ maxLen)
    (h3 : ∀ j, j < ds.length → ∃ g, oa = some ⟨g, 0, none⟩ ∧ g < w.heap.size ∧ w.cell? ⟨g, j, none⟩ = some (.int .i64 (ds.getD j 0))) {k : Nat} (hk : k ≤ ds.length) : Rd w (.slice oa k cap) (ds.take k) := by
  have hl : (ds.take k).length = k := by rw [List.length_take]; omega
  refine ⟨oa, cap, by rw [hl], by omega, h2, fun j hj => ?_⟩
  obtain ⟨g, h4, h5, h6⟩ := h3 j (by omega)
  refine ⟨g, h4, h5, h6.trans ?_⟩
  rw [List.getD_eq_getElem?_getD, List.getD_eq_getElem?_getD, List.getElem?_take_of_lt (by omega)]
theorem Rd.of_owns {w : World} {base : Nat} {v : Value} {ds : List Int} {n : Nat} (h : w.ownsRow base 3 1 v n (ds.map (Value.int .i64))) : Rd w v ds := by
  have hl := h.1
  rw [List.length_map, Nat.mul_one] at hl
  subst hl
  rcases h.2 with ⟨rfl, hn⟩ | ⟨g, cap, cur, rfl, hb, hw, hc, hm, hs, ht⟩
  · rw [List.length_eq_zero_iff] at hn; subst hn; exact Rd.nil w
  · refine ⟨some ⟨g, 0, none⟩, cap, rfl, hc, hm, fun j hj => ⟨g, rfl, ?_, ?_⟩⟩
    · rcases Nat.lt_or_ge g w.heap.size with h1 | h1
      · exact h1
      · rw [Array.getElem?_eq_none h1] at hw; cases hw
    · rw [h.cellAt j (by omega), List.getElem?_map, List.getD_eq_getElem?_getD, List.getElem?_eq_getElem hj]; rfl
/-- It returns a slice that reads as the row ds. -/
def RetD (w : World) (ds : List Int) (e : Ending) (w' : World) : Prop := ∃ v, e = .returned v ∧ Rd w' v ds ∧ Old w w'

theorem new_one (wr : World) (x : Value) (T : TypeId) : ∀ j u, [x][j]? = some u → (wr.alloc (.cells #[x] T)).cell? ((⟨wr.heap.size, 0, none⟩ : Addr).add j) = some u := by
  intro j u hj
  match j, hj with
  | 0, hj => simp at hj; subst hj; simp [Addr.add]
theorem one_int (x : Int) : ∀ u ∈ [Value.int .i64 x], u.oneCell' = true := by
  intro u hu; simp at hu; subst hu; rfl
/-- Block b is a number's two cells. -/
def Two (w : World) (b : Nat) (u v : Value) : Prop := w.heap[b]? = some (.cells #[u, v] 47 (0, 0))
theorem Two.c0 {w : World} {b : Nat} {u v : Value} (h : Two w b u v) : w.cell? ⟨b, 0, none⟩ = some u := by unfold Two at h; simp [World.cell?, h]
theorem Two.c1 {w : World} {b : Nat} {u v : Value} (h : Two w b u v) : w.cell? ⟨b, 1, none⟩ = some v := by unfold Two at h; simp [World.cell?, h]
theorem Two.f {w : World} {b : Nat} {u v : Value} (h : Two w b u v) (o : Nat) : w.frozen? ⟨b, o, none⟩ = false := by unfold Two at h; simp [World.frozen?, h]
theorem Two.lt {w : World} {b : Nat} {u v : Value} (h : Two w b u v) : b < w.heap.size := by
  unfold Two at h
  rcases Nat.lt_or_ge b w.heap.size with h' | h'
  · exact h'
  · rw [Array.getElem?_eq_none h'] at h; cases h
theorem Two.alloc {w : World} {b : Nat} {u v : Value} (h : Two w b u v) (o : Obj) : Two (w.alloc o) b u v := (Below.heap_alloc w o b h.lt).trans h
theorem Two.new (w : World) (u v : Value) : Two (w.alloc (.cells #[u, v] 47)) w.heap.size u v := (MapKept.heap_alloc w _).1
theorem Two.old {w w' : World} {b : Nat} {u v : Value} (h : Two w b u v) (ho : Old w w') : Two w' b u v := (ho.block b h.lt).trans h
theorem Two.grown {w w' : World} {b : Nat} {u v : Value} {row : Option Nat} (h : Two w b u v) (hg : w.grownBy w' row) (hr : row ≠ some b) : Two w' b u v := (hg.block b h.lt (fun e => hr e.symm)).trans h
theorem info3 : (Try.prog.info? 3).map (fun i => (i.zero, i.size, i.bytes)) = some (some (.int .i64 0), 1, 8) := by kernel_rfl

end Go.Proofs.Ytmoomdikgfeifaa
