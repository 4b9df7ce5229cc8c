/- Slices of calls as a law's argument. -/
import Derived.Test.YtfhbnkdibhmmcaaQN
namespace Go.Proofs.Ytfhbnkdibhmmcaa
open Go.ChangeShapes Go.WideShapes Go.ChangeAt Go.RowKit Go.Joins Go.Deep
set_option linter.unusedVariables false
set_option maxRecDepth 100000

/-- A call: what is called, a place, an id, values. -/
structure Ox where
  k : Int
  t : Int
  id : Int
  v : Value
  l : List Vl
/-- The slice v reads as these calls. -/
def OR (w : World) (v : Value) (L : List Ox) : Prop :=
  ∃ oa cap, v = .slice oa L.length cap ∧ L.length ≤ cap ∧ cap ≤ maxLen ∧ ∀ j x, L[j]? = some x → ∃ g o, oa = some ⟨g, o, none⟩ ∧ g < w.heap.size ∧ w.cell? ⟨g, o + j * 4, none⟩ = some (.int .i64 x.k) ∧ w.cell? ⟨g, o + j * 4 + 1, none⟩ = some (.int .i64 x.t) ∧ w.cell? ⟨g, o + j * 4 + 2, none⟩ = some (.int .i64 x.id) ∧ w.cell? ⟨g, o + j * 4 + 3, none⟩ = some x.v ∧ VR w x.v x.l ∧ I64 x.k ∧ I64 x.t ∧ I64 x.id
theorem OR.old {w w' : World} {v : Value} {L : List Ox} (h : OR w v L) (ho : Old w w') : OR w' v L := by
  obtain ⟨oa, cap, rfl, h1, h2, h3⟩ := h
  refine ⟨oa, cap, rfl, h1, h2, fun j x hj => ?_⟩
  obtain ⟨g, o, rfl, hg, c0, c1, c2, c3, hv, r⟩ := h3 j x hj
  exact ⟨g, o, rfl, Nat.lt_of_lt_of_le hg ho.size, (ho.cell hg).trans c0, (ho.cell hg).trans c1, (ho.cell hg).trans c2, (ho.cell hg).trans c3, hv.old ho, r⟩

section
variable {H : Type} {enc : TypeId × Value → H} {w : World} {base : Nat} {sp : Nat → Bool} {held : Bool}
theorem cells34 : Try.prog.cellsOf 34 = 4 := by kernel_rfl
theorem open_op {fuel : Nat} {cs : List Value} {x : DataW H × List MemPlace} (h : DataW.trod enc Try.prog w base (fun _ => true) held fuel 22 cs = some x) : ∃ v l, cs = [v] ∧ OR w v l := by
  rcases open_slice Try.underlying22 h with ⟨rfl, _⟩ | ⟨a, len, cap, m, n, D, Pl, rfl, _, hl, hm, hmm, _, hi⟩
  · exact ⟨_, [], rfl, none, 0, rfl, Nat.le_refl _, Nat.zero_le _, fun j x hj => by simp at hj⟩
  · simp only [if_true] at hmm
    subst hmm
    rw [cells34] at hi
    have key : ∀ i, i < len → ∃ x : Ox, w.cell? (a.add (i * 4)) = some (.int .i64 x.k) ∧ w.cell? ((a.add (i * 4)).add 1) = some (.int .i64 x.t) ∧ w.cell? ((a.add (i * 4)).add 2) = some (.int .i64 x.id) ∧ w.cell? ((a.add (i * 4)).add 3) = some x.v ∧ VR w x.v x.l ∧ I64 x.k ∧ I64 x.t ∧ I64 x.id := fun i hlt => by
      obtain ⟨cs', hc, ht⟩ := hi i (by omega)
      rw [← cells34] at hc
      obtain ⟨v0, z0, m0, c0, t0⟩ := part_at Try.underlying34 (by kernel_rfl) hc ht 0 _ rfl (by rw [cells34]; omega)
      obtain ⟨v1, z1, m1, c1, t1⟩ := part_at Try.underlying34 (by kernel_rfl) hc ht 1 _ rfl (by rw [cells34]; omega)
      obtain ⟨v2, z2, m2, c2, t2⟩ := part_at Try.underlying34 (by kernel_rfl) hc ht 2 _ rfl (by rw [cells34]; omega)
      obtain ⟨v3, z3, m3, c3, t3⟩ := part_at Try.underlying34 (by kernel_rfl) hc ht 3 _ rfl (by rw [cells34]; omega)
      obtain ⟨k, e0, _, wk⟩ := DataW.trod_int Try.underlying3 t0
      obtain ⟨t, e1, _, wt⟩ := DataW.trod_int Try.underlying3 t1
      obtain ⟨d, e2, _, wd⟩ := DataW.trod_int Try.underlying3 t2
      obtain ⟨v, l, e3, hr, _⟩ := open_vr t3
      simp at e0 e1 e2 e3
      subst e0 e1 e2 e3
      rw [cells34] at c0 c1 c2 c3
      exact ⟨⟨k, t, d, v3, l⟩, c0, c1, c2, c3, hr, bounds_i64 wk, bounds_i64 wt, bounds_i64 wd⟩
    obtain ⟨l, hll, hlq⟩ := ex_list len key
    subst hll
    refine ⟨_, l, rfl, some a, m, rfl, hl, hm, fun j x hj => ?_⟩
    obtain ⟨c0, c1, c2, c3, r⟩ := hlq j x hj
    have h0 : 0 < l.length := Nat.lt_of_le_of_lt (Nat.zero_le _) (List.getElem?_eq_some_iff.1 hj).1
    obtain ⟨y, hy⟩ : ∃ y, l[0]? = some y := ⟨l[0], List.getElem?_eq_getElem h0⟩
    have hsp := World.cell?_spot (hlq 0 y hy).1
    obtain ⟨b, o, spt⟩ := a
    have hsp' : spt = none := by simpa [Addr.add] using hsp
    subst hsp'
    rw [add_none] at c0 c1 c2 c3
    rw [add_none] at c1 c2 c3
    exact ⟨b, o, rfl, cell_lt c0, c0, c1, c2, c3, r⟩
end
theorem arg_op {H : Type} {enc : TypeId × Value → H} {w : World} {base b0 : Nat} {r : Reach} {held : Bool} {v : Value} {d : DataW H} {p : List MemPlace} (hv : Value.okWide Try.prog w r b0 22 v) (h : DataW.Trod enc Try.prog w base (fun _ => true) held 22 v d p) : ∃ l, OR w v l := by
  obtain ⟨a, len, cap, rfl⟩ := okWide_slice Try.underlying22 hv
  obtain ⟨fuel, hf⟩ := h
  obtain ⟨v', l, e, hl⟩ := open_op hf
  simp [Value.cells] at e
  subst e
  exact ⟨l, hl⟩

/-- A call that was boxed. -/
def Ob (w : World) (g : Nat) (x : Ox) : Prop := w.heap[g]? = some (.cells #[.int .i64 x.k, .int .i64 x.t, .int .i64 x.id, x.v] 34 (0, 0))
theorem Ob.old {w w' : World} {g : Nat} {x : Ox} (h : Ob w g x) (ho : Old w w') : Ob w' g x := (ho.block g (blk_lt h)).trans h
theorem Ob.c0 {w : World} {g : Nat} {x : Ox} (h : Ob w g x) : w.cell? ⟨g, 0, none⟩ = some (.int .i64 x.k) := by unfold Ob at h; simp [World.cell?, h]
theorem Ob.c1 {w : World} {g : Nat} {x : Ox} (h : Ob w g x) : w.cell? ⟨g, 1, none⟩ = some (.int .i64 x.t) := by unfold Ob at h; simp [World.cell?, h]
theorem Ob.c2 {w : World} {g : Nat} {x : Ox} (h : Ob w g x) : w.cell? ⟨g, 2, none⟩ = some (.int .i64 x.id) := by unfold Ob at h; simp [World.cell?, h]
theorem Ob.c3 {w : World} {g : Nat} {x : Ox} (h : Ob w g x) : w.cell? ⟨g, 3, none⟩ = some x.v := by unfold Ob at h; simp [World.cell?, h]
theorem Ob.new (w : World) (x : Ox) : Ob (w.alloc (.cells #[.int .i64 x.k, .int .i64 x.t, .int .i64 x.id, x.v] 34)) w.heap.size x := (MapKept.heap_alloc w _).1

end Go.Proofs.Ytfhbnkdibhmmcaa
