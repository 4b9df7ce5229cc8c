/- Layer memory: rows of calls joined; facts behind changes. -/
import Derived.Test.YtfhbnkdibhmmcaaQT
import Derived.Test.YtfhbnkdibhmmcaaQX
namespace Go.Proofs.Ytfhbnkdibhmmcaa
open Go.ChangeShapes Go.WideShapes Go.ChangeAt Go.RowKit Go.Lib
set_option linter.unusedVariables false
set_option linter.unusedSimpArgs false
set_option maxRecDepth 100000

def ocells : List Ox → List Value
  | [] => []
  | x :: l => .int .i64 x.k :: .int .i64 x.t :: .int .i64 x.id :: x.v :: ocells l
theorem ocells_len : ∀ l : List Ox, (ocells l).length = l.length * 4
  | [] => rfl
  | x :: l => by rw [ocells, List.length_cons, List.length_cons, List.length_cons, List.length_cons, List.length_cons, ocells_len l]; omega
theorem ocells_app : ∀ (a b : List Ox), ocells (a ++ b) = ocells a ++ ocells b
  | [], b => rfl
  | x :: a, b => by rw [List.cons_append, ocells, ocells_app a b]; rfl
theorem ocells_at : ∀ {l : List Ox} {i : Nat} {x : Ox}, l[i]? = some x → (ocells l)[i * 4]? = some (.int .i64 x.k) ∧ (ocells l)[i * 4 + 1]? = some (.int .i64 x.t) ∧ (ocells l)[i * 4 + 2]? = some (.int .i64 x.id) ∧ (ocells l)[i * 4 + 3]? = some x.v
  | [], i, x, h => by simp at h
  | y :: l, 0, x, h => by cases h; exact ⟨rfl, rfl, rfl, rfl⟩
  | y :: l, i + 1, x, h => by
    have ih := ocells_at (l := l) (i := i) (x := x) (by simpa using h)
    rw [show (i + 1) * 4 = i * 4 + 1 + 1 + 1 + 1 by omega]
    exact ih
theorem ocells_of : ∀ {l : List Ox} {j : Nat} {u : Value}, (ocells l)[j]? = some u → ∃ i x, l[i]? = some x ∧ ((j = i * 4 ∧ u = .int .i64 x.k) ∨ (j = i * 4 + 1 ∧ u = .int .i64 x.t) ∨ (j = i * 4 + 2 ∧ u = .int .i64 x.id) ∨ (j = i * 4 + 3 ∧ u = x.v))
  | [], j, u, h => by simp [ocells] at h
  | y :: l, 0, u, h => ⟨0, y, rfl, Or.inl ⟨rfl, by simpa [ocells] using h.symm⟩⟩
  | y :: l, 1, u, h => ⟨0, y, rfl, Or.inr (Or.inl ⟨rfl, by simpa [ocells] using h.symm⟩)⟩
  | y :: l, 2, u, h => ⟨0, y, rfl, Or.inr (Or.inr (Or.inl ⟨rfl, by simpa [ocells] using h.symm⟩))⟩
  | y :: l, 3, u, h => ⟨0, y, rfl, Or.inr (Or.inr (Or.inr ⟨rfl, by simpa [ocells] using h.symm⟩))⟩
  | y :: l, j + 4, u, h => by
    obtain ⟨i, x, hi, hx⟩ := ocells_of (l := l) (j := j) (u := u) (by simpa [ocells] using h)
    refine ⟨i + 1, x, by simpa using hi, ?_⟩
    rcases hx with ⟨rfl, rfl⟩ | ⟨rfl, rfl⟩ | ⟨rfl, rfl⟩ | ⟨rfl, rfl⟩
    · exact Or.inl ⟨by omega, rfl⟩
    · exact Or.inr (Or.inl ⟨by omega, rfl⟩)
    · exact Or.inr (Or.inr (Or.inl ⟨by omega, rfl⟩))
    · exact Or.inr (Or.inr (Or.inr ⟨by omega, rfl⟩))
theorem OR.cr {w : World} {v : Value} {l : List Ox} (h : OR w v l) : CR w v l.length 4 (ocells l) := by
  obtain ⟨oa, cap, rfl, h1, h2, h3⟩ := h
  refine ⟨oa, cap, rfl, h1, h2, ocells_len l, fun j u hj => ?_⟩
  obtain ⟨i, x, hi, hx⟩ := ocells_of hj
  obtain ⟨g, o, rfl, hg, c0, c1, c2, c3, _⟩ := h3 i x hi
  rcases hx with ⟨rfl, rfl⟩ | ⟨rfl, rfl⟩ | ⟨rfl, rfl⟩ | ⟨rfl, rfl⟩
  · exact ⟨g, o, rfl, hg, c0⟩
  · exact ⟨g, o, rfl, hg, c1⟩
  · exact ⟨g, o, rfl, hg, c2⟩
  · exact ⟨g, o, rfl, hg, c3⟩
theorem OR.els {w : World} {v : Value} {l : List Ox} (h : OR w v l) : ∀ x ∈ l, VR w x.v x.l := fun x hx => by
  obtain ⟨oa, cap, rfl, h1, h2, h3⟩ := h
  obtain ⟨j, hj⟩ := List.mem_iff_getElem?.1 hx
  obtain ⟨g, o, _, _, _, _, _, _, hv, _⟩ := h3 j x hj
  exact hv
theorem ocells_one {w : World} : ∀ (l : List Ox), (∀ x ∈ l, VR w x.v x.l) → ∀ u ∈ ocells l, u.oneCell' = true
  | [], _, u, h => by cases h
  | x :: l, hv, u, h => by
    simp only [ocells, List.mem_cons] at h
    rcases h with rfl | rfl | rfl | rfl | h
    · rfl
    · rfl
    · rfl
    · obtain ⟨oa, c, e, _⟩ := hv x (by simp)
      rw [e]
      rfl
    · exact ocells_one l (fun y hy => hv y (by simp [hy])) u h
theorem op_els {w : World} {oa : Option Addr} {n cap : Nat} {l : List Ox} (h : CR w (.slice oa n cap) n 4 (ocells l)) (hv : ∀ x ∈ l, VR w x.v x.l) : n ≤ cap ∧ cap ≤ maxLen ∧ ∀ j x, l[j]? = some x → ∃ g o, oa = some ⟨g, o, none⟩ ∧ g < w.heap.size ∧ w.cell? ⟨g, o + j * 4, none⟩ = some (.int .i64 x.k) ∧ w.cell? ⟨g, o + j * 4 + 1, none⟩ = some (.int .i64 x.t) ∧ w.cell? ⟨g, o + j * 4 + 2, none⟩ = some (.int .i64 x.id) ∧ w.cell? ⟨g, o + j * 4 + 3, none⟩ = some x.v ∧ VR w x.v x.l := by
  obtain ⟨oa', cap', e, h1, h2, _, h3⟩ := h
  simp only [Value.slice.injEq, true_and] at e
  obtain ⟨rfl, rfl⟩ := e
  refine ⟨h1, h2, fun j x hj => ?_⟩
  obtain ⟨a0, a1, a2, a3⟩ := ocells_at hj
  obtain ⟨g, o, rfl, hg, c0⟩ := h3 _ _ a0
  obtain ⟨g', o', e', _, c1⟩ := h3 _ _ a1
  obtain ⟨g'', o'', e'', _, c2⟩ := h3 _ _ a2
  obtain ⟨g''', o''', e''', _, c3⟩ := h3 _ _ a3
  simp only [Option.some.injEq, Addr.mk.injEq, and_true] at e' e'' e'''
  obtain ⟨rfl, rfl⟩ := e'
  obtain ⟨rfl, rfl⟩ := e''
  obtain ⟨rfl, rfl⟩ := e'''
  exact ⟨_, _, rfl, hg, c0, c1, c2, c3, hv x (List.mem_iff_getElem?.2 ⟨j, hj⟩)⟩
theorem own_from {w : World} {b n s : Nat} {e : TypeId} {v : Value} {cs : List Value} (h : w.ownsRow b e s v n cs) : ∀ k, v.ownBlock = some k → b ≤ k := fun k hk => by
  rcases h.2 with ⟨rfl, _⟩ | ⟨g, cap, cur, rfl, hb, _⟩
  · cases hk
  · cases hk
    exact hb
theorem info34 : (Try.prog.info? 34).map (fun i => (i.zero, i.size, i.bytes)) = some (some (.agg #[.int .i64 0, .int .i64 0, .int .i64 0, .slice none 0 0]), 4, 48) := by kernel_rfl

/-- Told facts stay over a change of blocks that hold no slices. -/
theorem RF.chg {S : Nat → Prop} {w w' : World} {r : Value} {L : List Ft} (h : RF w r L) (hc : Chg S w w') (hs : ∀ k o c, S k → w.cell? ⟨k, o, none⟩ ≠ some (.int .u8 c)) (hs' : ∀ k o a n c, S k → w.cell? ⟨k, o, none⟩ ≠ some (.slice a n c)) : RF w' r L := by
  obtain ⟨oa, cap, rfl, h1, h2, h3⟩ := h
  refine ⟨oa, cap, rfl, h1, h2, fun j x hj => ?_⟩
  obtain ⟨g, o, u, rfl, hg, c0, c1, c2, hv⟩ := h3 j x hj
  obtain ⟨a, c, e, _⟩ := id hv
  subst e
  have hb := hc.block g hg (fun e => hs' _ _ _ _ _ e c2)
  exact ⟨g, o, _, rfl, Nat.lt_of_lt_of_le hg hc.size, (World.cell?_of_block (w := w) hb).trans c0, (World.cell?_of_block (w := w) hb).trans c1, (World.cell?_of_block (w := w) hb).trans c2, hv.chg hc hs⟩
theorem Mem.noS {w : World} {p b lim last : Nat} {L : List Ft} (h : Mem w p b lim last L) : ∀ k o a n c, (k = p ∨ k = b) → w.cell? ⟨k, o, none⟩ ≠ some (.slice a n c) := by
  obtain ⟨E, _, h⟩ := h
  rintro k o a n c (rfl | rfl) e
  · have hob := h.obj
    rcases o with _ | _ | _ | o <;> simp [World.cell?, hob] at e
  · obtain ⟨es, clock, hb, _⟩ := h.own
    simp [World.cell?, hb] at e
theorem new_far (w : World) : Calls Try.prog 10 #[.int .i64 200] w fun e w' => (∃ p b, e = .returned (.tuple #[.pointer (some ⟨p, 0, none⟩), .int .i64 0]) ∧ Mem w' p b 200 0 [] ∧ w.heap.size ≤ p ∧ w.heap.size ≤ b) ∧ Old w w' := by
  have h : Calls Try.prog 10 #[.int .i64 200] w fun e w' => e = .returned (.tuple #[.pointer (some ⟨w.heap.size + 1, 0, none⟩), .int .i64 0]) ∧ Mem w' (w.heap.size + 1) w.heap.size 200 0 [] ∧ Old w w' := new_any 200 (by omega) (by omega) w
  refine h.mono ?_
  rintro e w' ⟨rfl, hm, ho⟩
  exact ⟨⟨_, _, rfl, hm, Nat.le_succ _, Nat.le_refl _⟩, ho⟩
theorem facts_rf {w : World} {p b lim last : Nat} {L : List Ft} (h : Mem w p b lim last L) : Calls Try.prog 20 #[.pointer (some ⟨p, 0, none⟩)] w fun e w' => (∃ r, e = .returned r ∧ RF w' r L) ∧ Old w w' := by
  refine (facts_any h).mono ?_
  rintro e w' ⟨⟨r, rfl, hr⟩, ho⟩
  exact ⟨⟨r, rfl, hr.rf⟩, ho⟩
theorem RF.shape {w : World} {r : Value} {L : List Ft} (h : RF w r L) : ∃ oa cap, r = .slice oa L.length cap := by
  obtain ⟨oa, cap, rfl, _⟩ := h
  exact ⟨oa, cap, rfl⟩
/-- What was told, as a word for a slot. -/
def sRF (L : List Ft) : Sp := ⟨fun v w => RF w v L, fun v x y ho h => h.old ho⟩

end Go.Proofs.Ytfhbnkdibhmmcaa
