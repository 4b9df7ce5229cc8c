/- The arena: Tuple. -/
import Derived.Test.YtfgdgnkihiokoaaBJ
import Derived.Deep.Cut
import Derived.Deep.CutBlock
import Derived.StillTailTactics
namespace Go.Proofs.Ytfgdgnkihiokoaa
open Go.ChangeShapes Go.WideShapes Go.ChangeAt Go.RowKit Go.Lib
set_option linter.unusedVariables false
set_option linter.unusedSimpArgs false
set_option maxRecDepth 100000

theorem tuple_nil (i : Int) (w : World) : Calls Try.prog 14 #[.pointer none, .int .i64 i] w fun e w' => e = .returned (.slice none 0 0) ∧ w = w' := by
  go_enter Try.func14, Try.ntmps14
  go_wp2_with (go_at_call 21; (with_reducible refine (made_nil _).mono ?_); rintro e w1 ⟨rfl, rfl⟩)
  go_ret
  exact ⟨rfl, rfl⟩
/-- The number in a token's box, behind a pointer. -/
def boxId (s : Value) (w : World) : Nat := match s with
  | .pointer (some a) => (match w.cell? a with | some (.int _ z) => z.toNat | _ => 0)
  | _ => 0
theorem boxId_eq {w : World} {g : Nat} {t : Tk} (h : Tb w g t) : boxId (.pointer (some ⟨g, 0, none⟩)) w = t.id.toNat := by
  simp only [boxId, h.cells.1]
/-- On the way: the token whose fact comes next, and the facts behind it, the last one first. -/
structure Way (w wr : World) (L : List Tk) (i : Int) (oa : Option Addr) (n cap g : Nat) (t : Tk) (l : List Int) : Prop where
  box : Tb wr g t
  base : w.heap.size ≤ g
  row : Ints wr w.heap.size (.slice oa n cap) l
  len : n = l.length
  old : Old w wr
  says : tuple L i = tuple L t.id ++ l.reverse
  tok : t ∈ L ∨ t = noTk
theorem Way.lim {w wr : World} {L : List Tk} {last : Nat} {i : Int} {oa : Option Addr} {n cap g : Nat} {t : Tk} {l : List Int} (h : Way w wr L i oa n cap g t l) (hg : Good L last) : n ≤ L.length := by
  have h1 := tuple_bound hg i
  have h2 := congrArg List.length h.says
  rw [List.length_append, List.length_reverse] at h2
  have := h.len
  omega
theorem step_tok {L : List Tk} {last : Nat} (hg : Good L last) {t : Tk} (ht : t ∈ L) (h0 : t.id ≠ 0) : ∃ p, p ∈ L ∧ getT L t.par = some p ∧ p.id = t.par ∧ p.id < t.id ∧ 0 ≤ p.id := by
  obtain ⟨h1, p, hp, e⟩ := hg.par t ht h0
  exact ⟨p, hp, by rw [← e]; exact getT_mem hg.up hp, e, by omega, (hg.low p hp).1⟩
theorem cr_one {W : World} {b : Nat} {x : Value} {t : TypeId} (h : W.heap[b]? = some (.cells #[x] t (0, 0))) : CR W (.slice (some ⟨b, 0, none⟩) 1 1) 1 1 [x] := by
  refine ⟨_, 1, rfl, Nat.le_refl _, by unfold maxLen; omega, rfl, fun j u hj => ⟨b, 0, rfl, blk_lt h, ?_⟩⟩
  rcases j with _ | j
  · simp at hj; subst hj; simp [World.cell?, h]
  · simp at hj
theorem ints_app {w : World} {base : Nat} {v : Value} {l : List Int} {n : Nat} {x : Int} (hn : n = l.length) (h : w.ownsRow base 3 1 v (n + 1) (l.map (Value.int .i64) ++ [.int .i64 x])) : Ints w base v (l ++ [x]) := by
  subst hn
  unfold Ints
  rw [List.length_append, List.map_append]
  exact h
theorem Ints.from_base {w : World} {base : Nat} {v : Value} {l : List Int} (h : Ints w base v l) : ∀ k, v.ownBlock = some k → base ≤ k := fun k hk => by
  rcases h.2 with ⟨rfl, _⟩ | ⟨g, cap, cur, rfl, hb, _⟩
  · simp [Value.ownBlock] at hk
  · obtain rfl : g = k := by simpa [Value.ownBlock] using hk
    exact hb
theorem Tb.grown {w w' : World} {g : Nat} {t : Tk} {row : Option Nat} (h : Tb w g t) (hg : w.grownBy w' row) (hr : ∀ k, row = some k → k ≠ g) : Tb w' g t :=
  (hg.block g h.lt (fun e => hr g e.symm rfl)).trans h
end Go.Proofs.Ytfgdgnkihiokoaa
