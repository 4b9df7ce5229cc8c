/- Rows of digits in memory: what it means that a slice reads as one, and that what was there before a call is as it was. -/
import Derived.Test.YtcedcfkjoppjdaaGreatDoorOA
import Derived.Test.YtcedcfkjoppjdaaGreatDoorRM
import Derived.OwnWalk
import Derived.Below
namespace Go.Proofs.YtcedcfkjoppjdaaGreatDoor
open Go.ChangeShapes Go.WideShapes Go.ChangeAt Go.RowKit
set_option linter.unusedVariables false
def sgn (a b : Int) (n : Nat) : Int := if a < 0 ↔ b < 0 then n else -n
theorem sgn_same {a b : Int} (n : Nat) (h : (a < 0 ↔ b < 0)) : sgn a b n = n := if_pos h
theorem sgn_other {a b : Int} (n : Nat) (h : ¬ (a < 0 ↔ b < 0)) : sgn a b n = -n := if_neg h
theorem two (a b c d : Int) (h1 : a = c) (h2 : b = d) : Ending.returned (.tuple #[.int .i64 a, .int .i64 b]) = .returned (.tuple #[.int .i64 c, .int .i64 d]) := by rw [h1, h2]
def fitV (n : Int) : Int := if -9223372036854775808 ≤ n ∧ n ≤ 9223372036854775807 then n else 0
def fitE (n : Int) : Int := if -9223372036854775808 ≤ n ∧ n ≤ 9223372036854775807 then 0 else 9
theorem fitV_in {n : Int} (h : I64 n) : fitV n = n := by unfold fitV; exact if_pos h
theorem fitV_out {n : Int} (h : ¬ I64 n) : fitV n = 0 := by unfold fitV; exact if_neg h
theorem fitE_in {n : Int} (h : I64 n) : fitE n = 0 := by unfold fitE; exact if_pos h
theorem fitE_out {n : Int} (h : ¬ I64 n) : fitE n = 9 := by unfold fitE; exact if_neg h
def rnd (N d : Nat) : Nat := if d < 2 * (N % d) ∨ (2 * (N % d) = d ∧ N / d % 2 = 1) then N / d + 1 else N / d
theorem eq0_false {b : Int} (h : ¬ b = 0) : (b == 0) = false := by simpa using h
theorem sgn_div (a b : Int) : sgn a b (a.natAbs / b.natAbs) = a.tdiv b := by
  unfold sgn
  rw [Int.natCast_ediv]
  by_cases ha : a < 0 <;> by_cases hb : b < 0
  · rw [if_pos (by simp [ha, hb]), show (a.natAbs : Int) = -a by omega, show (b.natAbs : Int) = -b by omega, ← Int.tdiv_eq_ediv_of_nonneg (by omega), Int.neg_tdiv, Int.tdiv_neg, Int.neg_neg]
  · rw [if_neg (by simp [ha, hb]), show (a.natAbs : Int) = -a by omega, show (b.natAbs : Int) = b by omega, ← Int.tdiv_eq_ediv_of_nonneg (by omega), Int.neg_tdiv, Int.neg_neg]
  · rw [if_neg (by simp [ha, hb]), show (a.natAbs : Int) = a by omega, show (b.natAbs : Int) = -b by omega, ← Int.tdiv_eq_ediv_of_nonneg (by omega), Int.tdiv_neg, Int.neg_neg]
  · rw [if_pos (by simp [ha, hb]), show (a.natAbs : Int) = a by omega, show (b.natAbs : Int) = b by omega, ← Int.tdiv_eq_ediv_of_nonneg (by omega)]
theorem sgn_mul (a b : Int) : sgn a b (a.natAbs * b.natAbs) = a * b := by
  unfold sgn
  rw [Int.natCast_mul]
  by_cases ha : a < 0 <;> by_cases hb : b < 0
  · rw [if_pos (by simp [ha, hb]), show (a.natAbs : Int) = -a by omega, show (b.natAbs : Int) = -b by omega, Int.neg_mul_neg]
  · rw [if_neg (by simp [ha, hb]), show (a.natAbs : Int) = -a by omega, show (b.natAbs : Int) = b by omega, Int.neg_mul, Int.neg_neg]
  · rw [if_neg (by simp [ha, hb]), show (a.natAbs : Int) = a by omega, show (b.natAbs : Int) = -b by omega, Int.mul_neg, Int.neg_neg]
  · rw [if_pos (by simp [ha, hb]), show (a.natAbs : Int) = a by omega, show (b.natAbs : Int) = b by omega]
abbrev pr (v e : Int) : Ending := .returned (.tuple #[.int .i64 v, .int .i64 e])
end Go.Proofs.YtcedcfkjoppjdaaGreatDoor
namespace Go.Proofs.YtcedcfkjoppjdaaGreatDoor
open Go.ChangeShapes Go.WideShapes Go.ChangeAt Go.RowKit Go.Lib
set_option linter.unusedVariables false

theorem Old.ofGrown {w w' : World} (h : Grown w w') : Old w w' := by
  obtain ⟨⟨h1, h2, h3⟩, _, h5⟩ := h
  refine ⟨h1, h2, h5, fun k hk => ?_⟩
  have h4 := h3 k hk
  revert h4
  cases hw : w.heap[k]? with
  | none => have := Array.getElem?_eq_none_iff.1 hw; omega
  | some o =>
    cases hw' : w'.heap[k]? with
    | none => have := Array.getElem?_eq_none_iff.1 hw'; omega
    | some o' =>
      cases o <;> cases o' <;> intro h4
      all_goals first
        | (obtain ⟨rfl, rfl, h6, h7⟩ := h4
           refine congrArg some (congrArg (fun c => Obj.cells c _ _) (Array.ext_getElem? fun j => ?_))
           exact h7 j (fun f => f))
        | (rcases h4 with h4 | ⟨rfl, rfl⟩
           · exact h4.elim
           · rfl)
        | exact h4

/-- The slice v reads as the row ds. -/
def Rd (w : World) (v : Value) (ds : List Int) : Prop :=
  ∃ oa cap, v = .slice oa ds.length cap ∧ ds.length ≤ cap ∧ cap ≤ maxLen ∧ ∀ j, j < ds.length → ∃ g, oa = some ⟨g, 0, none⟩ ∧ g < w.heap.size ∧ w.cell? ⟨g, j, none⟩ = some (.int .i64 (ds.getD j 0))
theorem Rd.old {w w' : World} {v : Value} {ds : List Int} (h : Rd w v ds) (ho : Old w w') : Rd w' v ds := by
  obtain ⟨oa, cap, rfl, h1, h2, h3⟩ := h
  refine ⟨oa, cap, rfl, h1, h2, fun j hj => ?_⟩
  obtain ⟨g, rfl, hg, hc⟩ := h3 j hj
  exact ⟨g, rfl, Nat.lt_of_lt_of_le hg ho.size, (ho.cell hg).trans hc⟩
theorem Rd.nil (w : World) : Rd w (.slice none 0 0) [] := ⟨none, 0, rfl, Nat.le_refl _, Nat.zero_le _, fun j hj => absurd hj (Nat.not_lt_zero _)⟩
theorem Rd.take {w : World} {oa : Option Addr} {cap : Nat} {ds : List Int} (h1 : ds.length ≤ cap) (h2 : cap ≤ maxLen)
    (h3 : ∀ j, j < ds.length → ∃ g, oa = some ⟨g, 0, none⟩ ∧ g < w.heap.size ∧ w.cell? ⟨g, j, none⟩ = some (.int .i64 (ds.getD j 0))) {k : Nat} (hk : k ≤ ds.length) : Rd w (.slice oa k cap) (ds.take k) := by
  have hl : (ds.take k).length = k := by rw [List.length_take]; omega
  refine ⟨oa, cap, by rw [hl], by omega, h2, fun j hj => ?_⟩
  obtain ⟨g, h4, h5, h6⟩ := h3 j (by omega)
  refine ⟨g, h4, h5, h6.trans ?_⟩
  rw [List.getD_eq_getElem?_getD, List.getD_eq_getElem?_getD, List.getElem?_take_of_lt (by omega)]
theorem Rd.of_owns {w : World} {base : Nat} {v : Value} {ds : List Int} {n : Nat} (h : w.ownsRow base 3 1 v n (ds.map (Value.int .i64))) : Rd w v ds := by
  have hl := h.1
  rw [List.length_map, Nat.mul_one] at hl
  subst hl
  rcases h.2 with ⟨rfl, hn⟩ | ⟨g, cap, cur, rfl, hb, hw, hc, hm, hs, ht⟩
  · rw [List.length_eq_zero_iff] at hn; subst hn; exact Rd.nil w
  · refine ⟨some ⟨g, 0, none⟩, cap, rfl, hc, hm, fun j hj => ⟨g, rfl, ?_, ?_⟩⟩
    · rcases Nat.lt_or_ge g w.heap.size with h1 | h1
      · exact h1
      · rw [Array.getElem?_eq_none h1] at hw; cases hw
    · rw [h.cellAt j (by omega), List.getElem?_map, List.getD_eq_getElem?_getD, List.getElem?_eq_getElem hj]; rfl
/-- It returns a slice that reads as the row ds. -/
def RetD (w : World) (ds : List Int) (e : Ending) (w' : World) : Prop := ∃ v, e = .returned v ∧ Rd w' v ds ∧ Old w w'

theorem new_one (wr : World) (x : Value) (T : TypeId) : ∀ j u, [x][j]? = some u → (wr.alloc (.cells #[x] T)).cell? ((⟨wr.heap.size, 0, none⟩ : Addr).add j) = some u := by
  intro j u hj
  match j, hj with
  | 0, hj => simp at hj; subst hj; simp [Addr.add]
theorem one_int (x : Int) : ∀ u ∈ [Value.int .i64 x], u.oneCell' = true := by
  intro u hu; simp at hu; subst hu; rfl
/-- Block b is a number's two cells. -/
def Two (w : World) (b : Nat) (u v : Value) : Prop := w.heap[b]? = some (.cells #[u, v] 40 (0, 0))
theorem Two.c0 {w : World} {b : Nat} {u v : Value} (h : Two w b u v) : w.cell? ⟨b, 0, none⟩ = some u := by unfold Two at h; simp [World.cell?, h]
theorem Two.c1 {w : World} {b : Nat} {u v : Value} (h : Two w b u v) : w.cell? ⟨b, 1, none⟩ = some v := by unfold Two at h; simp [World.cell?, h]
theorem Two.f {w : World} {b : Nat} {u v : Value} (h : Two w b u v) (o : Nat) : w.frozen? ⟨b, o, none⟩ = false := by unfold Two at h; simp [World.frozen?, h]
theorem Two.lt {w : World} {b : Nat} {u v : Value} (h : Two w b u v) : b < w.heap.size := by
  unfold Two at h
  rcases Nat.lt_or_ge b w.heap.size with h' | h'
  · exact h'
  · rw [Array.getElem?_eq_none h'] at h; cases h
theorem Two.alloc {w : World} {b : Nat} {u v : Value} (h : Two w b u v) (o : Obj) : Two (w.alloc o) b u v := (Below.heap_alloc w o b h.lt).trans h
theorem Two.new (w : World) (u v : Value) : Two (w.alloc (.cells #[u, v] 40)) w.heap.size u v := (MapKept.heap_alloc w _).1
theorem Two.old {w w' : World} {b : Nat} {u v : Value} (h : Two w b u v) (ho : Old w w') : Two w' b u v := (ho.block b h.lt).trans h
theorem Two.grown {w w' : World} {b : Nat} {u v : Value} {row : Option Nat} (h : Two w b u v) (hg : w.grownBy w' row) (hr : row ≠ some b) : Two w' b u v := (hg.block b h.lt (fun e => hr e.symm)).trans h
theorem info3 : (Tryz.prog.info? 3).map (fun i => (i.zero, i.size, i.bytes)) = some (some (.int .i64 0), 1, 8) := by kernel_rfl

end Go.Proofs.YtcedcfkjoppjdaaGreatDoor
