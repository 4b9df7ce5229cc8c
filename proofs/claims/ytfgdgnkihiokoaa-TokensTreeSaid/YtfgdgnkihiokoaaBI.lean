/- The arena: lists of numbers, sorted, by the library's own contracts: inOrder, Kids, At, With. -/
import Derived.Test.YtfgdgnkihiokoaaBH
import Derived.Test.YtfgdgnkihiokoaaBS
namespace Go.Proofs.Ytfgdgnkihiokoaa
open Go.Proofs Go.RowKit Go.Maps Go.Sort Go.Shelf Go.Lib
set_option linter.unusedVariables false
set_option linter.unusedSimpArgs false
set_option maxRecDepth 100000

theorem sorts_in (m : Nat) : AnyZI.SortsIn Try.prog Try.laysSorted_ren Fence.wide m :=
  ⟨fun blk off cap ss W hH hblk hsz => callsIn_wide.2 (AnyM.slices_Sort_int Try.laysSort blk off cap ss W hH hblk hsz),
   fun p cap W => callsIn_wide.2 (AnyM.slices_Sort_int_none Try.laysSort p cap W)⟩
theorem keys_run (b : Option Nat) (w : World) : Calls Try.prog 33 #[.map b] w fun e w' => e = .returned (.func (.func 39) #[] #[.pointer (some ⟨w.heap.size, 0, none⟩)]) ∧ w' = w.alloc (.cells #[.map b] 58) :=
  (callsIn_wide (n := 5)).1 (AnyZI.keys_in Try.laysKeys Fence.wide 5 trivial rfl b w)
theorem ids_keys (l : List Int) : intKeys (Dz (se l)) = l := by
  unfold intKeys Dz zents se
  simp only
  rw [List.map_map, List.map_map]
  conv => rhs; rw [← List.map_id l]
  apply List.map_congr_left
  intro x _
  rfl
theorem ids_sorted {l : List Int} (hu : l.Pairwise (· < ·)) {ss : List Int} (hp : ss.Perm l) : ss.mergeSort (fun x y => decide (x ≤ y)) = l := by
  have tr : ∀ a b c : Int, decide (a ≤ b) = true → decide (b ≤ c) = true → decide (a ≤ c) = true := fun a b c h k => by simp only [decide_eq_true_eq] at *; omega
  have to : ∀ a b : Int, (decide (a ≤ b) || decide (b ≤ a)) = true := fun a b => by simp; omega
  refine List.Perm.eq_of_pairwise (le := fun a b => decide (a ≤ b) = true) (fun a b _ _ h1 h2 => by simp only [decide_eq_true_eq] at h1 h2; omega) (List.pairwise_mergeSort tr to ss) ?_ ((List.mergeSort_perm ss _).trans hp)
  exact hu.imp (fun {x y} h => by simp only [decide_eq_true_eq]; omega)
/-- A new slice of these numbers. -/
def Ints (w : World) (base : Nat) (v : Value) (l : List Int) : Prop := w.ownsRow base 3 1 v l.length (l.map (Value.int .i64))
theorem Ints.old {w w' : World} {base : Nat} {v : Value} {l : List Int} (h : Ints w base v l) (ho : Old w w') : Ints w' base v l := own_old h ho
theorem Ints.low {w : World} {base base' : Nat} {v : Value} {l : List Int} (h : Ints w base v l) (hb : base' ≤ base) : Ints w base' v l := own_low h hb
theorem Ints.shape {w : World} {base : Nat} {v : Value} {l : List Int} (h : Ints w base v l) : ∃ oa cap, v = .slice oa l.length cap := own_shape h
theorem Ints.cell {w : World} {base : Nat} {oa : Option Addr} {n cap : Nat} {l : List Int} (h : Ints w base (.slice oa n cap) l) {j : Nat} {x : Int} (hj : l[j]? = some x) : ∃ g, oa = some ⟨g, 0, none⟩ ∧ base ≤ g ∧ g < w.heap.size ∧ w.cell? ⟨g, j, none⟩ = some (.int .i64 x) := by
  rcases h.2 with ⟨e, e2⟩ | ⟨g, cp, cur, e, hb, hg, hc, hm, hsz, ht⟩
  · have : l = [] := by simpa using e2
    subst this; simp at hj
  · obtain ⟨rfl, _, _⟩ : oa = some ⟨g, 0, none⟩ ∧ n = l.length ∧ cap = cp := by simpa using e
    refine ⟨g, rfl, hb, blk_lt hg, ?_⟩
    have h1 : (l.map (Value.int .i64))[j]? = some (.int .i64 x) := by rw [List.getElem?_map, hj]; rfl
    have hjl : j < l.length := (List.getElem?_eq_some_iff.1 hj).1
    rw [← ht, List.getElem?_take, if_pos (by rw [Nat.mul_one]; exact hjl), Array.getElem?_toList] at h1
    simp [World.cell?, hg, h1]

theorem sorted_some {w : World} {B g cap : Nat} {l : List Int} (hBl : B < w.heap.size) (hm : w.cell? ⟨B, 0, none⟩ = some (.map (some g))) (hu : Us w g l cap) (hlen : l.length ≤ 1000000) :
    Calls Try.prog 32 #[.func (.func 39) #[] #[.pointer (some ⟨B, 0, none⟩)]] w fun e w' => ∃ v, e = .returned v ∧ Ints w' w.heap.size v l ∧ Old w w' := by
  have hsz : Maps.size (Dz (se l)) = l.length := by rw [Dz_size, se, List.length_map]
  have hseq : SeqGives Fence.wide 2 Try.prog 39 #[.pointer (some ⟨B, 0, none⟩)] encZ (fun ss => ss.Perm (intKeys (Dz (se l)))) (Maps.size (Dz (se l))) w :=
    AnyZI.keys_gives (ρ := Try.laysKeys_ren) { Try.laysKeys with } Fence.wide _ trivial rfl (by omega) B g cap (Dz (se l)) w hBl hm hu.own
  have cS := AnyZI.sorted_in Try.laysSorted Fence.wide 5 trivial trivial trivial trivial rfl (by omega) (sorts_in _) (enters_of Try.func38 (by kernel_rfl) rfl) 39 #[.pointer (some ⟨B, 0, none⟩)] trivial (enters_of Try.func39 (by kernel_rfl) rfl) _ _ (by rw [hsz]; unfold maxLen; omega) (by rw [hsz]; omega) _ hseq
  change CallsIn _ _ Try.prog 32 _ _ _ at cS
  refine ((callsIn_wide (n := 5)).1 cS).mono ?_
  rintro e w' ⟨v, ss, rfl, hS, hrow, _, hb⟩
  rw [ids_keys] at hS
  rw [ids_sorted hu.up hS, hS.length_eq] at hrow
  exact ⟨v, rfl, hrow, Old.ofBelow hb (Nat.le_refl _)⟩
theorem sorted_none {w : World} {B : Nat} (hBl : B < w.heap.size) (hm : w.cell? ⟨B, 0, none⟩ = some (.map none)) :
    Calls Try.prog 32 #[.func (.func 39) #[] #[.pointer (some ⟨B, 0, none⟩)]] w fun e w' => ∃ v, e = .returned v ∧ Ints w' w.heap.size v [] ∧ Old w w' := by
  have hseq : SeqGives Fence.wide 2 Try.prog 39 #[.pointer (some ⟨B, 0, none⟩)] encZ (fun ss : List Int => ss = []) 0 w :=
    AnyZI.keys_gives_nil (ρ := Try.laysKeys_ren) { Try.laysKeys with } Fence.wide _ trivial rfl B w hBl hm
  have cS := AnyZI.sorted_in Try.laysSorted Fence.wide 5 trivial trivial trivial trivial rfl (by omega) (sorts_in _) (enters_of Try.func38 (by kernel_rfl) rfl) 39 #[.pointer (some ⟨B, 0, none⟩)] trivial (enters_of Try.func39 (by kernel_rfl) rfl) _ 0 (Nat.zero_le _) (by omega) _ hseq
  change CallsIn _ _ Try.prog 32 _ _ _ at cS
  refine ((callsIn_wide (n := 5)).1 cS).mono ?_
  rintro e w' ⟨v, ss, rfl, rfl, hrow, hnil, hb⟩
  obtain rfl : v = .slice none 0 0 := hnil.2 rfl
  exact ⟨_, rfl, World.ownsRow_nil _ _ _ _, Old.ofBelow hb (Nat.le_refl _)⟩

theorem in_order {w : World} {b : Nat} {B : Nat → Prop} {P : Prs} {cap : Nat} (h : IxE w b B P cap) {k : Int} (hk : I64 k) (hlen : (sel P k).length ≤ 1000000) :
    Calls Try.prog 24 #[.map (some b), .int .i64 k] w fun e w' => ∃ v, e = .returned v ∧ Ints w' w.heap.size v (sel P k) ∧ Old w w' := by
  obtain ⟨G, D, h, rfl⟩ := h
  have hl := h.look hk
  have hB : (w.alloc (.cells #[.map (G k)] 58)).cell? ⟨w.heap.size, 0, none⟩ = some (.map (G k)) := by
    have := (MapKept.heap_alloc w (.cells #[.map (G k)] 58)).1
    unfold World.cell?
    rw [this]
    rfl
  have ho : Old w (w.alloc (.cells #[.map (G k)] 58)) := (Old.refl w).alloc _
  have hs : Calls Try.prog 32 #[.func (.func 39) #[] #[.pointer (some ⟨w.heap.size, 0, none⟩)]] (w.alloc (.cells #[.map (G k)] 58)) fun e w' => ∃ v, e = .returned v ∧ Ints w' w.heap.size v (sel P k) ∧ Old w w' := by
    rcases hg : G k with _ | g
    · rw [hg] at hB ho
      rw [h.none_ k hg]
      refine (sorted_none (by simp) hB).mono ?_
      rintro e w' ⟨v, e1, h1, h2⟩
      exact ⟨v, e1, h1.low (by simp), ho.trans h2⟩
    · rw [hg] at hB ho
      refine (sorted_some (by simp) hB ((h.sets k g hg).2.chg (S := fun _ => False) (Chg.ofOld ho) (fun e => e)) hlen).mono ?_
      rintro e w' ⟨v, e1, h1, h2⟩
      exact ⟨v, e1, h1.low (by simp), ho.trans h2⟩
  generalize G k = o at *
  clear hB ho h
  go_enter Try.func24, Try.ntmps24
  go_wp2_with (first
    | (go_at_call 33; (with_reducible refine (keys_run _ _).mono ?_); rintro e w1 ⟨rfl, rfl⟩)
    | (go_at_call 32; (with_reducible refine hs.mono ?_); rintro e w2 ⟨v, rfl, hi, ho⟩))
  go_ret
  exact ⟨v, rfl, hi, ho⟩

/-! Kids, At, With -/
theorem lists_nil (f : Nat) (hf : f = 13 ∨ f = 16 ∨ f = 17) (i : Int) (w : World) : Calls Try.prog f #[.pointer none, .int .i64 i] w fun e w' => e = .returned (.slice none 0 0) ∧ w = w' := by
  rcases hf with rfl | rfl | rfl
  · go_enter Try.func13, Try.ntmps13
    go_wp2_with (go_at_call 21; (with_reducible refine (made_nil _).mono ?_); rintro e w1 ⟨rfl, rfl⟩)
    go_ret
    exact ⟨rfl, rfl⟩
  · go_enter Try.func16, Try.ntmps16
    go_wp2_with (go_at_call 21; (with_reducible refine (made_nil _).mono ?_); rintro e w1 ⟨rfl, rfl⟩)
    go_ret
    exact ⟨rfl, rfl⟩
  · go_enter Try.func17, Try.ntmps17
    go_wp2_with (go_at_call 21; (with_reducible refine (made_nil _).mono ?_); rintro e w1 ⟨rfl, rfl⟩)
    go_ret
    exact ⟨rfl, rfl⟩
theorem kids_any {w : World} {b : Bs} {A : Nat → Prop} {L : List Tk} {last cap : Nat} (h : Ar w b A L last cap) {i : Int} (hi : I64 i) (hlen : (sel (pk L) i).length ≤ 1000000) :
    Calls Try.prog 13 #[ptr b, .int .i64 i] w fun e w' => ∃ v, e = .returned v ∧ Ints w' w.heap.size v (sel (pk L) i) ∧ Old w w' := by
  have hm := h.made
  obtain ⟨K, N, F, h, rfl⟩ := h
  have c2 := h.cells.2.2.1
  have hs := in_order h.kids hi hlen
  clear h
  go_enter Try.func13, Try.ntmps13
  go_wp2_with (first
    | (go_at_call 21; (with_reducible refine hm.mono ?_); rintro e w1 ⟨rfl, rfl⟩)
    | (go_at_call 24; (with_reducible refine hs.mono ?_); rintro e w2 ⟨v, rfl, hi, ho⟩))
  go_ret
  exact ⟨v, rfl, hi, ho⟩
theorem at_any {w : World} {b : Bs} {A : Nat → Prop} {L : List Tk} {last cap : Nat} (h : Ar w b A L last cap) {i : Int} (hi : I64 i) (hlen : (sel (pn L) i).length ≤ 1000000) :
    Calls Try.prog 16 #[ptr b, .int .i64 i] w fun e w' => ∃ v, e = .returned v ∧ Ints w' w.heap.size v (sel (pn L) i) ∧ Old w w' := by
  have hm := h.made
  obtain ⟨K, N, F, h, rfl⟩ := h
  have c2 := h.cells.2.2.2.1
  have hs := in_order h.nodes hi hlen
  clear h
  go_enter Try.func16, Try.ntmps16
  go_wp2_with (first
    | (go_at_call 21; (with_reducible refine hm.mono ?_); rintro e w1 ⟨rfl, rfl⟩)
    | (go_at_call 24; (with_reducible refine hs.mono ?_); rintro e w2 ⟨v, rfl, hi, ho⟩))
  go_ret
  exact ⟨v, rfl, hi, ho⟩
theorem with_any {w : World} {b : Bs} {A : Nat → Prop} {L : List Tk} {last cap : Nat} (h : Ar w b A L last cap) {i : Int} (hi : I64 i) (hlen : (sel (pf L) i).length ≤ 1000000) :
    Calls Try.prog 17 #[ptr b, .int .i64 i] w fun e w' => ∃ v, e = .returned v ∧ Ints w' w.heap.size v (sel (pf L) i) ∧ Old w w' := by
  have hm := h.made
  obtain ⟨K, N, F, h, rfl⟩ := h
  have c2 := h.cells.2.2.2.2
  have hs := in_order h.facts hi hlen
  clear h
  go_enter Try.func17, Try.ntmps17
  go_wp2_with (first
    | (go_at_call 21; (with_reducible refine hm.mono ?_); rintro e w1 ⟨rfl, rfl⟩)
    | (go_at_call 24; (with_reducible refine hs.mono ?_); rintro e w2 ⟨v, rfl, hi, ho⟩))
  go_ret
  exact ⟨v, rfl, hi, ho⟩
end Go.Proofs.Ytfgdgnkihiokoaa
