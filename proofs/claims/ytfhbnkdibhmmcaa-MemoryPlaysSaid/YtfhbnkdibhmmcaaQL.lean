/- Layer memory: the ids of a memory's facts, sorted, by the library's own contracts. -/
import Derived.Test.YtfhbnkdibhmmcaaQE
import Derived.Test.YtfhbnkdibhmmcaaQS
namespace Go.Proofs.Ytfhbnkdibhmmcaa
open Go.Proofs Go.RowKit Go.Maps Go.Sort Go.Shelf Go.Lib
set_option linter.unusedVariables false
set_option maxRecDepth 100000

theorem sorts_in (m : Nat) : AnyZI.SortsIn Try.prog Try.laysSorted_ren Fence.wide m :=
  ⟨fun blk off cap ss W hH hblk hsz => callsIn_wide.2 (AnyM.slices_Sort_int Try.laysSort blk off cap ss W hH hblk hsz),
   fun p cap W => callsIn_wide.2 (AnyM.slices_Sort_int_none Try.laysSort p cap W)⟩

theorem keys_run (b : Nat) (w : World) : Calls Try.prog 36 #[.map (some b)] w fun e w' => e = .returned (.func (.func 42) #[] #[.pointer (some ⟨w.heap.size, 0, none⟩)]) ∧ w' = w.alloc (.cells #[.map (some b)] 59) :=
  (callsIn_wide (n := 5)).1 (AnyZI.keys_in Try.laysKeys Fence.wide 5 trivial rfl (some b) w)

theorem ids_keys (E : List En) : intKeys (Dm E) = E.map (·.id) := by
  unfold intKeys Dm ents
  simp only
  rw [List.map_map]
  apply List.map_congr_left
  intro x _
  rfl
theorem ids_sorted {E : List En} (hu : E.Pairwise (fun x y => x.id < y.id)) {ss : List Int} (hp : ss.Perm (intKeys (Dm E))) : ss.mergeSort (fun x y => decide (x ≤ y)) = E.map (·.id) := by
  rw [ids_keys] at hp
  have tr : ∀ a b c : Int, decide (a ≤ b) = true → decide (b ≤ c) = true → decide (a ≤ c) = true := fun a b c h k => by simp only [decide_eq_true_eq] at *; omega
  have to : ∀ a b : Int, (decide (a ≤ b) || decide (b ≤ a)) = true := fun a b => by simp; omega
  refine List.Perm.eq_of_pairwise (le := fun a b => decide (a ≤ b) = true) (fun a b _ _ h1 h2 => by simp only [decide_eq_true_eq] at h1 h2; omega) (List.pairwise_mergeSort tr to ss) ?_ ((List.mergeSort_perm ss _).trans hp)
  rw [List.pairwise_map]
  exact hu.imp (fun {x y} h => by simp only [decide_eq_true_eq]; omega)

theorem sorted_run {w : World} {B b n : Nat} {E : List En} (hBl : B < w.heap.size) (hm : w.cell? ⟨B, 0, none⟩ = some (.map (some b))) (hown : w.ownsMap Try.prog 3 Rm b n (Dm E)) (hu : E.Pairwise (fun x y => x.id < y.id)) (hlen : E.length ≤ 200) :
    Calls Try.prog 35 #[.func (.func 42) #[] #[.pointer (some ⟨B, 0, none⟩)]] w fun e w' => ∃ v, e = .returned v ∧ w'.ownsRow w.heap.size 3 1 v E.length ((E.map (·.id)).map (Value.int .i64)) ∧ Old w w' := by
  have hsz := Dm_size E
  have hseq : SeqGives Fence.wide 2 Try.prog 42 #[.pointer (some ⟨B, 0, none⟩)] encZ (fun ss => ss.Perm (intKeys (Dm E))) (Maps.size (Dm E)) w :=
    AnyZI.keys_gives (ρ := Try.laysKeys_ren) { Try.laysKeys with } Fence.wide _ trivial rfl (by omega) B b n (Dm E) w hBl hm hown
  have cS := AnyZI.sorted_in Try.laysSorted Fence.wide 5 trivial trivial trivial trivial rfl (by omega) (sorts_in _) (enters_of Try.func41 (by kernel_rfl) rfl) 42 #[.pointer (some ⟨B, 0, none⟩)] trivial (enters_of Try.func42 (by kernel_rfl) rfl) _ _ (by rw [hsz]; unfold maxLen; omega) (by rw [hsz]; omega) _ hseq
  change CallsIn _ _ Try.prog 35 _ _ _ at cS
  refine ((callsIn_wide (n := 5)).1 cS).mono ?_
  rintro e w' ⟨v, ss, rfl, hS, hrow, _, hb⟩
  have hl : ss.length = E.length := by
    have := hS.length_eq
    rw [ids_keys, List.length_map] at this
    exact this
  rw [ids_sorted hu hS, hl] at hrow
  exact ⟨v, rfl, hrow, Old.ofBelow hb (Nat.le_refl _)⟩

end Go.Proofs.Ytfhbnkdibhmmcaa
