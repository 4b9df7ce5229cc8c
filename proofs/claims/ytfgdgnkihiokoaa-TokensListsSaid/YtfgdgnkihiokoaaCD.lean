/- TokensLists, plainly. -/
import Derived.Test.YtfgdgnkihiokoaaCC
namespace Go.Proofs.Ytfgdgnkihiokoaa
open Go.RowKit
set_option linter.unusedVariables false
set_option linter.unusedSimpArgs false

theorem sel_pk (L : List Tk) (k : Int) : sel (pk L) k = (L.filter fun t => decide (t.par = k)).map (·.id) := by
  unfold sel pk; rw [List.filter_map, List.map_map]; rfl
theorem sel_pn (L : List Tk) (k : Int) : sel (pn L) k = (L.filter fun t => decide (t.node = k)).map (·.id) := by
  unfold sel pn; rw [List.filter_map, List.map_map]; rfl
theorem sel_pf (L : List Tk) (k : Int) : sel (pf L) k = ((L.filter fun t => decide (t.fact ≠ 0)).filter fun t => decide (t.fact = k)).map (·.id) := by
  unfold sel pf; rw [List.filter_map, List.map_map]; rfl
theorem up_map {L : List Tk} (h : L.Pairwise (fun x y => x.id < y.id)) : (L.map (·.id)).Pairwise (· < ·) := by rw [List.pairwise_map]; exact h
theorem up_kids {L : List Tk} (h : L.Pairwise (fun x y => x.id < y.id)) (k : Int) : (sel (pk L) k).Pairwise (· < ·) := by rw [sel_pk]; exact up_map (h.filter _)
theorem up_at {L : List Tk} (h : L.Pairwise (fun x y => x.id < y.id)) (k : Int) : (sel (pn L) k).Pairwise (· < ·) := by rw [sel_pn]; exact up_map (h.filter _)
theorem up_with {L : List Tk} (h : L.Pairwise (fun x y => x.id < y.id)) (k : Int) : (sel (pf L) k).Pairwise (· < ·) := by rw [sel_pf]; exact up_map ((h.filter _).filter _)
theorem len_kids (L : List Tk) (k : Int) : (sel (pk L) k).length ≤ L.length := by rw [sel_pk, List.length_map]; exact List.length_filter_le _ _
theorem len_at (L : List Tk) (k : Int) : (sel (pn L) k).length ≤ L.length := by rw [sel_pn, List.length_map]; exact List.length_filter_le _ _
theorem len_with (L : List Tk) (k : Int) : (sel (pf L) k).length ≤ L.length := by
  rw [sel_pf, List.length_map]; exact Nat.le_trans (List.length_filter_le _ _) (List.length_filter_le _ _)
theorem with_zero (L : List Tk) : sel (pf L) 0 = [] := by
  rw [sel_pf]
  have : ((L.filter fun t => decide (t.fact ≠ 0)).filter fun t => decide (t.fact = 0)) = [] := by
    rw [List.filter_filter, List.filter_eq_nil_iff]
    intro t _
    simp
  rw [this]; rfl
theorem kids_none {L : List Tk} {last : Nat} (hg : Good L last) {k : Int} (hk : 0 ≤ k) (hn : getT L k = none) : sel (pk L) k = [] := by
  rw [List.eq_nil_iff_forall_not_mem]
  intro i hi
  obtain ⟨t, ht, hp, _⟩ := mem_kids.1 hi
  by_cases e : t.id = 0
  · rw [hg.isRoot ht e] at hp
    have : (-1 : Int) = k := hp
    omega
  · obtain ⟨_, p, hpL, e2⟩ := hg.par t ht e
    exact getT_none hn p hpL (e2.trans hp)

def thereN (L : List Tk) (k : Int) : Nat := L.countP fun t => decide (t.id < k)
def kidsN (L : List Tk) (k : Int) : Nat := L.countP fun t => decide (0 ≤ t.par ∧ t.par < k)
theorem thereN_le (L : List Tk) (k : Int) : thereN L k ≤ L.length := List.countP_le_length
theorem kidsN_le (L : List Tk) (k : Int) : kidsN L k ≤ L.length := List.countP_le_length
theorem countP_split {α : Type} (p q r : α → Bool) (L : List α) (h : ∀ x ∈ L, (if r x then 1 else 0) = (if p x then 1 else 0) + (if q x then 1 else 0)) : L.countP r = L.countP p + L.countP q := by
  induction L with
  | nil => rfl
  | cons a L ih =>
    have h1 := h a (by simp)
    have h2 := ih (fun x hx => h x (by simp [hx]))
    rw [List.countP_cons, List.countP_cons, List.countP_cons]
    omega
theorem kidsN_step (L : List Tk) {k : Int} (hk : 0 ≤ k) : kidsN L (k + 1) = kidsN L k + (sel (pk L) k).length := by
  rw [sel_pk, List.length_map, ← List.countP_eq_length_filter]
  refine countP_split _ _ _ _ fun t _ => ?_
  by_cases h1 : t.par = k
  · have h2 : 0 ≤ t.par ∧ t.par < k + 1 := by omega
    have h3 : ¬ (0 ≤ t.par ∧ t.par < k) := by omega
    simp [h1, h2, h3]; omega
  · by_cases h2 : 0 ≤ t.par ∧ t.par < k
    · have h3 : 0 ≤ t.par ∧ t.par < k + 1 := by omega
      simp [h1, h2, h3]
    · have h3 : ¬ (0 ≤ t.par ∧ t.par < k + 1) := by omega
      simp only [h1, h2, h3, decide_false, Bool.false_eq_true, if_false]
theorem thereN_none {L : List Tk} {k : Int} (hn : getT L k = none) : thereN L (k + 1) = thereN L k := by
  unfold thereN
  apply List.countP_congr
  intro t ht
  have := getT_none hn t ht
  simp only [decide_eq_true_eq]
  omega
theorem count_id {L : List Tk} (hu : L.Pairwise (fun x y => x.id < y.id)) {t : Tk} (ht : t ∈ L) : L.countP (fun x => decide (x.id = t.id)) = 1 := by
  have := cnt_one (up_map hu) (n := t.id) (List.mem_map.2 ⟨t, ht, rfl⟩)
  unfold cnt at this
  rw [List.countP_map] at this
  exact this
theorem thereN_some {L : List Tk} (hu : L.Pairwise (fun x y => x.id < y.id)) {t : Tk} (ht : t ∈ L) : thereN L (t.id + 1) = thereN L t.id + 1 := by
  rw [← count_id hu ht]
  refine countP_split _ _ _ _ fun x _ => ?_
  by_cases h1 : x.id = t.id
  · have h2 : x.id < t.id + 1 := by omega
    have h3 : ¬ x.id < t.id := by omega
    simp [h1]; omega
  · by_cases h2 : x.id < t.id
    · have h3 : x.id < t.id + 1 := by omega
      simp [h1, h2, h3]
    · have h3 : ¬ x.id < t.id + 1 := by omega
      simp [h1, h2, h3]
theorem thereN_zero {L : List Tk} {last : Nat} (hg : Good L last) : thereN L 0 = 0 := by
  unfold thereN
  rw [List.countP_eq_zero]
  intro t ht
  have := (hg.low t ht).1
  simp; omega
theorem kidsN_zero (L : List Tk) : kidsN L 0 = 0 := by
  unfold kidsN
  rw [List.countP_eq_zero]
  intro t ht
  simp
theorem thereN_end {L : List Tk} {last : Nat} (hg : Good L last) : thereN L ((last : Int) + 1) = L.length := by
  unfold thereN
  rw [List.countP_eq_length]
  intro t ht
  have := (hg.low t ht).2
  simp; omega
theorem kidsN_end {L : List Tk} {last : Nat} (hg : Good L last) : kidsN L ((last : Int) + 1) + 1 = L.length := by
  obtain ⟨r, hr⟩ := hg.root
  have h1 : ∀ t ∈ r, 0 ≤ t.par ∧ t.par < (last : Int) + 1 := fun t ht => by
    have htL : t ∈ L := by rw [hr]; simp [ht]
    have hup := hg.up
    rw [hr] at hup
    have hpos := (List.pairwise_cons.1 hup).1 t ht
    have h0 : t.id ≠ 0 := by show t.id ≠ 0; have : (0 : Int) < t.id := hpos; omega
    obtain ⟨h2, p, hp, e⟩ := hg.par t htL h0
    have := (hg.low p hp).1
    have := (hg.low t htL).2
    omega
  unfold kidsN
  rw [hr, List.countP_cons, List.length_cons]
  have h2 : r.countP (fun t => decide (0 ≤ t.par ∧ t.par < (last : Int) + 1)) = r.length := by
    rw [List.countP_eq_length]
    intro t ht
    simpa using h1 t ht
  rw [h2]
  simp [rootT]
end Go.Proofs.Ytfgdgnkihiokoaa
