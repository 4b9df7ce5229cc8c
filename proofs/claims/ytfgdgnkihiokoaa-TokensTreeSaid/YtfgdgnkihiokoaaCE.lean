/- TokensApart, plainly; two arenas beside each other. -/
import Derived.Test.YtfgdgnkihiokoaaCLists
namespace Go.Proofs.Ytfgdgnkihiokoaa
open Go.ChangeShapes Go.WideShapes Go.ChangeAt Go.RowKit Go.Lib
set_option linter.unusedVariables false
set_option linter.unusedSimpArgs false
set_option maxRecDepth 100000

theorem mem_remL {L : List Tk} {i : Int} {t : Tk} : t ∈ remL i L → t ∈ L := fun h => by
  unfold remL at h
  split at h
  · exact h
  · exact (List.mem_filter.1 h).1
theorem rem_none {L : List Tk} {k : Int} (i : Int) (h : getT L k = none) : getT (remL i L) k = none := getT_no (fun t ht => getT_none h t (mem_remL ht))
theorem rem_gone {L : List Tk} {last : Nat} (hg : Good L last) {i k : Int} (h : k ∈ (remG i L).map (·.id)) : getT (remL i L) k = none := by
  unfold remG at h
  unfold remL
  split at h
  · simp at h
  · rename_i hc
    rw [if_neg hc]
    obtain ⟨y, hy, rfl⟩ := List.mem_map.1 h
    obtain ⟨h1, h2⟩ := List.mem_filter.1 hy
    refine getT_no (fun t ht e => ?_)
    obtain ⟨h3, h4⟩ := List.mem_filter.1 ht
    rw [e] at h4
    simp at h2 h4
    exact h4 h2
theorem rem_stays {L : List Tk} {last : Nat} (hg : Good L last) {i : Int} {t : Tk} (ht : t ∈ L) (h : t.id ∉ (remG i L).map (·.id)) : getT (remL i L) t.id = some t ∧ tuple (remL i L) t.id = tuple L t.id := by
  unfold remG at h
  unfold remL
  split at h
  · rename_i hc
    rw [if_pos hc]
    exact ⟨getT_mem hg.up ht, rfl⟩
  · rename_i hc
    rw [if_neg hc]
    have hb : t.id ∉ bel i L := fun hb => h (List.mem_map.2 ⟨t, List.mem_filter.2 ⟨ht, by simpa using hb⟩, rfl⟩)
    exact ⟨getT_mem (hg.up.filter _) (List.mem_filter.2 ⟨ht, by simpa using hb⟩), tuple_rest hg i t.id.toNat t ht (Nat.le_refl _) hb⟩
theorem remG_up {L : List Tk} {last : Nat} (hg : Good L last) (i : Int) : (remG i L).Pairwise (fun x y => x.id < y.id) := by
  unfold remG gone
  split
  · exact List.Pairwise.nil
  · exact hg.up.filter _
theorem remG_len (i : Int) (L : List Tk) : (remG i L).length ≤ L.length := by
  unfold remG gone
  split
  · exact Nat.zero_le _
  · exact List.length_filter_le _ _
theorem remG_sub {i : Int} {L : List Tk} {t : Tk} (h : t ∈ remG i L) : t ∈ L := by
  unfold remG gone at h
  split at h
  · simp at h
  · exact (List.mem_filter.1 h).1
theorem root_there {L : List Tk} {last : Nat} (hg : Good L last) : getT L 0 ≠ none := fun h => getT_none h rootT hg.rootIn rfl
def oneX : Ox := ⟨1, 0, 1, 1⟩
theorem one64 : O64 oneX := ⟨by decide, by decide, by decide, by decide⟩
theorem one_ok {L : List Tk} {last : Nat} (hg : Good L last) : okAdd L oneX := ⟨root_there hg, by decide, by decide⟩

/-- Another arena's change leaves this one as it was. -/
theorem My.far {w W W' : World} {a : Bs} {A B B' : Nat → Prop} {L : List Tk} {last cap : Nat} (h : My w W a A L last cap) (hs : Stp W W' B B') (hd : ∀ j, A j → ¬ B j) (hB : ∀ j, B j → w.heap.size ≤ j) : My w W' a A L last cap :=
  ⟨h.ar.chg hs.chg hd, h.new, hs.chg.old h.old hB⟩
theorem My.chg {S : Nat → Prop} {w W W' : World} {a : Bs} {A : Nat → Prop} {L : List Tk} {last cap : Nat} (h : My w W a A L last cap) (hc : Chg S W W') (hd : ∀ j, A j → ¬ S j) (hS : ∀ j, S j → w.heap.size ≤ j) : My w W' a A L last cap :=
  ⟨h.ar.chg hc hd, h.new, hc.old h.old hS⟩
/-- The map of what is gone. -/
def gz (G : List Tk) : List (Int × Value) := G.map fun t => (t.id, .int .i64 1)
theorem gz_snoc (G : List Tk) (t : Tk) : gz (G ++ [t]) = gz G ++ [(t.id, .int .i64 1)] := by simp [gz]
theorem gz_look {w : World} {b cap : Nat} {G : List Tk} (h : w.ownsMap Try.prog 3 Rm b cap (Dz (gz G))) (hu : G.Pairwise (fun x y => x.id < y.id)) {i : Int} (hi : I64 i) :
    (Instr.lookup 47 (.map (some b)) (.int .i64 i) false).run Try.prog w = .ok (.int .i64 (if i ∈ G.map (·.id) then 1 else 0)) w := by
  have hz3 : (zeroValue 3).run Try.prog w = .ok (.int .i64 0) w := by kernel_rfl
  obtain ⟨v, ps, hrun, hv⟩ := h.lookup keyed3 Try.underlying47 hz3 (show Rm (.int .i64 0) = some (.held (.int .i64 0), []) from rfl) (key_int hi)
  have hup : (gz G).Pairwise (fun x y => x.1 < y.1) := by unfold gz; rw [List.pairwise_map]; exact hu
  by_cases hm : i ∈ G.map (·.id)
  · obtain ⟨t, ht, rfl⟩ := List.mem_map.1 hm
    rw [Dz_at hup (x := (t.id, .int .i64 1)) (List.mem_map.2 ⟨t, ht, rfl⟩)] at hv
    have e : v = .int .i64 1 := (by simpa [Rm] using hv : _ ∧ _).1
    rw [if_pos hm, hrun, e]
  · rw [Dz_no (fun x hx e => by
      obtain ⟨t, ht, rfl⟩ := List.mem_map.1 hx
      exact hm (List.mem_map.2 ⟨t, ht, e⟩))] at hv
    have e : v = .int .i64 0 := (by simpa [Rm] using hv : _ ∧ _).1
    rw [if_neg hm, hrun, e]
end Go.Proofs.Ytfgdgnkihiokoaa
