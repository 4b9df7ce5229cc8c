/- Layer template: the law TemplateNulls. -/
import Derived.Test.YtcedcfkjoppjdaaNS
import Derived.Laws.MakeOwn
import Derived.Laws.AppendOwn
namespace Go.Proofs.Ytcedcfkjoppjdaa
open Go.ChangeShapes Go.WideShapes Go.ChangeAt Go.RowKit Go.Lib
set_option linter.unusedVariables false
set_option linter.unusedSimpArgs false
set_option maxRecDepth 100000

/-- Null. -/
abbrev zv : Vl := ⟨0, 0, ⟨#[]⟩⟩
abbrev zc : Array Value := #[.int .u8 0, .int .i64 0, .string ⟨#[]⟩]
theorem made_at (n i r : Nat) (hi : i < n) (hr : r < 3) : (madeCells zc (n * 3))[i * 3 + r]? = some (zc[r]!) := by
  have h : i * 3 + r < n * 3 := by omega
  unfold madeCells
  rw [Array.getElem?_map, Array.getElem?_range, if_pos h]
  have e : (i * 3 + r) % zc.size = r := by
    show (i * 3 + r) % 3 = r
    omega
  simp only [Option.map_some, e]
theorem zeros_lie {W : World} {b n : Nat} (h : W.heap[b]? = some (.cells (madeCells zc (n * 3)) 45)) (hn : n ≤ 1000000) : VR W (.slice (some ⟨b, 0, none⟩) n n) (List.replicate n zv) := by
  have l0 := blk_lt h
  refine ⟨_, n, by rw [List.length_replicate], by rw [List.length_replicate]; exact Nat.le_refl _, by unfold maxLen; omega, fun j x hj => ?_⟩
  rw [List.getElem?_replicate] at hj
  split at hj
  · rename_i hjn
    cases hj
    have a0 := made_at n j 0 hjn (by omega)
    have a1 := made_at n j 1 hjn (by omega)
    have a2 := made_at n j 2 hjn (by omega)
    refine ⟨b, 0, rfl, l0, ?_, ?_, ?_, by simp [ByteArray.size, maxLen]⟩
    · unfold World.cell?
      simp only [h, Nat.zero_add]
      exact a0
    · unfold World.cell?
      simp only [h, Nat.zero_add]
      exact a1
    · unfold World.cell?
      simp only [h, Nat.zero_add]
      exact a2
  · cases hj
theorem zeros_new (w : World) (n : Nat) (hn : n ≤ 1000000) : VR (w.alloc (.cells (madeCells zc (n * 3)) 45)) (.slice (some ⟨w.heap.size, 0, none⟩) n n) (List.replicate n zv) := zeros_lie (MapKept.heap_alloc w _).1 hn
theorem info45 : (Try.prog.info? 45).map (fun i => (i.zero, i.size, i.bytes)) = some (some (.agg zc), 3, 32) := by kernel_rfl
theorem mk_vals (n : Nat) (hn : n ≤ 1000000) (W : World) : (Instr.makeSlice 35 (.int .i64 (n : Int)) (.int .i64 (n : Int))).run Try.prog W = .ok (.slice (some ⟨W.heap.size, 0, none⟩) n n) (W.alloc (.cells (madeCells zc (n * 3)) 45)) := by
  obtain ⟨i, hi, hz, hs, hb⟩ := info_parts info45
  have h := run_make (P := Try.prog) W 35 45 i (.agg zc) Try.underlying35 hi hz .i64 .i64 (n : Int) (n : Int) (by omega) (Int.le_refl _) (by rw [hb]; omega) (by omega)
  rw [h, hs, Int.toNat_natCast]
  rfl
theorem vTo_zeros (ls : List Sl) : ∀ n, n ≤ ls.length → vTo ls (List.replicate ls.length zv) n = true
  | 0, _ => rfl
  | n + 1, h => by
    have hy : ∃ y, ls[n]? = some y := ⟨ls[n]'(by omega), List.getElem?_eq_getElem _⟩
    obtain ⟨y, hy⟩ := hy
    refine vTo_next (vTo_zeros ls n (by omega)) hy (x := zv) (by rw [List.getElem?_replicate, if_pos (by omega)]) ?_
    unfold goB
    simp [mayB, ByteArray.toList_eq]
theorem fit_zeros (ls : List Sl) : fitL ls (List.replicate ls.length zv) = 0 := by
  unfold fitL
  rw [List.length_replicate, if_neg (by simp), vTo_zeros ls _ (Nat.le_refl _), if_pos rfl]
theorem fit_len {ls : List Sl} {s : List Vl} (h : s.length ≠ ls.length) : fitL ls s = 14 := by unfold fitL; rw [if_pos h]
/-- Fits, asked of so many Nulls. -/
theorem fits_nulls (l : List Tp) (v : Value) (m M : Nat) (x : Tp) (hx : l[m]? = some x) (hm : m ≤ 1000000) (hM : M ≤ 1000000) (E : Int) (hE : fitL x.l (List.replicate M zv) = E) (W : World) (hW : TR W v l) :
    Calls Try.prog 22 #[v, .int .i64 (m : Int), .slice (some ⟨W.heap.size, 0, none⟩) M M] (W.alloc (.cells (madeCells zc (M * 3)) 45)) fun e w' => e = .returned (.int .i64 E) ∧ Old W w' := by
  refine (fits_any l v (m : Int) (List.replicate M zv) _ _ (hW.old ((Old.refl _).alloc _)) (zeros_new W M hM) (by omega)).mono fun e w' h => ⟨?_, ((Old.refl _).alloc _).trans h.2⟩
  rw [h.1, fitsI_at hx, hE]
/-- A value put in the place of one of those that fit. -/
theorem vTo_set {ls : List Sl} {s : List Vl} (hs : s.length = ls.length) (h : vTo ls s s.length = true) (m : Nat) : vTo ls (s.set m zv) (s.set m zv).length = true := by
  have key : ∀ n, n ≤ s.length → vTo ls s n = true → vTo ls (s.set m zv) n = true := by
    intro n
    induction n with
    | zero => intro _ _; rfl
    | succ n ih =>
      intro hn ht
      rw [vTo, Bool.and_eq_true] at ht
      have hy : ∃ y, ls[n]? = some y := ⟨ls[n]'(by omega), List.getElem?_eq_getElem _⟩
      obtain ⟨y, hy⟩ := hy
      have hx : ∃ x, s[n]? = some x := ⟨s[n]'(by omega), List.getElem?_eq_getElem _⟩
      obtain ⟨x, hx⟩ := hx
      have ht2 := ht.2
      rw [hy, hx] at ht2
      by_cases e : n = m
      · subst e
        refine vTo_next (ih (by omega) ht.1) hy (x := zv) (by rw [List.getElem?_set_self (by omega)]) ?_
        unfold goB
        simp [mayB, ByteArray.toList_eq]
      · refine vTo_next (ih (by omega) ht.1) hy (x := x) (by rw [List.getElem?_set_ne (by omega)]; exact hx) ht2
  rw [List.length_set]
  exact key _ (Nat.le_refl _) h
theorem fit_set {ls : List Sl} {s : List Vl} (h : fitL ls s = 0) (m : Nat) : fitL ls (s.set m zv) = 0 ∧ s.length = ls.length := by
  unfold fitL at h
  by_cases e : s.length = ls.length
  · rw [if_neg (by simpa using e)] at h
    cases hv : vTo ls s s.length
    · rw [hv] at h; simp at h
    · unfold fitL
      rw [if_neg (by rw [List.length_set]; simpa using e), vTo_set e hv m]
      exact ⟨rfl, e⟩
  · rw [if_pos e] at h
    cases h
end Go.Proofs.Ytcedcfkjoppjdaa
