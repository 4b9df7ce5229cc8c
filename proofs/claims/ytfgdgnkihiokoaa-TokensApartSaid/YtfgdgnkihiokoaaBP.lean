/- Tokens sorted by their numbers, by the library's own contract. -/
import Derived.Test.YtfgdgnkihiokoaaBN
import Derived.Shelf.SlSortCmp.WholeK
namespace Go.Proofs.Ytfgdgnkihiokoaa
open Go.Proofs Go.RowKit Go.Maps Go.Sort Go.Shelf Go.Lib
set_option linter.unusedVariables false
set_option linter.unusedSimpArgs false
set_option maxRecDepth 100000

instance : Inhabited Tk := ⟨noTk⟩
def encT (t : Tk) : List Value := [.int .i64 t.id, .int .i64 t.par, .int .i64 t.node, .int .i64 t.fact]
def cfT (x y : Tk) : Int := Lib.compareInt x.id y.id
theorem ltT (x y : Tk) : ltOf cfT x y = decide (x.id < y.id) := by
  unfold ltOf cfT Lib.compareInt
  by_cases h1 : x.id < y.id
  · simp [h1]
  · by_cases h2 : y.id < x.id <;> simp [h1, h2]
theorem swoT : SWO (ltOf cfT) where
  irrefl x := by rw [ltT]; simp
  trans x y z h1 h2 := by rw [ltT] at *; simp at *; omega
  ntrans x y z h1 h2 := by rw [ltT] at *; simp at *; omega

theorem closure29 (x y : Tk) (W : World) : Calls Try.prog 29 #[tv x, tv y] W fun e w' => e = .returned (.int .i64 (cfT x y)) ∧ ∃ q os', w' = grow (W.drewN q) os' := by
  have hcon : ∀ W', Calls Try.prog 30 #[.int .i64 x.id, .int .i64 y.id] W' fun e w' => e = .returned (.int .i64 (cfT x y)) ∧ w' = W' := fun W' => AnyG.cmp_Compare_int Try.laysCmp x.id y.id W'
  generalize cfT x y = r at hcon ⊢
  go_enter Try.func29, Try.ntmps29
  go_wp2_with (go_at_call 30; (with_reducible refine (hcon _).mono ?_); rintro e w' ⟨rfl, rfl⟩)
  go_ret
  exact ⟨rfl, 0, _, by rw [alloc_eq_grow, alloc_eq_grow, grow_grow]; rfl⟩

theorem tcs_cell : ∀ {l : List Tk} {j : Nat}, j < l.length * 4 → (tcs l)[j]? = (encT (l[j / 4]?.getD noTk))[j % 4]?
  | [], j, h => by simp at h
  | t :: l, 0, h => rfl
  | t :: l, 1, h => rfl
  | t :: l, 2, h => rfl
  | t :: l, 3, h => rfl
  | t :: l, j + 4, h => by
    have ih := tcs_cell (l := l) (j := j) (by simp at h; omega)
    rw [show (j + 4) / 4 = j / 4 + 1 by omega, show (j + 4) % 4 = j % 4 by omega]
    exact ih
theorem flat_tcs (l : List Tk) : (flatK encT 4 l.toArray).toList = tcs l := by
  apply List.ext_getElem?
  intro j
  by_cases h : j < l.length * 4
  · rw [tcs_cell h, Array.getElem?_toList]
    have hs : j < (flatK encT 4 l.toArray).size := by simpa using h
    have h4 : j / 4 < l.length := by omega
    have e1 := get_flatK encT 4 l.toArray j (by simpa using h)
    rw [getElem!_pos _ j hs] at e1
    rw [Array.getElem?_eq_getElem hs, e1]
    have e2 : l.toArray[j / 4]! = l[j / 4]?.getD noTk := by
      rw [List.getElem?_eq_getElem h4, Option.getD_some]
      simp [h4]
    rw [e2]
    have : j % 4 < (encT (l[j / 4]?.getD noTk)).length := by show j % 4 < 4; omega
    rw [List.getElem?_eq_getElem this]
    exact congrArg some (getElem!_pos (encT (l[j / 4]?.getD noTk)) (j % 4) this)
  · rw [List.getElem?_eq_none (by simp; omega), List.getElem?_eq_none (by rw [tcs_len]; omega)]

theorem perm_sorted {l G : List Tk} (hG : G.Pairwise (fun x y => x.id < y.id)) (hp : l.Perm G) {d : Array Tk} (hP : PermIn 0 l.toArray.size l.toArray d) (hS : SortedIn (ltOf cfT) 0 l.toArray.size d) : d = G.toArray := by
  obtain ⟨hsz, _, hperm⟩ := hP
  have e1 : d.extract 0 l.toArray.size = d := by rw [← hsz]; exact Array.extract_size
  rw [e1, Array.extract_size] at hperm
  have hp2 : d.toList.Perm G := hperm.trans (by simpa using hp)
  have : d.toList = G := by
    refine List.Perm.eq_of_pairwise (le := fun x y => decide (x.id ≤ y.id) = true) ?_ ?_ ?_ hp2
    · intro a b ha hb h1 h2
      simp only [decide_eq_true_eq] at h1 h2
      exact id_inj hG (hp2.mem_iff.1 ha) hb (by omega)
    · rw [List.pairwise_iff_getElem]
      intro i j hi hj hij
      have hi' : i < d.size := by simpa using hi
      have hj' : j < d.size := by simpa using hj
      have := hS i j (Nat.zero_le _) hij (by omega)
      rw [getElem!_pos d j hj', getElem!_pos d i hi', ltT] at this
      simp at this
      simpa using this
    · exact hG.imp (fun h => by simp only [decide_eq_true_eq]; omega)
  rw [← this]

theorem sort_any {w : World} {base n cap : Nat} {oa : Option Addr} {l G : List Tk} (h : Toks w base (.slice oa n cap) l) (hn : n = l.length) (hlen : l.length ≤ 1000000) (hne : l ≠ []) (hG : G.Pairwise (fun x y => x.id < y.id)) (hp : l.Perm G) :
    Calls Try.prog 28 #[.slice oa n cap, .func (.func 29) #[] #[]] w fun e w' => e = .returned (.tuple #[]) ∧ Toks w' base (.slice oa n cap) G ∧ Chg (fun j => (Value.slice oa n cap).ownBlock = some j) w w' := by
  subst hn
  have hpos : 0 < l.length := List.length_pos_iff.2 hne
  rcases h.2 with ⟨e, e2⟩ | ⟨g, cp, cur, e, hbase, hg, h1, h2, h3, h4⟩
  · omega
  · obtain ⟨rfl, rfl⟩ : oa = some ⟨g, 0, none⟩ ∧ cap = cp := by simpa using e
    have hgl := blk_lt hg
    have eg : ∀ args w, (callFunc 29 args).run Try.prog w = .ok (.enter 29 args) w := enters_of Try.func29 (by kernel_rfl) rfl
    have hH : HoldsK encT 4 w g 0 l.toArray := by
      intro j hj
      have hj' : j < l.length * 4 := by simpa using hj
      refine ⟨?_, by simp [World.frozen?, hg]⟩
      have e1 : (cur.toList.take (l.length * 4))[j]? = (tcs l)[j]? := by rw [h4]
      rw [List.getElem?_take_of_lt (by omega), Array.getElem?_toList, ← flat_tcs, Array.getElem?_toList, Array.getElem?_eq_getElem hj] at e1
      simp only [World.cell?, hg, Nat.zero_add]
      rw [getElem!_pos _ j hj]
      simpa using e1
    have hcon := AnyQ.slices_SortFunc Try.laysSortF 4 Try.isAgg32 Try.sizeOf32 encT (fun _ => rfl) (fun x v hv => by simp [encT] at hv; rcases hv with rfl | rfl | rfl | rfl <;> rfl) cfT swoT 29 #[] g 0 cap l.toArray w eg (fun _ _ _ _ x y => closure29 x y _) hH hgl (by simp; omega)
    change Calls Try.prog 28 _ _ _ at hcon
    refine (by simpa using hcon : Calls Try.prog 28 #[.slice (some ⟨g, 0, none⟩) l.length cap, .func (.func 29) #[] #[]] w _).mono ?_
    rintro e w' ⟨rfl, d', hP, hS, m, os, rfl⟩
    have hd := perm_sorted hG hp (d := d') (by simpa using hP) (by simpa using hS)
    subst hd
    have hGl : G.length = l.length := hp.length_eq.symm
    have hheap : (sortWorldK encT 4 w g 0 m G.toArray os).heap[g]? = some (.cells (putCells _root_.id 0 (flatK encT 4 G.toArray) cur) 32 (0, 0)) := by
      unfold sortWorldK putRowK
      rw [heap_grow_old _ _ (by simpa [putRow, mapBlock, Sort.ahead] using hgl)]
      simp [putRow, mapBlock, Sort.ahead, Array.getElem?_modify, hg, onCells]
    refine ⟨rfl, ⟨by rw [tcs_len], Or.inr ⟨g, cap, _, by rw [hGl], hbase, hheap, by rw [hGl]; exact h1, h2, by simp [putCells, h3], ?_⟩⟩, ?_⟩
    · rw [← flat_tcs]
      apply List.ext_getElem?
      intro j
      by_cases hj : j < G.length * 4
      · rw [List.getElem?_take_of_lt hj, Array.getElem?_toList, Array.getElem?_toList]
        have hjc : j < cur.size := by rw [h3]; omega
        have hjf : j < (flatK encT 4 G.toArray).size := by simpa using hj
        simp [putCells, hjc, hj]
      · rw [List.getElem?_take_eq_none (by omega), List.getElem?_eq_none (by simp; omega)]
    · refine ⟨rfl, rfl, by simp [sortWorldK, grow, putRowK, putRow, mapBlock, Sort.ahead], fun k hk hne => ?_⟩
      have hgk : g ≠ k := fun e => hne (by subst e; rfl)
      unfold sortWorldK putRowK
      rw [heap_grow_old _ _ (by simpa [putRow, mapBlock, Sort.ahead] using hk)]
      simp [putRow, mapBlock, Sort.ahead, Array.getElem?_modify, hgk]
end Go.Proofs.Ytfgdgnkihiokoaa
