/- Vectors: the program's. -/
import Derived.Test.YtdcfaniimhjghaaOC
import Derived.Shelf.SlSortCmp.Whole1
import Derived.Shelf.SlSortCmp.NoneTotal
namespace Go.Proofs.Ytdcfaniimhjghaa
open Go.ChangeShapes Go.WideShapes Go.ChangeAt Go.RowKit Go.Lib Go.Sort Go.Shelf
set_option linter.unusedVariables false
set_option linter.unusedSimpArgs false
set_option maxRecDepth 100000
set_option maxHeartbeats 800000

theorem list_any {w : World} {v : Value} {l : List Int} (h : IR w v l) (hl : l.length ≤ 1000000) :
    Calls Try.prog 21 #[v] w fun e w' => ∃ v', e = .returned v' ∧ Ints w' w.heap.size v' l ∧ Old w w' := by
  have H := Lib.hid h
  have HL := Lib.hid (ics_one l)
  obtain ⟨oa, ca, rfl, _, _, _⟩ := h.shape
  obtain ⟨iI, hiI, hzI, hsI, hbI⟩ := info_parts info3
  have L1 := Lib.hid (show (0 + l.length) * 8 ≤ 140737488355328 by omega)
  have L2 := Lib.hid (show 0 + l.length ≤ maxLen by unfold maxLen; omega)
  clear h
  go_enter Try.func21, Try.ntmps21
  go_wp2_with (at_builtin; refine wpList_appC _ rfl _ _ 23 rfl w.heap.size 3 iI _ 1 8 Try.underlying23 hiI hzI hsI hbI rfl (Nat.zero_lt_succ 0) (.slice none 0 0) 0 [] rfl (World.ownsRow_nil _ _ _ _) (.slice oa l.length ca) l.length (ics l) rfl H.out HL.out L1.out L2.out (Nat.le_refl _) ?_; intro v' W1 hown hgrow _; have R1 : Hid (Ints W1 w.heap.size v' l) := Lib.hid (by unfold Ints; simpa using hown); have O1 := Lib.hid ((Old.refl w).grown hgrow (fun k hk => by simp [Value.ownBlock] at hk)); clear hown hgrow)
  go_ret
  exact ⟨_, rfl, R1.out, O1.out⟩

def cfI (x y : Int) : Int := cI y x
theorem ltI (x y : Int) : ltOf cfI x y = decide (y < x) := by
  unfold ltOf cfI
  rcases cI_cases y x with ⟨h, k⟩ | ⟨h, k⟩ | ⟨h, k⟩
  · simp [k, h]
  · have : ¬ y < x := by omega
    simp [k, this]
  · have : ¬ y < x := by omega
    simp [k, this]
theorem swoI : SWO (ltOf cfI) where
  irrefl x := by rw [ltI]; simp
  trans x y z h1 h2 := by rw [ltI] at *; simp at *; omega
  ntrans x y z h1 h2 := by rw [ltI] at *; simp at *; omega
theorem closure23 (x y : Int) (W : World) : Calls Try.prog 23 #[.int .i64 x, .int .i64 y] W fun e w' => e = .returned (.int .i64 (cfI x y)) ∧ w' = W := by
  have hcon : ∀ W', Calls Try.prog 24 #[.int .i64 y, .int .i64 x] W' fun e w' => e = .returned (.int .i64 (cfI x y)) ∧ w' = W' := fun W' => AnyG.cmp_Compare_int Try.laysCmp y x W'
  generalize cfI x y = r at hcon ⊢
  go_enter Try.func23, Try.ntmps23
  go_wp2_with (go_at_call 24; (with_reducible refine (hcon _).mono ?_); rintro e w' ⟨rfl, rfl⟩)
  go_ret
  exact ⟨rfl, rfl⟩
theorem perm_srt {l : List Int} {d : Array Int} (hP : PermIn 0 l.toArray.size l.toArray d) (hS : SortedIn (ltOf cfI) 0 l.toArray.size d) : d = (srt l).toArray := by
  obtain ⟨hsz, _, hperm⟩ := hP
  have e1 : d.extract 0 l.toArray.size = d := by rw [← hsz]; exact Array.extract_size
  rw [e1, Array.extract_size] at hperm
  have : d.toList = srt l := by
    refine srt_only (by simpa using hperm) ?_
    rw [List.pairwise_iff_getElem]
    intro i j hi hj hij
    have hi' : i < d.size := by simpa using hi
    have hj' : j < d.size := by simpa using hj
    have := hS i j (Nat.zero_le _) hij (by omega)
    rw [getElem!_pos d j hj', getElem!_pos d i hi', ltI] at this
    simp at this
    simpa using this
  rw [← this]
theorem sortInts_any {w : World} {base n cap : Nat} {oa : Option Addr} {l : List Int} (h : Ints w base (.slice oa n cap) l) (hn : n = l.length) (hlen : l.length ≤ 1000000) :
    Calls Try.prog 22 #[.slice oa n cap, .func (.func 23) #[] #[]] w fun e w' => e = .returned (.tuple #[]) ∧ Ints w' base (.slice oa n cap) (srt l) ∧ Chg (fun j => (Value.slice oa n cap).ownBlock = some j) w w' := by
  subst hn
  rcases Nat.eq_zero_or_pos l.length with h0 | hpos
  · have hc := AnyF.slices_SortFunc_none (ρ := Try.laysSortI_ren) { Try.laysSortI with } oa cap (.func (.func 23) #[] #[]) w
    change Calls Try.prog 22 _ _ _ at hc
    obtain rfl : l = [] := List.eq_nil_of_length_eq_zero h0
    refine hc.mono ?_
    rintro e w' ⟨rfl, rfl⟩
    exact ⟨rfl, by simpa [srt] using h, Chg.ofOld (Old.refl _)⟩
  · rcases h.2 with ⟨e, e2⟩ | ⟨g, cp, cur, e, hbase, hg, h1, h2, h3, h4⟩
    · omega
    · obtain ⟨rfl, rfl⟩ : oa = some ⟨g, 0, none⟩ ∧ cap = cp := by simpa using e
      have hgl := blk_lt hg
      have eg : ∀ args w, (callFunc 23 args).run Try.prog w = .ok (.enter 23 args) w := enters_of Try.func23 (by kernel_rfl) rfl
      have hH : Holds (Value.int .i64) w g 0 l.toArray := by
        intro j hj
        have hj' : j < l.length := by simpa using hj
        refine ⟨?_, by simp [World.frozen?, hg]⟩
        have e1 : (ics l)[j]? = some (.int .i64 l[j]) := ics_at (List.getElem?_eq_getElem hj')
        rw [← h4, List.getElem?_take_of_lt (by omega), Array.getElem?_toList] at e1
        simp only [World.cell?, hg, Nat.zero_add]
        rw [getElem!_pos _ j hj]
        simpa using e1
      have hcon := Any.slices_SortFunc Try.laysSortI (Value.int .i64) (fun _ => rfl) cfI swoI 23 #[] g 0 cap l.toArray w eg (fun _ _ _ _ x y => (closure23 x y _).mono fun e w' hh => ⟨hh.1, 0, #[], by rw [hh.2]; simp [grow_empty]; rfl⟩) hH hgl (by simp; omega)
      change Calls Try.prog 22 _ _ _ at hcon
      refine (by simpa using hcon : Calls Try.prog 22 #[.slice (some ⟨g, 0, none⟩) l.length cap, .func (.func 23) #[] #[]] w _).mono ?_
      rintro e w' ⟨rfl, d', hP, hS, m, os, rfl⟩
      have hd := perm_srt (l := l) (d := d') (by simpa using hP) (by simpa using hS)
      subst hd
      have hGl := srt_len l
      have hheap : (sortWorld (Value.int .i64) w g 0 m (srt l).toArray os).heap[g]? = some (.cells (putCells (Value.int .i64) 0 (srt l).toArray cur) 3 (0, 0)) := by
        unfold sortWorld
        rw [heap_grow_old _ _ (by simpa [putRow, mapBlock, Sort.ahead] using hgl)]
        simp [putRow, mapBlock, Sort.ahead, Array.getElem?_modify, hg, onCells]
      refine ⟨rfl, ⟨by rw [ics_len, Nat.mul_one], Or.inr ⟨g, cap, _, by rw [hGl], hbase, hheap, by rw [hGl]; exact h1, h2, by simp [putCells, h3], ?_⟩⟩, ?_⟩
      · apply List.ext_getElem?
        intro j
        by_cases hj : j < (srt l).length
        · have hjc : j < cur.size := by rw [h3]; omega
          rw [List.getElem?_take_of_lt (by omega), Array.getElem?_toList, ics_at (List.getElem?_eq_getElem hj)]
          simp [putCells, hjc, hj]
        · rw [List.getElem?_take_eq_none (by omega), List.getElem?_eq_none (by rw [ics_len]; omega)]
      · refine ⟨rfl, rfl, by simp [sortWorld, grow, putRow, mapBlock, Sort.ahead], fun k hk hne => ?_⟩
        have hgk : g ≠ k := fun e => hne (by subst e; rfl)
        unfold sortWorld
        rw [heap_grow_old _ _ (by simpa [putRow, mapBlock, Sort.ahead] using hk)]
        simp [putRow, mapBlock, Sort.ahead, Array.getElem?_modify, hgk]

/-- A new slice of one number. -/
theorem ints_one {W : World} {b base : Nat} {x : Int} (hb : base ≤ b) (h : W.heap[b]? = some (.cells #[.int .i64 x] 3 (0, 0))) : Ints W base (.slice (some ⟨b, 0, none⟩) 1 1) [x] :=
  ⟨rfl, Or.inr ⟨b, 1, _, rfl, hb, h, Nat.le_refl _, by unfold maxLen; omega, rfl, rfl⟩⟩
theorem Ints.from_base {w : World} {base : Nat} {v : Value} {l : List Int} (h : Ints w base v l) : ∀ k, v.ownBlock = some k → base ≤ k := fun k hk => by
  rcases h.2 with ⟨rfl, _⟩ | ⟨g, cap, cur, rfl, hb, _⟩
  · simp [Value.ownBlock] at hk
  · obtain rfl : g = k := by simpa [Value.ownBlock] using hk
    exact hb
theorem vector_any (s : Int) {w : World} {v : Value} {l : List Int} (h : IR w v l) (hl : l.length ≤ 1000000) :
    Calls Try.prog 10 #[.int .u8 s, v] w fun e w' => ∃ v', e = .returned v' ∧ Ints w' w.heap.size v' (vec s l) ∧ Old w w' := by
  by_cases hs : s = 3
  · subst hs
    have hsb : ((3 : Int) != 3) = false := rfl
    have hc := list_any h hl
    have ev : vec 3 l = srt l := by simp [vec]
    rw [ev]
    have HL := Lib.hid hl
    obtain ⟨oa, ca, rfl, _, _, _⟩ := h.shape
    clear h ev hl
    have key : ∀ (v1 : Value) (w1 : World), Ints w1 w.heap.size v1 l → Old w w1 → Calls Try.prog 22 #[v1, .func (.func 23) #[] #[]] w1 fun e w2 => e = .returned (.tuple #[]) ∧ Hid (Ints w2 w.heap.size v1 (srt l) ∧ Old w w2) := fun v1 w1 hi ho => by
      obtain ⟨ob, cb, rfl⟩ := hi.shape
      refine (sortInts_any hi rfl HL.out).mono ?_
      rintro e w2 ⟨rfl, h1, h2⟩
      exact ⟨rfl, h1, h2.old ho (fun k hk => hi.from_base k hk)⟩
    have KEY := Lib.hid key
    clear key
    go_enter Try.func10, Try.ntmps10
    go_wp2_with (first
      | (go_at_call 21; (with_reducible refine hc.mono ?_); rintro e w1 ⟨v1, rfl, hi, ho⟩; have K1 := KEY.out v1 w1 hi ho; clear hi ho)
      | (go_at_call 22; (with_reducible refine K1.mono ?_); rintro e w2 ⟨rfl, H2⟩))
    go_ret
    exact ⟨_, rfl, H2.out.1, H2.out.2⟩
  · have hsb : (s != 3) = true := by simpa using hs
    have hc := greatest_any h
    have ev : vec s l = [(srt l).headD 0] := by simp [vec, hs]
    rw [ev]
    generalize (srt l).headD 0 = R at hc ⊢
    obtain ⟨oa, ca, rfl, _, _, _⟩ := h.shape
    clear h ev hl
    go_enter Try.func10, Try.ntmps10
    go_wp2_with (first | (go_at_call 20; (with_reducible refine hc.mono ?_); rintro e w2 ⟨rfl, rfl⟩))
    go_ret
    exact ⟨_, rfl, ints_one (Nat.le_refl _) (MapKept.heap_alloc _ _).1, (Old.refl _).alloc _⟩
end Go.Proofs.Ytdcfaniimhjghaa
