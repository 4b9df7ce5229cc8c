/- Layer memory: Copy. -/
import Derived.Test.YtfhbnkdibhmmcaaQO
namespace Go.Proofs.Ytfhbnkdibhmmcaa
open Go.ChangeShapes Go.WideShapes Go.ChangeAt Go.RowKit Go.Lib
set_option linter.unusedVariables false
set_option linter.unusedSimpArgs false
set_option maxRecDepth 100000
attribute [local go_sem] Oper.semAt_some

theorem Chg.ofPut (w : World) (l : Nat) (o' : Obj) : Chg (· = l) w (w.putObj l o') :=
  have h := grownBy_putObj' w l o'
  ⟨h.os, h.output, h.size, fun k hk hs => h.block k hk (fun e => hs (by cases e; rfl))⟩
theorem loop_cell {w : World} {l : Nat} {r : Loop} (h : w.heap[l]? = some (.loop r)) : ∀ k o u, k = l → w.cell? ⟨k, o, none⟩ ≠ some u := by
  rintro k o u rfl e
  simp [World.cell?, h] at e
theorem MemE.put {w : World} {p b lim last : Nat} {E : List En} {l : Nat} {r : Loop} (h : MemE w p b lim last E) (o' : Obj) (ho : w.heap[l]? = some (.loop r)) : MemE (w.putObj l o') p b lim last E := by
  refine h.chg (Chg.ofPut w l o') (fun e => ?_) (fun e => ?_) (fun k o c e h1 => loop_cell ho k o _ e h1)
  · have := h.obj
    rw [e, ho] at this
    cases this
  · obtain ⟨es, clock, hb, _⟩ := h.own
    rw [e, ho] at hb
    cases hb
theorem MemE.more {w w' : World} {p b lim last n : Nat} {E : List En} (h : MemE w p b lim last E) {x : En} (hlt : ∀ y ∈ E, y.id < x.id) (hx : 1 ≤ x.id ∧ x.id ≤ last) (hr : VR w x.v x.l) (hl : x.l.length ≤ 10) (hno : ∀ y ∈ E, ¬ (y.t = x.t ∧ y.l = x.l)) (hroom : E.length < lim)
    (hown : w'.ownsMap Try.prog 3 Rm b n ((Dm E).put (.int .i64 x.id) (.held (fv x.id x.t x.v)))) (ht : w.mapTurned w' b) : MemE w' p b lim last (E ++ [x]) where
  obj := cells_turn h.obj ht
  own := by
    have := own_tight hown
    rw [Dm_put hlt, Dm_size] at this
    exact this
  up := by
    rw [List.pairwise_append]
    exact ⟨h.up, List.pairwise_singleton _ _, fun y hy z hz => by
      rw [List.mem_singleton] at hz
      subst hz
      exact hlt y hy⟩
  ids := fun y hy => by
    rcases List.mem_append.1 hy with hy | hy
    · exact h.ids y hy
    · rw [List.mem_singleton] at hy
      subst hy
      exact hx
  rows := fun y hy => by
    rcases List.mem_append.1 hy with hy | hy
    · exact ⟨(h.rows y hy).1.turn ht, (h.rows y hy).2⟩
    · rw [List.mem_singleton] at hy
      subst hy
      exact ⟨hr.turn ht, hl⟩
  uniq := by
    rw [List.pairwise_append]
    exact ⟨h.uniq, List.pairwise_singleton _ _, fun y hy z hz => by
      rw [List.mem_singleton] at hz
      subst hz
      exact hno y hy⟩
  room := by
    rw [List.length_append]
    exact hroom
  lims := h.lims
  lasts := h.lasts

theorem three_blk (w : World) (A B C : Obj) : (((w.alloc A).alloc B).alloc C).heap[w.heap.size]? = some A ∧ (((w.alloc A).alloc B).alloc C).heap[w.heap.size + 1]? = some B ∧ (((w.alloc A).alloc B).alloc C).heap[w.heap.size + 1 + 1]? = some C := by
  have h1 := (MapKept.heap_alloc w A).1
  have h2 := (MapKept.heap_alloc (w.alloc A) B).1
  have h3 := (MapKept.heap_alloc ((w.alloc A).alloc B) C).1
  have l1 := blk_lt h1
  have l2 := blk_lt h2
  refine ⟨?_, ?_, ?_⟩
  · exact (Below.heap_alloc _ C _ (by simp; omega)).trans ((Below.heap_alloc _ B _ (by simp)).trans h1)
  · rw [sz_alloc] at h2
    exact (Below.heap_alloc _ C _ (by simp)).trans h2
  · rw [sz_alloc, sz_alloc] at h3
    exact h3
/-- What the call has made ahead of the loop: an empty map, a memory, its variable. -/
structure Fc (w : World) (lim last cb cp cv : Nat) (W : World) : Prop where
  old : Old w W
  hb : w.heap.size ≤ cb
  hp : w.heap.size ≤ cp
  hv : w.heap.size ≤ cv
  map : W.ownsMap Try.prog 3 Rm cb 0 (Dm [])
  obj : W.heap[cp]? = some (.cells #[.int .i64 lim, .int .i64 last, .map (some cb)] 61 (0, 0))
  var : W.heap[cv]? = some (.cells #[.pointer (some ⟨cp, 0, none⟩)] 25 (0, 0))
/-- Between two rounds. -/
structure Cc (E : List En) (W0 : World) (lim last cb cp cv k : Nat) (W : World) : Prop where
  chg : Chg (· = cb) W0 W
  mem : ∃ E', E'.map En.ft = (E.take k).map En.ft ∧ MemE W cp cb lim last E'
  var : W.heap[cv]? = some (.cells #[.pointer (some ⟨cp, 0, none⟩)] 25 (0, 0))
theorem Cc.old {E : List En} {W0 A B : World} {lim last cb cp cv k : Nat} (h : Cc E W0 lim last cb cp cv k A) (ho : Old A B) : Cc E W0 lim last cb cp cv k B := by
  obtain ⟨E', h1, h2⟩ := h.mem
  exact ⟨h.chg.trans (Chg.ofOld ho), ⟨E', h1, h2.old ho⟩, (ho.block _ (blk_lt h.var)).trans h.var⟩
theorem Cc.put {E : List En} {W0 A : World} {lim last cb cp cv k l : Nat} {r : Loop} (h : Cc E W0 lim last cb cp cv k A) (o' : Obj) (hl : W0.heap.size ≤ l) (ho : A.heap[l]? = some (.loop r)) : Cc E W0 lim last cb cp cv k (A.putObj l o') := by
  obtain ⟨E', h1, h2⟩ := h.mem
  refine ⟨h.chg.later (Chg.ofPut A l o') (fun k e => Or.inl (by omega)), ⟨E', h1, h2.put _ ho⟩, ?_⟩
  have : l ≠ cv := fun e => by
    have := h.var
    rw [← e, ho] at this
    cases this
  have h' : A.heap[cv]? = _ := h.var
  exact (World.putObj_heap_other (Ne.symm this)).trans h'
/-- Behind the round's variable. -/
def Cd (E : List En) (W0 : World) (B lim last cb cp cv : Nat) (tm : Value → Value → Array Value) (k : Nat) (v : Value) (a : Act) (W : World) : Prop :=
  Cc E W0 lim last cb cp cv k W ∧ Ym E B k v W ∧ ∃ bf x y z, v = .agg #[x, y, z] ∧ Fb W bf x y z ∧ a = { tmps := tm (.pointer (some ⟨bf, 0, none⟩)) v, defers := [] }

theorem MemE.putD {w : World} {p b lim last : Nat} {E : List En} {l : Nat} {ds : Option (List Deferred)} (h : MemE w p b lim last E) (o' : Obj) (ho : w.heap[l]? = some (.deferred ds)) : MemE (w.putObj l o') p b lim last E := by
  refine h.chg (Chg.ofPut w l o') (fun e => ?_) (fun e => ?_) (fun k o c e h1 => ?_)
  · have := h.obj
    rw [e, ho] at this
    cases this
  · obtain ⟨es, clock, hb, _⟩ := h.own
    rw [e, ho] at hb
    cases hb
  · subst e
    simp [World.cell?, ho] at h1
theorem take_lt {R : En → En → Prop} {E : List En} (hp : E.Pairwise R) {k : Nat} {x : En} (hx : E[k]? = some x) : ∀ y ∈ E.take k, R y x := fun y hy => by
  rw [← List.take_append_drop k E] at hp
  exact (List.pairwise_append.1 hp).2.2 y hy x (List.mem_iff_getElem?.2 ⟨0, by rw [List.getElem?_drop]; exact hx⟩)
theorem ft_in {E' E : List En} {k : Nat} (h : E'.map En.ft = (E.take k).map En.ft) {y : En} (hy : y ∈ E') : ∃ z ∈ E.take k, z.ft = y.ft := by
  have : y.ft ∈ (E.take k).map En.ft := by
    rw [← h]
    exact List.mem_map.2 ⟨y, hy, rfl⟩
  exact List.mem_map.1 this
/-- One round more. -/
theorem Cc.more {w : World} {p b : Nat} {E : List En} {W0 A w6 : World} {lim last cb cp cv k n : Nat} (hm : MemE w p b lim last E) (h : Cc E W0 lim last cb cp cv k A) {x : En} (hx : E[k]? = some x) {v : Value} (hv : VR A v x.l) (hk : k < E.length)
    (hown : w6.ownsMap Try.prog 3 Rm cb n ((Dm (Classical.choose h.mem)).put (.int .i64 x.id) (.held (fv x.id x.t v)))) (ht : A.mapTurned w6 cb) : Cc E W0 lim last cb cp cv (k + 1) w6 := by
  obtain ⟨hE', hME⟩ := Classical.choose_spec h.mem
  generalize Classical.choose h.mem = E' at hE' hME hown
  have hlen : E'.length = k := by
    have := congrArg List.length hE'
    rw [List.length_map, List.length_map, List.length_take] at this
    omega
  have hxE := List.mem_iff_getElem?.2 ⟨k, hx⟩
  refine ⟨h.chg.trans (Chg.ofTurn ht), ⟨E' ++ [⟨x.id, x.t, v, x.l⟩], ?_, ?_⟩, cells_turn h.var ht⟩
  · rw [List.map_append, hE', List.take_add_one, hx, Option.toList_some, List.map_append]
    rfl
  · refine hME.more (fun y hy => ?_) (hm.ids x hxE) hv (hm.rows x hxE).2 (fun y hy e => ?_) (by have := hm.room; omega) hown ht
    · obtain ⟨z, hz, e⟩ := ft_in hE' hy
      have h1 := take_lt hm.up hx z hz
      have : z.id = y.id := congrArg Ft.id e
      show y.id < x.id
      omega
    · obtain ⟨z, hz, e'⟩ := ft_in hE' hy
      have h1 := take_lt hm.uniq hx z hz
      have t1 : z.t = y.t := congrArg Ft.t e'
      have l1 : z.l = y.l := congrArg Ft.l e'
      exact h1 ⟨t1.trans e.1, l1.trans e.2⟩

end Go.Proofs.Ytfhbnkdibhmmcaa
