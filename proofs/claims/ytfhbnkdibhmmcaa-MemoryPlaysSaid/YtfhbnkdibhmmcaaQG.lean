/- Layer memory: Add. -/
import Derived.Test.YtfhbnkdibhmmcaaQF
import Derived.Deep.RegionWith
namespace Go.Proofs.Ytfhbnkdibhmmcaa
open Go.ChangeShapes Go.WideShapes Go.ChangeAt Go.RowKit Go.Lib
set_option linter.unusedVariables false
set_option linter.unusedSimpArgs false
set_option maxRecDepth 100000

theorem add_nil (t : Int) (u : Value) (w : World) : Calls Try.prog 11 #[.pointer none, .int .i64 t, u] w fun e w' => e = .returned (.tuple #[.int .i64 0, .bool false, .int .i64 1]) ∧ w = w' := by
  go_enter Try.func11, Try.ntmps11
  go_wp2_with (go_at_call 29; (with_reducible refine (made_nil _).mono ?_); rintro e w1 ⟨rfl, rfl⟩)
  go_ret3
  exact ⟨rfl, rfl⟩

theorem idOf_pos {L : List Ft} {t : Int} {s : List Vl} (h1 : ∀ x ∈ L, 1 ≤ x.id) (h : ¬ idOf L t s = 0) : ∃ x ∈ L, x.id = idOf L t s ∧ x.t = t ∧ x.l = s := by
  unfold idOf at h ⊢
  cases hf : L.find? (fun x => decide (x.t = t ∧ x.l = s)) with
  | none => rw [hf] at h; exact absurd rfl h
  | some x =>
    have := List.find?_some hf
    rw [decide_eq_true_eq] at this
    exact ⟨x, List.mem_of_find?_eq_some hf, rfl, this.1, this.2⟩
theorem idOf_zero {L : List Ft} {t : Int} {s : List Vl} (h1 : ∀ x ∈ L, 1 ≤ x.id) (h : idOf L t s = 0) : ∀ x ∈ L, ¬ (x.t = t ∧ x.l = s) := fun x hx e => by
  unfold idOf at h
  cases hf : L.find? (fun x => decide (x.t = t ∧ x.l = s)) with
  | none =>
    rw [List.find?_eq_none] at hf
    have := hf x hx
    rw [decide_eq_true_eq] at this
    exact this e
  | some y =>
    rw [hf] at h
    have := h1 y (List.mem_of_find?_eq_some hf)
    simp only at h
    omega
theorem MemE.one {w : World} {p b lim last : Nat} {E : List En} (h : MemE w p b lim last E) : ∀ x ∈ E.map En.ft, 1 ≤ x.id := fun x hx => by
  obtain ⟨y, hy, rfl⟩ := List.mem_map.1 hx
  exact (h.ids y hy).1

theorem add_old {w : World} {p b lim last : Nat} {L : List Ft} (h : Mem w p b lim last L) (t : Int) (u : Value) (s : List Vl) (hs : VR w u s) (hi : ¬ idOf L t s = 0) : Calls Try.prog 11 #[.pointer (some ⟨p, 0, none⟩), .int .i64 t, u] w fun e w' => e = .returned (.tuple #[.int .i64 (idOf L t s), .bool false, .int .i64 0]) ∧ Old w w' := by
  have hf := find_any h t u s hs
  obtain ⟨E, rfl, h⟩ := h
  have hm := made_any h
  generalize idOf (E.map En.ft) t s = I at hi hf ⊢
  obtain ⟨ua, uc, rfl, _⟩ := hs
  have hi' : (I == 0) = false := by simpa using hi
  clear hi h
  go_enter Try.func11, Try.ntmps11
  go_wp2_with (first
    | (go_at_call 29; (with_reducible refine hm.mono ?_); rintro e w1 ⟨rfl, rfl⟩)
    | (go_at_call 21; (with_reducible refine hf.mono ?_); rintro e w2 ⟨rfl, ho⟩))
  go_ret3
  exact ⟨rfl, ho⟩
theorem add_full {w : World} {p b lim last : Nat} {L : List Ft} (h : Mem w p b lim last L) (t : Int) (u : Value) (s : List Vl) (hs : VR w u s) (hi : idOf L t s = 0) (hr : lim ≤ L.length) : Calls Try.prog 11 #[.pointer (some ⟨p, 0, none⟩), .int .i64 t, u] w fun e w' => e = .returned (.tuple #[.int .i64 0, .bool false, .int .i64 7]) ∧ Old w w' := by
  have hf := find_any h t u s hs
  rw [hi] at hf
  obtain ⟨E, rfl, h⟩ := h
  rw [List.length_map] at hr
  have hm := made_any h
  have HM := Lib.hid h
  have hr' : (lim : Int) ≤ (E.length : Int) := by omega
  obtain ⟨ua, uc, rfl, _⟩ := hs
  have hl := Dm_size E
  clear h hi hr
  go_enter Try.func11, Try.ntmps11
  go_wp2_with (first
    | (go_at_call 29; (with_reducible refine hm.mono ?_); rintro e w1 ⟨rfl, rfl⟩)
    | (go_at_call 21; (with_reducible refine hf.mono ?_); rintro e w2 ⟨rfl, ho⟩; have HO := Lib.hid ho; have HM2 := Lib.hid (HM.out.old ho); clear ho; obtain ⟨c0, c1, c2⟩ := obj_cells HM2.out.obj; have hlen := HM2.out.own.drew.len Try.underlying59 3; rw [hl] at hlen))
  go_region
  go_wp2
  go_ret3
  exact ⟨rfl, HO.out.drew⟩

/-- The last id goes up. -/
theorem MemE.bump {w w' : World} {p b lim last : Nat} {E : List En} (h : MemE w p b lim last E) (hl : last < 1000000) (hw : w' = w.setCell ⟨p, 1, none⟩ (.int .i64 ((last : Int) + 1))) : MemE w' p b lim (last + 1) E := by
  subst hw
  have hc := Chg.ofSet w ⟨p, 1, none⟩ (.int .i64 ((last : Int) + 1))
  have hpb : b ≠ p := fun e => by
    obtain ⟨es, clock, hb, _⟩ := h.own
    have := h.obj
    rw [← e, hb] at this
    cases this
  refine ⟨?_, own_chg h.own hc hpb, h.up, fun x hx => ⟨(h.ids x hx).1, ?_⟩, fun x hx => ⟨(h.rows x hx).1.chg hc (fun k o c e => h.noU8 k o c (Or.inl e)), (h.rows x hx).2⟩, h.uniq, h.room, h.lims, by omega⟩
  · have hob := h.obj
    show (w.heap.modify p _)[p]? = _
    rw [Array.getElem?_modify, if_pos rfl, hob]
    simp
  · have := (h.ids x hx).2
    omega
theorem MemE.add {w w' : World} {p b lim k n : Nat} {E : List En} (h : MemE w p b lim (k + 1) E) (hk : ∀ x ∈ E, x.id ≤ k) {x : En} (hx : x.id = ((k + 1 : Nat) : Int)) (hr : VR w x.v x.l) (hl : x.l.length ≤ 10) (hno : ∀ y ∈ E, ¬ (y.t = x.t ∧ y.l = x.l)) (hroom : E.length < lim)
    (hown : w'.ownsMap Try.prog 3 Rm b n ((Dm E).put (.int .i64 x.id) (.held (fv x.id x.t x.v)))) (ht : w.mapTurned w' b) : MemE w' p b lim (k + 1) (E ++ [x]) where
  obj := cells_turn h.obj ht
  own := by
    have := own_tight hown
    rw [Dm_put (fun y hy => by have := hk y hy; omega), Dm_size] at this
    exact this
  up := by
    rw [List.pairwise_append]
    exact ⟨h.up, List.pairwise_singleton _ _, fun y hy z hz => by
      rw [List.mem_singleton] at hz
      subst hz
      have := hk y hy
      omega⟩
  ids := fun y hy => by
    rcases List.mem_append.1 hy with hy | hy
    · exact h.ids y hy
    · rw [List.mem_singleton] at hy
      subst hy
      omega
  rows := fun y hy => by
    rcases List.mem_append.1 hy with hy | hy
    · exact ⟨(h.rows y hy).1.turn ht, (h.rows y hy).2⟩
    · rw [List.mem_singleton] at hy
      subst hy
      exact ⟨hr.turn ht, hl⟩
  uniq := by
    rw [List.pairwise_append]
    exact ⟨h.uniq, List.pairwise_singleton _ _, fun y hy z hz => by
      rw [List.mem_singleton] at hz
      subst hz
      exact hno y hy⟩
  room := by
    rw [List.length_append]
    exact hroom
  lims := h.lims
  lasts := h.lasts


end Go.Proofs.Ytfhbnkdibhmmcaa
