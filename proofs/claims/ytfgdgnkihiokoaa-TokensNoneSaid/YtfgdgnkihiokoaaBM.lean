/- What is below a token, gathered step by step: plain. -/
import Derived.Test.YtfgdgnkihiokoaaBL
namespace Go.Proofs.Ytfgdgnkihiokoaa
set_option linter.unusedVariables false
set_option linter.unusedSimpArgs false

/-- Gathered so far: those of the first i have all their kids there; each but r is the kid of one of these. -/
structure Bf (L : List Tk) (r : Int) (i : Nat) (l : List Tk) : Prop where
  sub : ∀ t ∈ l, t ∈ L ∧ t.id ∈ bel r L
  top : r ∈ l.map (·.id)
  nd : (l.map (·.id)).Nodup
  shut : ∀ j x, j < i → l[j]? = some x → ∀ t ∈ L, t.par = x.id → t.id ∈ l.map (·.id)
  from_ : ∀ t ∈ l, t.id = r ∨ ∃ j x, j < i ∧ l[j]? = some x ∧ x.id = t.par
/-- The kids of one that was gathered, those that are told already. -/
structure Kd (L : List Tk) (x : Tk) (left : Int → Bool) (e : List Tk) : Prop where
  sub : ∀ t ∈ e, t ∈ L ∧ t.par = x.id ∧ left t.id = false
  nd : (e.map (·.id)).Nodup
  all : ∀ t ∈ L, t.par = x.id → left t.id = false → t.id ∈ e.map (·.id)

theorem Bf.start {L : List Tk} {last : Nat} (hg : Good L last) {t : Tk} (ht : t ∈ L) : Bf L t.id 0 [t] where
  sub := fun x hx => by rw [List.mem_singleton] at hx; subst hx; exact ⟨ht, (hg.bel_iff _ ht).2 (Or.inl rfl)⟩
  top := by simp
  nd := by simp
  shut := fun j x hj => by omega
  from_ := fun x hx => by rw [List.mem_singleton] at hx; subst hx; exact Or.inl rfl
theorem nodup_len {α : Type} [DecidableEq α] : ∀ {l L : List α}, l.Nodup → (∀ x ∈ l, x ∈ L) → l.length ≤ L.length
  | [], L, _, _ => Nat.zero_le _
  | a :: l, L, hn, hs => by
    obtain ⟨h1, h2⟩ := List.nodup_cons.1 hn
    have ha := hs a (by simp)
    have := nodup_len (l := l) (L := L.erase a) h2 (fun x hx => (List.mem_erase_of_ne (fun e => by subst e; exact h1 hx)).2 (hs x (by simp [hx])))
    rw [List.length_erase_of_mem ha] at this
    have : 0 < L.length := List.length_pos_of_mem ha
    rw [List.length_cons]
    omega
theorem nd_len {l L : List Tk} (hn : (l.map (·.id)).Nodup) (hs : ∀ t ∈ l, t ∈ L) : l.length ≤ L.length := by
  have h1 : l.Nodup := List.Pairwise.of_map (·.id) (fun a b h e => h (by rw [e])) hn
  exact nodup_len h1 hs
theorem Bf.len {L : List Tk} {r : Int} {i : Nat} {l : List Tk} (h : Bf L r i l) : l.length ≤ L.length := nd_len h.nd (fun t ht => (h.sub t ht).1)
theorem idx_eq {l : List Tk} (hn : (l.map (·.id)).Nodup) {i j : Nat} {x y : Tk} (hi : l[i]? = some x) (hj : l[j]? = some y) (e : x.id = y.id) : i = j := by
  have hi' : (l.map (·.id))[i]? = some x.id := by rw [List.getElem?_map, hi]; rfl
  have hj' : (l.map (·.id))[j]? = some y.id := by rw [List.getElem?_map, hj]; rfl
  rw [← e] at hj'
  obtain ⟨h1, h2⟩ := List.getElem?_eq_some_iff.1 hi'
  obtain ⟨h3, h4⟩ := List.getElem?_eq_some_iff.1 hj'
  exact (List.getElem_inj hn).1 (h2.trans h4.symm)
theorem Bf.nd_app {L : List Tk} {last : Nat} (hg : Good L last) {r : Int} {i : Nat} {l e : List Tk} {x : Tk} {left : Int → Bool} (h : Bf L r i l) (hx : l[i]? = some x) (hk : Kd L x left e) : ((l ++ e).map (·.id)).Nodup := by
  have hxl : x ∈ l := List.mem_iff_getElem?.2 ⟨i, hx⟩
  obtain ⟨hxL, hxb⟩ := h.sub x hxl
  have hxr := hg.bel_low r _ hxb
  rw [List.map_append, List.nodup_append]
  refine ⟨h.nd, hk.nd, fun a ha b hb e1 => ?_⟩
  subst e1
  obtain ⟨t, ht, e1⟩ := List.mem_map.1 ha
  obtain ⟨s, hs, e2⟩ := List.mem_map.1 hb
  obtain ⟨h1, h2, _⟩ := hk.sub s hs
  have est : t = s := id_inj hg.up (h.sub t ht).1 h1 (e1.trans e2.symm)
  subst est
  rcases h.from_ t ht with h3 | ⟨j, y, hj, hy, h3⟩
  · have := hg.parLt h1; omega
  · have := idx_eq h.nd hy hx (h3.trans h2)
    omega
theorem Bf.len_app {L : List Tk} {last : Nat} (hg : Good L last) {r : Int} {i : Nat} {l e : List Tk} {x : Tk} {left : Int → Bool} (h : Bf L r i l) (hx : l[i]? = some x) (hk : Kd L x left e) : (l ++ e).length ≤ L.length :=
  nd_len (h.nd_app hg hx hk) (fun t ht => by
    rcases List.mem_append.1 ht with ht | ht
    · exact (h.sub t ht).1
    · exact (hk.sub t ht).1)
/-- With all kids of the next one. -/
theorem Bf.step {L : List Tk} {last : Nat} (hg : Good L last) {r : Int} {i : Nat} {l e : List Tk} {x : Tk} {left : Int → Bool} (h : Bf L r i l) (hx : l[i]? = some x) (hk : Kd L x left e) (hall : ∀ t ∈ L, t.par = x.id → left t.id = false) : Bf L r (i + 1) (l ++ e) := by
  have hxl : x ∈ l := List.mem_iff_getElem?.2 ⟨i, hx⟩
  obtain ⟨hxL, hxb⟩ := h.sub x hxl
  have hxr := hg.bel_low r _ hxb
  refine ⟨fun t ht => ?_, ?_, ?_, fun j y hj hy t ht hp => ?_, fun t ht => ?_⟩
  · rcases List.mem_append.1 ht with ht | ht
    · exact h.sub t ht
    · obtain ⟨h1, h2, _⟩ := hk.sub t ht
      exact ⟨h1, (hg.bel_iff r h1).2 (Or.inr (h2 ▸ hxb))⟩
  · rw [List.map_append]; exact List.mem_append_left _ h.top
  · exact h.nd_app hg hx hk
  · rw [List.map_append]
    rcases Nat.lt_or_ge j i with hj' | hj'
    · have hjl : j < l.length := Nat.lt_trans hj' (List.getElem?_eq_some_iff.1 hx).1
      rw [List.getElem?_append_left hjl] at hy
      exact List.mem_append_left _ (h.shut j y hj' hy t ht hp)
    · obtain rfl : j = i := by omega
      rw [List.getElem?_append_left (List.getElem?_eq_some_iff.1 hx).1, hx] at hy
      obtain rfl := Option.some.inj hy
      exact List.mem_append_right _ (hk.all t ht hp (hall t ht hp))
  · rcases List.mem_append.1 ht with ht | ht
    · rcases h.from_ t ht with h3 | ⟨j, y, hj, hy, h3⟩
      · exact Or.inl h3
      · exact Or.inr ⟨j, y, by omega, by rw [List.getElem?_append_left (List.getElem?_eq_some_iff.1 hy).1]; exact hy, h3⟩
    · exact Or.inr ⟨i, x, by omega, by rw [List.getElem?_append_left (List.getElem?_eq_some_iff.1 hx).1]; exact hx, (hk.sub t ht).2.1.symm⟩
theorem Kd.start {L : List Tk} {x : Tk} {left : Int → Bool} (h : ∀ t ∈ L, t.par = x.id → left t.id = true) : Kd L x left [] :=
  ⟨fun t ht => (by simp at ht), by simp, fun t ht hp hl => by rw [h t ht hp] at hl; cases hl⟩
theorem Kd.step {L : List Tk} {last : Nat} (hg : Good L last) {x t : Tk} {left : Int → Bool} {e : List Tk} (h : Kd L x left e) (ht : t ∈ L) (hp : t.par = x.id) (hl : left t.id = true) : Kd L x (fun z => left z && !decide (z = t.id)) (e ++ [t]) := by
  refine ⟨fun s hs => ?_, ?_, fun s hs hq hl' => ?_⟩
  · rcases List.mem_append.1 hs with hs | hs
    · obtain ⟨h1, h2, h3⟩ := h.sub s hs
      exact ⟨h1, h2, by rw [h3]; rfl⟩
    · rw [List.mem_singleton] at hs; subst hs
      exact ⟨ht, hp, by simp⟩
  · rw [List.map_append, List.nodup_append]
    refine ⟨h.nd, by simp, fun a ha b hb e1 => ?_⟩
    subst e1
    obtain ⟨s, hs, e2⟩ := List.mem_map.1 ha
    have : a = t.id := by simpa using hb
    have h3 := (h.sub s hs).2.2
    rw [e2, this, hl] at h3
    cases h3
  · rw [List.map_append]
    by_cases e1 : s.id = t.id
    · exact List.mem_append_right _ (by simp [e1])
    · exact List.mem_append_left _ (h.all s hs hq (by simpa [e1] using hl'))
/-- Behind the last one: all below r. -/
theorem Bf.done {L : List Tk} {last : Nat} (hg : Good L last) {r : Int} {i : Nat} {l : List Tk} (h : Bf L r i l) (hi : l.length ≤ i) : ∀ t ∈ L, (t.id ∈ bel r L ↔ t ∈ l) := by
  intro t ht
  constructor
  · intro hb
    have := bel_least r L (fun z => z ∈ l.map (·.id)) h.top (fun s hs hps => by
      obtain ⟨y, hy, e⟩ := List.mem_map.1 hps
      obtain ⟨j, hj⟩ := List.mem_iff_getElem?.1 hy
      exact h.shut j y (Nat.lt_of_lt_of_le (List.getElem?_eq_some_iff.1 hj).1 hi) hj s hs e.symm) _ hb
    obtain ⟨y, hy, e⟩ := List.mem_map.1 this
    rw [← id_inj hg.up (h.sub y hy).1 ht e]
    exact hy
  · intro hl
    exact (h.sub t hl).2
theorem Bf.perm {L : List Tk} {last : Nat} (hg : Good L last) {r : Int} {i : Nat} {l : List Tk} (h : Bf L r i l) (hi : l.length ≤ i) : (l.map (·.id)).Perm ((gone r L).map (·.id)) := by
  refine (List.perm_ext_iff_of_nodup h.nd ?_).2 fun a => ?_
  · have : ((gone r L).map (·.id)).Pairwise (· < ·) := by rw [List.pairwise_map]; exact hg.up.filter _
    exact this.imp (fun h e => by omega)
  · constructor
    · intro ha
      obtain ⟨t, ht, rfl⟩ := List.mem_map.1 ha
      exact List.mem_map.2 ⟨t, List.mem_filter.2 ⟨(h.sub t ht).1, by simpa using (h.sub t ht).2⟩, rfl⟩
    · intro ha
      obtain ⟨t, ht, rfl⟩ := List.mem_map.1 ha
      obtain ⟨h1, h2⟩ := List.mem_filter.1 ht
      exact List.mem_map.2 ⟨t, (h.done hg hi t h1).1 (by simpa using h2), rfl⟩
theorem nd_tok {l : List Tk} (h : (l.map (·.id)).Nodup) : l.Nodup := List.Pairwise.of_map (·.id) (fun a b h e => h (by rw [e])) h
theorem Bf.perm2 {L : List Tk} {last : Nat} (hg : Good L last) {r : Int} {i : Nat} {l : List Tk} (h : Bf L r i l) (hi : l.length ≤ i) : l.Perm (gone r L) := by
  refine (List.perm_ext_iff_of_nodup (nd_tok h.nd) ?_).2 fun a => ?_
  · exact (hg.up.filter _).imp (fun h e => by rw [e] at h; omega)
  · constructor
    · intro ha
      exact List.mem_filter.2 ⟨(h.sub a ha).1, by simpa using (h.sub a ha).2⟩
    · intro ha
      obtain ⟨h1, h2⟩ := List.mem_filter.1 ha
      exact (h.done hg hi a h1).1 (by simpa using h2)
end Go.Proofs.Ytfgdgnkihiokoaa
