/- TokensTree, plainly. -/
import Derived.Test.YtfgdgnkihiokoaaCE
namespace Go.Proofs.Ytfgdgnkihiokoaa
open Go.RowKit
set_option linter.unusedVariables false
set_option linter.unusedSimpArgs false

theorem rem_len (i : Int) (L : List Tk) : (remG i L).length + (remL i L).length = L.length := by
  unfold remG remL
  split
  · simp
  · exact gone_rest i L
theorem rem_one {L : List Tk} {last : Nat} (hg : Good L last) {k : Int} {r : List Int} (h : sel (pk L) 0 = k :: r) : sel (pk (remL k L)) 0 = r := by
  have hup := up_kids hg.up 0
  rw [h] at hup
  have hkr := (List.pairwise_cons.1 hup).1
  have hk : k ∈ sel (pk L) 0 := by rw [h]; simp
  obtain ⟨s, hs, hp, rfl⟩ := mem_kids.1 hk
  have hpos : 0 < s.id := by have := hg.parLt hs; omega
  have hc : ¬ (getT L s.id = none ∨ s.id = 0) := by
    rw [getT_mem hg.up hs]
    rintro (e | e)
    · cases e
    · omega
  unfold remL
  rw [if_neg hc]
  have e1 : sel (pk (rest s.id L)) 0 = (sel (pk L) 0).filter (fun i => decide (i ≠ s.id)) := by
    rw [sel_pk, sel_pk, List.filter_map]
    unfold rest
    rw [List.filter_filter, List.filter_filter]
    congr 1
    apply List.filter_congr
    intro t ht
    simp only [Function.comp]
    by_cases hp0 : t.par = 0
    · have hb := hg.bel_iff s.id ht
      have h0 : ¬ (0 : Int) ∈ bel s.id L := fun e => by have := hg.bel_low s.id _ e; omega
      rw [hp0] at hb
      by_cases e : t.id = s.id
      · have h1 : t.id ∈ bel s.id L := hb.2 (Or.inl e)
        have h2 : s.id ∈ bel s.id L := by rw [e] at h1; exact h1
        simp [hp0, h2, e]
      · have : ¬ t.id ∈ bel s.id L := fun hc => by
          rcases hb.1 hc with h1 | h1
          · exact e h1
          · exact h0 h1
        simp [hp0, this, e]
    · simp [hp0]
  rw [e1, h, List.filter_cons, if_neg (by simp), List.filter_eq_self.2]
  intro i hi
  have := hkr i hi
  simp; omega
def remAll (L : List Tk) (ks : List Int) : List Tk := ks.foldl (fun M k => remL k M) L
theorem remAll_snoc (L : List Tk) (ks : List Int) (k : Int) : remAll L (ks ++ [k]) = remL k (remAll L ks) := by simp [remAll]
theorem remAll_good {last : Nat} : ∀ (ks : List Int) {L : List Tk}, Good L last → Good (remAll L ks) last
  | [], L, h => h
  | k :: ks, L, h => remAll_good ks (remL_good h k)
theorem remAll_len : ∀ (ks : List Int) (L : List Tk), (remAll L ks).length ≤ L.length
  | [], L => Nat.le_refl _
  | k :: ks, L => Nat.le_trans (remAll_len ks (remL k L)) (remL_len k L)
theorem remAll_kids {last : Nat} : ∀ (ks : List Int) {L : List Tk}, Good L last → sel (pk L) 0 = ks → sel (pk (remAll L ks)) 0 = []
  | [], L, _, h => h
  | k :: ks, L, hg, h => remAll_kids ks (remL_good hg k) (rem_one hg h)
theorem only_root {L : List Tk} {last : Nat} (hg : Good L last) (h : sel (pk L) 0 = []) : L.length = 1 := by
  have key : ∀ n : Nat, ∀ t ∈ L, t.id.toNat ≤ n → t.id = 0 := by
    intro n
    induction n with
    | zero => intro t ht hn; have := (hg.low t ht).1; omega
    | succ n ih =>
      intro t ht hn
      refine Classical.byContradiction fun h0 => ?_
      obtain ⟨h1, p, hp, e⟩ := hg.par t ht h0
      have hp0 := ih p hp (by have := (hg.low p hp).1; omega)
      have : t.id ∈ sel (pk L) 0 := mem_kids.2 ⟨t, ht, by omega, rfl⟩
      rw [h] at this
      simp at this
  obtain ⟨r, hr⟩ := hg.root
  rcases r with _ | ⟨a, r⟩
  · rw [hr]; rfl
  · have ha : a ∈ L := by rw [hr]; simp
    have h1 := key a.id.toNat a ha (Nat.le_refl _)
    have hup := hg.up
    rw [hr] at hup
    have := (List.pairwise_cons.1 hup).1 a (by simp)
    rw [h1] at this
    have : (0 : Int) < 0 := this
    omega
theorem new_kid (L : List Tk) (last : Nat) (x : Ox) : (last : Int) + 1 ∈ sel (pk (L ++ [newT last x])) x.a :=
  mem_kids.2 ⟨newT last x, by simp, rfl, rfl⟩
theorem new_tuple {L : List Tk} {last : Nat} {x : Ox} (hg : Good (L ++ [newT last x]) (last + 1)) : tuple (L ++ [newT last x]) ((last : Int) + 1) = tuple (L ++ [newT last x]) x.a ++ (if x.c = 0 then [] else [x.c]) :=
  tuple_step hg.up (fun t ht => hg.parLt ht) (newT last x) (by simp) (show (last : Int) + 1 ≠ 0 by omega)
theorem new_get {L : List Tk} {last : Nat} {x : Ox} (hg : Good (L ++ [newT last x]) (last + 1)) : getT (L ++ [newT last x]) ((last : Int) + 1) = some (newT last x) := getT_mem hg.up (t := newT last x) (by simp)
end Go.Proofs.Ytfgdgnkihiokoaa
