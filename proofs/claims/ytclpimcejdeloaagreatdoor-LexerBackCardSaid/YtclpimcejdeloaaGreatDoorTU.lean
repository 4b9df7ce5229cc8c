/- Layer lexer, plain: a text that is cut; places rise; words told again; lines further down. -/
import Derived.Test.YtclpimcejdeloaaGreatDoorTT
namespace Go.Proofs.YtclpimcejdeloaaGreatDoor
set_option linter.unusedVariables false
set_option linter.unusedSimpArgs false
set_option maxRecDepth 100000

theorem take_len {l : List UInt8} (hl : l ≠ []) : (l.take (wlen l)).length = wlen l := by
  rw [List.length_take]
  have := wlen_le hl
  omega
/-- A text that is cut right ahead of a word has the words ahead of it. -/
theorem Wds.cut {s : List UInt8} {L C : Nat} {T : List Tk} {E ln cl : Int} (h : Wds s L C T E ln cl) : ∀ k x, T[k]? = some x →
    ∃ u v, s = u ++ v ∧ v ≠ [] ∧ x.ln = ((adv u L C).1 : Int) ∧ x.cl = ((adv u L C).2 : Int) ∧ Wds u L C (T.take k) 0 0 0 := by
  induction h with
  | done hs => intro k x hx; cases hx
  | bad hs h1 => intro k x hx; cases hx
  | @word l L C c r L' C' T E ln cl hs h1 _ ih =>
    intro k x hx
    obtain ⟨u0, g1, g2, g3, g4⟩ := skip_adv false l L C
    rw [hs] at g1 g2 g3 g4
    simp only at g1 g2 g3 g4
    cases k with
    | zero =>
      rw [List.getElem?_cons_zero] at hx
      injection hx with hx
      subst hx
      exact ⟨u0, c :: r, g1, by simp, by rw [g2]; rfl, by rw [g2]; rfl, .done g3⟩
    | succ k =>
      rw [List.getElem?_cons_succ] at hx
      obtain ⟨u1, v1, e1, e2, e3, e4, e5⟩ := ih k x hx
      have hn : (c :: r : List UInt8) ≠ [] := by simp
      obtain ⟨w, hw⟩ : ∃ w, w = (c :: r).take (wlen (c :: r)) := ⟨_, rfl⟩
      have hwl : w.length = wlen (c :: r) := by rw [hw, take_len hn]
      have hcr : c :: r = w ++ u1 ++ v1 := by
        rw [List.append_assoc, ← e1, hw, List.take_append_drop]
      have hwu : w ++ u1 ≠ [] := by
        intro e
        have := congrArg List.length e
        rw [List.length_append, hwl, List.length_nil] at this
        have := wlen_pos (c :: r)
        omega
      have hle : wlen (w ++ u1 ++ v1) ≤ (w ++ u1).length := by
        rw [← hcr, List.length_append, hwl]
        omega
      have hm := mean_cut hwu hle
      have hk := (word_cut hwu hle).2
      rw [← hcr] at hm hk
      obtain ⟨d, y, hdy⟩ := List.exists_cons_of_ne_nil hwu
      have hdc : d = c := by
        rw [hdy] at hcr
        injection hcr with hcr
        exact hcr.symm
      have hsk := g4 c r y rfl
      rw [← hdc, ← hdy] at hsk
      refine ⟨u0 ++ (w ++ u1), v1, by rw [g1, hcr]; simp only [List.append_assoc], e2, ?_, ?_, ?_⟩
      · rw [e3, adv_app, g2, adv_app, adv_word w _ _ (by rw [hw]; exact word_no10 h1), hwl]
      · rw [e4, adv_app, g2, adv_app, adv_word w _ _ (by rw [hw]; exact word_no10 h1), hwl]
      · rw [List.take_succ_cons, ← hm]
        refine Wds.word' hsk hwu (by rw [hm]; exact h1) ?_
        rw [hk, List.drop_left' hwl]
        exact e5

def lt2 (a b : Nat × Nat) : Prop := a.1 < b.1 ∨ (a.1 = b.1 ∧ a.2 < b.2)
def le2 (a b : Nat × Nat) : Prop := a.1 < b.1 ∨ (a.1 = b.1 ∧ a.2 ≤ b.2)
theorem adv_ge : ∀ (u : List UInt8) (L C : Nat), le2 (L, C) (adv u L C) ∧ (1 ≤ C → 1 ≤ (adv u L C).2)
  | [], L, C => ⟨Or.inr ⟨rfl, Nat.le_refl _⟩, fun h => h⟩
  | c :: u, L, C => by
    rw [adv]
    split
    · have := adv_ge u (L + 1) 1
      refine ⟨?_, fun _ => this.2 (Nat.le_refl _)⟩
      rcases this.1 with h | h
      · exact Or.inl (by simp only at h ⊢; omega)
      · exact Or.inl (by have := h.1; simp only at this ⊢; omega)
    · have := adv_ge u L (C + 1)
      refine ⟨?_, fun _ => this.2 (by omega)⟩
      rcases this.1 with h | h
      · exact Or.inl h
      · exact Or.inr ⟨h.1, by have := h.2; simp only at this ⊢; omega⟩
/-- Places rise. -/
def Lt (x y : Tk) : Prop := x.ln < y.ln ∨ (x.ln = y.ln ∧ x.cl < y.cl)
theorem Wds.rise {s : List UInt8} {L C : Nat} {T : List Tk} {E ln cl : Int} (h : Wds s L C T E ln cl) : (∀ x ∈ T, (L : Int) < x.ln ∨ ((L : Int) = x.ln ∧ (C : Int) ≤ x.cl)) ∧ T.Pairwise Lt := by
  induction h with
  | done hs => exact ⟨fun x hx => (by cases hx), List.Pairwise.nil⟩
  | bad hs h1 => exact ⟨fun x hx => (by cases hx), List.Pairwise.nil⟩
  | @word l L C c r L' C' T E ln cl hs h1 _ ih =>
    obtain ⟨u0, g1, g2, g3, g4⟩ := skip_adv false l L C
    rw [hs] at g2
    simp only at g2
    have hge := (adv_ge u0 L C).1
    rw [g2] at hge
    unfold le2 at hge
    simp only at hge
    have hn := wlen_pos (c :: r)
    refine ⟨fun x hx => ?_, List.pairwise_cons.2 ⟨fun y hy => ?_, ih.2⟩⟩
    · rcases List.mem_cons.1 hx with rfl | hx
      · show (L : Int) < (L' : Int) ∨ ((L : Int) = (L' : Int) ∧ (C : Int) ≤ (C' : Int))
        omega
      · have := ih.1 x hx
        omega
    · have := ih.1 y hy
      show (L' : Int) < y.ln ∨ ((L' : Int) = y.ln ∧ (C' : Int) < y.cl)
      omega
theorem Wds.place {s : List UInt8} {L C : Nat} {T : List Tk} {E ln cl : Int} (h : Wds s L C T E ln cl) (h0 : E ≠ 0) (hL : 1 ≤ L) (hC : 1 ≤ C) : 1 ≤ ln ∧ 1 ≤ cl := by
  induction h with
  | done hs => exact absurd rfl h0
  | @bad l L C c r L' C' hs h1 =>
    obtain ⟨u0, g1, g2, g3, g4⟩ := skip_adv false l L C
    rw [hs] at g2
    simp only at g2
    have hge := adv_ge u0 L C
    rw [g2] at hge
    unfold le2 at hge
    simp only at hge
    have := hge.2 hC
    omega
  | @word l L C c r L' C' T E ln cl hs h1 _ ih =>
    obtain ⟨u0, g1, g2, g3, g4⟩ := skip_adv false l L C
    rw [hs] at g2
    simp only at g2
    have hge := adv_ge u0 L C
    rw [g2] at hge
    unfold le2 at hge
    simp only at hge
    have := hge.2 hC
    exact ih h0 (by omega) (by omega)

/-- So many lines further down. -/
def Tk.down (d : Nat) (x : Tk) : Tk := { x with ln := x.ln + d }
theorem skip_shift (d : Nat) : ∀ (m : Bool) (l : List UInt8) (L C : Nat) (l' : List UInt8) (L' C' : Nat), skipL m l L C = (l', L', C') → skipL m l (L + d) C = (l', L' + d, C')
  | m, [], L, C, l', L', C', h => by
    have e : skipL m [] L C = ([], L, C) := by cases m <;> rfl
    have e' : skipL m [] (L + d) C = ([], L + d, C) := by cases m <;> rfl
    rw [e] at h
    rw [e']
    cases h
    rfl
  | true, c :: r, L, C, l', L', C', h => by
    rw [skipL] at h ⊢
    split at h
    · next h1 => rw [if_pos h1, show L + d + 1 = L + 1 + d by omega]; exact skip_shift d false r _ _ _ _ _ h
    · next h1 => rw [if_neg h1]; exact skip_shift d true r _ _ _ _ _ h
  | false, c :: r, L, C, l', L', C', h => by
    rw [skipL] at h ⊢
    split at h
    · next h1 => rw [if_pos h1]; exact skip_shift d false r _ _ _ _ _ h
    · next h1 =>
      rw [if_neg h1]
      split at h
      · next h2 => rw [if_pos h2, show L + d + 1 = L + 1 + d by omega]; exact skip_shift d false r _ _ _ _ _ h
      · next h2 =>
        rw [if_neg h2]
        split at h
        · next h3 => rw [if_pos h3]; exact skip_shift d true r _ _ _ _ _ h
        · next h3 =>
          rw [if_neg h3]
          cases h
          rfl
theorem Wds.shift {s : List UInt8} {L C : Nat} {T : List Tk} {E ln cl : Int} (d : Nat) (h : Wds s L C T E ln cl) : Wds s (L + d) C (T.map (Tk.down d)) E (if E = 0 then 0 else ln + d) cl := by
  induction h with
  | done hs => exact .done (skip_shift d _ _ _ _ _ _ _ hs)
  | @bad l L C c r L' C' hs h1 =>
    rw [if_neg h1]
    have := Wds.bad (skip_shift d _ _ _ _ _ _ _ hs) h1
    rw [Int.natCast_add] at this
    exact this
  | @word l L C c r L' C' T E ln cl hs h1 _ ih =>
    have := Wds.word (skip_shift d _ _ _ _ _ _ _ hs) h1 ih
    rw [List.map_cons]
    have e : ((meanW (c :: r)).1.at L' C').down d = (meanW (c :: r)).1.at (L' + d) C' := by
      unfold Tk.at Tk.down
      simp only [Int.natCast_add]
    rw [e]
    exact this

/-- A word but for its place. -/
def Tk.bare (x : Tk) : Tk := { x with ln := 0, cl := 0 }
/-- w is that word, spelled. -/
def Good (w : List UInt8) (x : Tk) : Prop := w ≠ [] ∧ wlen w = w.length ∧ (meanW w).2 = 0 ∧ (meanW w).1.bare = x.bare
theorem Wds.good {s : List UInt8} {L C : Nat} {T : List Tk} {E ln cl : Int} (h : Wds s L C T E ln cl) : (∀ x ∈ T, Good (spellL x) x) ∧ (T.map fun x => (spellL x).length).sum ≤ s.length := by
  induction h with
  | done hs => exact ⟨fun x hx => (by cases hx), Nat.zero_le _⟩
  | bad hs h1 => exact ⟨fun x hx => (by cases hx), Nat.zero_le _⟩
  | @word l L C c r L' C' T E ln cl hs h1 _ ih =>
    have hn : (c :: r : List UInt8) ≠ [] := by simp
    have hsp : spellL ((meanW (c :: r)).1.at L' C') = (c :: r).take (wlen (c :: r)) := (show spellL ((meanW (c :: r)).1.at L' C') = spellL (meanW (c :: r)).1 from rfl).trans (spell_word h1)
    have hl := take_len hn
    refine ⟨fun x hx => ?_, ?_⟩
    · rcases List.mem_cons.1 hx with rfl | hx
      · rw [hsp]
        have hne : (c :: r).take (wlen (c :: r)) ≠ [] := by rw [take_cons (wlen_pos _)]; simp
        have hle : wlen ((c :: r).take (wlen (c :: r)) ++ (c :: r).drop (wlen (c :: r))) ≤ ((c :: r).take (wlen (c :: r))).length := by rw [List.take_append_drop, hl]; exact Nat.le_refl _
        have hk := (word_cut hne hle).2
        have hm := mean_cut hne hle
        rw [List.take_append_drop] at hk hm
        exact ⟨hne, by rw [hk, hl], by rw [hm]; exact h1, by rw [hm]; rfl⟩
      · exact ih.1 x hx
    · rw [List.map_cons, List.sum_cons, hsp, hl]
      have h2 := ih.2
      rw [List.length_drop] at h2
      have h3 := skip_len false l L C
      rw [hs] at h3
      have h4 := wlen_le hn
      simp only at h3
      omega
theorem Wds.skip {l l' : List UInt8} {L C L' C' : Nat} {T : List Tk} {E ln cl : Int} (hs : skipL false l L C = skipL false l' L' C') (h : Wds l' L' C' T E ln cl) : Wds l L C T E ln cl := by
  cases h with
  | done g => exact .done (hs.trans g)
  | bad g g0 => exact .bad (hs.trans g) g0
  | word g g0 g1 => exact .word (hs.trans g) g0 g1
/-- Words with that between. -/
def joinB (b : List UInt8) : List (List UInt8) → List UInt8
  | [] => []
  | [w] => w
  | w :: v :: ws => w ++ (b ++ joinB b (v :: ws))
/-- What may stand between: it is passed over, and ends a word. -/
def Between (b : List UInt8) : Prop := (∃ c r, b = c :: r ∧ Stop c) ∧ ∀ rest L C, ∃ L' C', skipL false (b ++ rest) L C = skipL false rest L' C'
theorem between_sp : Between [32] := ⟨⟨32, [], rfl, Or.inr rfl⟩, fun rest L C => ⟨L, C + 1, rfl⟩⟩
theorem between_nl : Between [10] := ⟨⟨10, [], rfl, Or.inl rfl⟩, fun rest L C => ⟨L + 1, 1, rfl⟩⟩
theorem between_rem : Between [32, 59, 32, 97, 32, 114, 101, 109, 97, 114, 107, 10] := ⟨⟨32, _, rfl, Or.inr rfl⟩, fun rest L C => ⟨L + 1, 1, rfl⟩⟩
theorem skip_word {w : List UInt8} (h0 : (meanW w).2 = 0) (x : List UInt8) (L C : Nat) : skipL false (w ++ x) L C = (w ++ x, L, C) := by
  have hk : kindL w ≠ 0 := by
    intro e
    rw [mean_k w 0 e] at h0
    exact absurd h0 (show ¬ (4 : Int) = 0 by decide)
  obtain ⟨c, r, rfl, h1, h2, h3⟩ := kind_pos hk
  exact skip_no c (r ++ x) L C h1 h2 h3
theorem back {b : List UInt8} (hb : Between b) : ∀ (T : List Tk), (∀ x ∈ T, Good (spellL x) x) → ∀ L C, ∃ T', Wds (joinB b (T.map spellL)) L C T' 0 0 0 ∧ T'.map Tk.bare = T.map Tk.bare
  | [], _, L, C => ⟨[], .done rfl, rfl⟩
  | [x], h, L, C => by
    obtain ⟨h1, h2, h3, h4⟩ := h x (List.mem_cons_self ..)
    have hs := skip_word h3 [] L C
    rw [List.append_nil] at hs
    refine ⟨[(meanW (spellL x)).1.at L C], Wds.word' hs h1 h3 ?_, ?_⟩
    · rw [h2, List.drop_length]
      exact .done rfl
    · rw [List.map_cons, List.map_cons, ← h4]
      rfl
  | x :: y :: T, h, L, C => by
    obtain ⟨h1, h2, h3, h4⟩ := h x (List.mem_cons_self ..)
    obtain ⟨⟨c, r, hcr, hc⟩, hsk⟩ := hb
    obtain ⟨L', C', hsk⟩ := hsk (joinB b ((y :: T).map spellL)) L (C + (spellL x).length)
    obtain ⟨T', g1, g2⟩ := back ⟨⟨c, r, hcr, hc⟩, by assumption⟩ (y :: T) (fun z hz => h z (List.mem_cons_of_mem _ hz)) L' C'
    obtain ⟨_, hw, hm⟩ := word_ext h1 h3 hc (r ++ joinB b ((y :: T).map spellL))
    rw [← List.cons_append, ← hcr] at hw hm
    refine ⟨(meanW (spellL x)).1.at L C :: T', ?_, ?_⟩
    · have := Wds.word' (skip_word h3 (b ++ joinB b ((y :: T).map spellL)) L C) (by simp [h1]) (by rw [hm]; exact h3) (T := T') (E := 0) (ln := 0) (cl := 0) (by
        rw [hw, h2, List.drop_left' rfl]
        exact Wds.skip hsk g1)
      rw [hm] at this
      exact this
    · rw [List.map_cons, List.map_cons, g2, ← h4]
      rfl
theorem joinB_len (b : List UInt8) : ∀ (ws : List (List UInt8)), (joinB b ws).length ≤ (ws.map List.length).sum + ws.length * b.length
  | [] => Nat.zero_le _
  | [w] => by simp [joinB]
  | w :: v :: ws => by
    have := joinB_len b (v :: ws)
    rw [joinB, List.length_append, List.length_append, List.map_cons, List.sum_cons, List.length_cons]
    rw [Nat.add_mul]
    omega
end Go.Proofs.YtclpimcejdeloaaGreatDoor
