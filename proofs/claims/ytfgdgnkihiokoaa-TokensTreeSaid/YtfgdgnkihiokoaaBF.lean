/- The arena: put, take. -/
import Derived.Test.YtfgdgnkihiokoaaBE
import Derived.StillTailTactics
namespace Go.Proofs.Ytfgdgnkihiokoaa
open Go.ChangeShapes Go.WideShapes Go.ChangeAt Go.RowKit Go.Lib
set_option linter.unusedVariables false
set_option linter.unusedSimpArgs false
set_option maxRecDepth 100000

/-- What becomes of an arena in the blocks A: other blocks of it are new; nothing else turns. -/
def TurnA (w : World) (b : Bs) (A : Nat → Prop) (L' : List Tk) (last' cap' : Nat) (w' : World) : Prop := (∃ A', Ar w' b A' L' last' cap' ∧ ∀ j, A' j → A j ∨ w.heap.size ≤ j) ∧ Chg A w w'
theorem te_put (L : List Tk) (t : Tk) : te (L ++ [t]) = te L ++ [(t.id, tv t)] := by simp [te]
theorem pk_put (L : List Tk) (t : Tk) : pk (L ++ [t]) = pk L ++ [(t.par, t.id)] := by simp [pk]
theorem pn_put (L : List Tk) (t : Tk) : pn (L ++ [t]) = pn L ++ [(t.node, t.id)] := by simp [pn]
theorem pf_put (L : List Tk) {t : Tk} (h : t.fact ≠ 0) : pf (L ++ [t]) = pf L ++ [(t.fact, t.id)] := by simp [pf, h]
theorem pf_put0 (L : List Tk) {t : Tk} (h : t.fact = 0) : pf (L ++ [t]) = pf L := by simp [pf, h]
theorem lt_kids {L : List Tk} {i : Int} (h : ∀ x ∈ L, x.id < i) (k : Int) : ∀ x ∈ sel (pk L) k, x < i := fun x hx => by
  obtain ⟨t, ht, _, rfl⟩ := mem_kids.1 hx; exact h t ht
theorem lt_at {L : List Tk} {i : Int} (h : ∀ x ∈ L, x.id < i) (k : Int) : ∀ x ∈ sel (pn L) k, x < i := fun x hx => by
  obtain ⟨t, ht, _, rfl⟩ := mem_at.1 hx; exact h t ht
theorem lt_with {L : List Tk} {i : Int} (h : ∀ x ∈ L, x.id < i) (k : Int) : ∀ x ∈ sel (pf L) k, x < i := fun x hx => by
  obtain ⟨t, ht, _, _, rfl⟩ := mem_with.1 hx; exact h t ht
/-- A token whose numbers are ints. -/
structure T64 (t : Tk) : Prop where
  id : I64 t.id
  par : I64 t.par
  node : I64 t.node
  fact : I64 t.fact
/-- Steps of a change: what is owned, and what may turn. -/
structure Stp (w W : World) (A A' : Nat → Prop) : Prop where
  grow : ∀ j, A' j → A j ∨ w.heap.size ≤ j
  chg : Chg A w W
theorem Stp.ofOld {w W : World} (A : Nat → Prop) (h : Old w W) : Stp w W A A := ⟨fun j e => Or.inl e, Chg.ofOld h⟩
theorem Stp.next {w W W' : World} {A A' A'' S : Nat → Prop} (h : Stp w W A A') (hA : ∀ j, A'' j → A' j ∨ W.heap.size ≤ j) (hc : Chg S W W') (hS : ∀ j, S j → A' j) : Stp w W' A A'' :=
  ⟨fun j e => by
    rcases hA j e with e | e
    · exact h.grow j e
    · exact Or.inr (Nat.le_trans h.chg.size e), h.chg.later hc (fun k e => (h.grow k (hS k e)).symm)⟩
theorem Stp.old {w W W' : World} {A A' : Nat → Prop} (h : Stp w W A A') (ho : Old W W') : Stp w W' A A' := h.next (S := fun _ => False) (fun j e => Or.inl e) (Chg.ofOld ho) (fun _ e => e.elim)

theorem put_any {w : World} {b : Bs} {A : Nat → Prop} {L : List Tk} {last cap : Nat} (h : Ar w b A L last cap) (t : Tk) (ht : T64 t) (hlt : ∀ x ∈ L, x.id < t.id) (hcap : cap + 4 < 1000000) :
    Calls Try.prog 20 #[ptr b, tv t] w fun e w' => e = .returned (.tuple #[]) ∧ TurnA w b A (L ++ [t]) last (cap + 4) w' := by
  obtain ⟨K, N, F, h, rfl⟩ := h
  have HS0 := Lib.hid (Stp.ofOld (Al b K N F) ((Old.refl w).alloc (.cells #[.int .i64 t.id, .int .i64 t.par, .int .i64 t.node, .int .i64 t.fact] 32)))
  have H0 := Lib.hid (h.old ((Old.refl w).alloc (.cells #[.int .i64 t.id, .int .i64 t.par, .int .i64 t.node, .int .i64 t.fact] 32)))
  have B0 := Lib.hid (Tb.new w t)
  have B0n : Hid (¬ Al b K N F w.heap.size) := Lib.hid (fun e => by have := h.lt e; omega)
  have HT := Lib.hid ht
  have HL := Lib.hid hlt
  have hR : ∀ v : Value, Rm v = some (.held v, []) := fun v => rfl
  clear h ht hlt
  go_enter Try.func20, Try.ntmps20
  go_wp2
  generalize w.alloc (.cells #[.int .i64 t.id, .int .i64 t.par, .int .i64 t.node, .int .i64 t.fact] 32) = W0 at *
  have c1 := H0.out.cells.2.1
  obtain ⟨d0, d1, d2, d3⟩ := B0.out.cells
  go_still_tail 7, (by kernel_rfl)
  change wpList _ _ _ _ _ (World.drew W0)
  replace H0 := Lib.hid (H0.out.old (Old.refl W0).drew)
  replace B0 := Lib.hid (B0.out.old (Old.refl W0).drew)
  replace HS0 := Lib.hid (HS0.out.old (Old.refl W0).drew)
  clear c1 d0 d1 d2 d3
  generalize World.drew W0 = W1 at *
  go_wp2_with (at_mapUpdate; refine wpList_mapUpdate_in _ rfl _ _ _ 49 rfl 3 32 keyed3 Try.underlying49 Rm b.t cap (Dz (te L)) rfl H0.out.tok (by unfold maxLen; omega) _ _ _ rfl rfl (key_int HT.out.id) _ [] (hR (tv t)) ?_; intro W2 hown ht; rw [Dz_put (E := te L) (x := (t.id, tv t)) (by
      intro y hy
      obtain ⟨x, hx, rfl⟩ := List.mem_map.1 hy
      exact HL.out x hx), ← te_put] at hown; have H2 := Lib.hid (H0.out.setT (Nat.le_succ cap) hown ht); have B2 := Lib.hid (B0.out.chg (Chg.ofTurn ht) (fun e => B0n.out (Or.inr (Or.inl e)))); have HS2 := Lib.hid (HS0.out.next (fun j e => Or.inl e) (Chg.ofTurn ht) (fun j e => Or.inr (Or.inl e))); clear hown ht H0 B0 HS0)
  have BN2 := B0n
  have c1 := H2.out.cells.2.2.1
  obtain ⟨d0, d1, d2, d3⟩ := B2.out.cells
  go_still_tail 8, (by kernel_rfl)
  change wpList _ _ _ _ _ (World.drew W2)
  replace H2 := Lib.hid (H2.out.old (Old.refl W2).drew)
  replace B2 := Lib.hid (B2.out.old (Old.refl W2).drew)
  replace HS2 := Lib.hid (HS2.out.old (Old.refl W2).drew)
  clear c1 d0 d1 d2 d3
  generalize World.drew W2 = W3d at *
  go_wp2_with (go_at_call 26; (with_reducible refine (put_ix H2.out.kids HT.out.par HT.out.id (lt_kids HL.out _) (by omega)).mono ?_); rintro e W3 ⟨rfl, hp⟩; rw [← pk_put] at hp; obtain ⟨X3, h, hg, hc⟩ := H2.out.setK (Nat.le_succ _) hp; have H3 := Lib.hid h; have B3 := Lib.hid (B2.out.chg hc (fun e => BN2.out (Or.inr (Or.inr (Or.inl e))))); have BN3 := Lib.hid (fun e => (hg _ e).elim BN2.out (fun e => by have := B2.out.lt; omega)); have HS3 := Lib.hid (HS2.out.next hg hc (fun j e => Or.inr (Or.inr (Or.inl e)))); clear h hg hc hp H2 B2 BN2 HS2)
  by_cases hf : t.fact = 0
  · have hb : (t.fact != 0) = false := by simp [hf]
    have c1 := H3.out.cells.2.2.2.1
    obtain ⟨d0, d1, d2, d3⟩ := B3.out.cells
    go_still_tail 8, (by kernel_rfl)
    change wpList _ _ _ _ _ (World.drew W3)
    replace H3 := Lib.hid (H3.out.old (Old.refl W3).drew)
    replace B3 := Lib.hid (B3.out.old (Old.refl W3).drew)
    replace HS3 := Lib.hid (HS3.out.old (Old.refl W3).drew)
    clear c1 d0 d1 d2 d3
    generalize World.drew W3 = W4d at *
    go_wp2_with (go_at_call 26; (with_reducible refine (put_ix H3.out.nodes HT.out.node HT.out.id (lt_at HL.out _) (by omega)).mono ?_); rintro e W4 ⟨rfl, hp⟩; rw [← pn_put] at hp; obtain ⟨X4, h, hg, hc⟩ := H3.out.setN (Nat.le_succ _) hp; have H4 := Lib.hid h; have B4 := Lib.hid (B3.out.chg hc (fun e => BN3.out (Or.inr (Or.inr (Or.inr (Or.inl e)))))); have BN4 := Lib.hid (fun e => (hg _ e).elim BN3.out (fun e => by have := B3.out.lt; omega)); have HS4 := Lib.hid (HS3.out.next hg hc (fun j e => Or.inr (Or.inr (Or.inr (Or.inl e))))); clear h hg hc hp H3 B3 BN3 HS3; have d3 := B4.out.cells.2.2.2)
    have e : pf (L ++ [t]) = pf L := pf_put0 L hf
    refine bodyPost_end (v := .tuple #[]) (by simp [results, Try.results20, go_sem]) rfl ⟨rfl, ⟨_, ⟨_, _, _, ?_, rfl⟩, HS4.out.grow⟩, HS4.out.chg⟩
    rw [e]
    exact H4.out.mono (Nat.le_succ _)
  · have hb : (t.fact != 0) = true := by simp [hf]
    have HF := Lib.hid hf
    clear hf
    have c1 := H3.out.cells.2.2.2.1
    obtain ⟨d0, d1, d2, d3⟩ := B3.out.cells
    go_still_tail 8, (by kernel_rfl)
    change wpList _ _ _ _ _ (World.drew W3)
    replace H3 := Lib.hid (H3.out.old (Old.refl W3).drew)
    replace B3 := Lib.hid (B3.out.old (Old.refl W3).drew)
    replace HS3 := Lib.hid (HS3.out.old (Old.refl W3).drew)
    clear c1 d0 d1 d2 d3
    generalize World.drew W3 = W4d at *
    go_wp2_with (go_at_call 26; (with_reducible refine (put_ix H3.out.nodes HT.out.node HT.out.id (lt_at HL.out _) (by omega)).mono ?_); rintro e W4 ⟨rfl, hp⟩; rw [← pn_put] at hp; obtain ⟨X4, h, hg, hc⟩ := H3.out.setN (Nat.le_succ _) hp; have H4 := Lib.hid h; have B4 := Lib.hid (B3.out.chg hc (fun e => BN3.out (Or.inr (Or.inr (Or.inr (Or.inl e)))))); have BN4 := Lib.hid (fun e => (hg _ e).elim BN3.out (fun e => by have := B3.out.lt; omega)); have HS4 := Lib.hid (HS3.out.next hg hc (fun j e => Or.inr (Or.inr (Or.inr (Or.inl e))))); clear h hg hc hp H3 B3 BN3 HS3; have d3 := B4.out.cells.2.2.2)
    clear d3
    have c1 := H4.out.cells.2.2.2.2
    obtain ⟨d0, d1, d2, d3⟩ := B4.out.cells
    go_still_tail 8, (by kernel_rfl)
    change wpList _ _ _ _ _ (World.drew W4)
    replace H4 := Lib.hid (H4.out.old (Old.refl W4).drew)
    replace B4 := Lib.hid (B4.out.old (Old.refl W4).drew)
    replace HS4 := Lib.hid (HS4.out.old (Old.refl W4).drew)
    clear c1 d0 d1 d2 d3
    generalize World.drew W4 = W5d at *
    go_wp2_with (go_at_call 26; (with_reducible refine (put_ix H4.out.facts HT.out.fact HT.out.id (lt_with HL.out _) (by omega)).mono ?_); rintro e W5 ⟨rfl, hp⟩; rw [← pf_put L HF.out] at hp; obtain ⟨X5, h, hg, hc⟩ := H4.out.setF (Nat.le_succ _) hp; have H5 := Lib.hid h; have B5 := Lib.hid (B4.out.chg hc (fun e => BN4.out (Or.inr (Or.inr (Or.inr (Or.inr e)))))); have BN5 := Lib.hid (fun e => (hg _ e).elim BN4.out (fun e => by have := B4.out.lt; omega)); have HS5 := Lib.hid (HS4.out.next hg hc (fun j e => Or.inr (Or.inr (Or.inr (Or.inr e))))); clear h hg hc hp H4 B4 BN4 HS4)
    exact bodyPost_end (v := .tuple #[]) (by simp [results, Try.results20, go_sem]) rfl ⟨rfl, ⟨_, ⟨_, _, _, H5.out, rfl⟩, HS5.out.grow⟩, HS5.out.chg⟩
end Go.Proofs.Ytfgdgnkihiokoaa
