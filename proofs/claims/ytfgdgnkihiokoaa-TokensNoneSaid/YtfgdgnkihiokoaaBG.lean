/- The arena: take. -/
import Derived.Test.YtfgdgnkihiokoaaBF
namespace Go.Proofs.Ytfgdgnkihiokoaa
open Go.ChangeShapes Go.WideShapes Go.ChangeAt Go.RowKit Go.Lib
set_option linter.unusedVariables false
set_option linter.unusedSimpArgs false
set_option maxRecDepth 100000

def delT (L : List Tk) (i : Int) : List Tk := L.filter fun x => decide (x.id ≠ i)
theorem te_take (L : List Tk) (i : Int) : (te L).filter (fun x => decide (x.1 ≠ i)) = te (delT L i) := by
  unfold te delT; rw [List.filter_map]; rfl
theorem pk_take {L : List Tk} (hu : L.Pairwise (fun x y => x.id < y.id)) {t : Tk} (ht : t ∈ L) : less (pk L) t.par t.id = pk (delT L t.id) := by
  unfold less pk delT
  rw [List.filter_map]
  congr 1
  apply List.filter_congr
  intro x hx
  simp only [Function.comp, ne_eq, Prod.mk.injEq]
  by_cases e : x.id = t.id
  · rw [id_inj hu hx ht e]; simp
  · simp [e]
theorem pn_take {L : List Tk} (hu : L.Pairwise (fun x y => x.id < y.id)) {t : Tk} (ht : t ∈ L) : less (pn L) t.node t.id = pn (delT L t.id) := by
  unfold less pn delT
  rw [List.filter_map]
  congr 1
  apply List.filter_congr
  intro x hx
  simp only [Function.comp, ne_eq, Prod.mk.injEq]
  by_cases e : x.id = t.id
  · rw [id_inj hu hx ht e]; simp
  · simp [e]
theorem pf_take {L : List Tk} (hu : L.Pairwise (fun x y => x.id < y.id)) {t : Tk} (ht : t ∈ L) : less (pf L) t.fact t.id = pf (delT L t.id) := by
  unfold less pf delT
  rw [List.filter_map, List.filter_filter, List.filter_filter]
  congr 1
  apply List.filter_congr
  intro x hx
  simp only [Function.comp, ne_eq, Prod.mk.injEq]
  by_cases e : x.id = t.id
  · rw [id_inj hu hx ht e]; simp
  · simp [e]

theorem take_any {w : World} {b : Bs} {A : Nat → Prop} {L : List Tk} {last cap : Nat} (h : Ar w b A L last cap) (hu : L.Pairwise (fun x y => x.id < y.id)) (t : Tk) (htL : t ∈ L) (ht : T64 t) (hcap : cap < 1000000) :
    Calls Try.prog 23 #[ptr b, tv t] w fun e w' => e = .returned (.tuple #[]) ∧ TurnA w b A (delT L t.id) last cap w' := by
  obtain ⟨K, N, F, h, rfl⟩ := h
  have HS0 := Lib.hid (Stp.ofOld (Al b K N F) ((Old.refl w).alloc (.cells #[.int .i64 t.id, .int .i64 t.par, .int .i64 t.node, .int .i64 t.fact] 32)))
  have H0 := Lib.hid (h.old ((Old.refl w).alloc (.cells #[.int .i64 t.id, .int .i64 t.par, .int .i64 t.node, .int .i64 t.fact] 32)))
  have B0 := Lib.hid (Tb.new w t)
  have B0n : Hid (¬ Al b K N F w.heap.size) := Lib.hid (fun e => by have := h.lt e; omega)
  have HT := Lib.hid ht
  have HU := Lib.hid hu
  have HTL := Lib.hid htL
  clear h ht hu htL
  go_enter Try.func23, Try.ntmps23
  go_wp2
  generalize w.alloc (.cells #[.int .i64 t.id, .int .i64 t.par, .int .i64 t.node, .int .i64 t.fact] 32) = W0 at *
  have c1 := H0.out.cells.2.1
  obtain ⟨d0, d1, d2, d3⟩ := B0.out.cells
  go_still_tail 6, (by kernel_rfl)
  change wpList _ _ _ _ _ (World.drew W0)
  replace H0 := Lib.hid (H0.out.old (Old.refl W0).drew)
  replace B0 := Lib.hid (B0.out.old (Old.refl W0).drew)
  replace HS0 := Lib.hid (HS0.out.old (Old.refl W0).drew)
  clear c1 d0 d1 d2 d3
  generalize World.drew W0 = W1 at *
  go_wp2_with (at_delete; refine wpList_delete_own _ rfl _ _ 49 3 rfl 32 keyed3 Try.underlying49 Rm b.t cap (Dz (te L)) rfl H0.out.tok _ _ rfl (key_int HT.out.id) ?_; intro W2 hown ht; rw [Dz_del, te_take] at hown; have H2 := Lib.hid (H0.out.setT (Nat.le_refl cap) hown ht); have B2 := Lib.hid (B0.out.chg (Chg.ofTurn ht) (fun e => B0n.out (Or.inr (Or.inl e)))); have HS2 := Lib.hid (HS0.out.next (fun j e => Or.inl e) (Chg.ofTurn ht) (fun j e => Or.inr (Or.inl e))); clear hown ht H0 B0 HS0)
  have BN2 := B0n
  have c1 := H2.out.cells.2.2.1
  obtain ⟨d0, d1, d2, d3⟩ := B2.out.cells
  go_still_tail 8, (by kernel_rfl)
  change wpList _ _ _ _ _ (World.drew W2)
  replace H2 := Lib.hid (H2.out.old (Old.refl W2).drew)
  replace B2 := Lib.hid (B2.out.old (Old.refl W2).drew)
  replace HS2 := Lib.hid (HS2.out.old (Old.refl W2).drew)
  clear c1 d0 d1 d2 d3
  generalize World.drew W2 = W3d at *
  go_wp2_with (go_at_call 31; (with_reducible refine (take_ix H2.out.kids HT.out.par HT.out.id (by omega)).mono ?_); rintro e W3 ⟨rfl, hp⟩; rw [pk_take HU.out HTL.out] at hp; obtain ⟨X3, h, hg, hc⟩ := H2.out.setK (Nat.le_refl _) hp; have H3 := Lib.hid h; have B3 := Lib.hid (B2.out.chg hc (fun e => BN2.out (Or.inr (Or.inr (Or.inl e))))); have BN3 := Lib.hid (fun e => (hg _ e).elim BN2.out (fun e => by have := B2.out.lt; omega)); have HS3 := Lib.hid (HS2.out.next hg hc (fun j e => Or.inr (Or.inr (Or.inl e)))); clear h hg hc hp H2 B2 BN2 HS2)
  have c1 := H3.out.cells.2.2.2.1
  obtain ⟨d0, d1, d2, d3⟩ := B3.out.cells
  go_still_tail 8, (by kernel_rfl)
  change wpList _ _ _ _ _ (World.drew W3)
  replace H3 := Lib.hid (H3.out.old (Old.refl W3).drew)
  replace B3 := Lib.hid (B3.out.old (Old.refl W3).drew)
  replace HS3 := Lib.hid (HS3.out.old (Old.refl W3).drew)
  clear c1 d0 d1 d2 d3
  generalize World.drew W3 = W4d at *
  go_wp2_with (go_at_call 31; (with_reducible refine (take_ix H3.out.nodes HT.out.node HT.out.id (by omega)).mono ?_); rintro e W4 ⟨rfl, hp⟩; rw [pn_take HU.out HTL.out] at hp; obtain ⟨X4, h, hg, hc⟩ := H3.out.setN (Nat.le_refl _) hp; have H4 := Lib.hid h; have B4 := Lib.hid (B3.out.chg hc (fun e => BN3.out (Or.inr (Or.inr (Or.inr (Or.inl e)))))); have BN4 := Lib.hid (fun e => (hg _ e).elim BN3.out (fun e => by have := B3.out.lt; omega)); have HS4 := Lib.hid (HS3.out.next hg hc (fun j e => Or.inr (Or.inr (Or.inr (Or.inl e))))); clear h hg hc hp H3 B3 BN3 HS3)
  have c1 := H4.out.cells.2.2.2.2
  obtain ⟨d0, d1, d2, d3⟩ := B4.out.cells
  go_still_tail 8, (by kernel_rfl)
  change wpList _ _ _ _ _ (World.drew W4)
  replace H4 := Lib.hid (H4.out.old (Old.refl W4).drew)
  replace B4 := Lib.hid (B4.out.old (Old.refl W4).drew)
  replace HS4 := Lib.hid (HS4.out.old (Old.refl W4).drew)
  clear c1 d0 d1 d2 d3
  generalize World.drew W4 = W5d at *
  go_wp2_with (go_at_call 31; (with_reducible refine (take_ix H4.out.facts HT.out.fact HT.out.id (by omega)).mono ?_); rintro e W5 ⟨rfl, hp⟩; rw [pf_take HU.out HTL.out] at hp; obtain ⟨X5, h, hg, hc⟩ := H4.out.setF (Nat.le_refl _) hp; have H5 := Lib.hid h; have B5 := Lib.hid (B4.out.chg hc (fun e => BN4.out (Or.inr (Or.inr (Or.inr (Or.inr e)))))); have BN5 := Lib.hid (fun e => (hg _ e).elim BN4.out (fun e => by have := B4.out.lt; omega)); have HS5 := Lib.hid (HS4.out.next hg hc (fun j e => Or.inr (Or.inr (Or.inr (Or.inr e))))); clear h hg hc hp H4 B4 BN4 HS4)
  exact bodyPost_end (v := .tuple #[]) (by simp [results, Try.results23, go_sem]) rfl ⟨rfl, ⟨_, ⟨_, _, _, H5.out, rfl⟩, HS5.out.grow⟩, HS5.out.chg⟩
end Go.Proofs.Ytfgdgnkihiokoaa
