/- Sets by a number: one less. -/
import Derived.Test.YtfgdgnkihiokoaaBC
namespace Go.Proofs.Ytfgdgnkihiokoaa
open Go.ChangeShapes Go.WideShapes Go.ChangeAt Go.RowKit Go.Lib
set_option linter.unusedVariables false
set_option linter.unusedSimpArgs false
set_option maxRecDepth 100000

def less (P : Prs) (k id : Int) : Prs := P.filter fun x => decide (x ≠ (k, id))
theorem sel_less (P : Prs) (k id k' : Int) : sel (less P k id) k' = if k' = k then (sel P k').filter (fun i => decide (i ≠ id)) else sel P k' := sel_take P k id k'
/-- One less of a number that still has some. -/
theorem Ix.part {w w' : World} {b g : Nat} {G : Int → Option Nat} {P : Prs} {cap : Nat} {D : DataW Value} (h : Ix w b G P cap D) {k id : Int} (hg : G k = some g) (hn : (sel P k).filter (fun i => decide (i ≠ id)) ≠ [])
    (hown : w'.ownsMap Try.prog 3 Rm g cap (Dz (se ((sel P k).filter fun i => decide (i ≠ id))))) (ht : w.mapTurned w' g) : Ix w' b G (less P k id) cap D := by
  have hc := Chg.ofTurn ht
  have hgb : b ≠ g := fun e => h.ne k (by rw [hg, e])
  refine ⟨own_chg h.own hc hgb, h.at_, h.no, fun k' g' hg' => ?_, fun k' hk' => ?_, h.inj, h.ne⟩
  · rw [sel_less]
    split
    · rename_i e
      subst e
      obtain rfl : g = g' := by rw [hg] at hg'; exact Option.some.inj hg'
      exact ⟨hn, hown, (h.sets k' g hg).2.up.filter _, fun i hi => (h.sets k' g hg).2.low i (List.mem_filter.1 hi).1⟩
    · rename_i e
      refine ⟨(h.sets k' g' hg').1, (h.sets k' g' hg').2.chg hc (fun e2 => e ?_)⟩
      exact h.inj k' k g (e2 ▸ hg') hg
  · rw [sel_less, if_neg (fun e => by rw [e, hg] at hk'; cases hk')]
    exact h.none_ k' hk'
/-- The last one of a number. -/
theorem Ix.drop {w w' : World} {b : Nat} {G : Int → Option Nat} {P : Prs} {cap : Nat} {D : DataW Value} (h : Ix w b G P cap D) {k id : Int} (hn : (sel P k).filter (fun i => decide (i ≠ id)) = [])
    (hown : w'.ownsMap Try.prog 3 Rm b cap (D.del (.int .i64 k))) (hc : Chg (fun j => j = b ∨ G k = some j) w w') : Ix w' b (setG G k none) (less P k id) cap (D.del (.int .i64 k)) := by
  have hkk : ∀ {k' : Int}, k' ≠ k → (Lit.int .i64 k') ≠ .int .i64 k := fun hk e => hk (by injection e)
  have hs : ∀ k' g', setG G k none k' = some g' → k' ≠ k ∧ G k' = some g' := fun k' g' e => by
    by_cases e1 : k' = k
    · subst e1; rw [setG_same] at e; cases e
    · rw [setG_other e1] at e; exact ⟨e1, e⟩
  refine ⟨hown, fun k' g' hg' z => ?_, fun k' hk' => ?_, fun k' g' hg' => ?_, fun k' hk' => ?_, fun k1 k2 g' h1 h2 => ?_, fun k' hk' => ?_⟩
  · obtain ⟨e1, e2⟩ := hs k' g' hg'
    rw [Maps.atKey_del_other (hkk e1)]
    exact h.at_ k' g' e2 z
  · by_cases e : k' = k
    · subst e; exact Maps.has_del_same
    · rw [setG_other e] at hk'
      rw [Maps.has_del_other (hkk e)]
      exact h.no k' hk'
  · obtain ⟨e1, e2⟩ := hs k' g' hg'
    rw [sel_less, if_neg e1]
    refine ⟨(h.sets k' g' e2).1, (h.sets k' g' e2).2.chg hc (fun e => ?_)⟩
    rcases e with e | e
    · exact h.ne k' (by rw [e2, e])
    · exact e1 (h.inj k' k g' e2 e)
  · rw [sel_less]
    by_cases e : k' = k
    · subst e; rw [if_pos rfl]; exact hn
    · rw [setG_other e] at hk'; rw [if_neg e]; exact h.none_ k' hk'
  · obtain ⟨_, e1⟩ := hs k1 g' h1
    obtain ⟨_, e2⟩ := hs k2 g' h2
    exact h.inj k1 k2 g' e1 e2
  · exact h.ne k' (hs k' b hk').2

/-- take. -/
theorem ixtake {w : World} {b : Nat} {G : Int → Option Nat} {P : Prs} {cap : Nat} {D : DataW Value} (h : Ix w b G P cap D) {k id : Int} (hk : I64 k) (hid : I64 id) (hcap : cap < 1000000) :
    Calls Try.prog 31 #[.map (some b), .int .i64 k, .int .i64 id] w fun e w' => e = .returned (.tuple #[]) ∧ (∃ G' D', Ix w' b G' (less P k id) cap D' ∧ ∀ j, Bk b G' j → Bk b G j) ∧ Chg (Bk b G) w w' := by
  have hl0 := h.look hk
  have hB : ∀ j, Bk b (setG G k none) j → Bk b G j := fun j hj => by
    rcases hj with rfl | ⟨k', hk'⟩
    · exact Or.inl rfl
    · by_cases e : k' = k
      · subst e; rw [setG_same] at hk'; cases hk'
      · rw [setG_other e] at hk'; exact Or.inr ⟨k', hk'⟩
  rcases hg : G k with _ | g
  · rw [hg] at hl0
    have hd : ∀ ty W, (Builtin.delete_ #[58, 3] ty #[.map none, .int .i64 id]).run Try.prog W = .ok (.tuple #[]) W := fun ty W => Maps.drop_nil keyed3 Try.underlying58 (key_int hid) ty
    have hln : ∀ ty W, (Builtin.len_ #[58] ty #[.map none]).run Try.prog W = .ok (.int .i64 0) W := fun ty W => Maps.len_nil Try.underlying58 ty
    have hn : (sel P k).filter (fun i => decide (i ≠ id)) = [] := by rw [h.none_ k hg]; rfl
    have H := Lib.hid h
    have HN := Lib.hid hn
    have HG := Lib.hid hg
    clear h hn hg
    go_enter Try.func31, Try.ntmps31
    go_wp2_with (at_delete; refine wpList_delete_own _ rfl _ _ 51 3 rfl 58 keyed3 Try.underlying51 Rm b cap D rfl H.out.own _ _ rfl (key_int hk) ?_; intro w3 hown3 hturn3; have HI := Lib.hid (H.out.drop HN.out hown3 ((Chg.ofTurn hturn3).mono (fun j e => Or.inl e))); have HC := Lib.hid (Chg.ofTurn hturn3); clear hown3 hturn3)
    exact bodyPost_end (v := .tuple #[]) (by simp [results, Try.results31, go_sem]) rfl ⟨rfl, ⟨_, ⟨_, HI.out⟩, hB⟩, HC.out.mono (fun j e => Or.inl e)⟩
  · rw [hg] at hl0
    have hu := (h.sets k g hg).2
    have hgb : b ≠ g := fun e => h.ne k (by rw [hg, e])
    have H := Lib.hid h
    have HU := Lib.hid hu
    have HG := Lib.hid hg
    rcases hl : (sel P k).filter (fun i => decide (i ≠ id)) with _ | ⟨x, l'⟩
    · have HL := Lib.hid hl
      clear h hu hg hl
      go_enter Try.func31, Try.ntmps31
      go_wp2_with (first
        | (at_delete; refine wpList_delete_own _ rfl _ _ 58 3 rfl 66 keyed3 Try.underlying58 Rm g cap (Dz (se (sel P k))) rfl HU.out.own _ _ rfl (key_int hid) ?_; intro w1 hown1 hturn1; rw [Dz_del, se_del, HL.out] at hown1; have hl1 : (Instr.lookup 51 (.map (some b)) (.int .i64 k) false).run Try.prog w1 = .ok (.map (some g)) w1 := (by
            obtain ⟨v, ps, hrun, hv⟩ := (own_chg H.out.own (Chg.ofTurn hturn1) hgb).lookup keyed3 Try.underlying51 (zero58 w1) (show Rm (.map none) = some (.held (.map none), []) from rfl) (key_int hk)
            rw [H.out.at_ k g HG.out] at hv
            have e : v = .map (some g) := (by simpa [Rm] using hv : _ ∧ _).1
            rw [e] at hrun
            exact hrun); have hln : ∀ ty, (Builtin.len_ #[58] ty #[.map (some g)]).run Try.prog w1 = .ok (.int .i64 0) w1 := (fun ty => hown1.len Try.underlying58 ty); have HB1 := Lib.hid (own_chg H.out.own (Chg.ofTurn hturn1) hgb); have HC1 := Lib.hid (Chg.ofTurn hturn1); clear hown1 hturn1)
        | (at_delete; refine wpList_delete_own _ rfl _ _ 51 3 rfl 58 keyed3 Try.underlying51 Rm b cap D rfl HB1.out _ _ rfl (key_int hk) ?_; intro w3 hown3 hturn3; have HC := Lib.hid ((HC1.out.mono (fun j e => Or.inr (by rw [HG.out, e]))).trans ((Chg.ofTurn hturn3).mono (fun j e => Or.inl e)) : Chg (fun j => j = b ∨ G k = some j) w w3); have HI := Lib.hid (H.out.drop HL.out hown3 HC.out); clear hown3 hturn3))
      exact bodyPost_end (v := .tuple #[]) (by simp [results, Try.results31, go_sem]) rfl ⟨rfl, ⟨_, ⟨_, HI.out⟩, hB⟩, HC.out.mono (fun j e => e.imp _root_.id (fun e => ⟨k, e⟩))⟩
    · have HL := Lib.hid hl
      clear h hu hg hl
      go_enter Try.func31, Try.ntmps31
      go_wp2_with (first
        | (at_delete; refine wpList_delete_own _ rfl _ _ 58 3 rfl 66 keyed3 Try.underlying58 Rm g cap (Dz (se (sel P k))) rfl HU.out.own _ _ rfl (key_int hid) ?_; intro w1 hown1 hturn1; rw [Dz_del, se_del] at hown1; have HI := Lib.hid (H.out.part HG.out (by rw [HL.out]; simp) hown1 hturn1); rw [HL.out] at hown1; have hl1 : (Instr.lookup 51 (.map (some b)) (.int .i64 k) false).run Try.prog w1 = .ok (.map (some g)) w1 := (by
            obtain ⟨v, ps, hrun, hv⟩ := (own_chg H.out.own (Chg.ofTurn hturn1) hgb).lookup keyed3 Try.underlying51 (zero58 w1) (show Rm (.map none) = some (.held (.map none), []) from rfl) (key_int hk)
            rw [H.out.at_ k g HG.out] at hv
            have e : v = .map (some g) := (by simpa [Rm] using hv : _ ∧ _).1
            rw [e] at hrun
            exact hrun); have hln : ∀ ty, (Builtin.len_ #[58] ty #[.map (some g)]).run Try.prog w1 = .ok (.int .i64 ((l'.length : Int) + 1)) w1 := (fun ty => by
              have := hown1.len Try.underlying58 ty
              rw [Dz_size, se, List.length_map, List.length_cons] at this
              exact this); have hz : ((l'.length : Int) + 1 == 0) = false := (by simp; omega); have HC1 := Lib.hid (Chg.ofTurn hturn1); clear hown1 hturn1))
      exact bodyPost_end (v := .tuple #[]) (by simp [results, Try.results31, go_sem]) rfl ⟨rfl, ⟨_, _, HI.out, fun j e => e⟩, HC1.out.mono (fun j e => Or.inr ⟨k, by rw [HG.out, e]⟩)⟩
end Go.Proofs.Ytfgdgnkihiokoaa
