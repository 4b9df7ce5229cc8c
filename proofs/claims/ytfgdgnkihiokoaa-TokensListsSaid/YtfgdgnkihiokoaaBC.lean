/- Sets by a number: one more, one less. -/
import Derived.Test.YtfgdgnkihiokoaaBB
namespace Go.Proofs.Ytfgdgnkihiokoaa
open Go.ChangeShapes Go.WideShapes Go.ChangeAt Go.RowKit Go.Lib
set_option linter.unusedVariables false
set_option linter.unusedSimpArgs false
set_option maxRecDepth 100000

theorem sel_one (k id k' : Int) : sel [(k, id)] k' = if k' = k then [id] else [] := by
  unfold sel
  by_cases h : k' = k
  · subst h; simp
  · rw [if_neg h, List.filter_cons, if_neg (by simpa using fun e => h e.symm)]; rfl
theorem sel_put (P : Prs) (k id k' : Int) : sel (P ++ [(k, id)]) k' = if k' = k then sel P k' ++ [id] else sel P k' := by
  rw [sel_app, sel_one]; split
  · rfl
  · rw [List.append_nil]
theorem sel_take (P : Prs) (k id k' : Int) : sel (P.filter fun x => decide (x ≠ (k, id))) k' = if k' = k then (sel P k').filter (fun i => decide (i ≠ id)) else sel P k' := by
  unfold sel
  rw [List.filter_filter]
  by_cases h : k' = k
  · subst h
    rw [if_pos rfl, List.filter_map, List.filter_filter]
    congr 1
    apply List.filter_congr
    rintro ⟨a, b⟩ _
    simp only [Function.comp, ne_eq, Prod.mk.injEq, decide_not]
    by_cases ha : a = k' <;> by_cases hb : b = id <;> simp [ha, hb]
  · rw [if_neg h]
    congr 1
    apply List.filter_congr
    rintro ⟨a, b⟩ _
    simp only [ne_eq, Prod.mk.injEq, decide_not]
    by_cases ha : a = k'
    · subst ha; simp [h]
    · simp [ha]
theorem keylit (k : Int) : WideAt.IsKeyLit (.int .i64 k) := by trivial

def setG (G : Int → Option Nat) (k : Int) (v : Option Nat) : Int → Option Nat := fun i => if i = k then v else G i
theorem setG_same (G : Int → Option Nat) (k : Int) (v : Option Nat) : setG G k v k = v := by simp [setG]
theorem setG_other {G : Int → Option Nat} {k i : Int} (h : i ≠ k) (v : Option Nat) : setG G k v i = G i := by simp [setG, h]

/-- One more of a number that has some. -/
theorem Ix.more {w w' : World} {b g : Nat} {G : Int → Option Nat} {P : Prs} {cap : Nat} {D : DataW Value} (h : Ix w b G P cap D) {k id : Int} (hg : G k = some g) (hid : I64 id) (hlt : ∀ i ∈ sel P k, i < id)
    (hown : w'.ownsMap Try.prog 3 Rm g (cap + 1) (Dz (se (sel P k ++ [id])))) (ht : w.mapTurned w' g) : Ix w' b G (P ++ [(k, id)]) (cap + 1) D := by
  have hc := Chg.ofTurn ht
  have hgb : b ≠ g := fun e => h.ne k (by rw [hg, e])
  refine ⟨(own_chg h.own hc hgb).mono (Nat.le_succ _), h.at_, h.no, fun k' g' hg' => ?_, fun k' hk' => ?_, h.inj, h.ne⟩
  · rw [sel_put]
    split
    · rename_i e
      subst e
      obtain rfl : g = g' := by rw [hg] at hg'; exact Option.some.inj hg'
      exact ⟨by simp, hown, by
        rw [List.pairwise_append]
        exact ⟨(h.sets k' g hg).2.up, by simp, fun x hx y hy => by rw [List.mem_singleton] at hy; subst hy; exact hlt x hx⟩, fun i hi => by
        rcases List.mem_append.1 hi with hi | hi
        · exact (h.sets k' g hg).2.low i hi
        · rw [List.mem_singleton] at hi; subst hi; exact hid⟩
    · rename_i e
      refine ⟨(h.sets k' g' hg').1, ((h.sets k' g' hg').2.chg hc (fun e2 => e ?_)).mono (Nat.le_succ _)⟩
      exact h.inj k' k g (e2 ▸ hg') hg
  · rw [sel_put, if_neg (fun e => by rw [e, hg] at hk'; cases hk')]
    exact h.none_ k' hk'
/-- One of a number that has none yet. -/
theorem Ix.fresh {w w' : World} {b g : Nat} {G : Int → Option Nat} {P : Prs} {cap : Nat} {D : DataW Value} (h : Ix w b G P cap D) {k id : Int} (hg : G k = none) (hid : I64 id) (hn : w.heap.size ≤ g)
    (hown : w'.ownsMap Try.prog 3 Rm b (cap + 1) (D.put (.int .i64 k) (.held (.map (some g))))) (hset : w'.ownsMap Try.prog 3 Rm g (cap + 1) (Dz (se [id]))) (hc : Chg (· = b) w w') :
    Ix w' b (setG G k (some g)) (P ++ [(k, id)]) (cap + 1) (D.put (.int .i64 k) (.held (.map (some g)))) := by
  have hne : ∀ k' g', G k' = some g' → g' ≠ g := fun k' g' e1 e2 => by
    have := (h.sets k' g' e1).2.lt
    omega
  have hkk : ∀ {k' : Int}, k' ≠ k → (Lit.int .i64 k') ≠ .int .i64 k := fun hk e => hk (by injection e)
  refine ⟨hown, fun k' g' hg' z => ?_, fun k' hk' => ?_, fun k' g' hg' => ?_, fun k' hk' => ?_, fun k1 k2 g' h1 h2 => ?_, fun k' hk' => ?_⟩
  · by_cases e : k' = k
    · subst e
      rw [setG_same] at hg'
      obtain rfl := Option.some.inj hg'
      exact Maps.atKey_put_same h.own.isMap (keylit _) _ _
    · rw [setG_other e] at hg'
      rw [Maps.atKey_put_other (hkk e)]
      exact h.at_ k' g' hg' z
  · by_cases e : k' = k
    · subst e; rw [setG_same] at hk'; cases hk'
    · rw [setG_other e] at hk'
      rw [Maps.has_put_other (hkk e)]
      exact h.no k' hk'
  · rw [sel_put]
    by_cases e : k' = k
    · subst e
      rw [setG_same] at hg'
      obtain rfl := Option.some.inj hg'
      rw [if_pos rfl, h.none_ k' hg, List.nil_append]
      exact ⟨by simp, hset, by simp, fun i hi => by rw [List.mem_singleton] at hi; subst hi; exact hid⟩
    · rw [setG_other e] at hg'
      rw [if_neg e]
      refine ⟨(h.sets k' g' hg').1, ((h.sets k' g' hg').2.chg hc (fun e2 => ?_)).mono (Nat.le_succ _)⟩
      exact h.ne k' (by rw [hg', e2])
  · by_cases e : k' = k
    · subst e; rw [setG_same] at hk'; cases hk'
    · rw [setG_other e] at hk'
      rw [sel_put, if_neg e]
      exact h.none_ k' hk'
  · by_cases e1 : k1 = k <;> by_cases e2 : k2 = k
    · rw [e1, e2]
    · subst e1
      rw [setG_same] at h1
      rw [setG_other e2] at h2
      exact absurd (Option.some.inj h1).symm (hne k2 g' h2)
    · subst e2
      rw [setG_same] at h2
      rw [setG_other e1] at h1
      exact absurd (Option.some.inj h2).symm (hne k1 g' h1)
    · rw [setG_other e1] at h1
      rw [setG_other e2] at h2
      exact h.inj k1 k2 g' h1 h2
  · by_cases e : k' = k
    · subst e
      rw [setG_same] at hk'
      have := Option.some.inj hk'
      have := h.own.lt
      omega
    · rw [setG_other e] at hk'
      exact h.ne k' hk'

/-- put. -/
theorem ixput {w : World} {b : Nat} {G : Int → Option Nat} {P : Prs} {cap : Nat} {D : DataW Value} (h : Ix w b G P cap D) {k id : Int} (hk : I64 k) (hid : I64 id) (hlt : ∀ i ∈ sel P k, i < id) (hcap : cap < 1000000) :
    Calls Try.prog 26 #[.map (some b), .int .i64 k, .int .i64 id] w fun e w' => e = .returned (.tuple #[]) ∧ (∃ G' D', Ix w' b G' (P ++ [(k, id)]) (cap + 1) D' ∧ ∀ j, Bk b G' j → Bk b G j ∨ w.heap.size ≤ j) ∧ Chg (Bk b G) w w' := by
  have hl0 := h.look hk
  have hR : ∀ v : Value, Rm v = some (.held v, []) := fun v => rfl
  rcases hg : G k with _ | g
  · rw [hg] at hl0
    have hmm := @run_makeMap Try.prog
    have heq : ∀ W : World, (binOp .eql 58 (.map none) (.map none)).run Try.prog W = .ok (.bool true) W := fun W => run_neq58 none W
    obtain ⟨w2, hs1, hown2, ht2⟩ := (h.own.alloc (.map #[] 0)).store keyed3 Try.underlying51 (by unfold maxLen; omega) (key_int hk) (hR (.map (some w.heap.size)))
    have hc2 : Chg (· = b) w w2 := ((Chg.ofOld ((Old.refl w).alloc (.map #[] 0))).trans (Chg.ofTurn ht2))
    have hset2 : w2.ownsMap Try.prog 3 Rm w.heap.size 0 (Dz (se [])) := own_chg (World.ownsMap_made w Try.prog 3 Rm) (Chg.ofTurn ht2) (fun e => by have := h.own.lt; omega)
    obtain ⟨v, ps, hl2, hv⟩ := hown2.lookup keyed3 Try.underlying51 (zero58 w2) (hR (.map none)) (key_int hk)
    rw [Maps.atKey_put_same h.own.isMap (keylit _)] at hv
    have e : v = .map (some w.heap.size) := (by simpa [Rm] using hv : _ ∧ _).1
    subst e
    obtain ⟨w3, hs3, hown3, ht3⟩ := hset2.store keyed3 Try.underlying58 (by unfold maxLen; omega) (key_int hid) (hR (.agg #[]))
    rw [show ([] : List Int) = [] from rfl, Dz_put (E := se []) (x := (id, .agg #[])) (by simp [se])] at hown3
    have hI := Ix.fresh (w' := w3) h hg hid (Nat.le_refl _) (own_chg hown2 (Chg.ofTurn ht3) (fun e => by have := h.own.lt; omega)) (hown3.mono (by omega)) (hc2.later (Chg.ofTurn ht3) (fun k e => Or.inl (by omega)))
    have HC := Lib.hid (hc2.later (Chg.ofTurn ht3) (fun k e => Or.inl (by omega)))
    have HI := Lib.hid hI
    clear hI hc2 hset2 hown2 hown3 ht2 ht3 hv
    go_enter Try.func26, Try.ntmps26
    go_wp2
    refine bodyPost_end (v := .tuple #[]) (by simp [results, Try.results26, go_sem]) rfl ⟨rfl, ⟨_, _, HI.out, ?_⟩, HC.out.mono (fun j e => Or.inl e)⟩
    rintro j (rfl | ⟨k', hk'⟩)
    · exact Or.inl (Or.inl rfl)
    · by_cases e : k' = k
      · subst e; rw [setG_same] at hk'; exact Or.inr (by have := Option.some.inj hk'; omega)
      · rw [setG_other e] at hk'; exact Or.inl (Or.inr ⟨k', hk'⟩)
  · rw [hg] at hl0
    have hu := (h.sets k g hg).2
    have heq : ∀ W : World, (binOp .eql 58 (.map (some g)) (.map none)).run Try.prog W = .ok (.bool false) W := fun W => run_neq58 (some g) W
    obtain ⟨w1, hs1, hown1, ht1⟩ := hu.own.store keyed3 Try.underlying58 (by unfold maxLen; omega) (key_int hid) (hR (.agg #[]))
    rw [Dz_put (E := se (sel P k)) (x := (id, .agg #[])) (by
      intro y hy
      obtain ⟨i, hi, rfl⟩ := List.mem_map.1 hy
      exact hlt i hi)] at hown1
    have HI := Lib.hid (h.more hg hid hlt (by simpa [se] using hown1) ht1)
    have HC := Lib.hid (Chg.ofTurn ht1)
    clear hown1 ht1 hu
    go_enter Try.func26, Try.ntmps26
    go_wp2
    exact bodyPost_end (v := .tuple #[]) (by simp [results, Try.results26, go_sem]) rfl ⟨rfl, ⟨G, D, HI.out, fun j e => Or.inl e⟩, HC.out.mono (fun j e => Or.inr ⟨k, by rw [hg, e]⟩)⟩
end Go.Proofs.Ytfgdgnkihiokoaa
