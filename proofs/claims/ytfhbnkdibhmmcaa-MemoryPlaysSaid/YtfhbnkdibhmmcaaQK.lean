/- A loop over a function that tells its values one by one: what is told of each value holds in the world of its own round. No program is named here. -/
import Derived.Test.YtfhbnkdibhmmcaaQE
import Derived.RangeFuncNested
import Derived.RangeFuncCalls
import Derived.RangeFuncLeaves
import Derived.TacticsInMore
import Derived.LoopNIn
import Derived.LoopIn
import Derived.OwnWalkIn
namespace Go.Proofs.Ytfhbnkdibhmmcaa
open Go Go.RowKit Go.Lib
set_option linter.unusedVariables false

/-- An iterator that tells N values, one a round: J is what the caller keeps, G what the iterator asks of it, Y what it says of the k-th value as it tells it. -/
def Tells (F : Fence) (n : Nat) (P : Program) (gf : Nat) (lb : Array Value) (Y : Nat → Value → World → Prop) (G : World → Prop) (N : Nat) : Prop :=
  ∀ (l : Nat) (J : Nat → World → Prop) (W : World), (∀ k A B, J k A → Old A B → J k B) → (∀ k A, J k A → G A) →
    (∀ k v A, J k A → k < N → Y k v A → YieldAt F (n - 1) P l #[v] A fun e B => e = .returned (.bool true) ∧ J (k + 1) B) → J 0 W →
    CallsIn F n P gf (#[.func (.yield l) #[] #[]] ++ lb) W fun e B => (∃ v, e = .returned v) ∧ J N B

/-- A round goes on to the next one, and leaves the loops' own records as they are. -/
def tellPost (B : Nat) (I : World → Prop) (A : World) : Exit → Act → World → Prop
  | .normal, _, W => KeepsFrom B A W ∧ I W
  | _, _, _ => False

theorem KeepsFrom.ofOld {A B : World} (N : Nat) (h : Old A B) : KeepsFrom N A B := ⟨h.size, fun k o _ hk _ => (h.block k (blk_lt hk)).trans hk⟩

theorem wpIn_tells {F : Fence} {n : Nat} {P : Program} {g : Operand} {ps : Array Tmp} {assign body : Code} {Q : Exit → Act → World → Prop} {a : Act} {w : World}
    (hro : F.round = none) (h1 : 1 ≤ n) {gf : Nat} {lb : Array Value} (hg : a.eval g = .func (.func gf) #[] lb) (hFg : F.fn gf) (eg : ∀ args w, (callFunc gf args).run P w = .ok (.enter gf args) w)
    {Y : Nat → Value → World → Prop} {G : World → Prop} {N : Nat} (hseq : Tells F (n - 1) P gf lb Y G N) (hps : ps.size = 1)
    (I : Nat → World → Prop) (hIo : ∀ k A B, I k A → Old A B → I k B) (hIl : ∀ k A l r r', I k A → w.heap.size ≤ l → A.heap[l]? = some (.loop r) → I k (A.putObj l (.loop r'))) (hIG : ∀ k A, I k A → G A) (h0 : I 0 w)
    (Ax : Nat → Value → Act → World → Prop) (hAl : ∀ k v a' A l r r', Ax k v a' A → w.heap.size ≤ l → A.heap[l]? = some (.loop r) → Ax k v a' (A.putObj l (.loop r')))
    (hassign : ∀ l k v A, I k A → Y k v A → k < N → assign.wpIn (F.inRound l) (n - 1 - 1) P (Exit.then (fun a' B => KeepsFrom w.heap.size A B ∧ Ax k v a' B) (fun _ _ _ => False)) { tmps := (ps.zip #[v]).foldl (fun t (p, v) => t.setIfInBounds p v) a.tmps, defers := [] } A)
    (hbody : ∀ l k v a' A, Ax k v a' A → k < N → body.wpIn (F.inRound l) (n - 1 - 1) P (tellPost w.heap.size (I (k + 1)) A) a' A)
    (hdone : ∀ D A, w.heap.size ≤ D → I N A → A.heap[D]? = some (.deferred (some [])) → Q .normal { a with defers := { target := .collected D, args := #[] } :: a.defers } A) :
    (Code.rangeFunc g ps assign body).wpIn F n P Q a w := by
  refine wpIn_rangeFunc ?_
  intro fn hfn
  rw [hro]
  obtain ⟨rec, hrec⟩ : ∃ rec : LoopState → Option Code → Loop, rec = fun st pe => { state := st, pending := pe, fn, tmps := a.tmps, params := ps, assign, body, defers := w.heap.size } := ⟨_, rfl⟩
  obtain ⟨W1, hW1⟩ : ∃ W1, (w.alloc (.deferred (some []))).alloc (.loop (rec .ready none)) = W1 := ⟨_, rfl⟩
  have hL1 : W1.heap[w.heap.size + 1]? = some (.loop (rec .ready none)) := by
    rw [← hW1]; have := World.alloc_heap_new (w.alloc (.deferred (some []))) (.loop (rec .ready none)); rwa [World.size_alloc] at this
  have hK1 : W1.heap[w.heap.size]? = some (.deferred (some [])) := by
    rw [← hW1]; exact (Below.heap_alloc _ _ _ (by simp)).trans (World.alloc_heap_new w _)
  have hI1 : I 0 W1 := by rw [← hW1]; exact hIo _ _ _ h0 (((Old.refl w).alloc _).alloc _)
  refine ⟨w.heap.size + 1, [{ target := .collected w.heap.size, args := #[] }], W1, { target := .fn (.func gf) lb, args := #[.func (.yield (w.heap.size + 1)) #[] #[]] }, W1, gf,
    #[.func (.yield (w.heap.size + 1)) #[] #[]] ++ lb, W1, ?_, ?_, ?_, ?_, fun _ => h1, ?_⟩
  · rw [← hW1, hrec]; exact run_enterLoop_outer _ _ _ _ _
  · simp only [resolve, hg]
    simp [go_sem]
  · intro f' hf'; simp [Target.leads] at hf'; subst hf'; exact hFg
  · simp [invoke, go_sem, eg]
  · refine (hseq (w.heap.size + 1)
      (fun k W => I k W ∧ W.heap[w.heap.size + 1]? = some (.loop (rec .ready none)) ∧ W.heap[w.heap.size]? = some (.deferred (some [])))
      W1 (fun k A B h ho => ⟨hIo k A B h.1 ho, (ho.block _ (blk_lt h.2.1)).trans h.2.1, (ho.block _ (blk_lt h.2.2)).trans h.2.2⟩) (fun k A h => hIG k A h.1) ?_ ⟨hI1, hL1, hK1⟩).mono ?_
    · rintro k v W ⟨hi, hl, hk⟩ hkN hY
      have hlt : w.heap.size + 1 < W.heap.size := blk_lt hl
      have hy := run_yield (P := P) (args := #[v]) hl (by rw [hrec]; exact hps.symm)
      rw [hrec] at hy
      refine ⟨fn, _, assign, body, hy, roundIn_of_wpIn hfn (wpIn_mono (hassign (w.heap.size + 1) k v W hi hY hkN) ?_)⟩
      clear hy
      intro e a' Wa hex
      cases e with
      | normal =>
        obtain ⟨hkf, hax⟩ := hex
        replace hl := hkf.same _ _ (by omega) hl rfl
        replace hk := hkf.same _ _ (Nat.le_refl _) hk rfl
        replace hlt : w.heap.size + 1 < Wa.heap.size := blk_lt hl
        refine ⟨_, run_beginRound hl (by rw [hrec]), ?_⟩
        have hl2 : (Wa.putObj (w.heap.size + 1) (.loop { rec .ready none with state := .busy })).heap[w.heap.size + 1]? = some (.loop { rec .ready none with state := .busy }) := World.putObj_heap_same hlt
        have hk2 : (Wa.putObj (w.heap.size + 1) (.loop { rec .ready none with state := .busy })).heap[w.heap.size]? = some (.deferred (some [])) := (World.putObj_heap_other (by omega)).trans hk
        refine wpIn_mono (hbody (w.heap.size + 1) k v a' _ (hAl k v a' Wa _ _ _ hax (by omega) hl) hkN) ?_
        rintro e a3 W3 hp
        cases e with
        | normal =>
          obtain ⟨hk3, hi3⟩ := hp
          have hl3 := hk3.same _ _ (by omega) hl2 rfl
          have hd3 := hk3.same _ _ (Nat.le_refl _) hk2 rfl
          have hr := run_endRound (P := P) none hl3
          rw [hrec] at hr hl3
          refine ⟨_, _, hr, rfl, hIl _ _ _ _ _ hi3 (by omega) hl3, ?_, ?_⟩
          · rw [hrec]
            exact World.putObj_heap_same (blk_lt hl3)
          · exact (World.putObj_heap_other (by omega)).trans hd3
        | ret => exact hp.elim
        | exit id => exact hp.elim
        | goto t => exact hp.elim
        | panic ch => exact hp.elim
        | outgrown => exact hp.elim
      | ret => exact hex.elim
      | exit id => exact hex.elim
      | goto t => exact hex.elim
      | panic ch => exact hex.elim
      | outgrown => exact hex.elim
    · rintro e W2 ⟨⟨v, rfl⟩, hi, hl, hk⟩
      exact ⟨none, _, by have := run_endLoop (P := P) hl (by rw [hrec]; simp); rw [hrec] at this; exact this, hdone _ _ (Nat.le_refl _) (hIl _ _ _ _ _ hi (by omega) hl) ((World.putObj_heap_other (by omega)).trans hk)⟩

end Go.Proofs.Ytfhbnkdibhmmcaa
