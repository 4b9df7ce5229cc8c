/- Layer lexer: a loop over words that are told one by one, till one is none. -/
import Derived.Test.YtgmjpcaennmgoaaGreatDoorTL
import Derived.TacticsInMore
import Derived.LoopNIn
import Derived.LoopIn
import Derived.OwnWalkIn
namespace Go.Proofs.YtgmjpcaennmgoaaGreatDoor
open Go Go.RowKit Go.Lib
set_option linter.unusedVariables false

/-- The words of what is left behind blanks, and the first that is none: error, line, place. -/
def lexS : Nat → List UInt8 → Nat → Nat → List Tk × Int × Int × Int
  | 0, _, _, _ => ([], 0, 0, 0)
  | _ + 1, [], _, _ => ([], 0, 0, 0)
  | f + 1, c :: r, L, C =>
    if (meanL (kindL (c :: r)) ((c :: r).take (wlen (c :: r)))).2 = 0 then
      ({ (meanL (kindL (c :: r)) ((c :: r).take (wlen (c :: r)))).1 with ln := L, cl := C } ::
        (lexS f (skipL false ((c :: r).drop (wlen (c :: r))) L (C + wlen (c :: r))).1 (skipL false ((c :: r).drop (wlen (c :: r))) L (C + wlen (c :: r))).2.1 (skipL false ((c :: r).drop (wlen (c :: r))) L (C + wlen (c :: r))).2.2).1,
        (lexS f (skipL false ((c :: r).drop (wlen (c :: r))) L (C + wlen (c :: r))).1 (skipL false ((c :: r).drop (wlen (c :: r))) L (C + wlen (c :: r))).2.1 (skipL false ((c :: r).drop (wlen (c :: r))) L (C + wlen (c :: r))).2.2).2)
    else ([], (meanL (kindL (c :: r)) ((c :: r).take (wlen (c :: r)))).2, L, C)
/-- The words of a source. -/
def lexL (l : List UInt8) : List Tk × Int × Int × Int := lexS (l.length + 1) (skipL false l 1 1).1 (skipL false l 1 1).2.1 (skipL false l 1 1).2.2

/-- What was there is as it was, but for readers that are new. -/
structure Kr (n0 : Nat) (A B : World) : Prop where
  os : B.os = A.os
  output : B.output = A.output
  size : A.heap.size ≤ B.heap.size
  block : ∀ k o, A.heap[k]? = some o → (k < n0 ∨ ∀ cs fr, o ≠ .cells cs 77 fr) → B.heap[k]? = some o
theorem Kr.ofOld {n0 : Nat} {A B : World} (h : Old A B) : Kr n0 A B := ⟨h.os, h.output, h.size, fun k o hk _ => (h.block k (blk_lt hk)).trans hk⟩
theorem Kr.trans {n0 : Nat} {A B C : World} (h : Kr n0 A B) (k : Kr n0 B C) : Kr n0 A C :=
  ⟨k.os.trans h.os, k.output.trans h.output, Nat.le_trans h.size k.size, fun i o hi hs => k.block i o (h.block i o hi hs) hs⟩
theorem Kr.ofChx {n0 b : Nat} {A B : World} {s : ByteArray} {i L C : Int} (h : Chx (· = b) A B) (hr : Rdr A b s i L C) (hb : n0 ≤ b) : Kr n0 A B :=
  ⟨h.os, h.output, h.size, fun k o hk hs => by
    by_cases e : k = b
    · subst e
      rcases hs with hs | hs
      · omega
      · have := hk.symm.trans hr
        injection this with this
        exact absurd this (hs _ _)
    · exact (h.block k (blk_lt hk) e).trans hk⟩
theorem Kr.old {n0 : Nat} {w A B : World} (h : Old w A) (k : Kr n0 A B) (hn : w.heap.size ≤ n0) : Old w B :=
  ⟨k.os.trans h.os, k.output.trans h.output, Nat.le_trans h.size k.size, fun i hi => by
    have hA := h.block i hi
    obtain ⟨o, ho⟩ : ∃ o, w.heap[i]? = some o := ⟨_, Array.getElem?_eq_getElem hi⟩
    rw [ho] at hA ⊢
    exact k.block i o hA (Or.inl (by omega))⟩

/-- Readers stay. -/
structure Kb (A B : World) : Prop where
  size : A.heap.size ≤ B.heap.size
  rd : ∀ (k : Nat) (cs : Array Value) (fr : Nat × Nat), A.heap[k]? = some (.cells cs 77 fr) → B.heap[k]? = some (.cells cs 77 fr)
theorem Kb.trans {A B C : World} (h : Kb A B) (k : Kb B C) : Kb A C := ⟨Nat.le_trans h.size k.size, fun i cs fr hi => k.rd i cs fr (h.rd i cs fr hi)⟩
theorem Kb.ofOld {A B : World} (h : Old A B) : Kb A B := ⟨h.size, fun k cs fr hk => (h.block k (blk_lt hk)).trans hk⟩
theorem Kb.put {A : World} {l : Nat} {r : Loop} (h : A.heap[l]? = some (.loop r)) (r' : Loop) : Kb A (A.putObj l (.loop r')) :=
  ⟨by simp, fun k cs fr hk => by
    by_cases e : k = l
    · subst e
      rw [h] at hk
      cases hk
    · exact (World.putObj_heap_other e).trans hk⟩
theorem Kb.reader {A B : World} {b : Nat} {s : ByteArray} {i L C : Int} (h : Kb A B) (hr : Rdr A b s i L C) : Rdr B b s i L C := h.rd _ _ _ hr

/-- An iterator that tells these words, one a round; then, if there is one, what is none, with its error. -/
def TellsW (F : Fence) (n : Nat) (P : Program) (gf : Nat) (lb : Array Value) (n0 : Nat) (T : List Tk) (E ln cl : Int) (G : World → Prop) : Prop :=
  ∀ (l : Nat) (J : Nat → World → Prop) (Z : World → Prop) (W : World), n0 ≤ W.heap.size → (∀ k A B, J k A → Kr n0 A B → J k B) → (∀ A B, Z A → Kr n0 A B → Z B) → (∀ k A, J k A → G A) →
    (∀ k x A, J k A → T[k]? = some x → YieldAt F (n - 1) P l #[x.v, .int .i64 0] A fun e B => e = .returned (.bool true) ∧ J (k + 1) B ∧ Kb A B) →
    (∀ (x : Tk) A, J T.length A → E ≠ 0 → x.ln = ln → x.cl = cl → YieldAt F (n - 1) P l #[x.v, .int .i64 E] A fun e B => (∃ b, e = .returned (.bool b)) ∧ Z B) →
    J 0 W → CallsIn F n P gf (#[.func (.yield l) #[] #[]] ++ lb) W fun e B => (∃ v, e = .returned v) ∧ (if E = 0 then J T.length B else Z B)

/-- A round goes on to the next one, and leaves the loops' own records as they are. -/
def tellPost (B : Nat) (I : World → Prop) (A : World) : Exit → Act → World → Prop
  | .normal, _, W => KeepsFrom B A W ∧ Kb A W ∧ I W
  | _, _, _ => False
/-- A round that returns. -/
def stopPost (B : Nat) (I : World → Prop) (A : World) : Exit → Act → World → Prop
  | .ret, _, W => KeepsFrom B A W ∧ I W
  | _, _, _ => False
theorem KeepsFrom.ofOld {A B : World} (N : Nat) (h : Old A B) : KeepsFrom N A B := ⟨h.size, fun k o _ hk _ => (h.block k (blk_lt hk)).trans hk⟩

theorem wpIn_tellsW {F : Fence} {n : Nat} {P : Program} {g : Operand} {ps : Array Tmp} {assign body : Code} {Q : Exit → Act → World → Prop} {a : Act} {w : World}
    (hro : F.round = none) (h1 : 1 ≤ n) {gf : Nat} {lb : Array Value} (hg : a.eval g = .func (.func gf) #[] lb) (hFg : F.fn gf) (eg : ∀ args w, (callFunc gf args).run P w = .ok (.enter gf args) w)
    {n0 : Nat} {T : List Tk} {E ln cl : Int} {G : World → Prop} (hseq : TellsW F (n - 1) P gf lb n0 T E ln cl G) (hn0 : n0 ≤ w.heap.size) (hps : ps.size = 2)
    (I : Nat → World → Prop) (Iz : World → Prop) (hIo : ∀ k A B, I k A → Kr n0 A B → I k B) (hZo : ∀ A B, Iz A → Kr n0 A B → Iz B)
    (hIl : ∀ k A l r r', I k A → w.heap.size ≤ l → A.heap[l]? = some (.loop r) → I k (A.putObj l (.loop r'))) (hZl : ∀ A l r r', Iz A → w.heap.size ≤ l → A.heap[l]? = some (.loop r) → Iz (A.putObj l (.loop r')))
    (hIG : ∀ k A, I k A → G A) (h0 : I 0 w)
    (Ax : Nat → Tk → Int → Act → World → Prop) (hAl : ∀ k x er a' A l r r', Ax k x er a' A → w.heap.size ≤ l → A.heap[l]? = some (.loop r) → Ax k x er a' (A.putObj l (.loop r')))
    (hassign : ∀ l k x er A, I k A → assign.wpIn (F.inRound l) (n - 1 - 1) P (Exit.then (fun a' B => KeepsFrom w.heap.size A B ∧ Kb A B ∧ Ax k x er a' B) (fun _ _ _ => False)) { tmps := (ps.zip #[x.v, .int .i64 er]).foldl (fun t (p, v) => t.setIfInBounds p v) a.tmps, defers := [] } A)
    (hbody : ∀ l k x a' A, Ax k x 0 a' A → T[k]? = some x → body.wpIn (F.inRound l) (n - 1 - 1) P (tellPost w.heap.size (I (k + 1)) A) a' A)
    (hstopb : ∀ l (x : Tk) a' A, Ax T.length x E a' A → E ≠ 0 → x.ln = ln → x.cl = cl → body.wpIn (F.inRound l) (n - 1 - 1) P (stopPost w.heap.size Iz A) a' A)
    (hdone : E = 0 → ∀ D A, w.heap.size ≤ D → I T.length A → A.heap[D]? = some (.deferred (some [])) → Q .normal { a with defers := { target := .collected D, args := #[] } :: a.defers } A)
    (hstop : E ≠ 0 → ∀ D A, w.heap.size ≤ D → Iz A → A.heap[D]? = some (.deferred (some [])) → Code.ret.wpIn F n P Q { a with defers := { target := .collected D, args := #[] } :: a.defers } A) :
    (Code.rangeFunc g ps assign body).wpIn F n P Q a w := by
  refine wpIn_rangeFunc ?_
  intro fn hfn
  rw [hro]
  obtain ⟨rec, hrec⟩ : ∃ rec : LoopState → Option Code → Loop, rec = fun st pe => { state := st, pending := pe, fn, tmps := a.tmps, params := ps, assign, body, defers := w.heap.size } := ⟨_, rfl⟩
  obtain ⟨W1, hW1⟩ : ∃ W1, (w.alloc (.deferred (some []))).alloc (.loop (rec .ready none)) = W1 := ⟨_, rfl⟩
  have hL1 : W1.heap[w.heap.size + 1]? = some (.loop (rec .ready none)) := by
    rw [← hW1]; have := World.alloc_heap_new (w.alloc (.deferred (some []))) (.loop (rec .ready none)); rwa [World.size_alloc] at this
  have hK1 : W1.heap[w.heap.size]? = some (.deferred (some [])) := by
    rw [← hW1]; exact (Below.heap_alloc _ _ _ (by simp)).trans (World.alloc_heap_new w _)
  have hI1 : I 0 W1 := by rw [← hW1]; exact hIo _ _ _ h0 (Kr.ofOld (((Old.refl w).alloc _).alloc _))
  have hn1 : n0 ≤ W1.heap.size := by rw [← hW1]; simp; omega
  have kl : ∀ {A B : World} {k : Nat} {r : Loop}, Kr n0 A B → A.heap[k]? = some (.loop r) → B.heap[k]? = some (.loop r) := fun h hk => h.block _ _ hk (Or.inr fun _ _ e => by cases e)
  have kd : ∀ {A B : World} {k : Nat}, Kr n0 A B → A.heap[k]? = some (.deferred (some [])) → B.heap[k]? = some (.deferred (some [])) := fun h hk => h.block _ _ hk (Or.inr fun _ _ e => by cases e)
  refine ⟨w.heap.size + 1, [{ target := .collected w.heap.size, args := #[] }], W1, { target := .fn (.func gf) lb, args := #[.func (.yield (w.heap.size + 1)) #[] #[]] }, W1, gf,
    #[.func (.yield (w.heap.size + 1)) #[] #[]] ++ lb, W1, ?_, ?_, ?_, ?_, fun _ => h1, ?_⟩
  · rw [← hW1, hrec]; exact run_enterLoop_outer _ _ _ _ _
  · simp only [resolve, hg]
    simp [go_sem]
  · intro f' hf'; simp [Target.leads] at hf'; subst hf'; exact hFg
  · simp [invoke, go_sem, eg]
  · refine (hseq (w.heap.size + 1)
      (fun k W => I k W ∧ W.heap[w.heap.size + 1]? = some (.loop (rec .ready none)) ∧ W.heap[w.heap.size]? = some (.deferred (some [])))
      (fun W => Iz W ∧ W.heap[w.heap.size + 1]? = some (.loop (rec .done (some .ret))) ∧ W.heap[w.heap.size]? = some (.deferred (some [])))
      W1 hn1 (fun k A B h ho => ⟨hIo k A B h.1 ho, kl ho h.2.1, kd ho h.2.2⟩) (fun A B h ho => ⟨hZo A B h.1 ho, kl ho h.2.1, kd ho h.2.2⟩) (fun k A h => hIG k A h.1) ?_ ?_ ⟨hI1, hL1, hK1⟩).mono ?_
    · rintro k x W ⟨hi, hl, hk⟩ hkN
      have hlt : w.heap.size + 1 < W.heap.size := blk_lt hl
      have hy := run_yield (P := P) (args := #[x.v, .int .i64 0]) hl (by rw [hrec]; exact hps.symm)
      rw [hrec] at hy
      refine ⟨fn, _, assign, body, hy, roundIn_of_wpIn hfn (wpIn_mono (hassign (w.heap.size + 1) k x 0 W hi) ?_)⟩
      clear hy
      intro e a' Wa hex
      cases e with
      | normal =>
        obtain ⟨hkf, hkb, hax⟩ := hex
        have hl0 := hl
        replace hl := hkf.same _ _ (by omega) hl rfl
        replace hk := hkf.same _ _ (Nat.le_refl _) hk rfl
        replace hlt : w.heap.size + 1 < Wa.heap.size := blk_lt hl
        refine ⟨_, run_beginRound hl (by rw [hrec]), ?_⟩
        have hl2 : (Wa.putObj (w.heap.size + 1) (.loop { rec .ready none with state := .busy })).heap[w.heap.size + 1]? = some (.loop { rec .ready none with state := .busy }) := World.putObj_heap_same hlt
        have hk2 : (Wa.putObj (w.heap.size + 1) (.loop { rec .ready none with state := .busy })).heap[w.heap.size]? = some (.deferred (some [])) := (World.putObj_heap_other (by omega)).trans hk
        refine wpIn_mono (hbody (w.heap.size + 1) k x a' _ (hAl k x 0 a' Wa _ _ _ hax (by omega) hl) hkN) ?_
        rintro e a3 W3 hp
        cases e with
        | normal =>
          obtain ⟨hk3, hkb3, hi3⟩ := hp
          have hl3 := hk3.same _ _ (by omega) hl2 rfl
          have hd3 := hk3.same _ _ (Nat.le_refl _) hk2 rfl
          have hr := run_endRound (P := P) none hl3
          rw [hrec] at hr hl3
          refine ⟨_, _, hr, rfl, ⟨hIl _ _ _ _ _ hi3 (by omega) hl3, ?_, ?_⟩, (hkb.trans ((Kb.put hl _).trans hkb3)).trans (Kb.put hl3 _)⟩
          · rw [hrec]
            exact World.putObj_heap_same (blk_lt hl3)
          · exact (World.putObj_heap_other (by omega)).trans hd3
        | ret => exact hp.elim
        | exit id => exact hp.elim
        | goto t => exact hp.elim
        | panic ch => exact hp.elim
        | outgrown => exact hp.elim
      | ret => exact hex.elim
      | exit id => exact hex.elim
      | goto t => exact hex.elim
      | panic ch => exact hex.elim
      | outgrown => exact hex.elim
    · rintro x W ⟨hi, hl, hk⟩ hE hxl hxc
      have hlt : w.heap.size + 1 < W.heap.size := blk_lt hl
      have hy := run_yield (P := P) (args := #[x.v, .int .i64 E]) hl (by rw [hrec]; exact hps.symm)
      rw [hrec] at hy
      refine ⟨fn, _, assign, body, hy, roundIn_of_wpIn hfn (wpIn_mono (hassign (w.heap.size + 1) T.length x E W hi) ?_)⟩
      clear hy
      intro e a' Wa hex
      cases e with
      | normal =>
        obtain ⟨hkf, hkb, hax⟩ := hex
        have hl0 := hl
        replace hl := hkf.same _ _ (by omega) hl rfl
        replace hk := hkf.same _ _ (Nat.le_refl _) hk rfl
        replace hlt : w.heap.size + 1 < Wa.heap.size := blk_lt hl
        refine ⟨_, run_beginRound hl (by rw [hrec]), ?_⟩
        have hl2 : (Wa.putObj (w.heap.size + 1) (.loop { rec .ready none with state := .busy })).heap[w.heap.size + 1]? = some (.loop { rec .ready none with state := .busy }) := World.putObj_heap_same hlt
        have hk2 : (Wa.putObj (w.heap.size + 1) (.loop { rec .ready none with state := .busy })).heap[w.heap.size]? = some (.deferred (some [])) := (World.putObj_heap_other (by omega)).trans hk
        refine wpIn_mono (hstopb (w.heap.size + 1) x a' _ (hAl _ x E a' Wa _ _ _ hax (by omega) hl) hE hxl hxc) ?_
        rintro e a3 W3 hp
        cases e with
        | ret =>
          obtain ⟨hk3, hi3⟩ := hp
          have hl3 := hk3.same _ _ (by omega) hl2 rfl
          have hd3 := hk3.same _ _ (Nat.le_refl _) hk2 rfl
          have hr := run_endRound (P := P) (some .ret) hl3
          rw [hrec] at hr hl3
          refine ⟨_, _, hr, ⟨_, rfl⟩, hZl _ _ _ _ hi3 (by omega) hl3, ?_, ?_⟩
          · rw [hrec]
            exact World.putObj_heap_same (blk_lt hl3)
          · exact (World.putObj_heap_other (by omega)).trans hd3
        | normal => exact hp.elim
        | exit id => exact hp.elim
        | goto t => exact hp.elim
        | panic ch => exact hp.elim
        | outgrown => exact hp.elim
      | ret => exact hex.elim
      | exit id => exact hex.elim
      | goto t => exact hex.elim
      | panic ch => exact hex.elim
      | outgrown => exact hex.elim
    · rintro e W2 ⟨⟨v, rfl⟩, hfin⟩
      by_cases hE : E = 0
      · rw [if_pos hE] at hfin
        obtain ⟨hi, hl, hk⟩ := hfin
        exact ⟨none, _, by have := run_endLoop (P := P) hl (by rw [hrec]; simp); rw [hrec] at this; exact this, hdone hE _ _ (Nat.le_refl _) (hIl _ _ _ _ _ hi (by omega) hl) ((World.putObj_heap_other (by omega)).trans hk)⟩
      · rw [if_neg hE] at hfin
        obtain ⟨hi, hl, hk⟩ := hfin
        exact ⟨some .ret, _, by have := run_endLoop (P := P) hl (by rw [hrec]; simp); rw [hrec] at this; exact this, hstop hE _ _ (Nat.le_refl _) (hZl _ _ _ _ hi (by omega) hl) ((World.putObj_heap_other (by omega)).trans hk)⟩

end Go.Proofs.YtgmjpcaennmgoaaGreatDoor
