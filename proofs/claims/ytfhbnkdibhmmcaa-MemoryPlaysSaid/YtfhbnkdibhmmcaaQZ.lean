/- Layer memory: one memory, two memories beside each other, and calls of one. -/
import Derived.Test.YtfhbnkdibhmmcaaQV
import Derived.Test.YtfhbnkdibhmmcaaQY
namespace Go.Proofs.Ytfhbnkdibhmmcaa
open Go.ChangeShapes Go.WideShapes Go.ChangeAt Go.RowKit Go.Lib
set_option linter.unusedVariables false
set_option linter.unusedSimpArgs false
set_option maxRecDepth 100000

/-- A memory of the call's own. -/
structure On (w : World) (p b : Nat) (s : St) (W : World) : Prop where
  old : Old w W
  hp : w.heap.size ≤ p
  hb : w.heap.size ≤ b
  m : Mem W p b 200 s.last s.L
theorem On.on {w W W' : World} {p b : Nat} {s : St} (h : On w p b s W) (ho : Old W W') : On w p b s W' := ⟨h.old.trans ho, h.hp, h.hb, h.m.old ho⟩
theorem on_runs {w W : World} {p b : Nat} {s : St} (h : On w p b s W) {l : List Ox} {v : Value} (hl : OR w v l) (h10 : ∀ x ∈ l, x.l.length ≤ 10) (hs : s.last + l.length ≤ 1000000) :
    Calls Try.prog 28 #[ap p, v] W fun e w' => e = .returned (.tuple #[]) ∧ On w p b (runS 200 s l) w' := by
  refine (runs_any hl h.old h.hp h.hb h.m h10 hs).mono ?_
  rintro e w' ⟨rfl, h1, h2⟩
  exact ⟨rfl, h2.old h.old (fun k e => e.elim (fun e => e ▸ h.hp) (fun e => e ▸ h.hb)), h.hp, h.hb, h1⟩
/-- Two memories. -/
structure Tw (w : World) (p b p' b' : Nat) (s t : St) (W : World) : Prop where
  old : Old w W
  hp : w.heap.size ≤ p
  hb : w.heap.size ≤ b
  hp' : w.heap.size ≤ p'
  hb' : w.heap.size ≤ b'
  m : Mem W p b 200 s.last s.L
  c : Mem W p' b' 200 t.last t.L
  ne : p ≠ p' ∧ p ≠ b' ∧ b ≠ p' ∧ b ≠ b'
theorem Tw.swap {w W : World} {p b p' b' : Nat} {s t : St} (h : Tw w p b p' b' s t W) : Tw w p' b' p b t s W :=
  ⟨h.old, h.hp', h.hb', h.hp, h.hb, h.c, h.m, Ne.symm h.ne.1, Ne.symm h.ne.2.2.1, Ne.symm h.ne.2.1, Ne.symm h.ne.2.2.2⟩
theorem Tw.on {w W W' : World} {p b p' b' : Nat} {s t : St} (h : Tw w p b p' b' s t W) (ho : Old W W') : Tw w p b p' b' s t W' :=
  ⟨h.old.trans ho, h.hp, h.hb, h.hp', h.hb', h.m.old ho, h.c.old ho, h.ne⟩
theorem Tw.of {w W W' : World} {p b p' b' : Nat} {s : St} (h : On w p b s W) (hc : Mem W' p' b' 200 s.last s.L) (hp : W.heap.size ≤ p') (hb : W.heap.size ≤ b') (ho : Old W W') : Tw w p b p' b' s s W' := by
  have hl := h.m.lt
  have hs := h.old.size
  exact ⟨h.old.trans ho, h.hp, h.hb, by omega, by omega, h.m.old ho, hc, by omega⟩
theorem tw_runs {w W : World} {p b p' b' : Nat} {s t : St} (h : Tw w p b p' b' s t W) {l : List Ox} {v : Value} (hl : OR w v l) (h10 : ∀ x ∈ l, x.l.length ≤ 10) (hs : s.last + l.length ≤ 1000000) :
    Calls Try.prog 28 #[ap p, v] W fun e w' => e = .returned (.tuple #[]) ∧ Tw w p b p' b' (runS 200 s l) t w' ∧ ∀ r L, RF W r L → RF w' r L := by
  refine (runs_any hl h.old h.hp h.hb h.m h10 hs).mono ?_
  rintro e w' ⟨rfl, h1, h2⟩
  have hne := h.ne
  refine ⟨rfl, ⟨h2.old h.old (fun k e => e.elim (fun e => e ▸ h.hp) (fun e => e ▸ h.hb)), h.hp, h.hb, h.hp', h.hb', h1, h.c.chg h2 (by omega) (by omega) (h.m.noU8), h.ne⟩, fun r L hr => hr.chg h2 h.m.noU8 h.m.noS⟩
theorem tw_facts {W : World} {p b : Nat} {s : St} (h : Mem W p b 200 s.last s.L) : Calls Try.prog 20 #[ap p] W fun e w' => (∃ oa c, e = .returned (.slice oa s.L.length c) ∧ RF w' (.slice oa s.L.length c) s.L) ∧ Old W w' := by
  refine (facts_rf h).mono ?_
  rintro e w' ⟨⟨r, rfl, hr⟩, ho⟩
  obtain ⟨oa, c, rfl⟩ := hr.shape
  exact ⟨⟨oa, c, rfl, hr⟩, ho⟩
end Go.Proofs.Ytfhbnkdibhmmcaa
