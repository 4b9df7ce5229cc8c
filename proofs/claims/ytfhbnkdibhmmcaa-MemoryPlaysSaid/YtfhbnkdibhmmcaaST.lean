/- Layer memory: the document's Add, beside the other memory. -/
import Derived.Test.YtfhbnkdibhmmcaaSJ
import Derived.Test.YtfhbnkdibhmmcaaSG
namespace Go.Proofs.Ytfhbnkdibhmmcaa
open Go.ChangeShapes Go.WideShapes Go.ChangeAt Go.RowKit Go.Lib
set_option linter.unusedVariables false
set_option linter.unusedSimpArgs false
set_option maxRecDepth 100000

theorem ob_grown {w w' : World} {g : Nat} {x : Ox} {row : Option Nat} (h : Ob w g x) (hg : w.grownBy w' row) (hne : ∀ k, row = some k → g ≠ k) : Ob w' g x :=
  (hg.block g (blk_lt h) (fun e => hne g e.symm rfl)).trans h
theorem CR.vr' {w : World} {v : Value} {N : Nat} {l : List Vl} (h : CR w v N 3 (vcells l)) (hN : N = l.length) (hs : ∀ x ∈ l, x.s.size ≤ maxLen) : VR w v l := by
  subst hN
  exact h.vr hs
theorem add_d {w W : World} {gb : Nat} {x : Ox} {kk lim N p b q : Nat} {iv r u : Value} {s t' : St} {t : Int} {l : List Vl} {i : Int} {f : Bool} {er : Int} (h : Pm w kk lim N iv gb x p b q s t' r W) (h1 : ∀ x ∈ t'.L, 1 ≤ x.id) (hn : t'.L.length ≤ 200) (hu : VR W u l) (h10 : l.length ≤ 10) (hl : t'.last < 1000000) (ha : addR lim t' t l = .returned (.tuple #[.int .i64 i, .bool f, .int .i64 er])) :
    Calls Try.prog 12 #[ap q, .int .i64 t, u] W fun e w' => e = .returned (.tuple #[.int .i64 i, .bool f, .int .i64 er]) ∧ ∃ r', Pm w kk lim N iv gb x p b q s (addS lim t' t l) r' w' := by
  rw [← ha]
  unfold addS addR
  by_cases hi : idOf t'.L t l = 0
  · rw [if_pos hi, if_pos hi]
    by_cases hr : t'.L.length < lim
    · rw [if_pos hr, if_pos hr]
      refine (add_doc_new h.dx h.kl t u l hu h10 hi hr hn hl).mono ?_
      rintro e w' ⟨rfl, ⟨r', h2⟩, h3⟩
      exact ⟨rfl, r', h.d h2 h3⟩
    · rw [if_neg hr, if_neg hr]
      refine (add_doc_full h.dx t u l hu hi (Nat.le_of_not_lt hr)).mono ?_
      rintro e w' ⟨rfl, ho⟩
      exact ⟨rfl, r, h.on ho⟩
  · rw [if_neg hi, if_neg hi]
    refine (add_doc_old h.dx h1 t u l hu hi).mono ?_
    rintro e w' ⟨rfl, ho⟩
    exact ⟨rfl, r, h.on ho⟩
end Go.Proofs.Ytfhbnkdibhmmcaa
