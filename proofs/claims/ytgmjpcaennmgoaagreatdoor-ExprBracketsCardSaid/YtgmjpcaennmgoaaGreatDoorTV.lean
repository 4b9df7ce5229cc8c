/- Layer lexer: a word as it is written; Lex, as the laws ask it. -/
import Derived.Test.YtgmjpcaennmgoaaGreatDoorKT
import Derived.Test.YtgmjpcaennmgoaaGreatDoorTP
namespace Go.Proofs.YtgmjpcaennmgoaaGreatDoor
open Go.ChangeShapes Go.WideShapes Go.ChangeAt Go.RowKit Go.Lib
set_option linter.unusedVariables false
set_option linter.unusedSimpArgs false
set_option maxRecDepth 100000

theorem st_app (a b : List UInt8) : st a ++ st b = st (a ++ b) := by
  apply ba_ext
  simp [ByteArray.toList_eq]
/-- What Lex tells: the words, or none; error, place. -/
def lexR (l : List UInt8) : List Tk × Int × Int × Int := if (lexL l).2.1 = 0 then lexL l else ([], (lexL l).2)
theorem lexR_ok {l : List UInt8} (h : (lexR l).2.1 = 0) : lexR l = lexL l := by
  unfold lexR at h ⊢
  split
  · rfl
  · next h1 => rw [if_neg h1] at h; exact absurd h h1
theorem lex_at (s : ByteArray) (w : World) (hs : s.size ≤ 65536) (he : Env w) (R : List Tk × Int × Int × Int) (hR : R = lexR s.data.toList) :
    Calls Tryz.prog 14 #[.string s] w fun e w' => (∃ oa cap, e = .returned (.tuple #[.slice oa R.1.length cap, .agg #[.int .i64 R.2.2.1, .int .i64 R.2.2.2], .int .i64 R.2.1]) ∧ w'.ownsRow w.heap.size 51 7 (.slice oa R.1.length cap) R.1.length (tcells R.1)) ∧ Old w w' := by
  obtain ⟨⟨T, E, ln, cl⟩, hT⟩ : ∃ x, lexL s.data.toList = x := ⟨_, rfl⟩
  have hw := wds_of hT
  have hl := hw.len
  have hz : s.data.toList.length = s.size := Array.length_toList
  refine (lex_any s w hs he T E ln cl hT (by omega) hw.zero).mono ?_
  rintro e w' ⟨⟨v, rfl, hv⟩, ho⟩
  have hR' : R = (if E = 0 then T else [], E, ln, cl) := by
    rw [hR]
    unfold lexR
    rw [hT]
    by_cases h : E = 0
    · rw [if_pos h, if_pos (show (T, E, ln, cl).2.1 = 0 from h)]
    · rw [if_neg h, if_neg (show ¬ (T, E, ln, cl).2.1 = 0 from h)]
  subst hR'
  obtain ⟨oa, cap, rfl⟩ := own_shape hv
  exact ⟨⟨oa, cap, rfl, hv⟩, ho⟩
theorem mean_kind (l : List UInt8) : ∃ k : Nat, k ≤ 7 ∧ (meanW l).1.k = (k : Int) := by
  obtain ⟨k, hk⟩ : ∃ k, kindL l = k := ⟨_, rfl⟩
  have hm := mean_k l k hk
  have hle := kindL_le l
  rw [hk] at hle
  rw [hm]
  have hn : ∀ (j : Nat) (s : List UInt8), j ≤ 7 → ∃ k : Nat, k ≤ 7 ∧ (namedL (j : Int) s).1.k = (k : Int) := fun j s hj => by
    unfold namedL
    split
    · exact ⟨j, hj, rfl⟩
    · exact ⟨0, by omega, rfl⟩
  have hv : ∀ (j : Nat) (s : List UInt8), j ≤ 7 → ∃ k : Nat, k ≤ 7 ∧ (valuedL (j : Int) s).1.k = (k : Int) := fun j s hj => by
    unfold valuedL
    split
    · exact ⟨0, by omega, rfl⟩
    · split
      · exact ⟨0, by omega, rfl⟩
      · exact ⟨j, hj, rfl⟩
  have hk8 : k = 0 ∨ k = 1 ∨ k = 2 ∨ k = 3 ∨ k = 4 ∨ k = 5 ∨ k = 6 ∨ k = 7 := by omega
  rcases hk8 with rfl | rfl | rfl | rfl | rfl | rfl | rfl | rfl
  · exact ⟨0, by omega, rfl⟩
  · exact hn 1 _ (by omega)
  · exact hn 2 _ (by omega)
  · exact ⟨3, by omega, rfl⟩
  · exact hv 4 _ (by omega)
  · exact hv 5 _ (by omega)
  · have e : meanL 6 (l.take (wlen l)) = if (namedL 6 (l.take (wlen l)).tail).2 = 0 then ({ (namedL 6 (l.take (wlen l)).tail).1 with vk := 5, vs := (l.take (wlen l)).tail }, 0) else namedL 6 (l.take (wlen l)).tail := rfl
    rw [e]
    have := hn 6 (l.take (wlen l)).tail (by omega)
    split
    · exact this
    · exact this
  · exact ⟨7, by omega, rfl⟩
theorem Wds.kinds {s : List UInt8} {L C : Nat} {T : List Tk} {E ln cl : Int} (h : Wds s L C T E ln cl) : ∀ x ∈ T, ∃ k : Nat, k ≤ 7 ∧ x.k = (k : Int) := by
  induction h with
  | done hs => intro x hx; cases hx
  | bad hs h1 => intro x hx; cases hx
  | word hs h1 _ ih =>
    intro x hx
    rcases List.mem_cons.1 hx with rfl | hx
    · exact mean_kind _
    · exact ih x hx

/-- The known sources. -/
theorem lx1 : lexR [112, 49, 40, 97, 103, 101, 58, 62, 61, 49, 56, 41] = ([⟨1, [112, 49], 0, 0, [], 1, 1⟩, ⟨7, [40], 0, 0, [], 1, 3⟩, ⟨1, [97, 103, 101], 0, 0, [], 1, 4⟩, ⟨7, [58], 0, 0, [], 1, 7⟩, ⟨7, [62, 61], 0, 0, [], 1, 8⟩, ⟨4, [49, 56], 1, 18, [], 1, 10⟩, ⟨7, [41], 0, 0, [], 1, 12⟩], 0, 0, 0) := by kernel_rfl
theorem lx2 : lexR [91, 49, 46, 46, 50, 93, 32, 59, 32, 102, 114, 111, 109, 10, 63, 120, 32, 63] = ([⟨7, [91], 0, 0, [], 1, 1⟩, ⟨4, [49], 1, 1, [], 1, 2⟩, ⟨7, [46, 46], 0, 0, [], 1, 3⟩, ⟨4, [50], 1, 2, [], 1, 5⟩, ⟨7, [93], 0, 0, [], 1, 6⟩, ⟨2, [120], 0, 0, [], 2, 1⟩, ⟨3, [], 0, 0, [], 2, 4⟩], 0, 0, 0) := by kernel_rfl
theorem lx3 : lexR [97, 10, 32, 32, 33] = ([], 4, 2, 3) := by kernel_rfl
end Go.Proofs.YtgmjpcaennmgoaaGreatDoor
