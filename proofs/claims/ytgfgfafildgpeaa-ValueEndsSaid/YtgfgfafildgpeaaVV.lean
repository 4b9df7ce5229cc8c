/- Layer value: what Least and Most answer. -/
import Derived.Test.YtgfgfafildgpeaaVU
namespace Go.Proofs.Ytgfgfafildgpeaa
open Go.ChangeShapes Go.WideShapes Go.ChangeAt Go.RowKit
set_option linter.unusedVariables false

/-- Least's, Most's answer: kind, number, error. -/
def fmT (p : Int → Int → Bool) (l : List Vl) : Int × Int × Int :=
  if kdV l = 0 then (0, 0, kdE l)
  else if kdV l = 1 then (1, bst p (wks 1 l) l.length, 0)
  else if l.all (fun x => decide (I64 (wt x.k x.n))) = true then (2, bst p (wks 2 l) l.length, 0)
  else (0, 0, 9)
theorem kdV_in (l : List Vl) : kdV l = 0 ∨ ((kdV l = 1 ∨ kdV l = 2) ∧ kdE l = 0) := by
  unfold kdV kdE
  split
  · split
    · exact Or.inl rfl
    · split
      · exact Or.inr ⟨Or.inr rfl, rfl⟩
      · exact Or.inr ⟨Or.inl rfl, rfl⟩
  · exact Or.inl rfl
theorem fore_any (F : FuncId) (p : Int → Int → Bool) (hF : F = 61 ∨ F = 62) (hp : CA F p) (l : List Vl) (v : Value) (w : World) (hl : RV w v l) (hb : l.length ≤ 100000) (hi : ∀ x ∈ l, I64 x.n) :
    Calls Try.prog 60 #[v, .func (.func F) #[] #[]] w fun e w' => e = rvt (fmT p l) ∧ Old w w' := by
  unfold fmT
  rcases kdV_in l with h | ⟨h | h, he⟩
  · rw [if_pos h]
    exact fore_end _ l v w hl hb _ h rfl
  · rw [if_neg (by rw [h]; decide), if_pos h]
    exact fore_int F p hF hp l v w hl hb h he
  · rw [if_neg (by rw [h]; decide), if_neg (by rw [h]; decide)]
    by_cases hu : l.all (fun x => decide (I64 (wt x.k x.n))) = true
    · rw [if_pos hu]
      exact fore_dec F p hF hp l v w hl hb h he hi _ _ _ (Or.inl ⟨fun x hx => of_decide_eq_true (List.all_eq_true.1 hu x hx), rfl, rfl, rfl⟩)
    · rw [if_neg hu]
      refine fore_dec F p hF hp l v w hl hb h he hi _ _ _ (Or.inr ⟨?_, rfl, rfl, rfl⟩)
      have hu' : l.all (fun x => decide (I64 (wt x.k x.n))) = false := by simpa using hu
      rw [List.all_eq_false] at hu'
      obtain ⟨x, hx, hd⟩ := hu'
      exact ⟨x, hx, fun h => hd (decide_eq_true h)⟩

def lsP (a b : Int) : Bool := decide (a < b)
def msP (a b : Int) : Bool := decide (b < a)
theorem least_walk (v : Value) (w : World) (A B C : Int) (k1 : Calls Try.prog 60 #[v, .func (.func 61) #[] #[]] (w.alloc (.cells #[.int .u8 0, .int .i64 0, .string ⟨#[]⟩] 23)) fun e w' => e = rv A B C ∧ Old (w.alloc (.cells #[.int .u8 0, .int .i64 0, .string ⟨#[]⟩] 23)) w') : Calls Try.prog 26 #[v] w fun e w' => e = rv A B C ∧ Old w w' := by
  have HO := Lib.hid ((Old.refl w).alloc (.cells #[.int .u8 0, .int .i64 0, .string ⟨#[]⟩] 23))
  have HT := Lib.hid (Three.new w (.int .u8 0) (.int .i64 0) (.string ⟨#[]⟩))
  go_enter Try.func26, Try.ntmps26
  go_wp2_with (first
    | (go_at_call 60; (with_reducible refine k1.mono ?_); rintro e w1 ⟨rfl, ho1⟩; have T := Lib.hid (HT.out.old ho1); have c0 := T.out.c0; have c1 := T.out.c1; have c2 := T.out.c2; have f0 := T.out.f 0; have f1 := T.out.f 1; have f2 := T.out.f 2))
  have R := T.out.set (.int .u8 A) (.int .i64 B) (.string ⟨#[]⟩)
  exact bodyPost_ret (v := .tuple #[vl A B ⟨#[]⟩, .int .i64 C]) (by simp [results, Try.results26, go_sem, R.c0, R.c1, R.c2]) rfl ⟨rfl, old3 (HO.out.trans ho1) (Nat.le_refl _) _ _ _⟩
theorem least_any (l : List Vl) (v : Value) (w : World) (hl : RV w v l) (hb : l.length ≤ 100000) (hi : ∀ x ∈ l, I64 x.n) : Calls Try.prog 26 #[v] w fun e w' => e = rvt (fmT lsP l) ∧ Old w w' :=
  least_walk v w _ _ _ (fore_any 61 lsP (by decide) (fun a b W => lst_any a b W) l v _ (hl.old ((Old.refl w).alloc _)) hb hi)
theorem most_walk (v : Value) (w : World) (A B C : Int) (k1 : Calls Try.prog 60 #[v, .func (.func 62) #[] #[]] (w.alloc (.cells #[.int .u8 0, .int .i64 0, .string ⟨#[]⟩] 23)) fun e w' => e = rv A B C ∧ Old (w.alloc (.cells #[.int .u8 0, .int .i64 0, .string ⟨#[]⟩] 23)) w') : Calls Try.prog 27 #[v] w fun e w' => e = rv A B C ∧ Old w w' := by
  have HO := Lib.hid ((Old.refl w).alloc (.cells #[.int .u8 0, .int .i64 0, .string ⟨#[]⟩] 23))
  have HT := Lib.hid (Three.new w (.int .u8 0) (.int .i64 0) (.string ⟨#[]⟩))
  go_enter Try.func27, Try.ntmps27
  go_wp2_with (first
    | (go_at_call 60; (with_reducible refine k1.mono ?_); rintro e w1 ⟨rfl, ho1⟩; have T := Lib.hid (HT.out.old ho1); have c0 := T.out.c0; have c1 := T.out.c1; have c2 := T.out.c2; have f0 := T.out.f 0; have f1 := T.out.f 1; have f2 := T.out.f 2))
  have R := T.out.set (.int .u8 A) (.int .i64 B) (.string ⟨#[]⟩)
  exact bodyPost_ret (v := .tuple #[vl A B ⟨#[]⟩, .int .i64 C]) (by simp [results, Try.results27, go_sem, R.c0, R.c1, R.c2]) rfl ⟨rfl, old3 (HO.out.trans ho1) (Nat.le_refl _) _ _ _⟩
theorem most_any (l : List Vl) (v : Value) (w : World) (hl : RV w v l) (hb : l.length ≤ 100000) (hi : ∀ x ∈ l, I64 x.n) : Calls Try.prog 27 #[v] w fun e w' => e = rvt (fmT msP l) ∧ Old w w' :=
  most_walk v w _ _ _ (fore_any 62 msP (by decide) (fun a b W => mst_any a b W) l v _ (hl.old ((Old.refl w).alloc _)) hb hi)

end Go.Proofs.Ytgfgfafildgpeaa
