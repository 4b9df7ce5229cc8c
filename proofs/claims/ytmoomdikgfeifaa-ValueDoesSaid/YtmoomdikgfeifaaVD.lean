/- Layer value: sums, differences, products, quotients. -/
import Derived.Test.YtmoomdikgfeifaaVC
namespace Go.Proofs.Ytmoomdikgfeifaa
open Go.ChangeShapes Go.WideShapes Go.ChangeAt Go.RowKit
set_option linter.unusedVariables false

/-- A value without a text, and an error. -/
abbrev rv (k n er : Int) : Ending := .returned (.tuple #[vl k n ⟨#[]⟩, .int .i64 er])

theorem num_ok (k n : Int) (w : World) : Calls Try.prog 63 #[.int .u8 k, .int .i64 n, .int .i64 0] w fun e w' => e = rv k n 0 ∧ Old w w' := by
  go_enter Try.func63, Try.ntmps63
  go_wp2
  exact bodyPost_ret (v := .tuple #[vl k n ⟨#[]⟩, .int .i64 0]) (by simp [results, Try.results63, go_sem]) rfl ⟨rfl, (Old.refl w).alloc _⟩
theorem num_err (k n er : Int) (w : World) (he : ¬ er = 0) : Calls Try.prog 63 #[.int .u8 k, .int .i64 n, .int .i64 er] w fun e w' => e = rv 0 0 er ∧ Old w w' := by
  go_enter Try.func63, Try.ntmps63
  go_wp2
  exact bodyPost_ret (v := .tuple #[vl 0 0 ⟨#[]⟩, .int .i64 er]) (by simp [results, Try.results63, go_sem]) rfl ⟨rfl, (Old.refl w).alloc _⟩
theorem units_any (k n : Int) (s : ByteArray) (w : World) (hn : I64 n) : Calls Try.prog 65 #[vl k n s] w fun e w' => e = pr (fitV (wt k n)) (fitE (wt k n)) ∧ Old w w' := by
  by_cases hk : k = 1
  · subst hk
    go_enter Try.func65, Try.ntmps65
    go_wp2_with (first
      | (go_at_call 75; (with_reducible refine (scale_any _ _ hn).mono ?_); rintro e w1 ⟨rfl, hg⟩))
    go_ret2
    exact ⟨rfl, ((Old.refl w).alloc _).trans (Old.ofGrown hg)⟩
  · have e : wt k n = n := if_neg hk
    rw [e, fitV_in hn, fitE_in hn]
    clear e
    go_enter Try.func65, Try.ntmps65
    go_wp2
    go_ret2
    exact ⟨rfl, (Old.refl w).alloc _⟩


/-- A function of layer num: what it answers of two numbers. -/
def CF (f : FuncId) (V E : Int → Int → Int) : Prop := ∀ (a b : Int) (W : World), I64 a → I64 b → Calls Try.prog f #[.int .i64 a, .int .i64 b] W fun e w' => e = pr (V a b) (E a b) ∧ Old W w'
theorem cf_grown {f : FuncId} {V E : Int → Int → Int} (h : ∀ (a b : Int) (W : World), I64 a → I64 b → Calls Try.prog f #[.int .i64 a, .int .i64 b] W fun e w' => e = pr (V a b) (E a b) ∧ Grown W w') : CF f V E :=
  fun a b W ha hb => (h a b W ha hb).mono fun _ _ ⟨he, hg⟩ => ⟨he, Old.ofGrown hg⟩
theorem cf_same {f : FuncId} {V E : Int → Int → Int} (h : ∀ (a b : Int) (W : World), I64 a → I64 b → Calls Try.prog f #[.int .i64 a, .int .i64 b] W fun e w' => e = pr (V a b) (E a b) ∧ W = w') : CF f V E :=
  fun a b W ha hb => (h a b W ha hb).mono fun _ _ ⟨he, hg⟩ => ⟨he, hg ▸ Old.refl _⟩

/-- What number tells. -/
def nmK (k e : Int) : Int := if e = 0 then k else 0
def nmN (n e : Int) : Int := if e = 0 then n else 0
theorem number_any (k n er : Int) (w : World) : Calls Try.prog 63 #[.int .u8 k, .int .i64 n, .int .i64 er] w fun e w' => e = rv (nmK k er) (nmN n er) er ∧ Old w w' := by
  by_cases h : er = 0
  · subst h
    exact num_ok k n w
  · have e1 : nmK k er = 0 := if_neg h
    have e2 : nmN n er = 0 := if_neg h
    rw [e1, e2]
    exact num_err k n er w h

theorem Three.set0 {w : World} {b : Nat} {x y z : Value} (h : Three w b x y z) (u : Value) : Three (w.setCell ⟨b, 0, none⟩ u) b u y z := by
  have hlt := h.lt
  unfold Three at *
  have h' : w.heap[b] = .cells #[x, y, z] 23 (0, 0) := by simpa [Array.getElem?_eq_getElem hlt] using h
  show (w.heap.modify b _)[b]? = _
  rw [Array.getElem?_modify, if_pos rfl, h]
  simp
theorem Three.set1 {w : World} {b : Nat} {x y z : Value} (h : Three w b x y z) (u : Value) : Three (w.setCell ⟨b, 1, none⟩ u) b x u z := by
  have hlt := h.lt
  unfold Three at *
  have h' : w.heap[b] = .cells #[x, y, z] 23 (0, 0) := by simpa [Array.getElem?_eq_getElem hlt] using h
  show (w.heap.modify b _)[b]? = _
  rw [Array.getElem?_modify, if_pos rfl, h]
  simp
theorem Three.set2 {w : World} {b : Nat} {x y z : Value} (h : Three w b x y z) (u : Value) : Three (w.setCell ⟨b, 2, none⟩ u) b x y u := by
  have hlt := h.lt
  unfold Three at *
  have h' : w.heap[b] = .cells #[x, y, z] 23 (0, 0) := by simpa [Array.getElem?_eq_getElem hlt] using h
  show (w.heap.modify b _)[b]? = _
  rw [Array.getElem?_modify, if_pos rfl, h]
  simp
theorem Three.set {w : World} {b : Nat} {x y z : Value} (h : Three w b x y z) (u0 u1 u2 : Value) : Three (((w.setCell ⟨b, 0, none⟩ u0).setCell ⟨b, 1, none⟩ u1).setCell ⟨b, 2, none⟩ u2) b u0 u1 u2 := ((h.set0 u0).set1 u1).set2 u2
theorem old3 {W w : World} {b : Nat} (ho : Old W w) (hb : W.heap.size ≤ b) (u0 u1 u2 : Value) : Old W (((w.setCell ⟨b, 0, none⟩ u0).setCell ⟨b, 1, none⟩ u1).setCell ⟨b, 2, none⟩ u2) := ((ho.setCell (p := ⟨b, 0, none⟩) hb u0).setCell (p := ⟨b, 1, none⟩) hb u1).setCell (p := ⟨b, 2, none⟩) hb u2

theorem ints_any (f : FuncId) (hF : f = 37 ∨ f = 48 ∨ f = 49 ∨ f = 51) (V E : Int → Int → Int) (hf : CF f V E) (k n : Int) (s : ByteArray) (k' n' : Int) (s' : ByteArray) (w : World) (g : Nat) (hp : w.cell? ⟨g, 0, none⟩ = some (.func (.func f) #[] #[])) (hpl : g < w.heap.size) (hn : I64 n) (hn' : I64 n') :
    Calls Try.prog 62 #[vl k n s, vl k' n' s', .pointer (some ⟨g, 0, none⟩)] w fun e w' => e = rv (nmK 1 (E n n')) (nmN (V n n') (E n n')) (E n n') ∧ Old w w' := by
  have HO := Lib.hid ((((Old.refl w).alloc (.cells #[.int .u8 k, .int .i64 n, .string s] 23)).alloc (.cells #[.int .u8 k', .int .i64 n', .string s'] 23)).alloc (.cells #[.int .u8 0, .int .i64 0, .string ⟨#[]⟩] 23))
  have HT := Lib.hid (Three.new ((w.alloc (.cells #[.int .u8 k, .int .i64 n, .string s] 23)).alloc (.cells #[.int .u8 k', .int .i64 n', .string s'] 23)) (.int .u8 0) (.int .i64 0) (.string ⟨#[]⟩))
  rw [sz_alloc, sz_alloc] at HT
  have hq := (HO.out.cell (p := ⟨g, 0, none⟩) hpl).trans hp
  clear hp
  have hc := fun W => hf n n' W hn hn'
  clear hf
  rcases hF with rfl | rfl | rfl | rfl
  all_goals
    go_enter Try.func62, Try.ntmps62
    go_wp2_with (first
      | (first | go_at_call 37 | go_at_call 48 | go_at_call 49 | go_at_call 51
         (with_reducible refine (hc _).mono ?_); clear hq; rintro e w1 ⟨rfl, ho1⟩; have T1 := Lib.hid (HT.out.old ho1); have c0 := T1.out.c0; have c1 := T1.out.c1; have c2 := T1.out.c2; have f0 := T1.out.f 0; have f1 := T1.out.f 1; have f2 := T1.out.f 2)
      | (go_at_call 63
         (with_reducible refine (number_any _ _ _ _).mono ?_); clear c0 c1 c2 f0 f1 f2; rintro e w2 ⟨rfl, ho2⟩; have T2 := Lib.hid (T1.out.old ho2); have c0 := T2.out.c0; have c1 := T2.out.c1; have c2 := T2.out.c2; have f0 := T2.out.f 0; have f1 := T2.out.f 1; have f2 := T2.out.f 2))
    have R := T2.out.set (.int .u8 (nmK 1 (E n n'))) (.int .i64 (nmN (V n n') (E n n'))) (.string ⟨#[]⟩)
    exact bodyPost_ret (v := .tuple #[vl (nmK 1 (E n n')) (nmN (V n n') (E n n')) ⟨#[]⟩, .int .i64 (E n n')]) (by simp [results, Try.results62, go_sem, R.c0, R.c1, R.c2]) rfl ⟨rfl, old3 (HO.out.trans (ho1.trans ho2)) (by omega) _ _ _⟩

end Go.Proofs.Ytmoomdikgfeifaa
