/- The document's own answers of layer value: order, numbers, kinds, worth. -/
import Derived.Test.YtmoomdikgfeifaaVM
import Derived.Test.YtmoomdikgfeifaaVC
import Derived.Test.YtmoomdikgfeifaaRR
namespace Go.Proofs.Ytmoomdikgfeifaa
open Go.ChangeShapes Go.WideShapes Go.ChangeAt Go.RowKit
set_option linter.unusedVariables false

theorem fz3_k {a b c : Int} (h : ¬ a = 0) : fz [a, b, c] = a := by rw [fz, if_neg h]
theorem fz3_n {b c : Int} (h : ¬ b = 0) : fz [0, b, c] = b := by rw [fz, if_pos rfl, fz, if_neg h]
theorem fz3_s (c : Int) : fz [0, 0, c] = c := by
  rw [fz, if_pos rfl, fz, if_pos rfl, fz, fz]
  split
  · omega
  · rfl
theorem cz_self (a : Int) : cz a a = 0 := (cz_facts a a).2.2.2 rfl

theorem rorder_any (k n : Int) (s : ByteArray) (k' n' : Int) (s' : ByteArray) (w : World) : Calls Try.prog 8 #[vl k n s, vl k' n' s'] w fun e w' => e = .returned (.int .i64 (od k n s k' n' s')) ∧ Old w w' := by
  have HO := Lib.hid (((Old.refl w).alloc (.cells #[.int .u8 k, .int .i64 n, .string s] 23)).alloc (.cells #[.int .u8 k', .int .i64 n', .string s'] 23))
  unfold od
  by_cases hk : k = k'
  · subst hk
    rw [cz_self]
    by_cases hn : n = n'
    · subst hn
      rw [cz_self, fz3_s]
      cases h1 : Op.bytesLess s.toList s'.toList
      · cases h2 : (s.toList == s'.toList)
        · rw [cs_gt h1 h2]
          have h3 : ¬ s.toList = s'.toList := by simpa using h2
          go_enter Try.func8, Try.ntmps8
          go_wp2
          go_ret
          exact ⟨rfl, HO.out⟩
        · rw [cs_eq h1 h2]
          have h3 : s = s' := ba_ext (by simpa using h2)
          subst h3
          clear h1 h2
          have h4 := bl_irr s.toList
          go_enter Try.func8, Try.ntmps8
          go_wp2
          go_ret
          exact ⟨rfl, HO.out⟩
      · rw [cs_lt h1]
        go_enter Try.func8, Try.ntmps8
        go_wp2
        go_ret
        exact ⟨rfl, HO.out⟩
    · have hn0 : ¬ cz n n' = 0 := fun h => hn ((cz_facts n n').2.2.1 h)
      rw [fz3_n hn0]
      have hc : n < n' ∨ n' < n := by omega
      rcases hc with hc | hc
      · rw [cz_lt hc]
        go_enter Try.func8, Try.ntmps8
        go_wp2
        go_ret
        exact ⟨rfl, HO.out⟩
      · rw [cz_gt hc]
        go_enter Try.func8, Try.ntmps8
        go_wp2
        go_ret
        exact ⟨rfl, HO.out⟩
  · have hk0 : ¬ cz k k' = 0 := fun h => hk ((cz_facts k k').2.2.1 h)
    rw [fz3_k hk0]
    have hc : k < k' ∨ k' < k := by omega
    rcases hc with hc | hc
    · rw [cz_lt hc]
      go_enter Try.func8, Try.ntmps8
      go_wp2
      go_ret
      exact ⟨rfl, HO.out⟩
    · rw [cz_gt hc]
      go_enter Try.func8, Try.ntmps8
      go_wp2
      go_ret
      exact ⟨rfl, HO.out⟩

theorem rnum_any (k n : Int) (s : ByteArray) (w : World) : Calls Try.prog 32 #[vl k n s] w fun e w' => e = .returned (.bool (k == 1 || k == 2)) ∧ Old w w' := by
  by_cases hk : k = 1
  · subst hk
    go_enter Try.func32, Try.ntmps32
    go_wp2
    go_ret
    exact ⟨rfl, (Old.refl w).alloc _⟩
  · go_enter Try.func32, Try.ntmps32
    go_wp2
    go_ret
    exact ⟨rfl, (Old.refl w).alloc _⟩

/-- A number of the document's, told out of its two cells. -/
theorem retI_two {W w2 : World} {b : Nat} {x : Bool} {a : Option Addr} {m c : Nat} {n : Int} {nz : Bool} {oz : Option Addr} {lz cz' : Nat} (h : Two w2 b (.bool x) (.slice a m c)) (hb : W.heap.size ≤ b) (ho : Old W w2) (hz : RN w2 (.agg #[.bool nz, .slice oz lz cz']) n) :
    RetI W n (.returned (.agg #[.bool nz, .slice oz lz cz'])) ((w2.setCell ⟨b, 0, none⟩ (.bool nz)).setCell ⟨b, 1, none⟩ (.slice oz lz cz')) := by
  obtain ⟨v, ev, hr⟩ := hz
  simp only [Value.agg.injEq, Array.mk.injEq, List.cons.injEq, and_true, Value.bool.injEq] at ev
  obtain ⟨e1, rfl⟩ := ev
  refine ⟨_, rfl, ⟨_, by rw [e1], h.rd2 hr _ _⟩, (ho.setCell (p := ⟨b, 0, none⟩) hb _).setCell (p := ⟨b, 1, none⟩) hb _⟩

theorem worth_any (k n : Int) (s : ByteArray) (w : World) (hn : I64 n) : Calls Try.prog 34 #[vl k n s] w (RetI w (wt k n)) := by
  have HO := Lib.hid (((Old.refl w).alloc (.cells #[.int .u8 k, .int .i64 n, .string s] 23)).alloc (.cells #[.bool false, .slice none 0 0] 47))
  have HT := Two.new (w.alloc (.cells #[.int .u8 k, .int .i64 n, .string s] 23)) (.bool false) (.slice none 0 0)
  rw [sz_alloc] at HT
  have HT := Lib.hid HT
  have hu : I64 10000 := by decide
  by_cases hk : k = 1
  · subst hk
    have e : wt 1 n = n * 10000 := rfl
    rw [e]
    clear e
    go_enter Try.func34, Try.ntmps34
    go_wp2_with (first
      | (go_at_call 41; first
          | ((with_reducible refine (ofI n _ hn).mono ?_); rintro e w1 ⟨x, rfl, hx, o1⟩)
          | ((with_reducible refine (ofI 10000 _ hu).mono ?_); rintro e w2 ⟨y, rfl, hy, o2⟩))
      | (go_at_call 44; (with_reducible refine (mulI n 10000 _ _ _ (hx.old o2) hy (i64_lo hn) (i64_lo hu)).mono ?_); rintro e w3 ⟨z, rfl, hz, o3⟩; obtain ⟨nz, oz, lz, cz', rfl⟩ := hz.form; have T := Lib.hid (HT.out.old (o1.trans (o2.trans o3))); have c0 := T.out.c0; have c1 := T.out.c1; have f0 := T.out.f 0; have f1 := T.out.f 1))
    have ht := T.out.set (.bool nz) (.slice oz lz cz')
    exact bodyPost_ret (v := .agg #[.bool nz, .slice oz lz cz']) (by simp [results, Try.results34, go_sem, ht.c0, ht.c1]) rfl (retI_two T.out (by omega) (HO.out.trans (o1.trans (o2.trans o3))) hz)
  · have e : wt k n = n := if_neg hk
    rw [e]
    clear e
    go_enter Try.func34, Try.ntmps34
    go_wp2_with (first
      | (go_at_call 41; ((with_reducible refine (ofI n _ hn).mono ?_); rintro e w1 ⟨x, rfl, hz, o1⟩; obtain ⟨nz, oz, lz, cz', rfl⟩ := hz.form; have T := Lib.hid (HT.out.old o1); have c0 := T.out.c0; have c1 := T.out.c1; have f0 := T.out.f 0; have f1 := T.out.f 1)))
    have ht := T.out.set (.bool nz) (.slice oz lz cz')
    exact bodyPost_ret (v := .agg #[.bool nz, .slice oz lz cz']) (by simp [results, Try.results34, go_sem, ht.c0, ht.c1]) rfl (retI_two T.out (by omega) (HO.out.trans o1) hz)

end Go.Proofs.Ytmoomdikgfeifaa
