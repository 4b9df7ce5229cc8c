/- Layer value: names; which values may be. May. sums, differences, products, quotients. reckoning with decimals; reckon. reckon. -/
import Derived.Test.YtmkmafkkpigfpaaGreatDoorZVN
set_option maxHeartbeats 1600000
namespace Go.Proofs.YtmkmafkkpigfpaaGreatDoor.V
open Go.ChangeShapes Go.WideShapes Go.ChangeAt Go.RowKit
set_option linter.unusedVariables false
set_option maxRecDepth 100000
theorem sl_any (b : Int) (w : World) : Calls Tryz.prog 141 #[.int .u8 b] w fun e w' => e = .returned (.bool (sl b)) ∧ w = w' := by
  unfold sl
  by_cases h : 97 ≤ b
  · go_enter Tryz.func141, Tryz.ntmps141
    go_wp2
    go_ret
    exact ⟨rb _ _ (by rw [decide_eq_true h]; rfl), rfl⟩
  · go_enter Tryz.func141, Tryz.ntmps141
    go_wp2
    go_ret
    exact ⟨rb _ _ (by rw [decide_eq_false (by omega)]; rfl), rfl⟩
theorem dg_any (b : Int) (w : World) : Calls Tryz.prog 142 #[.int .u8 b] w fun e w' => e = .returned (.bool (dg b)) ∧ w = w' := by
  unfold dg
  by_cases h : 48 ≤ b
  · go_enter Tryz.func142, Tryz.ntmps142
    go_wp2
    go_ret
    exact ⟨rb _ _ (by rw [decide_eq_true h]; rfl), rfl⟩
  · go_enter Tryz.func142, Tryz.ntmps142
    go_wp2
    go_ret
    exact ⟨rb _ _ (by rw [decide_eq_false (by omega)]; rfl), rfl⟩
theorem ba_nil {s : ByteArray} : s.toList = [] ↔ s.size = 0 := by
  rw [ByteArray.toList_eq]
  constructor
  · intro h
    have : s.data.toList.length = 0 := by rw [h]; rfl
    rw [Array.length_toList] at this
    exact this
  · intro h
    have : s.data.toList.length = 0 := by rw [Array.length_toList]; exact h
    exact List.length_eq_zero_iff.1 this
theorem sl_get (s : ByteArray) (B : Bool) (hB : sl (bt s 0) = B) (h : 0 < s.size) (w : World) : Calls Tryz.prog 141 #[.int .u8 ((s[0]'h).toNat : Int)] w fun e w' => e = .returned (.bool B) ∧ w = w' := by
  rw [bt_get s 0 h, ← hB]
  exact sl_any _ w
theorem name_none (s : ByteArray) (w : World) (h : s.toList = []) : Calls Tryz.prog 103 #[.string s] w fun e w' => e = .returned (.bool false) ∧ Old w w' := by
  go_enter Tryz.func103, Tryz.ntmps103
  go_wp2_with fail
  go_ret
  exact ⟨rfl, Old.refl w⟩
theorem name_long (s : ByteArray) (w : World) (h : ¬ s.toList = []) (hl : ¬ s.size ≤ 12) : Calls Tryz.prog 103 #[.string s] w fun e w' => e = .returned (.bool false) ∧ Old w w' := by
  go_enter Tryz.func103, Tryz.ntmps103
  go_wp2_with fail
  all_goals (go_ret; exact ⟨rfl, Old.refl w⟩)
theorem name_first (s : ByteArray) (w : World) (h : ¬ s.toList = []) (hz : 0 < s.size) (hl : s.size ≤ 12) (hB : sl (bt s 0) = false) : Calls Tryz.prog 103 #[.string s] w fun e w' => e = .returned (.bool false) ∧ Old w w' := by
  go_enter Tryz.func103, Tryz.ntmps103
  go_wp2_with (first
    | (go_at_call 141; (with_reducible refine (sl_get s false hB _ _).mono ?_); rintro e w1 ⟨rfl, rfl⟩))
  all_goals (go_ret; exact ⟨rfl, Old.refl w⟩)
theorem name_loop (s : ByteArray) (w : World) (cap : Nat) (W1 : World) (h : ¬ s.toList = []) (n : Nat) (hn : s.size = n) (hz : 0 < n) (hs : n ≤ 12) (hB : sl (bt s 0) = true) (hc : (convert 9 87 (.string s)).run Tryz.prog w = .ok (.slice (some ⟨w.heap.size, 0, none⟩) n cap) W1) (ho : Old w W1) (hj : ∀ j, j < n → W1.cell? ⟨w.heap.size, j, none⟩ = some (.int .u8 (bt s j))) :
    Calls Tryz.prog 103 #[.string s] w fun e w' => e = .returned (.bool (fst nb s n)) ∧ Old w w' := by
  have HA := Lib.hid hj
  have HO := Lib.hid ho
  clear hj ho
  have hE : s.toList.isEmpty = false := by simpa using h
  go_enter Tryz.func103, Tryz.ntmps103
  go_wp2_with (first
    | (go_at_call 141; (with_reducible refine (sl_get s true hB _ _).mono ?_); rintro e w1 ⟨rfl, rfl⟩))
  go_loopw [21] (fun i wr => ∃ k : Nat, k ≤ n ∧ i = .int .i64 (k : Int) ∧ Hid (fst nb s k = true) ∧ wr = W1) (fun i _ => (n - intOf i).toNat)
  case atStart => exact ⟨0, Nat.zero_le _, rfl, Lib.hid rfl, rfl⟩
  case round =>
    obtain ⟨k, hk, rfl, HE, rfl⟩ := hrel
    by_cases hkn : k < n
    · have d0 := HA.out k hkn
      obtain ⟨b, hb⟩ : ∃ b, b = bt s k := ⟨_, rfl⟩
      rw [← hb] at d0
      have HX := Lib.hid hb
      clear hb
      cases h1 : sl b
      · cases h2 : dg b
        · have k1 := sl_any b
          have k2 := dg_any b
          rw [h1] at k1
          rw [h2] at k2
          go_wp2_with (first
            | (go_at_call 141; (with_reducible refine (k1 _).mono ?_); rintro e w1 ⟨rfl, rfl⟩)
            | (go_at_call 142; (with_reducible refine (k2 _).mono ?_); rintro e w1 ⟨rfl, rfl⟩))
          have e : fst nb s n = false := fst_no (by rw [← HX.out]; unfold nb; rw [h1, h2]; rfl) n hkn
          go_ret
          exact ⟨rb _ _ e.symm, HO.out⟩
        · have k1 := sl_any b
          have k2 := dg_any b
          rw [h1] at k1
          rw [h2] at k2
          go_wp2_with (first
            | (go_at_call 141; (with_reducible refine (k1 _).mono ?_); rintro e w1 ⟨rfl, rfl⟩)
            | (go_at_call 142; (with_reducible refine (k2 _).mono ?_); rintro e w1 ⟨rfl, rfl⟩))
          refine ⟨⟨k + 1, hkn, rfl, Lib.hid ?_, ?_⟩, by simp only [intOf]; omega⟩
          · rw [fst, HE.out, ← HX.out]; unfold nb; rw [h1, h2]; rfl
          · first | rfl | trivial
      · have k1 := sl_any b
        rw [h1] at k1
        go_wp2_with (first
          | (go_at_call 141; (with_reducible refine (k1 _).mono ?_); rintro e w1 ⟨rfl, rfl⟩))
        refine ⟨⟨k + 1, hkn, rfl, Lib.hid ?_, ?_⟩, by simp only [intOf]; omega⟩
        · rw [fst, HE.out, ← HX.out]; unfold nb; rw [h1]; rfl
        · first | rfl | trivial
    · have hkn' : k = n := by omega
      subst hkn'
      go_wp2
      go_ret
      exact ⟨rb _ _ HE.out.symm, HO.out⟩
theorem name_any (s : ByteArray) (w : World) : Calls Tryz.prog 103 #[.string s] w fun e w' => e = .returned (.bool (nameB s)) ∧ Old w w' := by
  unfold nameB
  by_cases h : s.toList = []
  · rw [decide_eq_false (by have := ba_nil.1 h; omega)]
    exact name_none s w h
  · have hz : 0 < s.size := Nat.pos_of_ne_zero (fun e => h (ba_nil.2 e))
    by_cases hl : s.size ≤ 12
    · rw [decide_eq_true ⟨hz, hl⟩]
      cases hB : sl (bt s 0)
      · exact name_first s w h hz hl hB
      · obtain ⟨cap, W1, h1, h2, h3⟩ := conv_cells w s
        exact name_loop s w cap W1 h s.size rfl hz hl hB h1 h2 h3
    · rw [decide_eq_false (by omega)]
      exact name_long s w h hl
theorem may_any (k n : Int) (s : ByteArray) (w : World) : Calls Tryz.prog 58 #[vl k n s] w fun e w' => e = .returned (.bool (mayB k n s)) ∧ Old w w' := by
  unfold mayB
  by_cases h0 : k = 0
  · subst h0
    rw [if_pos rfl]
    by_cases hn : n = 0
    · subst hn
      go_enter Tryz.func58, Tryz.ntmps58
      go_wp2
      go_ret
      exact ⟨rfl, (Old.refl w).alloc _⟩
    · have e : (n == 0) = false := by simpa using hn
      rw [e]
      go_enter Tryz.func58, Tryz.ntmps58
      go_wp2
      go_ret
      exact ⟨rfl, (Old.refl w).alloc _⟩
  rw [if_neg h0]
  by_cases h1 : k = 1 ∨ k = 2
  · rw [if_pos h1]
    rcases h1 with rfl | rfl
    · clear h0
      go_enter Tryz.func58, Tryz.ntmps58
      go_wp2
      go_ret
      exact ⟨rfl, (Old.refl w).alloc _⟩
    · clear h0
      go_enter Tryz.func58, Tryz.ntmps58
      go_wp2
      go_ret
      exact ⟨rfl, (Old.refl w).alloc _⟩
  rw [if_neg h1]
  by_cases h3 : k = 3
  · subst h3
    rw [if_pos rfl]
    clear h0 h1
    by_cases hn : n = 0
    · subst hn
      go_enter Tryz.func58, Tryz.ntmps58
      go_wp2_with (first
        | (go_at_call 102; (with_reducible refine (text_any _ _).mono ?_); rintro e w1 ⟨rfl, ho⟩))
      go_ret
      exact ⟨rfl, ((Old.refl w).alloc _).trans ho⟩
    · have e : (n == 0) = false := by simpa using hn
      rw [e]
      go_enter Tryz.func58, Tryz.ntmps58
      go_wp2
      go_ret
      exact ⟨rfl, (Old.refl w).alloc _⟩
  rw [if_neg h3]
  by_cases h4 : k = 4
  · subst h4
    rw [if_pos rfl]
    clear h0 h1 h3
    by_cases hn : n = 0
    · subst hn
      go_enter Tryz.func58, Tryz.ntmps58
      go_wp2
      go_ret
      exact ⟨rfl, (Old.refl w).alloc _⟩
    · by_cases hn1 : n = 1
      · subst hn1
        go_enter Tryz.func58, Tryz.ntmps58
        go_wp2
        go_ret
        exact ⟨rfl, (Old.refl w).alloc _⟩
      · have e : (n == 0) = false := by simpa using hn
        have e' : (n == 1) = false := by simpa using hn1
        rw [e, e']
        go_enter Tryz.func58, Tryz.ntmps58
        go_wp2
        go_ret
        exact ⟨rfl, (Old.refl w).alloc _⟩
  rw [if_neg h4]
  by_cases h5 : k = 5
  · subst h5
    rw [if_pos rfl]
    clear h0 h1 h3 h4
    by_cases hn : n = 0
    · subst hn
      go_enter Tryz.func58, Tryz.ntmps58
      go_wp2_with (first
        | (go_at_call 103; (with_reducible refine (name_any _ _).mono ?_); rintro e w1 ⟨rfl, ho⟩))
      go_ret
      exact ⟨rfl, ((Old.refl w).alloc _).trans ho⟩
    · have e : (n == 0) = false := by simpa using hn
      rw [e]
      go_enter Tryz.func58, Tryz.ntmps58
      go_wp2
      go_ret
      exact ⟨rfl, (Old.refl w).alloc _⟩
  rw [if_neg h5]
  have h2 : ¬ k = 2 := fun h => h1 (Or.inr h)
  have h1' : ¬ k = 1 := fun h => h1 (Or.inl h)
  clear h1
  go_enter Tryz.func58, Tryz.ntmps58
  go_wp2
  go_ret
  exact ⟨rfl, (Old.refl w).alloc _⟩
end Go.Proofs.YtmkmafkkpigfpaaGreatDoor.V
namespace Go.Proofs.YtmkmafkkpigfpaaGreatDoor.V
open Go.ChangeShapes Go.WideShapes Go.ChangeAt Go.RowKit
set_option linter.unusedVariables false
abbrev rv (k n er : Int) : Ending := .returned (.tuple #[vl k n ⟨#[]⟩, .int .i64 er])
theorem num_ok (k n : Int) (w : World) : Calls Tryz.prog 147 #[.int .u8 k, .int .i64 n, .int .i64 0] w fun e w' => e = rv k n 0 ∧ Old w w' := by
  go_enter Tryz.func147, Tryz.ntmps147
  go_wp2
  exact bodyPost_ret (v := .tuple #[vl k n ⟨#[]⟩, .int .i64 0]) (by simp [results, Tryz.results147, go_sem]) rfl ⟨rfl, (Old.refl w).alloc _⟩
theorem num_err (k n er : Int) (w : World) (he : ¬ er = 0) : Calls Tryz.prog 147 #[.int .u8 k, .int .i64 n, .int .i64 er] w fun e w' => e = rv 0 0 er ∧ Old w w' := by
  go_enter Tryz.func147, Tryz.ntmps147
  go_wp2
  exact bodyPost_ret (v := .tuple #[vl 0 0 ⟨#[]⟩, .int .i64 er]) (by simp [results, Tryz.results147, go_sem]) rfl ⟨rfl, (Old.refl w).alloc _⟩
theorem units_any (k n : Int) (s : ByteArray) (w : World) (hn : I64 n) : Calls Tryz.prog 149 #[vl k n s] w fun e w' => e = pr (fitV (wt k n)) (fitE (wt k n)) ∧ Old w w' := by
  by_cases hk : k = 1
  · subst hk
    go_enter Tryz.func149, Tryz.ntmps149
    go_wp2_with (first
      | (go_at_call 171; (with_reducible refine (scale_any _ _ hn).mono ?_); rintro e w1 ⟨rfl, hg⟩))
    go_ret2
    exact ⟨rfl, ((Old.refl w).alloc _).trans (Old.ofGrown hg)⟩
  · have e : wt k n = n := if_neg hk
    rw [e, fitV_in hn, fitE_in hn]
    clear e
    go_enter Tryz.func149, Tryz.ntmps149
    go_wp2
    go_ret2
    exact ⟨rfl, (Old.refl w).alloc _⟩
def CF (f : FuncId) (V E : Int → Int → Int) : Prop := ∀ (a b : Int) (W : World), I64 a → I64 b → Calls Tryz.prog f #[.int .i64 a, .int .i64 b] W fun e w' => e = pr (V a b) (E a b) ∧ Old W w'
theorem cf_grown {f : FuncId} {V E : Int → Int → Int} (h : ∀ (a b : Int) (W : World), I64 a → I64 b → Calls Tryz.prog f #[.int .i64 a, .int .i64 b] W fun e w' => e = pr (V a b) (E a b) ∧ Grown W w') : CF f V E :=
  fun a b W ha hb => (h a b W ha hb).mono fun _ _ ⟨he, hg⟩ => ⟨he, Old.ofGrown hg⟩
theorem cf_same {f : FuncId} {V E : Int → Int → Int} (h : ∀ (a b : Int) (W : World), I64 a → I64 b → Calls Tryz.prog f #[.int .i64 a, .int .i64 b] W fun e w' => e = pr (V a b) (E a b) ∧ W = w') : CF f V E :=
  fun a b W ha hb => (h a b W ha hb).mono fun _ _ ⟨he, hg⟩ => ⟨he, hg ▸ Old.refl _⟩
def nmK (k e : Int) : Int := if e = 0 then k else 0
def nmN (n e : Int) : Int := if e = 0 then n else 0
theorem number_any (k n er : Int) (w : World) : Calls Tryz.prog 147 #[.int .u8 k, .int .i64 n, .int .i64 er] w fun e w' => e = rv (nmK k er) (nmN n er) er ∧ Old w w' := by
  by_cases h : er = 0
  · subst h
    exact num_ok k n w
  · have e1 : nmK k er = 0 := if_neg h
    have e2 : nmN n er = 0 := if_neg h
    rw [e1, e2]
    exact num_err k n er w h
theorem ints_any (f : FuncId) (hF : f = 116 ∨ f = 118 ∨ f = 119 ∨ f = 121) (V E : Int → Int → Int) (hf : CF f V E) (k n : Int) (s : ByteArray) (k' n' : Int) (s' : ByteArray) (w : World) (g : Nat) (hp : w.cell? ⟨g, 0, none⟩ = some (.func (.func f) #[] #[])) (hpl : g < w.heap.size) (hn : I64 n) (hn' : I64 n') :
    Calls Tryz.prog 146 #[vl k n s, vl k' n' s', .pointer (some ⟨g, 0, none⟩)] w fun e w' => e = rv (nmK 1 (E n n')) (nmN (V n n') (E n n')) (E n n') ∧ Old w w' := by
  have HO := Lib.hid ((((Old.refl w).alloc (.cells #[.int .u8 k, .int .i64 n, .string s] 26)).alloc (.cells #[.int .u8 k', .int .i64 n', .string s'] 26)).alloc (.cells #[.int .u8 0, .int .i64 0, .string ⟨#[]⟩] 26))
  have HT := Lib.hid (Three.new ((w.alloc (.cells #[.int .u8 k, .int .i64 n, .string s] 26)).alloc (.cells #[.int .u8 k', .int .i64 n', .string s'] 26)) (.int .u8 0) (.int .i64 0) (.string ⟨#[]⟩))
  rw [sz_alloc, sz_alloc] at HT
  have hq := (HO.out.cell (p := ⟨g, 0, none⟩) hpl).trans hp
  clear hp
  have hc := fun W => hf n n' W hn hn'
  clear hf
  rcases hF with rfl | rfl | rfl | rfl
  all_goals
    go_enter Tryz.func146, Tryz.ntmps146
    go_wp2_with (first
      | (first | go_at_call 116 | go_at_call 118 | go_at_call 119 | go_at_call 121
         (with_reducible refine (hc _).mono ?_); clear hq; rintro e w1 ⟨rfl, ho1⟩; have T1 := Lib.hid (HT.out.old ho1); have c0 := T1.out.c0; have c1 := T1.out.c1; have c2 := T1.out.c2; have f0 := T1.out.f 0; have f1 := T1.out.f 1; have f2 := T1.out.f 2)
      | (go_at_call 147
         (with_reducible refine (number_any _ _ _ _).mono ?_); clear c0 c1 c2 f0 f1 f2; rintro e w2 ⟨rfl, ho2⟩; have T2 := Lib.hid (T1.out.old ho2); have c0 := T2.out.c0; have c1 := T2.out.c1; have c2 := T2.out.c2; have f0 := T2.out.f 0; have f1 := T2.out.f 1; have f2 := T2.out.f 2))
    have R := T2.out.set (.int .u8 (nmK 1 (E n n'))) (.int .i64 (nmN (V n n') (E n n'))) (.string ⟨#[]⟩)
    exact bodyPost_ret (v := .tuple #[vl (nmK 1 (E n n')) (nmN (V n n') (E n n')) ⟨#[]⟩, .int .i64 (E n n')]) (by simp [results, Tryz.results146, go_sem, R.c0, R.c1, R.c2]) rfl ⟨rfl, old3 (HO.out.trans (ho1.trans ho2)) (by omega) _ _ _⟩
theorem decs_any (f : FuncId) (hF : f = 116 ∨ f = 118 ∨ f = 120 ∨ f = 122) (V E : Int → Int → Int) (hf : CF f V E) (k n : Int) (s : ByteArray) (k' n' : Int) (s' : ByteArray) (w : World) (g : Nat) (hp : w.cell? ⟨g, 0, none⟩ = some (.func (.func f) #[] #[])) (hpl : g < w.heap.size) (hn : I64 n) (hn' : I64 n') (hu : I64 (wt k n)) (hu' : I64 (wt k' n')) :
    Calls Tryz.prog 148 #[vl k n s, vl k' n' s', .pointer (some ⟨g, 0, none⟩)] w fun e w' => e = rv (nmK 2 (E (wt k n) (wt k' n'))) (nmN (V (wt k n) (wt k' n')) (E (wt k n) (wt k' n'))) (E (wt k n) (wt k' n')) ∧ Old w w' := by
  have HO := Lib.hid ((((Old.refl w).alloc (.cells #[.int .u8 k, .int .i64 n, .string s] 26)).alloc (.cells #[.int .u8 k', .int .i64 n', .string s'] 26)).alloc (.cells #[.int .u8 0, .int .i64 0, .string ⟨#[]⟩] 26))
  have HB := Lib.hid ((Bx2.new w k n s k' n' s').old ((Old.refl _).alloc (.cells #[.int .u8 0, .int .i64 0, .string ⟨#[]⟩] 26)))
  have HT := Lib.hid (Three.new ((w.alloc (.cells #[.int .u8 k, .int .i64 n, .string s] 26)).alloc (.cells #[.int .u8 k', .int .i64 n', .string s'] 26)) (.int .u8 0) (.int .i64 0) (.string ⟨#[]⟩))
  rw [sz_alloc, sz_alloc] at HT
  have HP := Lib.hid hp
  clear hp
  have hc := fun W => hf (wt k n) (wt k' n') W hu hu'
  clear hf
  have k1 := fun W => units_any k n s W hn
  have k2 := fun W => units_any k' n' s' W hn'
  rw [fitV_in hu, fitE_in hu] at k1
  rw [fitV_in hu', fitE_in hu'] at k2
  generalize wt k n = u at *
  generalize wt k' n' = u' at *
  rcases hF with rfl | rfl | rfl | rfl
  all_goals
    go_enter Tryz.func148, Tryz.ntmps148
    go_wp2_with (first
      | (go_at_call 149; first
          | ((with_reducible refine (k1 _).mono ?_); rintro e w1 ⟨rfl, ho1⟩; have B1 := Lib.hid (HB.out.old ho1); have c0 := B1.out.t1.c0; have c1 := B1.out.t1.c1; have c2 := B1.out.t1.c2)
          | ((with_reducible refine (k2 _).mono ?_); clear c0 c1 c2; rintro e w2 ⟨rfl, ho2⟩; have O2 := Lib.hid (HO.out.trans (ho1.trans ho2)); have hq := (O2.out.cell (p := ⟨g, 0, none⟩) hpl).trans HP.out))
      | (first | go_at_call 116 | go_at_call 118 | go_at_call 120 | go_at_call 122
         (with_reducible refine (hc _).mono ?_); clear hq; rintro e w3 ⟨rfl, ho3⟩)
      | (go_at_call 147
         (with_reducible refine (number_any _ _ _ _).mono ?_); rintro e w4 ⟨rfl, ho4⟩; have T2 := Lib.hid (HT.out.old (ho1.trans (ho2.trans (ho3.trans ho4)))); have c0 := T2.out.c0; have c1 := T2.out.c1; have c2 := T2.out.c2; have f0 := T2.out.f 0; have f1 := T2.out.f 1; have f2 := T2.out.f 2))
    have R := T2.out.set (.int .u8 (nmK 2 (E u u'))) (.int .i64 (nmN (V u u') (E u u'))) (.string ⟨#[]⟩)
    exact bodyPost_ret (v := .tuple #[vl (nmK 2 (E u u')) (nmN (V u u') (E u u')) ⟨#[]⟩, .int .i64 (E u u')]) (by simp [results, Tryz.results148, go_sem, R.c0, R.c1, R.c2]) rfl ⟨rfl, old3 (O2.out.trans (ho3.trans ho4)) (by omega) _ _ _⟩
theorem decs_over (k n : Int) (s : ByteArray) (k' n' : Int) (s' : ByteArray) (w : World) (g : Nat) (hn : I64 n) (hn' : I64 n') (hu : ¬ (I64 (wt k n) ∧ I64 (wt k' n'))) :
    Calls Tryz.prog 148 #[vl k n s, vl k' n' s', .pointer (some ⟨g, 0, none⟩)] w fun e w' => e = rv 0 0 9 ∧ Old w w' := by
  have HO := Lib.hid ((((Old.refl w).alloc (.cells #[.int .u8 k, .int .i64 n, .string s] 26)).alloc (.cells #[.int .u8 k', .int .i64 n', .string s'] 26)).alloc (.cells #[.int .u8 0, .int .i64 0, .string ⟨#[]⟩] 26))
  have HB := Lib.hid ((Bx2.new w k n s k' n' s').old ((Old.refl _).alloc (.cells #[.int .u8 0, .int .i64 0, .string ⟨#[]⟩] 26)))
  have HT := Lib.hid (Three.new ((w.alloc (.cells #[.int .u8 k, .int .i64 n, .string s] 26)).alloc (.cells #[.int .u8 k', .int .i64 n', .string s'] 26)) (.int .u8 0) (.int .i64 0) (.string ⟨#[]⟩))
  rw [sz_alloc, sz_alloc] at HT
  have k1 := fun W => units_any k n s W hn
  have k2 := fun W => units_any k' n' s' W hn'
  by_cases h1 : I64 (wt k n)
  · have h2 : ¬ I64 (wt k' n') := fun h => hu ⟨h1, h⟩
    rw [fitV_in h1, fitE_in h1] at k1
    rw [fitV_out h2, fitE_out h2] at k2
    generalize wt k n = u at *
    clear hu h2
    go_enter Tryz.func148, Tryz.ntmps148
    go_wp2_with (first
      | (go_at_call 149; first
          | ((with_reducible refine (k1 _).mono ?_); rintro e w1 ⟨rfl, ho1⟩; have B1 := Lib.hid (HB.out.old ho1); have c0 := B1.out.t1.c0; have c1 := B1.out.t1.c1; have c2 := B1.out.t1.c2)
          | ((with_reducible refine (k2 _).mono ?_); clear c0 c1 c2; rintro e w2 ⟨rfl, ho2⟩; have T2 := Lib.hid (HT.out.old (ho1.trans ho2)); have c0 := T2.out.c0; have c1 := T2.out.c1; have c2 := T2.out.c2; have f0 := T2.out.f 0; have f1 := T2.out.f 1; have f2 := T2.out.f 2)))
    have R := T2.out.set (.int .u8 0) (.int .i64 0) (.string ⟨#[]⟩)
    exact bodyPost_ret (v := .tuple #[vl 0 0 ⟨#[]⟩, .int .i64 9]) (by simp [results, Tryz.results148, go_sem, R.c0, R.c1, R.c2]) rfl ⟨rfl, old3 (HO.out.trans (ho1.trans ho2)) (by omega) _ _ _⟩
  · rw [fitV_out h1, fitE_out h1] at k1
    clear hu h1
    go_enter Tryz.func148, Tryz.ntmps148
    go_wp2_with (first
      | (go_at_call 149; ((with_reducible refine (k1 _).mono ?_); rintro e w1 ⟨rfl, ho1⟩; have T2 := Lib.hid (HT.out.old ho1); have c0 := T2.out.c0; have c1 := T2.out.c1; have c2 := T2.out.c2; have f0 := T2.out.f 0; have f1 := T2.out.f 1; have f2 := T2.out.f 2)))
    have R := T2.out.set (.int .u8 0) (.int .i64 0) (.string ⟨#[]⟩)
    exact bodyPost_ret (v := .tuple #[vl 0 0 ⟨#[]⟩, .int .i64 9]) (by simp [results, Tryz.results148, go_sem, R.c0, R.c1, R.c2]) rfl ⟨rfl, old3 (HO.out.trans ho1) (by omega) _ _ _⟩
theorem RV.new2 (w : World) (k n : Int) (s : ByteArray) (k' n' : Int) (s' : ByteArray) : RV (w.alloc (.cells #[.int .u8 k, .int .i64 n, .string s, .int .u8 k', .int .i64 n', .string s'] 26)) (.slice (some ⟨w.heap.size, 0, none⟩) 2 2) [⟨k, n, s⟩, ⟨k', n', s'⟩] := by
  refine ⟨_, 2, rfl, Nat.le_refl _, by decide, fun j x hj => ?_⟩
  have h := (MapKept.heap_alloc w (.cells #[.int .u8 k, .int .i64 n, .string s, .int .u8 k', .int .i64 n', .string s'] 26)).1
  refine ⟨_, rfl, blk_lt h, ?_⟩
  have hj' : j = 0 ∨ j = 1 := by
    have := (List.getElem?_eq_some_iff.1 hj).1
    simp at this; omega
  simp only [World.cell?, h]
  rcases hj' with rfl | rfl <;> (simp at hj; subst hj; exact ⟨rfl, rfl, rfl⟩)
structure Rk3 (w W : World) (k n : Int) (s : ByteArray) (k' n' : Int) (s' : ByteArray) : Prop where
  b : Bx2 w W k n s k' n' s'
  t2 : Three W (w.heap.size + 1 + 1) (.int .u8 0) (.int .i64 0) (.string ⟨#[]⟩)
theorem Rk3.old {w W W' : World} {k n : Int} {s : ByteArray} {k' n' : Int} {s' : ByteArray} (h : Rk3 w W k n s k' n' s') (ho : Old W W') : Rk3 w W' k n s k' n' s' := ⟨h.b.old ho, h.t2.old ho⟩
theorem Rk3.new (w : World) (k n : Int) (s : ByteArray) (k' n' : Int) (s' : ByteArray) : Rk3 w (((w.alloc (.cells #[.int .u8 k, .int .i64 n, .string s] 26)).alloc (.cells #[.int .u8 k', .int .i64 n', .string s'] 26)).alloc (.cells #[.int .u8 0, .int .i64 0, .string ⟨#[]⟩] 26)) k n s k' n' s' := by
  refine ⟨(Bx2.new w k n s k' n' s').old ((Old.refl _).alloc _), ?_⟩
  have := Three.new ((w.alloc (.cells #[.int .u8 k, .int .i64 n, .string s] 26)).alloc (.cells #[.int .u8 k', .int .i64 n', .string s'] 26)) (.int .u8 0) (.int .i64 0) (.string ⟨#[]⟩)
  rwa [sz_alloc, sz_alloc] at this
abbrev rkW (w : World) (k n : Int) (s : ByteArray) (k' n' : Int) (s' : ByteArray) : World := (((w.alloc (.cells #[.int .u8 k, .int .i64 n, .string s] 26)).alloc (.cells #[.int .u8 k', .int .i64 n', .string s'] 26)).alloc (.cells #[.int .u8 0, .int .i64 0, .string ⟨#[]⟩] 26)).alloc (.cells #[.int .u8 k, .int .i64 n, .string s, .int .u8 k', .int .i64 n', .string s'] 26)
theorem rk_kind (w : World) (k n : Int) (s : ByteArray) (k' n' : Int) (s' : ByteArray) :
    Calls Tryz.prog 145 #[.slice (some ⟨w.heap.size + 1 + 1 + 1, 0, none⟩) 2 2] (rkW w k n s k' n' s') fun e w' => e = kp (kdV [⟨k, n, s⟩, ⟨k', n', s'⟩]) (kdE [⟨k, n, s⟩, ⟨k', n', s'⟩]) ∧ Old (rkW w k n s k' n' s') w' := by
  have h := RV.new2 (((w.alloc (.cells #[.int .u8 k, .int .i64 n, .string s] 26)).alloc (.cells #[.int .u8 k', .int .i64 n', .string s'] 26)).alloc (.cells #[.int .u8 0, .int .i64 0, .string ⟨#[]⟩] 26)) k n s k' n' s'
  rw [sz_alloc, sz_alloc, sz_alloc] at h
  exact kind_any _ _ _ h (Nat.le_of_ble_eq_true rfl)
theorem reck_end (fw fd : Value) (k n : Int) (s : ByteArray) (k' n' : Int) (s' : ByteArray) (w : World) (er : Int) (hV : kdV [⟨k, n, s⟩, ⟨k', n', s'⟩] = 0) (hE : kdE [⟨k, n, s⟩, ⟨k', n', s'⟩] = er) :
    Calls Tryz.prog 114 #[vl k n s, vl k' n' s', fw, fd] w fun e w' => e = rv 0 0 er ∧ Old w w' := by
  have HR := Lib.hid ((Rk3.new w k n s k' n' s').old ((Old.refl _).alloc (.cells #[.int .u8 k, .int .i64 n, .string s, .int .u8 k', .int .i64 n', .string s'] 26)))
  have k1 := rk_kind w k n s k' n' s'
  rw [hV, hE] at k1
  clear hV hE
  by_cases he : er = 0
  · subst he
    go_enter Tryz.func114, Tryz.ntmps114
    go_wp2_with (first | (go_at_call 145; refine k1.mono ?_; rintro e w1 ⟨rfl, ho1⟩; have R1 := Lib.hid (HR.out.old ho1); have c0 := R1.out.t2.c0; have c1 := R1.out.t2.c1; have c2 := R1.out.t2.c2; have f0 := R1.out.t2.f 0; have f1 := R1.out.t2.f 1; have f2 := R1.out.t2.f 2))
    have R := R1.out.t2.set (.int .u8 0) (.int .i64 0) (.string ⟨#[]⟩)
    exact bodyPost_ret (v := .tuple #[vl 0 0 ⟨#[]⟩, .int .i64 0]) (by simp [results, Tryz.results114, go_sem, R.c0, R.c1, R.c2]) rfl ⟨rfl, old3 R1.out.b.o (by omega) _ _ _⟩
  · go_enter Tryz.func114, Tryz.ntmps114
    go_wp2_with (first | (go_at_call 145; refine k1.mono ?_; rintro e w1 ⟨rfl, ho1⟩; have R1 := Lib.hid (HR.out.old ho1); have c0 := R1.out.t2.c0; have c1 := R1.out.t2.c1; have c2 := R1.out.t2.c2; have f0 := R1.out.t2.f 0; have f1 := R1.out.t2.f 1; have f2 := R1.out.t2.f 2))
    have R := R1.out.t2.set (.int .u8 0) (.int .i64 0) (.string ⟨#[]⟩)
    exact bodyPost_ret (v := .tuple #[vl 0 0 ⟨#[]⟩, .int .i64 er]) (by simp [results, Tryz.results114, go_sem, R.c0, R.c1, R.c2]) rfl ⟨rfl, old3 R1.out.b.o (by omega) _ _ _⟩
theorem reck_int (p fd : Value) (k n : Int) (s : ByteArray) (k' n' : Int) (s' : ByteArray) (w : World) (A B C : Int) (hV : kdV [⟨k, n, s⟩, ⟨k', n', s'⟩] = 1) (hE : kdE [⟨k, n, s⟩, ⟨k', n', s'⟩] = 0)
    (hc : ∀ W, Old w W → Calls Tryz.prog 146 #[vl k n s, vl k' n' s', p] W fun e w' => e = rv A B C ∧ Old W w') :
    Calls Tryz.prog 114 #[vl k n s, vl k' n' s', .func (.func 146) #[] #[p], fd] w fun e w' => e = rv A B C ∧ Old w w' := by
  have HR := Lib.hid ((Rk3.new w k n s k' n' s').old ((Old.refl _).alloc (.cells #[.int .u8 k, .int .i64 n, .string s, .int .u8 k', .int .i64 n', .string s'] 26)))
  have k1 := rk_kind w k n s k' n' s'
  rw [hV, hE] at k1
  clear hV hE
  go_enter Tryz.func114, Tryz.ntmps114
  go_wp2_with (first
    | (go_at_call 145; refine k1.mono ?_; rintro e w1 ⟨rfl, ho1⟩; have R1 := Lib.hid (HR.out.old ho1); have c0 := R1.out.b.t0.c0; have c1 := R1.out.b.t0.c1; have c2 := R1.out.b.t0.c2; have d0 := R1.out.b.t1.c0; have d1 := R1.out.b.t1.c1; have d2 := R1.out.b.t1.c2)
    | (go_at_call 146; (with_reducible refine (hc _ R1.out.b.o).mono ?_); clear c0 c1 c2 d0 d1 d2; rintro e w2 ⟨rfl, ho2⟩; have R2 := Lib.hid (R1.out.old ho2); have c0 := R2.out.t2.c0; have c1 := R2.out.t2.c1; have c2 := R2.out.t2.c2; have f0 := R2.out.t2.f 0; have f1 := R2.out.t2.f 1; have f2 := R2.out.t2.f 2))
  have R := R2.out.t2.set (.int .u8 A) (.int .i64 B) (.string ⟨#[]⟩)
  exact bodyPost_ret (v := .tuple #[vl A B ⟨#[]⟩, .int .i64 C]) (by simp [results, Tryz.results114, go_sem, R.c0, R.c1, R.c2]) rfl ⟨rfl, old3 R2.out.b.o (by omega) _ _ _⟩
theorem reck_dec (p fw : Value) (k n : Int) (s : ByteArray) (k' n' : Int) (s' : ByteArray) (w : World) (A B C : Int) (hV : kdV [⟨k, n, s⟩, ⟨k', n', s'⟩] = 2) (hE : kdE [⟨k, n, s⟩, ⟨k', n', s'⟩] = 0)
    (hc : ∀ W, Old w W → Calls Tryz.prog 148 #[vl k n s, vl k' n' s', p] W fun e w' => e = rv A B C ∧ Old W w') :
    Calls Tryz.prog 114 #[vl k n s, vl k' n' s', fw, .func (.func 148) #[] #[p]] w fun e w' => e = rv A B C ∧ Old w w' := by
  have HR := Lib.hid ((Rk3.new w k n s k' n' s').old ((Old.refl _).alloc (.cells #[.int .u8 k, .int .i64 n, .string s, .int .u8 k', .int .i64 n', .string s'] 26)))
  have k1 := rk_kind w k n s k' n' s'
  rw [hV, hE] at k1
  clear hV hE
  go_enter Tryz.func114, Tryz.ntmps114
  go_wp2_with (first
    | (go_at_call 145; refine k1.mono ?_; rintro e w1 ⟨rfl, ho1⟩; have R1 := Lib.hid (HR.out.old ho1); have c0 := R1.out.b.t0.c0; have c1 := R1.out.b.t0.c1; have c2 := R1.out.b.t0.c2; have d0 := R1.out.b.t1.c0; have d1 := R1.out.b.t1.c1; have d2 := R1.out.b.t1.c2)
    | (go_at_call 148; (with_reducible refine (hc _ R1.out.b.o).mono ?_); clear c0 c1 c2 d0 d1 d2; rintro e w2 ⟨rfl, ho2⟩; have R2 := Lib.hid (R1.out.old ho2); have c0 := R2.out.t2.c0; have c1 := R2.out.t2.c1; have c2 := R2.out.t2.c2; have f0 := R2.out.t2.f 0; have f1 := R2.out.t2.f 1; have f2 := R2.out.t2.f 2))
  have R := R2.out.t2.set (.int .u8 A) (.int .i64 B) (.string ⟨#[]⟩)
  exact bodyPost_ret (v := .tuple #[vl A B ⟨#[]⟩, .int .i64 C]) (by simp [results, Tryz.results114, go_sem, R.c0, R.c1, R.c2]) rfl ⟨rfl, old3 R2.out.b.o (by omega) _ _ _⟩
end Go.Proofs.YtmkmafkkpigfpaaGreatDoor.V
