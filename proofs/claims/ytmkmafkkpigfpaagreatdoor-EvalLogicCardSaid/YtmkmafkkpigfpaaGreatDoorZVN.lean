/- The calls of layer num, handed on over a world that has only grown. Layer value: how values are held against each other. Compare. rows of values, and the kind of what is reckoned with them. texts and names. -/
import Derived.Test.YtmkmafkkpigfpaaGreatDoorZF
namespace Go.Proofs.YtmkmafkkpigfpaaGreatDoor.V
open Go.ChangeShapes Go.WideShapes Go.ChangeAt Go.RowKit Go.Lib
end Go.Proofs.YtmkmafkkpigfpaaGreatDoor.V
namespace Go.Proofs.YtmkmafkkpigfpaaGreatDoor.V
open Go.ChangeShapes Go.WideShapes Go.ChangeAt Go.RowKit
set_option linter.unusedVariables false
theorem _root_.Go.Proofs.YtmkmafkkpigfpaaGreatDoor.Old.ofGrown {w w' : World} (h : Grown w w') : Old w w' := by
  obtain ⟨⟨h1, h2, h3⟩, _, h5⟩ := h
  refine ⟨h1, h2, h5, fun k hk => ?_⟩
  have h4 := h3 k hk
  revert h4
  cases hw : w.heap[k]? with
  | none => have := Array.getElem?_eq_none_iff.1 hw; omega
  | some o =>
    cases hw' : w'.heap[k]? with
    | none => have := Array.getElem?_eq_none_iff.1 hw'; omega
    | some o' =>
      cases o <;> cases o' <;> intro h4
      all_goals first
        | (obtain ⟨rfl, rfl, h6, h7⟩ := h4
           refine congrArg some (congrArg (fun c => Obj.cells c _ _) (Array.ext_getElem? fun j => ?_))
           exact h7 j (fun f => f))
        | (rcases h4 with h4 | ⟨rfl, rfl⟩
           · exact h4.elim
           · rfl)
        | exact h4
def cz (a b : Int) : Int := if a < b then -1 else if b < a then 1 else 0
def cs (s t : ByteArray) : Int := if Op.bytesLess s.toList t.toList = true then -1 else if s = t then 0 else 1
theorem nan8 (a : Int) (w : World) : Calls Tryz.prog 194 #[.int .u8 a] w fun e w' => e = .returned (.bool false) ∧ w = w' := by
  go_enter Tryz.func194, Tryz.ntmps194
  go_wp2
  go_ret
  exact ⟨rfl, rfl⟩
theorem nan64 (a : Int) (w : World) : Calls Tryz.prog 193 #[.int .i64 a] w fun e w' => e = .returned (.bool false) ∧ w = w' := by
  go_enter Tryz.func193, Tryz.ntmps193
  go_wp2
  go_ret
  exact ⟨rfl, rfl⟩
theorem nanS (a : ByteArray) (w : World) : Calls Tryz.prog 195 #[.string a] w fun e w' => e = .returned (.bool false) ∧ w = w' := by
  go_enter Tryz.func195, Tryz.ntmps195
  go_wp2
  go_ret
  exact ⟨rfl, rfl⟩
theorem cz_lt {a b : Int} (h : a < b) : cz a b = -1 := if_pos h
theorem cz_gt {a b : Int} (h : b < a) : cz a b = 1 := by unfold cz; rw [if_neg (by omega), if_pos h]
theorem cz_eq {a b : Int} (h : b ≤ a) (k : a ≤ b) : cz a b = 0 := by unfold cz; rw [if_neg (by omega), if_neg (by omega)]
theorem ri (a b : Int) (h : a = b) : Ending.returned (.int .i64 a) = .returned (.int .i64 b) := by rw [h]
theorem cmp64 (a b : Int) (w : World) : Calls Tryz.prog 182 #[.int .i64 a, .int .i64 b] w fun e w' => e = .returned (.int .i64 (cz a b)) ∧ w = w' := by
  go_enter Tryz.func182, Tryz.ntmps182
  go_wp2_with (first
    | (go_at_call 193; (with_reducible refine (nan64 _ _).mono ?_); rintro e w' ⟨rfl, rfl⟩))
  · go_ret
    exact ⟨ri _ _ (cz_lt ‹_›).symm, rfl⟩
  · go_ret
    exact ⟨ri _ _ (cz_gt ‹_›).symm, rfl⟩
  · go_ret
    exact ⟨ri _ _ (cz_eq ‹b ≤ a› ‹a ≤ b›).symm, rfl⟩
theorem cmp8 (a b : Int) (w : World) : Calls Tryz.prog 185 #[.int .u8 a, .int .u8 b] w fun e w' => e = .returned (.int .i64 (cz a b)) ∧ w = w' := by
  go_enter Tryz.func185, Tryz.ntmps185
  go_wp2_with (first
    | (go_at_call 194; (with_reducible refine (nan8 _ _).mono ?_); rintro e w' ⟨rfl, rfl⟩))
  · go_ret
    exact ⟨ri _ _ (cz_lt ‹_›).symm, rfl⟩
  · go_ret
    exact ⟨ri _ _ (cz_gt ‹_›).symm, rfl⟩
  · go_ret
    exact ⟨ri _ _ (cz_eq ‹b ≤ a› ‹a ≤ b›).symm, rfl⟩
theorem cs_lt {a b : ByteArray} (h : Op.bytesLess a.toList b.toList = true) : cs a b = -1 := if_pos h
theorem cs_eq {a b : ByteArray} (h : Op.bytesLess a.toList b.toList = false) (k : (a.toList == b.toList) = true) : cs a b = 0 := by
  unfold cs; rw [if_neg (by rw [h]; decide), if_pos (ba_ext (by simpa using k))]
theorem cs_gt {a b : ByteArray} (h : Op.bytesLess a.toList b.toList = false) (k : (a.toList == b.toList) = false) : cs a b = 1 := by
  unfold cs; rw [if_neg (by rw [h]; decide), if_neg]
  intro e; subst e; simp at k
theorem cmpSs (a b : ByteArray) (w : World) : Calls Tryz.prog 186 #[.string a, .string b] w fun e w' => e = .returned (.int .i64 (cs a b)) ∧ w = w' := by
  go_enter Tryz.func186, Tryz.ntmps186
  go_wp2_with (first
    | (go_at_call 195; (with_reducible refine (nanS _ _).mono ?_); rintro e w' ⟨rfl, rfl⟩))
  · go_ret
    exact ⟨ri _ _ (cs_lt ‹_›).symm, rfl⟩
  · go_ret
    exact ⟨ri _ _ (cs_gt ‹_› (by simpa using ‹(!a.toList == b.toList) = true›)).symm, rfl⟩
  · go_ret
    exact ⟨ri _ _ (cs_eq ‹Op.bytesLess a.toList b.toList = false› (by simpa using ‹(!a.toList == b.toList) = false›)).symm, rfl⟩
def fz : List Int → Int
  | [] => 0
  | x :: r => if x = 0 then fz r else x
theorem fz_drop {l : List Int} {k : Nat} (h : k < l.length) (h0 : l.getD k 0 = 0) : fz (l.drop k) = fz (l.drop (k + 1)) := by
  rw [List.drop_eq_getElem_cons h, fz, if_pos]
  rw [List.getD_eq_getElem?_getD, List.getElem?_eq_getElem h] at h0
  exact h0
theorem fz_here {l : List Int} {k : Nat} (h : k < l.length) (h0 : ¬ l.getD k 0 = 0) : fz (l.drop k) = l.getD k 0 := by
  rw [List.getD_eq_getElem?_getD, List.getElem?_eq_getElem h] at h0 ⊢
  have h0' : ¬ l[k] = 0 := h0
  rw [List.drop_eq_getElem_cons h, fz, if_neg h0']
  rfl
theorem or_any (l : List Int) (v : Value) (w : World) (hl : Rd w v l) (hb : l.length ≤ 100000) : Calls Tryz.prog 184 #[v] w fun e w' => e = .returned (.int .i64 (fz l)) ∧ w = w' := by
  obtain ⟨oa, c, rfl, a1, a2, a3⟩ := hl
  obtain ⟨n, hn⟩ : ∃ n, n = l.length := ⟨_, rfl⟩
  rw [← hn]
  rw [← hn] at a1 a3 hb
  have HN := Lib.hid hn
  clear hn
  go_enter Tryz.func184, Tryz.ntmps184
  go_wp2
  go_loopw [8] (fun i wr => ∃ k : Nat, k ≤ n ∧ i = .int .i64 (k : Int) ∧ Hid (fz (l.drop k) = fz l) ∧ wr = w) (fun i _ => (n - intOf i).toNat)
  case atStart => exact ⟨0, Nat.zero_le _, rfl, by show fz (l.drop 0) = fz l; rw [List.drop_zero], rfl⟩
  case round =>
    obtain ⟨k, hk, rfl, HE, rfl⟩ := hrel
    by_cases hkn : k < n
    · obtain ⟨g, rfl, hgl, hcell⟩ := a3 k hkn
      obtain ⟨x, hx⟩ : ∃ x, x = l.getD k 0 := ⟨_, rfl⟩
      rw [← hx] at hcell
      have HX := Lib.hid hx
      clear hx a3
      by_cases hx0 : x = 0
      · subst hx0
        go_wp2
        exact ⟨⟨k + 1, by omega, rfl, Lib.hid ((fz_drop (by rw [← HN.out]; exact hkn) HX.out.symm).symm.trans HE.out), trivial⟩, by simp only [intOf]; omega⟩
      · go_wp2
        go_ret
        exact ⟨ri _ _ (HX.out.trans ((fz_here (by rw [← HN.out]; exact hkn) (by rw [← HX.out]; exact hx0)).symm.trans HE.out)), rfl⟩
    · have hkn' : k = n := by omega
      subst hkn'
      clear a3
      go_wp2
      go_ret
      refine ⟨ri _ _ ?_, rfl⟩
      have := HE.out
      rw [HN.out, List.drop_length] at this
      exact this
theorem Rd.new3 (w : World) (x y z : Int) : Rd (w.alloc (.cells #[.int .i64 x, .int .i64 y, .int .i64 z] 3)) (.slice (some ⟨w.heap.size, 0, none⟩) 3 3) [x, y, z] := by
  refine ⟨_, 3, rfl, Nat.le_refl _, by decide, fun j hj => ⟨_, rfl, ?_, ?_⟩⟩
  · exact blk_lt (MapKept.heap_alloc w (.cells #[.int .i64 x, .int .i64 y, .int .i64 z] 3)).1
  · have h := (MapKept.heap_alloc w (.cells #[.int .i64 x, .int .i64 y, .int .i64 z] 3)).1
    simp only [World.cell?, h]
    have : j = 0 ∨ j = 1 ∨ j = 2 := by simp at hj; omega
    rcases this with rfl | rfl | rfl <;> rfl
theorem order_any (k n : Int) (s : ByteArray) (k' n' : Int) (s' : ByteArray) (w : World) : Calls Tryz.prog 170 #[vl k n s, vl k' n' s'] w fun e w' => e = .returned (.int .i64 (fz [cz k k', cz n n', cs s s'])) ∧ Old w w' := by
  have HO := Lib.hid (((Old.refl w).alloc (.cells #[.int .u8 k, .int .i64 n, .string s] 26)).alloc (.cells #[.int .u8 k', .int .i64 n', .string s'] 26))
  go_enter Tryz.func170, Tryz.ntmps170
  go_wp2_with fail
  have t0 := (Three.new w (.int .u8 k) (.int .i64 n) (.string s)).alloc (.cells #[.int .u8 k', .int .i64 n', .string s'] 26)
  have t1 : Three ((w.alloc (.cells #[.int .u8 k, .int .i64 n, .string s] 26)).alloc (.cells #[.int .u8 k', .int .i64 n', .string s'] 26)) (w.heap.size + 1) (.int .u8 k') (.int .i64 n') (.string s') := by
    have := Three.new (w.alloc (.cells #[.int .u8 k, .int .i64 n, .string s] 26)) (.int .u8 k') (.int .i64 n') (.string s')
    rwa [sz_alloc] at this
  generalize hW : (w.alloc (.cells #[.int .u8 k, .int .i64 n, .string s] 26)).alloc (.cells #[.int .u8 k', .int .i64 n', .string s'] 26) = W at *
  clear hW
  have c0 := t0.c0
  have c1 := t0.c1
  have c2 := t0.c2
  have d0 := t1.c0
  have d1 := t1.c1
  have d2 := t1.c2
  go_region_held3 (fun w' => w'.cell? ⟨w.heap.size, 0, none⟩ = some (.int .u8 k) ∧ w'.cell? ⟨w.heap.size, 1, none⟩ = some (.int .i64 n) ∧ w'.cell? ⟨w.heap.size, 2, none⟩ = some (.string s) ∧ w'.cell? ⟨w.heap.size + 1, 0, none⟩ = some (.int .u8 k') ∧ w'.cell? ⟨w.heap.size + 1, 1, none⟩ = some (.int .i64 n') ∧ w'.cell? ⟨w.heap.size + 1, 2, none⟩ = some (.string s'))
    (first | exact ⟨c0, c1, c2, d0, d1, d2⟩ | go_keep)
    (first
      | (go_at_call 185; (with_reducible refine (cmp8 _ _ _).mono ?_); rintro e w1 ⟨rfl, rfl⟩)
      | (go_at_call 182; (with_reducible refine (cmp64 _ _ _).mono ?_); rintro e w1 ⟨rfl, rfl⟩)
      | (go_at_call 186; (with_reducible refine (cmpSs _ _ _).mono ?_); rintro e w1 ⟨rfl, rfl⟩)
      | (go_at_call 184; (with_reducible refine (or_any _ _ _ ((Rd.new3 _ _ _ _).old (Old.refl _).drew) (Nat.le_of_ble_eq_true rfl)).mono ?_); rintro e w1 ⟨rfl, rfl⟩))
  all_goals go_wp2
  go_ret
  exact ⟨rfl, (HO.out.alloc _).drew⟩
theorem isnum_any (k n : Int) (s : ByteArray) (w : World) : Calls Tryz.prog 168 #[vl k n s] w fun e w' => e = .returned (.bool (k == 1 || k == 2)) ∧ Old w w' := by
  by_cases hk : k = 1
  · subst hk
    go_enter Tryz.func168, Tryz.ntmps168
    go_wp2
    go_ret
    exact ⟨rfl, (Old.refl w).alloc _⟩
  · go_enter Tryz.func168, Tryz.ntmps168
    go_wp2
    go_ret
    exact ⟨rfl, (Old.refl w).alloc _⟩
def wt (k n : Int) : Int := if k = 1 then n * 10000 else n
theorem cid_any (a b : Int) (w : World) (ha : I64 a) (hb : I64 b) : Calls Tryz.prog 183 #[.int .i64 a, .int .i64 b] w fun e w' => e = .returned (.int .i64 (cz (a * 10000) b)) ∧ Old w w' := by
  by_cases h : I64 (a * 10000)
  · have k1 := fun W => scale_any a W ha
    rw [fitV_in h, fitE_in h] at k1
    go_enter Tryz.func183, Tryz.ntmps183
    go_wp2_with (first
      | (go_at_call 171; (with_reducible refine (k1 _).mono ?_); rintro e w1 ⟨rfl, hg⟩)
      | (go_at_call 182; (with_reducible refine (cmp64 _ _ _).mono ?_); rintro e w1 ⟨rfl, rfl⟩))
    go_ret
    exact ⟨rfl, Old.ofGrown hg⟩
  · have k1 := fun W => scale_any a W ha
    rw [fitV_out h, fitE_out h] at k1
    have e : cz a 0 = cz (a * 10000) b := by
      unfold I64 at *
      unfold cz
      by_cases h0 : a < 0
      · rw [if_pos h0, if_pos (by omega)]
      · rw [if_neg h0, if_pos (by omega), if_neg (by omega), if_pos (by omega)]
    rw [← e]
    clear e
    go_enter Tryz.func183, Tryz.ntmps183
    go_wp2_with (first
      | (go_at_call 171; (with_reducible refine (k1 _).mono ?_); rintro e w1 ⟨rfl, hg⟩)
      | (go_at_call 182; (with_reducible refine (cmp64 _ _ _).mono ?_); rintro e w1 ⟨rfl, rfl⟩))
    go_ret
    exact ⟨rfl, Old.ofGrown hg⟩
theorem cz_turn (a b : Int) : -cz a b = cz b a := by
  unfold cz
  rcases Int.lt_trichotomy a b with h | h | h
  · rw [if_pos h, if_neg (by omega), if_pos h]; rfl
  · rw [if_neg (by omega), if_neg (by omega), if_neg (by omega), if_neg (by omega)]; rfl
  · rw [if_neg (by omega), if_pos h, if_pos h]
theorem cz_in (a b : Int) : -1 ≤ cz a b ∧ cz a b ≤ 1 := by
  unfold cz
  split
  · omega
  · split <;> omega
theorem cwo_any (k n : Int) (s : ByteArray) (k' n' : Int) (s' : ByteArray) (w : World) (hk : k = 1 ∨ k = 2) (hk' : k' = 1 ∨ k' = 2) (hn : I64 n) (hn' : I64 n') :
    Calls Tryz.prog 169 #[vl k n s, vl k' n' s'] w fun e w' => e = .returned (.int .i64 (cz (wt k n) (wt k' n'))) ∧ Old w w' := by
  have HO := Lib.hid (((Old.refl w).alloc (.cells #[.int .u8 k, .int .i64 n, .string s] 26)).alloc (.cells #[.int .u8 k', .int .i64 n', .string s'] 26))
  have e1 : cz (n * 10000) (n' * 10000) = cz n n' := by
    unfold cz
    rcases Int.lt_trichotomy n n' with h | h | h
    · rw [if_pos (by omega), if_pos h]
    · rw [if_neg (by omega), if_neg (by omega), if_neg (by omega), if_neg (by omega)]
    · rw [if_neg (by omega), if_pos (by omega), if_neg (by omega), if_pos h]
  have e2 := cz_turn (n' * 10000) n
  have e3 := cz_in (n' * 10000) n
  have HE := Lib.hid e1
  have HE2 := Lib.hid e2
  clear e1 e2
  rcases hk with rfl | rfl <;> rcases hk' with rfl | rfl
  · go_enter Tryz.func169, Tryz.ntmps169
    go_wp2_with (first
      | (go_at_call 182; (with_reducible refine (cmp64 _ _ _).mono ?_); rintro e w1 ⟨rfl, rfl⟩))
    go_ret
    exact ⟨ri _ _ HE.out.symm, HO.out⟩
  · go_enter Tryz.func169, Tryz.ntmps169
    go_wp2_with (first
      | (go_at_call 183; (with_reducible refine (cid_any _ _ _ hn hn').mono ?_); rintro e w1 ⟨rfl, ho⟩))
    go_ret
    exact ⟨rfl, HO.out.trans ho⟩
  · go_enter Tryz.func169, Tryz.ntmps169
    go_wp2_with (first
      | (go_at_call 183; (with_reducible refine (cid_any _ _ _ hn' hn).mono ?_); rintro e w1 ⟨rfl, ho⟩))
    go_ret
    refine ⟨ri _ _ ?_, HO.out.trans ho⟩
    show _ = cz n (n' * 10000)
    rw [← HE2.out]
  · go_enter Tryz.func169, Tryz.ntmps169
    go_wp2_with (first
      | (go_at_call 182; (with_reducible refine (cmp64 _ _ _).mono ?_); rintro e w1 ⟨rfl, rfl⟩))
    go_ret
    exact ⟨rfl, HO.out⟩
def cpV (k n : Int) (s : ByteArray) (k' n' : Int) (s' : ByteArray) : Int :=
  if (k = 1 ∨ k = 2) ∧ (k' = 1 ∨ k' = 2) then cz (wt k n) (wt k' n') else if k = k' ∧ 3 ≤ k ∧ k ≤ 5 then fz [cz k k', cz n n', cs s s'] else 0
def cpB (k k' : Int) : Bool := decide (((k = 1 ∨ k = 2) ∧ (k' = 1 ∨ k' = 2)) ∨ (k = k' ∧ 3 ≤ k ∧ k ≤ 5))
abbrev pb (c : Int) (b : Bool) : Ending := .returned (.tuple #[.int .i64 c, .bool b])
theorem pb_eq {a c : Int} {b d : Bool} (h1 : a = c) (h2 : b = d) : pb a b = pb c d := by rw [h1, h2]
theorem cmp_num (k n : Int) (s : ByteArray) (k' n' : Int) (s' : ByteArray) (w : World) (hk : k = 1 ∨ k = 2) (hk' : k' = 1 ∨ k' = 2) (hn : I64 n) (hn' : I64 n') :
    Calls Tryz.prog 144 #[vl k n s, vl k' n' s'] w fun e w' => e = pb (cz (wt k n) (wt k' n')) true ∧ Old w w' := by
  have HO := Lib.hid (((Old.refl w).alloc (.cells #[.int .u8 k, .int .i64 n, .string s] 26)).alloc (.cells #[.int .u8 k', .int .i64 n', .string s'] 26))
  have t0 := Lib.hid ((Three.new w (.int .u8 k) (.int .i64 n) (.string s)).alloc (.cells #[.int .u8 k', .int .i64 n', .string s'] 26))
  have t1 : Three ((w.alloc (.cells #[.int .u8 k, .int .i64 n, .string s] 26)).alloc (.cells #[.int .u8 k', .int .i64 n', .string s'] 26)) (w.heap.size + 1) (.int .u8 k') (.int .i64 n') (.string s') := by
    have := Three.new (w.alloc (.cells #[.int .u8 k, .int .i64 n, .string s] 26)) (.int .u8 k') (.int .i64 n') (.string s')
    rwa [sz_alloc] at this
  have t1 := Lib.hid t1
  have e1 : (k == 1 || k == 2) = true := by rcases hk with rfl | rfl <;> rfl
  have e2 : (k' == 1 || k' == 2) = true := by rcases hk' with rfl | rfl <;> rfl
  have k1 := fun W => isnum_any k n s W
  have k2 := fun W => isnum_any k' n' s' W
  rw [e1] at k1
  rw [e2] at k2
  clear e1 e2
  go_enter Tryz.func144, Tryz.ntmps144
  go_wp2_with (first
    | (go_at_call 168; first
        | ((with_reducible refine (k1 _).mono ?_); rintro e w1 ⟨rfl, ho1⟩; have t2 := Lib.hid (t0.out.old ho1); have t3 := Lib.hid (t1.out.old ho1); have c0 := t2.out.c0; have c1 := t2.out.c1; have c2 := t2.out.c2; have c3 := t3.out.c0; have c4 := t3.out.c1; have c5 := t3.out.c2)
        | ((with_reducible refine (k2 _).mono ?_); clear c0 c1 c2 c3 c4 c5; rintro e w2 ⟨rfl, ho2⟩; have t4 := Lib.hid (t2.out.old ho2); have t5 := Lib.hid (t3.out.old ho2); have d0 := t4.out.c0; have d1 := t4.out.c1; have d2 := t4.out.c2; have d3 := t5.out.c0; have d4 := t5.out.c1; have d5 := t5.out.c2))
    | (go_at_call 169; (with_reducible refine (cwo_any _ _ _ _ _ _ _ hk hk' hn hn').mono ?_); rintro e w3 ⟨rfl, ho3⟩))
  go_ret2
  exact ⟨rfl, HO.out.trans (ho1.trans (ho2.trans ho3))⟩
structure Bx2 (w W : World) (k n : Int) (s : ByteArray) (k' n' : Int) (s' : ByteArray) : Prop where
  t0 : Three W w.heap.size (.int .u8 k) (.int .i64 n) (.string s)
  t1 : Three W (w.heap.size + 1) (.int .u8 k') (.int .i64 n') (.string s')
  o : Old w W
theorem Bx2.new (w : World) (k n : Int) (s : ByteArray) (k' n' : Int) (s' : ByteArray) : Bx2 w ((w.alloc (.cells #[.int .u8 k, .int .i64 n, .string s] 26)).alloc (.cells #[.int .u8 k', .int .i64 n', .string s'] 26)) k n s k' n' s' := by
  refine ⟨(Three.new w (.int .u8 k) (.int .i64 n) (.string s)).alloc _, ?_, ((Old.refl w).alloc _).alloc _⟩
  have := Three.new (w.alloc (.cells #[.int .u8 k, .int .i64 n, .string s] 26)) (.int .u8 k') (.int .i64 n') (.string s')
  rwa [sz_alloc] at this
theorem Bx2.old {w W W' : World} {k n : Int} {s : ByteArray} {k' n' : Int} {s' : ByteArray} (h : Bx2 w W k n s k' n' s') (ho : Old W W') : Bx2 w W' k n s k' n' s' := ⟨h.t0.old ho, h.t1.old ho, h.o.trans ho⟩
theorem cmp_else (k n : Int) (s : ByteArray) (k' n' : Int) (s' : ByteArray) (w : World) (hk : ¬ ((k = 1 ∨ k = 2) ∧ (k' = 1 ∨ k' = 2))) (h3 : ¬ (k = k' ∧ 3 ≤ k ∧ k ≤ 5)) :
    Calls Tryz.prog 144 #[vl k n s, vl k' n' s'] w fun e w' => e = pb 0 false ∧ Old w w' := by
  have HB := Lib.hid (Bx2.new w k n s k' n' s')
  have k1 := fun W => isnum_any k n s W
  have k2 := fun W => isnum_any k' n' s' W
  by_cases hn : k = 1 ∨ k = 2
  · have hm : ¬ (k' = 1 ∨ k' = 2) := fun h => hk ⟨hn, h⟩
    have e1 : (k == 1 || k == 2) = true := by rcases hn with rfl | rfl <;> rfl
    have e2 : (k' == 1 || k' == 2) = false := by simpa using hm
    have hne : ¬ k = k' := by omega
    rw [e1] at k1
    rw [e2] at k2
    clear e1 e2 hk h3 hn hm
    go_enter Tryz.func144, Tryz.ntmps144
    go_wp2_with (first
      | (go_at_call 168; first
          | ((with_reducible refine (k1 _).mono ?_); rintro e w1 ⟨rfl, ho1⟩; have B1 := Lib.hid (HB.out.old ho1); have c0 := B1.out.t0.c0; have c1 := B1.out.t0.c1; have c2 := B1.out.t0.c2; have c3 := B1.out.t1.c0; have c4 := B1.out.t1.c1; have c5 := B1.out.t1.c2)
          | ((with_reducible refine (k2 _).mono ?_); clear c0 c1 c2 c3 c4 c5; rintro e w2 ⟨rfl, ho2⟩; have B2 := Lib.hid (B1.out.old ho2); have c0 := B2.out.t0.c0; have c1 := B2.out.t0.c1; have c2 := B2.out.t0.c2; have c3 := B2.out.t1.c0; have c4 := B2.out.t1.c1; have c5 := B2.out.t1.c2)))
    go_ret2
    exact ⟨rfl, B2.out.o⟩
  · have e1 : (k == 1 || k == 2) = false := by simpa using hn
    rw [e1] at k1
    clear e1
    by_cases hne : k = k'
    · subst hne
      have h3' : ¬ k = 3 ∧ ¬ k = 4 ∧ ¬ k = 5 := by omega
      obtain ⟨g3, g4, g5⟩ := h3'
      clear hk h3 hn
      go_enter Tryz.func144, Tryz.ntmps144
      go_wp2_with (first
        | (go_at_call 168; ((with_reducible refine (k1 _).mono ?_); rintro e w1 ⟨rfl, ho1⟩; have B1 := Lib.hid (HB.out.old ho1); have c0 := B1.out.t0.c0; have c1 := B1.out.t0.c1; have c2 := B1.out.t0.c2; have c3 := B1.out.t1.c0; have c4 := B1.out.t1.c1; have c5 := B1.out.t1.c2)))
      go_ret2
      exact ⟨rfl, B1.out.o⟩
    · clear hk h3 hn
      go_enter Tryz.func144, Tryz.ntmps144
      go_wp2_with (first
        | (go_at_call 168; ((with_reducible refine (k1 _).mono ?_); rintro e w1 ⟨rfl, ho1⟩; have B1 := Lib.hid (HB.out.old ho1); have c0 := B1.out.t0.c0; have c1 := B1.out.t0.c1; have c2 := B1.out.t0.c2; have c3 := B1.out.t1.c0; have c4 := B1.out.t1.c1; have c5 := B1.out.t1.c2)))
      go_ret2
      exact ⟨rfl, B1.out.o⟩
theorem cmp_text (k n : Int) (s : ByteArray) (n' : Int) (s' : ByteArray) (w : World) (h3 : 3 ≤ k ∧ k ≤ 5) :
    Calls Tryz.prog 144 #[vl k n s, vl k n' s'] w fun e w' => e = pb (fz [cz k k, cz n n', cs s s']) true ∧ Old w w' := by
  have HB := Lib.hid (Bx2.new w k n s k n' s')
  have k1 := fun W => isnum_any k n s W
  have e1 : (k == 1 || k == 2) = false := by
    have : ¬ (k = 1 ∨ k = 2) := by omega
    simpa using this
  rw [e1] at k1
  clear e1
  have h3' : k = 3 ∨ k = 4 ∨ k = 5 := by omega
  clear h3
  rcases h3' with rfl | rfl | rfl
  all_goals
    go_enter Tryz.func144, Tryz.ntmps144
    go_wp2_with (first
      | (go_at_call 168; ((with_reducible refine (k1 _).mono ?_); rintro e w1 ⟨rfl, ho1⟩; have B1 := Lib.hid (HB.out.old ho1); have c0 := B1.out.t0.c0; have c1 := B1.out.t0.c1; have c2 := B1.out.t0.c2; have c3 := B1.out.t1.c0; have c4 := B1.out.t1.c1; have c5 := B1.out.t1.c2))
      | (go_at_call 170; ((with_reducible refine (order_any _ _ _ _ _ _ _).mono ?_); rintro e w2 ⟨rfl, ho2⟩)))
    go_ret2
    exact ⟨rfl, B1.out.o.trans ho2⟩
theorem compare_any (k n : Int) (s : ByteArray) (k' n' : Int) (s' : ByteArray) (w : World) (hn : I64 n) (hn' : I64 n') :
    Calls Tryz.prog 144 #[vl k n s, vl k' n' s'] w fun e w' => e = pb (cpV k n s k' n' s') (cpB k k') ∧ Old w w' := by
  by_cases h1 : (k = 1 ∨ k = 2) ∧ (k' = 1 ∨ k' = 2)
  · refine (cmp_num k n s k' n' s' w h1.1 h1.2 hn hn').mono ?_
    rintro e w' ⟨rfl, ho⟩
    exact ⟨pb_eq (if_pos h1).symm (decide_eq_true (Or.inl h1)).symm, ho⟩
  · by_cases h3 : k = k' ∧ 3 ≤ k ∧ k ≤ 5
    · obtain ⟨rfl, h3'⟩ := id h3
      refine (cmp_text k n s n' s' w h3').mono ?_
      rintro e w' ⟨rfl, ho⟩
      refine ⟨pb_eq ?_ (decide_eq_true (Or.inr h3)).symm, ho⟩
      unfold cpV
      rw [if_neg h1, if_pos h3]
    · refine (cmp_else k n s k' n' s' w h1 h3).mono ?_
      rintro e w' ⟨rfl, ho⟩
      refine ⟨pb_eq ?_ ?_, ho⟩
      · unfold cpV
        rw [if_neg h1, if_neg h3]
      · exact (decide_eq_false (fun h => h.elim h1 h3)).symm
structure Vl where
  k : Int
  n : Int
  s : ByteArray
abbrev Vl.v (x : Vl) : Value := vl x.k x.n x.s
def RV (w : World) (v : Value) (l : List Vl) : Prop :=
  ∃ oa cap, v = .slice oa l.length cap ∧ l.length ≤ cap ∧ cap ≤ maxLen ∧ ∀ j x, l[j]? = some x → ∃ g, oa = some ⟨g, 0, none⟩ ∧ g < w.heap.size ∧ w.cell? ⟨g, j * 3, none⟩ = some (.int .u8 x.k) ∧ w.cell? ⟨g, j * 3 + 1, none⟩ = some (.int .i64 x.n) ∧ w.cell? ⟨g, j * 3 + 2, none⟩ = some (.string x.s)
theorem RV.old {w w' : World} {v : Value} {l : List Vl} (h : RV w v l) (ho : Old w w') : RV w' v l := by
  obtain ⟨oa, cap, rfl, h1, h2, h3⟩ := h
  refine ⟨oa, cap, rfl, h1, h2, fun j x hj => ?_⟩
  obtain ⟨g, rfl, hg, c0, c1, c2⟩ := h3 j x hj
  exact ⟨g, rfl, Nat.lt_of_lt_of_le hg ho.size, (ho.cell hg).trans c0, (ho.cell hg).trans c1, (ho.cell hg).trans c2⟩
def okK (k : Int) : Bool := k == 0 || k == 1 || k == 2
def kdE (l : List Vl) : Int := if l.all (fun x => okK x.k) then 0 else 8
def kdV (l : List Vl) : Int := if l.all (fun x => okK x.k) then (if l.length = 0 ∨ l.any (fun x => x.k == 0) = true then 0 else if l.any (fun x => x.k == 2) = true then 2 else 1) else 0
def kd0 (l : List Vl) : Int := if l.any (fun x => x.k == 2) = true then 2 else 1
def nl0 (n : Nat) (l : List Vl) : Bool := n == 0 || l.any (fun x => x.k == 0)
abbrev kp (k e : Int) : Ending := .returned (.tuple #[.int .u8 k, .int .i64 e])
theorem take_more {l : List Vl} {k : Nat} {x : Vl} (h : l[k]? = some x) : l.take (k + 1) = l.take k ++ [x] := by
  rw [List.take_add_one, h]
  rfl
theorem kd_0 {l : List Vl} {x : Vl} (h : (x.k == 2) = false) : kd0 (l ++ [x]) = kd0 l := by
  unfold kd0
  simp [List.any_append, h]
theorem kd_2 {l : List Vl} {x : Vl} (h : (x.k == 2) = true) : kd0 (l ++ [x]) = 2 := by
  unfold kd0
  simp [List.any_append, h]
theorem nl_0 {n : Nat} {l : List Vl} {x : Vl} (h : (x.k == 0) = true) : nl0 n (l ++ [x]) = true := by
  unfold nl0
  simp [List.any_append, h]
theorem nl_1 {n : Nat} {l : List Vl} {x : Vl} (h : (x.k == 0) = false) : nl0 n (l ++ [x]) = nl0 n l := by
  unfold nl0
  simp [List.any_append, h]
theorem ok_more {l : List Vl} {x : Vl} (h : l.all (fun x => okK x.k) = true) (hx : okK x.k = true) : (l ++ [x]).all (fun x => okK x.k) = true := by
  simp [List.all_append, h, hx]
theorem ok_not {l : List Vl} {k : Nat} {x : Vl} (h : l[k]? = some x) (hx : okK x.k = false) : l.all (fun x => okK x.k) = false := by
  rw [List.all_eq_false]
  exact ⟨x, List.mem_of_getElem? h, by rw [hx]; decide⟩
theorem rkp {a b c d : Int} (h1 : a = c) (h2 : b = d) : kp a b = kp c d := by rw [h1, h2]
theorem iu8 {a b : Int} (h : a = b) : Value.int .u8 a = Value.int .u8 b := by rw [h]
theorem ib {a b : Bool} (h : a = b) : Value.bool a = Value.bool b := by rw [h]
theorem eq_of_beq' {a b : Int} (h : (a == b) = true) : a = b := by simpa using h
theorem kind_any (l : List Vl) (v : Value) (w : World) (hl : RV w v l) (hb : l.length ≤ 100000) : Calls Tryz.prog 145 #[v] w fun e w' => e = kp (kdV l) (kdE l) ∧ Old w w' := by
  obtain ⟨oa, c, rfl, a1, a2, a3⟩ := hl
  obtain ⟨n, hn⟩ : ∃ n, n = l.length := ⟨_, rfl⟩
  rw [← hn]
  rw [← hn] at a1 hb
  have HN := Lib.hid hn
  have HA := Lib.hid a3
  clear hn a3
  go_enter Tryz.func145, Tryz.ntmps145
  go_wp2
  go_loopw [4, 5, 13] (fun kd nu i wr => ∃ k : Nat, k ≤ n ∧ i = .int .i64 (k : Int) ∧ kd = .int .u8 (kd0 (l.take k)) ∧ nu = .bool (nl0 n (l.take k)) ∧ Hid ((l.take k).all (fun x => okK x.k) = true) ∧ Hid (Old w wr)) (fun _ _ i _ => (n - intOf i).toNat)
  case atStart =>
    refine ⟨0, Nat.zero_le _, rfl, rfl, ib ?_, Lib.hid rfl, Lib.hid (Old.refl w)⟩
    unfold nl0
    rw [List.take_zero, List.any_nil, Bool.or_false]
    cases n <;> rfl
  case round =>
    obtain ⟨k, hk, rfl, rfl, rfl, HE, HO⟩ := hrel
    by_cases hkn : k < n
    · have hx : ∃ x, l[k]? = some x := ⟨l[k]'(by rw [← HN.out]; exact hkn), List.getElem?_eq_getElem _⟩
      obtain ⟨x, hx⟩ := hx
      obtain ⟨g, rfl, hgl, c0, c1, c2⟩ := HA.out k x hx
      have d0 := (HO.out.cell hgl).trans c0
      have d1 := (HO.out.cell hgl).trans c1
      have d2 := (HO.out.cell hgl).trans c2
      obtain ⟨xk, xn, xs⟩ := x
      have HX := Lib.hid hx
      clear hx c0 c1 c2
      go_wp2
      · have e := eq_of_beq' ‹(xk == 0) = true›
        refine ⟨⟨k + 1, hkn, rfl, iu8 ?_, ib ?_, Lib.hid ?_, Lib.hid (HO.out.alloc _)⟩, by simp only [intOf]; omega⟩
        · rw [take_more HX.out, kd_0 (by rw [e]; rfl)]
        · rw [take_more HX.out, nl_0 (by rw [e]; rfl)]
        · rw [take_more HX.out]; exact ok_more HE.out (by rw [e]; rfl)
      · have e := eq_of_beq' ‹(xk == 1) = true›
        refine ⟨⟨k + 1, hkn, rfl, iu8 ?_, ib ?_, Lib.hid ?_, Lib.hid (HO.out.alloc _)⟩, by simp only [intOf]; omega⟩
        · rw [take_more HX.out, kd_0 (by rw [e]; rfl)]
        · rw [take_more HX.out, nl_1 (by rw [e]; rfl)]
        · rw [take_more HX.out]; exact ok_more HE.out (by rw [e]; rfl)
      · have e := eq_of_beq' ‹(xk == 2) = true›
        refine ⟨⟨k + 1, hkn, rfl, iu8 ?_, ib ?_, Lib.hid ?_, Lib.hid (HO.out.alloc _)⟩, by simp only [intOf]; omega⟩
        · rw [take_more HX.out, kd_2 (by rw [e]; rfl)]
        · rw [take_more HX.out, nl_1 (by rw [e]; rfl)]
        · rw [take_more HX.out]; exact ok_more HE.out (by rw [e]; rfl)
      · have e : okK xk = false := by unfold okK; rw [‹(xk == 0) = false›, ‹(xk == 1) = false›, ‹(xk == 2) = false›]; rfl
        have hno := ok_not HX.out e
        go_ret2
        refine ⟨rkp ?_ ?_, HO.out.alloc _⟩
        · unfold kdV; rw [hno]; rfl
        · unfold kdE; rw [hno]; rfl
    · have hkn' : k = n := by omega
      subst hkn'
      have HT : l.take k = l := by rw [HN.out, List.take_length]
      have HE' := HE.out
      rw [HT] at HE' ⊢
      have HE' := Lib.hid HE'
      clear HT
      go_wp2
      · have h := ‹nl0 k l = true›
        go_ret2
        refine ⟨rkp ?_ ?_, HO.out⟩
        · unfold kdV
          unfold nl0 at h
          rw [if_pos HE'.out, if_pos]
          have := HN.out
          simpa [← this] using h
        · unfold kdE; rw [if_pos HE'.out]
      · have h := ‹nl0 k l = false›
        go_ret2
        refine ⟨rkp ?_ ?_, HO.out⟩
        · unfold kdV kd0
          unfold nl0 at h
          have hh : ¬ (l.length = 0 ∨ l.any (fun x => x.k == 0) = true) := by
            have := HN.out
            rw [← this]
            rw [Bool.or_eq_false_iff] at h
            rintro (h1 | h1)
            · rw [h1] at h; exact absurd h.1 (by decide)
            · rw [h1] at h; exact absurd h.2 (by decide)
          rw [if_pos HE'.out, if_neg hh]
        · unfold kdE; rw [if_pos HE'.out]
end Go.Proofs.YtmkmafkkpigfpaaGreatDoor.V
namespace Go.Proofs.YtmkmafkkpigfpaaGreatDoor.V
open Go.ChangeShapes Go.WideShapes Go.ChangeAt Go.RowKit
set_option linter.unusedVariables false
set_option maxRecDepth 100000
theorem conv_cells (w : World) (s : ByteArray) : ∃ cap W1, (convert 9 87 (.string s)).run Tryz.prog w = .ok (.slice (some ⟨w.heap.size, 0, none⟩) s.size cap) W1 ∧ Old w W1 ∧ ∀ j, j < s.size → W1.cell? ⟨w.heap.size, j, none⟩ = some (.int .u8 (bt s j)) := by
  have h := run_bytes_of_string (P := Tryz.prog) w 9 87 5 s Tryz.underlying9 Tryz.underlying87 Tryz.underlying5
  refine ⟨_, _, h, ((Old.refl w).drew).alloc _, fun j hj => ?_⟩
  have hb := (MapKept.heap_alloc w.drew (.cells (bytesRow s (grownCap w s.size 0 5)) 5 ((bytesRow s (grownCap w s.size 0 5)).size, (bytesRow s (grownCap w s.size 0 5)).size + 1))).1
  have hb' : (w.drew.alloc (.cells (bytesRow s (grownCap w s.size 0 5)) 5 ((bytesRow s (grownCap w s.size 0 5)).size, (bytesRow s (grownCap w s.size 0 5)).size + 1))).heap[w.heap.size]? = _ := hb
  simp only [World.cell?, hb']
  have hj' : j < s.data.size := hj
  unfold bytesRow bt
  rw [Array.getElem?_append_left (by simpa using hj'), Array.getElem?_map, Array.getElem?_eq_getElem hj', List.getD_eq_getElem?_getD, Array.getElem?_toList, Array.getElem?_eq_getElem hj']
  rfl
theorem text_loop (s : ByteArray) (w : World) (cap : Nat) (W1 : World) (hs : s.size ≤ 200) (hc : (convert 9 87 (.string s)).run Tryz.prog w = .ok (.slice (some ⟨w.heap.size, 0, none⟩) s.size cap) W1) (ho : Old w W1) (hj : ∀ j, j < s.size → W1.cell? ⟨w.heap.size, j, none⟩ = some (.int .u8 (bt s j))) :
    Calls Tryz.prog 102 #[.string s] w fun e w' => e = .returned (.bool (fst tb s s.size)) ∧ Old w w' := by
  have HA := Lib.hid hj
  have HO := Lib.hid ho
  clear hj ho
  obtain ⟨n, hn⟩ : ∃ n, n = s.size := ⟨_, rfl⟩
  rw [← hn] at hc hs ⊢
  have HN := Lib.hid hn
  go_enter Tryz.func102, Tryz.ntmps102
  have hn' := hn.symm
  clear hn
  go_wp2
  go_loopw [11] (fun i wr => ∃ k : Nat, k ≤ n ∧ i = .int .i64 (k : Int) ∧ Hid (fst tb s k = true) ∧ wr = W1) (fun i _ => (n - intOf i).toNat)
  case atStart => exact ⟨0, Nat.zero_le _, rfl, Lib.hid rfl, rfl⟩
  case round =>
    obtain ⟨k, hk, rfl, HE, rfl⟩ := hrel
    by_cases hkn : k < n
    · have d0 := HA.out k (by rw [← HN.out]; exact hkn)
      obtain ⟨b, hb⟩ : ∃ b, b = bt s k := ⟨_, rfl⟩
      rw [← hb] at d0
      have HX := Lib.hid hb
      clear hb
      by_cases h1 : b < 32
      · go_wp2
        have e : fst tb s n = false := fst_no (by rw [← HX.out]; unfold tb; rw [decide_eq_false (by omega)]; rfl) n hkn
        go_ret
        exact ⟨rb _ _ e.symm, HO.out⟩
      · by_cases h2 : 126 < b
        · go_wp2
          have e : fst tb s n = false := fst_no (by rw [← HX.out]; unfold tb; rw [decide_eq_false (p := b ≤ 126) (by omega), Bool.and_false]) n hkn
          go_ret
          exact ⟨rb _ _ e.symm, HO.out⟩
        · go_wp2
          refine ⟨⟨k + 1, hkn, rfl, Lib.hid ?_, ?_⟩, by simp only [intOf]; omega⟩
          · rw [fst, HE.out, ← HX.out]
            unfold tb
            rw [decide_eq_true (show 32 ≤ b by omega), decide_eq_true (show b ≤ 126 by omega)]
            rfl
          · first | rfl | trivial
    · have hkn' : k = n := by omega
      subst hkn'
      go_wp2
      go_ret
      exact ⟨rb _ _ HE.out.symm, HO.out⟩
theorem text_any (s : ByteArray) (w : World) : Calls Tryz.prog 102 #[.string s] w fun e w' => e = .returned (.bool (textB s)) ∧ Old w w' := by
  by_cases hs : s.size ≤ 200
  · obtain ⟨cap, W1, h1, h2, h3⟩ := conv_cells w s
    have e : textB s = fst tb s s.size := by unfold textB; rw [decide_eq_true hs]; rfl
    rw [e]
    exact text_loop s w cap W1 hs h1 h2 h3
  · have e : textB s = false := by unfold textB; rw [decide_eq_false hs]; rfl
    rw [e]
    go_enter Tryz.func102, Tryz.ntmps102
    go_wp2
    go_ret
    exact ⟨rfl, Old.refl w⟩
end Go.Proofs.YtmkmafkkpigfpaaGreatDoor.V
