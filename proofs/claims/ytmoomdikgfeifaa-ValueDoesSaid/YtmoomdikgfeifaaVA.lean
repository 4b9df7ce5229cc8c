/- Layer value: how values are held against each other. -/
import Derived.Test.YtmoomdikgfeifaaRA
import Derived.Laws.Cover1
import Derived.Deep.RegionHeld3
namespace Go.Proofs.Ytmoomdikgfeifaa
open Go.ChangeShapes Go.WideShapes Go.ChangeAt Go.RowKit
set_option linter.unusedVariables false

/-- A value of the program, by its kind, number and text. -/
abbrev vl (k n : Int) (s : ByteArray) : Value := .agg #[.int .u8 k, .int .i64 n, .string s]
/-- How two whole numbers stand: -1, 0, 1. -/
def cz (a b : Int) : Int := if a < b then -1 else if b < a then 1 else 0
/-- How two texts stand. -/
def cs (s t : ByteArray) : Int := if Op.bytesLess s.toList t.toList = true then -1 else if s = t then 0 else 1
/-- Order. -/
def co (k n : Int) (s : ByteArray) (k' n' : Int) (s' : ByteArray) : Int := if k ≠ k' then cz k k' else if n ≠ n' then cz n n' else cs s s'

theorem nan8 (a : Int) (w : World) : Calls Try.prog 57 #[.int .u8 a] w fun e w' => e = .returned (.bool false) ∧ w = w' := by
  go_enter Try.func57, Try.ntmps57
  go_wp2
  go_ret
  exact ⟨rfl, rfl⟩
theorem nan64 (a : Int) (w : World) : Calls Try.prog 58 #[.int .i64 a] w fun e w' => e = .returned (.bool false) ∧ w = w' := by
  go_enter Try.func58, Try.ntmps58
  go_wp2
  go_ret
  exact ⟨rfl, rfl⟩
theorem nanS (a : ByteArray) (w : World) : Calls Try.prog 59 #[.string a] w fun e w' => e = .returned (.bool false) ∧ w = w' := by
  go_enter Try.func59, Try.ntmps59
  go_wp2
  go_ret
  exact ⟨rfl, rfl⟩

theorem cz_lt {a b : Int} (h : a < b) : cz a b = -1 := if_pos h
theorem cz_gt {a b : Int} (h : b < a) : cz a b = 1 := by unfold cz; rw [if_neg (by omega), if_pos h]
theorem cz_eq {a b : Int} (h : b ≤ a) (k : a ≤ b) : cz a b = 0 := by unfold cz; rw [if_neg (by omega), if_neg (by omega)]
theorem ri (a b : Int) (h : a = b) : Ending.returned (.int .i64 a) = .returned (.int .i64 b) := by rw [h]
theorem rb (a b : Bool) (h : a = b) : Ending.returned (.bool a) = .returned (.bool b) := by rw [h]

theorem cmp64 (a b : Int) (w : World) : Calls Try.prog 28 #[.int .i64 a, .int .i64 b] w fun e w' => e = .returned (.int .i64 (cz a b)) ∧ w = w' := by
  go_enter Try.func28, Try.ntmps28
  go_wp2_with (first
    | (go_at_call 58; (with_reducible refine (nan64 _ _).mono ?_); rintro e w' ⟨rfl, rfl⟩))
  · go_ret
    exact ⟨ri _ _ (cz_lt ‹_›).symm, rfl⟩
  · go_ret
    exact ⟨ri _ _ (cz_gt ‹_›).symm, rfl⟩
  · go_ret
    exact ⟨ri _ _ (cz_eq ‹b ≤ a› ‹a ≤ b›).symm, rfl⟩
theorem cmp8 (a b : Int) (w : World) : Calls Try.prog 27 #[.int .u8 a, .int .u8 b] w fun e w' => e = .returned (.int .i64 (cz a b)) ∧ w = w' := by
  go_enter Try.func27, Try.ntmps27
  go_wp2_with (first
    | (go_at_call 57; (with_reducible refine (nan8 _ _).mono ?_); rintro e w' ⟨rfl, rfl⟩))
  · go_ret
    exact ⟨ri _ _ (cz_lt ‹_›).symm, rfl⟩
  · go_ret
    exact ⟨ri _ _ (cz_gt ‹_›).symm, rfl⟩
  · go_ret
    exact ⟨ri _ _ (cz_eq ‹b ≤ a› ‹a ≤ b›).symm, rfl⟩

theorem ba_ext {a b : ByteArray} (h : a.toList = b.toList) : a = b := by
  have e : ∀ s : ByteArray, s.toList = s.data.toList := fun s => ByteArray.toList_eq s
  rw [e, e] at h
  cases a; cases b
  congr 1
  exact Array.toList_inj.1 h
theorem cs_lt {a b : ByteArray} (h : Op.bytesLess a.toList b.toList = true) : cs a b = -1 := if_pos h
theorem cs_eq {a b : ByteArray} (h : Op.bytesLess a.toList b.toList = false) (k : (a.toList == b.toList) = true) : cs a b = 0 := by
  unfold cs; rw [if_neg (by rw [h]; decide), if_pos (ba_ext (by simpa using k))]
theorem cs_gt {a b : ByteArray} (h : Op.bytesLess a.toList b.toList = false) (k : (a.toList == b.toList) = false) : cs a b = 1 := by
  unfold cs; rw [if_neg (by rw [h]; decide), if_neg]
  intro e; subst e; simp at k

theorem cmpSs (a b : ByteArray) (w : World) : Calls Try.prog 29 #[.string a, .string b] w fun e w' => e = .returned (.int .i64 (cs a b)) ∧ w = w' := by
  go_enter Try.func29, Try.ntmps29
  go_wp2_with (first
    | (go_at_call 59; (with_reducible refine (nanS _ _).mono ?_); rintro e w' ⟨rfl, rfl⟩))
  · go_ret
    exact ⟨ri _ _ (cs_lt ‹_›).symm, rfl⟩
  · go_ret
    exact ⟨ri _ _ (cs_gt ‹_› (by simpa using ‹(!a.toList == b.toList) = true›)).symm, rfl⟩
  · go_ret
    exact ⟨ri _ _ (cs_eq ‹Op.bytesLess a.toList b.toList = false› (by simpa using ‹(!a.toList == b.toList) = false›)).symm, rfl⟩

/-- The first of a row that is not 0, or 0. -/
def fz : List Int → Int
  | [] => 0
  | x :: r => if x = 0 then fz r else x
theorem fz_drop {l : List Int} {k : Nat} (h : k < l.length) (h0 : l.getD k 0 = 0) : fz (l.drop k) = fz (l.drop (k + 1)) := by
  rw [List.drop_eq_getElem_cons h, fz, if_pos]
  rw [List.getD_eq_getElem?_getD, List.getElem?_eq_getElem h] at h0
  exact h0
theorem fz_here {l : List Int} {k : Nat} (h : k < l.length) (h0 : ¬ l.getD k 0 = 0) : fz (l.drop k) = l.getD k 0 := by
  rw [List.getD_eq_getElem?_getD, List.getElem?_eq_getElem h] at h0 ⊢
  have h0' : ¬ l[k] = 0 := h0
  rw [List.drop_eq_getElem_cons h, fz, if_neg h0']
  rfl

theorem or_any (l : List Int) (v : Value) (w : World) (hl : Rd w v l) (hb : l.length ≤ 100000) : Calls Try.prog 26 #[v] w fun e w' => e = .returned (.int .i64 (fz l)) ∧ w = w' := by
  obtain ⟨oa, c, rfl, a1, a2, a3⟩ := hl
  obtain ⟨n, hn⟩ : ∃ n, n = l.length := ⟨_, rfl⟩
  rw [← hn]
  rw [← hn] at a1 a3 hb
  have HN := Lib.hid hn
  clear hn
  go_enter Try.func26, Try.ntmps26
  go_wp2
  go_loopw [8] (fun i wr => ∃ k : Nat, k ≤ n ∧ i = .int .i64 (k : Int) ∧ Hid (fz (l.drop k) = fz l) ∧ wr = w) (fun i _ => (n - intOf i).toNat)
  case atStart => exact ⟨0, Nat.zero_le _, rfl, by show fz (l.drop 0) = fz l; rw [List.drop_zero], rfl⟩
  case round =>
    obtain ⟨k, hk, rfl, HE, rfl⟩ := hrel
    by_cases hkn : k < n
    · obtain ⟨g, rfl, hgl, hcell⟩ := a3 k hkn
      obtain ⟨x, hx⟩ : ∃ x, x = l.getD k 0 := ⟨_, rfl⟩
      rw [← hx] at hcell
      have HX := Lib.hid hx
      clear hx a3
      by_cases hx0 : x = 0
      · subst hx0
        go_wp2
        exact ⟨⟨k + 1, by omega, rfl, Lib.hid ((fz_drop (by rw [← HN.out]; exact hkn) HX.out.symm).symm.trans HE.out), trivial⟩, by simp only [intOf]; omega⟩
      · go_wp2
        go_ret
        exact ⟨ri _ _ (HX.out.trans ((fz_here (by rw [← HN.out]; exact hkn) (by rw [← HX.out]; exact hx0)).symm.trans HE.out)), rfl⟩
    · have hkn' : k = n := by omega
      subst hkn'
      clear a3
      go_wp2
      go_ret
      refine ⟨ri _ _ ?_, rfl⟩
      have := HE.out
      rw [HN.out, List.drop_length] at this
      exact this


/-- A block of three cells: a value that was boxed. -/
def Three (w : World) (b : Nat) (x y z : Value) : Prop := w.heap[b]? = some (.cells #[x, y, z] 23 (0, 0))
theorem Three.c0 {w : World} {b : Nat} {x y z : Value} (h : Three w b x y z) : w.cell? ⟨b, 0, none⟩ = some x := by unfold Three at h; simp [World.cell?, h]
theorem Three.c1 {w : World} {b : Nat} {x y z : Value} (h : Three w b x y z) : w.cell? ⟨b, 1, none⟩ = some y := by unfold Three at h; simp [World.cell?, h]
theorem Three.c2 {w : World} {b : Nat} {x y z : Value} (h : Three w b x y z) : w.cell? ⟨b, 2, none⟩ = some z := by unfold Three at h; simp [World.cell?, h]
theorem Three.f {w : World} {b : Nat} {x y z : Value} (h : Three w b x y z) (o : Nat) : w.frozen? ⟨b, o, none⟩ = false := by unfold Three at h; simp [World.frozen?, h]
theorem blk_lt {w : World} {b : Nat} {o : Obj} (h : w.heap[b]? = some o) : b < w.heap.size := by
  rcases Nat.lt_or_ge b w.heap.size with h1 | h1
  · exact h1
  · rw [Array.getElem?_eq_none h1] at h; cases h
theorem Three.lt {w : World} {b : Nat} {x y z : Value} (h : Three w b x y z) : b < w.heap.size := by
  unfold Three at h
  rcases Nat.lt_or_ge b w.heap.size with h1 | h1
  · exact h1
  · rw [Array.getElem?_eq_none h1] at h; cases h
theorem Three.alloc {w : World} {b : Nat} {x y z : Value} (h : Three w b x y z) (o : Obj) : Three (w.alloc o) b x y z := (Below.heap_alloc w o b h.lt).trans h
theorem Three.new (w : World) (x y z : Value) : Three (w.alloc (.cells #[x, y, z] 23)) w.heap.size x y z := (MapKept.heap_alloc w _).1
theorem Three.old {w w' : World} {b : Nat} {x y z : Value} (h : Three w b x y z) (ho : Old w w') : Three w' b x y z := (ho.block b h.lt).trans h
theorem Three.drew {w : World} {b : Nat} {x y z : Value} (h : Three w b x y z) : Three w.drew b x y z := h

theorem sz_alloc (w : World) (o : Obj) : (w.alloc o).heap.size = w.heap.size + 1 := by simp
theorem Rd.new3 (w : World) (x y z : Int) : Rd (w.alloc (.cells #[.int .i64 x, .int .i64 y, .int .i64 z] 3)) (.slice (some ⟨w.heap.size, 0, none⟩) 3 3) [x, y, z] := by
  refine ⟨_, 3, rfl, Nat.le_refl _, by decide, fun j hj => ⟨_, rfl, ?_, ?_⟩⟩
  · exact blk_lt (MapKept.heap_alloc w (.cells #[.int .i64 x, .int .i64 y, .int .i64 z] 3)).1
  · have h := (MapKept.heap_alloc w (.cells #[.int .i64 x, .int .i64 y, .int .i64 z] 3)).1
    simp only [World.cell?, h]
    have : j = 0 ∨ j = 1 ∨ j = 2 := by simp at hj; omega
    rcases this with rfl | rfl | rfl <;> rfl

theorem order_any (k n : Int) (s : ByteArray) (k' n' : Int) (s' : ByteArray) (w : World) : Calls Try.prog 7 #[vl k n s, vl k' n' s'] w fun e w' => e = .returned (.int .i64 (fz [cz k k', cz n n', cs s s'])) ∧ Old w w' := by
  have HO := Lib.hid (((Old.refl w).alloc (.cells #[.int .u8 k, .int .i64 n, .string s] 23)).alloc (.cells #[.int .u8 k', .int .i64 n', .string s'] 23))
  go_enter Try.func7, Try.ntmps7
  go_wp2_with fail
  have t0 := (Three.new w (.int .u8 k) (.int .i64 n) (.string s)).alloc (.cells #[.int .u8 k', .int .i64 n', .string s'] 23)
  have t1 : Three ((w.alloc (.cells #[.int .u8 k, .int .i64 n, .string s] 23)).alloc (.cells #[.int .u8 k', .int .i64 n', .string s'] 23)) (w.heap.size + 1) (.int .u8 k') (.int .i64 n') (.string s') := by
    have := Three.new (w.alloc (.cells #[.int .u8 k, .int .i64 n, .string s] 23)) (.int .u8 k') (.int .i64 n') (.string s')
    rwa [sz_alloc] at this
  generalize hW : (w.alloc (.cells #[.int .u8 k, .int .i64 n, .string s] 23)).alloc (.cells #[.int .u8 k', .int .i64 n', .string s'] 23) = W at *
  clear hW
  have c0 := t0.c0
  have c1 := t0.c1
  have c2 := t0.c2
  have d0 := t1.c0
  have d1 := t1.c1
  have d2 := t1.c2
  go_region_held3 (fun w' => w'.cell? ⟨w.heap.size, 0, none⟩ = some (.int .u8 k) ∧ w'.cell? ⟨w.heap.size, 1, none⟩ = some (.int .i64 n) ∧ w'.cell? ⟨w.heap.size, 2, none⟩ = some (.string s) ∧ w'.cell? ⟨w.heap.size + 1, 0, none⟩ = some (.int .u8 k') ∧ w'.cell? ⟨w.heap.size + 1, 1, none⟩ = some (.int .i64 n') ∧ w'.cell? ⟨w.heap.size + 1, 2, none⟩ = some (.string s'))
    (first | exact ⟨c0, c1, c2, d0, d1, d2⟩ | go_keep)
    (first
      | (go_at_call 27; (with_reducible refine (cmp8 _ _ _).mono ?_); rintro e w1 ⟨rfl, rfl⟩)
      | (go_at_call 28; (with_reducible refine (cmp64 _ _ _).mono ?_); rintro e w1 ⟨rfl, rfl⟩)
      | (go_at_call 29; (with_reducible refine (cmpSs _ _ _).mono ?_); rintro e w1 ⟨rfl, rfl⟩)
      | (go_at_call 26; (with_reducible refine (or_any _ _ _ ((Rd.new3 _ _ _ _).old (Old.refl _).drew) (Nat.le_of_ble_eq_true rfl)).mono ?_); rintro e w1 ⟨rfl, rfl⟩))
  all_goals go_wp2
  go_ret
  exact ⟨rfl, (HO.out.alloc _).drew⟩

theorem isnum_any (k n : Int) (s : ByteArray) (w : World) : Calls Try.prog 30 #[vl k n s] w fun e w' => e = .returned (.bool (k == 1 || k == 2)) ∧ Old w w' := by
  by_cases hk : k = 1
  · subst hk
    go_enter Try.func30, Try.ntmps30
    go_wp2
    go_ret
    exact ⟨rfl, (Old.refl w).alloc _⟩
  · go_enter Try.func30, Try.ntmps30
    go_wp2
    go_ret
    exact ⟨rfl, (Old.refl w).alloc _⟩

/-- A number's worth in units of a decimal. -/
def wt (k n : Int) : Int := if k = 1 then n * 10000 else n

theorem cid_any (a b : Int) (w : World) (ha : I64 a) (hb : I64 b) : Calls Try.prog 60 #[.int .i64 a, .int .i64 b] w fun e w' => e = .returned (.int .i64 (cz (a * 10000) b)) ∧ Old w w' := by
  by_cases h : I64 (a * 10000)
  · have k1 := fun W => scale_any a W ha
    rw [fitV_in h, fitE_in h] at k1
    go_enter Try.func60, Try.ntmps60
    go_wp2_with (first
      | (go_at_call 75; (with_reducible refine (k1 _).mono ?_); rintro e w1 ⟨rfl, hg⟩)
      | (go_at_call 28; (with_reducible refine (cmp64 _ _ _).mono ?_); rintro e w1 ⟨rfl, rfl⟩))
    go_ret
    exact ⟨rfl, Old.ofGrown hg⟩
  · have k1 := fun W => scale_any a W ha
    rw [fitV_out h, fitE_out h] at k1
    have e : cz a 0 = cz (a * 10000) b := by
      unfold I64 at *
      unfold cz
      by_cases h0 : a < 0
      · rw [if_pos h0, if_pos (by omega)]
      · rw [if_neg h0, if_pos (by omega), if_neg (by omega), if_pos (by omega)]
    rw [← e]
    clear e
    go_enter Try.func60, Try.ntmps60
    go_wp2_with (first
      | (go_at_call 75; (with_reducible refine (k1 _).mono ?_); rintro e w1 ⟨rfl, hg⟩)
      | (go_at_call 28; (with_reducible refine (cmp64 _ _ _).mono ?_); rintro e w1 ⟨rfl, rfl⟩))
    go_ret
    exact ⟨rfl, Old.ofGrown hg⟩

theorem cz_turn (a b : Int) : -cz a b = cz b a := by
  unfold cz
  rcases Int.lt_trichotomy a b with h | h | h
  · rw [if_pos h, if_neg (by omega), if_pos h]; rfl
  · rw [if_neg (by omega), if_neg (by omega), if_neg (by omega), if_neg (by omega)]; rfl
  · rw [if_neg (by omega), if_pos h, if_pos h]
theorem cz_in (a b : Int) : -1 ≤ cz a b ∧ cz a b ≤ 1 := by
  unfold cz
  split
  · omega
  · split <;> omega

theorem cwo_any (k n : Int) (s : ByteArray) (k' n' : Int) (s' : ByteArray) (w : World) (hk : k = 1 ∨ k = 2) (hk' : k' = 1 ∨ k' = 2) (hn : I64 n) (hn' : I64 n') :
    Calls Try.prog 31 #[vl k n s, vl k' n' s'] w fun e w' => e = .returned (.int .i64 (cz (wt k n) (wt k' n'))) ∧ Old w w' := by
  have HO := Lib.hid (((Old.refl w).alloc (.cells #[.int .u8 k, .int .i64 n, .string s] 23)).alloc (.cells #[.int .u8 k', .int .i64 n', .string s'] 23))
  have e1 : cz (n * 10000) (n' * 10000) = cz n n' := by
    unfold cz
    rcases Int.lt_trichotomy n n' with h | h | h
    · rw [if_pos (by omega), if_pos h]
    · rw [if_neg (by omega), if_neg (by omega), if_neg (by omega), if_neg (by omega)]
    · rw [if_neg (by omega), if_pos (by omega), if_neg (by omega), if_pos h]
  have e2 := cz_turn (n' * 10000) n
  have e3 := cz_in (n' * 10000) n
  have HE := Lib.hid e1
  have HE2 := Lib.hid e2
  clear e1 e2
  rcases hk with rfl | rfl <;> rcases hk' with rfl | rfl
  · go_enter Try.func31, Try.ntmps31
    go_wp2_with (first
      | (go_at_call 28; (with_reducible refine (cmp64 _ _ _).mono ?_); rintro e w1 ⟨rfl, rfl⟩))
    go_ret
    exact ⟨ri _ _ HE.out.symm, HO.out⟩
  · go_enter Try.func31, Try.ntmps31
    go_wp2_with (first
      | (go_at_call 60; (with_reducible refine (cid_any _ _ _ hn hn').mono ?_); rintro e w1 ⟨rfl, ho⟩))
    go_ret
    exact ⟨rfl, HO.out.trans ho⟩
  · go_enter Try.func31, Try.ntmps31
    go_wp2_with (first
      | (go_at_call 60; (with_reducible refine (cid_any _ _ _ hn' hn).mono ?_); rintro e w1 ⟨rfl, ho⟩))
    go_ret
    refine ⟨ri _ _ ?_, HO.out.trans ho⟩
    show _ = cz n (n' * 10000)
    rw [← HE2.out]
  · go_enter Try.func31, Try.ntmps31
    go_wp2_with (first
      | (go_at_call 28; (with_reducible refine (cmp64 _ _ _).mono ?_); rintro e w1 ⟨rfl, rfl⟩))
    go_ret
    exact ⟨rfl, HO.out⟩


/-- Compare's number. -/
def cpV (k n : Int) (s : ByteArray) (k' n' : Int) (s' : ByteArray) : Int :=
  if (k = 1 ∨ k = 2) ∧ (k' = 1 ∨ k' = 2) then cz (wt k n) (wt k' n') else if k = k' ∧ 3 ≤ k ∧ k ≤ 5 then fz [cz k k', cz n n', cs s s'] else 0
/-- Compare's truth. -/
def cpB (k k' : Int) : Bool := decide (((k = 1 ∨ k = 2) ∧ (k' = 1 ∨ k' = 2)) ∨ (k = k' ∧ 3 ≤ k ∧ k ≤ 5))
/-- A number and a truth. -/
abbrev pb (c : Int) (b : Bool) : Ending := .returned (.tuple #[.int .i64 c, .bool b])
theorem pb_eq {a c : Int} {b d : Bool} (h1 : a = c) (h2 : b = d) : pb a b = pb c d := by rw [h1, h2]

theorem cmp_num (k n : Int) (s : ByteArray) (k' n' : Int) (s' : ByteArray) (w : World) (hk : k = 1 ∨ k = 2) (hk' : k' = 1 ∨ k' = 2) (hn : I64 n) (hn' : I64 n') :
    Calls Try.prog 9 #[vl k n s, vl k' n' s'] w fun e w' => e = pb (cz (wt k n) (wt k' n')) true ∧ Old w w' := by
  have HO := Lib.hid (((Old.refl w).alloc (.cells #[.int .u8 k, .int .i64 n, .string s] 23)).alloc (.cells #[.int .u8 k', .int .i64 n', .string s'] 23))
  have t0 := Lib.hid ((Three.new w (.int .u8 k) (.int .i64 n) (.string s)).alloc (.cells #[.int .u8 k', .int .i64 n', .string s'] 23))
  have t1 : Three ((w.alloc (.cells #[.int .u8 k, .int .i64 n, .string s] 23)).alloc (.cells #[.int .u8 k', .int .i64 n', .string s'] 23)) (w.heap.size + 1) (.int .u8 k') (.int .i64 n') (.string s') := by
    have := Three.new (w.alloc (.cells #[.int .u8 k, .int .i64 n, .string s] 23)) (.int .u8 k') (.int .i64 n') (.string s')
    rwa [sz_alloc] at this
  have t1 := Lib.hid t1
  have e1 : (k == 1 || k == 2) = true := by rcases hk with rfl | rfl <;> rfl
  have e2 : (k' == 1 || k' == 2) = true := by rcases hk' with rfl | rfl <;> rfl
  have k1 := fun W => isnum_any k n s W
  have k2 := fun W => isnum_any k' n' s' W
  rw [e1] at k1
  rw [e2] at k2
  clear e1 e2
  go_enter Try.func9, Try.ntmps9
  go_wp2_with (first
    | (go_at_call 30; first
        | ((with_reducible refine (k1 _).mono ?_); rintro e w1 ⟨rfl, ho1⟩; have t2 := Lib.hid (t0.out.old ho1); have t3 := Lib.hid (t1.out.old ho1); have c0 := t2.out.c0; have c1 := t2.out.c1; have c2 := t2.out.c2; have c3 := t3.out.c0; have c4 := t3.out.c1; have c5 := t3.out.c2)
        | ((with_reducible refine (k2 _).mono ?_); clear c0 c1 c2 c3 c4 c5; rintro e w2 ⟨rfl, ho2⟩; have t4 := Lib.hid (t2.out.old ho2); have t5 := Lib.hid (t3.out.old ho2); have d0 := t4.out.c0; have d1 := t4.out.c1; have d2 := t4.out.c2; have d3 := t5.out.c0; have d4 := t5.out.c1; have d5 := t5.out.c2))
    | (go_at_call 31; (with_reducible refine (cwo_any _ _ _ _ _ _ _ hk hk' hn hn').mono ?_); rintro e w3 ⟨rfl, ho3⟩))
  go_ret2
  exact ⟨rfl, HO.out.trans (ho1.trans (ho2.trans ho3))⟩

end Go.Proofs.Ytmoomdikgfeifaa
