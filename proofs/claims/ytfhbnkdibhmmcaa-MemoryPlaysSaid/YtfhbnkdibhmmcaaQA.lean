/- Layer value: how values are held against each other; whether two are the same. -/
import Derived.Test.YtfhbnkdibhmmcaaOA
namespace Go.Proofs.Ytfhbnkdibhmmcaa
open Go.ChangeShapes Go.WideShapes Go.ChangeAt Go.RowKit Go.Lib
set_option linter.unusedVariables false
set_option maxRecDepth 100000

/-- The slice v reads as the row ds. -/
def Rd (w : World) (v : Value) (ds : List Int) : Prop :=
  ∃ oa cap, v = .slice oa ds.length cap ∧ ds.length ≤ cap ∧ cap ≤ maxLen ∧ ∀ j, j < ds.length → ∃ g, oa = some ⟨g, 0, none⟩ ∧ g < w.heap.size ∧ w.cell? ⟨g, j, none⟩ = some (.int .i64 (ds.getD j 0))
theorem Rd.old {w w' : World} {v : Value} {ds : List Int} (h : Rd w v ds) (ho : Old w w') : Rd w' v ds := by
  obtain ⟨oa, cap, rfl, h1, h2, h3⟩ := h
  refine ⟨oa, cap, rfl, h1, h2, fun j hj => ?_⟩
  obtain ⟨g, rfl, hg, hc⟩ := h3 j hj
  exact ⟨g, rfl, Nat.lt_of_lt_of_le hg ho.size, (ho.cell hg).trans hc⟩
theorem Rd.nil (w : World) : Rd w (.slice none 0 0) [] := ⟨none, 0, rfl, Nat.le_refl _, Nat.zero_le _, fun j hj => absurd hj (Nat.not_lt_zero _)⟩
theorem Rd.take {w : World} {oa : Option Addr} {cap : Nat} {ds : List Int} (h1 : ds.length ≤ cap) (h2 : cap ≤ maxLen)
    (h3 : ∀ j, j < ds.length → ∃ g, oa = some ⟨g, 0, none⟩ ∧ g < w.heap.size ∧ w.cell? ⟨g, j, none⟩ = some (.int .i64 (ds.getD j 0))) {k : Nat} (hk : k ≤ ds.length) : Rd w (.slice oa k cap) (ds.take k) := by
  have hl : (ds.take k).length = k := by rw [List.length_take]; omega
  refine ⟨oa, cap, by rw [hl], by omega, h2, fun j hj => ?_⟩
  obtain ⟨g, h4, h5, h6⟩ := h3 j (by omega)
  refine ⟨g, h4, h5, h6.trans ?_⟩
  rw [List.getD_eq_getElem?_getD, List.getD_eq_getElem?_getD, List.getElem?_take_of_lt (by omega)]
/-- How two whole numbers stand: -1, 0, 1. -/
def cz (a b : Int) : Int := if a < b then -1 else if b < a then 1 else 0
/-- How two texts stand. -/
def cs (s t : ByteArray) : Int := if Op.bytesLess s.toList t.toList = true then -1 else if s = t then 0 else 1
/-- Order. -/
def co (k n : Int) (s : ByteArray) (k' n' : Int) (s' : ByteArray) : Int := if k ≠ k' then cz k k' else if n ≠ n' then cz n n' else cs s s'

theorem nan8 (a : Int) (w : World) : Calls Try.prog 50 #[.int .u8 a] w fun e w' => e = .returned (.bool false) ∧ w = w' := by
  go_enter Try.func50, Try.ntmps50
  go_wp2
  go_ret
  exact ⟨rfl, rfl⟩
theorem nan64 (a : Int) (w : World) : Calls Try.prog 51 #[.int .i64 a] w fun e w' => e = .returned (.bool false) ∧ w = w' := by
  go_enter Try.func51, Try.ntmps51
  go_wp2
  go_ret
  exact ⟨rfl, rfl⟩
theorem nanS (a : ByteArray) (w : World) : Calls Try.prog 52 #[.string a] w fun e w' => e = .returned (.bool false) ∧ w = w' := by
  go_enter Try.func52, Try.ntmps52
  go_wp2
  go_ret
  exact ⟨rfl, rfl⟩

theorem cz_lt {a b : Int} (h : a < b) : cz a b = -1 := if_pos h
theorem cz_gt {a b : Int} (h : b < a) : cz a b = 1 := by unfold cz; rw [if_neg (by omega), if_pos h]
theorem cz_eq {a b : Int} (h : b ≤ a) (k : a ≤ b) : cz a b = 0 := by unfold cz; rw [if_neg (by omega), if_neg (by omega)]
theorem ri (a b : Int) (h : a = b) : Ending.returned (.int .i64 a) = .returned (.int .i64 b) := by rw [h]

theorem cmp64 (a b : Int) (w : World) : Calls Try.prog 45 #[.int .i64 a, .int .i64 b] w fun e w' => e = .returned (.int .i64 (cz a b)) ∧ w = w' := by
  go_enter Try.func45, Try.ntmps45
  go_wp2_with (first
    | (go_at_call 51; (with_reducible refine (nan64 _ _).mono ?_); rintro e w' ⟨rfl, rfl⟩))
  · go_ret
    exact ⟨ri _ _ (cz_lt ‹_›).symm, rfl⟩
  · go_ret
    exact ⟨ri _ _ (cz_gt ‹_›).symm, rfl⟩
  · go_ret
    exact ⟨ri _ _ (cz_eq ‹b ≤ a› ‹a ≤ b›).symm, rfl⟩
theorem cmp8 (a b : Int) (w : World) : Calls Try.prog 44 #[.int .u8 a, .int .u8 b] w fun e w' => e = .returned (.int .i64 (cz a b)) ∧ w = w' := by
  go_enter Try.func44, Try.ntmps44
  go_wp2_with (first
    | (go_at_call 50; (with_reducible refine (nan8 _ _).mono ?_); rintro e w' ⟨rfl, rfl⟩))
  · go_ret
    exact ⟨ri _ _ (cz_lt ‹_›).symm, rfl⟩
  · go_ret
    exact ⟨ri _ _ (cz_gt ‹_›).symm, rfl⟩
  · go_ret
    exact ⟨ri _ _ (cz_eq ‹b ≤ a› ‹a ≤ b›).symm, rfl⟩

theorem cs_lt {a b : ByteArray} (h : Op.bytesLess a.toList b.toList = true) : cs a b = -1 := if_pos h
theorem cs_eq {a b : ByteArray} (h : Op.bytesLess a.toList b.toList = false) (k : (a.toList == b.toList) = true) : cs a b = 0 := by
  unfold cs; rw [if_neg (by rw [h]; decide), if_pos (ba_ext (by simpa using k))]
theorem cs_gt {a b : ByteArray} (h : Op.bytesLess a.toList b.toList = false) (k : (a.toList == b.toList) = false) : cs a b = 1 := by
  unfold cs; rw [if_neg (by rw [h]; decide), if_neg]
  intro e; subst e; simp at k

theorem cmpSs (a b : ByteArray) (w : World) : Calls Try.prog 46 #[.string a, .string b] w fun e w' => e = .returned (.int .i64 (cs a b)) ∧ w = w' := by
  go_enter Try.func46, Try.ntmps46
  go_wp2_with (first
    | (go_at_call 52; (with_reducible refine (nanS _ _).mono ?_); rintro e w' ⟨rfl, rfl⟩))
  · go_ret
    exact ⟨ri _ _ (cs_lt ‹_›).symm, rfl⟩
  · go_ret
    exact ⟨ri _ _ (cs_gt ‹_› (by simpa using ‹(!a.toList == b.toList) = true›)).symm, rfl⟩
  · go_ret
    exact ⟨ri _ _ (cs_eq ‹Op.bytesLess a.toList b.toList = false› (by simpa using ‹(!a.toList == b.toList) = false›)).symm, rfl⟩

/-- The first of a row that is not 0, or 0. -/
def fz : List Int → Int
  | [] => 0
  | x :: r => if x = 0 then fz r else x
theorem fz_drop {l : List Int} {k : Nat} (h : k < l.length) (h0 : l.getD k 0 = 0) : fz (l.drop k) = fz (l.drop (k + 1)) := by
  rw [List.drop_eq_getElem_cons h, fz, if_pos]
  rw [List.getD_eq_getElem?_getD, List.getElem?_eq_getElem h] at h0
  exact h0
theorem fz_here {l : List Int} {k : Nat} (h : k < l.length) (h0 : ¬ l.getD k 0 = 0) : fz (l.drop k) = l.getD k 0 := by
  rw [List.getD_eq_getElem?_getD, List.getElem?_eq_getElem h] at h0 ⊢
  have h0' : ¬ l[k] = 0 := h0
  rw [List.drop_eq_getElem_cons h, fz, if_neg h0']
  rfl

theorem or_any (l : List Int) (v : Value) (w : World) (hl : Rd w v l) (hb : l.length ≤ 100000) : Calls Try.prog 43 #[v] w fun e w' => e = .returned (.int .i64 (fz l)) ∧ w = w' := by
  obtain ⟨oa, c, rfl, a1, a2, a3⟩ := hl
  obtain ⟨n, hn⟩ : ∃ n, n = l.length := ⟨_, rfl⟩
  rw [← hn]
  rw [← hn] at a1 a3 hb
  have HN := Lib.hid hn
  clear hn
  go_enter Try.func43, Try.ntmps43
  go_wp2
  go_loopw [8] (fun i wr => ∃ k : Nat, k ≤ n ∧ i = .int .i64 (k : Int) ∧ Hid (fz (l.drop k) = fz l) ∧ wr = w) (fun i _ => (n - intOf i).toNat)
  case atStart => exact ⟨0, Nat.zero_le _, rfl, by show fz (l.drop 0) = fz l; rw [List.drop_zero], rfl⟩
  case round =>
    obtain ⟨k, hk, rfl, HE, rfl⟩ := hrel
    by_cases hkn : k < n
    · obtain ⟨g, rfl, hgl, hcell⟩ := a3 k hkn
      obtain ⟨x, hx⟩ : ∃ x, x = l.getD k 0 := ⟨_, rfl⟩
      rw [← hx] at hcell
      have HX := Lib.hid hx
      clear hx a3
      by_cases hx0 : x = 0
      · subst hx0
        go_wp2
        exact ⟨⟨k + 1, by omega, rfl, Lib.hid ((fz_drop (by rw [← HN.out]; exact hkn) HX.out.symm).symm.trans HE.out), trivial⟩, by simp only [intOf]; omega⟩
      · go_wp2
        go_ret
        exact ⟨ri _ _ (HX.out.trans ((fz_here (by rw [← HN.out]; exact hkn) (by rw [← HX.out]; exact hx0)).symm.trans HE.out)), rfl⟩
    · have hkn' : k = n := by omega
      subst hkn'
      clear a3
      go_wp2
      go_ret
      refine ⟨ri _ _ ?_, rfl⟩
      have := HE.out
      rw [HN.out, List.drop_length] at this
      exact this


theorem bl_irr : ∀ x : List UInt8, Op.bytesLess x x = false
  | [] => rfl
  | a :: x => by
    rw [Op.bytesLess, bl_irr x]
    simp
theorem bl_trans : ∀ x y z : List UInt8, Op.bytesLess x y = true → Op.bytesLess y z = true → Op.bytesLess x z = true
  | _, _, [], _, h => by
    rename_i y _
    cases y <;> simp [Op.bytesLess] at h
  | [], _, _ :: _, _, _ => by simp [Op.bytesLess]
  | _ :: _, [], _ :: _, h, _ => by simp [Op.bytesLess] at h
  | a :: x, b :: y, c :: z, h, k => by
    rw [Op.bytesLess] at h k ⊢
    simp only [Bool.or_eq_true, Bool.and_eq_true, decide_eq_true_eq, beq_iff_eq] at h k ⊢
    rcases h with h | ⟨rfl, h⟩
    · rcases k with k | ⟨rfl, k⟩
      · exact Or.inl (UInt8.lt_trans h k)
      · exact Or.inl h
    · rcases k with k | ⟨rfl, k⟩
      · exact Or.inl k
      · exact Or.inr ⟨rfl, bl_trans x y z h k⟩
theorem bl_tot : ∀ x y : List UInt8, Op.bytesLess x y = false → Op.bytesLess y x = false → x = y
  | [], [], _, _ => rfl
  | [], _ :: _, h, _ => by simp [Op.bytesLess] at h
  | _ :: _, [], _, h => by simp [Op.bytesLess] at h
  | a :: x, b :: y, h, k => by
    rw [Op.bytesLess] at h k
    simp only [Bool.or_eq_false_iff, Bool.and_eq_false_iff, decide_eq_false_iff_not, beq_eq_false_iff_ne] at h k
    have hab : a = b := by
      apply UInt8.le_antisymm
      · exact UInt8.not_lt.1 k.1
      · exact UInt8.not_lt.1 h.1
    subst hab
    rcases h.2 with h' | h'
    · exact absurd rfl h'
    rcases k.2 with k' | k'
    · exact absurd rfl k'
    rw [bl_tot x y h' k']

theorem cs_in (s t : ByteArray) : cs s t = -1 ∨ cs s t = 0 ∨ cs s t = 1 := by
  unfold cs
  split
  · exact Or.inl rfl
  · split
    · exact Or.inr (Or.inl rfl)
    · exact Or.inr (Or.inr rfl)
theorem cs_self (s : ByteArray) : cs s s = 0 := by
  unfold cs
  rw [bl_irr, if_neg (by decide), if_pos rfl]
theorem cs_zero {s t : ByteArray} (h : cs s t = 0) : s = t := by
  unfold cs at h
  split at h
  · omega
  · split at h
    · assumption
    · omega
theorem Rd.new3 (w : World) (x y z : Int) : Rd (w.alloc (.cells #[.int .i64 x, .int .i64 y, .int .i64 z] 3)) (.slice (some ⟨w.heap.size, 0, none⟩) 3 3) [x, y, z] := by
  refine ⟨_, 3, rfl, Nat.le_refl _, by decide, fun j hj => ⟨_, rfl, ?_, ?_⟩⟩
  · exact blk_lt (MapKept.heap_alloc w (.cells #[.int .i64 x, .int .i64 y, .int .i64 z] 3)).1
  · have h := (MapKept.heap_alloc w (.cells #[.int .i64 x, .int .i64 y, .int .i64 z] 3)).1
    simp only [World.cell?, h]
    have : j = 0 ∨ j = 1 ∨ j = 2 := by simp at hj; omega
    rcases this with rfl | rfl | rfl <;> rfl

theorem order_any (k n : Int) (s : ByteArray) (k' n' : Int) (s' : ByteArray) (w : World) : Calls Try.prog 39 #[vl k n s, vl k' n' s'] w fun e w' => e = .returned (.int .i64 (fz [cz k k', cz n n', cs s s'])) ∧ Old w w' := by
  have HO := Lib.hid (((Old.refl w).alloc (.cells #[.int .u8 k, .int .i64 n, .string s] 45)).alloc (.cells #[.int .u8 k', .int .i64 n', .string s'] 45))
  go_enter Try.func39, Try.ntmps39
  go_wp2_with fail
  have t0 := (Three.new w (.int .u8 k) (.int .i64 n) (.string s)).alloc (.cells #[.int .u8 k', .int .i64 n', .string s'] 45)
  have t1 : Three ((w.alloc (.cells #[.int .u8 k, .int .i64 n, .string s] 45)).alloc (.cells #[.int .u8 k', .int .i64 n', .string s'] 45)) (w.heap.size + 1) (.int .u8 k') (.int .i64 n') (.string s') := by
    have := Three.new (w.alloc (.cells #[.int .u8 k, .int .i64 n, .string s] 45)) (.int .u8 k') (.int .i64 n') (.string s')
    rwa [sz_alloc] at this
  generalize hW : (w.alloc (.cells #[.int .u8 k, .int .i64 n, .string s] 45)).alloc (.cells #[.int .u8 k', .int .i64 n', .string s'] 45) = W at *
  clear hW
  have c0 := t0.c0
  have c1 := t0.c1
  have c2 := t0.c2
  have d0 := t1.c0
  have d1 := t1.c1
  have d2 := t1.c2
  go_region_held3 (fun w' => w'.cell? ⟨w.heap.size, 0, none⟩ = some (.int .u8 k) ∧ w'.cell? ⟨w.heap.size, 1, none⟩ = some (.int .i64 n) ∧ w'.cell? ⟨w.heap.size, 2, none⟩ = some (.string s) ∧ w'.cell? ⟨w.heap.size + 1, 0, none⟩ = some (.int .u8 k') ∧ w'.cell? ⟨w.heap.size + 1, 1, none⟩ = some (.int .i64 n') ∧ w'.cell? ⟨w.heap.size + 1, 2, none⟩ = some (.string s'))
    (first | exact ⟨c0, c1, c2, d0, d1, d2⟩ | go_keep)
    (first
      | (go_at_call 44; (with_reducible refine (cmp8 _ _ _).mono ?_); rintro e w1 ⟨rfl, rfl⟩)
      | (go_at_call 45; (with_reducible refine (cmp64 _ _ _).mono ?_); rintro e w1 ⟨rfl, rfl⟩)
      | (go_at_call 46; (with_reducible refine (cmpSs _ _ _).mono ?_); rintro e w1 ⟨rfl, rfl⟩)
      | (go_at_call 43; (with_reducible refine (or_any _ _ _ ((Rd.new3 _ _ _ _).old (Old.refl _).drew) (Nat.le_of_ble_eq_true rfl)).mono ?_); rintro e w1 ⟨rfl, rfl⟩))
  all_goals go_wp2
  go_ret
  exact ⟨rfl, (HO.out.alloc _).drew⟩

end Go.Proofs.Ytfhbnkdibhmmcaa
