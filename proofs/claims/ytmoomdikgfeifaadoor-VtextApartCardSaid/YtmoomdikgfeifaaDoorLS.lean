/- Layer vtext: VtextApart. -/
import Derived.Test.YtmoomdikgfeifaaDoorLR
import Derived.Test.YtmoomdikgfeifaaDoorIB
namespace Go.Proofs.YtmoomdikgfeifaaDoor
open Go.ChangeShapes Go.WideShapes Go.ChangeAt Go.RowKit Go.Lib
set_option linter.unusedVariables false
set_option linter.unusedSimpArgs false
set_option maxRecDepth 100000

section
variable {ρ : Operand → Value} {o : Oper} {w : World} {K : Value → World → Prop}
theorem does_load {t : Operand} {b : Nat} {k n : Int} {s : ByteArray} (ho : o.op = .load 24 t) (ht : ρ t = .pointer (some ⟨b, 0, none⟩)) (hb : Three w b (.int .u8 k) (.int .i64 n) (.string s)) (h : K (vl k n s) w) : Does Tryd.prog ρ o w K := by
  have c0 := hb.c0
  have c1 := hb.c1
  have c2 := hb.c2
  refine does_value (v := vl k n s) (w' := w) ?_ h
  unfold execOp; rw [ho]; simp only [ht]
  go_simp
theorem does_eql {x y : Operand} {k n : Int} {s : ByteArray} {k' n' : Int} {s' : ByteArray} (ho : o.op = .binOp .eql 24 x y 24) (hx : ρ x = vl k n s) (hy : ρ y = vl k' n' s') (h : K (.bool (k == k' && n == n' && s.toList == s'.toList)) w) : Does Tryd.prog ρ o w K := by
  refine does_value (v := .bool (k == k' && n == n' && s.toList == s'.toList)) (w' := w) ?_ h
  unfold execOp; rw [ho]; simp only [hx, hy]
  go_simp
  cases e1 : (k == k') <;> cases e2 : (n == n') <;> cases e3 : (s.toList == s'.toList) <;> simp_all
theorem does_eqs {x y : Operand} {a b : List UInt8} (ho : o.op = .binOp .eql 9 x y 9) (hx : ρ x = .string (st a)) (hy : ρ y = .string (st b)) (h : K (.bool (a == b)) w) : Does Tryd.prog ρ o w K := by
  refine does_value (v := .bool (a == b)) (w' := w) ?_ h
  unfold execOp; rw [ho]; simp only [hx, hy]
  go_simp
theorem does_eqb {x y : Operand} {b : Bool} (ho : o.op = .binOp .eql 4 x y 4) (hx : ρ x = .bool b) (hy : ρ y = .bool b) (h : K (.bool true) w) : Does Tryd.prog ρ o w K := by
  refine does_value (v := .bool true) (w' := w) ?_ h
  unfold execOp; rw [ho]; simp only [hx, hy]
  cases b <;> go_simp
end

theorem apart_bool {k n k' n' : Int} {s s' : ByteArray} (hm : mayB k n s = true) (hn : I64 n) (hm' : mayB k' n' s' = true) (hn' : I64 n') : (textL k n s == textL k' n' s') = (k == k' && n == n' && s.toList == s'.toList) := by
  by_cases h : textL k n s = textL k' n' s'
  · obtain ⟨rfl, rfl, rfl⟩ := text_apart hm hn hm' hn' h
    simp
  · have e : (textL k n s == textL k' n' s') = false := by simpa using h
    rw [e]
    by_cases h2 : k = k' ∧ n = n' ∧ s = s'
    · obtain ⟨rfl, rfl, rfl⟩ := h2
      exact absurd rfl h
    · symm
      rw [Bool.and_eq_false_iff, Bool.and_eq_false_iff]
      by_cases a : k = k'
      · by_cases b : n = n'
        · right
          have : s.toList ≠ s'.toList := fun e => h2 ⟨a, b, ba_ext e⟩
          simpa using this
        · left; right; simpa using b
      · left; left; simpa using a

set_option maxHeartbeats 1600000 in
theorem apart_not (k n k' n' : Int) (s s' : ByteArray) (w : World) (he : Env w) (h : ¬ (mayB k n s = true ∧ mayB k' n' s' = true)) : Calls Tryd.prog 4 #[vl k n s, vl k' n' s'] w fun e w' => e = .returned (.bool true) ∧ Old w w' := by
  have hb0 := Three.new (w.alloc (.cells #[.int .u8 k, .int .i64 n, .string s] 24)) (.int .u8 k') (.int .i64 n') (.string s')
  have es : (w.alloc (.cells #[.int .u8 k, .int .i64 n, .string s] 24)).heap.size = w.heap.size + 1 := by simp
  rw [es] at hb0
  have HB := Lib.hid hb0
  clear hb0 es
  have HO := Lib.hid (((Old.refl w).alloc (.cells #[.int .u8 k, .int .i64 n, .string s] 24)).alloc (.cells #[.int .u8 k', .int .i64 n', .string s'] 24))
  have HE := Lib.hid (he.old HO.out)
  have hk := fun W hW => known_any W hW
  have h1 := fun W => may_any k n s W
  have h2 := fun W => may_any k' n' s' W
  clear he
  cases hm : mayB k n s
  · rw [hm] at h1
    clear hm h h2
    go_enter Tryd.func4, Tryd.ntmps4
    go_wp2_with (first
      | (go_at_call 8; (with_reducible refine (h1 _).mono ?_); rintro e w1 ⟨rfl, o1⟩; replace HO := Lib.hid (HO.out.trans o1); replace HE := Lib.hid (HE.out.old o1))
      | (go_at_call 5; (with_reducible refine (hk _ HE.out).mono ?_); rintro e w2 ⟨rfl, o2⟩; replace HO := Lib.hid (HO.out.trans o2)))
    go_ret
    exact ⟨rfl, HO.out⟩
  · have hm' : mayB k' n' s' = false := by
      cases hx : mayB k' n' s'
      · rfl
      · exact absurd ⟨hm, hx⟩ h
    rw [hm] at h1
    rw [hm'] at h2
    clear hm h hm'
    go_enter Tryd.func4, Tryd.ntmps4
    go_wp2_with (first
      | (go_at_call 8; (with_reducible refine (h1 _).mono ?_); rintro e w1 ⟨rfl, o1⟩; replace HO := Lib.hid (HO.out.trans o1); replace HE := Lib.hid (HE.out.old o1); replace HB := Lib.hid (HB.out.old o1); have c0 := HB.out.c0; have c1 := HB.out.c1; have c2 := HB.out.c2)
      | (go_at_call 8; (with_reducible refine (h2 _).mono ?_); rintro e w1 ⟨rfl, o1⟩; replace HO := Lib.hid (HO.out.trans o1); replace HE := Lib.hid (HE.out.old o1))
      | (go_at_call 5; (with_reducible refine (hk _ HE.out).mono ?_); rintro e w2 ⟨rfl, o2⟩; replace HO := Lib.hid (HO.out.trans o2)))
    go_ret
    exact ⟨rfl, HO.out⟩

set_option maxHeartbeats 3200000 in
theorem apart_may (k n k' n' : Int) (s s' : ByteArray) (hk : 0 ≤ k ∧ k ≤ 255) (hn : I64 n) (hk' : 0 ≤ k' ∧ k' ≤ 255) (hn' : I64 n') (hm : mayB k n s = true) (hm' : mayB k' n' s' = true) (w : World) (he : Env w) : Calls Tryd.prog 4 #[vl k n s, vl k' n' s'] w fun e w' => e = .returned (.bool true) ∧ Old w w' := by
  have HA := Lib.hid ((Three.new w (.int .u8 k) (.int .i64 n) (.string s)).alloc (.cells #[.int .u8 k', .int .i64 n', .string s'] 24))
  have hb0 := Three.new (w.alloc (.cells #[.int .u8 k, .int .i64 n, .string s] 24)) (.int .u8 k') (.int .i64 n') (.string s')
  have es : (w.alloc (.cells #[.int .u8 k, .int .i64 n, .string s] 24)).heap.size = w.heap.size + 1 := by simp
  rw [es] at hb0
  have HB := Lib.hid hb0
  clear hb0 es
  have HO := Lib.hid (((Old.refl w).alloc (.cells #[.int .u8 k, .int .i64 n, .string s] 24)).alloc (.cells #[.int .u8 k', .int .i64 n', .string s'] 24))
  have HE := Lib.hid (he.old HO.out)
  have hkn := fun W hW => known_any W hW
  have h1 := fun W => may_any k n s W
  have h2 := fun W => may_any k' n' s' W
  have x1 := fun W hW => text_any' k n s hk hn W hW
  have x2 := fun W hW => text_any' k' n' s' hk' hn' W hW
  have hB := apart_bool hm hn hm' hn'
  rw [hm] at h1
  rw [hm'] at h2
  obtain ⟨t1, ht1⟩ : ∃ t, t = textL k n s := ⟨_, rfl⟩
  obtain ⟨t2, ht2⟩ : ∃ t, t = textL k' n' s' := ⟨_, rfl⟩
  rw [← ht1] at x1 hB
  rw [← ht2] at x2 hB
  have hB := Lib.hid hB
  clear he hm hm' hk hn hk' hn' ht1 ht2
  go_enter Tryd.func4, Tryd.ntmps4
  go_upto_region 3 with (first
      | (go_at_call 8; (with_reducible refine (h1 _).mono ?_); rintro e w1 ⟨rfl, o1⟩; replace HO := Lib.hid (HO.out.trans o1); replace HE := Lib.hid (HE.out.old o1); replace HA := Lib.hid (HA.out.old o1); replace HB := Lib.hid (HB.out.old o1); have c0 := HB.out.c0; have c1 := HB.out.c1; have c2 := HB.out.c2)
      | (go_at_call 8; (with_reducible refine (h2 _).mono ?_); rintro e w2 ⟨rfl, o2⟩; replace HO := Lib.hid (HO.out.trans o2); replace HE := Lib.hid (HE.out.old o2); replace HA := Lib.hid (HA.out.old o2); replace HB := Lib.hid (HB.out.old o2)))
  clear h1 h2
  obtain ⟨B, hBB⟩ : ∃ B, B = (t1 == t2) := ⟨_, rfl⟩
  have hB2 : (k == k' && n == n' && s.toList == s'.toList) = B := by rw [hBB]; exact hB.out.symm
  refine wp_region_inv (spOf [.eq (vl k n s), .eq (.string (st t1)), .eq (vl k' n' s'), .eq (.string (st t2)), .eq (.bool B), .eq (vl k n s), .eq (vl k' n' s'), .eq (.bool B), .eq (.bool true), .eq (.bool true), .eq (.bool true), .eq (.bool true), .eq (.bool true)]) (by kernel_rfl) (by kernel_rfl) (spOf_mono _) ?_ ?_
  · refine ⟨?_, ?_, ?_, ?_, ?_, ?_, ?_, ?_, ?_, ?_, ?_, ?_, ?_, trivial⟩
    · refine step_plain rfl fun ρ wr ho hr hd => ?_
      exact does_load rfl ((hr.1 2 rfl).trans rfl) (HA.out.old ho) ⟨rfl, Old.refl _⟩
    · refine step_plain rfl fun ρ wr ho hr hd => ?_
      obtain ⟨d0, _⟩ := hd
      have d0 : ρ (.tmp 14) = vl k n s := d0 rfl
      exact does_call1 rfl (hr.2.2.2 _) d0 rfl ((x1 wr (HE.out.old ho)).mono fun e w' h => ⟨_, h.1, rfl, h.2⟩)
    · refine step_plain rfl fun ρ wr ho hr hd => ?_
      exact does_load rfl ((hr.1 3 rfl).trans rfl) (HB.out.old ho) ⟨rfl, Old.refl _⟩
    · refine step_plain rfl fun ρ wr ho hr hd => ?_
      obtain ⟨d2, _, _⟩ := hd
      have d2 : ρ (.tmp 16) = vl k' n' s' := d2 rfl
      exact does_call1 rfl (hr.2.2.2 _) d2 rfl ((x2 wr (HE.out.old ho)).mono fun e w' h => ⟨_, h.1, rfl, h.2⟩)
    · refine step_plain rfl fun ρ wr ho hr hd => ?_
      obtain ⟨d1, d3, _⟩ := hd
      have d1 : ρ (.tmp 15) = .string (st t1) := d1 rfl
      have d3 : ρ (.tmp 17) = .string (st t2) := d3 rfl
      exact does_eqs rfl d1 d3 (by rw [← hBB]; exact ⟨rfl, Old.refl _⟩)
    · refine step_plain rfl fun ρ wr ho hr hd => ?_
      exact does_load rfl ((hr.1 2 rfl).trans rfl) (HA.out.old ho) ⟨rfl, Old.refl _⟩
    · refine step_plain rfl fun ρ wr ho hr hd => ?_
      exact does_load rfl ((hr.1 3 rfl).trans rfl) (HB.out.old ho) ⟨rfl, Old.refl _⟩
    · refine step_plain rfl fun ρ wr ho hr hd => ?_
      obtain ⟨d5, d6, _⟩ := hd
      have d5 : ρ (.tmp 19) = vl k n s := d5 rfl
      have d6 : ρ (.tmp 20) = vl k' n' s' := d6 rfl
      exact does_eql rfl d5 d6 (by rw [hB2]; exact ⟨rfl, Old.refl _⟩)
    · refine step_plain rfl fun ρ wr ho hr hd => ?_
      obtain ⟨d4, d7, _⟩ := hd
      have d4 : ρ (.tmp 18) = .bool B := d4 rfl
      have d7 : ρ (.tmp 21) = .bool B := d7 rfl
      exact does_eqb rfl d4 d7 ⟨rfl, Old.refl _⟩
    · refine step_plain rfl fun ρ wr ho hr hd => ?_
      obtain ⟨d8, _⟩ := hd
      have d8 : ρ (.tmp 22) = .bool true := d8 rfl
      exact does_move rfl d8 ⟨rfl, Old.refl _⟩
    · refine step_guard rfl fun ρ wr ho hr hd => ?_
      obtain ⟨d9, _⟩ := hd
      have d9 : ρ (.tmp 23) = .bool true := d9 rfl
      exact ⟨d9, does_call0 rfl (hr.2.2.2 _) rfl ((hkn wr (HE.out.old ho)).mono fun e w' h => ⟨_, h.1, rfl, h.2⟩)⟩
    · refine step_plain rfl fun ρ wr ho hr hd => ?_
      obtain ⟨d9, d10, _⟩ := hd
      have d9 : ρ (.tmp 23) = .bool true := d9 rfl
      have d10 : ρ (.tmp 24) = .bool true := d10 rfl
      exact does_pick rfl d9 d10 ⟨rfl, Old.refl _⟩
    · refine step_plain rfl fun ρ wr ho hr hd => ?_
      obtain ⟨d11, _⟩ := hd
      have d11 : ρ (.tmp 25) = .bool true := d11 rfl
      exact does_assign rfl d11 ⟨rfl, Old.refl _⟩
  · intro a' w' ho hst hl
    obtain ⟨_, _, _, _, _, _, _, _, _, _, _, _, e4, _⟩ := hl
    have e4 : a'.eval (.tmp 4) = .bool true := e4
    rw [act_fresh hst [false, false, false, false, true, false, false, false, false, false, false, false, false, false, true, true, true, true, true, true, true, true, true, true, true, true] (by kernel_rfl) (by kernel_rfl)]
    simp only [fresh, e4]
    go_wp2_with fail
    go_ret
    exact ⟨rfl, HO.out.trans ho⟩
theorem apart_any (k n k' n' : Int) (s s' : ByteArray) (hk : 0 ≤ k ∧ k ≤ 255) (hn : I64 n) (hk' : 0 ≤ k' ∧ k' ≤ 255) (hn' : I64 n') (w : World) (he : Env w) : Calls Tryd.prog 4 #[vl k n s, vl k' n' s'] w fun e w' => e = .returned (.bool true) ∧ Old w w' := by
  by_cases h : mayB k n s = true ∧ mayB k' n' s' = true
  · exact apart_may k n k' n' s s' hk hn hk' hn' h.1 h.2 w he
  · exact apart_not k n k' n' s s' w he h
end Go.Proofs.YtmoomdikgfeifaaDoor
