/- Layer lexer: the sign's closure; which closure a kind has; how far the word goes. -/
import Derived.Test.YtgmjpcaennmgoaaGreatDoorTD
import Derived.Shelf.Abstract
namespace Go.Proofs.YtgmjpcaennmgoaaGreatDoor
open Go.ChangeShapes Go.WideShapes Go.ChangeAt Go.RowKit Go.Lib
set_option linter.unusedVariables false
set_option linter.unusedSimpArgs false
set_option maxRecDepth 100000

theorem asks_sign (s : ByteArray) (x f b j : Nat) (L B : Int) (K : World → Prop) (hs : s.size ≤ 900000) (hj : j < s.size) :
    Asks 92 #[.pointer (some ⟨f, 0, none⟩), .pointer (some ⟨x, 0, none⟩)] s (sgnS (pair (s.data.toList.drop j))) (fun i (a : Bool) W => (Rb W x b s (j : Int) L B ∧ Boxed W f 3 (.int .i64 (j : Int)) ∧ a = decide (i = j + 1)) ∧ K W) := by
  rintro i a A c r ⟨⟨hR, hF, rfl⟩, hK⟩ hd hi
  have h1 := pair_any A b s (j : Int) L B hR.rd j (by omega)
  obtain ⟨two, h2⟩ : ∃ two, two = pair (s.data.toList.drop j) := ⟨_, rfl⟩
  rw [← h2] at h1 ⊢
  clear h2
  have b0 := hR.box.cell
  have g0 := hR.box.frozen
  have p0 := hF.cell
  have q0 := hF.frozen
  have HR := Lib.hid hR
  have HF := Lib.hid hF
  have HK := Lib.hid hK
  have hi9 : i ≤ 900000 := by omega
  have hj9 : j ≤ 900000 := by omega
  clear hR hF hK hd
  by_cases hij : i = j + 1
  · subst hij
    rw [decide_eq_true rfl]
    cases two
    all_goals
      go_enter Tryz.func92, Tryz.ntmps92
      go_wp2_with (go_at_call 87; (with_reducible refine h1.mono ?_); rintro e w' ⟨rfl, rfl⟩)
      go_ret
      first
        | exact ⟨rfl, ⟨HR.out, HF.out, (decide_eq_true rfl).symm⟩, HK.out⟩
        | exact ⟨rfl, ⟨HR.out, HF.out, (decide_eq_false (by omega)).symm⟩, HK.out⟩
  · rw [decide_eq_false hij]
    cases two
    all_goals
      go_enter Tryz.func92, Tryz.ntmps92
      go_wp2_with (go_at_call 87; (with_reducible refine h1.mono ?_); rintro e w' ⟨rfl, rfl⟩)
      go_ret
      exact ⟨rfl, ⟨HR.out, HF.out, (decide_eq_false hij).symm⟩, HK.out⟩

/-- A closure that says how far a word goes. -/
def Goes (w W : World) (b : Nat) (s : ByteArray) (j : Nat) (L B : Int) (k : Nat) (v : Value) : Prop :=
  ∃ (σ : Type) (step : σ → List UInt8 → Option σ) (a : σ) (C : Nat → σ → World → Prop) (cf : Nat) (cb : Array Value),
    v = .func (.func cf) #[] cb ∧ (∀ args W, (callFunc cf args).run Tryz.prog W = .ok (.enter cf args) W) ∧ Asks cf cb s step C ∧ (∀ i a A, C i a A → Rdr A b s (j : Int) L B) ∧
    C (j + 1) a W ∧ (∀ i a A, C i a A → Old w A) ∧ goL step a (s.data.toList.drop (j + 1)) = endL k (s.data.toList.drop j)
theorem goes_reach {w W : World} {b : Nat} {s : ByteArray} {j : Nat} {L B : Int} {k : Nat} {v : Value} (h : Goes w W b s j L B k v) (hs : s.size ≤ 900000) (hj : j < s.size) :
    Calls Tryz.prog 57 #[.pointer (some ⟨b, 0, none⟩), v] W fun e w' => e = .returned (.int .i64 ((j + 1 + endL k (s.data.toList.drop j) : Nat) : Int)) ∧ Old w w' := by
  obtain ⟨σ, step, a, C, cf, cb, rfl, hen, hask, hR, h0, hO, he⟩ := h
  rw [← he]
  refine (reach_any cf cb s step C b j L B a hen (by omega) hj hR hask W h0).mono ?_
  rintro e w' ⟨rfl, i, a', hC⟩
  exact ⟨rfl, hO _ _ _ hC⟩

theorem box_new (w : World) (t : TypeId) (v : Value) : Boxed (w.alloc (.cells #[v] t)) w.heap.size t v := Boxed.new w t v
theorem Rb.new {w : World} {b : Nat} {s : ByteArray} {j L B : Int} (h : Rdr w b s j L B) : Rb (w.alloc (.cells #[.pointer (some ⟨b, 0, none⟩)] 88)) w.heap.size b s j L B :=
  ⟨Boxed.new w 88 _, h.old ((Old.refl w).alloc _)⟩
theorem Rb.old {w w' : World} {x b : Nat} {s : ByteArray} {j L B : Int} (h : Rb w x b s j L B) (ho : Old w w') : Rb w' x b s j L B := ⟨(ho.block x (blk_lt h.box)).trans h.box, h.rd.old ho⟩
theorem Boxed.old {w w' : World} {x : Nat} {t : TypeId} {v : Value} (h : Boxed w x t v) (ho : Old w w') : Boxed w' x t v := (ho.block x (blk_lt h)).trans h

theorem drop_tail {l : List UInt8} {j : Nat} (h : j < l.length) : (l.drop j).tail = l.drop (j + 1) := by
  rw [List.drop_eq_getElem_cons h]; rfl

theorem old_poke {W0 W : World} {p : Nat} (h : Old W0 W) (hp : W0.heap.size ≤ p) (u : Value) : Old W0 (W.setCell ⟨p, 0, none⟩ u) := h.setCell hp u

theorem num_goes (w W0 : World) (b j : Nat) (s : ByteArray) (L B : Int) (hr : Rdr w b s (j : Int) L B) (ho : Old W0 w) (hs : s.size ≤ 900000) (hj : j < s.size) :
    Calls Tryz.prog 90 #[.pointer (some ⟨b, 0, none⟩)] w fun e w' => ∃ v, e = .returned v ∧ Goes W0 w' b s j L B 4 v := by
  have HR := Lib.hid hr
  have HO := Lib.hid ho
  have hb := Boxed.new (w.alloc (.cells #[.pointer (some ⟨b, 0, none⟩)] 88)) 4 (.bool false)
  rw [sz_alloc] at hb
  have HB := Lib.hid hb
  have HP := Lib.hid ((Rb.new hr).old ((Old.refl _).alloc (.cells #[.bool false] 4)))
  have HW := Lib.hid ((ho.alloc (.cells #[.pointer (some ⟨b, 0, none⟩)] 88)).alloc (.cells #[.bool false] 4))
  clear hb
  have HZ := Lib.hid ho.size
  clear hr ho
  go_enter Tryz.func90, Tryz.ntmps90
  go_wp2
  go_ret
  refine ⟨_, rfl, Bool, numS, false, _, 112, _, rfl, enters_of Tryz.func112 (by kernel_rfl) rfl, asks_num s w.heap.size (w.heap.size + 1) b (j : Int) L B (Old W0) hs ?_, ?_, ?_, ?_, ?_⟩
  · intro W v hW hb u
    exact old_poke hW (by have := HZ.out; omega) u
  · intro i a A h
    exact h.1.1.rd
  · exact ⟨⟨HP.out, HB.out⟩, HW.out⟩
  · intro i a A h
    exact h.2
  · rw [← drop_tail (by rw [Array.length_toList]; exact hj)]
    rfl
theorem str_goes (w W0 : World) (b j : Nat) (s : ByteArray) (L B : Int) (hr : Rdr w b s (j : Int) L B) (ho : Old W0 w) (hs : s.size ≤ 900000) (hj : j < s.size) :
    Calls Tryz.prog 91 #[.pointer (some ⟨b, 0, none⟩)] w fun e w' => ∃ v, e = .returned v ∧ Goes W0 w' b s j L B 5 v := by
  have HZ := Lib.hid ho.size
  obtain ⟨w1, hw1⟩ : ∃ w1, w1 = w.alloc (.cells #[.pointer (some ⟨b, 0, none⟩)] 88) := ⟨_, rfl⟩
  have hz1 : w1.heap.size = w.heap.size + 1 := by rw [hw1, sz_alloc]
  have hp1 : Rb w1 w.heap.size b s (j : Int) L B := by rw [hw1]; exact Rb.new hr
  have ho1 : Old W0 w1 := by rw [hw1]; exact ho.alloc _
  have hb1 := Boxed.new w1 4 (.bool false)
  have hb2 := Boxed.new (w1.alloc (.cells #[.bool false] 4)) 4 (.bool false)
  rw [hz1] at hb1
  rw [sz_alloc, hz1] at hb2
  replace hb1 := Boxed.old hb1 ((Old.refl _).alloc (.cells #[.bool false] 4))
  have hp2 := hp1.old (((Old.refl w1).alloc (.cells #[.bool false] 4)).alloc (.cells #[.bool false] 4))
  have ho2 := (ho1.alloc (.cells #[.bool false] 4)).alloc (.cells #[.bool false] 4)
  have hne : w.heap.size + 1 ≠ w.heap.size + 1 + 1 := by omega
  have HP := Lib.hid hp2
  have HB1 := Lib.hid hb1
  have HB2 := Lib.hid hb2
  have HW := Lib.hid ho2
  subst hw1
  clear hr ho hz1 hp1 ho1 hb1 hb2 hp2 ho2
  go_enter Tryz.func91, Tryz.ntmps91
  go_wp2
  go_ret
  refine ⟨_, rfl, Bool × Bool, strS, (false, false), _, 113, _, rfl, enters_of Tryz.func113 (by kernel_rfl) rfl, asks_str s w.heap.size (w.heap.size + 1) (w.heap.size + 1 + 1) b (j : Int) L B (Old W0) hs hne ?_, ?_, ?_, ?_, ?_⟩
  · intro W r v hW hr hb u
    exact old_poke hW (by have := HZ.out; rcases hr with rfl | rfl <;> omega) u
  · intro i a A h
    exact h.1.1.rd
  · exact ⟨⟨HP.out, HB1.out, HB2.out⟩, HW.out⟩
  · intro i a A h
    exact h.2
  · rw [← drop_tail (by rw [Array.length_toList]; exact hj)]
    rfl
end Go.Proofs.YtgmjpcaennmgoaaGreatDoor
