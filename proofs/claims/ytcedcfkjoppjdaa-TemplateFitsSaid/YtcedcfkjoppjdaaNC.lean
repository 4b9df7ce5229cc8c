/- Layer template: names are asked. -/
import Derived.Test.YtcedcfkjoppjdaaNB
namespace Go.Proofs.Ytcedcfkjoppjdaa
open Go.ChangeShapes Go.WideShapes Go.ChangeAt Go.RowKit
set_option linter.unusedVariables false
set_option linter.unusedSimpArgs false
set_option maxRecDepth 100000

/-- A box of one cell. -/
def One (w : World) (b : Nat) (x : Value) (t : TypeId) : Prop := w.heap[b]? = some (.cells #[x] t (0, 0))
theorem One.c0 {w : World} {b : Nat} {x : Value} {t : TypeId} (h : One w b x t) : w.cell? ⟨b, 0, none⟩ = some x := by unfold One at h; simp [World.cell?, h]
theorem One.f {w : World} {b : Nat} {x : Value} {t : TypeId} (h : One w b x t) (o : Nat) : w.frozen? ⟨b, o, none⟩ = false := by unfold One at h; simp [World.frozen?, h]
theorem One.old {w w' : World} {b : Nat} {x : Value} {t : TypeId} (h : One w b x t) (ho : Old w w') : One w' b x t := (ho.block b (blk_lt h)).trans h
theorem One.lt {w : World} {b : Nat} {x : Value} {t : TypeId} (h : One w b x t) : b < w.heap.size := blk_lt h
theorem One.new (w : World) (x : Value) (t : TypeId) : One (w.alloc (.cells #[x] t)) w.heap.size x t := (MapKept.heap_alloc w _).1
theorem KeptIn.old {w w' : World} {B : Nat} (h : KeptIn w B) (ho : Old w w') : KeptIn w' B := (ho.block B (blk_lt h)).trans h
/-- What asks has the words that are kept. -/
def AskIn (w : World) (b : Nat) : Prop := ∃ B, One w b (.map (some B)) 56 ∧ KeptIn w B
theorem AskIn.old {w w' : World} {b : Nat} (h : AskIn w b) (ho : Old w w') : AskIn w' b := by
  obtain ⟨B, h1, h2⟩ := h
  exact ⟨B, h1.old ho, h2.old ho⟩
abbrev askV (b : Nat) : Value := .func (.func 36) #[] #[.pointer (some ⟨b, 0, none⟩)]

theorem asker_any (w : World) : Calls Try.prog 25 #[] w fun e w' => ∃ b, e = .returned (askV b) ∧ AskIn w' b ∧ Old w w' := by
  have hk := fun W => kept_any W
  go_enter Try.func25, Try.ntmps25
  go_wp2_with (go_at_call 35; (with_reducible refine (hk _).mono ?_); rintro e w1 ⟨B, rfl, hK, ho⟩; have HK := Lib.hid hK; have HO := Lib.hid ho; clear hK ho hk)
  go_ret
  exact ⟨_, rfl, ⟨B, One.new _ _ _, HK.out.old ((Old.refl _).alloc _)⟩, HO.out.alloc _⟩

theorem may5 (s : ByteArray) (w : World) : Calls Try.prog 37 #[vl 5 0 s] w fun e w' => e = .returned (.bool (nameB s)) ∧ Old w w' := may_any 5 0 s w

theorem ask_any (s : ByteArray) (b : Nat) (w : World) (h : AskIn w b) : Calls Try.prog 36 #[.string s, .pointer (some ⟨b, 0, none⟩)] w fun e w' => e = .returned (.bool (nmB s)) ∧ Old w w' := by
  obtain ⟨B, h1, h2⟩ := h
  have c0 := h1.c0
  have hl := run_lk s h2
  have hm := fun W => may5 s W
  unfold nmB
  clear h1 h2
  have e : keptB s = keptL.any (fun x => s == x) := rfl
  rw [e]
  clear e
  cases hk : keptL.any (fun x => s == x)
  · rw [hk] at hl
    clear hk
    go_enter Try.func36, Try.ntmps36
    go_wp2_with (go_at_call 37; (with_reducible refine (hm _).mono ?_); rintro e w1 ⟨rfl, ho⟩)
    go_ret
    exact ⟨rb _ _ (by simp), ((Old.refl w).alloc _).trans ho⟩
  · rw [hk] at hl
    clear hk
    go_enter Try.func36, Try.ntmps36
    go_wp2_with (go_at_call 37; (with_reducible refine (hm _).mono ?_); rintro e w1 ⟨rfl, ho⟩)
    go_ret
    exact ⟨rb _ _ (by simp), (Old.refl w).alloc _⟩

theorem nm_any (s : ByteArray) (w : World) : Calls Try.prog 12 #[.string s] w fun e w' => e = .returned (.bool (nmB s)) ∧ Old w w' := by
  have hk := fun W => asker_any W
  have ha := fun b W h => ask_any s b W h
  go_enter Try.func12, Try.ntmps12
  go_wp2_with (first
    | (go_at_call 25; (with_reducible refine (hk _).mono ?_); rintro e w1 ⟨b, rfl, hK, ho⟩; have HK := Lib.hid hK; have HO := Lib.hid ho; clear hK ho hk)
    | (go_at_call 36; (with_reducible refine (ha _ _ HK.out).mono ?_); rintro e w2 ⟨rfl, o2⟩))
  go_ret
  exact ⟨rfl, HO.out.trans o2⟩
end Go.Proofs.Ytcedcfkjoppjdaa
