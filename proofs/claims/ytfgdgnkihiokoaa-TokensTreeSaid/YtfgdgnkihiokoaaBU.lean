/- The laws' known facts. -/
import Derived.Test.YtfgdgnkihiokoaaBT
namespace Go.Proofs.Ytfgdgnkihiokoaa
open Go.ChangeShapes Go.WideShapes Go.ChangeAt Go.RowKit Go.Lib
set_option linter.unusedVariables false
set_option linter.unusedSimpArgs false
set_option maxRecDepth 100000
set_option maxHeartbeats 1000000

/-- An arena of the call's own: all its blocks are new since w. -/
structure My (w W : World) (b : Bs) (A : Nat → Prop) (L : List Tk) (last cap : Nat) : Prop where
  ar : Ar W b A L last cap
  new : ∀ j, A j → w.heap.size ≤ j
  old : Old w W
theorem My.o {w W W' : World} {b : Bs} {A : Nat → Prop} {L : List Tk} {last cap : Nat} (h : My w W b A L last cap) (ho : Old W W') : My w W' b A L last cap := ⟨h.ar.old ho, h.new, h.old.trans ho⟩
theorem My.turn {w W W' : World} {b : Bs} {A : Nat → Prop} {L L' : List Tk} {last last' cap cap' : Nat} (h : My w W b A L last cap) (ht : TurnA W b A L' last' cap' W') : ∃ A', My w W' b A' L' last' cap' := by
  obtain ⟨A', h1, h2⟩ := ht.ar
  obtain ⟨h3, h4⟩ := h2.toOld h.old h.new
  exact ⟨A', h1, h4, h3⟩
theorem new_my (w : World) : Calls Try.prog 8 #[] w fun e w' => ∃ b A, e = .returned (ptr b) ∧ My w w' b A [rootT] 0 4 := by
  refine (new_any w).mono ?_
  rintro e w' ⟨rfl, ⟨A, h1, h2⟩, h3⟩
  exact ⟨_, A, rfl, h1, h2, h3⟩

def T1 : Tk := ⟨1, 0, 1, 7⟩
def T2 : Tk := ⟨2, 1, 2, 0⟩
def T3 : Tk := ⟨3, 2, 3, 9⟩
theorem good1 : Good [rootT, T1] 1 := Good.first.add (p := 0) (n := 1) (f := 7) (by decide) (by omega) (by omega)
theorem good2 : Good [rootT, T1, T2] 2 := good1.add (p := 1) (n := 2) (f := 0) (by decide) (by omega) (by omega)
theorem good3 : Good [rootT, T1, T2, T3] 3 := good2.add (p := 2) (n := 3) (f := 9) (by decide) (by omega) (by omega)
theorem kn1 {w W : World} {b : Bs} {A : Nat → Prop} (h : My w W b A [rootT] 0 4) : Calls Try.prog 12 #[ptr b, .int .i64 0, .int .i64 1, .int .i64 7] W fun e W' => e = .returned (.tuple #[.int .i64 1, .int .i64 0]) ∧ ∃ A', My w W' b A' [rootT, T1] 1 8 :=
  (add_any h.ar Good.first (p := 0) (n := 1) (f := 7) (by decide) (by decide) (by decide) (by decide) (by omega) (by omega) (by omega) (by omega)).mono fun e W' hh => ⟨hh.1, h.turn hh.2⟩
theorem kn2 {w W : World} {b : Bs} {A : Nat → Prop} (h : My w W b A [rootT, T1] 1 8) : Calls Try.prog 12 #[ptr b, .int .i64 1, .int .i64 2, .int .i64 0] W fun e W' => e = .returned (.tuple #[.int .i64 2, .int .i64 0]) ∧ ∃ A', My w W' b A' [rootT, T1, T2] 2 12 :=
  (add_any h.ar good1 (p := 1) (n := 2) (f := 0) (by decide) (by decide) (by decide) (by decide) (by omega) (by omega) (by omega) (by omega)).mono fun e W' hh => ⟨hh.1, h.turn hh.2⟩
theorem kn3 {w W : World} {b : Bs} {A : Nat → Prop} (h : My w W b A [rootT, T1, T2] 2 12) : Calls Try.prog 12 #[ptr b, .int .i64 2, .int .i64 3, .int .i64 9] W fun e W' => e = .returned (.tuple #[.int .i64 3, .int .i64 0]) ∧ ∃ A', My w W' b A' [rootT, T1, T2, T3] 3 16 :=
  (add_any h.ar good2 (p := 2) (n := 3) (f := 9) (by decide) (by decide) (by decide) (by decide) (by omega) (by omega) (by omega) (by omega)).mono fun e W' hh => ⟨hh.1, h.turn hh.2⟩
theorem kn4 {w W : World} {b : Bs} {A : Nat → Prop} (h : My w W b A [rootT, T1, T2, T3] 3 16) : Calls Try.prog 12 #[ptr b, .int .i64 9, .int .i64 1, .int .i64 1] W fun e W' => e = .returned (.tuple #[.int .i64 0, .int .i64 5]) ∧ My w W' b A [rootT, T1, T2, T3] 3 16 :=
  (add_none h.ar good3.up (p := 9) (by decide) 1 1 (by decide)).mono fun e W' hh => ⟨hh.1, h.o hh.2⟩
theorem kn5 {w W : World} {b : Bs} {A : Nat → Prop} (h : My w W b A [rootT, T1, T2, T3] 3 16) : Calls Try.prog 14 #[ptr b, .int .i64 3] W fun e W' => ∃ v, e = .returned v ∧ Ints W' W.heap.size v [7, 9] ∧ Old W W' :=
  (tuple_any h.ar good3 (by omega) (by decide) (i := 3) (by decide)).mono fun e W' hh => hh
theorem kn6 {w W : World} {b : Bs} {A : Nat → Prop} (h : My w W b A [rootT, T1, T2, T3] 3 16) : Calls Try.prog 10 #[ptr b, .int .i64 2] W fun e W' => ∃ v, e = .returned v ∧ Toks W' W.heap.size v [T2, T3] ∧ (∃ A', My w W' b A' [rootT, T1] 3 16) ∧ Chg A W W' :=
  (remove_any h.ar good3 (by omega) (by decide) (by omega) (t := T2) (by decide) (by decide)).mono fun e W' hh => by
    obtain ⟨v, h1, h2, h3⟩ := hh
    exact ⟨v, h1, h2, h.turn h3, h3.2⟩

theorem kn7 {w W : World} {b : Bs} {A : Nat → Prop} (h : My w W b A [rootT, T1] 3 16) : Calls Try.prog 9 #[ptr b] W fun e W' => e = .returned (.int .i64 2) ∧ W = W' := h.ar.len
theorem ir_two {W : World} {g : Nat} {x y : Int} {t : TypeId} (h : W.heap[g]? = some (.cells #[.int .i64 x, .int .i64 y] t (0, 0))) : IR W (.slice (some ⟨g, 0, none⟩) 2 2) [x, y] := by
  refine ⟨_, _, rfl, fun j z hj => ⟨g, 0, rfl, blk_lt h, ?_⟩⟩
  rcases j with _ | _ | j
  · simp at hj; subst hj; simp [World.cell?, h]
  · simp at hj; subst hj; simp [World.cell?, h]
  · simp at hj
theorem known_any (w : World) : Calls Try.prog 7 #[] w fun e w' => e = .returned (.bool true) ∧ Old w w' := by
  have hn := new_my w
  go_enter Try.func7, Try.ntmps7
  go_wp2_with (first
    | (go_at_call 8; (with_reducible refine hn.mono ?_); rintro e w1 ⟨b, A1, rfl, h⟩; have M1 := Lib.hid h; clear h)
    | (go_at_call 12; first
      | ((with_reducible refine (kn1 M1.out).mono ?_); rintro e w2 ⟨rfl, A2, h⟩; have M2 := Lib.hid h; clear h M1)
      | ((with_reducible refine (kn2 M2.out).mono ?_); rintro e w3 ⟨rfl, A3, h⟩; have M3 := Lib.hid h; clear h M2)
      | ((with_reducible refine (kn3 M3.out).mono ?_); rintro e w4 ⟨rfl, A4, h⟩; have M4 := Lib.hid h; clear h M3)
      | ((with_reducible refine (kn4 M4.out).mono ?_); rintro e w5 ⟨rfl, h⟩; have M5 := Lib.hid h; clear h M4))
    | (go_at_call 14; (with_reducible refine (kn5 M5.out).mono ?_); rintro e w6 ⟨v6, rfl, hi, ho⟩; obtain ⟨oa6, cp6, rfl⟩ := hi.shape; have R6 := Lib.hid hi; have M6 := Lib.hid (M5.out.o ho); have HL6 := Lib.hid (fun j (hj : A4 j) => M5.out.ar.lt hj); clear hi ho M5)
    | (go_at_call 10; (with_reducible refine (kn6 M6.out).mono ?_); rintro e w7 ⟨v7, rfl, hr, ⟨A7, h⟩, hc⟩; obtain ⟨oa7, cp7, rfl⟩ := own_shape hr; have M7 := Lib.hid h; have R7 := Lib.hid hr; obtain ⟨g7, e7, _, _, _, c7⟩ := (Toks.cell hr (i := 1) (t := T3) rfl); subst e7; clear c7; have I7 : Hid (IR w7 (.slice oa6 2 cp6) [7, 9]) := Lib.hid (Ints.ir (row_chg R6.out hc (fun k hk e => by have h1 := row_low R6.out k hk; have h2 := HL6.out k e; omega))); clear h hr hc M6)
    | (go_at_call 15; (with_reducible refine (ints_any (I7.out.old ((Old.refl _).alloc _)) (ir_two (MapKept.heap_alloc w7 (.cells #[.int .i64 7, .int .i64 9] 3)).1) (by decide) (by decide)).mono ?_); rintro e w8 ⟨rfl, ho⟩; have O8 := Lib.hid (((Old.refl w7).alloc (.cells #[.int .i64 7, .int .i64 9] 3)).trans ho); have M8 := Lib.hid (M7.out.o O8.out); obtain ⟨g8, e8, _, _, _, c8⟩ := (Toks.cell (R7.out.old O8.out) (i := 1) (t := T3) rfl); obtain rfl : g7 = g8 := (by simpa using e8); have c9 : w8.cell? ⟨g7, 4, none⟩ = some (.int .i64 3) := c8; clear ho c8 e8 M7)
    | (go_at_call 9; (with_reducible refine (kn7 M8.out).mono ?_); rintro e w9 ⟨rfl, rfl⟩))
  go_ret
  exact ⟨rfl, M8.out.old⟩

/-- TokensNone. -/
theorem none_any (n : Int) (w : World) : Calls Try.prog 4 #[.int .i64 n] w fun e w' => e = .returned (.bool true) ∧ Old w w' := by
  go_enter Try.func4, Try.ntmps4
  go_wp2_with (first
    | (go_at_call 12; (with_reducible refine (add_nil _ _ _ _).mono ?_); rintro e w1 ⟨rfl, rfl⟩)
    | (go_at_call 11; (with_reducible refine (get_nil _ _).mono ?_); rintro e w2 ⟨rfl, ho⟩; have O2 := Lib.hid (ho.alloc (.cells #[.int .i64 0, .int .i64 0, .int .i64 0, .int .i64 0] 32)); clear ho)
    | (go_at_call 10; (with_reducible refine (remove_nil _ _).mono ?_); rintro e w3 ⟨rfl, ho⟩; have O3 := Lib.hid (O2.out.trans ho); clear ho)
    | (go_at_call 13; (with_reducible refine (lists_nil 13 (Or.inl rfl) _ _).mono ?_); rintro e w4 ⟨rfl, rfl⟩)
    | (go_at_call 16; (with_reducible refine (lists_nil 16 (Or.inr (Or.inl rfl)) _ _).mono ?_); rintro e w4 ⟨rfl, rfl⟩)
    | (go_at_call 17; (with_reducible refine (lists_nil 17 (Or.inr (Or.inr rfl)) _ _).mono ?_); rintro e w4 ⟨rfl, rfl⟩)
    | (go_at_call 14; (with_reducible refine (tuple_nil _ _).mono ?_); rintro e w4 ⟨rfl, rfl⟩)
    | (go_at_call 9; (with_reducible refine (len_nil _).mono ?_); rintro e w4 ⟨rfl, rfl⟩)
    | (go_at_call 7; (with_reducible refine (known_any _).mono ?_); rintro e w5 ⟨rfl, ho⟩; have O5 := Lib.hid (O3.out.trans ho); clear ho))
  go_ret
  exact ⟨rfl, O5.out⟩
end Go.Proofs.Ytfgdgnkihiokoaa
