/- Layer memory: calls of a memory that is not there; the law's known facts; MemoryNone. -/
import Derived.Test.YtfhbnkdibhmmcaaQH
namespace Go.Proofs.Ytfhbnkdibhmmcaa
open Go.ChangeShapes Go.WideShapes Go.ChangeAt Go.RowKit Go.Lib
set_option linter.unusedVariables false
set_option linter.unusedSimpArgs false
set_option maxRecDepth 100000

theorem find_nil (t : Int) (u : Value) (w : World) : Calls Try.prog 21 #[.pointer none, .int .i64 t, u] w fun e w' => e = .returned (.int .i64 0) ∧ w = w' := by
  go_enter Try.func21, Try.ntmps21
  go_wp2_with (go_at_call 29; (with_reducible refine (made_nil _).mono ?_); rintro e w1 ⟨rfl, rfl⟩)
  go_ret
  exact ⟨rfl, rfl⟩
theorem len_nil (w : World) : Calls Try.prog 24 #[.pointer none] w fun e w' => e = .returned (.int .i64 0) ∧ w = w' := by
  go_enter Try.func24, Try.ntmps24
  go_wp2_with (go_at_call 29; (with_reducible refine (made_nil _).mono ?_); rintro e w1 ⟨rfl, rfl⟩)
  go_ret
  exact ⟨rfl, rfl⟩
theorem last_nil (w : World) : Calls Try.prog 25 #[.pointer none] w fun e w' => e = .returned (.int .i64 0) ∧ w = w' := by
  go_enter Try.func25, Try.ntmps25
  go_wp2_with (go_at_call 29; (with_reducible refine (made_nil _).mono ?_); rintro e w1 ⟨rfl, rfl⟩)
  go_ret
  exact ⟨rfl, rfl⟩
theorem facts_nil (w : World) : Calls Try.prog 20 #[.pointer none] w fun e w' => e = .returned (.slice none 0 0) ∧ w = w' := by
  go_enter Try.func20, Try.ntmps20
  go_wp2_with (go_at_call 29; (with_reducible refine (made_nil _).mono ?_); rintro e w1 ⟨rfl, rfl⟩)
  go_ret
  exact ⟨rfl, rfl⟩
theorem copy_nil (w : World) : Calls Try.prog 16 #[.pointer none] w fun e w' => e = .returned (.pointer none) ∧ w = w' := by
  go_enter Try.func16, Try.ntmps16
  go_wp2_with (go_at_call 29; (with_reducible refine (made_nil _).mono ?_); rintro e w1 ⟨rfl, rfl⟩)
  go_ret
  exact ⟨rfl, rfl⟩
theorem remove_nil (id : Int) (w : World) : Calls Try.prog 13 #[.pointer none, .int .i64 id] w fun e w' => e = .returned (.tuple #[fv 0 0 (.slice none 0 0), .bool false]) ∧ Old w w' := by
  have HO := Lib.hid ((Old.refl w).alloc (.cells #[.int .i64 0, .int .i64 0, .slice none 0 0] 38))
  have HB := Lib.hid (Fb.new w (.int .i64 0) (.int .i64 0) (.slice none 0 0))
  go_enter Try.func13, Try.ntmps13
  go_wp2_with (go_at_call 18; (with_reducible refine (get_nil _ id).mono ?_); rintro e w2 ⟨rfl, ho⟩; have HO2 := Lib.hid ((HO.out.trans ho).alloc (.cells #[.int .i64 0, .int .i64 0, .slice none 0 0] 38)); have HB2 := Lib.hid ((HB.out.old ho).alloc (.cells #[.int .i64 0, .int .i64 0, .slice none 0 0] 38)); clear ho; have d0 := HB2.out.c0; have d1 := HB2.out.c1; have d2 := HB2.out.c2; have g0 := HB2.out.f 0; have g1 := HB2.out.f 1; have g2 := HB2.out.f 2)
  exact bodyPost_ret (ret_fact2 rfl _ _ w.heap.size rfl rfl (HB2.out.set _ _ _)) rfl ⟨rfl, old_set3 HO2.out (Nat.le_refl _) _ _ _⟩

/-- A slice of one value. -/
theorem one_vr {W : World} {b : Nat} {k n : Int} {s : ByteArray} (h : W.heap[b]? = some (.cells #[.int .u8 k, .int .i64 n, .string s] 45 (0, 0))) (hs : s.size ≤ maxLen) : VR W (.slice (some ⟨b, 0, none⟩) 1 1) [⟨k, n, s⟩] := by
  have l0 := blk_lt h
  refine ⟨_, _, rfl, Nat.le_refl _, by unfold maxLen; omega, fun j x hj => ?_⟩
  rcases j with _ | j
  · simp at hj
    subst hj
    exact ⟨_, 0, rfl, l0, by simp [World.cell?, h], by simp [World.cell?, h], by simp [World.cell?, h], hs⟩
  · simp at hj
theorem Mem.lt {w : World} {p b lim last : Nat} {L : List Ft} (h : Mem w p b lim last L) : p < w.heap.size ∧ b < w.heap.size := by
  obtain ⟨E, _, h⟩ := h
  exact ⟨blk_lt h.obj, h.own.lt⟩

def s1 : List Vl := [⟨1, 1, ⟨#[]⟩⟩]
theorem VR.chgM {w w' : World} {p b lim last : Nat} {L : List Ft} {v : Value} {l : List Vl} (h : VR w v l) (hm : Mem w p b lim last L) (hc : Chg (fun k => k = p ∨ k = b) w w') : VR w' v l := h.chg hc (fun k o c e => hm.noU8 k o c e)
theorem chgB {b : Nat} {w w' : World} (p : Nat) (h : Chg (· = b) w w') : Chg (fun k => k = p ∨ k = b) w w' := h.mono (fun k e => Or.inr e)
theorem kn1 {W : World} {p b : Nat} {u : Value} (hm : Mem W p b 2 0 []) (hu : VR W u s1) : Calls Try.prog 11 #[.pointer (some ⟨p, 0, none⟩), .int .i64 0, u] W fun e w' => e = .returned (.tuple #[.int .i64 1, .bool true, .int .i64 0]) ∧ Mem w' p b 2 1 [⟨1, 0, s1⟩] ∧ Chg (fun k => k = p ∨ k = b) W w' :=
  add_new hm 0 u s1 hu (by decide) (by decide) (by decide) (by decide)
theorem kn2 {W : World} {p b : Nat} {u : Value} (hm : Mem W p b 2 1 [⟨1, 0, s1⟩]) (hu : VR W u s1) : Calls Try.prog 11 #[.pointer (some ⟨p, 0, none⟩), .int .i64 0, u] W fun e w' => e = .returned (.tuple #[.int .i64 1, .bool false, .int .i64 0]) ∧ Old W w' :=
  add_old hm 0 u s1 hu (by decide)
theorem kn3 {W : World} {p b : Nat} (hm : Mem W p b 2 1 [⟨1, 0, s1⟩]) : Calls Try.prog 13 #[.pointer (some ⟨p, 0, none⟩), .int .i64 1] W fun e w' => (∃ v, e = .returned (.tuple #[fv 1 0 v, .bool true]) ∧ w'.ownsRow W.heap.size 45 3 v 1 (vcells s1)) ∧ Mem w' p b 2 1 [] ∧ Chg (fun k => k = p ∨ k = b) W w' := by
  refine (remove_any hm 1 (by decide)).mono ?_
  rintro e w' ⟨⟨u, rfl, v, rfl, hv, _⟩, h2, h3⟩
  exact ⟨⟨v, rfl, hv⟩, h2, chgB p h3⟩
theorem kn4 {W : World} {p b : Nat} {u : Value} (hm : Mem W p b 2 1 []) (hu : VR W u s1) : Calls Try.prog 11 #[.pointer (some ⟨p, 0, none⟩), .int .i64 0, u] W fun e w' => e = .returned (.tuple #[.int .i64 2, .bool true, .int .i64 0]) ∧ Mem w' p b 2 2 [⟨2, 0, s1⟩] ∧ Chg (fun k => k = p ∨ k = b) W w' :=
  add_new hm 0 u s1 hu (by decide) (by decide) (by decide) (by decide)
theorem known_any (w : World) : Calls Try.prog 9 #[] w fun e w' => e = .returned (.bool true) ∧ Old w w' := by
  have hn : Calls Try.prog 10 #[.int .i64 2] w fun e w' => e = .returned (.tuple #[.pointer (some ⟨w.heap.size + 1, 0, none⟩), .int .i64 0]) ∧ Mem w' (w.heap.size + 1) w.heap.size 2 0 [] ∧ Old w w' := new_any 2 (by omega) (by omega) w
  have HW := Lib.hid (by omega : ∀ k, (k = w.heap.size + 1 ∨ k = w.heap.size) → w.heap.size ≤ k)
  go_enter Try.func9, Try.ntmps9
  go_wp2_with (first
    | (go_at_call 10; (with_reducible refine hn.mono ?_); rintro e w1 ⟨rfl, hm, ho⟩; have M1 := Lib.hid (hm.old ((Old.refl _).alloc (.cells #[.int .u8 1, .int .i64 1, .string ⟨#[]⟩] 45))); have HO1 := Lib.hid (ho.alloc (.cells #[.int .u8 1, .int .i64 1, .string ⟨#[]⟩] 45)); clear hm ho; have V1 := Lib.hid (one_vr (MapKept.heap_alloc w1 (.cells #[.int .u8 1, .int .i64 1, .string ⟨#[]⟩] 45)).1 (Nat.zero_le _)))
    | (go_at_call 11; first
      | ((with_reducible refine (kn1 M1.out V1.out).mono ?_); rintro e w2 ⟨rfl, hm, hc⟩; have M2 := Lib.hid hm; have V2 := Lib.hid (V1.out.chgM M1.out hc); have HO2 := Lib.hid (hc.old HO1.out HW.out); clear hm hc M1)
      | ((with_reducible refine (kn2 M2.out V2.out).mono ?_); rintro e w3 ⟨rfl, ho⟩; have M3 := Lib.hid (M2.out.old ho); have V3 := Lib.hid (V2.out.old ho); have HO3 := Lib.hid (HO2.out.trans ho); clear ho M2)
      | ((with_reducible refine (kn4 M4.out V4.out).mono ?_); rintro e w5 ⟨rfl, hm, hc⟩; have HO5 := Lib.hid (hc.old HO4.out HW.out); clear hm hc))
    | (go_at_call 13; (with_reducible refine (kn3 M3.out).mono ?_); rintro e w4 ⟨⟨v4, rfl, hv⟩, hm, hc⟩; obtain ⟨oa4, c4, rfl⟩ := own_shape hv; have M4 := Lib.hid (hm.old ((Old.refl _).alloc (.cells #[.int .i64 1, .int .i64 0, .slice oa4 1 c4] 38))); have V4 := Lib.hid ((V3.out.chgM M3.out hc).old ((Old.refl _).alloc (.cells #[.int .i64 1, .int .i64 0, .slice oa4 1 c4] 38))); have HO4 := Lib.hid ((hc.old HO3.out HW.out).alloc (.cells #[.int .i64 1, .int .i64 0, .slice oa4 1 c4] 38)); clear hm hc hv M3))
  go_ret
  exact ⟨rfl, HO5.out⟩

/-- MemoryNone. -/
theorem none_any (t : Int) (u : Value) (s : List Vl) (w : World) (hs : VR w u s) : Calls Try.prog 5 #[.int .i64 t, u] w fun e w' => e = .returned (.bool true) ∧ Old w w' := by
  obtain ⟨ua, uc, rfl, _⟩ := hs
  go_enter Try.func5, Try.ntmps5
  go_wp2_with (first
    | (go_at_call 11; (with_reducible refine (add_nil _ _ _).mono ?_); rintro e w1 ⟨rfl, rfl⟩)
    | (go_at_call 18; (with_reducible refine (get_nil _ _).mono ?_); rintro e w2 ⟨rfl, ho⟩; have HO2 := Lib.hid (ho.alloc (.cells #[.int .i64 0, .int .i64 0, .slice none 0 0] 38)); clear ho)
    | (go_at_call 13; (with_reducible refine (remove_nil _ _).mono ?_); rintro e w3 ⟨rfl, ho⟩; have HO3 := Lib.hid ((HO2.out.trans ho).alloc (.cells #[.int .i64 0, .int .i64 0, .slice none 0 0] 38)); clear ho)
    | (go_at_call 21; (with_reducible refine (find_nil _ _ _).mono ?_); rintro e w4 ⟨rfl, rfl⟩)
    | (go_at_call 20; (with_reducible refine (facts_nil _).mono ?_); rintro e w4 ⟨rfl, rfl⟩)
    | (go_at_call 24; (with_reducible refine (len_nil _).mono ?_); rintro e w4 ⟨rfl, rfl⟩)
    | (go_at_call 25; (with_reducible refine (last_nil _).mono ?_); rintro e w4 ⟨rfl, rfl⟩)
    | (go_at_call 16; (with_reducible refine (copy_nil _).mono ?_); rintro e w4 ⟨rfl, rfl⟩)
    | (go_at_call 9; (with_reducible refine (known_any _).mono ?_); rintro e w5 ⟨rfl, ho⟩; have HO5 := Lib.hid (HO3.out.trans ho); clear ho))
  go_ret
  exact ⟨rfl, HO5.out⟩

end Go.Proofs.Ytfhbnkdibhmmcaa
