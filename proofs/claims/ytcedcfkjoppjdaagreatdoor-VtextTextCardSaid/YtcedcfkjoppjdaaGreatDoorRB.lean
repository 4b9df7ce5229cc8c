/- The document's own numbers: digits added. -/
import Derived.Test.YtcedcfkjoppjdaaGreatDoorRA
namespace Go.Proofs.YtcedcfkjoppjdaaGreatDoor
open Go.ChangeShapes Go.WideShapes Go.ChangeAt Go.RowKit
set_option linter.unusedVariables false

def UpR (w : World) (a b : List Int) (k : Nat) (v : Value) (wr : World) : Prop := wr.ownsRow w.heap.size 3 1 v k ((upK a b k).1.map (Value.int .i64)) ∧ Below w.heap.size w wr
theorem UpR.next {w : World} {a b : List Int} {k : Nat} {v v' : Value} {wr w1 : World} {s : Int} {o : Obj} (h : UpR w a b k v wr) (hs : s = (upK a b k).2 + a.getD k 0 + b.getD k 0)
    (hown : w1.ownsRow w.heap.size 3 1 v' (k + 1) ((upK a b k).1.map (Value.int .i64) ++ [.int .i64 (s % 10000)])) (hg : (wr.alloc o).grownBy w1 v.ownBlock) : UpR w a b (k + 1) v' w1 := by
  refine ⟨?_, ?_⟩
  · simp only [upK, List.map_append, List.map_cons, List.map_nil, ← hs]; exact hown
  · have hz := h.2.size
    refine (h.2.alloc hz o).grown hg (by simp; omega) (fun j hj => (h.1.lt j hj).1)

set_option maxHeartbeats 1600000 in
set_option maxRecDepth 100000 in
theorem up_any (a b : List Int) (va vb : Value) (w : World) (ha : Rd w va a) (hb : Rd w vb b) (da : Dg a) (db : Dg b) (la : a.length ≤ 1000) (lb : b.length ≤ 1000) :
    Calls Tryz.prog 75 #[va, vb] w (RetD w (upL a b)) := by
  obtain ⟨oa, ca, rfl, a1, a2, a3⟩ := ha
  obtain ⟨ob, cb, rfl, b1, b2, b3⟩ := hb
  obtain ⟨i0, hi, hz0, hz1, hz2⟩ := info_parts info3
  have HD := Lib.hid (up_done da db)
  have HM := Lib.hid (fun k => up_more da db k)
  have HC := Lib.hid (fun k => upK_m da db k)
  have hN := up_le a b
  have hG := up_ge a b
  have HE : Hid (upL a b = (upK a b (upN a b)).1) := rfl
  generalize hNE : upN a b = N at *
  clear hNE
  have hN' : N ≤ 1001 := by omega
  clear hN
  go_enter Tryz.func75, Tryz.ntmps75
  go_wp2
  go_loopw [5, 6, 7] (fun v m i wr => ∃ (k : Nat) (c : Int), k ≤ N ∧ i = .int .i64 k ∧ m = .int .i64 c ∧ Hid (c = (upK a b k).2) ∧ UpR w a b k v wr) (fun _ _ i _ => N - (intOf i).toNat)
  case atStart => exact ⟨0, 0, Nat.zero_le _, rfl, rfl, rfl, World.ownsRow_nil _ _ _ _, Below.refl _ _⟩
  case round =>
    obtain ⟨k, c, hk, rfl, rfl, HCk, R⟩ := hrel
    have hc := HC.out k
    rw [← HCk.out] at hc
    by_cases hkN : k < N
    · have hm := HM.out k hkN
      rw [← HCk.out] at hm
      obtain ⟨x, hx⟩ : ∃ x, x = a.getD k 0 := ⟨_, rfl⟩
      obtain ⟨y, hy⟩ : ∃ y, y = b.getD k 0 := ⟨_, rfl⟩
      have dx := dg_getD da k
      have dy := dg_getD db k
      rw [← hx] at dx
      rw [← hy] at dy
      have HX := Lib.hid hx
      have HY := Lib.hid hy
      clear hx hy
      by_cases hka : k < a.length
      · clear hm
        obtain ⟨g, rfl, hgl, hcell⟩ := a3 k hka
        have hcx := (R.2.cell (p := ⟨g, k, none⟩) hgl).trans hcell
        rw [← HX.out] at hcx
        clear hcell
        by_cases hkb : k < b.length
        · clear hG
          obtain ⟨g', rfl, hgl', hcell'⟩ := b3 k hkb
          have hcy := (R.2.cell (p := ⟨g', k, none⟩) hgl').trans hcell'
          rw [← HY.out] at hcy
          clear hcell'
          clear a3 b3 HD HM HC
          go_wp2_with (at_builtin; refine wpList_append_own _ rfl _ _ 38 rfl w.heap.size 3 i0 (.int .i64 0) 1 8 Tryz.underlying38 hi hz0 hz1 hz2 rfl (by decide) _ _ _ rfl (R.1.alloc _) ⟨wr.heap.size, 0, none⟩ 1 1 [.int .i64 ((c + x + y) % 10000)] rfl rfl ?c1 ?c2 ?c3 ?c4 ?c5 ?_)
          case c1 =>
            intro j u hj
            match j, hj with
            | 0, hj => simp at hj; subst hj; simp [Addr.add]
          case c2 => intro u hu; simp at hu; subst hu; rfl
          case c3 => unfold maxLen; omega
          case c4 => omega
          case c5 => have := R.2.size; simp; omega
          intro v' w1 hown' hgrow _
          have R' := R.next (s := c + x + y) (by rw [← HCk.out, ← HX.out, ← HY.out]) hown' hgrow
          have HC' : Hid ((c + x + y) / 10000 = (upK a b (k + 1)).2) := by
            have e : c + x + y = (upK a b k).2 + a.getD k 0 + b.getD k 0 := by rw [← HCk.out, ← HX.out, ← HY.out]
            show _ = ((upK a b k).2 + a.getD k 0 + b.getD k 0) / 10000
            rw [← e]
          clear hown' hgrow R HCk HX HY
          go_wp2
          go_roundw
          case rel => exact ⟨k + 1, (c + x + y) / 10000, by omega, by go_num, rfl, HC', R'⟩
          case measure => simp [intOf]; omega
        · have hy0 : y = 0 := HY.out.trans (getD_past (by omega))
          subst hy0
          clear hG
          clear a3 b3 HD HM HC
          go_wp2_with (at_builtin; refine wpList_append_own _ rfl _ _ 38 rfl w.heap.size 3 i0 (.int .i64 0) 1 8 Tryz.underlying38 hi hz0 hz1 hz2 rfl (by decide) _ _ _ rfl (R.1.alloc _) ⟨wr.heap.size, 0, none⟩ 1 1 [.int .i64 ((c + x) % 10000)] rfl rfl ?c1 ?c2 ?c3 ?c4 ?c5 ?_)
          case c1 =>
            intro j u hj
            match j, hj with
            | 0, hj => simp at hj; subst hj; simp [Addr.add]
          case c2 => intro u hu; simp at hu; subst hu; rfl
          case c3 => unfold maxLen; omega
          case c4 => omega
          case c5 => have := R.2.size; simp; omega
          intro v' w1 hown' hgrow _
          have R' := R.next (s := c + x) (by rw [← HCk.out, ← HX.out, ← HY.out]; omega) hown' hgrow
          have HC' : Hid ((c + x) / 10000 = (upK a b (k + 1)).2) := by
            have e : c + x = (upK a b k).2 + a.getD k 0 + b.getD k 0 := by rw [← HCk.out, ← HX.out, ← HY.out]; omega
            show _ = ((upK a b k).2 + a.getD k 0 + b.getD k 0) / 10000
            rw [← e]
          clear hown' hgrow R HCk HX HY
          go_wp2
          go_roundw
          case rel => exact ⟨k + 1, (c + x) / 10000, by omega, by go_num, rfl, HC', R'⟩
          case measure => simp [intOf]; omega
      · have hx0 : x = 0 := HX.out.trans (getD_past (by omega))
        subst hx0
        by_cases hkb : k < b.length
        · clear hm hG
          obtain ⟨g', rfl, hgl', hcell'⟩ := b3 k hkb
          have hcy := (R.2.cell (p := ⟨g', k, none⟩) hgl').trans hcell'
          rw [← HY.out] at hcy
          clear hcell'
          clear a3 b3 HD HM HC
          go_wp2_with (at_builtin; refine wpList_append_own _ rfl _ _ 38 rfl w.heap.size 3 i0 (.int .i64 0) 1 8 Tryz.underlying38 hi hz0 hz1 hz2 rfl (by decide) _ _ _ rfl (R.1.alloc _) ⟨wr.heap.size, 0, none⟩ 1 1 [.int .i64 ((c + y) % 10000)] rfl rfl ?c1 ?c2 ?c3 ?c4 ?c5 ?_)
          case c1 =>
            intro j u hj
            match j, hj with
            | 0, hj => simp at hj; subst hj; simp [Addr.add]
          case c2 => intro u hu; simp at hu; subst hu; rfl
          case c3 => unfold maxLen; omega
          case c4 => omega
          case c5 => have := R.2.size; simp; omega
          intro v' w1 hown' hgrow _
          have R' := R.next (s := c + y) (by rw [← HCk.out, ← HX.out, ← HY.out]; omega) hown' hgrow
          have HC' : Hid ((c + y) / 10000 = (upK a b (k + 1)).2) := by
            have e : c + y = (upK a b k).2 + a.getD k 0 + b.getD k 0 := by rw [← HCk.out, ← HX.out, ← HY.out]; omega
            show _ = ((upK a b k).2 + a.getD k 0 + b.getD k 0) / 10000
            rw [← e]
          clear hown' hgrow R HCk HX HY
          go_wp2
          go_roundw
          case rel => exact ⟨k + 1, (c + y) / 10000, by omega, by go_num, rfl, HC', R'⟩
          case measure => simp [intOf]; omega
        · have hy0 : y = 0 := HY.out.trans (getD_past (by omega))
          subst hy0
          have hc0 : 0 < c := by omega
          clear hm hG
          clear a3 b3 HD HM HC
          go_wp2_with (at_builtin; refine wpList_append_own _ rfl _ _ 38 rfl w.heap.size 3 i0 (.int .i64 0) 1 8 Tryz.underlying38 hi hz0 hz1 hz2 rfl (by decide) _ _ _ rfl (R.1.alloc _) ⟨wr.heap.size, 0, none⟩ 1 1 [.int .i64 ((c) % 10000)] rfl rfl ?c1 ?c2 ?c3 ?c4 ?c5 ?_)
          case c1 =>
            intro j u hj
            match j, hj with
            | 0, hj => simp at hj; subst hj; simp [Addr.add]
          case c2 => intro u hu; simp at hu; subst hu; rfl
          case c3 => unfold maxLen; omega
          case c4 => omega
          case c5 => have := R.2.size; simp; omega
          intro v' w1 hown' hgrow _
          have R' := R.next (s := c) (by rw [← HCk.out, ← HX.out, ← HY.out]; omega) hown' hgrow
          have HC' : Hid ((c) / 10000 = (upK a b (k + 1)).2) := by
            have e : c = (upK a b k).2 + a.getD k 0 + b.getD k 0 := by rw [← HCk.out, ← HX.out, ← HY.out]; omega
            show _ = ((upK a b k).2 + a.getD k 0 + b.getD k 0) / 10000
            rw [← e]
          clear hown' hgrow R HCk HX HY
          go_wp2
          go_roundw
          case rel => exact ⟨k + 1, (c) / 10000, by omega, by go_num, rfl, HC', R'⟩
          case measure => simp [intOf]; omega
    · obtain rfl : k = N := by omega
      have hc0 : c = 0 := HCk.out.trans HD.out
      subst hc0
      have h1 := hG.1
      have h2 := hG.2
      clear HM HC hG a3 b3
      go_wp2
      go_ret
      exact ⟨_, rfl, by rw [HE.out]; exact Rd.of_owns R.1, Old.ofBelow R.2 (Nat.le_refl _)⟩

end Go.Proofs.YtcedcfkjoppjdaaGreatDoor
