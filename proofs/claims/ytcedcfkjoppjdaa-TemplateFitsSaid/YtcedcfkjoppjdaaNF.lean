/- Layer template: which place a slot with a name has. -/
import Derived.Test.YtcedcfkjoppjdaaNE
namespace Go.Proofs.Ytcedcfkjoppjdaa
open Go.ChangeShapes Go.WideShapes Go.ChangeAt Go.RowKit
set_option linter.unusedVariables false
set_option linter.unusedSimpArgs false
set_option maxRecDepth 100000

/-- A box of two cells. -/
def Two (w : World) (b : Nat) (x y : Value) (t : TypeId) : Prop := w.heap[b]? = some (.cells #[x, y] t (0, 0))
theorem Two.c0 {w : World} {b : Nat} {x y : Value} {t : TypeId} (h : Two w b x y t) : w.cell? ⟨b, 0, none⟩ = some x := by unfold Two at h; simp [World.cell?, h]
theorem Two.c1 {w : World} {b : Nat} {x y : Value} {t : TypeId} (h : Two w b x y t) : w.cell? ⟨b, 1, none⟩ = some y := by unfold Two at h; simp [World.cell?, h]
theorem Two.f {w : World} {b : Nat} {x y : Value} {t : TypeId} (h : Two w b x y t) (o : Nat) : w.frozen? ⟨b, o, none⟩ = false := by unfold Two at h; simp [World.frozen?, h]
theorem Two.old {w w' : World} {b : Nat} {x y : Value} {t : TypeId} (h : Two w b x y t) (ho : Old w w') : Two w' b x y t := (ho.block b (blk_lt h)).trans h
theorem Two.lt {w : World} {b : Nat} {x y : Value} {t : TypeId} (h : Two w b x y t) : b < w.heap.size := blk_lt h
theorem Two.new (w : World) (x y : Value) (t : TypeId) : Two (w.alloc (.cells #[x, y] t)) w.heap.size x y t := (MapKept.heap_alloc w _).1

theorem indexs_any (l : List Sl) (v : Value) (s : ByteArray) (b : Nat) (w : World) (hl : SR w v l) (hb : One w b (.string s) 9) : Calls Try.prog 31 #[v, .func (.func 32) #[] #[.pointer (some ⟨b, 0, none⟩)]] w fun e w' => e = .returned (.int .i64 (ix (snames l) s)) ∧ Old w w' := by
  obtain ⟨oa, c, rfl, a1, a2, a3⟩ := hl
  obtain ⟨n, hn⟩ : ∃ n, n = l.length := ⟨_, rfl⟩
  rw [← hn]
  rw [← hn] at a1
  unfold maxLen at a2
  have HN := Lib.hid hn
  have HA := Lib.hid a3
  have HB := Lib.hid hb
  clear hn a3 hb
  go_enter Try.func31, Try.ntmps31
  go_wp2_with fail
  go_loopw [8] (fun i wr => ∃ k : Nat, k ≤ n ∧ i = .int .i64 (k : Int) ∧ Hid (noX (snames l) s k) ∧ Hid (Old w wr)) (fun i _ => (n - intOf i).toNat)
  case atStart => exact ⟨0, Nat.zero_le _, rfl, Lib.hid (fun j x hj => by omega), Lib.hid (Old.refl w)⟩
  case round =>
    obtain ⟨k, hk, rfl, HX, HO⟩ := hrel
    by_cases hkn : k < n
    · obtain ⟨x, hx⟩ : ∃ x, l[k]? = some x := ⟨l[k]'(by rw [← HN.out]; exact hkn), List.getElem?_eq_getElem _⟩
      obtain ⟨g, o, rfl, hgl, c0, c1, hs⟩ := HA.out k x hx
      have d0 := (HO.out.cell hgl).trans c0
      have d1 := (HO.out.cell hgl).trans c1
      have HK : Hid ((snames l)[k]? = some x.n) := Lib.hid (by rw [List.getElem?_map, hx]; rfl)
      have hc := fun W hW => sames_any x.n s x.k b W hW
      have HB' := Lib.hid (HB.out.old HO.out)
      clear c0 c1 hs hx
      cases hE : (x.n.toList == s.toList)
      · rw [hE] at hc
        have HE := Lib.hid hE
        clear hE
        go_wp2_with (go_at_call 32; (with_reducible refine (hc _ HB'.out).mono ?_); rintro e w1 ⟨rfl, o1⟩)
        refine ⟨⟨k + 1, hkn, rfl, Lib.hid (noX_next HX.out HK.out HE.out), Lib.hid (HO.out.trans o1)⟩, by simp only [intOf]; omega⟩
      · rw [hE] at hc
        have HE := Lib.hid hE
        clear hE
        go_wp2_with (go_at_call 32; (with_reducible refine (hc _ HB'.out).mono ?_); rintro e w1 ⟨rfl, o1⟩)
        go_ret
        exact ⟨ri (ix_hit HX.out HK.out HE.out).symm, HO.out.trans o1⟩
    · have hkn' : k = n := by omega
      subst hkn'
      go_wp2_with fail
      go_ret
      exact ⟨ri (ix_no (by rw [List.length_map, ← HN.out]; exact HX.out)).symm, HO.out⟩
theorem slot_any (l : List Sl) (n : ByteArray) (v : Value) (s : ByteArray) (w : World) (hl : SR w v l) : Calls Try.prog 20 #[tv n v, .string s] w fun e w' => e = .returned (.int .i64 (ix (snames l) s)) ∧ Old w w' := by
  have ho1 := (Old.refl w).alloc (.cells #[.string n, v] 33)
  have HO := Lib.hid (ho1.alloc (.cells #[.string s] 9))
  have hb := One.new (w.alloc (.cells #[.string n, v] 33)) (.string s) 9
  have es : (w.alloc (.cells #[.string n, v] 33)).heap.size = w.heap.size + 1 := by simp
  rw [es] at hb
  have hc := Lib.hid (indexs_any l v s (w.heap.size + 1) _ (hl.old HO.out) hb)
  clear hb hl es ho1
  go_enter Try.func20, Try.ntmps20
  go_wp2_with (go_at_call 31; (with_reducible refine (hc.out).mono ?_); rintro e w1 ⟨rfl, o1⟩)
  go_ret
  exact ⟨rfl, HO.out.trans o1⟩
theorem rslot_any (l : List Sl) (n : ByteArray) (v : Value) (s : ByteArray) (w : World) (hl : SR w v l) : Calls Try.prog 21 #[tv n v, .string s] w fun e w' => e = .returned (.int .i64 (ix (snames l) s)) ∧ Old w w' := by
  have HO := Lib.hid ((Old.refl w).alloc (.cells #[.string n, v] 33))
  have hl' := hl.old HO.out
  have hT := Two.new w (.string n) v 33
  obtain ⟨oa, c, rfl, a1, a2, a3⟩ := hl'
  obtain ⟨N, hn⟩ : ∃ n, n = l.length := ⟨_, rfl⟩
  rw [← hn] at hT HO ⊢
  rw [← hn] at a1
  unfold maxLen at a2
  have HN := Lib.hid hn
  have HA := Lib.hid a3
  clear hn a3 hl hT
  go_enter Try.func21, Try.ntmps21
  go_wp2_with fail
  go_loopw [5] (fun i wr => ∃ k : Nat, k ≤ N ∧ i = .int .i64 (k : Int) ∧ Hid (noX (snames l) s k) ∧ wr = w.alloc (.cells #[.string n, .slice oa N c] 33)) (fun i _ => (N - intOf i).toNat)
  case atStart => exact ⟨0, Nat.zero_le _, rfl, Lib.hid (fun j x hj => by omega), rfl⟩
  case round =>
    obtain ⟨k, hk, rfl, HX, rfl⟩ := hrel
    by_cases hkn : k < N
    · obtain ⟨x, hx⟩ : ∃ x, l[k]? = some x := ⟨l[k]'(by rw [← HN.out]; exact hkn), List.getElem?_eq_getElem _⟩
      obtain ⟨g, o, rfl, hgl, c0, c1, hs⟩ := HA.out k x hx
      rw [← HN.out] at c0 c1
      have HK : Hid ((snames l)[k]? = some x.n) := Lib.hid (by rw [List.getElem?_map, hx]; rfl)
      clear hs hx hgl
      cases hE : (x.n.toList == s.toList)
      · have HE := Lib.hid hE
        go_wp2_with fail
        refine ⟨⟨k + 1, hkn, rfl, Lib.hid (noX_next HX.out HK.out HE.out), ?_⟩, by simp only [intOf]; omega⟩
        first | rfl | trivial
      · have HE := Lib.hid hE
        go_wp2_with fail
        go_ret
        exact ⟨ri (ix_hit HX.out HK.out HE.out).symm, HO.out⟩
    · have hkn' : k = N := by omega
      subst hkn'
      go_wp2_with fail
      go_ret
      exact ⟨ri (ix_no (by rw [List.length_map, ← HN.out]; exact HX.out)).symm, HO.out⟩
end Go.Proofs.Ytcedcfkjoppjdaa
