/- The statements' own helper right; slices of two and three values that are just laid. -/
import Derived.Test.YtmoomdikgfeifaaRS
import Derived.Test.YtmoomdikgfeifaaVQ
namespace Go.Proofs.Ytmoomdikgfeifaa
open Go.ChangeShapes Go.WideShapes Go.ChangeAt Go.RowKit
set_option linter.unusedVariables false

theorem RV.new3 (w : World) (k n : Int) (s : ByteArray) (k' n' : Int) (s' : ByteArray) (k'' n'' : Int) (s'' : ByteArray) : RV (w.alloc (.cells #[.int .u8 k, .int .i64 n, .string s, .int .u8 k', .int .i64 n', .string s', .int .u8 k'', .int .i64 n'', .string s''] 23)) (.slice (some ⟨w.heap.size, 0, none⟩) 3 3) [⟨k, n, s⟩, ⟨k', n', s'⟩, ⟨k'', n'', s''⟩] := by
  refine ⟨_, 3, rfl, Nat.le_refl _, by decide, fun j x hj => ?_⟩
  have h := (MapKept.heap_alloc w (.cells #[.int .u8 k, .int .i64 n, .string s, .int .u8 k', .int .i64 n', .string s', .int .u8 k'', .int .i64 n'', .string s''] 23)).1
  refine ⟨_, rfl, blk_lt h, ?_⟩
  have hj' : j = 0 ∨ j = 1 ∨ j = 2 := by
    have := (List.getElem?_eq_some_iff.1 hj).1
    simp at this; omega
  simp only [World.cell?, h]
  rcases hj' with rfl | rfl | rfl <;> (simp at hj; subst hj; exact ⟨rfl, rfl, rfl⟩)

def rgX (x : Vl) : Bool := !(x.k == 4) || mayB x.k x.n x.s
def rgB (l : List Vl) : Bool := l.all rgX

theorem right_any (l : List Vl) (v : Value) (w : World) (hl : RV w v l) (hb : l.length ≤ 100000) (hz : ∀ x ∈ l, x.s.size ≤ maxLen) : Calls Try.prog 19 #[v] w fun e w' => e = .returned (.bool (rgB l)) ∧ Old w w' := by
  obtain ⟨oa, c, rfl, a1, a2, a3⟩ := hl
  obtain ⟨n, hn⟩ : ∃ n, n = l.length := ⟨_, rfl⟩
  rw [← hn]
  rw [← hn] at a1 hb
  have HN := Lib.hid hn
  have HA := Lib.hid a3
  have HZ := Lib.hid hz
  clear hn a3 hz
  go_enter Try.func19, Try.ntmps19
  go_wp2
  go_loopw [7] (fun i wr => ∃ k : Nat, k ≤ n ∧ i = .int .i64 (k : Int) ∧ Hid ((l.take k).all rgX = true) ∧ Hid (Old w wr)) (fun i _ => (n - intOf i).toNat)
  case atStart =>
    exact ⟨0, Nat.zero_le _, rfl, Lib.hid rfl, Lib.hid (Old.refl w)⟩
  case round =>
    obtain ⟨k, hk, rfl, HE, HO⟩ := hrel
    by_cases hkn : k < n
    · have hx : ∃ x, l[k]? = some x := ⟨l[k]'(by rw [← HN.out]; exact hkn), List.getElem?_eq_getElem _⟩
      obtain ⟨x, hx⟩ := hx
      have hsz := HZ.out x (List.mem_of_getElem? hx)
      obtain ⟨g, rfl, hgl, c0, c1, c2⟩ := HA.out k x hx
      have d0 := (HO.out.cell hgl).trans c0
      have d1 := (HO.out.cell hgl).trans c1
      have d2 := (HO.out.cell hgl).trans c2
      obtain ⟨xk, xn, xs⟩ := x
      have HX := Lib.hid hx
      clear hx c0 c1 c2
      by_cases h4 : xk = 4
      · subst h4
        have k1 := fun W => rmay_any 4 xn xs W hsz
        cases hm : mayB 4 xn xs
        · rw [hm] at k1
          go_wp2_with (first
            | (go_at_call 6; (with_reducible refine (k1 _).mono ?_); rintro e w1 ⟨rfl, ho1⟩))
          go_ret
          refine ⟨rb _ _ ?_, (HO.out.alloc _).trans ho1⟩
          unfold rgB
          symm
          rw [List.all_eq_false]
          exact ⟨_, List.mem_of_getElem? HX.out, by unfold rgX; simp [hm]⟩
        · rw [hm] at k1
          go_wp2_with (first
            | (go_at_call 6; (with_reducible refine (k1 _).mono ?_); rintro e w1 ⟨rfl, ho1⟩))
          refine ⟨⟨k + 1, hkn, rfl, Lib.hid ?_, Lib.hid ((HO.out.alloc _).trans ho1)⟩, by simp only [intOf]; omega⟩
          rw [take_more HX.out, List.all_append, HE.out]
          simp [rgX, hm]
      · have h4' : (xk == 4) = false := by simpa using h4
        go_wp2
        refine ⟨⟨k + 1, hkn, rfl, Lib.hid ?_, Lib.hid (HO.out.alloc _)⟩, by simp only [intOf]; omega⟩
        rw [take_more HX.out, List.all_append, HE.out]
        simp [rgX, h4']
    · have hkn' : k = n := by omega
      subst hkn'
      have HTk : l.take k = l := by rw [HN.out, List.take_length]
      have HE' := HE.out
      rw [HTk] at HE'
      have HE' := Lib.hid HE'
      clear HTk HE
      go_wp2
      go_ret
      exact ⟨rb _ _ HE'.out.symm, HO.out⟩

end Go.Proofs.Ytmoomdikgfeifaa
