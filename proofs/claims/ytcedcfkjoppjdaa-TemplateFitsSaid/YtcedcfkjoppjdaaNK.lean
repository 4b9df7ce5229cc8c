/- Layer template: what is too great; a template that the laws ask. -/
import Derived.Test.YtcedcfkjoppjdaaNJ
namespace Go.Proofs.Ytcedcfkjoppjdaa
open Go.ChangeShapes Go.WideShapes Go.ChangeAt Go.RowKit Go.Lib
set_option linter.unusedVariables false
set_option linter.unusedSimpArgs false
set_option maxRecDepth 100000

/-- What is told of templates that are too great, or not. -/
def GrE (l : List Tp) (w : World) (e : Ending) (w' : World) : Prop := ∃ b : Bool, e = .returned (.bool b) ∧ (b = false → l.length ≤ 30 ∧ ∀ (j : Nat) (x : Tp), l[j]? = some x → x.l.length ≤ 20) ∧ w = w'
theorem GrE.yes {l : List Tp} {w : World} : GrE l w (.returned (.bool true)) w := ⟨true, rfl, fun h => (by cases h), rfl⟩
/-- The first k have at most 20 slots. -/
def fewTo (l : List Tp) (k : Nat) : Prop := ∀ (j : Nat) (x : Tp), j < k → l[j]? = some x → x.l.length ≤ 20
theorem fewTo_next {l : List Tp} {k : Nat} {x : Tp} (h : fewTo l k) (hx : l[k]? = some x) (hs : x.l.length ≤ 20) : fewTo l (k + 1) := fun j y hj hy => by
  by_cases e : j = k
  · subst e
    rw [hx] at hy
    cases hy
    exact hs
  · exact h j y (by omega) hy

set_option maxHeartbeats 1600000 in
theorem great_any (l : List Tp) (v : Value) (w : World) (hl : TR w v l) : Calls Try.prog 8 #[v] w (GrE l w) := by
  obtain ⟨oa, c, rfl, a1, a2, a3⟩ := hl
  obtain ⟨N, hN⟩ : ∃ n, n = l.length := ⟨_, rfl⟩
  rw [← hN] at a1 ⊢
  unfold maxLen at a2
  have HN := Lib.hid hN
  have HA := Lib.hid a3
  clear hN a3
  go_enter Try.func8, Try.ntmps8
  go_wp2_with fail
  go_loopw [7] (fun i wr => ∃ k : Nat, k ≤ N ∧ i = .int .i64 (k : Int) ∧ Hid (fewTo l k) ∧ wr = w) (fun i _ => (N - intOf i).toNat)
  case atStart => exact ⟨0, Nat.zero_le _, rfl, Lib.hid (fun j x hj => by omega), rfl⟩
  case round =>
    obtain ⟨k, hk, rfl, HS, hw⟩ := hrel
    subst hw
    by_cases hkn : k < N
    · obtain ⟨x, hx⟩ : ∃ x, l[k]? = some x := ⟨l[k]'(by rw [← HN.out]; exact hkn), List.getElem?_eq_getElem _⟩
      obtain ⟨xn, xv, xl⟩ := x
      obtain ⟨g, o, rfl, hgl, c0, c1, hs, hsr⟩ := HA.out k _ hx
      obtain ⟨sa, sc, hv, b1, b2, b3⟩ := id hsr
      obtain ⟨M, hM⟩ : ∃ M, M = xl.length := ⟨_, rfl⟩
      simp only at hv hsr c0 c1 hs b1 b2 b3
      rw [← hM] at hv b1
      unfold maxLen at b2 hs
      subst hv
      have HM := Lib.hid hM
      have HB := Lib.hid b3
      have HX := Lib.hid hx
      clear hM b3 hx hsr hgl
      by_cases h20 : M ≤ 20
      · by_cases h100 : xn.size ≤ 100
        · go_wp2_with fail
          obtain ⟨wo, hwo⟩ : ∃ wo : World, wo = wr := ⟨_, rfl⟩
          have C0 := Lib.hid c0
          have C1 := Lib.hid c1
          rw [← hwo] at C0 C1 HA HB
          subst hwo
          clear c0 c1
          go_loopw [32] (fun i wi => ∃ j : Nat, j ≤ M ∧ i = .int .i64 (j : Int) ∧ wi = wo) (fun i _ => (M - intOf i).toNat)
          case atStart => exact ⟨0, Nat.zero_le _, rfl, rfl⟩
          case round =>
            obtain ⟨j, hjm, rfl, hw⟩ := hrel
            subst hw
            have c0 := C0.out
            have c1 := C1.out
            by_cases hj : j < M
            · obtain ⟨y, hy⟩ : ∃ y, xl[j]? = some y := ⟨xl[j]'(by rw [← HM.out]; exact hj), List.getElem?_eq_getElem _⟩
              obtain ⟨sg, so, rfl, hsg, s0, s1, hys⟩ := HB.out j y hy
              unfold maxLen at hys
              clear hy hsg s1
              by_cases hy100 : y.n.size ≤ 100
              · go_wp2_with fail
                refine ⟨⟨j + 1, hj, rfl, ?_⟩, by simp only [intOf]; omega⟩
                first | rfl | trivial
              · go_wp2_with fail
                go_ret
                exact GrE.yes
            · have hj' : j = M := by omega
              subst hj'
              go_wp2_with fail
              refine ⟨⟨k + 1, hkn, rfl, Lib.hid (fewTo_next HS.out HX.out (by show xl.length ≤ 20; rw [← HM.out]; exact h20)), ?_⟩, by simp only [intOf]; omega⟩
              first | rfl | trivial
        · go_wp2_with fail
          go_ret
          exact GrE.yes
      · go_wp2_with fail
        go_ret
        exact GrE.yes
    · have hkn' : k = N := by omega
      subst hkn'
      by_cases h30 : k ≤ 30
      · go_wp2_with fail
        go_ret
        refine ⟨_, rfl, fun _ => ⟨by rw [← HN.out]; exact h30, fun j x hj => ?_⟩, rfl⟩
        have hlt : j < l.length := (List.getElem?_eq_some_iff.1 hj).1
        exact HS.out j x (by rw [HN.out]; exact hlt) hj
      · have h31 : 30 < k := by omega
        go_wp2_with fail
        go_ret
        refine ⟨true, rb _ _ (by simp; omega), fun h => (by cases h), rfl⟩

/-- The template that the laws ask. -/
abbrev persL (x : Value) : List Tp := [⟨⟨#[112, 101, 114, 115, 111, 110]⟩, x, [⟨⟨#[97, 103, 101]⟩, 1⟩, ⟨⟨#[110, 97, 109, 101]⟩, 3⟩]⟩]
def PersE (w : World) (e : Ending) (w' : World) : Prop := ∃ v x, e = .returned v ∧ TR w' v (persL x) ∧ Old w w'
theorem sz4 : (2 : Nat) ≤ maxLen := by unfold maxLen; omega
theorem pers_lies {W : World} {b0 b1 : Nat} (h1 : W.heap[b1]? = some (.cells #[.string ⟨#[112, 101, 114, 115, 111, 110]⟩, .slice (some ⟨b0, 0, none⟩) 2 2] 33)) (h0 : W.heap[b0]? = some (.cells #[.string ⟨#[97, 103, 101]⟩, .int .u8 1, .string ⟨#[110, 97, 109, 101]⟩, .int .u8 3] 41)) : TR W (.slice (some ⟨b1, 0, none⟩) 1 1) (persL (.slice (some ⟨b0, 0, none⟩) 2 2)) := by
  have l1 := blk_lt h1
  have l0 := blk_lt h0
  refine ⟨_, _, rfl, Nat.le_refl _, by unfold maxLen; omega, fun j x hj => ?_⟩
  rcases j with _ | j
  · simp at hj
    subst hj
    refine ⟨_, 0, rfl, l1, by simp [World.cell?, h1], by simp [World.cell?, h1], by simp [ByteArray.size, maxLen], ?_⟩
    refine ⟨_, _, rfl, Nat.le_refl _, by unfold maxLen; omega, fun j x hj => ?_⟩
    rcases j with _ | _ | j
    · simp at hj
      subst hj
      exact ⟨_, 0, rfl, l0, by simp [World.cell?, h0], by simp [World.cell?, h0], by simp [ByteArray.size, maxLen]⟩
    · simp at hj
      subst hj
      exact ⟨_, 0, rfl, l0, by simp [World.cell?, h0], by simp [World.cell?, h0], by simp [ByteArray.size, maxLen]⟩
    · simp at hj
  · simp at hj
theorem person_any (w : World) : Calls Try.prog 24 #[] w (PersE w) := by
  have ho : Old w ((w.alloc (.cells #[.string ⟨#[97, 103, 101]⟩, .int .u8 1, .string ⟨#[110, 97, 109, 101]⟩, .int .u8 3] 41)).alloc (.cells #[.string ⟨#[112, 101, 114, 115, 111, 110]⟩, .slice (some ⟨w.heap.size, 0, none⟩) 2 2] 33)) := ((Old.refl w).alloc _).alloc _
  have HO := Lib.hid ho
  have h1 : ((w.alloc (.cells #[.string ⟨#[97, 103, 101]⟩, .int .u8 1, .string ⟨#[110, 97, 109, 101]⟩, .int .u8 3] 41)).alloc (.cells #[.string ⟨#[112, 101, 114, 115, 111, 110]⟩, .slice (some ⟨w.heap.size, 0, none⟩) 2 2] 33)).heap[w.heap.size + 1]? = some (.cells #[.string ⟨#[112, 101, 114, 115, 111, 110]⟩, .slice (some ⟨w.heap.size, 0, none⟩) 2 2] 33) := by
    have := (MapKept.heap_alloc (w.alloc (.cells #[.string ⟨#[97, 103, 101]⟩, .int .u8 1, .string ⟨#[110, 97, 109, 101]⟩, .int .u8 3] 41)) (.cells #[.string ⟨#[112, 101, 114, 115, 111, 110]⟩, .slice (some ⟨w.heap.size, 0, none⟩) 2 2] 33)).1
    rwa [sz_alloc] at this
  have h0 : ((w.alloc (.cells #[.string ⟨#[97, 103, 101]⟩, .int .u8 1, .string ⟨#[110, 97, 109, 101]⟩, .int .u8 3] 41)).alloc (.cells #[.string ⟨#[112, 101, 114, 115, 111, 110]⟩, .slice (some ⟨w.heap.size, 0, none⟩) 2 2] 33)).heap[w.heap.size]? = some (.cells #[.string ⟨#[97, 103, 101]⟩, .int .u8 1, .string ⟨#[110, 97, 109, 101]⟩, .int .u8 3] 41) :=
    (Below.heap_alloc (w.alloc (.cells #[.string ⟨#[97, 103, 101]⟩, .int .u8 1, .string ⟨#[110, 97, 109, 101]⟩, .int .u8 3] 41)) _ w.heap.size (by rw [sz_alloc]; omega)).trans (MapKept.heap_alloc w _).1
  have H := Lib.hid (pers_lies h1 h0)
  clear ho h1 h0
  go_enter Try.func24, Try.ntmps24
  go_wp2_with fail
  go_ret
  exact ⟨_, _, rfl, H.out, HO.out⟩

theorem pers_may (x : Value) : mayT (persL x) = true := by
  have e1 : nmB ⟨#[112, 101, 114, 115, 111, 110]⟩ = true := by kernel_rfl
  have e2 : nmB ⟨#[97, 103, 101]⟩ = true := by kernel_rfl
  have e3 : nmB ⟨#[110, 97, 109, 101]⟩ = true := by kernel_rfl
  simp [mayT, tTo, tAt, tB, slB, slTo, sAt, e1, e2, e3, ix, ixFrom, kB, ByteArray.toList_eq]
theorem pers_ok (x : Value) : fitsI (persL x) 0 [⟨1, 1, ⟨#[]⟩⟩, ⟨3, 0, ⟨#[97]⟩⟩] = 0 := by
  have e1 : mayB 1 1 ⟨#[]⟩ = true := by simp [mayB, ByteArray.toList_eq]
  have e2 : mayB 3 0 ⟨#[97]⟩ = true := by
    have : textB ⟨#[97]⟩ = true := by kernel_rfl
    simp [mayB, this]
  simp [fitsI, fitL, vTo, goB, e1, e2]
theorem pers_no (x : Value) : fitsI (persL x) 0 [⟨3, 0, ⟨#[97]⟩⟩, ⟨1, 1, ⟨#[]⟩⟩] = 8 := by
  simp [fitsI, fitL, vTo, goB]
end Go.Proofs.Ytcedcfkjoppjdaa
