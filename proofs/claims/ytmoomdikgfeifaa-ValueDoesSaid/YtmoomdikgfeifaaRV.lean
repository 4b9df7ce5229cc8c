/- The document's own answers of layer value: Kind, As. -/
import Derived.Test.YtmoomdikgfeifaaRU
import Derived.Test.YtmoomdikgfeifaaVH
namespace Go.Proofs.Ytmoomdikgfeifaa
open Go.ChangeShapes Go.WideShapes Go.ChangeAt Go.RowKit
set_option linter.unusedVariables false

def kR (l : List Vl) : Int := if l.all (fun x => okK x.k) = true then (if l.any (fun x => x.k == 0) = true then 0 else kd0 l) else 9
theorem ru8 (a b : Int) (h : a = b) : Ending.returned (.int .u8 a) = .returned (.int .u8 b) := by rw [h]

set_option maxHeartbeats 1600000 in
theorem rkind_any (l : List Vl) (v : Value) (w : World) (hl : RV w v l) (hb : l.length ≤ 100000) : Calls Try.prog 39 #[v] w fun e w' => e = .returned (.int .u8 (kR l)) ∧ Old w w' := by
  obtain ⟨oa, c, rfl, a1, a2, a3⟩ := hl
  obtain ⟨n, hn⟩ : ∃ n, n = l.length := ⟨_, rfl⟩
  rw [← hn]
  rw [← hn] at a1 hb
  have HN := Lib.hid hn
  have HA := Lib.hid a3
  clear hn a3
  go_enter Try.func39, Try.ntmps39
  go_wp2
  go_loopw [4] (fun i wr => ∃ k : Nat, k ≤ n ∧ i = .int .i64 (k : Int) ∧ Hid ((l.take k).all (fun x => okK x.k) = true) ∧ Hid (Old w wr)) (fun i _ => (n - intOf i).toNat)
  case atStart => exact ⟨0, Nat.zero_le _, rfl, Lib.hid rfl, Lib.hid (Old.refl w)⟩
  case round =>
    obtain ⟨k, hk, rfl, HE, HO⟩ := hrel
    by_cases hkn : k < n
    · have hx : ∃ x, l[k]? = some x := ⟨l[k]'(by rw [← HN.out]; exact hkn), List.getElem?_eq_getElem _⟩
      obtain ⟨x, hx⟩ := hx
      obtain ⟨g, rfl, hgl, c0, c1, c2⟩ := HA.out k x hx
      have d0 := (HO.out.cell hgl).trans c0
      have d1 := (HO.out.cell hgl).trans c1
      have d2 := (HO.out.cell hgl).trans c2
      obtain ⟨xk, xn, xs⟩ := x
      have HX := Lib.hid hx
      have HC := Lib.hid c0
      clear hx c0 c1 c2
      have k1 := fun W => rnum_any xk xn xs W
      by_cases h12 : xk = 1 ∨ xk = 2
      · have e1 : (xk == 1 || xk == 2) = true := by rcases h12 with rfl | rfl <;> rfl
        rw [e1] at k1
        clear e1
        go_wp2_with (first
          | (go_at_call 32; (with_reducible refine (k1 _).mono ?_); rintro e w1 ⟨rfl, ho1⟩))
        refine ⟨⟨k + 1, hkn, rfl, Lib.hid ?_, Lib.hid (HO.out.trans ho1)⟩, by simp only [intOf]; omega⟩
        rw [take_more HX.out]
        exact ok_more HE.out (by rcases h12 with rfl | rfl <;> rfl)
      · have e1 : (xk == 1 || xk == 2) = false := by simpa using h12
        rw [e1] at k1
        clear e1
        by_cases h0 : xk = 0
        · subst h0
          go_wp2_with (first
            | (go_at_call 32; (with_reducible refine (k1 _).mono ?_); rintro e w1 ⟨rfl, ho1⟩; have y0 := ((HO.out.trans ho1).cell hgl).trans HC.out))
          refine ⟨⟨k + 1, hkn, rfl, Lib.hid ?_, Lib.hid (HO.out.trans ho1)⟩, by simp only [intOf]; omega⟩
          rw [take_more HX.out]
          exact ok_more HE.out rfl
        · have h0' : (xk == 0) = false := by simpa using h0
          go_wp2_with (first
            | (go_at_call 32; (with_reducible refine (k1 _).mono ?_); rintro e w1 ⟨rfl, ho1⟩; have y0 := ((HO.out.trans ho1).cell hgl).trans HC.out))
          go_ret
          refine ⟨ru8 _ _ ?_, HO.out.trans ho1⟩
          have hno : l.all (fun x => okK x.k) = false := ok_not HX.out (by show okK xk = false; unfold okK; simp; omega)
          unfold kR
          rw [hno]
          rfl
    · have hkn' : k = n := by omega
      subst hkn'
      have HTk : l.take k = l := by rw [HN.out, List.take_length]
      have HE' := HE.out
      rw [HTk] at HE'
      have HE' := Lib.hid HE'
      clear HTk HE
      go_wp2
      go_loopw [3, 5] (fun o i wx => ∃ j : Nat, j ≤ k ∧ i = .int .i64 (j : Int) ∧ o = .int .u8 (kd0 (l.take j)) ∧ Hid ((l.take j).any (fun x => x.k == 0) = false) ∧ wx = wr) (fun _ i _ => (k - intOf i).toNat)
      case atStart => exact ⟨0, Nat.zero_le _, rfl, rfl, Lib.hid rfl, rfl⟩
      case round =>
        obtain ⟨j, hj, rfl, rfl, HF, rfl⟩ := hrel
        by_cases hjk : j < k
        · have hx : ∃ x, l[j]? = some x := ⟨l[j]'(by rw [← HN.out]; exact hjk), List.getElem?_eq_getElem _⟩
          obtain ⟨x, hx⟩ := hx
          obtain ⟨g, rfl, hgl, c0, c1, c2⟩ := HA.out j x hx
          have d0 := (HO.out.cell hgl).trans c0
          obtain ⟨xk, xn, xs⟩ := x
          have HX := Lib.hid hx
          clear hx c0 c1 c2
          by_cases h0 : xk = 0
          · subst h0
            go_wp2
            go_ret
            refine ⟨ru8 _ _ ?_, HO.out⟩
            unfold kR
            rw [if_pos HE'.out, if_pos]
            rw [List.any_eq_true]
            exact ⟨_, List.mem_of_getElem? HX.out, rfl⟩
          · have h0' : (xk == 0) = false := by simpa using h0
            by_cases h2 : xk = 2
            · subst h2
              go_wp2
              refine ⟨⟨j + 1, hjk, rfl, iu8 ?_, Lib.hid ?_, ?_⟩, by simp only [intOf]; omega⟩
              · rw [take_more HX.out, kd_2 rfl]
              · rw [take_more HX.out, List.any_append, HF.out]; rfl
              · first | rfl | trivial
            · have h2' : (xk == 2) = false := by simpa using h2
              go_wp2
              refine ⟨⟨j + 1, hjk, rfl, iu8 ?_, Lib.hid ?_, ?_⟩, by simp only [intOf]; omega⟩
              · rw [take_more HX.out, kd_0 h2']
              · rw [take_more HX.out, List.any_append, HF.out]; simp [h0']
              · first | rfl | trivial
        · have hjk' : j = k := by omega
          subst hjk'
          have HTj : l.take j = l := by rw [HN.out, List.take_length]
          have HF' := HF.out
          rw [HTj] at HF' ⊢
          have HF' := Lib.hid HF'
          clear HTj HF
          go_wp2
          go_ret
          refine ⟨ru8 _ _ ?_, HO.out⟩
          unfold kR
          rw [if_pos HE'.out, if_neg (by rw [HF'.out]; decide)]

end Go.Proofs.Ytmoomdikgfeifaa
