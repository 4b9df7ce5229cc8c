/- The document's own numbers: noughts at the end struck. -/
import Derived.Test.YtcedcfkjoppjdaaGreatDoorRA
namespace Go.Proofs.YtcedcfkjoppjdaaGreatDoor
open Go.ChangeShapes Go.WideShapes Go.ChangeAt Go.RowKit
set_option linter.unusedVariables false

/-- It returns a number: its sign, and its row. -/
def RetN (w : World) (neg : Bool) (ds : List Int) (e : Ending) (w' : World) : Prop := ∃ v, e = .returned (.agg #[.bool neg, v]) ∧ Rd w' v ds ∧ Old w w'

theorem Two.rd {wr : World} {b o : Nat} {x : Bool} {a : Option Addr} {n c : Nat} {v : Value} {ds : List Int} (h : Two wr b (.bool x) (.slice a n c)) (hr : Rd wr v ds) (u : Value) : Rd (wr.setCell ⟨b, o, none⟩ u) v ds := by
  obtain ⟨oa, cap, rfl, h1, h2, h3⟩ := hr
  refine ⟨oa, cap, rfl, h1, h2, fun j hj => ?_⟩
  obtain ⟨g, rfl, hg, hc⟩ := h3 j hj
  refine ⟨g, rfl, by simp [World.setCell]; exact hg, ?_⟩
  have hne : g ≠ b := by
    rintro rfl
    unfold Two at h
    simp only [World.cell?, h] at hc
    match j, hc with
    | 0, hc => simp at hc
    | 1, hc => simp at hc
    | j + 2, hc => simp at hc
  rw [World.cell?_setCell_other _ _ _ _ (by intro e; exact hne (congrArg Addr.block e).symm)]
  exact hc
theorem Two.set0 {wr : World} {b : Nat} {u0 v0 : Value} (h : Two wr b u0 v0) (u : Value) : Two (wr.setCell ⟨b, 0, none⟩ u) b u v0 := by
  have hlt := h.lt
  unfold Two at *
  have h' : wr.heap[b] = .cells #[u0, v0] 40 (0, 0) := by simpa [Array.getElem?_eq_getElem hlt] using h
  show (wr.heap.modify b _)[b]? = _
  rw [Array.getElem?_eq_getElem (by simpa using hlt), Array.getElem_modify_self, h']
  rfl
theorem Two.set1 {wr : World} {b : Nat} {u0 v0 : Value} (h : Two wr b u0 v0) (v : Value) : Two (wr.setCell ⟨b, 1, none⟩ v) b u0 v := by
  have hlt := h.lt
  unfold Two at *
  have h' : wr.heap[b] = .cells #[u0, v0] 40 (0, 0) := by simpa [Array.getElem?_eq_getElem hlt] using h
  show (wr.heap.modify b _)[b]? = _
  rw [Array.getElem?_eq_getElem (by simpa using hlt), Array.getElem_modify_self, h']
  rfl
theorem Two.set {wr : World} {b : Nat} {u0 v0 : Value} (h : Two wr b u0 v0) (u v : Value) : Two ((wr.setCell ⟨b, 0, none⟩ u).setCell ⟨b, 1, none⟩ v) b u v := (h.set0 u).set1 v
theorem Two.rd2 {wr : World} {b : Nat} {x : Bool} {a : Option Addr} {n c : Nat} {v : Value} {ds : List Int} (h : Two wr b (.bool x) (.slice a n c)) (hr : Rd wr v ds) (u u' : Value) : Rd ((wr.setCell ⟨b, 0, none⟩ u).setCell ⟨b, 1, none⟩ u') v ds := by
  obtain ⟨oa, cap, rfl, h1, h2, h3⟩ := hr
  refine ⟨oa, cap, rfl, h1, h2, fun j hj => ?_⟩
  obtain ⟨g, rfl, hg, hc⟩ := h3 j hj
  refine ⟨g, rfl, by simp [World.setCell]; exact hg, ?_⟩
  have hne : g ≠ b := by
    rintro rfl
    unfold Two at h
    simp only [World.cell?, h] at hc
    match j, hc with
    | 0, hc => simp at hc
    | 1, hc => simp at hc
    | j + 2, hc => simp at hc
  rw [World.cell?_setCell_other _ _ _ _ (by intro e; exact hne (congrArg Addr.block e).symm), World.cell?_setCell_other _ _ _ _ (by intro e; exact hne (congrArg Addr.block e).symm)]
  exact hc
theorem ret_two {W wr : World} {b : Nat} {x : Bool} {a : Option Addr} {n c : Nat} (h : Two wr b (.bool x) (.slice a n c)) (hb : W.heap.size ≤ b) (ho : Old W wr) {neg : Bool} {v : Value} {ds : List Int} (hr : Rd wr v ds) :
    RetN W neg ds (.returned (.agg #[.bool neg, v])) ((wr.setCell ⟨b, 0, none⟩ (.bool neg)).setCell ⟨b, 1, none⟩ v) :=
  ⟨v, rfl, h.rd2 hr _ _, (ho.setCell hb _).setCell hb _⟩
theorem retN {w w1 : World} {neg neg' : Bool} {v : Value} {ds ds' : List Int} (hn : neg = neg') (hd : ds = ds') (hr : Rd w1 v ds) (ho : Old w w1) : RetN w neg' ds' (.returned (.agg #[.bool neg, v])) w1 := by
  subst hn hd; exact ⟨v, rfl, hr, ho⟩

set_option maxHeartbeats 1600000 in
set_option maxRecDepth 100000 in
theorem trim_core (neg sg : Bool) (l ds : List Int) (v : Value) (w : World) (hl : Rd w v l) (dl : Dg l) (ll : l.length ≤ 2000)
    (h0 : val l = 0 → false = sg ∧ [] = ds) (h1 : ∀ k, k + 1 ≤ l.length → val (l.take (k + 1)) = val l → ¬ l.getD k 0 = 0 → neg = sg ∧ l.take (k + 1) = ds) :
    Calls Tryz.prog 50 #[.bool neg, v] w (RetN w sg ds) := by
  obtain ⟨oa, ca, rfl, a1, a2, a3⟩ := hl
  unfold maxLen at a2
  have H0 := Lib.hid h0
  have H1 := Lib.hid h1
  clear h0 h1
  cases neg
  all_goals
    go_enter Tryz.func50, Tryz.ntmps50
    go_wp2
    go_loop [1] (fun v => ∃ k : Nat, k ≤ l.length ∧ v = .slice oa k ca ∧ Hid (val (l.take k) = val l)) (fun v => match v with | .slice _ n _ => n | _ => 0)
    case atStart => exact ⟨l.length, Nat.le_refl _, rfl, by rw [List.take_of_length_le (Nat.le_refl _)]; exact rfl⟩
    case round =>
      obtain ⟨k, hk, rfl, HV⟩ := hrel
      rcases k with _ | k
      · obtain ⟨e1, e2⟩ := H0.out (by have := HV.out; rw [List.take_zero] at this; exact this.symm)
        have E1 := Lib.hid e1
        have E2 := Lib.hid e2
        clear e1 e2 HV
        have hR : ∀ o, Rd (w.alloc o) (.slice oa 0 ca) [] := fun o => by
          have := Rd.take (k := 0) a1 a2 a3 (by omega)
          rw [List.take_zero] at this
          exact this.old ((Old.refl _).alloc _)
        clear a3
        go_wp2
        exact bodyPost_ret (v := .agg #[.bool false, .slice oa 0 ca]) (by simp [results, Tryz.results50, go_sem]) rfl (retN E1.out E2.out (hR _) ((Old.refl _).alloc _))
      · have hR : ∀ o, Rd (w.alloc o) (.slice oa (k + 1) ca) (l.take (k + 1)) := fun o => (Rd.take (k := k + 1) a1 a2 a3 hk).old ((Old.refl _).alloc _)
        obtain ⟨g, rfl, hgl, hcell⟩ := a3 k (by omega)
        obtain ⟨x, hx⟩ : ∃ x, x = l.getD k 0 := ⟨_, rfl⟩
        rw [← hx] at hcell
        have HX := Lib.hid hx
        clear hx a3
        by_cases hx0 : x = 0
        · subst hx0
          have HV' := Lib.hid ((val_drop0 l k hk HX.out.symm).symm.trans HV.out)
          clear hR
          go_wp2
          exact ⟨⟨k, by omega, rfl, HV'⟩, Nat.lt_succ_self k⟩
        · have hx1 : (x == 0) = false := eq0_false hx0
          obtain ⟨e1, e2⟩ := H1.out k hk HV.out (by rw [← HX.out]; exact hx0)
          have E1 := Lib.hid e1
          have E2 := Lib.hid e2
          clear e1 e2 HV hx0
          go_wp2
          exact bodyPost_ret (v := .agg #[.bool _, .slice (some ⟨g, 0, none⟩) (k + 1) ca]) (by simp [results, Tryz.results50, go_sem]) rfl (retN E1.out E2.out (hR _) ((Old.refl _).alloc _))

theorem trim_any (neg : Bool) (l : List Int) (v : Value) (w : World) (hl : Rd w v l) (dl : Dg l) (ll : l.length ≤ 2000) :
    Calls Tryz.prog 50 #[.bool neg, v] w (RetN w (neg && decide (¬ val l = 0)) (dig (val l).toNat)) := by
  refine trim_core neg _ l _ v w hl dl ll (fun h => ?_) (fun k hk hv hx => ?_)
  · simp [h, dig_zero]
  · have e := trim_dig dl hk hv (Or.inr (by simpa using hx))
    have hc := can_val (dg_take dl (k + 1)) (can_take l k hk hx) (by intro h; have := congrArg List.length h; rw [List.length_take, Nat.min_eq_left hk] at this; exact absurd this (by simp))
    rw [hv] at hc
    refine ⟨?_, e⟩
    have : ¬ val l = 0 := by omega
    simp [this]

end Go.Proofs.YtcedcfkjoppjdaaGreatDoor
