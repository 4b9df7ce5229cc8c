/- Activations in memory; Great, Same. -/
import Derived.Test.YtdcfaniimhjghaaOE
import Derived.Test.YtdcfaniimhjghaaIB
namespace Go.Proofs.Ytdcfaniimhjghaa
open Go.ChangeShapes Go.WideShapes Go.ChangeAt Go.RowKit Go.Lib
set_option linter.unusedVariables false
set_option linter.unusedSimpArgs false
set_option maxRecDepth 100000
set_option maxHeartbeats 1600000

/-- An activation, and the slice of its tuple. -/
abbrev Aw := Ac × Value
def av (p : Aw) : Value := .agg #[.int .i64 p.1.rule, p.2, .int .i64 p.1.sal]
def acs : List Aw → List Value
  | [] => []
  | p :: P => .int .i64 p.1.rule :: p.2 :: .int .i64 p.1.sal :: acs P
theorem acs_app : ∀ (P Q : List Aw), acs (P ++ Q) = acs P ++ acs Q
  | [], Q => rfl
  | p :: P, Q => by
    show _ :: _ :: _ :: acs (P ++ Q) = _
    rw [acs_app P Q]
    rfl
theorem acs_len : ∀ P : List Aw, (acs P).length = P.length * 3
  | [] => rfl
  | p :: P => by
    show (acs P).length + 1 + 1 + 1 = _
    rw [acs_len P, List.length_cons]
    omega
theorem acs_at : ∀ {P : List Aw} {j : Nat} {p : Aw}, P[j]? = some p → (acs P)[j * 3]? = some (.int .i64 p.1.rule) ∧ (acs P)[j * 3 + 1]? = some p.2 ∧ (acs P)[j * 3 + 2]? = some (.int .i64 p.1.sal)
  | [], j, p, h => by simp at h
  | q :: P, 0, p, h => by
    simp at h
    subst h
    exact ⟨rfl, rfl, rfl⟩
  | q :: P, j + 1, p, h => by
    have ih := acs_at (P := P) (j := j) (p := p) (by simpa using h)
    rw [show (j + 1) * 3 = j * 3 + 3 by omega]
    exact ih
theorem acs_take (P : List Aw) : ∀ k, (acs P).take (k * 3) = acs (P.take k) := fun k => by
  induction P generalizing k with
  | nil => simp [acs]
  | cons p P ih =>
    cases k with
    | zero => simp [acs]
    | succ k =>
      rw [show (k + 1) * 3 = k * 3 + 1 + 1 + 1 by omega]
      simp only [acs, List.take_succ_cons, ih]
theorem acs_drop (P : List Aw) : ∀ k, (acs P).drop (k * 3) = acs (P.drop k) := fun k => by
  induction P generalizing k with
  | nil => simp [acs]
  | cons p P ih =>
    cases k with
    | zero => simp [acs]
    | succ k =>
      rw [show (k + 1) * 3 = k * 3 + 1 + 1 + 1 by omega]
      simp only [acs, List.drop_succ_cons, ih]
/-- Every tuple reads. -/
def Tups (w : World) (P : List Aw) : Prop := ∀ p ∈ P, IR w p.2 p.1.tup
theorem Tups.old {w w' : World} {P : List Aw} (h : Tups w P) (ho : Old w w') : Tups w' P := fun p hp => (h p hp).old ho
/-- The slice v reads as these activations. -/
def AR (w : World) (v : Value) (P : List Aw) : Prop := CR w v P.length 3 (acs P) ∧ Tups w P
theorem AR.old {w w' : World} {v : Value} {P : List Aw} (h : AR w v P) (ho : Old w w') : AR w' v P := ⟨h.1.old ho, h.2.old ho⟩
theorem AR.shape {w : World} {v : Value} {P : List Aw} (h : AR w v P) : ∃ oa cap, v = .slice oa P.length cap ∧ P.length ≤ cap ∧ cap ≤ maxLen ∧ ∀ j p, P[j]? = some p → ∃ g o, oa = some ⟨g, o, none⟩ ∧ g < w.heap.size ∧ w.cell? ⟨g, o + j * 3, none⟩ = some (.int .i64 p.1.rule) ∧ w.cell? ⟨g, o + j * 3 + 1, none⟩ = some p.2 ∧ w.cell? ⟨g, o + j * 3 + 2, none⟩ = some (.int .i64 p.1.sal) := by
  obtain ⟨oa, cap, rfl, h1, h2, _, h4⟩ := h.1
  refine ⟨oa, cap, rfl, h1, h2, fun j p hj => ?_⟩
  obtain ⟨e0, e1, e2⟩ := acs_at hj
  obtain ⟨g, o, rfl, hg, c0⟩ := h4 _ _ e0
  obtain ⟨g1, o1, e, _, c1⟩ := h4 _ _ e1
  obtain ⟨g2, o2, e', _, c2⟩ := h4 _ _ e2
  simp only [Option.some.injEq, Addr.mk.injEq, and_true] at e e'
  obtain ⟨rfl, rfl⟩ := e
  obtain ⟨rfl, rfl⟩ := e'
  exact ⟨g, o, rfl, hg, c0, c1, c2⟩
theorem AR.len {w : World} {v : Value} {P : List Aw} (h : AR w v P) : P.length ≤ 9223372036854775807 := by
  obtain ⟨oa, cap, rfl, h1, h2, _⟩ := h.shape
  unfold maxLen at h2
  omega
theorem AR.tup {w : World} {v : Value} {P : List Aw} (h : AR w v P) {j : Nat} {p : Aw} (hj : P[j]? = some p) : IR w p.2 p.1.tup := h.2 p (List.mem_of_getElem? hj)
theorem IR.slice {w : World} {v : Value} {l : List Int} (h : IR w v l) : ∃ oa cap, v = .slice oa l.length cap := by
  obtain ⟨oa, cap, rfl, _⟩ := h.shape
  exact ⟨oa, cap, rfl⟩
theorem acs_one {w : World} {P : List Aw} (h : Tups w P) : ∀ u ∈ acs P, u.oneCell' = true := by
  induction P with
  | nil => intro u hu; cases hu
  | cons p P ih =>
    intro u hu
    obtain ⟨oa, cap, e⟩ := (h p (List.mem_cons_self ..)).slice
    rcases List.mem_cons.1 hu with rfl | hu
    · rfl
    rcases List.mem_cons.1 hu with rfl | hu
    · rw [e]; rfl
    rcases List.mem_cons.1 hu with rfl | hu
    · rfl
    · exact ih (fun q hq => h q (List.mem_cons_of_mem _ hq)) u hu
/-- An activation's box. -/
def Bx (w : World) (g : Nat) (p : Aw) : Prop := w.heap[g]? = some (.cells #[.int .i64 p.1.rule, p.2, .int .i64 p.1.sal] 25 (0, 0))
theorem Bx.old {w w' : World} {g : Nat} {p : Aw} (h : Bx w g p) (ho : Old w w') : Bx w' g p := (ho.block g (blk_lt h)).trans h
theorem Bx.new (w : World) (p : Aw) : Bx (w.alloc (.cells #[.int .i64 p.1.rule, p.2, .int .i64 p.1.sal] 25)) w.heap.size p := (MapKept.heap_alloc w _).1
theorem Bx.c0 {w : World} {g : Nat} {p : Aw} (h : Bx w g p) : w.cell? ⟨g, 0, none⟩ = some (.int .i64 p.1.rule) := by unfold Bx at h; simp [World.cell?, h]
theorem Bx.c1 {w : World} {g : Nat} {p : Aw} (h : Bx w g p) : w.cell? ⟨g, 1, none⟩ = some p.2 := by unfold Bx at h; simp [World.cell?, h]
theorem Bx.c2 {w : World} {g : Nat} {p : Aw} (h : Bx w g p) : w.cell? ⟨g, 2, none⟩ = some (.int .i64 p.1.sal) := by unfold Bx at h; simp [World.cell?, h]
theorem Bx.lt {w : World} {g : Nat} {p : Aw} (h : Bx w g p) : g < w.heap.size := blk_lt h

/-- Is it too great? -/
def grt (L : List Ac) (most : Int) : Bool := L.any (fun x => decide (20 < x.tup.length)) || decide (most < L.length)
theorem great_any {w : World} {v : Value} {P : List Aw} (h : AR w v P) (most : Int) :
    Calls Try.prog 7 #[v, .int .i64 most] w fun e w' => e = .returned (.bool (grt (P.map (·.1)) most)) ∧ w' = w := by
  have hl := h.len
  obtain ⟨oa, ca, rfl, _, _, ea⟩ := h.shape
  have HE := Lib.hid ea
  have HT := Lib.hid h.2
  obtain ⟨n, hn⟩ : ∃ n, n = P.length := ⟨_, rfl⟩
  generalize hP : grt (P.map (·.1)) most = R
  have HP := Lib.hid hP
  rw [← hn] at hl ⊢
  have HN := Lib.hid hn
  clear ea h hP hn
  go_enter Try.func7, Try.ntmps7
  go_wp2
  go_loopg [5] n (fun kx s5 wr => ∃ k : Nat, s5 = .int .i64 (k : Int) ∧ k ≤ n ∧ n - k ≤ kx ∧ Hid (∀ (j : Nat) p, j < k → P[j]? = some p → p.1.tup.length ≤ 20) ∧ wr = w)
  case atStart => exact ⟨0, rfl, Nat.zero_le _, Nat.le_refl _, Lib.hid (fun j p hj => by omega), rfl⟩
  case round =>
    obtain ⟨k, rfl, hk, hkx, HS, rfl⟩ := hrel
    by_cases hlt : k < n
    · have hlti : (k : Int) < (n : Int) := by omega
      obtain ⟨p, hp⟩ : ∃ p, P[k]? = some p := ⟨P[k]'(by rw [← HN.out]; exact hlt), List.getElem?_eq_getElem _⟩
      obtain ⟨g, o, rfl, hg, c0, c1, c2⟩ := HE.out k p hp
      have hir := HT.out p (List.mem_of_getElem? hp)
      obtain ⟨ot, ct, et, _, _, _⟩ := hir.shape
      rw [et] at c1
      have h0k : (0 : Int) ≤ (k : Int) := by omega
      have HX := Lib.hid hp
      have hil := hir.len
      obtain ⟨m, hm⟩ : ∃ m, m = p.1.tup.length := ⟨_, rfl⟩
      rw [← hm] at c1 hil
      have HM := Lib.hid hm
      clear hp et hir hm c0 c2
      by_cases h20 : 20 < m
      · have h20i : (20 : Int) < (m : Int) := by omega
        go_wp2_with fail
        go_ret
        refine ⟨?_, rfl⟩
        rw [← HP.out]
        refine rb _ _ ?_
        unfold grt
        symm
        rw [Bool.or_eq_true, List.any_eq_true]
        refine Or.inl ⟨p.1, List.mem_map.2 ⟨p, List.mem_of_getElem? HX.out, rfl⟩, ?_⟩
        have := HM.out
        exact decide_eq_true (by omega)
      · have h20i : ¬ (20 : Int) < (m : Int) := by omega
        go_wp2_with fail
        go_roundg (n - (k + 1))
        case measure => omega
        case rel =>
          refine ⟨k + 1, by go_num, hlt, Nat.le_refl _, Lib.hid (fun j q hj hq => ?_), rfl⟩
          by_cases e : j = k
          · subst e
            rw [HX.out] at hq
            have := Option.some.inj hq
            subst this
            have := HM.out
            omega
          · exact HS.out j q (by omega) hq
    · have hlti : ¬ (k : Int) < (n : Int) := by omega
      go_wp2_with fail
      go_ret
      refine ⟨?_, rfl⟩
      rw [← HP.out]
      refine rb _ _ ?_
      unfold grt
      have e1 : (P.map (·.1)).any (fun x => decide (20 < x.tup.length)) = false := by
        rw [List.any_eq_false]
        intro x hx
        obtain ⟨p, hp, rfl⟩ := List.mem_map.1 hx
        obtain ⟨j, hj⟩ := List.mem_iff_getElem?.1 hp
        have h1 := (List.getElem?_eq_some_iff.1 hj).1
        have := HS.out j p (by have := HN.out; omega) hj
        simp
        omega
      rw [e1, Bool.false_or, List.length_map, ← HN.out]
theorem grt_false {L : List Ac} {most : Int} (h : grt L most = false) : (∀ x ∈ L, x.tup.length ≤ 20) ∧ (L.length : Int) ≤ most := by
  unfold grt at h
  rw [Bool.or_eq_false_iff, List.any_eq_false] at h
  refine ⟨fun x hx => ?_, ?_⟩
  · have := h.1 x hx
    simp at this
    omega
  · have := h.2
    simp at this
    omega
def sameP (a b : Ac) : Bool := decide (a.rule = b.rule) && decide (a.tup = b.tup)
theorem same_any {w : World} (p q : Aw) (hp : IR w p.2 p.1.tup) (hq : IR w q.2 q.1.tup) :
    Calls Try.prog 14 #[av p, av q] w fun e w' => e = .returned (.bool (sameP p.1 q.1)) ∧ Old w w' := by
  obtain ⟨⟨pr, pt, ps⟩, pv⟩ := p
  obtain ⟨⟨qr, qt, qs⟩, qv⟩ := q
  simp only at hp hq
  have hc : ∀ W, Old w W → Calls Try.prog 28 #[pv, qv] W fun e w' => e = .returned (.bool (decide (pt = qt))) ∧ Old W w' := fun W ho => equal_any (hp.old ho) (hq.old ho)
  have HC := Lib.hid hc
  obtain ⟨oa, ca, rfl⟩ := hp.slice
  obtain ⟨ob, cb, rfl⟩ := hq.slice
  clear hc hp hq
  unfold av sameP
  simp only
  by_cases hr : pr = qr
  · subst hr
    have e1 : (decide (pr = pr) && decide (pt = qt)) = decide (pt = qt) := by simp
    rw [e1]
    have hb : (pr == pr) = true := by simp
    generalize decide (pt = qt) = R at HC ⊢
    go_enter Try.func14, Try.ntmps14
    go_wp2_with (first | (go_at_call 28; (with_reducible refine (HC.out _ (((Old.refl w).alloc _).alloc _)).mono ?_); rintro e w2 ⟨rfl, ho⟩; have HO := Lib.hid ho; clear ho))
    go_ret
    exact ⟨rfl, (((Old.refl w).alloc _).alloc _).trans HO.out⟩
  · have e1 : (decide (pr = qr) && decide (pt = qt)) = false := by simp [hr]
    rw [e1]
    have hb : (pr == qr) = false := by simpa using hr
    go_enter Try.func14, Try.ntmps14
    go_wp2_with fail
    go_ret
    exact ⟨rfl, ((Old.refl w).alloc _).alloc _⟩
theorem rsame_any {w : World} (p q : Aw) (hp : IR w p.2 p.1.tup) (hq : IR w q.2 q.1.tup) :
    Calls Try.prog 15 #[av p, av q] w fun e w' => e = .returned (.bool (sameP p.1 q.1)) ∧ Old w w' := by
  obtain ⟨⟨pr, pt, ps⟩, pv⟩ := p
  obtain ⟨⟨qr, qt, qs⟩, qv⟩ := q
  simp only at hp hq
  have hc : ∀ W, Old w W → Calls Try.prog 12 #[pv, qv] W fun e w' => e = .returned (.int .i64 (rowC pt qt)) ∧ Old W w' := fun W ho => rrows_any (hp.old ho) (hq.old ho)
  have HC := Lib.hid hc
  obtain ⟨oa, ca, rfl⟩ := hp.slice
  obtain ⟨ob, cb, rfl⟩ := hq.slice
  clear hc hp hq
  unfold av sameP
  simp only
  by_cases hr : pr = qr
  · subst hr
    have e1 : (decide (pr = pr) && decide (pt = qt)) = (rowC pt qt == 0) := by
      by_cases h : pt = qt
      · subst h
        simp [cp_row.self]
      · have : rowC pt qt ≠ 0 := fun e => h (rowC_zero _ _ e)
        simp [h, this]
    rw [e1]
    have hb : (pr == pr) = true := by simp
    generalize rowC pt qt = R at HC ⊢
    go_enter Try.func15, Try.ntmps15
    go_wp2_with (first | (go_at_call 12; (with_reducible refine (HC.out _ (((Old.refl w).alloc _).alloc _)).mono ?_); rintro e w2 ⟨rfl, ho⟩; have HO := Lib.hid ho; clear ho))
    go_ret
    exact ⟨rfl, (((Old.refl w).alloc _).alloc _).trans HO.out⟩
  · have e1 : (decide (pr = qr) && decide (pt = qt)) = false := by simp [hr]
    rw [e1]
    have hb : (pr == qr) = false := by simpa using hr
    go_enter Try.func15, Try.ntmps15
    go_wp2_with fail
    go_ret
    exact ⟨rfl, ((Old.refl w).alloc _).alloc _⟩
end Go.Proofs.Ytdcfaniimhjghaa
