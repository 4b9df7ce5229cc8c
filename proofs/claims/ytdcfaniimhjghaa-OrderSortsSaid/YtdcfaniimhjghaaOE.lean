/- Vectors: the document's. -/
import Derived.Test.YtdcfaniimhjghaaOD
import Derived.Deep.CutRange
namespace Go.Proofs.Ytdcfaniimhjghaa
open Go.ChangeShapes Go.WideShapes Go.ChangeAt Go.RowKit Go.Lib
set_option linter.unusedVariables false
set_option linter.unusedSimpArgs false
set_option maxRecDepth 100000
set_option maxHeartbeats 1600000

/-- A slice of a slice reads as a part of the cells. -/
theorem CR.part {w : World} {oa : Option Addr} {n cap size : Nat} {cs : List Value} (h : CR w (.slice oa n cap) n size cs) {k : Nat} (hk : k ≤ n) : CR w (.slice oa k cap) k size (cs.take (k * size)) := by
  obtain ⟨oa', cap', e, h1, h2, h3, h4⟩ := h
  obtain ⟨rfl, _, rfl⟩ : oa = oa' ∧ n = n ∧ cap = cap' := by simpa using e
  have hks := Nat.mul_le_mul_right size hk
  refine ⟨_, _, rfl, by omega, h2, by rw [List.length_take]; omega, fun j u hj => ?_⟩
  have hlt : j < k * size := by
    have := (List.getElem?_eq_some_iff.1 hj).1
    rw [List.length_take] at this
    omega
  rw [List.getElem?_take_of_lt hlt] at hj
  exact h4 j u hj
theorem CR.rest {w : World} {g o n cap size : Nat} {cs : List Value} (h : CR w (.slice (some ⟨g, o, none⟩) n cap) n size cs) {k : Nat} (hk : k ≤ n) : CR w (.slice (some ⟨g, o + k * size, none⟩) (n - k) (cap - k)) (n - k) size (cs.drop (k * size)) := by
  obtain ⟨oa', cap', e, h1, h2, h3, h4⟩ := h
  obtain ⟨rfl, _, rfl⟩ : some ⟨g, o, none⟩ = oa' ∧ n = n ∧ cap = cap' := by simpa using e
  have hks := Nat.mul_le_mul_right size hk
  refine ⟨_, _, rfl, by omega, by omega, by rw [List.length_drop, h3, Nat.sub_mul], fun j u hj => ?_⟩
  rw [List.getElem?_drop] at hj
  obtain ⟨g', o', e, hg, c⟩ := h4 _ u hj
  simp only [Option.some.injEq, Addr.mk.injEq, and_true] at e
  obtain ⟨rfl, rfl⟩ := e
  exact ⟨g, _, rfl, hg, by rw [Nat.add_assoc]; exact c⟩
theorem CR.none {w : World} {v : Value} {size : Nat} {oa : Option Addr} {cap : Nat} (e : v = .slice oa 0 cap) (hc : cap ≤ maxLen) : CR w v 0 size [] := by
  subst e
  exact ⟨oa, cap, rfl, Nat.zero_le _, hc, by simp, fun j u hj => by simp at hj⟩
theorem cr_one {W : World} {b : Nat} {x : Value} {t : TypeId} (h : W.heap[b]? = some (.cells #[x] t (0, 0))) : CR W (.slice (some ⟨b, 0, none⟩) 1 1) 1 1 [x] := by
  refine ⟨_, _, rfl, Nat.le_refl _, by unfold maxLen; omega, rfl, fun j u hj => ⟨b, 0, rfl, blk_lt h, ?_⟩⟩
  rcases j with _ | j
  · simp at hj; subst hj; simp [World.cell?, h]
  · simp at hj
theorem own_none {W : World} {b base size : Nat} {e : TypeId} (hb : base ≤ b) (h : W.heap[b]? = some (.cells #[] e (0, 0))) : W.ownsRow base e size (.slice (some ⟨b, 0, none⟩) 0 0) 0 [] :=
  ⟨by simp, Or.inr ⟨b, 0, _, rfl, hb, h, Nat.le_refl _, Nat.zero_le _, by simp, by simp⟩⟩
theorem ics_take (l : List Int) (k : Nat) : (ics l).take (k * 1) = ics (l.take k) := by simp [ics, List.map_take]
theorem ics_drop (l : List Int) (k : Nat) : (ics l).drop (k * 1) = ics (l.drop k) := by simp [ics, List.map_drop]

theorem own_base {w : World} {base n size : Nat} {e : TypeId} {v : Value} {cs : List Value} (h : w.ownsRow base e size v n cs) : ∀ k, v.ownBlock = some k → base ≤ k := fun k hk => by
  rcases h.2 with ⟨rfl, _⟩ | ⟨g, cap, cur, rfl, hb, _⟩
  · simp [Value.ownBlock] at hk
  · obtain rfl : g = k := by simpa [Value.ownBlock] using hk
    exact hb
theorem cp_cfI : Cp cfI := cp_cI.flip
theorem cfI_le {x y : Int} (h : y ≤ x) : cfI x y ≤ 0 := by
  unfold cfI
  rcases cI_cases y x with ⟨_, k⟩ | ⟨_, k⟩ | ⟨_, k⟩ <;> omega
theorem le_cfI {x y : Int} (h : cfI x y ≤ 0) : y ≤ x := by
  unfold cfI at h
  rcases cI_cases y x with ⟨_, k⟩ | ⟨_, k⟩ | ⟨_, k⟩ <;> omega
/-- One more number is in its place. -/
theorem put_ints {W w : World} {base k m q : Nat} {l O : List Int} {x : Int} {ob : Option Addr} {cp : Nat} (hx : l[k]? = some x) (hm : m = O.length) (hp : O.Perm (l.take k)) (hs : O.Pairwise (fun x y => cfI x y ≤ 0)) (h1 : ∀ (j : Nat) y, j < q → O[j]? = some y → x ≤ y) (h2 : ∀ y, O[q]? = some y → y < x) (hq : q ≤ m)
    {r : Nat} (e0 : r = m + 1) (hown : W.ownsRow base 3 1 (.slice ob r cp) r (ics (O.take q) ++ [.int .i64 x] ++ ics (O.drop q))) (ho : Old w W) :
    Ints W base (.slice ob (m + 1) cp) (O.take q ++ x :: O.drop q) ∧ m + 1 = (O.take q ++ x :: O.drop q).length ∧ (O.take q ++ x :: O.drop q).Perm (l.take (k + 1)) ∧ (O.take q ++ x :: O.drop q).Pairwise (fun x y => cfI x y ≤ 0) ∧ Old w W := by
  have e1 : (O.take q ++ x :: O.drop q).length = m + 1 := by simp; omega
  rw [e0] at hown
  refine ⟨?_, e1.symm, ?_, put_in cp_cfI hs (by omega) (fun j y hj hy => cfI_le (h1 j y hj hy)) (fun j y hj hy => ?_), ho⟩
  · unfold Ints
    rw [e1, show ics (O.take q ++ x :: O.drop q) = ics (O.take q) ++ [.int .i64 x] ++ ics (O.drop q) by simp [ics]]
    exact hown
  · have e2 : l.take (k + 1) = l.take k ++ [x] := by rw [List.take_add_one, hx]; rfl
    rw [e2]
    exact put_perm q hp
  · refine cfI_le ?_
    have hjl := (List.getElem?_eq_some_iff.1 hy).1
    obtain ⟨z, hz⟩ : ∃ z, O[q]? = some z := ⟨O[q]'(by omega), List.getElem?_eq_getElem _⟩
    have h3 := h2 z hz
    by_cases e : q = j
    · subst e
      have := h2 y hy
      omega
    · have := List.pairwise_iff_getElem.1 hs q j (by omega) hjl (by omega)
      have h4 := le_cfI this
      rw [(List.getElem?_eq_some_iff.1 hy).2, (List.getElem?_eq_some_iff.1 hz).2] at h4
      omega

set_option maxHeartbeats 3200000 in
theorem rvector_any (s : Int) {w : World} {v : Value} {l : List Int} (h : IR w v l) (hl : l.length ≤ 100000) :
    Calls Try.prog 13 #[.int .u8 s, v] w fun e w' => ∃ v', e = .returned v' ∧ IR w' v' (vec s l) ∧ Old w w' := by
  obtain ⟨oa, ca, rfl, _, _, ea⟩ := h.shape
  have HE := Lib.hid ea
  obtain ⟨n, hn⟩ : ∃ n, n = l.length := ⟨_, rfl⟩
  rw [← hn] at hl ⊢
  have HN := Lib.hid hn
  obtain ⟨iI, hiI, hzI, hsI, hbI⟩ := info_parts info3
  generalize hV0 : vec s l = R0
  have HV0 := Lib.hid hV0
  clear ea h hn hV0
  go_enter Try.func13, Try.ntmps13
  go_wp2
  go_loopg [5, 6] n (fun kx s5 s6 wr => ∃ (k m : Nat) (O : List Int) (ob : Option Addr) (cb : Nat), s5 = .slice ob m cb ∧ s6 = .int .i64 (k : Int) ∧ k ≤ n ∧ n - k ≤ kx ∧ (m ≤ k ∧ k ≤ m) ∧ Hid (m = 0 → ob = none ∧ cb = 0) ∧ Hid (Ints wr w.heap.size (.slice ob m cb) O ∧ m = O.length ∧ O.Perm (l.take k) ∧ O.Pairwise (fun x y => cfI x y ≤ 0) ∧ Old w wr))
  case atStart => exact ⟨0, 0, [], none, 0, rfl, rfl, Nat.zero_le _, by omega, by omega, Lib.hid (fun _ => ⟨rfl, rfl⟩), Lib.hid ⟨World.ownsRow_nil _ _ _ _, rfl, by simp, List.Pairwise.nil, Old.refl w⟩⟩
  case round =>
    obtain ⟨k, m, O, ob, cb, rfl, rfl, hk, hkx, hmk, HNIL, HS⟩ := hrel
    by_cases hlt : k < n
    · have hlti : (k : Int) < (n : Int) := by omega
      obtain ⟨x, hx⟩ : ∃ x, l[k]? = some x := ⟨l[k]'(by rw [← HN.out]; exact hlt), List.getElem?_eq_getElem _⟩
      obtain ⟨g, o, rfl, hg, cx⟩ := HE.out k x hx
      have h0k : (0 : Int) ≤ (k : Int) := by omega
      have HX := Lib.hid hx
      have HLT := Lib.hid hlt
      have HG := Lib.hid hg
      have HCX := Lib.hid cx
      clear hx hlt hk hg cx
      go_wp2
      go_loopg [7] m (fun kx s7 wr => ∃ (q : Nat), s7 = .int .i64 (q : Int) ∧ q ≤ m ∧ m - q ≤ kx ∧ Hid (Ints wr w.heap.size (.slice ob m cb) O ∧ m = O.length ∧ O.Perm (l.take k) ∧ O.Pairwise (fun x y => cfI x y ≤ 0) ∧ Old w wr ∧ ∀ (j : Nat) y, j < q → O[j]? = some y → x ≤ y))
      case atStart => exact ⟨0, rfl, Nat.zero_le _, Nat.le_refl _, Lib.hid ⟨HS.out.1, HS.out.2.1, HS.out.2.2.1, HS.out.2.2.2.1, HS.out.2.2.2.2, fun j y hj => by omega⟩⟩
      case round =>
        clear HS
        obtain ⟨q, rfl, hq, hkx2, HS⟩ := hrel
        have dx := (HS.out.2.2.2.2.1.cell (p := ⟨g, o + k, none⟩) HG.out).trans HCX.out
        have h0q : (0 : Int) ≤ (q : Int) := by omega
        obtain ⟨B, hB⟩ : ∃ B, B = (decide (q < m) && decide (x ≤ (O[q]?).getD 0)) := ⟨_, rfl⟩
        have HB := Lib.hid hB
        clear hB
        go_upto_region 6 with fail
        go_cut [29] from 15 to 30 (fun s29 wx => s29 = .bool B ∧ Hid (Ints wx w.heap.size (.slice ob m cb) O ∧ Old w wx))
        case first =>
          by_cases hqm : q < m
          · have hqi : (q : Int) < (m : Int) := by omega
            obtain ⟨y, hy⟩ : ∃ y, O[q]? = some y := ⟨O[q]'(by rw [← HS.out.2.1]; exact hqm), List.getElem?_eq_getElem _⟩
            obtain ⟨_, _, e2, _, _, eb⟩ := HS.out.1.ir.shape
            rw [← HS.out.2.1] at e2
            obtain ⟨rfl, rfl⟩ : ob = _ ∧ cb = _ := by simpa using e2
            obtain ⟨g2, o2, rfl, hg2, cy⟩ := eb q y hy
            have HY := Lib.hid hy
            clear hy e2 eb
            by_cases hxy : x ≤ y
            · have HXY := Lib.hid hxy
              go_quiet (fail)
              go_wp2_with fail
              go_meet
              case rel => exact ⟨by rw [HB.out, HY.out]; simp [hqm, HXY.out], Lib.hid ⟨HS.out.1.old ((Old.refl _).drewN _), HS.out.2.2.2.2.1.drewN _⟩⟩
            · have HXY := Lib.hid hxy
              go_quiet (fail)
              go_wp2_with fail
              go_meet
              case rel => exact ⟨by rw [HB.out, HY.out]; simp [hqm, HXY.out], Lib.hid ⟨HS.out.1.old ((Old.refl _).drewN _), HS.out.2.2.2.2.1.drewN _⟩⟩
          · have hqi : ¬ (q : Int) < (m : Int) := by omega
            have hqb : decide ((q : Int) < (m : Int)) = false := decide_eq_false hqi
            go_quiet (fail)
            go_wp2_with fail
            go_meet
            case rel => exact ⟨by rw [HB.out]; simp [hqm], Lib.hid ⟨HS.out.1.old ((Old.refl _).drewN _), HS.out.2.2.2.2.1.drewN _⟩⟩
        case rest =>
        obtain ⟨rfl, HI⟩ := hcut
        cases B with
        | true =>
          have hB := HB.out
          simp only [Bool.true_eq, Bool.and_eq_true, decide_eq_true_eq] at hB
          have HB2 := Lib.hid hB
          clear hB dx
          go_wp2_with fail
          go_roundg (m - (q + 1))
          case measure => have := HB2.out.1; omega
          case rel =>
            refine ⟨q + 1, by go_num, HB2.out.1, Nat.le_refl _, Lib.hid ⟨HI.out.1, HS.out.2.1, HS.out.2.2.1, HS.out.2.2.2.1, HI.out.2, fun j y hj hy => ?_⟩⟩
            by_cases e : j = q
            · subst e
              have := HB2.out.2
              rw [hy] at this
              simpa using this
            · exact HS.out.2.2.2.2.2 j y (by omega) hy
        | false =>
          have hB := HB.out
          have hstop : ∀ y, O[q]? = some y → y < x := fun y hy => by
            have h1 := (List.getElem?_eq_some_iff.1 hy).1
            rw [hy] at hB
            have h2 : q < m := by have := HS.out.2.1; omega
            simp [h2] at hB
            exact hB
          have HSTOP := Lib.hid hstop
          have dx := (HI.out.2.cell (p := ⟨g, o + k, none⟩) HG.out).trans HCX.out
          clear hB hstop
          have HGC := Lib.hid (Nat.lt_of_lt_of_le HG.out HI.out.2.size)
          have HXC := Lib.hid dx
          by_cases hm0 : m = 0
          · obtain ⟨rfl, rfl⟩ := HNIL.out hm0
            subst hm0
            obtain rfl : q = 0 := by omega
            have hO : O = [] := List.eq_nil_of_length_eq_zero HS.out.2.1.symm
            have C1 : Hid (CR wc (.slice none 0 0) 0 1 (ics (O.take 0))) := Lib.hid (by rw [hO]; exact CR.none rfl (Nat.zero_le _))
            have C2 : Hid (CR wc (.slice none 0 0) (0 - 0) 1 (ics (O.drop 0))) := Lib.hid (by rw [hO]; exact CR.none rfl (Nat.zero_le _))
            clear hO
            have O0 := Lib.hid ((Old.refl wc).alloc (.cells #[] 3))
            have W0 := Lib.hid (own_none (size := 1) (Nat.le_refl _) (MapKept.heap_alloc wc (.cells #[] 3)).1)
            have L0 := Lib.hid ((Old.refl wc).alloc (.cells #[] 3)).size
            have L1 := Lib.hid (show (0 + 0) * 8 ≤ 140737488355328 by omega)
            have L2 := Lib.hid (show 0 + 0 ≤ maxLen by unfold maxLen; omega)
            have L3 := Lib.hid (show (0 + 1) * 8 ≤ 140737488355328 by omega)
            have L4 := Lib.hid (show 0 + 1 ≤ maxLen by unfold maxLen; omega)
            have L5 := Lib.hid (show (0 + 1 + (0 - 0)) * 8 ≤ 140737488355328 by omega)
            have L6 := Lib.hid (show 0 + 1 + (0 - 0) ≤ maxLen by unfold maxLen; omega)
            have ONE := Lib.hid (fun u hu => by rw [List.mem_singleton] at hu; subst hu; rfl : ∀ u ∈ [Value.int .i64 x], u.oneCell' = true)
            clear dx
            go_wp2_with (at_builtin; first
              | (refine wpList_appC _ rfl _ _ 23 rfl wc.heap.size 3 iI _ 1 8 Try.underlying23 hiI hzI hsI hbI rfl (Nat.zero_lt_succ 0) (.slice (some ⟨wc.heap.size, 0, none⟩) 0 0) 0 [] rfl W0.out (.slice none 0 0) 0 (ics (O.take 0)) rfl (C1.out.old ((Old.refl wc).alloc _)) (ics_one _) L1.out L2.out L0.out ?_; intro v1 W1 hown hgrow _; rw [Nat.zero_add, List.nil_append] at hown; obtain ⟨ob1, cp1, rfl⟩ := own_shape hown; have R1 := Lib.hid hown; have O1 := Lib.hid (((Old.refl wc).alloc (.cells #[] 3)).grown hgrow (fun j hj => by simp [Value.ownBlock] at hj; omega)); have d1 := (O1.out.cell (p := ⟨g, o + k, none⟩) HGC.out).trans HXC.out; clear hown hgrow)
              | (refine wpList_appC _ rfl _ _ 23 rfl wc.heap.size 3 iI _ 1 8 Try.underlying23 hiI hzI hsI hbI rfl (Nat.zero_lt_succ 0) (.slice ob1 0 cp1) 0 (ics (O.take 0)) rfl (own_old R1.out ((Old.refl W1).alloc _)) (.slice (some ⟨W1.heap.size, 0, none⟩) 1 1) 1 [.int .i64 x] rfl (cr_one (MapKept.heap_alloc W1 _).1) ONE.out L3.out L4.out (Nat.le_trans O1.out.size ((Old.refl W1).alloc _).size) ?_; intro v2 W2 hown hgrow _; obtain ⟨ob2, cp2, rfl⟩ := own_shape hown; have R2 := Lib.hid hown; have O2 := Lib.hid ((O1.out.alloc (.cells #[.int .i64 x] 3)).grown hgrow (fun j hj => own_base R1.out j hj)); clear hown hgrow)
              | (refine wpList_appC _ rfl _ _ 23 rfl wc.heap.size 3 iI _ 1 8 Try.underlying23 hiI hzI hsI hbI rfl (Nat.zero_lt_succ 0) (.slice ob2 (0 + 1) cp2) (0 + 1) (ics (O.take 0) ++ [.int .i64 x]) rfl R2.out (.slice none 0 0) (0 - 0) (ics (O.drop 0)) rfl (C2.out.old O2.out) (ics_one _) L5.out L6.out O2.out.size ?_; intro v3 W3 hown hgrow _; obtain ⟨ob3, cp3, rfl⟩ := own_shape hown; have R3 := Lib.hid hown; have O3 := Lib.hid (O2.out.grown hgrow (fun j hj => own_base R2.out j hj)); clear hown hgrow))
            go_roundg (n - (k + 1))
            case measure => have := HLT.out; omega
            case rel =>
              exact ⟨k + 1, 0 + 1, O.take 0 ++ x :: O.drop 0, ob3, cp3, by rw [show 0 + 1 + (0 - 0) = 0 + 1 by omega], by go_num, HLT.out, Nat.le_refl _, by omega, Lib.hid (fun h => absurd h (by omega)), Lib.hid (put_ints HX.out HS.out.2.1 HS.out.2.2.1 HS.out.2.2.2.1 HS.out.2.2.2.2.2 HSTOP.out hq (by omega) (own_low R3.out HI.out.2.size) (HI.out.2.trans O3.out))⟩
          · have hcc : m ≤ cb ∧ ∃ g2, ob = some ⟨g2, 0, none⟩ := by
              rcases HI.out.1.2 with ⟨e, e2⟩ | ⟨g2, cp, cur, e, hbase, hgg, h1, h2, h3, h4⟩
              · have := HS.out.2.1
                omega
              · obtain ⟨rfl, e3, rfl⟩ : ob = some ⟨g2, 0, none⟩ ∧ m = O.length ∧ cb = cp := by simpa using e
                exact ⟨by omega, g2, rfl⟩
            obtain ⟨hcm, g2, rfl⟩ := hcc
            have HCR : CR wc (.slice (some ⟨g2, 0, none⟩) m cb) m 1 (ics O) := by have := HI.out.1.ir; unfold IR at this; rw [← HS.out.2.1] at this; exact this
            have C1 := Lib.hid (ics_take O q ▸ HCR.part hq)
            have hcb0 : ¬ cb = 0 := by omega
            by_cases hcq : cb = q
            · obtain rfl : q = cb := hcq.symm
              obtain rfl : q = m := by omega
              have C2 : Hid (CR wc (.slice (some ⟨g2, 0, none⟩) 0 0) 0 1 (ics (O.drop q))) := Lib.hid (by
                have e5 : O.drop q = [] := List.drop_eq_nil_of_le (by have := HS.out.2.1; omega)
                rw [e5]
                exact CR.none rfl (Nat.zero_le _))
              clear HCR
              have O0 := Lib.hid ((Old.refl wc).alloc (.cells #[] 3))
              have W0 := Lib.hid (own_none (size := 1) (Nat.le_refl _) (MapKept.heap_alloc wc (.cells #[] 3)).1)
              have L0 := Lib.hid ((Old.refl wc).alloc (.cells #[] 3)).size
              have L1 := Lib.hid (show (0 + q) * 8 ≤ 140737488355328 by omega)
              have L2 := Lib.hid (show 0 + q ≤ maxLen by unfold maxLen; omega)
              have L3 := Lib.hid (show (q + 1) * 8 ≤ 140737488355328 by omega)
              have L4 := Lib.hid (show q + 1 ≤ maxLen by unfold maxLen; omega)
              have L5 := Lib.hid (show (q + 1 + 0) * 8 ≤ 140737488355328 by omega)
              have L6 := Lib.hid (show q + 1 + 0 ≤ maxLen by unfold maxLen; omega)
              have ONE := Lib.hid (fun u hu => by rw [List.mem_singleton] at hu; subst hu; rfl : ∀ u ∈ [Value.int .i64 x], u.oneCell' = true)
              clear dx
              go_wp2_with (at_builtin; first
                | (refine wpList_appC _ rfl _ _ 23 rfl wc.heap.size 3 iI _ 1 8 Try.underlying23 hiI hzI hsI hbI rfl (Nat.zero_lt_succ 0) (.slice (some ⟨wc.heap.size, 0, none⟩) 0 0) 0 [] rfl W0.out (.slice (some ⟨g2, 0, none⟩) q q) q (ics (O.take q)) rfl (C1.out.old ((Old.refl wc).alloc _)) (ics_one _) L1.out L2.out L0.out ?_; intro v1 W1 hown hgrow _; rw [Nat.zero_add, List.nil_append] at hown; obtain ⟨ob1, cp1, rfl⟩ := own_shape hown; have R1 := Lib.hid hown; have O1 := Lib.hid (((Old.refl wc).alloc (.cells #[] 3)).grown hgrow (fun j hj => by simp [Value.ownBlock] at hj; omega)); have d1 := (O1.out.cell (p := ⟨g, o + k, none⟩) HGC.out).trans HXC.out; clear hown hgrow)
                | (refine wpList_appC _ rfl _ _ 23 rfl wc.heap.size 3 iI _ 1 8 Try.underlying23 hiI hzI hsI hbI rfl (Nat.zero_lt_succ 0) (.slice ob1 q cp1) q (ics (O.take q)) rfl (own_old R1.out ((Old.refl W1).alloc _)) (.slice (some ⟨W1.heap.size, 0, none⟩) 1 1) 1 [.int .i64 x] rfl (cr_one (MapKept.heap_alloc W1 _).1) ONE.out L3.out L4.out (Nat.le_trans O1.out.size ((Old.refl W1).alloc _).size) ?_; intro v2 W2 hown hgrow _; obtain ⟨ob2, cp2, rfl⟩ := own_shape hown; have R2 := Lib.hid hown; have O2 := Lib.hid ((O1.out.alloc (.cells #[.int .i64 x] 3)).grown hgrow (fun j hj => own_base R1.out j hj)); clear hown hgrow)
                | (refine wpList_appC _ rfl _ _ 23 rfl wc.heap.size 3 iI _ 1 8 Try.underlying23 hiI hzI hsI hbI rfl (Nat.zero_lt_succ 0) (.slice ob2 (q + 1) cp2) (q + 1) (ics (O.take q) ++ [.int .i64 x]) rfl R2.out (.slice (some ⟨g2, 0, none⟩) 0 0) 0 (ics (O.drop q)) rfl (C2.out.old O2.out) (ics_one _) L5.out L6.out O2.out.size ?_; intro v3 W3 hown hgrow _; obtain ⟨ob3, cp3, rfl⟩ := own_shape hown; have R3 := Lib.hid hown; have O3 := Lib.hid (O2.out.grown hgrow (fun j hj => own_base R2.out j hj)); clear hown hgrow))
              go_roundg (n - (k + 1))
              case measure => have := HLT.out; omega
              case rel =>
                exact ⟨k + 1, q + 1, O.take q ++ x :: O.drop q, ob3, cp3, by rw [show q + 1 + 0 = q + 1 by omega], by go_num, HLT.out, Nat.le_refl _, by omega, Lib.hid (fun h => absurd h (by omega)), Lib.hid (put_ints HX.out HS.out.2.1 HS.out.2.2.1 HS.out.2.2.2.1 HS.out.2.2.2.2.2 HSTOP.out hq (by omega) (own_low R3.out HI.out.2.size) (HI.out.2.trans O3.out))⟩
            · have C2 : Hid (CR wc (.slice (some ⟨g2, q, none⟩) (m - q) (cb - q)) (m - q) 1 (ics (O.drop q))) := Lib.hid (by
                have := ics_drop O q ▸ HCR.rest hq
                simpa using this)
              clear HCR
              have O0 := Lib.hid ((Old.refl wc).alloc (.cells #[] 3))
              have W0 := Lib.hid (own_none (size := 1) (Nat.le_refl _) (MapKept.heap_alloc wc (.cells #[] 3)).1)
              have L0 := Lib.hid ((Old.refl wc).alloc (.cells #[] 3)).size
              have L1 := Lib.hid (show (0 + q) * 8 ≤ 140737488355328 by omega)
              have L2 := Lib.hid (show 0 + q ≤ maxLen by unfold maxLen; omega)
              have L3 := Lib.hid (show (q + 1) * 8 ≤ 140737488355328 by omega)
              have L4 := Lib.hid (show q + 1 ≤ maxLen by unfold maxLen; omega)
              have L5 := Lib.hid (show (q + 1 + (m - q)) * 8 ≤ 140737488355328 by omega)
              have L6 := Lib.hid (show q + 1 + (m - q) ≤ maxLen by unfold maxLen; omega)
              have ONE := Lib.hid (fun u hu => by rw [List.mem_singleton] at hu; subst hu; rfl : ∀ u ∈ [Value.int .i64 x], u.oneCell' = true)
              clear dx
              go_wp2_with (at_builtin; first
                | (refine wpList_appC _ rfl _ _ 23 rfl wc.heap.size 3 iI _ 1 8 Try.underlying23 hiI hzI hsI hbI rfl (Nat.zero_lt_succ 0) (.slice (some ⟨wc.heap.size, 0, none⟩) 0 0) 0 [] rfl W0.out (.slice (some ⟨g2, 0, none⟩) q cb) q (ics (O.take q)) rfl (C1.out.old ((Old.refl wc).alloc _)) (ics_one _) L1.out L2.out L0.out ?_; intro v1 W1 hown hgrow _; rw [Nat.zero_add, List.nil_append] at hown; obtain ⟨ob1, cp1, rfl⟩ := own_shape hown; have R1 := Lib.hid hown; have O1 := Lib.hid (((Old.refl wc).alloc (.cells #[] 3)).grown hgrow (fun j hj => by simp [Value.ownBlock] at hj; omega)); have d1 := (O1.out.cell (p := ⟨g, o + k, none⟩) HGC.out).trans HXC.out; clear hown hgrow)
                | (refine wpList_appC _ rfl _ _ 23 rfl wc.heap.size 3 iI _ 1 8 Try.underlying23 hiI hzI hsI hbI rfl (Nat.zero_lt_succ 0) (.slice ob1 q cp1) q (ics (O.take q)) rfl (own_old R1.out ((Old.refl W1).alloc _)) (.slice (some ⟨W1.heap.size, 0, none⟩) 1 1) 1 [.int .i64 x] rfl (cr_one (MapKept.heap_alloc W1 _).1) ONE.out L3.out L4.out (Nat.le_trans O1.out.size ((Old.refl W1).alloc _).size) ?_; intro v2 W2 hown hgrow _; obtain ⟨ob2, cp2, rfl⟩ := own_shape hown; have R2 := Lib.hid hown; have O2 := Lib.hid ((O1.out.alloc (.cells #[.int .i64 x] 3)).grown hgrow (fun j hj => own_base R1.out j hj)); clear hown hgrow)
                | (refine wpList_appC _ rfl _ _ 23 rfl wc.heap.size 3 iI _ 1 8 Try.underlying23 hiI hzI hsI hbI rfl (Nat.zero_lt_succ 0) (.slice ob2 (q + 1) cp2) (q + 1) (ics (O.take q) ++ [.int .i64 x]) rfl R2.out (.slice (some ⟨g2, q, none⟩) (m - q) (cb - q)) (m - q) (ics (O.drop q)) rfl (C2.out.old O2.out) (ics_one _) L5.out L6.out O2.out.size ?_; intro v3 W3 hown hgrow _; obtain ⟨ob3, cp3, rfl⟩ := own_shape hown; have R3 := Lib.hid hown; have O3 := Lib.hid (O2.out.grown hgrow (fun j hj => own_base R2.out j hj)); clear hown hgrow))
              go_roundg (n - (k + 1))
              case measure => have := HLT.out; omega
              case rel =>
                exact ⟨k + 1, m + 1, O.take q ++ x :: O.drop q, ob3, cp3, by rw [show q + 1 + (m - q) = m + 1 by omega], by go_num, HLT.out, Nat.le_refl _, by omega, Lib.hid (fun h => absurd h (by omega)), Lib.hid (put_ints HX.out HS.out.2.1 HS.out.2.2.1 HS.out.2.2.2.1 HS.out.2.2.2.2.2 HSTOP.out hq (by omega) (own_low R3.out HI.out.2.size) (HI.out.2.trans O3.out))⟩
    · have hlti : ¬ (k : Int) < (n : Int) := by omega
      have hkn : k = n := by omega
      have hp : O.Perm l := by
        have := HS.out.2.2.1
        rw [hkn, HN.out, List.take_length] at this
        exact this
      have hO : O = srt l := srt_only hp (HS.out.2.2.2.1.imp (fun h => le_cfI h))
      have HV : Hid (Ints wr w.heap.size (.slice ob m cb) (srt l) ∧ Old w wr) := Lib.hid (by rw [← hO]; exact ⟨HS.out.1, HS.out.2.2.2.2⟩)
      have HML := Lib.hid (show m = (srt l).length by rw [← hO]; exact HS.out.2.1)
      clear HS hp hO hlt hk
      by_cases h3 : s = 3
      · subst h3
        have ev : vec 3 l = srt l := by simp [vec]
        have HEV := Lib.hid ev
        clear ev
        go_wp2_with fail
        go_ret
        exact ⟨_, rfl, by rw [← HV0.out, HEV.out]; exact HV.out.1.ir, HV.out.2⟩
      · have h3b : (s == 3) = false := by simpa using h3
        have ev : vec s l = [(srt l).headD 0] := by simp [vec, h3]
        have HEV := Lib.hid ev
        clear ev
        by_cases hm0 : m = 0
        · have hz : ((m : Int) == 0) = true := by simp [hm0]
          have e0 : srt l = [] := List.eq_nil_of_length_eq_zero (by have := HML.out; omega)
          have HE0 := Lib.hid e0
          clear e0
          go_wp2_with fail
          go_ret
          exact ⟨_, rfl, by rw [← HV0.out, HEV.out, HE0.out]; exact (ints_one (Nat.le_refl _) (MapKept.heap_alloc _ _).1).ir, HV.out.2.alloc _⟩
        · have hz : ((m : Int) == 0) = false := beq_eq_false_iff_ne.2 (by omega)
          have hcc : m ≤ cb ∧ ∃ g2, ob = some ⟨g2, 0, none⟩ := by
            rcases HV.out.1.2 with ⟨e, e2⟩ | ⟨g2, cp, cur, e, hbase, hgg, h1, h2, h3, h4⟩
            · have := HML.out
              omega
            · obtain ⟨rfl, e3, rfl⟩ : ob = some ⟨g2, 0, none⟩ ∧ m = (srt l).length ∧ cb = cp := by simpa using e
              exact ⟨by omega, g2, rfl⟩
          obtain ⟨hcm, g2, rfl⟩ := hcc
          have hcb0 : ¬ cb = 0 := by omega
          have hcb1 : (1 : Int) ≤ (cb : Int) := by omega
          have HCR : CR wr (.slice (some ⟨g2, 0, none⟩) m cb) m 1 (ics (srt l)) := by have := HV.out.1.ir; unfold IR at this; rw [← HML.out] at this; exact this
          have hm1 : 1 ≤ m := by omega
          have C1 := Lib.hid (HCR.part hm1)
          clear HCR
          go_wp2_with fail
          go_ret
          refine ⟨_, rfl, ?_, HV.out.2⟩
          rw [← HV0.out, HEV.out]
          have := C1.out
          cases he : srt l with
          | nil => rw [he] at HML; have := HML.out; simp at this; omega
          | cons y r =>
            rw [he] at this
            exact this
end Go.Proofs.Ytdcfaniimhjghaa
