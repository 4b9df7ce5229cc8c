/- Layer vtext: the document's text of a value: its beginning. -/
import Derived.Test.YtcedcfkjoppjdaaGreatDoorMD
import Derived.Test.YtcedcfkjoppjdaaGreatDoorMF
import Derived.Test.YtcedcfkjoppjdaaGreatDoorRS
import Derived.Test.YtcedcfkjoppjdaaGreatDoorLE
import Derived.Deep.CutRange
import Derived.Deep.CutBlock
namespace Go.Proofs.YtcedcfkjoppjdaaGreatDoor
open Go.ChangeShapes Go.WideShapes Go.ChangeAt Go.RowKit Go.Lib
set_option linter.unusedVariables false
set_option linter.unusedSimpArgs false
set_option maxRecDepth 100000

theorem RN.neg {w : World} {ng : Bool} {oa : Option Addr} {la ca : Nat} {n : Int} (h : RN w (.agg #[.bool ng, .slice oa la ca]) n) : ng = decide (n < 0) ∧ RN w (.agg #[.bool false, .slice oa la ca]) ((n.natAbs : Nat) : Int) := by
  obtain ⟨v, e, hr⟩ := h
  simp only [Value.agg.injEq, Array.mk.injEq, List.cons.injEq, and_true, Value.bool.injEq] at e
  obtain ⟨e1, rfl⟩ := e
  exact ⟨e1, _, by rw [show decide (((n.natAbs : Nat) : Int) < 0) = false from decide_eq_false (by omega)], hr⟩
theorem take_ext0 (l : List UInt8) (m : Nat) : (st l).extract 0 m = st (l.take m) := by
  rw [st_ext]; rfl
/-- The sign. -/
def sgL (n : Int) : List UInt8 := if n < 0 then [45] else []
theorem sg_size (n : Int) : (st (sgL n)).size ≤ 1 := by
  rw [st_size]; unfold sgL; split <;> simp
theorem itoa_sg {n : Int} {j : Nat} (h : Stop 1 j n.natAbs) : sgL n ++ low j n.natAbs = Lib.itoa n := by
  rw [low_one h]
  unfold sgL Lib.itoa
  split
  · rfl
  · rw [show n.toNat = n.natAbs by omega]; rfl

theorem bt_st {l : List UInt8} {q : Nat} : bt (st l) q = 48 ↔ l.getD q 0 = 48 := by
  unfold bt
  constructor
  · intro h
    have h : ((l.getD q 0).toNat : Int) = 48 := h
    have : (l.getD q 0).toNat = 48 := by omega
    exact UInt8.toNat_inj.1 this
  · intro h
    show ((l.getD q 0).toNat : Int) = 48
    rw [h]; rfl
theorem dec_trimmed {n : Int} {m a : Nat} (hJ : Stop 5 (m + 4) n.natAbs) (h1 : m + 1 ≤ a) (h2 : a ≤ m + 4)
    (h3 : ∀ q, a ≤ q → q < m + 4 → bt (st (low (m + 4) n.natAbs)) q = 48) (h4 : a + 3 = m + 4 ∨ ¬ bt (st (low (m + 4) n.natAbs)) (a - 1) = 48) :
    sgL n ++ (low (m + 4) n.natAbs).take m ++ [46] ++ ((low (m + 4) n.natAbs).drop m).take (a - m) = decL n := by
  have e := low_five hJ
  have hl := low_len (m + 4) n.natAbs
  simp only [bt_st] at h3 h4
  rw [e] at hl h3 h4 ⊢
  obtain ⟨x0, x1, x2, x3, hx⟩ : ∃ x0 x1 x2 x3, restL n.natAbs = [x0, x1, x2, x3] := ⟨_, _, _, _, rfl⟩
  have hd : decU n.natAbs = Lib.decDigits (n.natAbs / 10000) ++ [46] ++ [x0] ++ Lib.trimRightB [x1, x2, x3] 48 := by unfold decU; rw [hx]; rfl
  rw [hx] at hl h3 h4 ⊢
  generalize Lib.decDigits (n.natAbs / 10000) = D at *
  have hm : m = D.length := by simp at hl; omega
  subst hm
  rw [noughts_at D x0 x1 x2 x3 a h1 h2 h3 (by rcases h4 with h | h; exact Or.inl (by omega); exact Or.inr h), List.take_left]
  unfold decL sgL
  split
  · rw [hd]; simp [List.append_assoc]
  · rw [hd]; simp [List.append_assoc]
set_option maxHeartbeats 6400000 in
theorem rtext_any (k n : Int) (s : ByteArray) (hk : 0 ≤ k ∧ k ≤ 255) (hn : I64 n) (hs : s.size ≤ 1000) (w : World) :
    Calls Tryz.prog 7 #[vl k n s] w fun e w' => e = .returned (.string (st (textL k n s))) ∧ Old w w' := by
  have HO := Lib.hid ((Old.refl w).alloc (.cells #[.int .u8 k, .int .i64 n, .string s] 23))
  have HT := Lib.hid (Three.new w (.int .u8 k) (.int .i64 n) (.string s))
  have HN := Lib.hid hn
  have hm := fun W => rmay_any k n s W (by unfold maxLen; omega)
  cases hmay : mayB k n s
  · rw [hmay] at hm
    have HM := Lib.hid hmay
    clear hmay hn
    go_enter Tryz.func7, Tryz.ntmps7
    go_wp2_with (first
      | (go_at_call 8; (with_reducible refine (hm _).mono ?_); rintro e w1 ⟨rfl, o1⟩))
    go_ret
    exact ⟨rs (by unfold textL; rw [HM.out]; rfl), HO.out.trans o1⟩
  · rw [hmay] at hm
    have HM := Lib.hid hmay
    clear hmay hn
    go_enter Tryz.func7, Tryz.ntmps7
    go_upto_region 4 with (first
      | (go_at_call 8; (with_reducible refine (hm _).mono ?_); rintro e w1 ⟨rfl, o1⟩; replace HO := Lib.hid (HO.out.trans o1); replace HT := Lib.hid (HT.out.old o1); clear o1; have c0 := HT.out.c0; have c1 := HT.out.c1; have c2 := HT.out.c2)
      | (go_at_call 16; (with_reducible refine (ofI n _ HN.out).mono ?_); rintro e w2 ⟨x, rfl, hN, o2⟩; obtain ⟨ng, oa, la, ca, rfl⟩ := hN.form))
    have HB := Lib.hid (Two.new w2 (.bool ng) (.slice oa la ca))
    have HX := Lib.hid (hN.old ((Old.refl _).alloc (.cells #[.bool ng, .slice oa la ca] 40))).neg
    replace HO := Lib.hid ((HO.out.trans o2).alloc (.cells #[.bool ng, .slice oa la ca] 40))
    replace HT := Lib.hid (HT.out.old (o2.alloc (.cells #[.bool ng, .slice oa la ca] 40)))
    clear hN o2 c0 c1 c2 hm
    generalize w2.alloc (.cells #[.bool ng, .slice oa la ca] 40) = W at *
    generalize w2.heap.size = B at *
    clear w2 w1
    have d0 := HB.out.c0
    have d1 := HB.out.c1
    have c0 := HT.out.c0
    have c1 := HT.out.c1
    have c2 := HT.out.c2
    go_upto_if 16 with fail
    go_cut [4] from 15 to 16 (fun sv wx => sv = .string (st (sgL n)) ∧ wx = W)
    case first =>
      have hng := HX.out.1
      by_cases h0 : n < 0
      · have e : ng = true := by rw [hng]; exact decide_eq_true h0
        have es : st (sgL n) = ⟨#[45]⟩ := by unfold sgL; rw [if_pos h0]
        clear hng h0
        subst e
        go_wp2_with fail
        go_meet
        exact ⟨by rw [es], rfl⟩
      · have e : ng = false := by rw [hng]; exact decide_eq_false h0
        have es : st (sgL n) = ⟨#[]⟩ := by unfold sgL; rw [if_neg h0]
        clear hng h0
        subst e
        go_wp2_with fail
        go_meet
        exact ⟨by rw [es], rfl⟩
    case rest =>
    obtain ⟨rfl, rfl⟩ := hcut
    have hsg := sg_size n
    by_cases h1 : k = 1
    · obtain rfl := h1
      have hd : ∀ W, RN W (.agg #[.bool false, .slice oa la ca]) ((n.natAbs : Nat) : Int) → Calls Tryz.prog 17 #[.agg #[.bool ng, .slice oa la ca], .int .i64 1] W fun e w' => (∃ j, Stop 1 j n.natAbs ∧ j ≤ 24 ∧ e = .returned (.string (st (low j n.natAbs)))) ∧ Old W w' :=
        fun W h => dig17_any ng oa la ca n.natAbs 1 W h (by have := HN.out; unfold I64 at this; omega) (by omega) (by omega)
      go_wp2_with (first
        | (go_at_call 17; (with_reducible refine (hd _ HX.out.2).mono ?_); rintro e w3 ⟨⟨j, hj, hj24, rfl⟩, o3⟩; have hz : (st (low j n.natAbs)).size = j := by rw [st_size, low_len]))
      go_ret
      refine ⟨(congrArg (fun b => Ending.returned (.string b)) (app_st _ _)).trans (rs ?_), HO.out.trans o3⟩
      rw [itoa_sg hj]
      unfold textL
      rw [HM.out]
      rfl
    by_cases h2 : k = 2
    · obtain rfl := h2
      have hd : ∀ W, RN W (.agg #[.bool false, .slice oa la ca]) ((n.natAbs : Nat) : Int) → Calls Tryz.prog 17 #[.agg #[.bool ng, .slice oa la ca], .int .i64 5] W fun e w' => (∃ j, Stop 5 j n.natAbs ∧ j ≤ 24 ∧ e = .returned (.string (st (low j n.natAbs)))) ∧ Old W w' :=
        fun W h => dig17_any ng oa la ca n.natAbs 5 W h (by have := HN.out; unfold I64 at this; omega) (by omega) (by omega)
      go_upto_block 1 with (first
        | (go_at_call 17; (with_reducible refine (hd _ HX.out.2).mono ?_); rintro e w3 ⟨⟨j, hj, hj24, rfl⟩, o3⟩; have hz : (st (low j n.natAbs)).size = j := by rw [st_size, low_len]))
      clear hd
      obtain ⟨S, hS⟩ : ∃ S, S = st (low j n.natAbs) := ⟨_, rfl⟩
      rw [← hS] at hz ⊢
      have HS := Lib.hid hS
      have hj5 := hj.1
      have HJ := Lib.hid hj
      clear hS hj
      have HG := Lib.hid (fun q (h : q < j) => bt_get S q (by rw [hz]; exact h))
      go_cut [6] from 33 to 46 (fun i wx => ∃ a : Nat, i = .int .i64 (a : Int) ∧ wx = w3 ∧ Hid (a ≤ j ∧ j ≤ a + 3 ∧ (∀ q, a ≤ q → q < j → bt S q = 48) ∧ (a + 3 = j ∨ ¬ bt S (a - 1) = 48)))
      case first =>
        go_wp2_with fail
        go_loopw [6] (fun i wr => ∃ a : Nat, a ≤ j ∧ j ≤ a + 3 ∧ i = .int .i64 (a : Int) ∧ Hid (∀ q, a ≤ q → q < j → bt S q = 48) ∧ wr = w3) (fun i _ => (RowKit.intOf i).toNat)
        case atStart => exact ⟨j, Nat.le_refl _, by omega, rfl, Lib.hid (fun q h1 h2 => by omega), rfl⟩
        case round =>
          obtain ⟨a, haj, hja, rfl, HA, hw⟩ := hrel
          subst hw
          by_cases hlt : j < a + 3
          · obtain ⟨a', rfl⟩ : ∃ a', a = a' + 1 := ⟨a - 1, by omega⟩
            have g := HG.out a' (by omega)
            obtain ⟨b, hb⟩ : ∃ b, b = bt S a' := ⟨_, rfl⟩
            rw [← hb] at g
            have HBT := Lib.hid hb
            clear hb
            by_cases h48 : b = 48
            · subst h48
              go_wp2_with fail
              go_roundw
              case rel => exact ⟨a', by omega, by omega, by go_num, Lib.hid (fun q h1 h2 => by
                rcases Nat.eq_or_lt_of_le h1 with h | h
                · rw [← h]; exact HBT.out.symm
                · exact HA.out q (by omega) h2), trivial⟩
              case measure => simp [RowKit.intOf]
            · have e48 : (b == 48) = false := by simpa using h48
              go_wp2_with fail
              go_meet
              exact ⟨a' + 1, by go_num, rfl, Lib.hid ⟨haj, hja, HA.out, Or.inr (by rw [Nat.add_sub_cancel, ← HBT.out]; exact h48)⟩⟩
          · go_wp2_with fail
            go_meet
            exact ⟨a, rfl, rfl, Lib.hid ⟨haj, hja, HA.out, Or.inl (by omega)⟩⟩
      case rest =>
      obtain ⟨a, rfl, rfl, HA⟩ := hcut
      have ha1 := HA.out.1
      have ha2 := HA.out.2.1
      obtain ⟨m, rfl⟩ : ∃ m, j = m + 4 := ⟨j - 4, by omega⟩
      have hsl : (sgL n).length ≤ 1 := by rw [← st_size]; exact hsg
      go_upto_region 17 with fail
      refine wp_region_inv (spOf [.eq (.string (st (sgL n))), .eq (.string S), .eq (.string S), .eq (.int .i64 ((m + 4 : Nat) : Int)), .eq (.int .i64 (m : Int)), .eq (.string (st ((low (m + 4) n.natAbs).take m))), .eq (.string (st ((sgL n) ++ (low (m + 4) n.natAbs).take m))), .eq (.string (st ((sgL n) ++ (low (m + 4) n.natAbs).take m ++ [46]))), .eq (.string S), .eq (.string S), .eq (.int .i64 ((m + 4 : Nat) : Int)), .eq (.int .i64 (m : Int)), .eq (.int .i64 (a : Int)), .eq (.string (st (((low (m + 4) n.natAbs).drop m).take (a - m)))), .eq (.string (st ((sgL n) ++ (low (m + 4) n.natAbs).take m ++ [46] ++ ((low (m + 4) n.natAbs).drop m).take (a - m)))), .eq (.string (st ((sgL n) ++ (low (m + 4) n.natAbs).take m ++ [46] ++ ((low (m + 4) n.natAbs).drop m).take (a - m))))]) (by kernel_rfl) (by kernel_rfl) (spOf_mono _) ?_ ?_
      · refine ⟨?_, ?_, ?_, ?_, ?_, ?_, ?_, ?_, ?_, ?_, ?_, ?_, ?_, ?_, ?_, ?_, trivial⟩
        · refine step_plain rfl fun ρ wr ho hr hd => ?_
          exact does_move rfl ((hr.1 4 rfl).trans rfl) ⟨in_eq rfl, Old.refl _⟩
        · refine step_plain rfl fun ρ wr ho hr hd => ?_
          exact does_move rfl ((hr.1 5 rfl).trans rfl) ⟨in_eq rfl, Old.refl _⟩
        · refine step_plain rfl fun ρ wr ho hr hd => ?_
          exact does_move rfl ((hr.1 5 rfl).trans rfl) ⟨in_eq rfl, Old.refl _⟩
        · refine step_plain rfl fun ρ wr ho hr hd => ?_
          obtain ⟨e0, _⟩ := hd
          have d0 : ρ (.tmp 49) = .string S := spOf_eq (e0 rfl) rfl
          refine does_lenS rfl rfl d0 ?_
          rw [hz]
          exact ⟨in_eq rfl, Old.refl _⟩
        · refine step_plain rfl fun ρ wr ho hr hd => ?_
          obtain ⟨e0, _⟩ := hd
          have d0 : ρ (.tmp 50) = .int .i64 ((m + 4 : Nat) : Int) := spOf_eq (e0 rfl) rfl
          exact does_sub4 rfl d0 (hr.2.1 _) (by omega) ⟨in_eq rfl, Old.refl _⟩
        · refine step_plain rfl fun ρ wr ho hr hd => ?_
          obtain ⟨e0, e1, _⟩ := hd
          have d0 : ρ (.tmp 48) = .string S := spOf_eq (e0 rfl) rfl
          have d1 : ρ (.tmp 51) = .int .i64 (m : Int) := spOf_eq (e1 rfl) rfl
          refine does_upto rfl d0 d1 (by omega) (by omega) ?_
          rw [HS.out, take_ext0]
          exact ⟨in_eq rfl, Old.refl _⟩
        · refine step_plain rfl fun ρ wr ho hr hd => ?_
          obtain ⟨e0, e1, _⟩ := hd
          have d0 : ρ (.tmp 47) = .string (st (sgL n)) := spOf_eq (e0 rfl) rfl
          have d1 : ρ (.tmp 52) = .string (st ((low (m + 4) n.natAbs).take m)) := spOf_eq (e1 rfl) rfl
          exact does_addL rfl d0 d1 (by simp only [List.length_append, List.length_cons, List.length_nil, List.length_take, List.length_drop, low_len]; omega) ⟨in_eq rfl, Old.refl _⟩
        · refine step_plain rfl fun ρ wr ho hr hd => ?_
          obtain ⟨e0, _⟩ := hd
          have d0 : ρ (.tmp 53) = .string (st ((sgL n) ++ (low (m + 4) n.natAbs).take m)) := spOf_eq (e0 rfl) rfl
          exact does_addL rfl d0 ((hr.2.1 _).trans rfl) (by simp only [List.length_append, List.length_cons, List.length_nil, List.length_take, List.length_drop, low_len]; omega) ⟨in_eq rfl, Old.refl _⟩
        · refine step_plain rfl fun ρ wr ho hr hd => ?_
          exact does_move rfl ((hr.1 5 rfl).trans rfl) ⟨in_eq rfl, Old.refl _⟩
        · refine step_plain rfl fun ρ wr ho hr hd => ?_
          exact does_move rfl ((hr.1 5 rfl).trans rfl) ⟨in_eq rfl, Old.refl _⟩
        · refine step_plain rfl fun ρ wr ho hr hd => ?_
          obtain ⟨e0, _⟩ := hd
          have d0 : ρ (.tmp 56) = .string S := spOf_eq (e0 rfl) rfl
          refine does_lenS rfl rfl d0 ?_
          rw [hz]
          exact ⟨in_eq rfl, Old.refl _⟩
        · refine step_plain rfl fun ρ wr ho hr hd => ?_
          obtain ⟨e0, _⟩ := hd
          have d0 : ρ (.tmp 57) = .int .i64 ((m + 4 : Nat) : Int) := spOf_eq (e0 rfl) rfl
          exact does_sub4 rfl d0 (hr.2.1 _) (by omega) ⟨in_eq rfl, Old.refl _⟩
        · refine step_plain rfl fun ρ wr ho hr hd => ?_
          exact does_move rfl ((hr.1 6 rfl).trans rfl) ⟨in_eq rfl, Old.refl _⟩
        · refine step_plain rfl fun ρ wr ho hr hd => ?_
          obtain ⟨e0, e1, e2, _⟩ := hd
          have d0 : ρ (.tmp 55) = .string S := spOf_eq (e0 rfl) rfl
          have d1 : ρ (.tmp 58) = .int .i64 (m : Int) := spOf_eq (e1 rfl) rfl
          have d2 : ρ (.tmp 59) = .int .i64 (a : Int) := spOf_eq (e2 rfl) rfl
          refine does_part rfl d0 d1 d2 (by omega) (by omega) (by omega) ?_
          rw [HS.out, st_ext]
          exact ⟨in_eq rfl, Old.refl _⟩
        · refine step_plain rfl fun ρ wr ho hr hd => ?_
          obtain ⟨e0, e1, _⟩ := hd
          have d0 : ρ (.tmp 54) = .string (st ((sgL n) ++ (low (m + 4) n.natAbs).take m ++ [46])) := spOf_eq (e0 rfl) rfl
          have d1 : ρ (.tmp 60) = .string (st (((low (m + 4) n.natAbs).drop m).take (a - m))) := spOf_eq (e1 rfl) rfl
          exact does_addL rfl d0 d1 (by simp only [List.length_append, List.length_cons, List.length_nil, List.length_take, List.length_drop, low_len]; omega) ⟨in_eq rfl, Old.refl _⟩
        · refine step_plain rfl fun ρ wr ho hr hd => ?_
          obtain ⟨e0, _⟩ := hd
          have d0 : ρ (.tmp 61) = .string (st ((sgL n) ++ (low (m + 4) n.natAbs).take m ++ [46] ++ ((low (m + 4) n.natAbs).drop m).take (a - m))) := spOf_eq (e0 rfl) rfl
          exact does_assign rfl d0 ⟨in_eq rfl, Old.refl _⟩
      · intro a' w' ho hst hlf
        obtain ⟨_, _, _, _, _, _, _, _, _, _, _, _, _, _, _, e2, _⟩ := hlf
        have e2 : a'.eval (.tmp 2) = .string (st ((sgL n) ++ (low (m + 4) n.natAbs).take m ++ [46] ++ ((low (m + 4) n.natAbs).drop m).take (a - m))) := spOf_eq e2 rfl
        rw [act_fresh hst [false, false, true, false, false, false, false, false, false, false, false, false, false, false, false, false, false, false, false, false, false, false, false, false, false, false, false, false, false, false, false, false, false, false, false, false, false, false, false, false, false, false, false, false, false, false, false, true, true, true, true, true, true, true, true, true, true, true, true, true, true, true, false, false, false, false, false, false, false, false, false, false, false, false, false, false, false, false, false, false, false, false, false, false, false, false, false, false, false, false, false, false, false, false, false, false, false, false, false, false, false, false, false] (by kernel_rfl) (by kernel_rfl)]
        simp only [fresh, e2]
        go_wp2_with fail
        go_ret
        refine ⟨rs ?_, HO.out.trans (o3.trans ho)⟩
        have hA := HA.out.2.2
        rw [HS.out] at hA
        have hD := dec_trimmed HJ.out (by omega) (by omega) hA.1 hA.2
        simp only [List.append_assoc, List.cons_append, List.nil_append] at hD
        rw [hD]
        unfold textL
        rw [HM.out]
        rfl
    by_cases h3 : k = 3
    · obtain rfl := h3
      have hk3 : s.size ≤ 200 := may_str HM.out
      have HG := Lib.hid (fun q (h : q < s.size) => bt_get s q h)
      go_wp2_with fail
      go_loopw [7, 8] (fun t i wr => ∃ q : Nat, q ≤ s.size ∧ i = .int .i64 (q : Int) ∧ t = .string (st (34 :: escL (s.data.toList.take q))) ∧ wr = wc) (fun _ i _ => (s.size - RowKit.intOf i).toNat)
      case atStart => exact ⟨0, Nat.zero_le _, rfl, rfl, rfl⟩
      case round =>
        obtain ⟨q, hq, rfl, rfl, hw⟩ := hrel
        subst hw
        have hx : (st (34 :: escL (s.data.toList.take q))).size ≤ 401 := by
          rw [st_size, List.length_cons]
          have := escL_len (s.data.toList.take q)
          have := List.length_take_le q s.data.toList
          omega
        by_cases hqn : q < s.size
        · obtain ⟨X, hX⟩ : ∃ X, X = 34 :: escL (s.data.toList.take q) := ⟨_, rfl⟩
          have HXX := Lib.hid hX.symm
          rw [← hX] at hx ⊢
          clear hX
          have g := HG.out q hqn
          have hb0 := bt_of hqn
          have hm2 := esc_more hqn
          obtain ⟨u, hu⟩ : ∃ u, u = s.data.toList[q]'(by simpa using hqn) := ⟨_, rfl⟩
          rw [← hu] at hb0 hm2
          have hex : s.extract q (q + 1) = st [u] := by
            have h : (st s.data.toList).extract q (q + 1) = _ := st_ext _ _ _
            refine h.trans ?_
            rw [hu, Nat.add_sub_cancel_left, List.drop_eq_getElem_cons (by simpa using hqn)]
            rfl
          obtain ⟨b, hb⟩ : ∃ b, b = bt s q := ⟨_, rfl⟩
          rw [← hb] at g hb0
          have HB0 := Lib.hid hb0
          have HM2 := Lib.hid hm2
          clear hb hb0 hm2 hu
          have hsl : (Instr.slice 9 (.string s) (some (.int .i64 (q : Int))) (some (.int .i64 ((q : Int) + 1))) none).run Tryz.prog wr = .ok (.string (st [u])) wr := by
            rw [← hex]
            exact slice_part (S := s) (b := q) (e := q + 1) wr (by omega) (by omega) (by omega)
          obtain ⟨T, hT⟩ : ∃ T, T = st X := ⟨_, rfl⟩
          obtain ⟨V, hV⟩ : ∃ V, V = st [u] := ⟨_, rfl⟩
          have hv1 : V.size = 1 := by rw [hV]; rfl
          rw [← hT] at hx ⊢
          rw [← hV] at hsl
          have HTT := Lib.hid hT
          have HV := Lib.hid hV
          have hx2 : (T ++ ⟨#[92]⟩).size ≤ 402 := by
            rw [ByteArray.size_append]
            show T.size + 1 ≤ 402
            omega
          clear hT hV hex
          by_cases h34 : b = 34
          · have HE : Hid (escB u = [92, u]) := Lib.hid (by
              unfold escB
              rw [if_pos]
              left; apply UInt8.toNat_inj.1; have := HB0.out; simp; omega)
            subst h34
            go_wp2_with fail
            go_roundw
            case rel =>
              refine ⟨q + 1, by omega, by go_num, ?_, trivial⟩
              rw [HM2.out, HE.out, ← List.cons_append, HXX.out, HTT.out, HV.out]
              exact congrArg Value.string ((congrArg (· ++ st [u]) (app_st X [92])).trans ((app_st (X ++ [92]) [u]).trans (by simp [List.append_assoc])))
            case measure => simp [RowKit.intOf]; omega
          by_cases h92 : b = 92
          · have HE : Hid (escB u = [92, u]) := Lib.hid (by
              unfold escB
              rw [if_pos]
              right; apply UInt8.toNat_inj.1; have := HB0.out; simp; omega)
            subst h92
            go_wp2_with fail
            go_roundw
            case rel =>
              refine ⟨q + 1, by omega, by go_num, ?_, trivial⟩
              rw [HM2.out, HE.out, ← List.cons_append, HXX.out, HTT.out, HV.out]
              exact congrArg Value.string ((congrArg (· ++ st [u]) (app_st X [92])).trans ((app_st (X ++ [92]) [u]).trans (by simp [List.append_assoc])))
            case measure => simp [RowKit.intOf]; omega
          · have HE : Hid (escB u = [u]) := Lib.hid (by
              unfold escB
              rw [if_neg]
              have := HB0.out
              rintro (e | e)
              · apply h34; rw [this, e]; rfl
              · apply h92; rw [this, e]; rfl)
            have e34 : (b == 34) = false := by simpa using h34
            have e92 : (b == 92) = false := by simpa using h92
            clear h34 h92
            go_wp2_with fail
            go_roundw
            case rel =>
              refine ⟨q + 1, by omega, by go_num, ?_, trivial⟩
              rw [HM2.out, HE.out, ← List.cons_append, HXX.out, HTT.out, HV.out]
              exact congrArg Value.string (app_st X [u])
            case measure => simp [RowKit.intOf]; omega
        · have hqe : q = s.size := by omega
          have ht : s.data.toList.take q = s.data.toList := List.take_of_length_le (by rw [hqe]; exact Nat.le_of_eq (by simp))
          rw [ht] at hx ⊢
          obtain ⟨T, hT⟩ : ∃ T, T = st (34 :: escL s.data.toList) := ⟨_, rfl⟩
          rw [← hT] at hx ⊢
          have HTT := Lib.hid hT
          clear hT
          have HQ := Lib.hid hqe
          clear hqe ht
          go_wp2_with fail
          go_ret
          refine ⟨(congrArg (fun b => Ending.returned (.string b)) ((congrArg (· ++ st [34]) HTT.out).trans (app_st (34 :: escL s.data.toList) [34]))).trans (rs ?_), HO.out⟩
          unfold textL
          rw [HM.out]
          rfl
    by_cases h4 : k = 4
    · obtain rfl := h4
      by_cases hn1 : n = 1
      · subst hn1
        go_wp2_with fail
        go_ret
        exact ⟨rs (by unfold textL; rw [HM.out]; rfl), HO.out⟩
      · go_wp2_with fail
        go_ret
        refine ⟨rs ?_, HO.out⟩
        unfold textL
        rw [HM.out]
        have e : (n == 1) = false := by simpa using hn1
        show _ = Lib.formatBool (n == 1)
        rw [e]
        rfl
    by_cases h5 : k = 5
    · obtain rfl := h5
      go_wp2_with fail
      go_ret
      refine ⟨(congrArg (fun b => Ending.returned (.string b)) (app_st [35] s.data.toList)).trans (rs ?_), HO.out⟩
      unfold textL
      rw [HM.out]
      rfl
    have h0 : k = 0 := by
      have := HM.out
      unfold mayB at this
      refine Classical.byContradiction fun h => ?_
      simp [h, h1, h2, h3, h4, h5] at this
    subst h0
    go_wp2_with fail
    go_ret
    exact ⟨rs (by unfold textL; rw [HM.out]; rfl), HO.out⟩
end Go.Proofs.YtcedcfkjoppjdaaGreatDoor
