/- Rows of numbers: the document's Rows, Equal, the greatest, a copy. -/
import Derived.Test.YtdcfaniimhjghaaOB
namespace Go.Proofs.Ytdcfaniimhjghaa
open Go.ChangeShapes Go.WideShapes Go.ChangeAt Go.RowKit Go.Lib
set_option linter.unusedVariables false
set_option linter.unusedSimpArgs false
set_option maxRecDepth 100000
set_option maxHeartbeats 800000

theorem info3 : (Try.prog.info? 3).map (fun i => (i.zero, i.size, i.bytes)) = some (some (.int .i64 0), 1, 8) := by kernel_rfl
theorem info25 : (Try.prog.info? 25).map (fun i => (i.zero, i.size, i.bytes)) = some (some (.agg #[.int .i64 0, .slice none 0 0, .int .i64 0]), 3, 40) := by kernel_rfl

theorem rrows_any {w : World} {a b : Value} {l m : List Int} (ha : IR w a l) (hb : IR w b m) :
    Calls Try.prog 12 #[a, b] w fun e w' => e = .returned (.int .i64 (rowC l m)) ∧ Old w w' := by
  have hla := ha.len
  have hlb := hb.len
  obtain ⟨oa, ca, rfl, _, _, ea⟩ := ha.shape
  obtain ⟨ob, cb, rfl, _, _, eb⟩ := hb.shape
  have HE := Lib.hid ea
  have HF := Lib.hid eb
  obtain ⟨n, hn⟩ : ∃ n, n = l.length := ⟨_, rfl⟩
  obtain ⟨q, hq⟩ : ∃ q, q = m.length := ⟨_, rfl⟩
  generalize hP : rowC l m = R
  have HP := Lib.hid hP
  rw [← hn] at hla ⊢
  rw [← hq] at hlb ⊢
  have HN := Lib.hid (And.intro hn hq)
  clear hP ea eb ha hb hn hq
  go_enter Try.func12, Try.ntmps12
  go_wp2
  go_loopw [5] (fun s wr => ∃ k : Nat, s = .int .i64 (k : Int) ∧ k ≤ n ∧ k ≤ q ∧ Hid (∀ j, j < k → l[j]? = m[j]?) ∧ Hid (Old w wr)) (fun s wr => n - (RowKit.intOf s).toNat)
  case atStart => exact ⟨0, rfl, Nat.zero_le _, Nat.zero_le _, Lib.hid (fun j hj => by omega), Lib.hid (Old.refl w)⟩
  case round =>
    obtain ⟨k, rfl, hk, hk2, HS, HO⟩ := hrel
    by_cases hlt : k < n
    · have hlti : (k : Int) < (n : Int) := by omega
      by_cases hge : k < q
      · have hgei : (k : Int) < (q : Int) := by omega
        obtain ⟨x, hx⟩ : ∃ x, l[k]? = some x := ⟨l[k]'(by rw [← HN.out.1]; exact hlt), List.getElem?_eq_getElem _⟩
        obtain ⟨y, hy⟩ : ∃ y, m[k]? = some y := ⟨m[k]'(by rw [← HN.out.2]; exact hge), List.getElem?_eq_getElem _⟩
        obtain ⟨g, o, rfl, hg, cx⟩ := HE.out k x hx
        obtain ⟨g', o', rfl, hg', cy⟩ := HF.out k y hy
        have dx := (HO.out.cell (p := ⟨g, o + k, none⟩) hg).trans cx
        have dy := (HO.out.cell (p := ⟨g', o' + k, none⟩) hg').trans cy
        have h0k : (0 : Int) ≤ (k : Int) := by omega
        have HX := Lib.hid hx
        have HY := Lib.hid hy
        have HLT := Lib.hid hlt
        have HGE := Lib.hid hge
        rcases cI_cases x y with ⟨h1, h2⟩ | ⟨h1, h2⟩ | ⟨h1, h2⟩
        · have HC := Lib.hid h2
          clear hx hy hlt hge hk hk2 cx cy h2
          go_upto_region 4 with fail
          go_quiet (fail)
          go_wp2
          go_ret
          refine ⟨?_, HO.out.drewN _⟩
          rw [← HP.out, rowC_at HS.out HX.out HY.out (by rw [HC.out]; decide), HC.out]
          rfl
        · subst h1
          have h3 : ¬ x < x := by omega
          clear hx hy hlt hge hk hk2 cx cy h2
          go_upto_region 4 with fail
          go_quiet (fail)
          go_upto_region 6 with fail
          go_quiet (fail)
          go_wp2
          refine ⟨⟨k + 1, by simp, HLT.out, HGE.out, Lib.hid (fun j hj => ?_), Lib.hid (HO.out.drewN _)⟩, ?_⟩
          · by_cases e : j = k
            · subst e; rw [HX.out, HY.out]
            · exact HS.out j (by omega)
          · have e1 : (RowKit.intOf (Value.int IntKind.i64 ((k : Int) + 1))).toNat = k + 1 := by show ((k : Int) + 1).toNat = k + 1; omega
            have e2 : (RowKit.intOf (Value.int IntKind.i64 (k : Int))).toNat = k := by show ((k : Int)).toNat = k; omega
            have := HLT.out
            rw [e1, e2]
            omega
        · have HC := Lib.hid h2
          have h3 : ¬ x < y := by omega
          clear hx hy hlt hge hk hk2 cx cy h2
          go_upto_region 4 with fail
          go_quiet (fail)
          go_upto_region 6 with fail
          go_quiet (fail)
          go_wp2
          go_ret
          refine ⟨?_, HO.out.drewN _⟩
          rw [← HP.out, rowC_at HS.out HX.out HY.out (by rw [HC.out]; decide), HC.out]
          rfl
      · have hgei : ¬ (k : Int) < (q : Int) := by omega
        have hgb : decide ((k : Int) < (q : Int)) = false := decide_eq_false hgei
        have e : k = q := by omega
        have hqn : ¬ (n : Int) < (q : Int) := by omega
        have hqn2 : (q : Int) < (n : Int) := by omega
        have HEK := Lib.hid e
        have HLT := Lib.hid hlt
        clear hlt hk hk2 e hge
        go_wp2_with fail
        go_ret
        refine ⟨?_, HO.out⟩
        have e := HEK.out
        have hS := HS.out
        rw [e, HN.out.2] at hS
        rw [← HP.out, rowC_end' hS (by have := HLT.out; have := HN.out; omega)]
        rfl
    · have hlti : ¬ (k : Int) < (n : Int) := by omega
      have hlb2 : decide ((k : Int) < (n : Int)) = false := decide_eq_false hlti
      have e : k = n := by omega
      have HEK := Lib.hid e
      have hnq : ¬ (q : Int) < (n : Int) := by omega
      by_cases h2 : n < q
      · have h2i : (n : Int) < (q : Int) := by omega
        have H2 := Lib.hid h2
        clear hlt hk hk2 e h2
        go_wp2_with fail
        go_ret
        refine ⟨?_, HO.out⟩
        have hS := HS.out
        rw [HEK.out, HN.out.1] at hS
        rw [← HP.out, rowC_end hS (by have := H2.out; have := HN.out; omega), if_pos (by have := H2.out; have := HN.out; omega)]
        rfl
      · have h2i : ¬ (n : Int) < (q : Int) := by omega
        have H2 := Lib.hid h2
        clear hlt hk e h2
        go_wp2_with fail
        go_ret
        refine ⟨?_, HO.out⟩
        have hS := HS.out
        rw [HEK.out, HN.out.1] at hS
        rw [← HP.out, rowC_end hS (by have := HEK.out; have := HN.out; omega), if_neg (by have := H2.out; have := HN.out; omega)]
        rfl

theorem equal_any {w : World} {a b : Value} {l m : List Int} (ha : IR w a l) (hb : IR w b m) :
    Calls Try.prog 28 #[a, b] w fun e w' => e = .returned (.bool (decide (l = m))) ∧ Old w w' := by
  have hla := ha.len
  have hlb' := hb.len
  obtain ⟨oa, ca, rfl, _, _, ea⟩ := ha.shape
  obtain ⟨ob, cb, rfl, _, _, eb⟩ := hb.shape
  by_cases hlen : l.length = m.length
  · have hlb : ((l.length : Int) != (m.length : Int)) = false := by simp [hlen]
    have HE := Lib.hid ea
    have HF := Lib.hid eb
    have hLi : (l.length : Int) ≤ 9223372036854775807 := by omega
    have HN := Lib.hid hlen
    generalize hP : decide (l = m) = R
    have HP := Lib.hid hP
    clear hP hlen ea eb ha hb
    go_enter Try.func28, Try.ntmps28
    go_wp2
    go_loopw [13] (fun s wr => ∃ k : Nat, s = .int .i64 (k : Int) ∧ k ≤ l.length ∧ Hid (∀ j, j < k → l[j]? = m[j]?) ∧ Hid (Old w wr)) (fun s wr => l.length - (RowKit.intOf s).toNat)
    case atStart => exact ⟨0, rfl, Nat.zero_le _, Lib.hid (fun j hj => by omega), Lib.hid (Old.refl w)⟩
    case round =>
      obtain ⟨k, rfl, hk, HS, HO⟩ := hrel
      by_cases hlt : k < l.length
      · obtain ⟨x, hx⟩ : ∃ x, l[k]? = some x := ⟨l[k], List.getElem?_eq_getElem hlt⟩
        have hlt2 : k < m.length := by have := HN.out; omega
        obtain ⟨y, hy⟩ : ∃ y, m[k]? = some y := ⟨m[k], List.getElem?_eq_getElem hlt2⟩
        obtain ⟨g, o, rfl, hg, cx⟩ := HE.out k x hx
        obtain ⟨g', o', rfl, hg', cy⟩ := HF.out k y hy
        have dx := (HO.out.cell (p := ⟨g, o + k, none⟩) hg).trans cx
        have dy := (HO.out.cell (p := ⟨g', o' + k, none⟩) hg').trans cy
        have h0k : (0 : Int) ≤ (k : Int) := by omega
        have hlti : (k : Int) < (l.length : Int) := by omega
        have hlti2 : (k : Int) < (m.length : Int) := by omega
        have HX := Lib.hid hx
        have HY := Lib.hid hy
        have HLT := Lib.hid hlt
        by_cases hxy : x = y
        · subst hxy
          have hne : (x != x) = false := by simp
          clear hx hy hlt hlt2 hk cx cy
          go_upto_region 6 with fail
          go_quiet (fail)
          go_wp2
          refine ⟨⟨k + 1, by simp, HLT.out, Lib.hid (fun j hj => ?_), Lib.hid (HO.out.drewN _)⟩, ?_⟩
          · by_cases e : j = k
            · subst e; rw [HX.out, HY.out]
            · exact HS.out j (by omega)
          · have e1 : (RowKit.intOf (Value.int IntKind.i64 ((k : Int) + 1))).toNat = k + 1 := by show ((k : Int) + 1).toNat = k + 1; omega
            have e2 : (RowKit.intOf (Value.int IntKind.i64 (k : Int))).toNat = k := by show ((k : Int)).toNat = k; omega
            have := HLT.out
            rw [e1, e2]
            omega
        · have hne : (x != y) = true := by simpa using hxy
          have HXY := Lib.hid hxy
          clear hx hy hlt hlt2 hk cx cy hxy
          go_upto_region 6 with fail
          go_quiet (fail)
          go_wp2
          go_ret
          refine ⟨?_, HO.out.drewN _⟩
          rw [← HP.out]
          refine rb _ _ (decide_eq_false (fun e => ?_)).symm
          have h1 := HX.out
          rw [e, HY.out] at h1
          exact HXY.out (Option.some.inj h1).symm
      · have hge : (l.length : Int) ≤ (k : Int) := by omega
        have HGE := Lib.hid (show l.length ≤ k by omega)
        clear hlt hk hlb hLi
        go_wp2
        go_ret
        refine ⟨?_, HO.out⟩
        rw [← HP.out]
        refine rb _ _ (decide_eq_true (List.ext_getElem? fun j => ?_)).symm
        by_cases e : j < k
        · exact HS.out j e
        · have h1 : l.length ≤ j := by have := HGE.out; omega
          have h2 : m.length ≤ j := by have := HN.out; omega
          exact (List.getElem?_eq_none h1).trans (List.getElem?_eq_none h2).symm
  · have hlb : ((l.length : Int) != (m.length : Int)) = true := by simp; omega
    have hd : decide (l = m) = false := decide_eq_false (fun e => hlen (by rw [e]))
    rw [hd]
    clear hd hlen
    go_enter Try.func28, Try.ntmps28
    go_wp2
    go_ret
    exact ⟨rfl, Old.refl w⟩

theorem head_srt {l : List Int} {x : Int} (h1 : x ∈ l) (h2 : ∀ y ∈ l, y ≤ x) : (srt l).headD 0 = x := by
  have hp := srt_perm l
  have hs := srt_sorted l
  have hm := hp.mem_iff.2 h1
  cases he : srt l with
  | nil => rw [he] at hm; cases hm
  | cons y r =>
    rw [he] at hm hs hp
    obtain ⟨h3, _⟩ := List.pairwise_cons.1 hs
    have h4 := h2 y (hp.mem_iff.1 (List.mem_cons_self ..))
    rcases List.mem_cons.1 hm with rfl | h5
    · rfl
    · have := h3 x h5
      show y = x
      omega
theorem max_any {w : World} {a : Value} {l : List Int} (ha : IR w a l) (hne : 0 < l.length) :
    Calls Try.prog 31 #[a] w fun e w' => e = .returned (.int .i64 ((srt l).headD 0)) ∧ w' = w := by
  have hla := ha.len
  obtain ⟨oa, ca, rfl, _, _, ea⟩ := ha.shape
  have HE := Lib.hid ea
  obtain ⟨x0, hx0⟩ : ∃ x, l[0]? = some x := ⟨l[0], List.getElem?_eq_getElem hne⟩
  obtain ⟨n, hn⟩ : ∃ n, n = l.length := ⟨_, rfl⟩
  generalize hP : (srt l).headD 0 = R
  have HP := Lib.hid hP
  obtain ⟨g, o, rfl, hg, c0⟩ := ea 0 x0 hx0
  rw [Nat.add_zero] at c0
  rw [← hn] at hla hne ⊢
  have HN := Lib.hid hn
  have HX0 := Lib.hid hx0
  have h1n : ¬ (n : Int) < 1 := by omega
  have hn0 : (0 : Int) < (n : Int) := by omega
  clear hP ea ha hn hx0
  go_enter Try.func31, Try.ntmps31
  go_wp2
  go_loopw [3, 4] (fun s3 s4 wr => ∃ (k : Nat) (x : Int), s3 = .int .i64 x ∧ s4 = .int .i64 (k : Int) ∧ k ≤ n ∧ 0 < k ∧ Hid (x ∈ l ∧ ∀ (j : Nat) y, j < k → l[j]? = some y → y ≤ x) ∧ wr = w) (fun _ s wr => n - (RowKit.intOf s).toNat)
  case atStart => exact ⟨1, x0, rfl, rfl, hne, Nat.one_pos, Lib.hid ⟨List.mem_of_getElem? HX0.out, fun j y hj hy => by
    obtain rfl : j = 0 := by omega
    rw [HX0.out] at hy
    have := Option.some.inj hy
    omega⟩, rfl⟩
  case round =>
    obtain ⟨k, x, rfl, rfl, hk, hk0, HS, rfl⟩ := hrel
    by_cases hlt : k < n
    · have hlti : (k : Int) < (n : Int) := by omega
      obtain ⟨y, hy⟩ : ∃ y, l[k]? = some y := ⟨l[k]'(by rw [← HN.out]; exact hlt), List.getElem?_eq_getElem _⟩
      obtain ⟨g', o', e, hg', cy⟩ := HE.out k y hy
      simp only [Option.some.injEq, Addr.mk.injEq, and_true] at e
      obtain ⟨rfl, rfl⟩ := e
      have h0k : (0 : Int) ≤ (k : Int) := by omega
      have HY := Lib.hid hy
      have HLT := Lib.hid hlt
      clear hy hlt hk
      go_wp2_with fail
      refine ⟨⟨k + 1, max x y, ?_, by simp, HLT.out, by omega, Lib.hid ⟨?_, fun j z hj hz => ?_⟩, trivial⟩, ?_⟩
      · first | rfl | (congr 1; omega)
      · rcases Int.le_total x y with h | h
        · rw [Int.max_eq_right h]; exact List.mem_of_getElem? HY.out
        · rw [Int.max_eq_left h]; exact HS.out.1
      · by_cases e : j = k
        · subst e
          rw [HY.out] at hz
          have := Option.some.inj hz
          omega
        · have := HS.out.2 j z (by omega) hz
          omega
      · have e1 : (RowKit.intOf (Value.int IntKind.i64 ((k : Int) + 1))).toNat = k + 1 := by show ((k : Int) + 1).toNat = k + 1; omega
        have e2 : (RowKit.intOf (Value.int IntKind.i64 (k : Int))).toNat = k := by show ((k : Int)).toNat = k; omega
        have := HLT.out
        rw [e1, e2]
        omega
    · have hlti : ¬ (k : Int) < (n : Int) := by omega
      have HG := Lib.hid (show n ≤ k by omega)
      clear hlt hk
      go_wp2_with fail
      go_ret
      refine ⟨?_, rfl⟩
      rw [← HP.out, head_srt HS.out.1 (fun y hy => by
        obtain ⟨j, hj⟩ := List.mem_iff_getElem?.1 hy
        have := (List.getElem?_eq_some_iff.1 hj).1
        exact HS.out.2 j y (by have := HG.out; have := HN.out; omega) hj)]
      rfl
theorem greatest_any {w : World} {a : Value} {l : List Int} (ha : IR w a l) :
    Calls Try.prog 20 #[a] w fun e w' => e = .returned (.int .i64 ((srt l).headD 0)) ∧ w' = w := by
  by_cases hne : 0 < l.length
  · have hc := max_any ha hne
    obtain ⟨oa, ca, rfl, _, _, ea⟩ := ha.shape
    have hnz : ((l.length : Int) == 0) = false := beq_eq_false_iff_ne.2 (by omega)
    generalize (srt l).headD 0 = R at hc ⊢
    clear ea ha
    go_enter Try.func20, Try.ntmps20
    go_wp2_with (first | (go_at_call 31; (with_reducible refine hc.mono ?_); rintro e w2 ⟨rfl, rfl⟩))
    go_ret
    exact ⟨rfl, rfl⟩
  · obtain rfl : l = [] := List.eq_nil_of_length_eq_zero (by omega)
    obtain ⟨oa, ca, rfl, _, _, ea⟩ := ha.shape
    have e0 : (srt []).headD 0 = 0 := by simp [srt]
    rw [e0]
    clear ea ha hne
    go_enter Try.func20, Try.ntmps20
    go_wp2_with fail
    go_ret
    exact ⟨rfl, rfl⟩
end Go.Proofs.Ytdcfaniimhjghaa
