/- Rows of numbers: read, compared, copied. -/
import Derived.Test.YtdcfaniimhjghaaOA
import Derived.Test.YtdcfaniimhjghaaPO
import Derived.Test.YtdcfaniimhjghaaSH
import Derived.Shelf.SlicesG.Cmp
import Derived.Deep.Cut
import Derived.Deep.CutBlock
namespace Go.Proofs.Ytdcfaniimhjghaa
open Go.ChangeShapes Go.WideShapes Go.ChangeAt Go.RowKit Go.Lib
set_option linter.unusedVariables false
set_option linter.unusedSimpArgs false
set_option maxRecDepth 100000
set_option maxHeartbeats 800000

def ics (l : List Int) : List Value := l.map (Value.int .i64)
theorem ics_len (l : List Int) : (ics l).length = l.length := by simp [ics]
theorem ics_at {l : List Int} {j : Nat} {x : Int} (h : l[j]? = some x) : (ics l)[j]? = some (.int .i64 x) := by simp [ics, h]
theorem ics_one (l : List Int) : ∀ u ∈ ics l, u.oneCell' = true := fun u hu => by
  obtain ⟨x, _, rfl⟩ := List.mem_map.1 hu
  rfl
/-- The slice v reads as these numbers. -/
def IR (w : World) (v : Value) (l : List Int) : Prop := CR w v l.length 1 (ics l)
theorem IR.old {w w' : World} {v : Value} {l : List Int} (h : IR w v l) (ho : Old w w') : IR w' v l := CR.old h ho
theorem IR.shape {w : World} {v : Value} {l : List Int} (h : IR w v l) : ∃ oa cap, v = .slice oa l.length cap ∧ l.length ≤ cap ∧ cap ≤ maxLen ∧ ∀ j x, l[j]? = some x → ∃ g o, oa = some ⟨g, o, none⟩ ∧ g < w.heap.size ∧ w.cell? ⟨g, o + j, none⟩ = some (.int .i64 x) := by
  obtain ⟨oa, cap, rfl, h1, h2, _, h4⟩ := h
  exact ⟨oa, cap, rfl, h1, h2, fun j x hj => h4 j _ (ics_at hj)⟩
theorem IR.len {w : World} {v : Value} {l : List Int} (h : IR w v l) : l.length ≤ 9223372036854775807 := by
  obtain ⟨oa, cap, rfl, h1, h2, _⟩ := h.shape
  unfold maxLen at h2
  omega
/-- A new slice of these numbers. -/
def Ints (w : World) (base : Nat) (v : Value) (l : List Int) : Prop := w.ownsRow base 3 1 v l.length (ics l)
theorem Ints.old {w w' : World} {base : Nat} {v : Value} {l : List Int} (h : Ints w base v l) (ho : Old w w') : Ints w' base v l := own_old h ho
theorem Ints.low {w : World} {base base' : Nat} {v : Value} {l : List Int} (h : Ints w base v l) (hb : base' ≤ base) : Ints w base' v l := own_low h hb
theorem Ints.ir {w : World} {base : Nat} {v : Value} {l : List Int} (h : Ints w base v l) : IR w v l := CR.owned h
theorem Ints.shape {w : World} {base : Nat} {v : Value} {l : List Int} (h : Ints w base v l) : ∃ oa cap, v = .slice oa l.length cap := own_shape h

theorem rowcmp_any {w : World} {a b : Value} {l m : List Int} (ha : IR w a l) (hb : IR w b m) :
    Calls Try.prog 37 #[a, b] w fun e w' => e = .returned (.int .i64 (rowC l m)) ∧ w' = w := by
  have hla := ha.len
  have hlb := hb.len
  obtain ⟨oa, ca, rfl, _, _, ea⟩ := ha.shape
  obtain ⟨ob, cb, rfl, _, _, eb⟩ := hb.shape
  have hcon : ∀ x y W', Calls Try.prog 24 #[.int .i64 x, .int .i64 y] W' fun e w' => e = .returned (.int .i64 (cI x y)) ∧ w' = W' := fun x y W' => AnyG.cmp_Compare_int Try.laysCmp x y W'
  have HC := Lib.hid hcon
  have HE := Lib.hid ea
  have HF := Lib.hid eb
  obtain ⟨n, hn⟩ : ∃ n, n = l.length := ⟨_, rfl⟩
  obtain ⟨q, hq⟩ : ∃ q, q = m.length := ⟨_, rfl⟩
  generalize hP : rowC l m = R
  have HP := Lib.hid hP
  rw [← hn] at hla ⊢
  rw [← hq] at hlb ⊢
  have HN := Lib.hid (And.intro hn hq)
  clear hP ea eb hcon ha hb hn hq
  go_enter Try.func37, Try.ntmps37
  go_wp2
  go_loopw [11] (fun s wr => ∃ k : Nat, s = .int .i64 (k : Int) ∧ k ≤ n ∧ k ≤ q ∧ Hid (∀ j, j < k → l[j]? = m[j]?) ∧ wr = w) (fun s wr => n - (RowKit.intOf s).toNat)
  case atStart => exact ⟨0, rfl, Nat.zero_le _, Nat.zero_le _, Lib.hid (fun j hj => by omega), rfl⟩
  case round =>
    obtain ⟨k, rfl, hk, hk2, HS, rfl⟩ := hrel
    by_cases hlt : k < n
    · obtain ⟨x, hx⟩ : ∃ x, l[k]? = some x := ⟨l[k]'(by rw [← HN.out.1]; exact hlt), List.getElem?_eq_getElem _⟩
      obtain ⟨g, o, rfl, hg, cx⟩ := HE.out k x hx
      have h0k : (0 : Int) ≤ (k : Int) := by omega
      have hlti : (k : Int) < (n : Int) := by omega
      have HX := Lib.hid hx
      have HLT := Lib.hid hlt
      by_cases hge : k < q
      · obtain ⟨y, hy⟩ : ∃ y, m[k]? = some y := ⟨m[k]'(by rw [← HN.out.2]; exact hge), List.getElem?_eq_getElem _⟩
        obtain ⟨g', o', rfl, hg', cy⟩ := HF.out k y hy
        have hgei : (k : Int) < (q : Int) := by omega
        have hnge : ¬ (q : Int) ≤ (k : Int) := by omega
        have HY := Lib.hid hy
        have HGE := Lib.hid hge
        have hc := HC.out x y wr
        obtain ⟨c, hcc⟩ : ∃ c, c = cI x y := ⟨_, rfl⟩
        rw [← hcc] at hc
        have HCC := Lib.hid hcc
        by_cases hz : c = 0
        · subst hz
          clear hx hy hlt hge hk hcc
          go_wp2_with (first | (go_at_call 24; (with_reducible refine hc.mono ?_); rintro e w2 ⟨rfl, rfl⟩))
          refine ⟨⟨k + 1, by simp, HLT.out, HGE.out, Lib.hid (fun j hj => ?_), trivial⟩, ?_⟩
          · by_cases e : j = k
            · subst e; rw [HX.out, HY.out, cI_zero HCC.out.symm]
            · exact HS.out j (by omega)
          · have e1 : (RowKit.intOf (Value.int IntKind.i64 ((k : Int) + 1))).toNat = k + 1 := by show ((k : Int) + 1).toNat = k + 1; omega
            have e2 : (RowKit.intOf (Value.int IntKind.i64 (k : Int))).toNat = k := by show ((k : Int)).toNat = k; omega
            have := HLT.out
            rw [e1, e2]
            omega
        · have hz2 : (c != 0) = true := by simpa using hz
          have HZ := Lib.hid hz
          clear hx hy hlt hge hk hcc hz
          go_wp2_with (first | (go_at_call 24; (with_reducible refine hc.mono ?_); rintro e w2 ⟨rfl, rfl⟩))
          go_ret
          refine ⟨?_, rfl⟩
          have := rowC_at HS.out HX.out HY.out (by rw [← HCC.out]; exact HZ.out)
          rw [← HP.out, this, ← HCC.out]
          rfl
      · have hgei : (q : Int) ≤ (k : Int) := by omega
        have e : k = q := by omega
        have HEK := Lib.hid e
        clear hx hlt hk e hge
        go_wp2_with fail
        go_ret
        refine ⟨?_, rfl⟩
        have e := HEK.out
        have hS := HS.out
        rw [e, HN.out.2] at hS
        rw [← HP.out, rowC_end' hS (by have := HLT.out; have := HN.out; omega)]
        rfl
    · have hlti : ¬ (k : Int) < (n : Int) := by omega
      have e : k = n := by omega
      have HEK := Lib.hid e
      by_cases h2 : n < q
      · have h2i : (n : Int) < (q : Int) := by omega
        have H2 := Lib.hid h2
        clear hlt hk e h2
        go_wp2_with fail
        go_ret
        refine ⟨?_, rfl⟩
        have hS := HS.out
        rw [HEK.out, HN.out.1] at hS
        rw [← HP.out, rowC_end hS (by have := H2.out; have := HN.out; omega), if_pos (by have := H2.out; have := HN.out; omega)]
        rfl
      · have h2i : ¬ (n : Int) < (q : Int) := by omega
        have H2 := Lib.hid h2
        clear hlt hk e h2
        go_wp2_with fail
        go_ret
        refine ⟨?_, rfl⟩
        have hS := HS.out
        rw [HEK.out, HN.out.1] at hS
        rw [← HP.out, rowC_end hS (by have := HEK.out; have := HN.out; omega), if_neg (by have := H2.out; have := HN.out; omega)]
        rfl
end Go.Proofs.Ytdcfaniimhjghaa
