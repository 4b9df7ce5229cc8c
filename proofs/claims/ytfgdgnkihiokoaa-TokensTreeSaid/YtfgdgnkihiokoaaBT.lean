/- The laws' own calls: ints. -/
import Derived.Test.YtfgdgnkihiokoaaBR
namespace Go.Proofs.Ytfgdgnkihiokoaa
open Go.ChangeShapes Go.WideShapes Go.ChangeAt Go.RowKit Go.Lib
set_option linter.unusedVariables false
set_option linter.unusedSimpArgs false
set_option maxRecDepth 100000
set_option maxHeartbeats 800000

/-- The slice v reads as these numbers. -/
def IR (w : World) (v : Value) (l : List Int) : Prop :=
  ∃ oa cap, v = .slice oa l.length cap ∧ ∀ j x, l[j]? = some x → ∃ g o, oa = some ⟨g, o, none⟩ ∧ g < w.heap.size ∧ w.cell? ⟨g, o + j, none⟩ = some (.int .i64 x)
theorem IR.old {w w' : World} {v : Value} {l : List Int} (h : IR w v l) (ho : Old w w') : IR w' v l := by
  obtain ⟨oa, cap, rfl, h1⟩ := h
  refine ⟨oa, cap, rfl, fun j x hj => ?_⟩
  obtain ⟨g, o, rfl, hg, c⟩ := h1 j x hj
  exact ⟨g, o, rfl, Nat.lt_of_lt_of_le hg ho.size, (ho.cell hg).trans c⟩
theorem Ints.ir {w : World} {base : Nat} {v : Value} {l : List Int} (h : Ints w base v l) : IR w v l := by
  obtain ⟨oa, cap, rfl⟩ := h.shape
  refine ⟨oa, cap, rfl, fun j x hj => ?_⟩
  obtain ⟨g, rfl, _, hg, c⟩ := h.cell hj
  exact ⟨g, 0, rfl, hg, by rw [Nat.zero_add]; exact c⟩
theorem ints_any {w : World} {a b : Value} {l m : List Int} (ha : IR w a l) (hb : IR w b m) (hl : l.length < 1000000) (hm : m.length < 1000000) :
    Calls Try.prog 15 #[a, b] w fun e w' => e = .returned (.bool (decide (l = m))) ∧ Old w w' := by
  obtain ⟨oa, ca, rfl, ea⟩ := ha
  obtain ⟨ob, cb, rfl, eb⟩ := hb
  by_cases hlen : l.length = m.length
  · have hlb : ((l.length : Int) != (m.length : Int)) = false := by simp [hlen]
    have HE := Lib.hid ea
    have HF := Lib.hid eb
    have hLi : (l.length : Int) < 1000000 := by omega
    have HN := Lib.hid hlen
    generalize hP : decide (l = m) = R
    have HP := Lib.hid hP
    clear hP hlen ea eb
    go_enter Try.func15, Try.ntmps15
    go_wp2
    go_loopw [13] (fun s wr => ∃ k : Nat, s = .int .i64 (k : Int) ∧ k ≤ l.length ∧ Hid (∀ j, j < k → l[j]? = m[j]?) ∧ Hid (Old w wr)) (fun s wr => l.length - (intOf s).toNat)
    case atStart => exact ⟨0, rfl, Nat.zero_le _, Lib.hid (fun j hj => by omega), Lib.hid (Old.refl w)⟩
    case round =>
      obtain ⟨k, rfl, hk, HS, HO⟩ := hrel
      by_cases hlt : k < l.length
      · obtain ⟨x, hx⟩ : ∃ x, l[k]? = some x := ⟨l[k], List.getElem?_eq_getElem hlt⟩
        have hlt2 : k < m.length := by have := HN.out; omega
        obtain ⟨y, hy⟩ : ∃ y, m[k]? = some y := ⟨m[k], List.getElem?_eq_getElem hlt2⟩
        obtain ⟨g, o, rfl, hg, cx⟩ := HE.out k x hx
        obtain ⟨g', o', rfl, hg', cy⟩ := HF.out k y hy
        have dx := (HO.out.cell (p := ⟨g, o + k, none⟩) hg).trans cx
        have dy := (HO.out.cell (p := ⟨g', o' + k, none⟩) hg').trans cy
        have h0k : (0 : Int) ≤ (k : Int) := by omega
        have hlti : (k : Int) < (l.length : Int) := by omega
        have hlti2 : (k : Int) < (m.length : Int) := by omega
        have hkb : (k : Int) < 1000000 := by omega
        have HX := Lib.hid hx
        have HY := Lib.hid hy
        have HLT := Lib.hid hlt
        by_cases hxy : x = y
        · subst hxy
          have hne : (x != x) = false := by simp
          clear hx hy hlt hlt2 hk cx cy
          go_upto_region 6 with fail
          go_quiet (fail)
          go_wp2
          refine ⟨⟨k + 1, by simp, HLT.out, Lib.hid (fun j hj => ?_), Lib.hid (HO.out.drewN _)⟩, ?_⟩
          · by_cases e : j = k
            · subst e; rw [HX.out, HY.out]
            · exact HS.out j (by omega)
          · have e1 : (intOf (Value.int IntKind.i64 ((k : Int) + 1))).toNat = k + 1 := by show ((k : Int) + 1).toNat = k + 1; omega
            have e2 : (intOf (Value.int IntKind.i64 (k : Int))).toNat = k := by show ((k : Int)).toNat = k; omega
            have := HLT.out
            rw [e1, e2]
            omega
        · have hne : (x != y) = true := by simpa using hxy
          have HXY := Lib.hid hxy
          clear hx hy hlt hlt2 hk cx cy hxy
          go_upto_region 6 with fail
          go_quiet (fail)
          go_wp2
          go_ret
          refine ⟨?_, HO.out.drewN _⟩
          rw [← HP.out]
          refine rb _ _ (decide_eq_false (fun e => ?_)).symm
          have h1 := HX.out
          rw [e, HY.out] at h1
          exact HXY.out (Option.some.inj h1).symm
      · have hge : (l.length : Int) ≤ (k : Int) := by omega
        have HGE := Lib.hid (show l.length ≤ k by omega)
        clear hlt hk hlb hl hm hLi
        go_wp2
        go_ret
        refine ⟨?_, HO.out⟩
        rw [← HP.out]
        refine rb _ _ (decide_eq_true (List.ext_getElem? fun j => ?_)).symm
        by_cases e : j < k
        · exact HS.out j e
        · have h1 : l.length ≤ j := by have := HGE.out; omega
          have h2 : m.length ≤ j := by have := HN.out; omega
          exact (List.getElem?_eq_none h1).trans (List.getElem?_eq_none h2).symm
  · have hlb : ((l.length : Int) != (m.length : Int)) = true := by simp; omega
    have hd : decide (l = m) = false := decide_eq_false (fun e => hlen (by rw [e]))
    rw [hd]
    clear hd hlen
    go_enter Try.func15, Try.ntmps15
    go_wp2
    go_ret
    exact ⟨rfl, Old.refl w⟩
end Go.Proofs.Ytfgdgnkihiokoaa
