/- The arena: Remove's walk. -/
import Derived.Test.YtfgdgnkihiokoaaBQ
namespace Go.Proofs.Ytfgdgnkihiokoaa
open Go.ChangeShapes Go.WideShapes Go.ChangeAt Go.RowKit Go.Lib
set_option linter.unusedVariables false
set_option linter.unusedSimpArgs false
set_option maxRecDepth 100000
set_option maxHeartbeats 1000000

theorem Good.t64 {L : List Tk} {last : Nat} (hg : Good L last) (hlast : last < 1000000) {t : Tk} (ht : t ∈ L) : T64 t := by
  have h1 := hg.low t ht
  have h2 := hg.pos t ht
  have h3 := hg.parLt ht
  have h4 : -1 ≤ t.par := by
    by_cases e : t.id = 0
    · rw [hg.isRoot ht e]; decide
    · obtain ⟨_, p, hp, e2⟩ := hg.par t ht e
      have := (hg.low p hp).1
      omega
  exact ⟨by unfold I64; omega, by unfold I64; omega, by unfold I64; omega, by unfold I64; omega⟩
/-- Between two steps of Remove. -/
structure Rs (w w1 wr : World) (b : Bs) (A : Nat → Prop) (L G : List Tk) (last cap k : Nat) (v : Value) : Prop where
  ar : ∃ A', Ar wr b A' (without L (G.take k)) last cap ∧ Stp w1 wr A A'
  row : Toks wr w.heap.size v G
theorem Rs.old {w w1 wr wr' : World} {b : Bs} {A : Nat → Prop} {L G : List Tk} {last cap k : Nat} {v : Value} (h : Rs w w1 wr b A L G last cap k v) (ho : Old wr wr') : Rs w w1 wr' b A L G last cap k v := by
  obtain ⟨A', h1, h2⟩ := h.ar
  exact ⟨⟨A', h1.old ho, h2.old ho⟩, h.row.old ho⟩

theorem remove_any {w : World} {b : Bs} {A : Nat → Prop} {L : List Tk} {last cap : Nat} (h : Ar w b A L last cap) (hg : Good L last) (hlast : last < 1000000) (hL : L.length ≤ 900000) (hcap : cap < 1000000) {t : Tk} (ht : t ∈ L) (hz : t.id ≠ 0) :
    Calls Try.prog 10 #[ptr b, .int .i64 t.id] w fun e w' => ∃ v, e = .returned v ∧ Toks w' w.heap.size v (gone t.id L) ∧ TurnA w b A (rest t.id L) last cap w' := by
  have hti : I64 t.id := (hg.t64 hlast ht).id
  have hget := get_any h hg.up hti
  rw [getT_mem hg.up ht] at hget
  have H := Lib.hid h
  have HG := Lib.hid hg
  have HL := Lib.hid hL
  have HT := Lib.hid ht
  have hzb : (t.id == 0) = false := by simpa using hz
  have hGlen : (gone t.id L).length ≤ L.length := List.length_filter_le _ _
  have hGup : (gone t.id L).Pairwise (fun x y => x.id < y.id) := hg.up.filter _
  have hGsub : ∀ x ∈ gone t.id L, x ∈ L := fun x hx => (List.mem_filter.1 hx).1
  have hrest := without_gone hg t.id
  have hfrom : ∀ W, Old w W → Calls Try.prog 22 #[ptr b, .int .i64 t.id] W fun e w' => ∃ v, e = .returned v ∧ Toks w' w.heap.size v (gone t.id L) ∧ Old W w' := fun W ho => by
    refine (from_any (h.old ho) hg hlast hL ht).mono ?_
    rintro e w' ⟨v, rfl, h1, h2⟩
    exact ⟨v, rfl, own_low h1 ho.size, h2⟩
  have hAlt : ∀ j, A j → j < w.heap.size := fun j hj => h.lt hj
  have HAL := Lib.hid hAlt
  have h64 : ∀ x ∈ L, T64 x := fun x hx => hg.t64 hlast hx
  have H64 := Lib.hid h64
  generalize gone t.id L = G at *
  have HGU := Lib.hid hGup
  have HGS := Lib.hid hGsub
  have HRE := Lib.hid hrest
  have hGl : G.length ≤ 900000 := Nat.le_trans hGlen hL
  have HFR := Lib.hid hfrom
  have hGi : (G.length : Int) < 1000000 := by omega
  clear h64 hAlt h hg hL ht hz hGlen hGup hGsub hrest hfrom
  go_enter Try.func10, Try.ntmps10
  go_wp2_with (first
    | (go_at_call 11; (with_reducible refine hget.mono ?_); rintro e w1 ⟨rfl, ho⟩; have HO1 := Lib.hid (ho.alloc (.cells #[.int .i64 t.id, .int .i64 t.par, .int .i64 t.node, .int .i64 t.fact] 32)); clear ho)
    | (go_at_call 22; (with_reducible refine (HFR.out _ HO1.out).mono ?_); rintro e w2 ⟨v, rfl, hr, ho⟩; have HO2 := Lib.hid (HO1.out.trans ho); obtain ⟨oa, cp, rfl⟩ := own_shape hr; have HR := Lib.hid hr; clear hr ho))
  have HRL := Lib.hid (row_lt HR.out)
  have HRB := Lib.hid (row_low HR.out)
  go_loopw [27] (fun s wr => ∃ k : Nat, s = .int .i64 (k : Int) ∧ k ≤ G.length ∧ Hid (Rs w w2 wr b A L G last cap k (.slice oa G.length cp))) (fun s wr => G.length - (intOf s).toNat)
  case atStart =>
    exact ⟨0, rfl, Nat.zero_le _, Lib.hid ⟨⟨A, by rw [List.take_zero, without_nil]; exact H.out.old HO2.out, Stp.ofOld A (Old.refl w2)⟩, HR.out⟩⟩
  case round =>
    obtain ⟨k, rfl, hk, HS⟩ := hrel
    by_cases hlt : k < G.length
    · obtain ⟨s, hs⟩ : ∃ s, G[k]? = some s := ⟨G[k], List.getElem?_eq_getElem hlt⟩
      have hsL := HGS.out s (List.mem_iff_getElem?.2 ⟨k, hs⟩)
      obtain ⟨gg, e0, d0, d1, d2, d3⟩ := HS.out.row.cells hs
      subst e0
      obtain ⟨A', hA', hS'⟩ := HS.out.ar
      have hq : ∀ j, A' j → (Value.slice (some ⟨gg, 0, none⟩) G.length cp).ownBlock ≠ some j := fun j hj e => by
        have h1 := HRL.out j e
        have h2 := HRB.out j e
        rcases hS'.grow j hj with h3 | h3
        · have := HAL.out j h3; omega
        · omega
      have htk := take_any (hA'.old ((Old.refl wr).alloc (.cells #[.int .i64 s.id, .int .i64 s.par, .int .i64 s.node, .int .i64 s.fact] 32))) (HG.out.up.filter _) s (mem_without HGU.out hs hsL) (H64.out s hsL) hcap
      have htake : G.take k ++ [s] = G.take (k + 1) := by rw [List.take_add_one, hs]; rfl
      rw [← without_snoc, htake] at htk
      have HTK := Lib.hid htk
      have HSS := Lib.hid hS'
      have HQ := Lib.hid hq
      have h0k : (0 : Int) ≤ (k : Int) := by omega
      have hlti : (k : Int) < (G.length : Int) := by omega
      have HLT := Lib.hid hlt
      clear htk hS' hq hA' hsL hs htake hlt hk
      go_wp2_with (go_at_call 23; (with_reducible refine HTK.out.mono ?_); rintro e w3 ⟨rfl, hta⟩; have HTA := Lib.hid hta; clear hta)
      obtain ⟨A'', h1, h2⟩ := HTA.out.ar
      refine ⟨⟨k + 1, by simp, HLT.out, Lib.hid ⟨⟨A'', h1, (HSS.out.old ((Old.refl wr).alloc _)).trans h2⟩, ?_⟩⟩, ?_⟩
      · exact row_chg (HS.out.row.old ((Old.refl wr).alloc _)) h2.chg (fun j hj e => HQ.out j e hj)
      · have e1 : (intOf (Value.int IntKind.i64 ((k : Int) + 1))).toNat = k + 1 := by show ((k : Int) + 1).toNat = k + 1; omega
        have e2 : (intOf (Value.int IntKind.i64 (k : Int))).toNat = k := by show ((k : Int)).toNat = k; omega
        have := HLT.out
        rw [e1, e2]
        omega
    · have hge : (G.length : Int) ≤ (k : Int) := by omega
      obtain rfl : k = G.length := by omega
      have HSS := HS
      clear hlt hk
      go_wp2
      go_ret
      obtain ⟨A', h1, h2⟩ := HSS.out.ar
      rw [List.take_length, HRE.out] at h1
      have h3 := (Stp.ofOld A HO2.out).trans h2
      exact ⟨_, rfl, HSS.out.row, ⟨A', h1, h3.grow⟩, h3.chg⟩
end Go.Proofs.Ytfgdgnkihiokoaa
