/- The document's own numbers: noughts at the end struck, in place; and a row behind a digit. -/
import Derived.Test.YtcedcfkjoppjdaaGreatDoorRK
import Derived.RegionTactic
namespace Go.Proofs.YtcedcfkjoppjdaaGreatDoor
open Go.ChangeShapes Go.WideShapes Go.ChangeAt Go.RowKit
set_option linter.unusedVariables false

/-- It returns a number whose row lies where the row lay that was handed in. -/
def RetT (w : World) (oa : Option Addr) (ca : Nat) (neg : Bool) (ds : List Int) (e : Ending) (w' : World) : Prop := ∃ k, e = .returned (.agg #[.bool neg, .slice oa k ca]) ∧ Rd w' (.slice oa k ca) ds ∧ Old w w'
theorem retT {w w1 : World} {oa : Option Addr} {ca k : Nat} {neg neg' : Bool} {ds ds' : List Int} (hn : neg = neg') (hd : ds = ds') (hr : Rd w1 (.slice oa k ca) ds) (ho : Old w w1) : RetT w oa ca neg' ds' (.returned (.agg #[.bool neg, .slice oa k ca])) w1 := by
  subst hn hd; exact ⟨k, rfl, hr, ho⟩

set_option maxHeartbeats 1600000 in
set_option maxRecDepth 100000 in
theorem trim_at (neg sg : Bool) (l ds : List Int) (oa : Option Addr) (na ca : Nat) (w : World) (hl : Rd w (.slice oa na ca) l) (dl : Dg l) (ll : l.length ≤ 2000)
    (h0 : val l = 0 → false = sg ∧ [] = ds) (h1 : ∀ k, k + 1 ≤ l.length → val (l.take (k + 1)) = val l → ¬ l.getD k 0 = 0 → neg = sg ∧ l.take (k + 1) = ds) :
    Calls Tryz.prog 50 #[.bool neg, .slice oa na ca] w (RetT w oa ca sg ds) := by
  obtain ⟨oa', ca', e', a1, a2, a3⟩ := hl
  simp only [Value.slice.injEq] at e'
  obtain ⟨rfl, rfl, rfl⟩ := e'
  unfold maxLen at a2
  have H0 := Lib.hid h0
  have H1 := Lib.hid h1
  clear h0 h1
  cases neg
  all_goals
    go_enter Tryz.func50, Tryz.ntmps50
    go_wp2
    go_loop [1] (fun v => ∃ k : Nat, k ≤ l.length ∧ v = .slice oa k ca ∧ Hid (val (l.take k) = val l)) (fun v => match v with | .slice _ n _ => n | _ => 0)
    case atStart => exact ⟨l.length, Nat.le_refl _, rfl, by rw [List.take_of_length_le (Nat.le_refl _)]; exact rfl⟩
    case round =>
      obtain ⟨k, hk, rfl, HV⟩ := hrel
      rcases k with _ | k
      · obtain ⟨e1, e2⟩ := H0.out (by have := HV.out; rw [List.take_zero] at this; exact this.symm)
        have E1 := Lib.hid e1
        have E2 := Lib.hid e2
        clear e1 e2 HV
        have hR : ∀ o, Rd (w.alloc o) (.slice oa 0 ca) [] := fun o => by
          have := Rd.take (k := 0) a1 a2 a3 (by omega)
          rw [List.take_zero] at this
          exact this.old ((Old.refl _).alloc _)
        clear a3
        go_wp2
        exact bodyPost_ret (v := .agg #[.bool false, .slice oa 0 ca]) (by simp [results, Tryz.results50, go_sem]) rfl (retT E1.out E2.out (hR _) ((Old.refl _).alloc _))
      · have hR : ∀ o, Rd (w.alloc o) (.slice oa (k + 1) ca) (l.take (k + 1)) := fun o => (Rd.take (k := k + 1) a1 a2 a3 hk).old ((Old.refl _).alloc _)
        obtain ⟨g, rfl, hgl, hcell⟩ := a3 k (by omega)
        obtain ⟨x, hx⟩ : ∃ x, x = l.getD k 0 := ⟨_, rfl⟩
        rw [← hx] at hcell
        have HX := Lib.hid hx
        clear hx a3
        by_cases hx0 : x = 0
        · subst hx0
          have HV' := Lib.hid ((val_drop0 l k hk HX.out.symm).symm.trans HV.out)
          clear hR
          go_wp2
          exact ⟨⟨k, by omega, rfl, HV'⟩, Nat.lt_succ_self k⟩
        · have hx1 : (x == 0) = false := eq0_false hx0
          obtain ⟨e1, e2⟩ := H1.out k hk HV.out (by rw [← HX.out]; exact hx0)
          have E1 := Lib.hid e1
          have E2 := Lib.hid e2
          clear e1 e2 HV hx0
          go_wp2
          exact bodyPost_ret (v := .agg #[.bool _, .slice (some ⟨g, 0, none⟩) (k + 1) ca]) (by simp [results, Tryz.results50, go_sem]) rfl (retT E1.out E2.out (hR _) ((Old.refl _).alloc _))


theorem trim_at_any (neg : Bool) (l : List Int) (oa : Option Addr) (na ca : Nat) (w : World) (hl : Rd w (.slice oa na ca) l) (dl : Dg l) (ll : l.length ≤ 2000) :
    Calls Tryz.prog 50 #[.bool neg, .slice oa na ca] w (RetT w oa ca (neg && decide (¬ val l = 0)) (dig (val l).toNat)) := by
  refine trim_at neg _ l _ oa na ca w hl dl ll (fun h => ?_) (fun k hk hv hx => ?_)
  · simp [h, dig_zero]
  · have e := trim_dig dl hk hv (Or.inr (by simpa using hx))
    have hc := can_val (dg_take dl (k + 1)) (can_take l k hk hx) (by intro h; have := congrArg List.length h; rw [List.length_take, Nat.min_eq_left hk] at this; exact absurd this (by simp))
    rw [hv] at hc
    refine ⟨?_, e⟩
    have : ¬ val l = 0 := by omega
    simp [this]

theorem run_app_none (base : Nat) (W : World) (i : TypeInfo) (hi : Tryz.prog.info? 3 = some i) (ty : TypeId) (v : Value) (n : Nat) (xs : List Value) (hown : W.ownsRow base 3 1 v n xs) (c : Nat) :
    (Builtin.append_ #[38, 38] ty #[v, .slice none 0 c]).run Tryz.prog W = .ok v W := by
  rcases hown.2 with ⟨rfl, rfl⟩ | ⟨g, cap, cur, rfl, _, _, hnc, _⟩
  · simp [Builtin.append_, run_underlying Tryz.underlying38, sizeOf, typeInfo, hi, Builtin.lenOf, Builtin.firstCells]
  · simp [Builtin.append_, run_underlying Tryz.underlying38, sizeOf, typeInfo, hi, Builtin.lenOf, Builtin.firstCells, hnc, storeCells]

/-- A row appended to one of the call's own, in a statement that leaves its order open. -/
theorem step_app {ops : Array Oper} {o : Oper} {a : Act} {K : Act → World → Prop} {Q : Exit → Act → World → Prop} {E : Prop} (W : World) (hgd : o.guard = none) (s x : Operand)
    (ho : o.op = .call { callee := .builtin .append, args := #[s, x], argTypes := #[38, 38] })
    (base : Nat) (i : TypeInfo) (hi : Tryz.prog.info? 3 = some i) (hz : i.zero = some (.int .i64 0)) (hsize : i.size = 1) (hby : i.bytes = 8)
    (v : Value) (n : Nat) (xs : List Value) (hs : a.eval s = v) (hown : W.ownsRow base 3 1 v n xs)
    (oa : Option Addr) (m c : Nat) (ds : List Int) (hx : a.eval x = .slice oa m c) (hr : Rd W (.slice oa m c) ds) (hlen : n + m ≤ 4000) (hbase : base ≤ W.heap.size)
    (h : ∀ v' w', w'.ownsRow base 3 1 v' (n + m) (xs ++ ds.map (Value.int .i64)) → W.grownBy w' v.ownBlock → K (a.put o.dst v') w') :
    if Region.wanted o (yielded ops a.tmps) = true then Oper.wp Tryz.prog o a W K Q else E := by
  have hw : Region.wanted o (yielded ops a.tmps) = true := by simp [Region.wanted, hgd]
  rw [if_pos hw]
  obtain ⟨oa', ca', e', r1, r2, r3⟩ := hr
  simp only [Value.slice.injEq] at e'
  obtain ⟨rfl, rfl, rfl⟩ := e'
  rcases oa with _ | ad
  · have hd : ds = [] := by
      rcases ds with _ | ⟨d, r⟩
      · rfl
      · obtain ⟨g, h1, _⟩ := r3 0 (by simp)
        cases h1
    subst hd
    unfold Oper.wp execOp
    simp only [ho, resolve, invoke, builtin, Sem.run_bind, Sem.run_pure, Result.andThen_ok, List.map_toArray, List.map_cons, List.map_nil, hs, hx, List.length_nil, run_app_none base W i hi o.type v n xs hown c]
    exact h v W (by simpa using hown) (World.grownBy.refl W _)
  · refine wp_append_own W s x 38 ho base 3 i (.int .i64 0) 1 8 Tryz.underlying38 hi hz hsize hby rfl (by decide) v n xs hs hown ad ds.length c (ds.map (Value.int .i64)) hx (by simp) ?_ ?_ (by unfold maxLen; omega) (by omega) hbase (fun v' w' h2 h3 _ => h v' w' h2 h3)
    · intro j u hj
      rw [List.getElem?_map] at hj
      rcases Nat.lt_or_ge j ds.length with hl | hl
      · rw [List.getElem?_eq_getElem hl] at hj
        obtain ⟨g, h1, _, h3⟩ := r3 j hl
        simp only [Option.some.injEq] at h1
        subst h1
        rw [show (⟨g, 0, none⟩ : Addr).add j = ⟨g, j, none⟩ by rw [Addr.add_lit, Nat.zero_add], h3, List.getD_eq_getElem?_getD, List.getElem?_eq_getElem hl]
        exact hj
      · rw [List.getElem?_eq_none hl] at hj; cases hj
    · intro u hu
      obtain ⟨d, _, rfl⟩ := List.mem_map.1 hu
      rfl

end Go.Proofs.YtcedcfkjoppjdaaGreatDoor
