/- Layer memory: the document's memory: Remove; whether two facts are the same. -/
import Derived.Test.YtfhbnkdibhmmcaaSE
namespace Go.Proofs.Ytfhbnkdibhmmcaa
open Go.ChangeShapes Go.WideShapes Go.ChangeAt Go.RowKit Go.Lib
set_option linter.unusedVariables false
set_option linter.unusedSimpArgs false
set_option maxRecDepth 100000

theorem one_rf {W : World} {b : Nat} {i t : Int} {u : Value} {l : List Vl} (h : W.heap[b]? = some (.cells #[.int .i64 i, .int .i64 t, u] 38 (0, 0))) (hv : VR W u l) : RF W (.slice (some ⟨b, 0, none⟩) 1 1) [⟨i, t, l⟩] := by
  have l0 := blk_lt h
  refine ⟨_, 1, rfl, Nat.le_refl _, by unfold maxLen; omega, fun j x hj => ?_⟩
  rcases j with _ | j
  · simp at hj
    subst hj
    exact ⟨b, 0, u, rfl, l0, by simp [World.cell?, h], by simp [World.cell?, h], by simp [World.cell?, h], hv⟩
  · simp at hj
theorem fact_any {W : World} {i t : Int} {oa ob : Option Addr} {ca cb : Nat} {l : List Vl} {b : Bool} (ha : VR W (.slice oa l.length ca) l) (hb : VR W (.slice ob l.length cb) l) : Calls Try.prog 15 #[fv i t (.slice oa l.length ca), .bool b, fv i t (.slice ob l.length cb), .bool b] W fun e w' => e = .returned (.bool true) ∧ Old W w' := by
  have O1 := Lib.hid ((Old.refl W).alloc (.cells #[.int .i64 i, .int .i64 t, .slice oa l.length ca] 38))
  have O2 := Lib.hid (O1.out.alloc (.cells #[.int .i64 i, .int .i64 t, .slice ob l.length cb] 38))
  have O3 := Lib.hid (O2.out.alloc (.cells #[.int .i64 i, .int .i64 t, .slice oa l.length ca] 38))
  have O4 := Lib.hid (O3.out.alloc (.cells #[.int .i64 i, .int .i64 t, .slice ob l.length cb] 38))
  have HA := Lib.hid ha
  have HB := Lib.hid hb
  clear ha hb
  obtain ⟨N, hN⟩ : ∃ N, N = l.length := ⟨_, rfl⟩
  rw [← hN] at O1 O2 O3 O4 HA HB ⊢
  have ra := (one_rf (MapKept.heap_alloc ((W.alloc (.cells #[.int .i64 i, .int .i64 t, .slice oa N ca] 38)).alloc (.cells #[.int .i64 i, .int .i64 t, .slice ob N cb] 38)) (.cells #[.int .i64 i, .int .i64 t, .slice oa N ca] 38)).1 (HA.out.old O3.out)).old ((Old.refl _).alloc (.cells #[.int .i64 i, .int .i64 t, .slice ob N cb] 38))
  have rb := one_rf (MapKept.heap_alloc (((W.alloc (.cells #[.int .i64 i, .int .i64 t, .slice oa N ca] 38)).alloc (.cells #[.int .i64 i, .int .i64 t, .slice ob N cb] 38)).alloc (.cells #[.int .i64 i, .int .i64 t, .slice oa N ca] 38)) (.cells #[.int .i64 i, .int .i64 t, .slice ob N cb] 38)).1 (HB.out.old O4.out)
  rw [sz_alloc, sz_alloc] at ra rb
  rw [sz_alloc] at rb
  have RA := Lib.hid ra
  have RB := Lib.hid rb
  clear ra rb hN
  go_enter Try.func15, Try.ntmps15
  go_wp2_with (go_at_call 23; (with_reducible refine (samef_any _ _ _ _ RA.out RB.out).mono ?_); rintro e w2 ⟨rfl, ho⟩; have HO := Lib.hid (O4.out.trans ho); clear ho)
  go_ret
  exact ⟨rfl, HO.out⟩
/-- The facts but those of this id, with their slices. -/
theorem del_more {L : List Ft} {k : Nat} {x : Ft} {id : Int} (h : L[k]? = some x) (hne : ¬ x.id = id) : delOf (L.take (k + 1)) id = delOf (L.take k) id ++ [x] := by
  unfold delOf
  rw [List.take_add_one, h, Option.toList_some, List.filter_append]
  simp [hne]
theorem del_same {L : List Ft} {k : Nat} {x : Ft} {id : Int} (h : L[k]? = some x) (he : x.id = id) : delOf (L.take (k + 1)) id = delOf (L.take k) id := by
  unfold delOf
  rw [List.take_add_one, h, Option.toList_some, List.filter_append]
  simp [he]
/-- A boxed fact, as a slice of one. -/
theorem one_fx {W : World} {b : Nat} {i t : Int} {u : Value} (l : List Vl) (h : W.heap[b]? = some (.cells #[.int .i64 i, .int .i64 t, u] 38 (0, 0))) : CR W (.slice (some ⟨b, 0, none⟩) 1 1) 1 3 (fcells [(⟨i, t, l⟩, u)]) := by
  have l0 := blk_lt h
  refine ⟨_, 1, rfl, Nat.le_refl _, by unfold maxLen; omega, rfl, fun j v hj => ⟨b, 0, rfl, l0, ?_⟩⟩
  rcases j with _ | _ | _ | j
  · simp [fcells] at hj
    subst hj
    simp [World.cell?, h]
  · simp [fcells] at hj
    subst hj
    simp [World.cell?, h]
  · simp [fcells] at hj
    subst hj
    simp [World.cell?, h]
  · simp [fcells] at hj
theorem set32' {w : World} {b : Nat} {x y z : Value} {ty : TypeId} (h : w.heap[b]? = some (.cells #[x, y, z] ty (0, 0))) (u : Value) : (w.setCell ⟨b, 2, none⟩ u).heap[b]? = some (.cells #[x, y, u] ty (0, 0)) := by
  rw [World.setCell]
  simp [Array.getElem?_modify, h]
/-- What the loop has gathered. -/
def Gt (S : Nat → Prop) (B : Nat) (W0 W : World) (r : Value) (L : List Ft) : Prop := ∃ (V : List (Ft × Value)) (n : Nat), V.map (·.1) = L ∧ V.length = n ∧ W.ownsRow B 38 3 r n (fcells V) ∧ RV2 S W0 V
set_option maxHeartbeats 1600000 in
theorem remove_doc {k0 : Nat} {W : World} {q lim : Nat} {st : St} {r : Value} (h : Dx k0 W q lim st r) (hk : k0 < W.heap.size) (id : Int) (hn200 : st.L.length ≤ 200) :
    Calls Try.prog 14 #[ap q, .int .i64 id] W fun e w' => (∃ oa c, e = .returned (.tuple #[fv ((getOf st.L id).getD noFt).id ((getOf st.L id).getD noFt).t (.slice oa ((getOf st.L id).getD noFt).l.length c), .bool (getOf st.L id).isSome]) ∧ VR w' (.slice oa ((getOf st.L id).getD noFt).l.length c) ((getOf st.L id).getD noFt).l) ∧ (∃ r', Dx k0 w' q lim (delS st id) r') ∧ Chg (· = q) W w' := by
  have O1 := Lib.hid ((Old.refl W).alloc (.cells #[.int .i64 0, .int .i64 0, .slice none 0 0] 38))
  have HB1 := Lib.hid (Fb.new W (.int .i64 0) (.int .i64 0) (.slice none 0 0))
  have hget := get_doc (h.old O1.out) id
  unfold delS
  obtain ⟨last, L⟩ := st
  have HK := Lib.hid hk
  have HQ := Lib.hid (blk_lt h.obj)
  have HNE := Lib.hid h.ne
  have hrx' := h.rx.more (T := fun b => (b = k0 ∨ b = q) ∨ b = W.heap.size) (fun b e => e.elim Or.inr (fun e => Or.inl (Nat.le_of_eq e.symm)))
  have HOBJ := Lib.hid h.obj
  obtain ⟨oa, c, er, r1, r2, r3⟩ := hrx'
  subst er
  simp only at HOBJ r1 r2 r3 hget hn200 ⊢
  obtain ⟨n, hn⟩ : ∃ n, n = L.length := ⟨_, rfl⟩
  rw [← hn] at HOBJ r1 hn200
  unfold maxLen at r2
  have HN := Lib.hid hn
  have HA := Lib.hid r3
  generalize hX : (getOf L id).getD noFt = X at hget ⊢
  generalize hG : (getOf L id).isSome = G at hget ⊢
  obtain ⟨i, hi, hz, hsz, hby⟩ := info_parts info38
  clear hX hG hn r3 h hk
  go_enter Try.func14, Try.ntmps14
  go_wp2_with (go_at_call 19; (with_reducible refine hget.mono ?_); rintro e w2 ⟨⟨og, cg, rfl, hv⟩, ho⟩; have O2 := Lib.hid ((O1.out.trans ho).alloc (.cells #[.int .i64 X.id, .int .i64 X.t, .slice og X.l.length cg] 38)); have HB2 := Lib.hid ((HB1.out.old ho).old ((Old.refl _).alloc (.cells #[.int .i64 X.id, .int .i64 X.t, .slice og X.l.length cg] 38))); have FB := Lib.hid (Fb.new w2 (.int .i64 X.id) (.int .i64 X.t) (.slice og X.l.length cg)); have HV := Lib.hid (hv.old ((Old.refl _).alloc (.cells #[.int .i64 X.id, .int .i64 X.t, .slice og X.l.length cg] 38))); have HS := Lib.hid (O1.out.trans ho).size; have HS2 := Lib.hid ho.size; clear ho hv)
  obtain ⟨gb, hgb⟩ : ∃ g, g = w2.heap.size := ⟨_, rfl⟩
  rw [← hgb] at FB ⊢
  have HS3 := Lib.hid (show gb + 1 ≤ (w2.alloc (.cells #[.int .i64 X.id, .int .i64 X.t, .slice og X.l.length cg] 38)).heap.size by rw [hgb]; simp)
  rw [← hgb] at HS HS2
  generalize w2.alloc (.cells #[.int .i64 X.id, .int .i64 X.t, .slice og X.l.length cg] 38) = W3 at *
  rw [sz_alloc] at HS2
  have n1 : ¬ gb = q := by have := HS2.out; have := HQ.out; omega
  have n2 : ¬ q = gb := fun e => n1 e.symm
  have n3 : ¬ W.heap.size = q := by have := HQ.out; omega
  have n4 : ¬ q = W.heap.size := fun e => n3 e.symm
  have n5 : ¬ gb = W.heap.size := by have := HS2.out; omega
  have n6 : ¬ W.heap.size = gb := fun e => n5 e.symm
  clear hgb HS hget
  go_loopw [8, 9] (fun r i wr => ∃ k : Nat, k ≤ n ∧ i = .int .i64 (k : Int) ∧ Hid (Old W3 wr) ∧ Hid (Gt (fun b => (b = k0 ∨ b = q) ∨ b = W.heap.size) W3.heap.size W wr r (delOf (L.take k) id))) (fun _ i _ => (n - intOf i).toNat)
  case atStart => exact ⟨0, Nat.zero_le _, rfl, Lib.hid (Old.refl _), Lib.hid ⟨[], 0, rfl, rfl, World.ownsRow_nil _ _ _ _, fun y hy => by simp at hy⟩⟩
  case round =>
    obtain ⟨k, hk, rfl, HO, HG⟩ := hrel
    obtain ⟨V, m, hV, hVm, hown, hv2⟩ := HG.out
    obtain ⟨ro, rc, rfl⟩ := own_shape hown
    have OBJ := Lib.hid ((HO.out.block q (Nat.lt_of_lt_of_le HQ.out O2.out.size)).trans ((O2.out.block q HQ.out).trans HOBJ.out))
    obtain ⟨d0, d1, d2⟩ := obj_cells OBJ.out
    have hml : m ≤ k := by
      rw [← hVm, ← List.length_map (f := (·.1)), hV]
      refine Nat.le_trans (List.length_filter_le _ _) ?_
      rw [List.length_take]
      exact Nat.min_le_left _ _
    have HVV := Lib.hid hV
    have HVM := Lib.hid hVm
    have HOWN := Lib.hid hown
    have HV2 := Lib.hid hv2
    clear hV hVm hown hv2 HG
    by_cases hkn : k < n
    · obtain ⟨x, hx⟩ : ∃ x, L[k]? = some x := ⟨L[k]'(by rw [← HN.out]; exact hkn), List.getElem?_eq_getElem _⟩
      obtain ⟨g, o, v, rfl, hgl, _, c0, c1, c2, hv, hvs⟩ := HA.out k x hx
      have OW := O2.out.trans HO.out
      replace c0 := (OW.cell hgl).trans c0
      replace c1 := (OW.cell hgl).trans c1
      replace c2 := (OW.cell hgl).trans c2
      have HX := Lib.hid hx
      have HKN := Lib.hid hkn
      obtain ⟨ID, T, l⟩ := x
      simp only at c0 c1 c2 hv
      obtain ⟨va, vc, rfl, _⟩ := _root_.id hv
      have VA := Lib.hid hv
      have VSA := Lib.hid hvs
      clear hv hx hgl OW hvs
      by_cases ht : ID = id
      · have htb : (ID != id) = false := by simp [ht]
        have HE := Lib.hid ht
        clear ht
        go_wp2
        refine ⟨⟨k + 1, HKN.out, by first | rfl | simp, HO, Lib.hid ⟨V, m, ?_, HVM.out, HOWN.out, HV2.out⟩⟩, by simp only [intOf]; omega⟩
        rw [del_same HX.out HE.out]
        exact HVV.out
      · have htb : (ID != id) = true := by simp [ht]
        have HE := Lib.hid ht
        have L1 := Lib.hid (show (m + 1) * 40 ≤ 140737488355328 by omega)
        have L2 := Lib.hid (show m + 1 ≤ maxLen by unfold maxLen; omega)
        have ONE1 := Lib.hid (show ∀ v ∈ fcells [((⟨ID, T, l⟩ : Ft), Value.slice va l.length vc)], v.oneCell' = true by
          intro v hv
          simp [fcells] at hv
          rcases hv with rfl | rfl | rfl <;> rfl)
        have OA := Lib.hid (HO.out.alloc (.cells #[.int .i64 ID, .int .i64 T, .slice va l.length vc] 38))
        clear ht
        go_wp2_with (at_builtin; refine wpList_appC _ rfl _ _ 30 rfl W3.heap.size 38 i _ 3 40 Try.underlying30 hi hz hsz hby rfl (Nat.zero_lt_succ 2) (.slice ro m rc) m (fcells V) rfl (HOWN.out.alloc _) (.slice (some ⟨wr.heap.size, 0, none⟩) 1 1) 1 _ rfl (one_fx l (MapKept.heap_alloc wr _).1) ONE1.out L1.out L2.out OA.out.size ?_; intro v' w' hown hgr _; have OB := Lib.hid (OA.out.grown hgr (own_from HOWN.out)); have HW := Lib.hid hown; have OC := Lib.hid hgr; clear hown hgr)
        refine ⟨⟨k + 1, HKN.out, by first | rfl | simp, OB, Lib.hid ⟨V ++ [(⟨ID, T, l⟩, .slice va l.length vc)], m + 1, ?_, ?_, ?_, ?_⟩⟩, by simp only [intOf]; omega⟩
        · rw [del_more HX.out HE.out, List.map_append, HVV.out]
          rfl
        · rw [List.length_append, HVM.out]
          rfl
        · rw [fcells_app]
          exact HW.out
        · intro y hy
          rcases List.mem_append.1 hy with hy | hy
          · exact HV2.out y hy
          · rw [List.mem_singleton] at hy
            subst hy
            exact ⟨VA.out, VSA.out⟩
    · have hkn' : k = n := by omega
      subst hkn'
      have HT : L.take k = L := by rw [HN.out, List.take_length]
      have HVV' := HVV.out
      rw [HT] at HVV'
      have HVL := Lib.hid HVV'
      clear HVV HVV' HT
      have FF := Lib.hid (FB.out.old HO.out)
      have BB := Lib.hid (HB2.out.old HO.out)
      have OW := Lib.hid (O2.out.trans HO.out)
      have b0 := FF.out.c0
      have b1 := FF.out.c1
      have b2 := FF.out.c2
      have g0 := BB.out.f 0
      have g1 := BB.out.f 1
      have g2 := BB.out.f 2
      have a0 := BB.out.c0
      have a1 := BB.out.c1
      have a2 := BB.out.c2
      have q2 : wr.frozen? ⟨q, 2, none⟩ = false := by
        have := OBJ.out
        simp [World.frozen?, this]
      go_wp2
      have hchq := Chg.ofSet wr ⟨q, 2, none⟩ (.slice ro m rc)
      have hchb := Chg.ofSet3 (wr.setCell ⟨q, 2, none⟩ (.slice ro m rc)) W.heap.size (.int .i64 X.id) (.int .i64 X.t) (.slice og X.l.length cg)
      have hch : Chg (fun b => b = q ∨ b = W.heap.size) wr _ := (hchq.mono (fun b e => Or.inl e)).trans (hchb.mono (fun b e => Or.inr e))
      have hnoU : ∀ k o c, (k = q ∨ k = W.heap.size) → wr.cell? ⟨k, o, none⟩ ≠ some (.int .u8 c) := by
        rintro k o c (rfl | rfl) e
        · have h := OBJ.out
          rcases o with _ | _ | _ | o <;> simp [World.cell?, h] at e
        · have h := BB.out
          unfold Fb at h
          rcases o with _ | _ | _ | o <;> simp [World.cell?, h] at e
      have hqs := Nat.lt_of_lt_of_le HQ.out OW.out.size
      refine bodyPost_ret (ret_fact2 rfl _ _ W.heap.size rfl rfl ((BB.out.other (a := ⟨q, 2, none⟩) n4 _).set _ _ _)) rfl ⟨⟨og, cg, rfl, (HV.out.old HO.out).chg hch hnoU⟩, ⟨.slice ro m rc, ⟨?_, HNE.out, ?_⟩⟩, ?_⟩
      · exact (hchb.block q (Nat.lt_of_lt_of_le hqs hchq.size) n4).trans (set32' OBJ.out _)
      · have hj := RX.join HOWN.out (k := fun b => (b = k0 ∨ b = q) ∨ b = W.heap.size) (fun b e => by
          have h1 := HK.out
          have h2 := HQ.out
          have h3 := HS2.out
          have h4 := HS3.out
          rcases e with (e | e) | e <;> omega) (HV2.out.old OW.out) HVL.out
        exact (hj.chg hch (fun b e => e.elim (fun e => Or.inl (Or.inr e)) (fun e => Or.inr e))).less (fun b e => Or.inl e)
      · exact ((Chg.ofOld OW.out).trans hchq).later hchb (fun k e => Or.inl (Nat.le_of_eq e.symm))

end Go.Proofs.Ytfhbnkdibhmmcaa
