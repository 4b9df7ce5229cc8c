/- Layer memory: the document's memory: Add. -/
import Derived.Test.YtfhbnkdibhmmcaaSE
import Derived.Deep.CutRange
namespace Go.Proofs.Ytfhbnkdibhmmcaa
open Go.ChangeShapes Go.WideShapes Go.ChangeAt Go.RowKit Go.Lib
set_option linter.unusedVariables false
set_option linter.unusedSimpArgs false
set_option maxRecDepth 100000

theorem add_doc_old {k0 : Nat} {W : World} {q lim : Nat} {st : St} {r : Value} (h : Dx k0 W q lim st r) (h1 : ∀ x ∈ st.L, 1 ≤ x.id) (t : Int) (u : Value) (s : List Vl) (hs : VR W u s) (hi : ¬ idOf st.L t s = 0) :
    Calls Try.prog 12 #[ap q, .int .i64 t, u] W fun e w' => e = .returned (.tuple #[.int .i64 (idOf st.L t s), .bool false, .int .i64 0]) ∧ Old W w' := by
  have hf := find_doc h t u s hs
  obtain ⟨x, hx, e1, _⟩ := idOf_pos h1 hi
  have hp := h1 x hx
  rw [e1] at hp
  obtain ⟨ua, uc, rfl, _⟩ := hs
  generalize idOf st.L t s = Z at *
  have hz : (0 : Int) < Z := by omega
  clear hi e1 hx h1 hp
  go_enter Try.func12, Try.ntmps12
  go_wp2_with (go_at_call 22; (with_reducible refine hf.mono ?_); rintro e w2 ⟨rfl, ho⟩; have HO := Lib.hid ho; clear ho)
  go_ret3
  exact ⟨rfl, HO.out⟩
theorem add_doc_full {k0 : Nat} {W : World} {q lim : Nat} {st : St} {r : Value} (h : Dx k0 W q lim st r) (t : Int) (u : Value) (s : List Vl) (hs : VR W u s) (hi : idOf st.L t s = 0) (hr : lim ≤ st.L.length) :
    Calls Try.prog 12 #[ap q, .int .i64 t, u] W fun e w' => e = .returned (.tuple #[.int .i64 0, .bool false, .int .i64 7]) ∧ Old W w' := by
  have hf := find_doc h t u s hs
  rw [hi] at hf
  have HD := Lib.hid h.obj
  obtain ⟨oa, c, er, r1, r2, _⟩ := h.rx
  subst er
  obtain ⟨n, hn⟩ : ∃ n, n = st.L.length := ⟨_, rfl⟩
  rw [← hn] at HD hr r1
  obtain ⟨ua, uc, rfl, _⟩ := hs
  have hr' : (lim : Int) ≤ (n : Int) := by omega
  have hd : decide (lim ≤ n) = true := decide_eq_true hr
  clear hi hn h
  go_enter Try.func12, Try.ntmps12
  go_wp2_with (go_at_call 22; (with_reducible refine hf.mono ?_); rintro e w2 ⟨rfl, ho⟩; have HO := Lib.hid ho; obtain ⟨c0, c1, c2⟩ := obj_cells ((ho.block q (blk_lt HD.out)).trans HD.out); clear ho)
  go_region
  go_wp2
  go_ret3
  exact ⟨rfl, HO.out.drew⟩
/-- A boxed fact, as a slice of one. -/
theorem one_ft {W : World} {b : Nat} {i t : Int} {u : Value} (l : List Vl) (h : W.heap[b]? = some (.cells #[.int .i64 i, .int .i64 t, u] 38 (0, 0))) : CR W (.slice (some ⟨b, 0, none⟩) 1 1) 1 3 (fcells [(⟨i, t, l⟩, u)]) := by
  have l0 := blk_lt h
  refine ⟨_, 1, rfl, Nat.le_refl _, by unfold maxLen; omega, rfl, fun j v hj => ⟨b, 0, rfl, l0, ?_⟩⟩
  rcases j with _ | _ | _ | j
  · simp [fcells] at hj
    subst hj
    simp [World.cell?, h]
  · simp [fcells] at hj
    subst hj
    simp [World.cell?, h]
  · simp [fcells] at hj
    subst hj
    simp [World.cell?, h]
  · simp [fcells] at hj
/-- Two rows of unlike types. -/
theorem own_neq {w : World} {b n size : Nat} {e e' : TypeId} {v : Value} {xs : List Value} (h : w.ownsRow b e size v n xs) {k : Nat} {c : Array Value} (hk : w.heap[k]? = some (.cells c e' (0, 0))) (hne : e ≠ e') : v.ownBlock ≠ some k := by
  intro he
  rcases h.2 with ⟨rfl, _⟩ | ⟨g, cap, cur, rfl, _, hg, _⟩
  · cases he
  · cases he
    rw [hg] at hk
    simp only [Option.some.injEq, Obj.cells.injEq] at hk
    exact hne hk.2.1
theorem own_ty {w : World} {b n size : Nat} {e : TypeId} {v : Value} {xs : List Value} (h : w.ownsRow b e size v n xs) {k : Nat} (hk : v.ownBlock = some k) : ∃ c, w.heap[k]? = some (.cells c e (0, 0)) := by
  rcases h.2 with ⟨rfl, _⟩ | ⟨g, cap, cur, rfl, _, hg, _⟩
  · cases hk
  · cases hk
    exact ⟨_, hg⟩
theorem own_ne2 {w : World} {b n size b' n' size' : Nat} {e e' : TypeId} {v v' : Value} {xs xs' : List Value} (h : w.ownsRow b e size v n xs) (h' : w.ownsRow b' e' size' v' n' xs') (hne : e ≠ e') : v.ownBlock = none ∨ v.ownBlock ≠ v'.ownBlock := by
  cases hv : v.ownBlock with
  | none => exact Or.inl rfl
  | some k =>
    refine Or.inr (fun e1 => ?_)
    obtain ⟨c, hc⟩ := own_ty h' e1.symm
    exact own_neq h hc hne hv

theorem set32 {w : World} {b : Nat} {x y z : Value} {ty : TypeId} (h : w.heap[b]? = some (.cells #[x, y, z] ty (0, 0))) (u : Value) : (w.setCell ⟨b, 2, none⟩ u).heap[b]? = some (.cells #[x, y, u] ty (0, 0)) := by
  rw [World.setCell]
  simp [Array.getElem?_modify, h]
theorem set31 {w : World} {b : Nat} {x y z : Value} {ty : TypeId} (h : w.heap[b]? = some (.cells #[x, y, z] ty (0, 0))) (u : Value) : (w.setCell ⟨b, 1, none⟩ u).heap[b]? = some (.cells #[x, u, z] ty (0, 0)) := by
  rw [World.setCell]
  simp [Array.getElem?_modify, h]
theorem frz {w : World} {b : Nat} {cs : Array Value} {ty : TypeId} (h : w.heap[b]? = some (.cells cs ty (0, 0))) (o : Nat) : w.frozen? ⟨b, o, none⟩ = false := by
  simp [World.frozen?, h]
theorem VR.cr' {w : World} {oa : Option Addr} {N c : Nat} {l : List Vl} (h : VR w (.slice oa N c) l) : CR w (.slice oa N c) N 3 (vcells l) := by
  have := h.cr
  obtain ⟨_, _, e, _⟩ := h
  simp only [Value.slice.injEq] at e
  rw [e.2.1]
  rw [e.2.1] at this
  exact this
theorem Dx.noU8 {w : World} {q : Nat} {lim last : Int} {oa : Option Addr} {n c : Nat} {ty : TypeId} (h : w.heap[q]? = some (.cells #[.int .i64 lim, .int .i64 last, .slice oa n c] ty (0, 0))) : ∀ k o c, k = q → w.cell? ⟨k, o, none⟩ ≠ some (.int .u8 c) := by
  rintro k o c rfl e
  rcases o with _ | _ | _ | o <;> simp [World.cell?, h] at e

theorem add_end {k0 q lim last n N ce : Nat} {W w3 w4 w8 : World} {r : Value} {L : List Ft} {V : List (Ft × Value)} {s : List Vl} {Z t : Int} {ua od oe : Option Addr} {uc cd : Nat}
    (hd : W.heap[q]? = some (.cells #[.int .i64 lim, .int .i64 last, r] 32 (0, 0))) (hrx : RX (fun b => b = k0 ∨ b = q) W r L) (ho : Old W w3) (hc : Chg (· = q) w3 w4)
    (obj : w4.heap[q]? = some (.cells #[.int .i64 lim, .int .i64 Z, r] 32 (0, 0))) (of : Old w4 w8)
    (hf : w8.ownsRow w4.heap.size 38 3 (.slice oe (n + 1) ce) (n + 1) (fcells V ++ fcells [((⟨Z, t, s⟩ : Ft), Value.slice od N cd)])) (hv2 : RV2 (fun b => b = k0 ∨ b = q) w4 V) (hV : V.map (·.1) = L)
    (hd8 : w8.ownsRow w4.heap.size 45 3 (.slice od N cd) N (vcells s)) (hs4 : VR w4 (.slice ua N uc) s) (hk : k0 < W.heap.size) (hq : q < W.heap.size) (hne : q ≠ k0) (hNS : N = s.length) {last' : Nat} (hl : Z = (last' : Int)) :
    ∃ r', Dx k0 (w8.setCell ⟨q, 2, none⟩ (.slice oe (n + 1) ce)) q lim ⟨last', L ++ [⟨Z, t, s⟩]⟩ r' := by
  subst hl
  have h4 : W.heap.size ≤ w4.heap.size := Nat.le_trans ho.size hc.size
  have hob := (of.block q (blk_lt obj)).trans obj
  have hsmall : ∀ b, (b = k0 ∨ b = q) → b < w4.heap.size := fun b e => by
    rcases e with rfl | rfl <;> omega
  subst hNS
  have hvd : VR w8 (.slice od s.length cd) s := (CR.owned hd8).vr hs4.lim
  rw [← fcells_app] at hf
  have hrv : RV2 (fun b => b = k0 ∨ b = q) w8 (V ++ [((⟨(last' : Int), t, s⟩ : Ft), Value.slice od s.length cd)]) := fun y hy => by
    rcases List.mem_append.1 hy with hy | hy
    · exact (hv2.old of) y hy
    · rw [List.mem_singleton] at hy
      subst hy
      exact ⟨hvd, VS.far (own_from hd8) hsmall⟩
  refine ⟨_, ⟨set32 hob _, hne, (RX.join hf hsmall hrv (by rw [List.map_append, hV]; rfl)).chg (Chg.ofSet w8 ⟨q, 2, none⟩ _) (fun b e => Or.inr e)⟩⟩

set_option maxHeartbeats 16000000 in
theorem add_doc_new {k0 : Nat} {W : World} {q lim : Nat} {st : St} {r : Value} (h : Dx k0 W q lim st r) (hk : k0 < W.heap.size) (t : Int) (u : Value) (s : List Vl) (hs : VR W u s) (h10 : s.length ≤ 10) (hi : idOf st.L t s = 0) (hr : st.L.length < lim) (hn200 : st.L.length ≤ 200) (hlast : st.last < 1000000) :
    Calls Try.prog 12 #[ap q, .int .i64 t, u] W fun e w' => e = .returned (.tuple #[.int .i64 ((st.last + 1 : Nat) : Int), .bool true, .int .i64 0]) ∧ (∃ r', Dx k0 w' q lim ⟨st.last + 1, st.L ++ [⟨((st.last + 1 : Nat) : Int), t, s⟩]⟩ r') ∧ Chg (· = q) W w' := by
  have hf := find_doc h t u s hs
  rw [hi] at hf
  obtain ⟨last, L⟩ := st
  simp only at hn200 hlast hr hf ⊢
  have HK := Lib.hid hk
  have HQL := Lib.hid (blk_lt h.obj)
  have HNE := Lib.hid h.ne
  have HRX := Lib.hid h.rx
  have HD := Lib.hid h.obj
  obtain ⟨oa, c, er, r1, r2, _⟩ := h.rx
  subst er
  obtain ⟨n, hn⟩ : ∃ n, n = L.length := ⟨_, rfl⟩
  simp only at HD HRX r1
  rw [← hn] at HD HRX hr r1 hn200
  obtain ⟨ua, uc, rfl, u1, u2, _⟩ := id hs
  obtain ⟨N, hN⟩ : ∃ N, N = s.length := ⟨_, rfl⟩
  rw [← hN] at hs hf u1 h10 ⊢
  have HS := Lib.hid hs
  unfold maxLen at r2 u2
  have hd : decide (lim ≤ n) = false := decide_eq_false (by omega)
  have hadd : (last : Int) < 1000000 := by omega
  have hnn : (0 : Int) ≤ (last : Int) := by omega
  generalize hZ : ((last + 1 : Nat) : Int) = Z
  have hq : (last : Int) + 1 = Z := by omega
  have HQ := Lib.hid hq
  have HZ := Lib.hid hZ
  have HZ0 := HZ
  have HNL := Lib.hid hn
  have HNS := Lib.hid hN
  clear hZ hi hn h hs hk hN
  go_enter Try.func12, Try.ntmps12
  go_wp2_with (go_at_call 22; (with_reducible refine hf.mono ?_); rintro e w2 ⟨rfl, ho⟩; have HO := Lib.hid ho; obtain ⟨c0, c1, c2⟩ := obj_cells ((ho.block q (blk_lt HD.out)).trans HD.out); clear ho)
  go_region
  clear c0 c1 c2 hf
  replace HO := Lib.hid HO.out.drew
  generalize w2.drew = w3 at *
  have OBJ3 := Lib.hid ((HO.out.block q (blk_lt HD.out)).trans HD.out)
  obtain ⟨c0, c1, c2⟩ := obj_cells OBJ3.out
  have f1 := frz OBJ3.out 1
  clear hd hr
  have HC := Lib.hid (Chg.ofSet w3 ⟨q, 1, none⟩ (.int .i64 ((last : Int) + 1)))
  have OBJ := Lib.hid (set31 OBJ3.out (.int .i64 ((last : Int) + 1)))
  go_wp2
  clear c0 c1 c2 f1
  rw [HQ.out] at HC OBJ
  clear hq
  generalize w3.setCell ⟨q, 1, none⟩ (.int .i64 Z) = w4 at *
  have hrx4 := (HRX.out.old HO.out).chg HC.out (fun b e => Or.inr e)
  have HS4 := Lib.hid ((HS.out.old HO.out).chg HC.out (Dx.noU8 OBJ3.out))
  obtain ⟨V, hV, hVl, hcr, hv2⟩ := hrx4.split
  rw [← HNL.out] at hcr hVl
  replace hcr := Lib.hid hcr
  have ONE := Lib.hid hv2.one
  have HV2 := Lib.hid hv2
  have HVV := Lib.hid hV
  have HVL := Lib.hid hVl
  obtain ⟨i, hi, hz, hsz, hby⟩ := info_parts info38
  obtain ⟨i5, hi5, hz5, hsz5, hby5⟩ := info_parts info45
  have L1 := Lib.hid (show (0 + n) * 40 ≤ 140737488355328 by omega)
  have L2 := Lib.hid (show 0 + n ≤ maxLen by unfold maxLen; omega)
  have L3 := Lib.hid (show (0 + N) * 32 ≤ 140737488355328 by omega)
  have L4 := Lib.hid (show 0 + N ≤ maxLen by unfold maxLen; omega)
  have L5 := Lib.hid (show (n + 1) * 40 ≤ 140737488355328 by omega)
  have L6 := Lib.hid (show n + 1 ≤ maxLen by unfold maxLen; omega)
  have ONE1 := Lib.hid (show ∀ (d : Option Addr) (m e : Nat), ∀ v ∈ fcells [((⟨Z, t, s⟩ : Ft), Value.slice d m e)], v.oneCell' = true by
    intro d m e v hv
    simp [fcells] at hv
    rcases hv with rfl | rfl | rfl <;> rfl)
  have OX1 := Lib.hid ((Old.refl w4).drew.alloc (.cells #[] 38))
  have OX2 := Lib.hid (((Old.refl w4).drew.alloc (.cells #[] 38)).alloc (.cells #[] 45))
  have OY := Lib.hid ((Old.refl w4).drew.alloc (.cells #[] 45))
  have OX3 := Lib.hid (((Old.refl w4).drew.alloc (.cells #[] 45)).alloc (.cells #[] 38))
  have WA1 := Lib.hid (own_none w4.drew 38 3)
  have WA2 := Lib.hid (WA1.out.alloc (.cells #[] 45))
  have wa3 := own_low (own_none (w4.drew.alloc (.cells #[] 45)) 38 3) (base' := w4.heap.size) (by simp)
  rw [show (w4.drew.alloc (.cells #[] 45)).heap.size = w4.heap.size + 1 from sz_alloc w4.drew _] at wa3
  have WA3 := Lib.hid wa3
  have wc2 := own_low (own_none (w4.drew.alloc (.cells #[] 38)) 45 3) (base' := w4.heap.size) (by simp)
  rw [show (w4.drew.alloc (.cells #[] 38)).heap.size = w4.heap.size + 1 from sz_alloc w4.drew _] at wc2
  have WC2 := Lib.hid wc2
  have WC3 := Lib.hid ((own_none w4.drew 45 3).alloc (.cells #[] 38))
  obtain ⟨_, c1, c2⟩ := obj_cells OBJ.out
  obtain ⟨_, d1, d2⟩ := obj_cells (((((Old.refl w4).alloc (.cells #[] 38))).block q (blk_lt OBJ.out)).trans OBJ.out)
  obtain ⟨_, e1, e2⟩ := obj_cells ((((((Old.refl w4).alloc (.cells #[] 38)).alloc (.cells #[] 45))).block q (blk_lt OBJ.out)).trans OBJ.out)
  obtain ⟨_, f1, f2⟩ := obj_cells (((((Old.refl w4).alloc (.cells #[] 45))).block q (blk_lt OBJ.out)).trans OBJ.out)
  obtain ⟨_, g1, g2⟩ := obj_cells ((((((Old.refl w4).alloc (.cells #[] 45)).alloc (.cells #[] 38))).block q (blk_lt OBJ.out)).trans OBJ.out)
  clear wa3 wc2 hv2 hV hVl hrx4
  have HAE := Lib.hid (fun (w8 : World) (oe od : Option Addr) (ce cd : Nat) (of : Old w4 w8) (hf : w8.ownsRow w4.heap.size 38 3 (.slice oe (n + 1) ce) (n + 1) (fcells V ++ fcells [((⟨Z, t, s⟩ : Ft), Value.slice od N cd)])) (hd8 : w8.ownsRow w4.heap.size 45 3 (.slice od N cd) N (vcells s)) => (⟨add_end HD.out HRX.out HO.out HC.out OBJ.out of hf HV2.out HVV.out hd8 HS4.out HK.out HQL.out HNE.out HNS.out HZ.out.symm, (((Chg.ofOld HO.out).trans HC.out).trans (Chg.ofOld of)).trans (Chg.ofSet w8 ⟨q, 2, none⟩ _)⟩ : (∃ r', Dx k0 (w8.setCell ⟨q, 2, none⟩ (.slice oe (n + 1) ce)) q lim ⟨last + 1, L ++ [⟨Z, t, s⟩]⟩ r') ∧ Chg (· = q) W (w8.setCell ⟨q, 2, none⟩ (.slice oe (n + 1) ce))))
  clear HK HQL HNE HRX HD HO OBJ3 HC HQ HZ HNL HNS HV2 HVV HVL HS
  go_cut [34] from 34 to 53 (fun o wx => o = .pointer (some ⟨q, 0, none⟩) ∧ Hid ((∃ r', Dx k0 wx q lim ⟨last + 1, L ++ [⟨Z, t, s⟩]⟩ r') ∧ Chg (· = q) W wx))
  case first =>
    go_region_law (first
    | (refine step_appC _ rfl _ _ 30 rfl w4.heap.size 38 i _ 3 40 Try.underlying30 hi hz hsz hby rfl (Nat.zero_lt_succ 2) (.slice (some ⟨w4.heap.size, 0, none⟩) 0 0) 0 [] rfl WA1.out (.slice oa n c) n (fcells V) rfl (hcr.out.old OX1.out) ONE.out L1.out L2.out OX1.out.size ?_; intro v5 w5 hown hgr; rw [Nat.zero_add, List.nil_append] at hown; have OB := Lib.hid (OX1.out.grown hgr (fun k e => by cases e; exact Nat.le_refl _)); have HB := Lib.hid hown; have WC1 := Lib.hid (own_low (own_none w5 45 3) OB.out.size); obtain ⟨_, k1, k2⟩ := obj_cells (((OB.out.alloc (.cells #[] 45)).block q (blk_lt OBJ.out)).trans OBJ.out); obtain ⟨ob, cb, rfl⟩ := own_shape hown; obtain ⟨_, m1, m2⟩ := obj_cells ((OB.out.block q (blk_lt OBJ.out)).trans OBJ.out); clear hown hgr)
    | (refine step_appC _ rfl _ _ 30 rfl w4.heap.size 38 i _ 3 40 Try.underlying30 hi hz hsz hby rfl (Nat.zero_lt_succ 2) (.slice (some ⟨w4.heap.size, 0, none⟩) 0 0) 0 [] rfl WA2.out (.slice oa n c) n (fcells V) rfl (hcr.out.old OX2.out) ONE.out L1.out L2.out OX2.out.size ?_; intro v5 w5 hown hgr; rw [Nat.zero_add, List.nil_append] at hown; have OB := Lib.hid (OX2.out.grown hgr (fun k e => by cases e; exact Nat.le_refl _)); have HB := Lib.hid hown; have WCC2 := Lib.hid (WC2.out.kept hgr (own_ne2 WC2.out WA2.out (by decide))); obtain ⟨ob, cb, rfl⟩ := own_shape hown; obtain ⟨_, m1, m2⟩ := obj_cells ((OB.out.block q (blk_lt OBJ.out)).trans OBJ.out); clear hown hgr)
    | (refine step_appC _ rfl _ _ 30 rfl w4.heap.size 38 i _ 3 40 Try.underlying30 hi hz hsz hby rfl (Nat.zero_lt_succ 2) (.slice (some ⟨w4.heap.size + 1, 0, none⟩) 0 0) 0 [] rfl WA3.out (.slice oa n c) n (fcells V) rfl (hcr.out.old OX3.out) ONE.out L1.out L2.out OX3.out.size ?_; intro v5 w5 hown hgr; rw [Nat.zero_add, List.nil_append] at hown; have OB := Lib.hid (OX3.out.grown hgr (fun k e => by cases e; exact Nat.le_succ _)); have HB := Lib.hid hown; have WCC3 := Lib.hid (WC3.out.kept hgr (own_ne2 WC3.out WA3.out (by decide))); obtain ⟨ob, cb, rfl⟩ := own_shape hown; obtain ⟨_, m1, m2⟩ := obj_cells ((OB.out.block q (blk_lt OBJ.out)).trans OBJ.out); clear hown hgr)
    | (refine step_appC _ rfl _ _ 23 rfl w4.heap.size 45 i5 _ 3 32 Try.underlying23 hi5 hz5 hsz5 hby5 rfl (Nat.zero_lt_succ 2) (.slice (some ⟨w5.heap.size, 0, none⟩) 0 0) 0 [] rfl WC1.out (.slice ua N uc) N (vcells s) rfl (HS4.out.old (OB.out.alloc (.cells #[] 45))).cr' (vcells_one s) L3.out L4.out (OB.out.alloc (.cells #[] 45)).size ?_; intro v6 w6 hown hgr; rw [Nat.zero_add, List.nil_append] at hown; have OD := Lib.hid ((OB.out.alloc (.cells #[] 45)).grown hgr (fun k e => by cases e; exact OB.out.size)); have HB6 := Lib.hid ((HB.out.alloc (.cells #[] 45)).kept hgr (own_ne2 (HB.out.alloc (.cells #[] 45)) WC1.out (by decide))); have HD6 := Lib.hid hown; obtain ⟨od, cd, rfl⟩ := own_shape hown; obtain ⟨_, n1, n2⟩ := obj_cells ((OD.out.block q (blk_lt OBJ.out)).trans OBJ.out); obtain ⟨_, p1, p2⟩ := obj_cells (((OD.out.alloc (.cells #[.int .i64 Z, .int .i64 t, .slice od N cd] 38)).block q (blk_lt OBJ.out)).trans OBJ.out); clear hown hgr)
    | (refine step_appC _ rfl _ _ 23 rfl w4.heap.size 45 i5 _ 3 32 Try.underlying23 hi5 hz5 hsz5 hby5 rfl (Nat.zero_lt_succ 2) (.slice (some ⟨w4.heap.size + 1, 0, none⟩) 0 0) 0 [] rfl WCC2.out (.slice ua N uc) N (vcells s) rfl (HS4.out.old OB.out).cr' (vcells_one s) L3.out L4.out OB.out.size ?_; intro v6 w6 hown hgr; rw [Nat.zero_add, List.nil_append] at hown; have OD := Lib.hid (OB.out.grown hgr (fun k e => by cases e; exact Nat.le_succ _)); have HB6 := Lib.hid (HB.out.kept hgr (own_ne2 HB.out WCC2.out (by decide))); have HD6 := Lib.hid hown; obtain ⟨od, cd, rfl⟩ := own_shape hown; obtain ⟨_, n1, n2⟩ := obj_cells ((OD.out.block q (blk_lt OBJ.out)).trans OBJ.out); obtain ⟨_, p1, p2⟩ := obj_cells (((OD.out.alloc (.cells #[.int .i64 Z, .int .i64 t, .slice od N cd] 38)).block q (blk_lt OBJ.out)).trans OBJ.out); clear hown hgr)
    | (refine step_appC _ rfl _ _ 23 rfl w4.heap.size 45 i5 _ 3 32 Try.underlying23 hi5 hz5 hsz5 hby5 rfl (Nat.zero_lt_succ 2) (.slice (some ⟨w4.heap.size, 0, none⟩) 0 0) 0 [] rfl WCC3.out (.slice ua N uc) N (vcells s) rfl (HS4.out.old OB.out).cr' (vcells_one s) L3.out L4.out OB.out.size ?_; intro v6 w6 hown hgr; rw [Nat.zero_add, List.nil_append] at hown; have OD := Lib.hid (OB.out.grown hgr (fun k e => by cases e; exact Nat.le_refl _)); have HB6 := Lib.hid (HB.out.kept hgr (own_ne2 HB.out WCC3.out (by decide))); have HD6 := Lib.hid hown; obtain ⟨od, cd, rfl⟩ := own_shape hown; obtain ⟨_, n1, n2⟩ := obj_cells ((OD.out.block q (blk_lt OBJ.out)).trans OBJ.out); obtain ⟨_, p1, p2⟩ := obj_cells (((OD.out.alloc (.cells #[.int .i64 Z, .int .i64 t, .slice od N cd] 38)).block q (blk_lt OBJ.out)).trans OBJ.out); clear hown hgr)
    | (refine step_appC _ rfl _ _ 30 rfl w4.heap.size 38 i _ 3 40 Try.underlying30 hi hz hsz hby rfl (Nat.zero_lt_succ 2) (.slice ob n cb) n (fcells V) rfl (HB6.out.alloc _) (.slice (some ⟨w6.heap.size, 0, none⟩) 1 1) 1 _ rfl (one_ft s (MapKept.heap_alloc w6 _).1) (ONE1.out _ _ _) L5.out L6.out (OD.out.alloc _).size ?_; intro v8 w8 hown hgr; have OF := Lib.hid ((OD.out.alloc _).grown hgr (own_from HB6.out)); have VD8 := Lib.hid (((HD6.out.alloc _).kept hgr (own_ne2 HD6.out HB6.out (by decide)))); have HF := Lib.hid hown; obtain ⟨oe, ce, rfl⟩ := own_shape hown; obtain ⟨_, s1, s2⟩ := obj_cells ((OF.out.block q (blk_lt OBJ.out)).trans OBJ.out); have fz := frz ((OF.out.block q (blk_lt OBJ.out)).trans OBJ.out) 2; clear hown hgr))
    all_goals (go_wp2_with fail; go_meet; exact ⟨rfl, Lib.hid (HAE.out _ _ _ _ _ OF.out HF.out VD8.out)⟩)
  case rest =>
    obtain ⟨rfl, HR⟩ := hcut
    obtain ⟨⟨r', hdx⟩, hch⟩ := HR.out
    have HF := Lib.hid hdx
    have HCH := Lib.hid hch
    obtain ⟨x0, x1, x2⟩ := obj_cells hdx.obj
    rw [HZ0.out] at x1
    clear hdx hch c1 c2 d1 d2 e1 e2 f1 f2 g1 g2
    go_wp2
    go_ret3
    exact ⟨rfl, ⟨r', HF.out⟩, HCH.out⟩
end Go.Proofs.Ytfhbnkdibhmmcaa
