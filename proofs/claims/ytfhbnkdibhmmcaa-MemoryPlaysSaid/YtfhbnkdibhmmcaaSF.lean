/- Layer memory: the document's memory: Copy. -/
import Derived.Test.YtfhbnkdibhmmcaaSE
import Derived.Deep.RegionHeld3
namespace Go.Proofs.Ytfhbnkdibhmmcaa
open Go.ChangeShapes Go.WideShapes Go.ChangeAt Go.RowKit Go.Lib
set_option linter.unusedVariables false
set_option linter.unusedSimpArgs false
set_option maxRecDepth 100000

set_option maxHeartbeats 4000000 in
theorem copy_doc {k0 : Nat} {W : World} {q lim : Nat} {st : St} {r : Value} (h : Dx k0 W q lim st r) (hk : k0 < W.heap.size) (hn200 : st.L.length ≤ 200) :
    Calls Try.prog 17 #[ap q] W fun e w' => (∃ q' r', e = .returned (.pointer (some ⟨q', 0, none⟩)) ∧ W.heap.size ≤ q' ∧ Dx k0 w' q' lim st r') ∧ Old W w' := by
  obtain ⟨last, L⟩ := st
  have HOBJ := Lib.hid h.obj
  obtain ⟨V, hV, hVl, hcr, hv2⟩ := (h.rx.less (T := (· = k0)) (fun b e => Or.inl e)).split
  obtain ⟨oa, c, rfl, r1, r2, r3⟩ := h.rx
  have HK := Lib.hid hk
  simp only at HOBJ r1 r2 r3 hn200 hV hVl hcr hv2 ⊢
  obtain ⟨n, hn⟩ : ∃ n, n = L.length := ⟨_, rfl⟩
  rw [← hn] at HOBJ r1 hn200 hVl hcr
  have O1 := Lib.hid ((Old.refl W).drew.alloc (.cells #[] 38))
  have CR1 := Lib.hid (hcr.old O1.out)
  have ONE := Lib.hid hv2.one
  have HV2 := Lib.hid hv2
  have HVV := Lib.hid hV
  obtain ⟨i, hi, hz, hsz, hby⟩ := info_parts info38
  have L1 := Lib.hid (show (0 + n) * 40 ≤ 140737488355328 by omega)
  have L2 := Lib.hid (show 0 + n ≤ maxLen by unfold maxLen; omega)
  have OWN := Lib.hid (own_none W.drew 38 3)
  unfold maxLen at r2
  clear hn r3 hcr hv2 hV hk h
  obtain ⟨d0, d1, d2⟩ := obj_cells HOBJ.out
  obtain ⟨e0, e1, e2⟩ := obj_cells ((((Old.refl W).alloc (.cells #[] 38)).block q (blk_lt HOBJ.out)).trans HOBJ.out)
  go_enter Try.func17, Try.ntmps17
  go_wp2
  go_region_held3 (fun w' => w'.cell? ⟨q, 0, none⟩ = some (.int .i64 lim) ∧ w'.cell? ⟨q, 1, none⟩ = some (.int .i64 last) ∧ w'.cell? ⟨q, 2, none⟩ = some (.slice oa n c))
    (first | exact ⟨d0, d1, d2⟩ | exact ⟨e0, e1, e2⟩ | exact ⟨f0, f1, f2⟩ | go_keep)
    (first | (refine step_appC _ rfl _ _ 30 rfl W.heap.size 38 i _ 3 40 Try.underlying30 hi hz hsz hby rfl (Nat.zero_lt_succ 2) (.slice (some ⟨W.heap.size, 0, none⟩) 0 0) 0 [] rfl OWN.out (.slice oa n c) n (fcells V) rfl CR1.out ONE.out L1.out L2.out O1.out.size ?_; intro v5 w5 hown hgr; rw [Nat.zero_add, List.nil_append] at hown; have OA := Lib.hid (O1.out.grown hgr (fun k e => by cases e; exact Nat.le_refl _)); have HW := Lib.hid hown; obtain ⟨ob, cb, rfl⟩ := own_shape hown; obtain ⟨f0, f1, f2⟩ := obj_cells ((OA.out.block q (blk_lt HOBJ.out)).trans HOBJ.out); clear hown hgr))
  all_goals
    go_wp2
    go_ret
    have hb := blk_lt (MapKept.heap_alloc w5 (.cells #[.int .i64 lim, .int .i64 last, .slice ob n cb] 32)).1
    refine ⟨⟨w5.heap.size, _, rfl, OA.out.size, ⟨(MapKept.heap_alloc w5 _).1, ?_, ((RX.join HW.out (fun b e => by have := HK.out; omega) (HV2.out.old OA.out) HVV.out).more (T := fun b => b = k0 ∨ b = w5.heap.size) (fun b e => ?_)).old ((Old.refl _).alloc _)⟩⟩, OA.out.alloc _⟩
    · have := OA.out.size
      have := HK.out
      omega
    · rcases e with e | e
      · exact Or.inr e
      · exact Or.inl (Nat.le_of_eq e.symm)
end Go.Proofs.Ytfhbnkdibhmmcaa
