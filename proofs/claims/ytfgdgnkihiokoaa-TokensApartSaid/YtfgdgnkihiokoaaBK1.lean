/- The arena: Tuple's walk. -/
import Derived.Test.YtfgdgnkihiokoaaBK
namespace Go.Proofs.Ytfgdgnkihiokoaa
open Go.ChangeShapes Go.WideShapes Go.ChangeAt Go.RowKit Go.Lib
set_option linter.unusedVariables false
set_option linter.unusedSimpArgs false
set_option maxRecDepth 100000
set_option maxHeartbeats 800000

theorem tuple_any {w : World} {b : Bs} {A : Nat → Prop} {L : List Tk} {last cap : Nat} (h : Ar w b A L last cap) (hg : Good L last) (hlast : last < 1000000) (hL : L.length ≤ 900000) {i : Int} (hi : I64 i) :
    Calls Try.prog 14 #[ptr b, .int .i64 i] w fun e w' => ∃ v, e = .returned v ∧ Ints w' w.heap.size v (tuple L i) ∧ Old w w' := by
  have hm := h.made
  have HAr := Lib.hid h
  obtain ⟨K, N, F, h, rfl⟩ := h
  have c1 := h.cells.2.1
  have hl := (tok_look h.tok hg.up hi).1
  have HA := Lib.hid h
  have HG := Lib.hid hg
  have HLL := Lib.hid hL
  have h0 : tuple L i = tuple L ((getT L i).getD noTk).id ++ ([] : List Int).reverse := by
    rw [List.reverse_nil, List.append_nil]
    rcases hgt : getT L i with _ | t
    · rw [tuple_no (getT_none hgt)]; exact tuple_zero.symm
    · rw [Option.getD_some, (getT_some hgt).2]
  have h1 : (getT L i).getD noTk ∈ L ∨ (getT L i).getD noTk = noTk := by
    rcases hgt : getT L i with _ | t
    · exact Or.inr rfl
    · exact Or.inl (getT_some hgt).1
  generalize (getT L i).getD noTk = t0 at hl h0 h1
  have H0 := Lib.hid h0
  have H1 := Lib.hid h1
  clear h hg h0 h1 hL
  go_enter Try.func14, Try.ntmps14
  go_wp2_with (go_at_call 21; (with_reducible refine hm.mono ?_); rintro e w1 ⟨rfl, rfl⟩)
  go_loopw [5, 6] (fun s5 s6 wr => ∃ oa n cp g t l, s5 = .slice oa n cp ∧ s6 = .pointer (some ⟨g, 0, none⟩) ∧ Hid (Way w wr L i oa n cp g t l)) (fun s5 s6 wr => boxId s6 wr)
  case atStart =>
    exact ⟨none, 0, 0, w.heap.size, t0, [], rfl, rfl, Lib.hid ⟨Tb.new w t0, Nat.le_refl _, World.ownsRow_nil _ _ _ _, rfl, (Old.refl w).alloc _, H0.out, H1.out⟩⟩
  case round =>
    obtain ⟨oa, n, cp, g, t, l, rfl, rfl, HW⟩ := hrel
    obtain ⟨d0, d1, d2, d3⟩ := HW.out.box.cells
    have hn : n = l.length := HW.out.len
    by_cases hz : t.id = 0
    · have hb : (t.id != 0) = false := by simp [hz]
      have hs := HW.out.says
      rw [hz, tuple_zero, List.nil_append] at hs
      have hnl := HW.out.lim HG.out
      have hr := reverse_any HW.out.row (by have := HLL.out; omega) HW.out.old (Nat.le_refl _)
      rw [← hs] at hr
      have HR := Lib.hid hr
      clear hr hs hnl hn
      go_wp2_with (go_at_call 25; (with_reducible refine HR.out.mono ?_); rintro e w2 ⟨rfl, hi2, ho2⟩; have HI2 := Lib.hid hi2; have HO2 := Lib.hid ho2; clear hi2 ho2)
      go_ret
      exact ⟨_, rfl, HI2.out, HO2.out⟩
    · have hb : (t.id != 0) = true := by simp [hz]
      have htL : t ∈ L := HW.out.tok.resolve_right (fun e => hz (by rw [e]; rfl))
      obtain ⟨p, hpL, hpg, hpe, hplt, hp0⟩ := step_tok HG.out htL hz
      have HPG := Lib.hid hpg
      have HP64 : Hid (I64 t.par) := Lib.hid (by have := (HG.out.low p hpL).2; unfold I64; omega)
      have hst := tuple_step HG.out.up (fun x hx => HG.out.parLt hx) t htL hz
      have hsy := HW.out.says
      rw [hst, ← hpe] at hsy
      have HZ := Lib.hid hz
      have HPL := Lib.hid hpL
      have HLT := Lib.hid (show p.id.toNat < t.id.toNat by omega)
      by_cases hf : t.fact = 0
      · have hb2 : (t.fact != 0) = false := by simp [hf]
        rw [if_pos hf, List.append_nil] at hsy
        have HSY := Lib.hid hsy
        have hmeas := boxId_eq HW.out.box
        have HM := Lib.hid hmeas
        clear hz htL hpL hpg hpe hplt hp0 hst hsy hf hn hmeas
        go_wp2
        generalize hW5 : wr.alloc (.cells #[.int .i64 t.id, .int .i64 t.par, .int .i64 t.node, .int .i64 t.fact] 32) = W5 at *
        have B5 := Lib.hid (hW5 ▸ Tb.new wr t : Tb W5 wr.heap.size t)
        have O5 := Lib.hid (hW5 ▸ HW.out.old.alloc _ : Old w W5)
        have R5 := Lib.hid (hW5 ▸ HW.out.row.old ((Old.refl wr).alloc _) : Ints W5 w.heap.size (.slice oa n cp) l)
        have HN := Lib.hid HW.out.len
        have HB5 := Lib.hid (HW.out.old.size)
        clear hW5
        obtain ⟨g5, hg5⟩ : ∃ g5, g5 = wr.heap.size := ⟨_, rfl⟩
        rw [← hg5] at B5 HB5 ⊢
        clear hg5
        have c1 := (HA.out.old O5.out).cells.2.1
        obtain ⟨e0, e1, e2, e3⟩ := B5.out.cells
        have f0 := B5.out.frozen 0
        have f1 := B5.out.frozen 1
        have f2 := B5.out.frozen 2
        have f3 := B5.out.frozen 3
        have hl6 : (Instr.lookup 49 (.map (some b.t)) (.int .i64 t.par) false).run Try.prog W5.drew = .ok (tv p) W5.drew := by
          have := (tok_look (HA.out.old O5.out.drew).tok HG.out.up HP64.out).1
          rw [HPG.out, Option.getD_some] at this
          exact this
        go_still_tail 6, (by kernel_rfl)
        change wpList _ _ _ _ _ (World.drew W5)
        go_wp2
        have HT5 := Lib.hid ((B5.out.set p).old (Old.refl _).drew)
        refine ⟨⟨_, _, _, g5, p, l, rfl, rfl, Lib.hid ⟨HT5.out, HB5.out, ((R5.out.set4 B5.out p)).old (Old.refl _).drew, HN.out, (old4 O5.out HB5.out _ _ _ _).drew, HSY.out, Or.inl HPL.out⟩⟩, ?_⟩
        rw [boxId_eq HT5.out, HM.out]
        exact HLT.out
      · have hb2 : (t.fact != 0) = true := by simp [hf]
        have hsy2 : tuple L i = tuple L p.id ++ (l ++ [t.fact]).reverse := by rw [hsy, if_neg hf, List.reverse_append, List.append_assoc]; rfl
        have HSY := Lib.hid hsy2
        have HM := Lib.hid (boxId_eq HW.out.box)
        have HN := Lib.hid HW.out.len
        have hn1 : n + 1 ≤ L.length := by
          have h1 := tuple_bound HG.out i
          have h2 := congrArg List.length hsy2
          rw [List.length_append, List.length_reverse, List.length_append] at h2
          have : [t.fact].length = 1 := rfl
          omega
        obtain ⟨iI, hiI, hzI, hsI, hbI⟩ := info_parts info3
        have W0o : Old wr (wr.alloc (.cells #[.int .i64 t.fact] 3)) := (Old.refl wr).alloc _
        have R0 := Lib.hid (HW.out.row.old W0o)
        have C0 := Lib.hid (cr_one (MapKept.heap_alloc wr (.cells #[.int .i64 t.fact] 3)).1)
        have L1 := Lib.hid (show (n + 1) * 8 ≤ 140737488355328 by have := HLL.out; omega)
        have L2 := Lib.hid (show n + 1 ≤ maxLen by have := HLL.out; unfold maxLen; omega)
        have L3 := Lib.hid (show w.heap.size ≤ (wr.alloc (.cells #[.int .i64 t.fact] 3)).heap.size by have := HW.out.old.size; simp; omega)
        have HONE := Lib.hid (fun u hu => by rw [List.mem_singleton] at hu; subst hu; rfl : ∀ u ∈ [Value.int .i64 t.fact], u.oneCell' = true)
        have R0' : Hid ((wr.alloc (.cells #[.int .i64 t.fact] 3)).ownsRow w.heap.size 3 1 (.slice oa n cp) n (l.map (Value.int .i64))) := Lib.hid (by have := R0.out; unfold Ints at this; rw [← HN.out] at this; exact this)
        clear hz htL hpL hpg hpe hplt hp0 hst hsy hsy2 hf hn hn1 W0o
        go_upto_region 6 with (at_builtin; refine wpList_appC _ rfl _ _ 38 rfl w.heap.size 3 iI _ 1 8 Try.underlying38 hiI hzI hsI hbI rfl (Nat.zero_lt_succ 0) (.slice oa n cp) n (l.map (Value.int .i64)) rfl R0'.out (.slice (some ⟨wr.heap.size, 0, none⟩) 1 1) 1 [.int .i64 t.fact] rfl C0.out HONE.out L1.out L2.out L3.out ?_; intro v' W1 hown hgrow _; obtain ⟨ob, cap2, rfl⟩ := own_shape hown; have R1 : Hid (Ints W1 w.heap.size (.slice ob (n + 1) cap2) (l ++ [t.fact])) := (Lib.hid (ints_app HN.out hown)); have O1 := Lib.hid ((HW.out.old.alloc _).grown hgrow (fun k hk => (R0.out.from_base k hk))); have B1 := Lib.hid ((HW.out.box.old ((Old.refl wr).alloc (.cells #[.int .i64 t.fact] 3))).grown hgrow (fun k hk => R0.out.box (HW.out.box.old ((Old.refl wr).alloc _)) k hk)); clear hown hgrow; have d0 := B1.out.cells.1; have d1 := B1.out.cells.2.1; have d2 := B1.out.cells.2.2.1; have d3 := B1.out.cells.2.2.2)
        generalize hW5 : W1.alloc (.cells #[.int .i64 t.id, .int .i64 t.par, .int .i64 t.node, .int .i64 t.fact] 32) = W5 at *
        have B5 := Lib.hid (hW5 ▸ Tb.new W1 t : Tb W5 W1.heap.size t)
        have O5 := Lib.hid (hW5 ▸ O1.out.alloc _ : Old w W5)
        have R5 := Lib.hid (hW5 ▸ R1.out.old ((Old.refl W1).alloc _) : Ints W5 w.heap.size (.slice ob (n + 1) cap2) (l ++ [t.fact]))
        have HB5 := Lib.hid (O1.out.size)
        clear hW5
        obtain ⟨g5, hg5⟩ : ∃ g5, g5 = W1.heap.size := ⟨_, rfl⟩
        rw [← hg5] at B5 HB5 ⊢
        clear hg5
        have c1 := (HA.out.old O5.out).cells.2.1
        obtain ⟨e0, e1, e2, e3⟩ := B5.out.cells
        have f0 := B5.out.frozen 0
        have f1 := B5.out.frozen 1
        have f2 := B5.out.frozen 2
        have f3 := B5.out.frozen 3
        have hl6 : (Instr.lookup 49 (.map (some b.t)) (.int .i64 t.par) false).run Try.prog W5.drew = .ok (tv p) W5.drew := by
          have := (tok_look (HA.out.old O5.out.drew).tok HG.out.up HP64.out).1
          rw [HPG.out, Option.getD_some] at this
          exact this
        go_still_tail 6, (by kernel_rfl)
        change wpList _ _ _ _ _ (World.drew W5)
        go_wp2
        have HT5 := Lib.hid ((B5.out.set p).old (Old.refl _).drew)
        refine ⟨⟨_, _, _, g5, p, l ++ [t.fact], rfl, rfl, Lib.hid ⟨HT5.out, HB5.out, ((R5.out.set4 B5.out p)).old (Old.refl _).drew, by rw [List.length_append, ← HN.out]; rfl, (old4 O5.out HB5.out _ _ _ _).drew, HSY.out, Or.inl HPL.out⟩⟩, ?_⟩
        rw [boxId_eq HT5.out, HM.out]
        exact HLT.out
end Go.Proofs.Ytfgdgnkihiokoaa
