/- Layer memory: Copy once more: where the copy's rows lie. -/
import Derived.Test.YtfhbnkdibhmmcaaSC
namespace Go.Proofs.Ytfhbnkdibhmmcaa
open Go.ChangeShapes Go.WideShapes Go.ChangeAt Go.RowKit Go.Lib
set_option linter.unusedVariables false
set_option linter.unusedSimpArgs false
set_option maxRecDepth 100000
attribute [local go_sem] Oper.semAt_some

/-- Their rows lie beyond what was there. -/
def FarE (W0 : World) (E : List En) : Prop := ∀ x ∈ E, ∀ k, x.v.ownBlock = some k → W0.heap.size ≤ k
/-- Between two rounds. -/
structure Cf (E : List En) (W0 : World) (lim last cb cp cv k : Nat) (W : World) : Prop where
  chg : Chg (· = cb) W0 W
  mem : ∃ E', E'.map En.ft = (E.take k).map En.ft ∧ MemE W cp cb lim last E' ∧ FarE W0 E'
  var : W.heap[cv]? = some (.cells #[.pointer (some ⟨cp, 0, none⟩)] 25 (0, 0))
theorem Cf.old {E : List En} {W0 A B : World} {lim last cb cp cv k : Nat} (h : Cf E W0 lim last cb cp cv k A) (ho : Old A B) : Cf E W0 lim last cb cp cv k B := by
  obtain ⟨E', h1, h2⟩ := h.mem
  exact ⟨h.chg.trans (Chg.ofOld ho), ⟨E', h1, h2.1.old ho, h2.2⟩, (ho.block _ (blk_lt h.var)).trans h.var⟩
theorem Cf.put {E : List En} {W0 A : World} {lim last cb cp cv k l : Nat} {r : Loop} (h : Cf E W0 lim last cb cp cv k A) (o' : Obj) (hl : W0.heap.size ≤ l) (ho : A.heap[l]? = some (.loop r)) : Cf E W0 lim last cb cp cv k (A.putObj l o') := by
  obtain ⟨E', h1, h2⟩ := h.mem
  refine ⟨h.chg.later (Chg.ofPut A l o') (fun k e => Or.inl (by omega)), ⟨E', h1, h2.1.put _ ho, h2.2⟩, ?_⟩
  have : l ≠ cv := fun e => by
    have := h.var
    rw [← e, ho] at this
    cases this
  have h' : A.heap[cv]? = _ := h.var
  exact (World.putObj_heap_other (Ne.symm this)).trans h'
/-- Behind the round's variable. -/
def Cg (E : List En) (W0 : World) (B lim last cb cp cv : Nat) (tm : Value → Value → Array Value) (k : Nat) (v : Value) (a : Act) (W : World) : Prop :=
  Cf E W0 lim last cb cp cv k W ∧ Ym E B k v W ∧ ∃ bf x y z, v = .agg #[x, y, z] ∧ Fb W bf x y z ∧ a = { tmps := tm (.pointer (some ⟨bf, 0, none⟩)) v, defers := [] }

/-- One round more. -/
theorem Cf.more {w : World} {p b : Nat} {E : List En} {W0 A w6 : World} {lim last cb cp cv k n : Nat} (hm : MemE w p b lim last E) (h : Cf E W0 lim last cb cp cv k A) {x : En} (hx : E[k]? = some x) {v : Value} (hv : VR A v x.l) (hvf : ∀ k, v.ownBlock = some k → W0.heap.size ≤ k) (hk : k < E.length)
    (hown : w6.ownsMap Try.prog 3 Rm cb n ((Dm (Classical.choose h.mem)).put (.int .i64 x.id) (.held (fv x.id x.t v)))) (ht : A.mapTurned w6 cb) : Cf E W0 lim last cb cp cv (k + 1) w6 := by
  obtain ⟨hE', hME, hFar⟩ := Classical.choose_spec h.mem
  generalize Classical.choose h.mem = E' at hE' hME hFar hown
  have hlen : E'.length = k := by
    have := congrArg List.length hE'
    rw [List.length_map, List.length_map, List.length_take] at this
    omega
  have hxE := List.mem_iff_getElem?.2 ⟨k, hx⟩
  refine ⟨h.chg.trans (Chg.ofTurn ht), ⟨E' ++ [⟨x.id, x.t, v, x.l⟩], ?_, ?_, ?_⟩, cells_turn h.var ht⟩
  · rw [List.map_append, hE', List.take_add_one, hx, Option.toList_some, List.map_append]
    rfl
  · refine hME.more (fun y hy => ?_) (hm.ids x hxE) hv (hm.rows x hxE).2 (fun y hy e => ?_) (by have := hm.room; omega) hown ht
    · obtain ⟨z, hz, e⟩ := ft_in hE' hy
      have h1 := take_lt hm.up hx z hz
      have : z.id = y.id := congrArg Ft.id e
      show y.id < x.id
      omega
    · obtain ⟨z, hz, e'⟩ := ft_in hE' hy
      have h1 := take_lt hm.uniq hx z hz
      have t1 : z.t = y.t := congrArg Ft.t e'
      have l1 : z.l = y.l := congrArg Ft.l e'
      exact h1 ⟨t1.trans e.1, l1.trans e.2⟩
  · intro y hy j e
    rcases List.mem_append.1 hy with hy | hy
    · exact hFar y hy j e
    · rw [List.mem_singleton] at hy
      subst hy
      exact hvf j e

set_option maxHeartbeats 1000000 in
theorem copy_far {w : World} {p b lim last : Nat} {L : List Ft} (h : Mem w p b lim last L) :
    Calls Try.prog 16 #[.pointer (some ⟨p, 0, none⟩)] w fun e w' => (∃ p' b', e = .returned (.pointer (some ⟨p', 0, none⟩)) ∧ MemN [] w.heap.size w' p' b' lim last L ∧ w.heap.size ≤ p' ∧ w.heap.size ≤ b') ∧ Old w w' := by
  obtain ⟨E, rfl, h⟩ := h
  have hm := made_any h
  obtain ⟨c0, c1, c2⟩ := obj_cells h.obj
  have HM := Lib.hid h
  have hp := blk_lt h.obj
  have n0 : ¬ p = w.heap.size := by omega
  have n1 : ¬ p = w.heap.size + 1 := by omega
  have n2 : ¬ p = w.heap.size + 1 + 1 := by omega
  have n3 : ¬ w.heap.size = p := by omega
  have n4 : ¬ w.heap.size + 1 = p := by omega
  have n5 : ¬ w.heap.size + 1 + 1 = p := by omega
  clear h
  refine (callsIn_wide (n := 9)).1 ?_
  have f29 : Fence.wide.fn 29 := trivial
  have f31 : Fence.wide.fn 31 := trivial
  have hmm := @run_makeMap Try.prog
  refine callsIn_of_wp_marks Try.func16 rfl trivial ?_ rfl
  simp only [Try.ntmps16, List.size_toArray, List.length_cons, List.length_nil, Nat.reduceAdd, Nat.reduceSub, Array.replicate_succ, Array.replicate_zero, List.push_toArray, List.append_toArray, List.nil_append, List.cons_append]
  gi_wp2_with (gi_at_call 29; refine (callsIn_wide.2 hm).mono ?_; rintro e w1 ⟨rfl, rfl⟩)
  rename_i Q0 K0 hK0
  have rest : ∀ (cb cp cv : Nat) (W : World), Fc w lim last cb cp cv W → K0 { tmps := #[.pointer (some ⟨p, 0, none⟩), undef, .pointer none, .pointer (some ⟨cv, 0, none⟩), undef, .pointer (some ⟨p, 0, none⟩), .bool true, .bool false, .pointer (some ⟨p, 0, none⟩), .pointer (some ⟨p, 0, none⟩), .pointer (some ⟨p, 0, none⟩), .int .i64 lim, .pointer (some ⟨p, 0, none⟩), .pointer (some ⟨p, 0, none⟩), .pointer (some ⟨p, 1, none⟩), .int .i64 last, .map (some cb), .agg #[.int .i64 lim, .int .i64 last, .map (some cb)], .pointer (some ⟨cp, 0, none⟩), undef, undef, undef, undef, undef, undef, undef, undef, undef, undef, undef], defers := [] } W := by
    intro cb cp cv W hF
    refine hK0 _ _ ?_
    have HF := Lib.hid hF
    clear hF
    gi_wp2_with (gi_at_call 31; refine (callsIn_wide.2 (inorder_any (HM.out.old HF.out.old))).mono ?_; rintro e W0 ⟨⟨B3, B1, v, rfl, hit⟩, ho⟩; have HIT := Lib.hid hit; have HO := Lib.hid ho; clear hit ho)
    have HC0 := Lib.hid (HF.out.old.trans HO.out)
    have HW0 := Lib.hid (HM.out.old HC0.out)
    have hown0 := own_chg HF.out.map (Chg.ofOld (S := fun _ => False) HO.out) (fun e => e)
    have hnoc : ∀ k o u, k = cb → W0.cell? ⟨k, o, none⟩ ≠ some u := by
      rintro k o u rfl e
      obtain ⟨es, clock, hb, _⟩ := hown0
      simp [World.cell?, hb] at e
    have HNC := Lib.hid hnoc
    have hpl : p < w.heap.size ∧ b < w.heap.size := ⟨blk_lt HM.out.obj, HM.out.own.lt⟩
    have HPL := Lib.hid hpl
    have e0 : MemE W0 cp cb lim last [] := ⟨(HO.out.block _ (blk_lt HF.out.obj)).trans HF.out.obj, own_tight hown0, List.Pairwise.nil, fun x hx => (by simp at hx), fun x hx => (by simp at hx), List.Pairwise.nil, Nat.zero_le _, HM.out.lims, HM.out.lasts⟩
    have E0 := Lib.hid e0
    clear hown0 hnoc hpl e0
    refine wpIn_tells rfl (by omega) (gf := 37) (lb := #[.pointer (some ⟨B3, 0, none⟩), .pointer (some ⟨B1, 0, none⟩)]) rfl trivial (enters_of Try.func37 (by kernel_rfl) rfl)
      (tells_any 8 (by omega) p b lim last E v B3 B1 W0.heap.size) rfl (Cf E W0 lim last cb cp cv) (fun k A B h ho => h.old ho) (fun k A l r r' h hl ho => h.put _ hl ho)
      (fun k A h => ?_) ?_ (Cg E W0 W0.heap.size lim last cb cp cv (fun x y => #[.pointer (some ⟨p, 0, none⟩), undef, .pointer none, .pointer (some ⟨cv, 0, none⟩), x, .pointer (some ⟨p, 0, none⟩), .bool true, .bool false, .pointer (some ⟨p, 0, none⟩), .pointer (some ⟨p, 0, none⟩), .pointer (some ⟨p, 0, none⟩), .int .i64 lim, .pointer (some ⟨p, 0, none⟩), .pointer (some ⟨p, 0, none⟩), .pointer (some ⟨p, 1, none⟩), .int .i64 last, .map (some cb), .agg #[.int .i64 lim, .int .i64 last, .map (some cb)], .pointer (some ⟨cp, 0, none⟩), .pointer (some ⟨p, 0, none⟩), .func (.func 37) #[] #[.pointer (some ⟨B3, 0, none⟩), .pointer (some ⟨B1, 0, none⟩)], y, undef, undef, undef, undef, undef, undef, undef, undef]))
      (fun k u a' A l r r' h hl ho => ?_) ?assign ?body ?done
    · refine ⟨HW0.out.chg h.chg (fun e => ?_) (fun e => ?_) (fun k o c e => HNC.out k o _ e), HIT.out.chg h.chg HNC.out, h.chg.size⟩
      · have := HPL.out.1
        have := HF.out.hb
        omega
      · have := HPL.out.2
        have := HF.out.hb
        omega
    · exact ⟨Chg.ofOld (Old.refl _), ⟨[], rfl, E0.out, fun x hx => by simp at hx⟩, (HO.out.block _ (blk_lt HF.out.var)).trans HF.out.var⟩
    · obtain ⟨h1, h2, bf, x, y, z, rfl, hf, ha⟩ := h
      exact ⟨h1.put _ hl ho, h2.put _ ho, bf, x, y, z, rfl, hf.put _ ho, ha⟩
    case assign =>
      intro l k u A hi hy hk
      obtain ⟨x, hx, vv, rfl, hown, hs⟩ := id hy
      obtain ⟨oa, cap, rfl⟩ := own_shape hown
      have HI2 := Lib.hid hi
      have HY := Lib.hid hy
      clear hi hy hx hown hs
      gi_wp2
      exact ⟨KeepsFrom.ofOld _ ((Old.refl A).alloc _), HI2.out.old ((Old.refl A).alloc _), HY.out.old ((Old.refl A).alloc _), A.heap.size, _, _, _, rfl, Fb.new A _ _ _, rfl⟩
    case body =>
      intro l k u a' A h hk
      obtain ⟨hC, hY, bf, x, y, z, rfl, hf, rfl⟩ := h
      obtain ⟨xe, hx, vv, e3, hvr, hs⟩ := hY
      simp only [Value.agg.injEq, Array.mk.injEq, List.cons.injEq, and_true] at e3
      obtain ⟨rfl, rfl, rfl⟩ := e3
      have hVR := (CR.owned hvr).vr hs
      have hVF := own_from hvr
      obtain ⟨ov, cv', rfl⟩ := own_shape hvr
      have hI : I64 xe.ft.id := by
        have := HM.out.ids xe (List.mem_iff_getElem?.2 ⟨k, hx⟩)
        have := HM.out.lasts
        unfold I64
        show -9223372036854775808 ≤ xe.id ∧ xe.id ≤ 9223372036854775807
        omega
      have hCd := hC.old (Old.refl A).drew
      obtain ⟨hE', hME, hFar⟩ := Classical.choose_spec hCd.mem
      obtain ⟨w6, hrun, hown6, hturn6⟩ := hME.own.store keyed3 Try.underlying59 (by have := hME.room; have := HM.out.lims; unfold maxLen; omega) (key_int hI) (show Rm (fv xe.ft.id xe.ft.t (.slice ov xe.ft.l.length cv')) = some (.held (fv xe.ft.id xe.ft.t (.slice ov xe.ft.l.length cv')), []) from rfl)
      have hfin : KeepsFrom W0.heap.size A w6 ∧ Cf E W0 lim last cb cp cv (k + 1) w6 :=
        ⟨⟨(KeepsFrom.of_grownBy (B := W0.heap.size) (W := A.drew) hturn6.grown (fun j e => by cases e; exact E0.out.own.lt)).size, (KeepsFrom.of_grownBy (B := W0.heap.size) (W := A.drew) hturn6.grown (fun j e => by cases e; exact E0.out.own.lt)).same⟩, hCd.more HM.out hx (hVR.old (Old.refl A).drew) hVF hk hown6 hturn6⟩
      obtain ⟨q0, q1, q2⟩ := obj_cells hME.obj
      replace q2 : A.cell? ⟨cp, 2, none⟩ = some (.map (some cb)) := q2
      have v0 := one_cell hC.var
      have d0 := hf.c0
      have d1 := hf.c1
      have d2 := hf.c2
      clear hE' hME hFar hVF hx hVR hvr hs hown6 hturn6 hf hI hC hCd q0 q1 c0 c1 c2 n0 n1 n2 n3 n4 n5 hp hm hmm f29 f31 hK0
      gi_wp2
      gi_region
      all_goals exact hfin
    case done =>
      intro D A hD h hA
      obtain ⟨hch, ⟨E', hE', hME, hFar⟩, hvar⟩ := h
      have v0 := one_cell hvar
      gi_wp2
      refine ⟨by simp, .inl ⟨_, _, rfl, run_takeDeferred hA, ?_⟩⟩
      refine ⟨_, results_tmp rfl _ _ _, ⟨cp, cb, rfl, ⟨E', ?_, hME.putD _ hA, fun x hx => Or.inr (fun k e => Nat.le_trans HC0.out.size (hFar x hx k e))⟩, HF.out.hp, HF.out.hb⟩, ?_⟩
      · rw [hE', List.take_length]
      · exact (hch.old HC0.out (fun k e => by have := HF.out.hb; omega)).put _ (Nat.le_trans HC0.out.size hD) hA
  gi_region
  · refine rest w.heap.size (w.heap.size + 1) (w.heap.size + 1 + 1) _ ?_
    refine ⟨((((Old.refl w).alloc _).alloc _).alloc _).drew, by omega, by omega, by omega, ?_, ?_, ?_⟩
    · exact (((World.ownsMap_made w Try.prog 3 Rm).alloc _).alloc _).drew
    · exact (three_blk w _ _ _).2.1
    · exact (three_blk w _ _ _).2.2
  · refine rest w.heap.size (w.heap.size + 1 + 1) (w.heap.size + 1) _ ?_
    refine ⟨((((Old.refl w).alloc _).alloc _).alloc _).drew, by omega, by omega, by omega, ?_, ?_, ?_⟩
    · exact (((World.ownsMap_made w Try.prog 3 Rm).alloc _).alloc _).drew
    · exact (three_blk w _ _ _).2.2
    · exact (three_blk w _ _ _).2.1
  · refine rest (w.heap.size + 1) (w.heap.size + 1 + 1) w.heap.size _ ?_
    refine ⟨((((Old.refl w).alloc _).alloc _).alloc _).drew, by omega, by omega, by omega, ?_, ?_, ?_⟩
    · have := World.ownsMap_made (w.alloc (.cells #[.pointer (some ⟨w.heap.size + 1 + 1, 0, none⟩)] 25)) Try.prog 3 Rm
      rw [sz_alloc] at this
      exact (this.alloc _).drew
    · exact (three_blk w _ _ _).2.2
    · exact (three_blk w _ _ _).1

end Go.Proofs.Ytfhbnkdibhmmcaa
