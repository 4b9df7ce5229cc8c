/- Layer memory: a memory's rows, and where they lie: Add and Remove once more. -/
import Derived.Test.YtfhbnkdibhmmcaaQZ
namespace Go.Proofs.Ytfhbnkdibhmmcaa
open Go.ChangeShapes Go.WideShapes Go.ChangeAt Go.RowKit Go.Lib
set_option linter.unusedVariables false
set_option linter.unusedSimpArgs false
set_option maxRecDepth 100000

/-- A memory, each of whose rows was there, or lies beyond B. -/
def MemN (E : List En) (B : Nat) (w : World) (p b lim last : Nat) (L : List Ft) : Prop := ∃ E', L = E'.map En.ft ∧ MemE w p b lim last E' ∧ ∀ x ∈ E', x ∈ E ∨ ∀ k, x.v.ownBlock = some k → B ≤ k
/-- Of a slice of some values: it does not lie in block k. -/
def VX (k : Nat) (v : Value) : Prop := ∀ g o n c, v = .slice (some ⟨g, o, none⟩) n c → n ≠ 0 → g ≠ k
theorem VX.far {k B : Nat} {v : Value} (h : ∀ j, v.ownBlock = some j → B ≤ j) (hk : k < B) : VX k v := by
  rintro g o n c rfl hn rfl
  have : B ≤ g := h _ rfl
  omega
theorem VX.new {w : World} {k : Nat} {v : Value} {l : List Vl} (h : VR w v l) (hk : w.heap.size ≤ k) : VX k v := by
  rintro g o n c rfl hn rfl
  obtain ⟨oa, cap, e, h1, h2, h3⟩ := h
  simp only [Value.slice.injEq] at e
  obtain ⟨rfl, rfl, rfl⟩ := e
  rcases l with _ | ⟨x, l⟩
  · exact hn rfl
  obtain ⟨g', o', e, hg, _⟩ := h3 0 x rfl
  simp only [Option.some.injEq, Addr.mk.injEq, and_true] at e
  omega
theorem VR.chgX {k : Nat} {w w' : World} {v : Value} {l : List Vl} (h : VR w v l) (hc : Chg (· = k) w w') (hx : VX k v) : VR w' v l := by
  obtain ⟨oa, cap, rfl, h1, h2, h3⟩ := h
  refine ⟨oa, cap, rfl, h1, h2, fun j x hj => ?_⟩
  obtain ⟨g, o, rfl, hg, c0, c1, c2, hs'⟩ := h3 j x hj
  have hne : g ≠ k := hx g o _ _ rfl (fun e => by
    have := List.eq_nil_of_length_eq_zero e
    subst this
    simp at hj)
  have hb := hc.block g hg hne
  exact ⟨g, o, rfl, Nat.lt_of_lt_of_le hg hc.size, (World.cell?_of_block (w := w) hb).trans c0, (World.cell?_of_block (w := w) hb).trans c1, (World.cell?_of_block (w := w) hb).trans c2, hs'⟩
/-- A memory that does not lie in block k. -/
def MemX (k : Nat) (w : World) (p b lim : Nat) (s : St) : Prop := ∃ E, s.L = E.map En.ft ∧ MemE w p b lim s.last E ∧ p ≠ k ∧ b ≠ k ∧ ∀ x ∈ E, VX k x.v
theorem MemX.mem {k : Nat} {w : World} {p b lim : Nat} {s : St} (h : MemX k w p b lim s) : Mem w p b lim s.last s.L := by
  obtain ⟨E, h1, h2, _⟩ := h
  exact ⟨E, h1, h2⟩
theorem MemX.new {k : Nat} {w : World} {p b lim : Nat} {s : St} (h : Mem w p b lim s.last s.L) (hk : w.heap.size ≤ k) : MemX k w p b lim s := by
  have hl := h.lt
  obtain ⟨E, h1, h2⟩ := h
  exact ⟨E, h1, h2, by omega, by omega, fun x hx => VX.new (h2.rows x hx).1 hk⟩
theorem MemX.old {k : Nat} {w w' : World} {p b lim : Nat} {s : St} (h : MemX k w p b lim s) (ho : Old w w') : MemX k w' p b lim s := by
  obtain ⟨E, h1, h2, h3⟩ := h
  exact ⟨E, h1, h2.old ho, h3⟩
theorem MemX.next {k : Nat} {w w' : World} {p b lim : Nat} {s' : St} {E : List En} (hx : ∀ x ∈ E, VX k x.v) (hp : p ≠ k) (hb : b ≠ k) (hk : k < w.heap.size) (h : MemN E w.heap.size w' p b lim s'.last s'.L) : MemX k w' p b lim s' := by
  obtain ⟨E', h1, h2, h3⟩ := h
  refine ⟨E', h1, h2, hp, hb, fun x h => ?_⟩
  rcases h3 x h with h | h
  · exact hx x h
  · exact VX.far h hk
/-- What changes but block k leaves it. -/
theorem MemX.chg {k : Nat} {w w' : World} {p b lim : Nat} {s : St} (h : MemX k w p b lim s) (hc : Chg (· = k) w w') : Mem w' p b lim s.last s.L := by
  obtain ⟨E, h1, h2, hp, hb, hx⟩ := h
  refine ⟨E, h1, ?_⟩
  have ho := h2.own
  exact {
    obj := (hc.block p (blk_lt h2.obj) hp).trans h2.obj
    own := own_chg h2.own hc hb
    up := h2.up
    ids := h2.ids
    rows := fun x hx' => ⟨(h2.rows x hx').1.chgX hc (hx x hx'), (h2.rows x hx').2⟩
    uniq := h2.uniq
    room := h2.room
    lims := h2.lims
    lasts := h2.lasts }
set_option maxHeartbeats 1600000 in
theorem add_newE {w : World} {p b lim last : Nat} {E : List En} (h : MemE w p b lim last E) (t : Int) (u : Value) (s : List Vl) (hs : VR w u s) (h10 : s.length ≤ 10) (hi : idOf (E.map En.ft) t s = 0) (hr : E.length < lim) (hlast : last < 1000000) :
    Calls Try.prog 11 #[.pointer (some ⟨p, 0, none⟩), .int .i64 t, u] w fun e w' => e = .returned (.tuple #[.int .i64 ((last + 1 : Nat) : Int), .bool true, .int .i64 0]) ∧ MemN E w.heap.size w' p b lim (last + 1) (E.map En.ft ++ [⟨((last + 1 : Nat) : Int), t, s⟩]) ∧ Chg (fun k => k = p ∨ k = b) w w' := by
  have hf := find_any (⟨E, rfl, h⟩ : Mem w p b lim last (E.map En.ft)) t u s hs
  rw [hi] at hf
  have hm := made_any h
  have HM := Lib.hid h
  have HK := Lib.hid (fun x hx => (h.ids x hx).2 : ∀ x ∈ E, x.id ≤ last)
  have HNO2 := Lib.hid (fun y hy => idOf_zero h.one hi y.ft (List.mem_map.2 ⟨y, hy, rfl⟩) : ∀ y ∈ E, ¬ (y.t = t ∧ y.l = s))
  have HR := Lib.hid hr
  have HLA := Lib.hid hlast
  have hr' : (E.length : Int) < (lim : Int) := by omega
  have HS := Lib.hid hs
  have H10 := Lib.hid h10
  obtain ⟨ua, uc, rfl, _⟩ := hs
  obtain ⟨N, hN⟩ : ∃ N, N = s.length := ⟨_, rfl⟩
  rw [← hN] at HS hf ⊢
  have hl := Dm_size E
  have hadd : (last : Int) < 1000000 := by omega
  have hnn : (0 : Int) ≤ (last : Int) := by omega
  generalize hZ : ((last + 1 : Nat) : Int) = Z
  have hq : (last : Int) + 1 = Z := by omega
  have HQ := Lib.hid hq
  have HZ := Lib.hid hZ
  clear hZ
  clear h hi hr h10 hN hlast
  go_enter Try.func11, Try.ntmps11
  go_wp2_with (first
    | (go_at_call 29; (with_reducible refine hm.mono ?_); rintro e w1 ⟨rfl, rfl⟩)
    | (go_at_call 21; (with_reducible refine hf.mono ?_); rintro e w2 ⟨rfl, ho⟩; have HO := Lib.hid ho; have HM2 := Lib.hid (HM.out.old ho); clear ho; obtain ⟨c0, c1, c2⟩ := obj_cells HM2.out.obj; have hlen := HM2.out.own.drew.len Try.underlying59 3; rw [hl] at hlen))
  go_region
  clear c0 c1 c2 hlen
  replace HO := Lib.hid HO.out.drew
  replace HM2 := Lib.hid (HM2.out.old (Old.refl _).drew)
  generalize w2.drew = w3 at *
  have HM3 := HM2
  obtain ⟨c0, c1, c2⟩ := obj_cells HM2.out.obj
  have f1 : w3.frozen? ⟨p, 1, none⟩ = false := by
    have := HM2.out.obj
    simp [World.frozen?, this]
  have hd : decide (lim ≤ E.length) = false := by
    have := HR.out
    exact decide_eq_false (by omega)
  rw [hd]
  clear hd hr' c0 c2
  have HC := Lib.hid (Chg.ofSet w3 ⟨p, 1, none⟩ (.int .i64 ((last : Int) + 1)))
  have HMB := Lib.hid (HM2.out.bump HLA.out rfl)
  have c2 := (obj_cells HM2.out.obj).2.2
  go_wp2
  clear c1 c2 f1 HM2
  rw [HQ.out] at HC HMB
  clear hq
  generalize w3.setCell ⟨p, 1, none⟩ (.int .i64 Z) = w4 at *
  have HOB := HMB.out.obj
  rw [HZ.out] at HOB
  obtain ⟨c0, c1, c2⟩ := obj_cells HOB
  have hzI : I64 Z := by
    have := HQ.out
    unfold I64
    omega
  have HZI := Lib.hid hzI
  clear HOB hzI
  have HO4 := HC.out
  have HVU := Lib.hid ((HS.out.old HO.out).chg HO4 (fun k o c e => HM3.out.noU8 k o c (Or.inl e)))
  clear HO4
  go_region_with (go_at_call 30; (with_reducible refine (owned_any Z t (.slice ua N uc) s _ (HVU.out.old (Old.refl _).drew) H10.out).mono ?_); rintro e w5 ⟨⟨u, rfl, hf5⟩, ho5⟩; obtain ⟨v5, rfl, hown5, hlim5⟩ := hf5; obtain ⟨ob, cap, rfl⟩ := own_shape hown5; have HF := Lib.hid ((CR.owned hown5).vr hlim5); have FAR := Lib.hid (own_from hown5); have HO5 := Lib.hid ((Old.refl _).drew.trans ho5); have HM5 := Lib.hid (HMB.out.old HO5.out); clear ho5 hown5 hlim5; have HOB := HM5.out.obj; rw [HZ.out] at HOB; obtain ⟨e0, e1, e2⟩ := obj_cells HOB; clear HOB; obtain ⟨w6, hrun6, hown6, hturn6⟩ := HM5.out.own.store keyed3 Try.underlying59 (by have := HM5.out.lims; have := HM5.out.room; unfold maxLen; omega) (key_int HZI.out) (show Rm (fv Z t (.slice ob s.length cap)) = some (.held (fv Z t (.slice ob s.length cap)), []) from rfl); have HT6 := Lib.hid hturn6; have HA6 := Lib.hid (HM5.out.add HK.out (x := ⟨Z, t, .slice ob s.length cap, s⟩) HZ.out.symm HF.out H10.out HNO2.out HR.out hown6 hturn6); have HB6 := HA6.out.obj; rw [HZ.out] at HB6; have b1 := (obj_cells HB6).2.1; clear HB6 hturn6 hown6)
  all_goals
    go_wp2
    go_ret3
    refine ⟨rfl, ⟨_, ?_, HA6.out, fun x hx => ?_⟩, ?_⟩
    · simp [En.ft]
    · rcases List.mem_append.1 hx with hx | hx
      · exact Or.inl hx
      · rw [List.mem_singleton] at hx
        subst hx
        exact Or.inr (fun k e => Nat.le_trans (Nat.le_trans HO.out.size HC.out.size) (FAR.out k e))
    · exact (((Chg.ofOld HO.out).trans (HC.out.mono (fun k e => Or.inl e))).trans (Chg.ofOld HO5.out)).trans ((Chg.ofTurn HT6.out).mono (fun k e => Or.inr e))

theorem remove_anyE {w : World} {p b lim last : Nat} {E : List En} (h : MemE w p b lim last E) (id : Int) (hid : I64 id) : Calls Try.prog 13 #[.pointer (some ⟨p, 0, none⟩), .int .i64 id] w fun e w' => (∃ u, e = .returned (.tuple #[u, .bool (getOf (E.map En.ft) id).isSome]) ∧ FV w' w.heap.size u ((getOf (E.map En.ft) id).getD noFt)) ∧ MemN E w.heap.size w' p b lim last (delOf (E.map En.ft) id) ∧ Chg (· = b) w w' := by
  replace h : Mem w p b lim last (E.map En.ft) ∧ MemE w p b lim last E := ⟨⟨E, rfl, h⟩, h⟩
  have hE0 := Lib.hid h.2
  replace h := h.1
  have h' := h.old ((Old.refl w).alloc (.cells #[.int .i64 0, .int .i64 0, .slice none 0 0] 38))
  have hget := get_any h' id hid
  have HO := Lib.hid ((Old.refl w).alloc (.cells #[.int .i64 0, .int .i64 0, .slice none 0 0] 38))
  have HB := Lib.hid (Fb.new w (.int .i64 0) (.int .i64 0) (.slice none 0 0))
  have HM := Lib.hid h'
  have HM0 := Lib.hid h
  have HP : p < w.heap.size ∧ b < w.heap.size := by
    obtain ⟨E, _, hE⟩ := h
    exact ⟨blk_lt hE.obj, hE.own.lt⟩
  have HP := Lib.hid HP
  clear h' h
  rw [sz_alloc] at hget
  generalize hX : (getOf (E.map En.ft) id).getD noFt = X at hget ⊢
  generalize hG : (getOf (E.map En.ft) id).isSome = G at hget ⊢
  have HG := Lib.hid hG
  clear hG hX
  cases G
  · rw [delOf_no HG.out]
    go_enter Try.func13, Try.ntmps13
    go_wp2_with (first
      | (go_at_call 18; (with_reducible refine hget.mono ?_); rintro e w2 ⟨⟨u, rfl, hf⟩, ho⟩; obtain ⟨v2, rfl, hown, hlim⟩ := hf; obtain ⟨ob, cap, rfl⟩ := own_shape hown; have HOWN := Lib.hid hown; have HLIM := Lib.hid hlim; have HB2 := Lib.hid ((HB.out.old ho).old ((Old.refl _).alloc (.cells #[.int .i64 X.id, .int .i64 X.t, .slice ob X.l.length cap] 38))); have HO2 := Lib.hid ((HO.out.trans ho).alloc (.cells #[.int .i64 X.id, .int .i64 X.t, .slice ob X.l.length cap] 38)); clear ho hown hlim; have d0 := HB2.out.c0; have d1 := HB2.out.c1; have d2 := HB2.out.c2; have g0 := HB2.out.f 0; have g1 := HB2.out.f 1; have g2 := HB2.out.f 2))
    have h1 := own_low (base' := w.heap.size + 1) HOWN.out (by omega)
    have hlt : w.heap.size < w.heap.size + 1 := by omega
    have h2 := own_set (own_set (own_set (own_old h1 ((Old.refl _).alloc (.cells #[.int .i64 X.id, .int .i64 X.t, .slice ob X.l.length cap] 38))) (a := ⟨w.heap.size, 0, none⟩) hlt (.int .i64 X.id)) (a := ⟨w.heap.size, 1, none⟩) hlt (.int .i64 X.t)) (a := ⟨w.heap.size, 2, none⟩) hlt (.slice ob X.l.length cap)
    have ho := old_set3 HO2.out (Nat.le_refl _) (.int .i64 X.id) (.int .i64 X.t) (.slice ob X.l.length cap)
    exact bodyPost_ret (ret_fact2 rfl _ _ w.heap.size rfl rfl (HB2.out.set _ _ _)) rfl ⟨⟨_, rfl, .slice ob X.l.length cap, rfl, own_low h2 (by omega), HLIM.out⟩, ⟨E, rfl, hE0.out.old ho, fun x hx => Or.inl hx⟩, Chg.ofOld ho⟩
  · have HE := Lib.hid (hE0.out.old HO.out)
    clear HM HM0
    rw [delOf_ft]
    go_enter Try.func13, Try.ntmps13
    go_wp2_with (first
      | (go_at_call 18; (with_reducible refine hget.mono ?_); rintro e w2 ⟨⟨u, rfl, hf⟩, ho⟩; obtain ⟨v2, rfl, hown, hlim⟩ := hf; obtain ⟨ob, cap, rfl⟩ := own_shape hown; have HOWN := Lib.hid hown; have HLIM := Lib.hid hlim; have HB2 := Lib.hid ((HB.out.old ho).old ((Old.refl _).alloc (.cells #[.int .i64 X.id, .int .i64 X.t, .slice ob X.l.length cap] 38))); have HO2 := Lib.hid ((HO.out.trans ho).alloc (.cells #[.int .i64 X.id, .int .i64 X.t, .slice ob X.l.length cap] 38)); have HM2 := Lib.hid ((HE.out.old ho).old ((Old.refl _).alloc (.cells #[.int .i64 X.id, .int .i64 X.t, .slice ob X.l.length cap] 38))); have FB2 := Lib.hid (Fb.new w2 (.int .i64 X.id) (.int .i64 X.t) (.slice ob X.l.length cap)); clear ho hown hlim; have c0 := (obj_cells HM2.out.obj).1; have c1 := (obj_cells HM2.out.obj).2.1; have c2 := (obj_cells HM2.out.obj).2.2)
      | (at_delete; refine wpList_delete_own _ rfl _ _ 59 3 rfl 38 keyed3 Try.underlying59 Rm b E.length (Dm E) rfl HM2.out.own _ _ rfl (key_int hid) ?_; intro w3 hown3 hturn3; have HD := Lib.hid (HM2.out.del hown3 hturn3); have HT := Lib.hid hturn3; have FB3 := Lib.hid (FB2.out.turn hturn3); have HB3 := Lib.hid (HB2.out.turn hturn3); clear hown3 hturn3; have d0 := HB3.out.c0; have d1 := HB3.out.c1; have d2 := HB3.out.c2; have g0 := HB3.out.f 0; have g1 := HB3.out.f 1; have g2 := HB3.out.f 2; have a0 := FB3.out.c0; have a1 := FB3.out.c1; have a2 := FB3.out.c2))
    have h1 := own_low (base' := w.heap.size + 1) HOWN.out (by omega)
    have hlt : w.heap.size < w.heap.size + 1 := by omega
    have h2 := own_set (own_set (own_set (own_turn (own_old h1 ((Old.refl _).alloc (.cells #[.int .i64 X.id, .int .i64 X.t, .slice ob X.l.length cap] 38))) HT.out) (a := ⟨w.heap.size, 0, none⟩) hlt (.int .i64 X.id)) (a := ⟨w.heap.size, 1, none⟩) hlt (.int .i64 X.t)) (a := ⟨w.heap.size, 2, none⟩) hlt (.slice ob X.l.length cap)
    refine bodyPost_ret (ret_fact2 rfl _ _ w.heap.size rfl rfl (HB3.out.set _ _ _)) rfl ⟨⟨_, rfl, .slice ob X.l.length cap, rfl, own_low h2 (by omega), HLIM.out⟩, ⟨_, rfl, ?_, fun x hx => Or.inl (List.mem_filter.1 hx).1⟩, ?_⟩
    · refine HD.out.chg (Chg.ofSet3 w3 w.heap.size _ _ _) (fun e => ?_) (fun e => ?_) (fun k o c e h => ?_)
      · have := HP.out.1
        omega
      · have := HP.out.2
        omega
      · subst e
        have hb := HB3.out
        unfold Fb at hb
        rcases o with _ | _ | _ | o <;> simp [World.cell?, hb] at h
    · exact ((Chg.ofOld HO2.out).trans (Chg.ofTurn HT.out)).later (Chg.ofSet3 w3 w.heap.size _ _ _) (fun k e => Or.inl (by omega))

/-- The answer of Add. -/
def addR (lim : Nat) (s : St) (t : Int) (l : List Vl) : Ending := if idOf s.L t l = 0 then (if s.L.length < lim then .returned (.tuple #[.int .i64 ((s.last + 1 : Nat) : Int), .bool true, .int .i64 0]) else .returned (.tuple #[.int .i64 0, .bool false, .int .i64 7])) else .returned (.tuple #[.int .i64 (idOf s.L t l), .bool false, .int .i64 0])
theorem addX {k : Nat} {W : World} {p b lim : Nat} {s : St} (hm : MemX k W p b lim s) (hk : k < W.heap.size) {t : Int} {u : Value} {l : List Vl} (hu : VR W u l) (h10 : l.length ≤ 10) (hl : s.last < 1000000) : Calls Try.prog 11 #[ap p, .int .i64 t, u] W fun e w' => e = addR lim s t l ∧ MemX k w' p b lim (addS lim s t l) ∧ Chg (fun k => k = p ∨ k = b) W w' := by
  unfold addS addR
  by_cases hi : idOf s.L t l = 0
  · rw [if_pos hi, if_pos hi]
    by_cases hr : s.L.length < lim
    · rw [if_pos hr, if_pos hr]
      obtain ⟨E, h1, h2, hp, hb, hx⟩ := hm
      rw [h1] at hi hr
      rw [List.length_map] at hr
      refine (add_newE h2 t u l hu h10 hi hr hl).mono ?_
      rintro e w' ⟨rfl, h3, h4⟩
      refine ⟨rfl, MemX.next hx hp hb hk ?_, h4⟩
      rw [h1]
      exact h3
    · rw [if_neg hr, if_neg hr]
      refine (add_full hm.mem t u l hu hi (Nat.le_of_not_lt hr)).mono ?_
      rintro e w' ⟨rfl, ho⟩
      exact ⟨rfl, hm.old ho, Chg.ofOld ho⟩
  · rw [if_neg hi, if_neg hi]
    refine (add_old hm.mem t u l hu hi).mono ?_
    rintro e w' ⟨rfl, ho⟩
    exact ⟨rfl, hm.old ho, Chg.ofOld ho⟩
def delS (s : St) (id : Int) : St := ⟨s.last, delOf s.L id⟩
theorem removeX {k : Nat} {W : World} {p b lim : Nat} {s : St} (hm : MemX k W p b lim s) (hk : k < W.heap.size) {id : Int} (hid : I64 id) : Calls Try.prog 13 #[ap p, .int .i64 id] W fun e w' => (∃ u, e = .returned (.tuple #[u, .bool (getOf s.L id).isSome]) ∧ FV w' W.heap.size u ((getOf s.L id).getD noFt)) ∧ MemX k w' p b lim (delS s id) ∧ Chg (fun k => k = p ∨ k = b) W w' := by
  obtain ⟨E, h1, h2, hp, hb, hx⟩ := hm
  rw [h1]
  refine (remove_anyE h2 id hid).mono ?_
  rintro e w' ⟨h3, h4, h5⟩
  refine ⟨h3, MemX.next hx hp hb hk ?_, chgB p h5⟩
  unfold delS
  rw [h1]
  exact h4
end Go.Proofs.Ytfhbnkdibhmmcaa
