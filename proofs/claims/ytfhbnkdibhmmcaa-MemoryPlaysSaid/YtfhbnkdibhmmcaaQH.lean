/- Layer memory: Add of a new fact. -/
import Derived.Test.YtfhbnkdibhmmcaaQG
namespace Go.Proofs.Ytfhbnkdibhmmcaa
open Go.ChangeShapes Go.WideShapes Go.ChangeAt Go.RowKit Go.Lib
set_option linter.unusedVariables false
set_option linter.unusedSimpArgs false
set_option maxRecDepth 100000

set_option maxHeartbeats 1600000 in
theorem add_new {w : World} {p b lim last : Nat} {L : List Ft} (h : Mem w p b lim last L) (t : Int) (u : Value) (s : List Vl) (hs : VR w u s) (h10 : s.length ≤ 10) (hi : idOf L t s = 0) (hr : L.length < lim) (hlast : last < 1000000) :
    Calls Try.prog 11 #[.pointer (some ⟨p, 0, none⟩), .int .i64 t, u] w fun e w' => e = .returned (.tuple #[.int .i64 ((last + 1 : Nat) : Int), .bool true, .int .i64 0]) ∧ Mem w' p b lim (last + 1) (L ++ [⟨((last + 1 : Nat) : Int), t, s⟩]) ∧ Chg (fun k => k = p ∨ k = b) w w' := by
  have hf := find_any h t u s hs
  rw [hi] at hf
  obtain ⟨E, rfl, h⟩ := h
  rw [List.length_map] at hr
  have hm := made_any h
  have HM := Lib.hid h
  have HK := Lib.hid (fun x hx => (h.ids x hx).2 : ∀ x ∈ E, x.id ≤ last)
  have HNO2 := Lib.hid (fun y hy => idOf_zero h.one hi y.ft (List.mem_map.2 ⟨y, hy, rfl⟩) : ∀ y ∈ E, ¬ (y.t = t ∧ y.l = s))
  have HR := Lib.hid hr
  have HLA := Lib.hid hlast
  have hr' : (E.length : Int) < (lim : Int) := by omega
  have HS := Lib.hid hs
  have H10 := Lib.hid h10
  obtain ⟨ua, uc, rfl, _⟩ := hs
  obtain ⟨N, hN⟩ : ∃ N, N = s.length := ⟨_, rfl⟩
  rw [← hN] at HS hf ⊢
  have hl := Dm_size E
  have hadd : (last : Int) < 1000000 := by omega
  have hnn : (0 : Int) ≤ (last : Int) := by omega
  generalize hZ : ((last + 1 : Nat) : Int) = Z
  have hq : (last : Int) + 1 = Z := by omega
  have HQ := Lib.hid hq
  have HZ := Lib.hid hZ
  clear hZ
  clear h hi hr h10 hN hlast
  go_enter Try.func11, Try.ntmps11
  go_wp2_with (first
    | (go_at_call 29; (with_reducible refine hm.mono ?_); rintro e w1 ⟨rfl, rfl⟩)
    | (go_at_call 21; (with_reducible refine hf.mono ?_); rintro e w2 ⟨rfl, ho⟩; have HO := Lib.hid ho; have HM2 := Lib.hid (HM.out.old ho); clear ho; obtain ⟨c0, c1, c2⟩ := obj_cells HM2.out.obj; have hlen := HM2.out.own.drew.len Try.underlying59 3; rw [hl] at hlen))
  go_region
  clear c0 c1 c2 hlen
  replace HO := Lib.hid HO.out.drew
  replace HM2 := Lib.hid (HM2.out.old (Old.refl _).drew)
  generalize w2.drew = w3 at *
  have HM3 := HM2
  obtain ⟨c0, c1, c2⟩ := obj_cells HM2.out.obj
  have f1 : w3.frozen? ⟨p, 1, none⟩ = false := by
    have := HM2.out.obj
    simp [World.frozen?, this]
  have hd : decide (lim ≤ E.length) = false := by
    have := HR.out
    exact decide_eq_false (by omega)
  rw [hd]
  clear hd hr' c0 c2
  have HC := Lib.hid (Chg.ofSet w3 ⟨p, 1, none⟩ (.int .i64 ((last : Int) + 1)))
  have HMB := Lib.hid (HM2.out.bump HLA.out rfl)
  have c2 := (obj_cells HM2.out.obj).2.2
  go_wp2
  clear c1 c2 f1 HM2
  rw [HQ.out] at HC HMB
  clear hq
  generalize w3.setCell ⟨p, 1, none⟩ (.int .i64 Z) = w4 at *
  have HOB := HMB.out.obj
  rw [HZ.out] at HOB
  obtain ⟨c0, c1, c2⟩ := obj_cells HOB
  have hzI : I64 Z := by
    have := HQ.out
    unfold I64
    omega
  have HZI := Lib.hid hzI
  clear HOB hzI
  have HO4 := HC.out
  have HVU := Lib.hid ((HS.out.old HO.out).chg HO4 (fun k o c e => HM3.out.noU8 k o c (Or.inl e)))
  clear HO4
  go_region_with (go_at_call 30; (with_reducible refine (owned_any Z t (.slice ua N uc) s _ (HVU.out.old (Old.refl _).drew) H10.out).mono ?_); rintro e w5 ⟨⟨u, rfl, hf5⟩, ho5⟩; obtain ⟨v5, rfl, hown5, hlim5⟩ := hf5; obtain ⟨ob, cap, rfl⟩ := own_shape hown5; have HF := Lib.hid ((CR.owned hown5).vr hlim5); have HO5 := Lib.hid ((Old.refl _).drew.trans ho5); have HM5 := Lib.hid (HMB.out.old HO5.out); clear ho5 hown5 hlim5; have HOB := HM5.out.obj; rw [HZ.out] at HOB; obtain ⟨e0, e1, e2⟩ := obj_cells HOB; clear HOB; obtain ⟨w6, hrun6, hown6, hturn6⟩ := HM5.out.own.store keyed3 Try.underlying59 (by have := HM5.out.lims; have := HM5.out.room; unfold maxLen; omega) (key_int HZI.out) (show Rm (fv Z t (.slice ob s.length cap)) = some (.held (fv Z t (.slice ob s.length cap)), []) from rfl); have HT6 := Lib.hid hturn6; have HA6 := Lib.hid (HM5.out.add HK.out (x := ⟨Z, t, .slice ob s.length cap, s⟩) HZ.out.symm HF.out H10.out HNO2.out HR.out hown6 hturn6); have HB6 := HA6.out.obj; rw [HZ.out] at HB6; have b1 := (obj_cells HB6).2.1; clear HB6 hturn6 hown6)
  all_goals
    go_wp2
    go_ret3
    refine ⟨rfl, ⟨_, ?_, HA6.out⟩, ?_⟩
    · simp [En.ft]
    · exact (((Chg.ofOld HO.out).trans (HC.out.mono (fun k e => Or.inl e))).trans (Chg.ofOld HO5.out)).trans ((Chg.ofTurn HT6.out).mono (fun k e => Or.inr e))

end Go.Proofs.Ytfhbnkdibhmmcaa
