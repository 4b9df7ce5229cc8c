/- Layer template: the law TemplateFits. -/
import Derived.Test.YtcedcfkjoppjdaaNW
import Derived.Deep.CutRange
namespace Go.Proofs.Ytcedcfkjoppjdaa
open Go.ChangeShapes Go.WideShapes Go.ChangeAt Go.RowKit Go.Lib
set_option linter.unusedVariables false
set_option linter.unusedSimpArgs false
set_option maxRecDepth 100000

/-- What stays so, whatever template stands behind. -/
theorem fits_more (l : List Tp) (x : Tp) (t : Int) (s : List Vl) : fitsI l t s = 5 ∨ fitsI (l ++ [x]) t s = fitsI l t s := by
  unfold fitsI
  by_cases h : t < 0
  · left; rw [if_pos h]
  · rw [if_neg h, if_neg h]
    cases hx : l[t.toNat]? with
    | none => left; rfl
    | some y =>
      right
      have hlt : t.toNat < l.length := (List.getElem?_eq_some_iff.1 hx).1
      rw [List.getElem?_append_left hlt, hx]
/-- Behind both appends. -/
theorem two_tr {w w' : World} {base : Nat} {v0 v : Value} {l : List Tp} {n : ByteArray} {u : Value} {ls : List Sl} (h : w'.ownsRow base 33 2 v (0 + l.length + [(⟨n, u, ls⟩ : Tp)].length) ([] ++ tcells l ++ tcells [⟨n, u, ls⟩])) (ho : Old w w') (hl : TR w v0 l) (hm : SR w u ls) (hn : n.size ≤ maxLen) : TR w' v (l ++ [⟨n, u, ls⟩]) := by
  refine own_tr (base := base) (n := 0 + l.length + 1) (by rw [tcells_app]; exact h) (by simp) (by omega) (fun j y hj => ?_)
  by_cases e : j < l.length
  · rw [List.getElem?_append_left e] at hj
    have := (hl.old ho).sr j y hj
    exact this
  · rw [List.getElem?_append_right (by omega)] at hj
    have e0 : j - l.length = 0 := by
      rcases Nat.eq_zero_or_pos (j - l.length) with h | h
      · exact h
      · obtain ⟨k, hk⟩ : ∃ k, j - l.length = k + 1 := ⟨j - l.length - 1, by omega⟩
        rw [hk] at hj
        simp at hj
    rw [e0] at hj
    simp at hj
    subst hj
    exact ⟨hm.old ho, hn⟩
theorem grown_old {a w w' : World} {v : Value} {n : Nat} {xs : List Value} (ho : Old a w) (h : w.ownsRow a.heap.size 33 2 v n xs) (hg : w.grownBy w' v.ownBlock) : Old a w' := ho.grown hg (fun k hk => (h.lt k hk).1)
def GrB (w0 : World) (e : Ending) (w' : World) : Prop := ∃ b : Bool, e = .returned (.bool b) ∧ Old w0 w'
theorem great_one (mn : ByteArray) (mu : Value) (ml : List Sl) (hn : mn.size ≤ maxLen) (W : World) (hW : SR W mu ml) : Calls Try.prog 8 #[.slice (some ⟨W.heap.size, 0, none⟩) 1 1] (W.alloc (.cells #[.string mn, mu] 33)) (GrB W) := by
  refine (great_any [⟨mn, mu, ml⟩] _ _ (one_lies (MapKept.heap_alloc W _).1 (hW.old ((Old.refl _).alloc _)) hn)).mono ?_
  rintro e w' ⟨b, rfl, _, rfl⟩
  exact ⟨b, rfl, (Old.refl _).alloc _⟩

set_option maxHeartbeats 6400000 in
theorem fitsl_all (l : List Tp) (v : Value) (t : Int) (s : List Vl) (u : Value) (mn : ByteArray) (mu : Value) (ml : List Sl) (w : World) (hl : TR w v l) (hu : VR w u s) (ht : -9223372036854775808 ≤ t ∧ t ≤ 9223372036854775807) (hm : SR w mu ml) (hn : mn.size ≤ maxLen) : Calls Try.prog 4 #[v, .int .i64 t, u, tv mn mu] w fun e w' => e = .returned (.bool true) ∧ Old w w' := by
  have hg := fun W hW => great_any l v W hW
  have hk := fun W => known_any W
  have hf := fun W h1 h2 => fits_any l v t s u W h1 h2 ht
  have hrf := fun W h1 h2 => rfits_any l v t s u W h1 h2 ht
  have hff := fun v2 W h1 h2 => fits_any (l ++ [⟨mn, mu, ml⟩]) v2 t s u W h1 h2 ht
  have hg2 := fun W hW => great_one mn mu ml hn W hW
  obtain ⟨ma, mc, rfl, _⟩ := id hm
  obtain ⟨MM, hMM⟩ : ∃ M, M = ml.length := ⟨_, rfl⟩
  rw [← hMM] at hm hff hg2 ⊢
  have hmore := fits_more l ⟨mn, .slice ma MM mc, ml⟩ t s
  obtain ⟨E, hE⟩ : ∃ E, E = fitsI l t s := ⟨_, rfl⟩
  obtain ⟨F, hF⟩ : ∃ F, F = fitsI (l ++ [⟨mn, .slice ma MM mc, ml⟩]) t s := ⟨_, rfl⟩
  rw [← hE] at hf hrf hmore
  rw [← hF] at hff hmore
  have HMORE := Lib.hid hmore
  have HL := Lib.hid hl
  have HL0 := Lib.hid hl
  have HU := Lib.hid hu
  have HU0 := Lib.hid hu
  have HM := Lib.hid hm
  have HO := Lib.hid ((Old.refl w).alloc (.cells #[.string mn, .slice ma MM mc] 33))
  have HB := Lib.hid (Two.new w (.string mn) (.slice ma MM mc) 33)
  replace HL := Lib.hid (HL.out.old HO.out)
  replace HU := Lib.hid (HU.out.old HO.out)
  replace HM := Lib.hid (HM.out.old HO.out)
  obtain ⟨oa, c, rfl, a1, a2, _⟩ := id hl
  obtain ⟨N, hN⟩ : ∃ n, n = l.length := ⟨_, rfl⟩
  rw [← hN] at a1 HL HL0 hg hf hrf ⊢
  obtain ⟨ob, uc, rfl, f1, f2, _⟩ := id hu
  obtain ⟨S, hS⟩ : ∃ n, n = s.length := ⟨_, rfl⟩
  rw [← hS] at f1 HU HU0 hf hrf hff ⊢
  unfold maxLen at a2 f2
  have HN := Lib.hid hN
  have HNN := Lib.hid hn
  clear hl hu hm hE hF hmore hN hS hMM hn ht
  have hg3 := hg2 _ HM.out
  rw [sz_alloc] at hg3
  have HG3 := Lib.hid hg3
  clear hg2 hg3
  go_enter Try.func4, Try.ntmps4
  go_upto_region 4 with (first
    | (go_at_call 8; (with_reducible refine (hg _ HL.out).mono ?_); rintro e0 w0 ⟨b, rfl, hb, rfl⟩; have HBB := Lib.hid hb; have b0 := HB.out.c0; have b1 := HB.out.c1; clear hb hg; cases b)
    | (go_at_call 8; (with_reducible refine (HG3.out).mono ?_); rintro e3 w3 ⟨b, rfl, o3⟩; replace HO := Lib.hid (HO.out.trans o3); replace HL := Lib.hid (HL.out.old o3); replace HU := Lib.hid (HU.out.old o3); replace HM := Lib.hid (HM.out.old o3); replace HB := Lib.hid (HB.out.old o3); clear o3 HG3; cases b)
    | (go_at_call 22; (with_reducible refine (hf _ HL.out HU.out).mono ?_); rintro e2 w2 ⟨rfl, o2⟩; replace HO := Lib.hid (HO.out.trans o2); replace HL := Lib.hid (HL.out.old o2); replace HU := Lib.hid (HU.out.old o2); replace HM := Lib.hid (HM.out.old o2); replace HB := Lib.hid (HB.out.old o2); clear o2 hf)
    | (go_at_call 9; (with_reducible refine (hk _).mono ?_); rintro e1 w1 ⟨rfl, o1⟩; replace HO := Lib.hid (HO.out.trans o1); clear o1))
  · go_ret
    exact ⟨rfl, HO.out⟩
  · have h30 : l.length ≤ 30 := (HBB.out (by first | rfl | trivial)).1
    have H30 := Lib.hid h30
    clear h30 HBB b0 b1
    obtain ⟨bx, hbx⟩ : ∃ bx, bx = w.heap.size := ⟨_, rfl⟩
    rw [← hbx] at HB ⊢
    clear hbx
    go_cut [10] from 28 to 36 (fun o wx => o = .int .i64 F ∧ Hid (Old w wx))
    case first =>
      have blkC : ∀ {w5 : World}, ((w2.drew.alloc (.cells #[] 33)).alloc (.cells #[.string mn, .slice ma MM mc] 33)).grownBy w5 (Value.ownBlock (.slice (some ⟨w2.drew.heap.size, 0, none⟩) 0 0)) → w5.heap[w2.heap.size + 1]? = some (.cells #[.string mn, .slice ma MM mc] 33) := fun {w5} hgr => by
        have h := (MapKept.heap_alloc (w2.drew.alloc (.cells #[] 33)) (.cells #[.string mn, .slice ma MM mc] 33)).1
        have e : (w2.drew.alloc (.cells #[] 33)).heap.size = w2.heap.size + 1 := sz_alloc w2.drew _
        rw [e] at h
        refine (hgr.block _ (by rw [sz_alloc, e]; omega) ?_).trans h
        intro h2
        have h3 : w2.heap.size + 1 = w2.heap.size := Option.some.inj h2
        omega
      have blkF : ∀ {w5 : World}, ((w2.drew.alloc (.cells #[.string mn, .slice ma MM mc] 33)).alloc (.cells #[] 33)).grownBy w5 (Value.ownBlock (.slice (some ⟨w2.heap.size + 1, 0, none⟩) 0 0)) → w5.heap[w2.heap.size]? = some (.cells #[.string mn, .slice ma MM mc] 33) := fun {w5} hgr => by
        have h : (w2.drew.alloc (.cells #[.string mn, .slice ma MM mc] 33)).heap[w2.heap.size]? = some (.cells #[.string mn, .slice ma MM mc] 33) := (MapKept.heap_alloc w2.drew (.cells #[.string mn, .slice ma MM mc] 33)).1
        have e : (w2.drew.alloc (.cells #[.string mn, .slice ma MM mc] 33)).heap.size = w2.heap.size + 1 := sz_alloc w2.drew _
        refine (hgr.block _ (by rw [sz_alloc, e]; omega) ?_).trans ((Below.heap_alloc _ _ _ (by rw [e]; omega)).trans h)
        intro h2
        have h3 : w2.heap.size = w2.heap.size + 1 := Option.some.inj h2
        omega
      -- what each order has laid ahead of an append
      have O1 := Lib.hid ((Old.refl w2).drew.alloc (.cells #[] 33))
      have O2 := Lib.hid (((Old.refl w2).drew.alloc (.cells #[] 33)).alloc (.cells #[.string mn, .slice ma MM mc] 33))
      have O3 := Lib.hid (((Old.refl w2).drew.alloc (.cells #[.string mn, .slice ma MM mc] 33)).alloc (.cells #[] 33))
      have W1 := Lib.hid (World.ownsRow_made (base := w2.heap.size) (e := 33) (size := 2) w2.drew #[] 0 (Nat.le_refl _) (by unfold maxLen; omega) rfl)
      have W2 := Lib.hid (W1.out.alloc (.cells #[.string mn, .slice ma MM mc] 33))
      have w3' := World.ownsRow_made (base := w2.heap.size) (e := 33) (size := 2) (w2.drew.alloc (.cells #[.string mn, .slice ma MM mc] 33)) #[] 0 (by simp) (by unfold maxLen; omega) rfl
      rw [show (w2.drew.alloc (.cells #[.string mn, .slice ma MM mc] 33)).heap.size = w2.heap.size + 1 from sz_alloc w2.drew _] at w3'
      have W3 := Lib.hid w3'
      clear w3'
      have c0 := HB.out.c0
      have c1 := HB.out.c1
      have clt := HB.out.lt
      go_region_law (first
        | (refine step_appT _ (by rfl) _ _ (by rfl) w2.heap.size _ 0 [] (by rfl) W1.out _ l (by rfl) (HL.out.old O1.out) (by have := H30.out; omega) O1.out.size ?_; intro v5 w5 hown hgr; have HOWA := Lib.hid hown; have OA := Lib.hid (grown_old O1.out W1.out hgr); have BA := Lib.hid (HB.out.old OA.out); have p0 := BA.out.c0; have p1 := BA.out.c1; clear hown hgr)
        | (refine step_appT _ (by rfl) _ _ (by rfl) w2.heap.size _ 0 [] (by rfl) W2.out _ l (by rfl) (HL.out.old O2.out) (by have := H30.out; omega) O2.out.size ?_; intro v5 w5 hown hgr; have HOWC := Lib.hid hown; have OC := Lib.hid (grown_old O2.out W2.out hgr); have BC := Lib.hid (blkC hgr); clear hown hgr)
        | (refine step_appT _ (by rfl) _ _ (by rfl) w2.heap.size _ 0 [] (by rfl) W3.out _ l (by rfl) (HL.out.old O3.out) (by have := H30.out; omega) O3.out.size ?_; intro v5 w5 hown hgr; have HOWF := Lib.hid hown; have OF := Lib.hid (grown_old O3.out W3.out hgr); have BF := Lib.hid (blkF hgr); clear hown hgr)
        | (refine step_appT _ (by rfl) _ _ (by rfl) w2.heap.size _ (0 + l.length) ([] ++ tcells l) (by rfl) (HOWA.out.alloc _) _ [⟨mn, .slice ma MM mc, ml⟩] (by rfl) (one_lies (MapKept.heap_alloc w5 _).1 ((HM.out.old OA.out).old ((Old.refl _).alloc _)) HNN.out) (by have := H30.out; simp; omega) (by have := OA.out.size; simp; omega) ?_; intro v8 w8 hown hgr; have O8 := Lib.hid (grown_old (OA.out.alloc _) (HOWA.out.alloc _) hgr); have HT8 := Lib.hid (two_tr hown O8.out HL.out HM.out HNN.out); have HU8 := Lib.hid (HU.out.old O8.out); clear hown hgr)
        | (refine step_appT _ (by rfl) _ _ (by rfl) w2.heap.size _ (0 + l.length) ([] ++ tcells l) (by rfl) HOWC.out _ [⟨mn, .slice ma MM mc, ml⟩] (by rfl) (one_lies BC.out (HM.out.old OC.out) HNN.out) (by have := H30.out; simp; omega) (OC.out.size) ?_; intro v8 w8 hown hgr; have O8 := Lib.hid (grown_old OC.out HOWC.out hgr); have HT8 := Lib.hid (two_tr hown O8.out HL.out HM.out HNN.out); have HU8 := Lib.hid (HU.out.old O8.out); clear hown hgr)
        | (refine step_appT _ (by rfl) _ _ (by rfl) w2.heap.size _ (0 + l.length) ([] ++ tcells l) (by rfl) HOWF.out _ [⟨mn, .slice ma MM mc, ml⟩] (by rfl) (one_lies BF.out (HM.out.old OF.out) HNN.out) (by have := H30.out; simp; omega) (OF.out.size) ?_; intro v8 w8 hown hgr; have O8 := Lib.hid (grown_old OF.out HOWF.out hgr); have HT8 := Lib.hid (two_tr hown O8.out HL.out HM.out HNN.out); have HU8 := Lib.hid (HU.out.old O8.out); clear hown hgr)
        | (go_simp; go_at_call 22; (with_reducible refine (hff _ _ HT8.out HU8.out).mono ?_); rintro e9 w9 ⟨rfl, o9⟩; have HQ9 := Lib.hid (HO.out.trans (O8.out.trans o9)); clear o9))
      all_goals (go_wp2_with fail; go_meet; exact ⟨rfl, HQ9⟩)
    case rest =>
      obtain ⟨rfl, HQ⟩ := hcut
      have HL5 := Lib.hid (HL0.out.old HQ.out)
      have HU5 := Lib.hid (HU0.out.old HQ.out)
      clear hff HO HL HU HM HB
      by_cases h5 : E = 5
      · subst h5
        go_wp2_with (first
          | (go_at_call 23; (with_reducible refine (hrf _ HL5.out HU5.out).mono ?_); rintro e6 w6 ⟨rfl, o6⟩; have HQ6 := Lib.hid (HQ.out.trans o6); clear o6)
          | (go_at_call 9; (with_reducible refine (hk _).mono ?_); rintro e7 w7 ⟨rfl, o7⟩; have HQ7 := Lib.hid (HQ6.out.trans o7); clear o7))
        go_ret
        exact ⟨rfl, HQ7.out⟩
      · have hFE : F = E := by
          rcases HMORE.out with h | h
          · exact absurd h h5
          · exact h
        subst hFE
        have e5 : (F == 5) = false := by simpa using h5
        clear h5
        go_wp2_with (first
          | (go_at_call 23; (with_reducible refine (hrf _ HL5.out HU5.out).mono ?_); rintro e6 w6 ⟨rfl, o6⟩; have HQ6 := Lib.hid (HQ.out.trans o6); clear o6)
          | (go_at_call 9; (with_reducible refine (hk _).mono ?_); rintro e7 w7 ⟨rfl, o7⟩; have HQ7 := Lib.hid (HQ6.out.trans o7); clear o7))
        go_ret
        exact ⟨rfl, HQ7.out⟩
  · go_ret
    exact ⟨rfl, HO.out⟩
  · go_ret
    exact ⟨rfl, HO.out⟩
end Go.Proofs.Ytcedcfkjoppjdaa
