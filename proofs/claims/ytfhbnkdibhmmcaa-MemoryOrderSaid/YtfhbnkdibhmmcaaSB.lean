/- Layer memory: facts stand by rising ids (MemoryOrder). -/
import Derived.Test.YtfhbnkdibhmmcaaQZ
import Derived.Test.YtfhbnkdibhmmcaaQR
import Derived.Test.YtfhbnkdibhmmcaaSA
namespace Go.Proofs.Ytfhbnkdibhmmcaa
open Go.ChangeShapes Go.WideShapes Go.ChangeAt Go.RowKit Go.Lib
set_option linter.unusedVariables false
set_option linter.unusedSimpArgs false
set_option maxRecDepth 100000

section
variable {ops : Array Oper} {P : Program} {Φ : Nat → Value → World → Prop} {R : World → World → Prop} {a0 : Act} {W : World} {i : Nat} {o : Oper}
theorem step_skip {g : Nat} {b : Bool} (hg : o.guard = some (g, b)) (h : ∀ (ρ : Operand → Value) (w : World), R W w → Reads ops a0 ρ → Deps ops Φ ρ w o.after.toList → ρ (.tmp (dstOf ops g)) = .bool (!b)) (hΦ : ∀ w, Φ i undef w) : Step P ops Φ R a0 W i o := by
  intro ρ w hR hr hd
  refine ⟨fun hw => absurd hw ?_, fun _ => hΦ w⟩
  unfold Want; rw [hg]
  show ¬ (ρ (.tmp (dstOf ops g)) = .bool b)
  rw [h ρ w hR hr hd]
  intro e
  cases b <;> cases e
end
theorem last_old {w : World} {p b lim last : Nat} {L : List Ft} (h : Mem w p b lim last L) : Calls Try.prog 25 #[.pointer (some ⟨p, 0, none⟩)] w fun e w' => e = .returned (.int .i64 (last : Int)) ∧ Old w w' :=
  (last_any h).mono fun e w' h => ⟨h.1, h.2 ▸ Old.refl _⟩
theorem mem_up {w : World} {p b lim last : Nat} {L : List Ft} (h : Mem w p b lim last L) {j : Nat} {x y : Ft} (hx : L[j]? = some x) (hy : L[j + 1]? = some y) : x.id < y.id := by
  obtain ⟨E, rfl, h⟩ := h
  have hu : (E.map En.ft).Pairwise (fun x y => x.id < y.id) := by
    rw [List.pairwise_map]
    exact h.up
  obtain ⟨h1, e1⟩ := List.getElem?_eq_some_iff.1 hx
  obtain ⟨h2, e2⟩ := List.getElem?_eq_some_iff.1 hy
  have := List.pairwise_iff_getElem.1 hu j (j + 1) h1 h2 (Nat.lt_succ_self _)
  rwa [e1, e2] at this
/-- Is there one of this id? -/
def hasId (L : List Ft) (id : Int) : Bool := L.any (fun x => x.id == id)
theorem hasId_get (L : List Ft) (id : Int) : (getOf L id).isSome = hasId L id := by
  unfold getOf hasId
  induction L with
  | nil => rfl
  | cons x l ih =>
    rw [List.find?_cons, List.any_cons]
    by_cases h : x.id = id
    · simp [h]
    · simp [h, ih]
theorem hasId_more {L : List Ft} {id : Int} {k : Nat} {x : Ft} (h : L[k]? = some x) : hasId (L.take (k + 1)) id = (hasId (L.take k) id || (x.id == id)) := by
  unfold hasId
  rw [List.take_add_one, h, Option.toList_some, List.any_append]
  simp
theorem get_on {w : World} {p b lim last : Nat} {L : List Ft} (h : Mem w p b lim last L) (id : Int) (hid : I64 id) : Calls Try.prog 18 #[.pointer (some ⟨p, 0, none⟩), .int .i64 id] w fun e w' => (∃ i t oa m c, e = .returned (.tuple #[fv i t (.slice oa m c), .bool (hasId L id)])) ∧ Old w w' := by
  refine (get_any h id hid).mono ?_
  rintro e w' ⟨⟨u, rfl, hf⟩, ho⟩
  obtain ⟨v, rfl, hv⟩ := hf.vr
  obtain ⟨oa, c, rfl, _⟩ := _root_.id hv
  exact ⟨⟨_, _, _, _, _, by rw [hasId_get]⟩, ho⟩

set_option maxHeartbeats 2000000 in
theorem order_law (l : List Ox) (v : Value) (id : Int) (w : World) (hl : OR w v l) (hid : I64 id) : Calls Try.prog 8 #[v, .int .i64 id] w fun e w' => e = .returned (.bool true) ∧ Old w w' := by
  have HL := Lib.hid hl
  have HI := Lib.hid hid
  obtain ⟨oa, c0, rfl, a1, a2, a3⟩ := hl
  obtain ⟨n0, hn⟩ : ∃ n, n = l.length := ⟨_, rfl⟩
  rw [← hn] at a1 HL ⊢
  unfold maxLen at a2
  have HN := Lib.hid hn
  have HA := Lib.hid a3
  clear hn hid a3
  by_cases h100 : 100 < n0
  · go_enter Try.func8, Try.ntmps8
    go_wp2_with (go_at_call 9; (with_reducible refine (known_any _).mono ?_); rintro e w9 ⟨rfl, ho⟩)
    go_ret
    exact ⟨rfl, ho⟩
  have H100 := Lib.hid h100
  go_enter Try.func8, Try.ntmps8
  go_wp2
  go_loopw [23] (fun i wr => ∃ k : Nat, k ≤ n0 ∧ i = .int .i64 (k : Int) ∧ Hid (Old w wr) ∧ Hid (∀ x ∈ l.take k, x.l.length ≤ 10)) (fun i _ => (n0 - intOf i).toNat)
  case atStart => exact ⟨0, Nat.zero_le _, rfl, Lib.hid (Old.refl _), Lib.hid (fun x hx => by simp at hx)⟩
  case round =>
    obtain ⟨k, hk, rfl, HO, HT⟩ := hrel
    by_cases hkn : k < n0
    · obtain ⟨x, hx⟩ : ∃ x, l[k]? = some x := ⟨l[k]'(by rw [← HN.out]; exact hkn), List.getElem?_eq_getElem _⟩
      obtain ⟨g, o, rfl, hgl, c0, c1, c2, c3, hv, _⟩ := HA.out k x hx
      replace c0 := (HO.out.cell hgl).trans c0
      replace c1 := (HO.out.cell hgl).trans c1
      replace c2 := (HO.out.cell hgl).trans c2
      replace c3 := (HO.out.cell hgl).trans c3
      have HX := Lib.hid hx
      have HK := Lib.hid hkn
      obtain ⟨K, T, D, xv, s⟩ := x
      simp only at c0 c1 c2 c3 hv
      obtain ⟨ua, uc, rfl, _⟩ := _root_.id hv
      obtain ⟨N, hN⟩ : ∃ N, N = s.length := ⟨_, rfl⟩
      rw [← hN] at c3 hv
      have HNN := Lib.hid hN
      have HO2 := Lib.hid (HO.out.alloc (.cells #[.int .i64 K, .int .i64 T, .int .i64 D, .slice ua N uc] 34))
      clear hv hN hx hgl
      by_cases h10 : 10 < N
      · go_wp2_with (go_at_call 9; (with_reducible refine (known_any _).mono ?_); rintro e w9 ⟨rfl, ho⟩; replace HO := Lib.hid (HO2.out.trans ho); clear ho)
        go_ret
        exact ⟨rfl, HO.out⟩
      have H10 := Lib.hid h10
      go_wp2
      refine ⟨⟨k + 1, HK.out, by first | rfl | simp, HO2, Lib.hid (fun y hy => ?_)⟩, by simp only [intOf]; omega⟩
      rw [List.take_add_one, HX.out, Option.toList_some] at hy
      rcases List.mem_append.1 hy with hy | hy
      · exact HT.out y hy
      · rw [List.mem_singleton] at hy
        subst hy
        have h1 := H10.out
        have h2 := HNN.out
        show s.length ≤ 10
        omega
    · have hkn' : k = n0 := by omega
      subst hkn'
      have T1 := Lib.hid (show ∀ x ∈ l, x.l.length ≤ 10 by
        intro x hx
        exact HT.out x (by rw [HN.out, List.take_length]; exact hx))
      have OW := HO
      clear HT HA HO hkn hk a1 a2 h100
      obtain ⟨s1, hs1⟩ : ∃ s1, s1 = runS 200 ⟨0, []⟩ l := ⟨_, rfl⟩
      obtain ⟨last, L⟩ := s1
      have S1 := Lib.hid hs1
      have B0 := Lib.hid (show (⟨0, []⟩ : St).last + l.length ≤ 1000000 by have := H100.out; have := HN.out; show 0 + _ ≤ _; omega)
      clear hs1
      go_wp2_with (first
        | (go_at_call 10; (with_reducible refine (new_far _).mono ?_); rintro e w1 ⟨⟨p, b, rfl, hM, hp, hb⟩, ho⟩; have N1 := Lib.hid (⟨OW.out.trans ho, Nat.le_trans OW.out.size hp, Nat.le_trans OW.out.size hb, hM⟩ : On w p b ⟨0, []⟩ w1); clear hM hp hb ho OW)
        | (go_at_call 28; (with_reducible refine (on_runs N1.out HL.out T1.out B0.out).mono ?_); rintro e w2 ⟨rfl, hM⟩; rw [← S1.out] at hM; have N2 := Lib.hid hM; clear hM N1)
        | (go_at_call 20; (with_reducible refine (tw_facts N2.out.m).mono ?_); rintro e w3 ⟨⟨oa3, c, rfl, hr⟩, ho⟩; have N3 := Lib.hid (N2.out.on ho); have RR := Lib.hid hr; clear hr ho N2))
      have hroom := N3.out.m.room
      have HA := RR.out
      obtain ⟨oaX, cX, eX, r1, r2, r3⟩ := HA
      simp only [Value.slice.injEq, true_and] at eX
      obtain ⟨rfl, rfl⟩ := eX
      have HA := Lib.hid r3
      simp only at hroom r1 r2 r3 HA ⊢
      obtain ⟨n, hn⟩ : ∃ n, n = L.length := ⟨_, rfl⟩
      rw [← hn] at r1 hroom ⊢
      have HNL := Lib.hid hn
      have HM3 := Lib.hid (show Mem w3 p b 200 last L from N3.out.m)
      have OW := Lib.hid N3.out.old
      unfold maxLen at r2
      have hn200 : n ≤ 200 := hroom.1
      have LST := Lib.hid (show last ≤ 100 by
        have h1 := runS_start l
        rw [← S1.out] at h1
        have h2 := H100.out
        have h3 := HN.out
        simp only at h1
        omega)
      clear hn r3 RR N3 S1 B0 T1 HL hroom
      go_loopw [10, 50] (fun t i wr => ∃ k : Nat, k ≤ n ∧ i = .int .i64 (k : Int) ∧ t = .bool (hasId (L.take k) id) ∧ Hid (Old w3 wr)) (fun _ i _ => (n - intOf i).toNat)
      case atStart => exact ⟨0, Nat.zero_le _, rfl, rfl, Lib.hid (Old.refl _)⟩
      case round =>
        obtain ⟨k, hk, rfl, rfl, HO⟩ := hrel
        by_cases hkn : k < n
        · obtain ⟨x, hx⟩ : ∃ x, L[k]? = some x := ⟨L[k]'(by rw [← HNL.out]; exact hkn), List.getElem?_eq_getElem _⟩
          have XM := Lib.hid (List.mem_iff_getElem?.2 ⟨k, hx⟩)
          obtain ⟨g, o, u, rfl, hgl, c0, c1, c2, hv⟩ := HA.out k x hx
          have hids := mem_ids HM3.out XM.out
          have TS := Lib.hid (hasId_more (id := id) hx)
          have HX := Lib.hid hx
          have HK := Lib.hid hkn
          obtain ⟨ID, T, s⟩ := x
          simp only at c0 c1 c2 hv hids TS
          obtain ⟨hi1, hi2, _, _⟩ := hids
          have hl100 := LST.out
          obtain ⟨ua, uc, rfl, _⟩ := _root_.id hv
          replace c0 := (HO.out.cell hgl).trans c0
          replace c1 := (HO.out.cell hgl).trans c1
          replace c2 := (HO.out.cell hgl).trans c2
          obtain ⟨TB, hTB⟩ : ∃ t, t = hasId (L.take k) id := ⟨_, rfl⟩
          rw [← hTB]
          have TH := Lib.hid hTB.symm
          have MM := Lib.hid ((HM3.out.old HO.out).old ((Old.refl _).alloc (.cells #[.int .i64 ID, .int .i64 T, .slice ua s.length uc] 38)))
          have FF := Lib.hid (Fb.new wr (.int .i64 ID) (.int .i64 T) (.slice ua s.length uc))
          have VF := Lib.hid ((hv.old HO.out).old ((Old.refl _).alloc (.cells #[.int .i64 ID, .int .i64 T, .slice ua s.length uc] 38)))
          have HO0 := HO
          replace HO := Lib.hid (HO.out.trans ((Old.refl _).alloc (.cells #[.int .i64 ID, .int .i64 T, .slice ua s.length uc] 38)))
          have HS := Lib.hid hgl
          clear hTB hv hx hgl
          by_cases hk0 : k = 0
          · have KJ := Lib.hid hk0
            clear hk0
            go_wp2_with (go_at_call 18; (with_reducible refine (kr_get MM.out XM.out).mono ?_); rintro e w5 ⟨⟨oa5, c5, rfl, hv5⟩, ho⟩; replace MM := Lib.hid ((MM.out.old ho).old ((Old.refl _).alloc (.cells #[.int .i64 ID, .int .i64 T, .slice oa5 s.length c5] 38))); replace HO := Lib.hid ((HO.out.trans ho).trans ((Old.refl _).alloc (.cells #[.int .i64 ID, .int .i64 T, .slice oa5 s.length c5] 38))); replace FF := Lib.hid ((FF.out.old ho).old ((Old.refl _).alloc (.cells #[.int .i64 ID, .int .i64 T, .slice oa5 s.length c5] 38))); replace VF := Lib.hid ((VF.out.old ho).old ((Old.refl _).alloc (.cells #[.int .i64 ID, .int .i64 T, .slice oa5 s.length c5] 38))); have FG := Lib.hid (Fb.new w5 (.int .i64 ID) (.int .i64 T) (.slice oa5 s.length c5)); have VG := Lib.hid (hv5.old ((Old.refl _).alloc (.cells #[.int .i64 ID, .int .i64 T, .slice oa5 s.length c5] 38))); clear ho hv5)
            have LF := Lib.hid FF.out.lt
            have LG := Lib.hid FG.out.lt
            refine wp_region_inv (spOf [.eq (.pointer (some ⟨wr.heap.size, 0, none⟩)), .eq (.int .i64 ID), .eq (.bool false), .eq (.bool false), .eq (.pointer (some ⟨wr.heap.size, 0, none⟩)), .eq (.int .i64 ID), .eq (.pointer (some ⟨p, 0, none⟩)), .eq (.int .i64 (last : Int)), .eq (.bool false), .eq (.bool false), .eq (.bool false), .eq (.int .i64 (k : Int)), .eq (.bool false), .eq (.bool false), .any, .any, .any, .any, .any, .any, .any, .any, .any, .eq (.bool false), .eq (.bool false), .eq (.bool false), .eq (.bool true), .eq (.bool false), .eq (.bool false), .eq (.bool false), .eq (.pointer (some ⟨w5.heap.size, 1, none⟩)), .eq (.int .i64 T), .eq (.pointer (some ⟨wr.heap.size, 1, none⟩)), .eq (.int .i64 T), .eq (.bool false), .eq (.bool false), .eq (.bool false), .eq (.pointer (some ⟨w5.heap.size, 2, none⟩)), .eq (.slice oa5 s.length c5), .eq (.pointer (some ⟨wr.heap.size, 2, none⟩)), .eq (.slice ua s.length uc), .eq (.bool true), .eq (.bool false), .eq (.bool false), .eq (.bool false), .eq (.pointer (some ⟨p, 0, none⟩)), .eq (.pointer (some ⟨wr.heap.size, 1, none⟩)), .eq (.int .i64 T), .eq (.pointer (some ⟨wr.heap.size, 2, none⟩)), .eq (.slice ua s.length uc), .eq (.int .i64 ID), .eq (.pointer (some ⟨wr.heap.size, 0, none⟩)), .eq (.int .i64 ID), .eq (.bool false), .eq (.bool false)]) (by kernel_rfl) (by kernel_rfl) (spOf_mono _) ?_ ?_
            · refine ⟨?_, ?_, ?_, ?_, ?_, ?_, ?_, ?_, ?_, ?_, ?_, ?_, ?_, ?_, ?_, ?_, ?_, ?_, ?_, ?_, ?_, ?_, ?_, ?_, ?_, ?_, ?_, ?_, ?_, ?_, ?_, ?_, ?_, ?_, ?_, ?_, ?_, ?_, ?_, ?_, ?_, ?_, ?_, ?_, ?_, ?_, ?_, ?_, ?_, ?_, ?_, ?_, ?_, ?_, ?_, trivial⟩
              · refine step_plain rfl fun ρ w2 ho hr hd => ?_
                have x0 : ρ (.tmp 12) = .pointer (some ⟨wr.heap.size, 0, none⟩) := (hr.1 12 rfl).trans rfl
                refine does_value (v := .pointer (some ⟨wr.heap.size, 0, none⟩)) (w' := w2) ?_ ⟨rfl, Old.refl _⟩
                unfold execOp
                simp only [x0]
                go_simp
              · refine step_plain rfl fun ρ w2 ho hr hd => ?_
                obtain ⟨h0, _⟩ := hd
                have x0 : ρ (.tmp 62) = .pointer (some ⟨wr.heap.size, 0, none⟩) := h0 rfl
                have q0 := (ho.cell LF.out).trans FF.out.c0
                refine does_value (v := .int .i64 ID) (w' := w2) ?_ ⟨rfl, Old.refl _⟩
                unfold execOp
                simp only [x0]
                go_simp
              · refine step_plain rfl fun ρ w2 ho hr hd => ?_
                obtain ⟨h0, _⟩ := hd
                have x0 : ρ (.tmp 63) = .int .i64 ID := h0 rfl
                have hb : decide (ID < 1) = false := decide_eq_false (by omega)
                refine does_value (v := .bool false) (w' := w2) ?_ ⟨rfl, Old.refl _⟩
                unfold execOp
                simp only [x0, hr.2.1]
                go_simp
              · refine step_plain rfl fun ρ w2 ho hr hd => ?_
                obtain ⟨h0, _⟩ := hd
                have x0 : ρ (.tmp 64) = .bool false := h0 rfl
                exact does_move rfl x0 ⟨rfl, Old.refl _⟩
              · refine step_guard rfl fun ρ w2 ho hr hd => ?_
                obtain ⟨h0, _⟩ := hd
                have hgd : ρ (.tmp 65) = .bool false := h0 rfl
                have x0 : ρ (.tmp 12) = .pointer (some ⟨wr.heap.size, 0, none⟩) := (hr.1 12 rfl).trans rfl
                refine ⟨hgd, ?_⟩
                refine does_value (v := .pointer (some ⟨wr.heap.size, 0, none⟩)) (w' := w2) ?_ ⟨rfl, Old.refl _⟩
                unfold execOp
                simp only [x0]
                go_simp
              · refine step_guard rfl fun ρ w2 ho hr hd => ?_
                obtain ⟨h0, h1, _⟩ := hd
                have hgd : ρ (.tmp 65) = .bool false := h1 rfl
                have x0 : ρ (.tmp 66) = .pointer (some ⟨wr.heap.size, 0, none⟩) := h0 rfl
                have q0 := (ho.cell LF.out).trans FF.out.c0
                refine ⟨hgd, ?_⟩
                refine does_value (v := .int .i64 ID) (w' := w2) ?_ ⟨rfl, Old.refl _⟩
                unfold execOp
                simp only [x0]
                go_simp
              · refine step_guard rfl fun ρ w2 ho hr hd => ?_
                obtain ⟨h0, _⟩ := hd
                have hgd : ρ (.tmp 65) = .bool false := h0 rfl
                have x0 : ρ (.tmp 7) = .pointer (some ⟨p, 0, none⟩) := (hr.1 7 rfl).trans rfl
                refine ⟨hgd, ?_⟩
                exact does_move rfl x0 ⟨rfl, Old.refl _⟩
              · refine step_guard rfl fun ρ w2 ho hr hd => ?_
                obtain ⟨h0, h1, h2, _⟩ := hd
                have hgd : ρ (.tmp 65) = .bool false := h2 rfl
                have x0 : ρ (.tmp 68) = .pointer (some ⟨p, 0, none⟩) := h0 rfl
                refine ⟨hgd, ?_⟩
                exact does_call1 rfl (hr.2.2.2 _) x0 rfl ((last_old (MM.out.old ho)).mono fun e w' h => ⟨_, h.1, rfl, h.2⟩)
              · refine step_guard rfl fun ρ w2 ho hr hd => ?_
                obtain ⟨h0, h1, h2, _⟩ := hd
                have hgd : ρ (.tmp 65) = .bool false := h2 rfl
                have x0 : ρ (.tmp 67) = .int .i64 ID := h0 rfl
                have y0 : ρ (.tmp 69) = .int .i64 (last : Int) := h1 rfl
                have hb : decide ((last : Int) < ID) = false := decide_eq_false (by omega)
                refine ⟨hgd, ?_⟩
                refine does_value (v := .bool false) (w' := w2) ?_ ⟨rfl, Old.refl _⟩
                unfold execOp
                simp only [x0, y0]
                go_simp
              · refine step_plain rfl fun ρ w2 ho hr hd => ?_
                obtain ⟨h0, h1, _⟩ := hd
                have x0 : ρ (.tmp 65) = .bool false := h0 rfl
                have y0 : ρ (.tmp 70) = .bool false := h1 rfl
                exact does_pick rfl x0 y0 ⟨rfl, Old.refl _⟩
              · refine step_plain rfl fun ρ w2 ho hr hd => ?_
                obtain ⟨h0, h1, _⟩ := hd
                have x0 : ρ (.tmp 71) = .bool false := h0 rfl
                exact does_move rfl x0 ⟨rfl, Old.refl _⟩
              · refine step_guard rfl fun ρ w2 ho hr hd => ?_
                obtain ⟨h0, _⟩ := hd
                have hgd : ρ (.tmp 72) = .bool false := h0 rfl
                have x0 : ρ (.tmp 11) = .int .i64 (k : Int) := (hr.1 11 rfl).trans rfl
                refine ⟨hgd, ?_⟩
                exact does_move rfl x0 ⟨rfl, Old.refl _⟩
              · refine step_guard rfl fun ρ w2 ho hr hd => ?_
                obtain ⟨h0, h1, _⟩ := hd
                have hgd : ρ (.tmp 72) = .bool false := h1 rfl
                have x0 : ρ (.tmp 73) = .int .i64 (k : Int) := h0 rfl
                have hb : k = 0 := KJ.out
                refine ⟨hgd, ?_⟩
                refine does_value (v := .bool false) (w' := w2) ?_ ⟨rfl, Old.refl _⟩
                unfold execOp
                simp only [x0, hr.2.1]
                go_simp
              · refine step_guard rfl fun ρ w2 ho hr hd => ?_
                obtain ⟨h0, h1, h2, _⟩ := hd
                have hgd : ρ (.tmp 72) = .bool false := h2 rfl
                have x0 : ρ (.tmp 74) = .bool false := h0 rfl
                refine ⟨hgd, ?_⟩
                exact does_move rfl x0 ⟨rfl, Old.refl _⟩
              · refine step_skip rfl (fun ρ w2 ho hr hd => ?_) (fun _ => trivial)
                obtain ⟨h0, _⟩ := hd
                have hgd : ρ (.tmp 75) = .bool false := h0 rfl
                exact hgd
              · refine step_skip rfl (fun ρ w2 ho hr hd => ?_) (fun _ => trivial)
                obtain ⟨h0, h1, _⟩ := hd
                have hgd : ρ (.tmp 75) = .bool false := h1 rfl
                exact hgd
              · refine step_skip rfl (fun ρ w2 ho hr hd => ?_) (fun _ => trivial)
                obtain ⟨h0, _⟩ := hd
                have hgd : ρ (.tmp 75) = .bool false := h0 rfl
                exact hgd
              · refine step_skip rfl (fun ρ w2 ho hr hd => ?_) (fun _ => trivial)
                obtain ⟨h0, _⟩ := hd
                have hgd : ρ (.tmp 75) = .bool false := h0 rfl
                exact hgd
              · refine step_skip rfl (fun ρ w2 ho hr hd => ?_) (fun _ => trivial)
                obtain ⟨h0, h1, _⟩ := hd
                have hgd : ρ (.tmp 75) = .bool false := h1 rfl
                exact hgd
              · refine step_skip rfl (fun ρ w2 ho hr hd => ?_) (fun _ => trivial)
                obtain ⟨h0, h1, h2, _⟩ := hd
                have hgd : ρ (.tmp 75) = .bool false := h2 rfl
                exact hgd
              · refine step_skip rfl (fun ρ w2 ho hr hd => ?_) (fun _ => trivial)
                obtain ⟨h0, h1, _⟩ := hd
                have hgd : ρ (.tmp 75) = .bool false := h1 rfl
                exact hgd
              · refine step_skip rfl (fun ρ w2 ho hr hd => ?_) (fun _ => trivial)
                obtain ⟨h0, h1, _⟩ := hd
                have hgd : ρ (.tmp 75) = .bool false := h1 rfl
                exact hgd
              · refine step_skip rfl (fun ρ w2 ho hr hd => ?_) (fun _ => trivial)
                obtain ⟨h0, h1, h2, _⟩ := hd
                have hgd : ρ (.tmp 75) = .bool false := h2 rfl
                exact hgd
              · refine step_guard rfl fun ρ w2 ho hr hd => ?_
                obtain ⟨h0, h1, h2, _⟩ := hd
                have hgd : ρ (.tmp 72) = .bool false := h2 rfl
                have x0 : ρ (.tmp 75) = .bool false := h0 rfl
                refine ⟨hgd, ?_⟩
                exact does_pick rfl x0 (hr.2.1 _) ⟨rfl, Old.refl _⟩
              · refine step_plain rfl fun ρ w2 ho hr hd => ?_
                obtain ⟨h0, h1, _⟩ := hd
                have x0 : ρ (.tmp 72) = .bool false := h0 rfl
                have y0 : ρ (.tmp 85) = .bool false := h1 rfl
                exact does_pick rfl x0 y0 ⟨rfl, Old.refl _⟩
              · refine step_plain rfl fun ρ w2 ho hr hd => ?_
                obtain ⟨h0, h1, _⟩ := hd
                have x0 : ρ (.tmp 86) = .bool false := h0 rfl
                exact does_move rfl x0 ⟨rfl, Old.refl _⟩
              · refine step_guard rfl fun ρ w2 ho hr hd => ?_
                obtain ⟨h0, _⟩ := hd
                have hgd : ρ (.tmp 87) = .bool false := h0 rfl
                have x0 : ρ (.tmp 14) = .bool true := (hr.1 14 rfl).trans rfl
                refine ⟨hgd, ?_⟩
                exact does_move rfl x0 ⟨rfl, Old.refl _⟩
              · refine step_guard rfl fun ρ w2 ho hr hd => ?_
                obtain ⟨h0, h1, _⟩ := hd
                have hgd : ρ (.tmp 87) = .bool false := h1 rfl
                have x0 : ρ (.tmp 88) = .bool true := h0 rfl
                refine ⟨hgd, ?_⟩
                refine does_value (v := .bool false) (w' := w2) ?_ ⟨rfl, Old.refl _⟩
                unfold execOp
                simp only [x0]
                go_simp
              · refine step_plain rfl fun ρ w2 ho hr hd => ?_
                obtain ⟨h0, h1, _⟩ := hd
                have x0 : ρ (.tmp 87) = .bool false := h0 rfl
                have y0 : ρ (.tmp 89) = .bool false := h1 rfl
                exact does_pick rfl x0 y0 ⟨rfl, Old.refl _⟩
              · refine step_plain rfl fun ρ w2 ho hr hd => ?_
                obtain ⟨h0, h1, _⟩ := hd
                have x0 : ρ (.tmp 90) = .bool false := h0 rfl
                exact does_move rfl x0 ⟨rfl, Old.refl _⟩
              · refine step_guard rfl fun ρ w2 ho hr hd => ?_
                obtain ⟨h0, _⟩ := hd
                have hgd : ρ (.tmp 91) = .bool false := h0 rfl
                have x0 : ρ (.tmp 13) = .pointer (some ⟨w5.heap.size, 0, none⟩) := (hr.1 13 rfl).trans rfl
                refine ⟨hgd, ?_⟩
                refine does_value (v := .pointer (some ⟨w5.heap.size, 1, none⟩)) (w' := w2) ?_ ⟨rfl, Old.refl _⟩
                unfold execOp
                simp only [x0]
                go_simp
              · refine step_guard rfl fun ρ w2 ho hr hd => ?_
                obtain ⟨h0, h1, _⟩ := hd
                have hgd : ρ (.tmp 91) = .bool false := h1 rfl
                have x0 : ρ (.tmp 92) = .pointer (some ⟨w5.heap.size, 1, none⟩) := h0 rfl
                have q0 := (ho.cell LG.out).trans FG.out.c1
                refine ⟨hgd, ?_⟩
                refine does_value (v := .int .i64 T) (w' := w2) ?_ ⟨rfl, Old.refl _⟩
                unfold execOp
                simp only [x0]
                go_simp
              · refine step_guard rfl fun ρ w2 ho hr hd => ?_
                obtain ⟨h0, _⟩ := hd
                have hgd : ρ (.tmp 91) = .bool false := h0 rfl
                have x0 : ρ (.tmp 12) = .pointer (some ⟨wr.heap.size, 0, none⟩) := (hr.1 12 rfl).trans rfl
                refine ⟨hgd, ?_⟩
                refine does_value (v := .pointer (some ⟨wr.heap.size, 1, none⟩)) (w' := w2) ?_ ⟨rfl, Old.refl _⟩
                unfold execOp
                simp only [x0]
                go_simp
              · refine step_guard rfl fun ρ w2 ho hr hd => ?_
                obtain ⟨h0, h1, _⟩ := hd
                have hgd : ρ (.tmp 91) = .bool false := h1 rfl
                have x0 : ρ (.tmp 94) = .pointer (some ⟨wr.heap.size, 1, none⟩) := h0 rfl
                have q0 := (ho.cell LF.out).trans FF.out.c1
                refine ⟨hgd, ?_⟩
                refine does_value (v := .int .i64 T) (w' := w2) ?_ ⟨rfl, Old.refl _⟩
                unfold execOp
                simp only [x0]
                go_simp
              · refine step_guard rfl fun ρ w2 ho hr hd => ?_
                obtain ⟨h0, h1, h2, _⟩ := hd
                have hgd : ρ (.tmp 91) = .bool false := h2 rfl
                have x0 : ρ (.tmp 93) = .int .i64 T := h0 rfl
                have y0 : ρ (.tmp 95) = .int .i64 T := h1 rfl
                refine ⟨hgd, ?_⟩
                refine does_value (v := .bool false) (w' := w2) ?_ ⟨rfl, Old.refl _⟩
                unfold execOp
                simp only [x0, y0]
                go_simp
              · refine step_plain rfl fun ρ w2 ho hr hd => ?_
                obtain ⟨h0, h1, _⟩ := hd
                have x0 : ρ (.tmp 91) = .bool false := h0 rfl
                have y0 : ρ (.tmp 96) = .bool false := h1 rfl
                exact does_pick rfl x0 y0 ⟨rfl, Old.refl _⟩
              · refine step_plain rfl fun ρ w2 ho hr hd => ?_
                obtain ⟨h0, h1, _⟩ := hd
                have x0 : ρ (.tmp 97) = .bool false := h0 rfl
                exact does_move rfl x0 ⟨rfl, Old.refl _⟩
              · refine step_guard rfl fun ρ w2 ho hr hd => ?_
                obtain ⟨h0, _⟩ := hd
                have hgd : ρ (.tmp 98) = .bool false := h0 rfl
                have x0 : ρ (.tmp 13) = .pointer (some ⟨w5.heap.size, 0, none⟩) := (hr.1 13 rfl).trans rfl
                refine ⟨hgd, ?_⟩
                refine does_value (v := .pointer (some ⟨w5.heap.size, 2, none⟩)) (w' := w2) ?_ ⟨rfl, Old.refl _⟩
                unfold execOp
                simp only [x0]
                go_simp
              · refine step_guard rfl fun ρ w2 ho hr hd => ?_
                obtain ⟨h0, h1, _⟩ := hd
                have hgd : ρ (.tmp 98) = .bool false := h1 rfl
                have x0 : ρ (.tmp 99) = .pointer (some ⟨w5.heap.size, 2, none⟩) := h0 rfl
                have q0 := (ho.cell LG.out).trans FG.out.c2
                refine ⟨hgd, ?_⟩
                refine does_value (v := .slice oa5 s.length c5) (w' := w2) ?_ ⟨rfl, Old.refl _⟩
                unfold execOp
                simp only [x0]
                go_simp
              · refine step_guard rfl fun ρ w2 ho hr hd => ?_
                obtain ⟨h0, _⟩ := hd
                have hgd : ρ (.tmp 98) = .bool false := h0 rfl
                have x0 : ρ (.tmp 12) = .pointer (some ⟨wr.heap.size, 0, none⟩) := (hr.1 12 rfl).trans rfl
                refine ⟨hgd, ?_⟩
                refine does_value (v := .pointer (some ⟨wr.heap.size, 2, none⟩)) (w' := w2) ?_ ⟨rfl, Old.refl _⟩
                unfold execOp
                simp only [x0]
                go_simp
              · refine step_guard rfl fun ρ w2 ho hr hd => ?_
                obtain ⟨h0, h1, _⟩ := hd
                have hgd : ρ (.tmp 98) = .bool false := h1 rfl
                have x0 : ρ (.tmp 101) = .pointer (some ⟨wr.heap.size, 2, none⟩) := h0 rfl
                have q0 := (ho.cell LF.out).trans FF.out.c2
                refine ⟨hgd, ?_⟩
                refine does_value (v := .slice ua s.length uc) (w' := w2) ?_ ⟨rfl, Old.refl _⟩
                unfold execOp
                simp only [x0]
                go_simp
              · refine step_guard rfl fun ρ w2 ho hr hd => ?_
                obtain ⟨h0, h1, h2, h3, _⟩ := hd
                have hgd : ρ (.tmp 98) = .bool false := h3 rfl
                have x0 : ρ (.tmp 100) = .slice oa5 s.length c5 := h0 rfl
                have x1 : ρ (.tmp 102) = .slice ua s.length uc := h1 rfl
                refine ⟨hgd, ?_⟩
                exact does_call2 rfl (hr.2.2.2 _) x0 x1 rfl ((rself_any s _ _ w2 (VG.out.old ho) (VF.out.old ho)).mono fun e w' h => ⟨_, h.1, rfl, h.2⟩)
              · refine step_guard rfl fun ρ w2 ho hr hd => ?_
                obtain ⟨h0, h1, _⟩ := hd
                have hgd : ρ (.tmp 98) = .bool false := h1 rfl
                have x0 : ρ (.tmp 103) = .bool true := h0 rfl
                refine ⟨hgd, ?_⟩
                refine does_value (v := .bool false) (w' := w2) ?_ ⟨rfl, Old.refl _⟩
                unfold execOp
                simp only [x0]
                go_simp
              · refine step_plain rfl fun ρ w2 ho hr hd => ?_
                obtain ⟨h0, h1, _⟩ := hd
                have x0 : ρ (.tmp 98) = .bool false := h0 rfl
                have y0 : ρ (.tmp 104) = .bool false := h1 rfl
                exact does_pick rfl x0 y0 ⟨rfl, Old.refl _⟩
              · refine step_plain rfl fun ρ w2 ho hr hd => ?_
                obtain ⟨h0, h1, _⟩ := hd
                have x0 : ρ (.tmp 105) = .bool false := h0 rfl
                exact does_move rfl x0 ⟨rfl, Old.refl _⟩
              · refine step_guard rfl fun ρ w2 ho hr hd => ?_
                obtain ⟨h0, _⟩ := hd
                have hgd : ρ (.tmp 106) = .bool false := h0 rfl
                have x0 : ρ (.tmp 7) = .pointer (some ⟨p, 0, none⟩) := (hr.1 7 rfl).trans rfl
                refine ⟨hgd, ?_⟩
                exact does_move rfl x0 ⟨rfl, Old.refl _⟩
              · refine step_guard rfl fun ρ w2 ho hr hd => ?_
                obtain ⟨h0, _⟩ := hd
                have hgd : ρ (.tmp 106) = .bool false := h0 rfl
                have x0 : ρ (.tmp 12) = .pointer (some ⟨wr.heap.size, 0, none⟩) := (hr.1 12 rfl).trans rfl
                refine ⟨hgd, ?_⟩
                refine does_value (v := .pointer (some ⟨wr.heap.size, 1, none⟩)) (w' := w2) ?_ ⟨rfl, Old.refl _⟩
                unfold execOp
                simp only [x0]
                go_simp
              · refine step_guard rfl fun ρ w2 ho hr hd => ?_
                obtain ⟨h0, h1, _⟩ := hd
                have hgd : ρ (.tmp 106) = .bool false := h1 rfl
                have x0 : ρ (.tmp 108) = .pointer (some ⟨wr.heap.size, 1, none⟩) := h0 rfl
                have q0 := (ho.cell LF.out).trans FF.out.c1
                refine ⟨hgd, ?_⟩
                refine does_value (v := .int .i64 T) (w' := w2) ?_ ⟨rfl, Old.refl _⟩
                unfold execOp
                simp only [x0]
                go_simp
              · refine step_guard rfl fun ρ w2 ho hr hd => ?_
                obtain ⟨h0, _⟩ := hd
                have hgd : ρ (.tmp 106) = .bool false := h0 rfl
                have x0 : ρ (.tmp 12) = .pointer (some ⟨wr.heap.size, 0, none⟩) := (hr.1 12 rfl).trans rfl
                refine ⟨hgd, ?_⟩
                refine does_value (v := .pointer (some ⟨wr.heap.size, 2, none⟩)) (w' := w2) ?_ ⟨rfl, Old.refl _⟩
                unfold execOp
                simp only [x0]
                go_simp
              · refine step_guard rfl fun ρ w2 ho hr hd => ?_
                obtain ⟨h0, h1, _⟩ := hd
                have hgd : ρ (.tmp 106) = .bool false := h1 rfl
                have x0 : ρ (.tmp 110) = .pointer (some ⟨wr.heap.size, 2, none⟩) := h0 rfl
                have q0 := (ho.cell LF.out).trans FF.out.c2
                refine ⟨hgd, ?_⟩
                refine does_value (v := .slice ua s.length uc) (w' := w2) ?_ ⟨rfl, Old.refl _⟩
                unfold execOp
                simp only [x0]
                go_simp
              · refine step_guard rfl fun ρ w2 ho hr hd => ?_
                obtain ⟨h0, h1, h2, h3, h4, _⟩ := hd
                have hgd : ρ (.tmp 106) = .bool false := h4 rfl
                have x0 : ρ (.tmp 107) = .pointer (some ⟨p, 0, none⟩) := h0 rfl
                have x1 : ρ (.tmp 109) = .int .i64 T := h1 rfl
                have x2 : ρ (.tmp 111) = .slice ua s.length uc := h2 rfl
                refine ⟨hgd, ?_⟩
                exact does_call3 rfl (hr.2.2.2 _) x0 x1 x2 rfl ((kr_find (MM.out.old ho) XM.out (VF.out.old ho)).mono fun e w' h => ⟨_, h.1, rfl, h.2⟩)
              · refine step_guard rfl fun ρ w2 ho hr hd => ?_
                obtain ⟨h0, _⟩ := hd
                have hgd : ρ (.tmp 106) = .bool false := h0 rfl
                have x0 : ρ (.tmp 12) = .pointer (some ⟨wr.heap.size, 0, none⟩) := (hr.1 12 rfl).trans rfl
                refine ⟨hgd, ?_⟩
                refine does_value (v := .pointer (some ⟨wr.heap.size, 0, none⟩)) (w' := w2) ?_ ⟨rfl, Old.refl _⟩
                unfold execOp
                simp only [x0]
                go_simp
              · refine step_guard rfl fun ρ w2 ho hr hd => ?_
                obtain ⟨h0, h1, _⟩ := hd
                have hgd : ρ (.tmp 106) = .bool false := h1 rfl
                have x0 : ρ (.tmp 113) = .pointer (some ⟨wr.heap.size, 0, none⟩) := h0 rfl
                have q0 := (ho.cell LF.out).trans FF.out.c0
                refine ⟨hgd, ?_⟩
                refine does_value (v := .int .i64 ID) (w' := w2) ?_ ⟨rfl, Old.refl _⟩
                unfold execOp
                simp only [x0]
                go_simp
              · refine step_guard rfl fun ρ w2 ho hr hd => ?_
                obtain ⟨h0, h1, h2, _⟩ := hd
                have hgd : ρ (.tmp 106) = .bool false := h2 rfl
                have x0 : ρ (.tmp 112) = .int .i64 ID := h0 rfl
                have y0 : ρ (.tmp 114) = .int .i64 ID := h1 rfl
                refine ⟨hgd, ?_⟩
                refine does_value (v := .bool false) (w' := w2) ?_ ⟨rfl, Old.refl _⟩
                unfold execOp
                simp only [x0, y0]
                go_simp
              · refine step_plain rfl fun ρ w2 ho hr hd => ?_
                obtain ⟨h0, h1, _⟩ := hd
                have x0 : ρ (.tmp 106) = .bool false := h0 rfl
                have y0 : ρ (.tmp 115) = .bool false := h1 rfl
                exact does_pick rfl x0 y0 ⟨rfl, Old.refl _⟩
            · intro a' w' hoE hst hl
              obtain ⟨_, _, _, _, _, _, _, _, _, _, _, _, _, _, _, _, _, _, _, _, _, _, _, _, _, _, _, _, _, _, _, _, _, _, _, _, _, _, _, _, _, _, _, _, _, _, _, _, _, _, _, _, _, _, k54, _⟩ := hl
              have e54 : a'.eval (.tmp 116) = .bool false := k54
              rw [act_fresh hst [false, false, false, false, false, false, false, false, false, false, false, false, false, false, false, false, false, false, false, false, false, false, false, false, false, false, false, false, false, false, false, false, false, false, false, false, false, false, false, false, false, false, false, false, false, false, false, false, false, false, false, false, false, false, false, false, false, false, false, false, false, false, true, true, true, true, true, true, true, true, true, true, true, true, true, true, true, true, true, true, true, true, true, true, true, true, true, true, true, true, true, true, true, true, true, true, true, true, true, true, true, true, true, true, true, true, true, true, true, true, true, true, true, true, true, true, true, false, false, false, false, false, false, false, false, false, false, false, false, false, false, false, false, false, false, false, false, false, false, false, false, false, false, false] (by kernel_rfl) (by kernel_rfl)]
              simp only [fresh, e54]
              clear hst k54 e54
              have HO2 := Lib.hid (HO.out.trans hoE)
              replace FF := Lib.hid (FF.out.old hoE)
              clear MM XM FG VG VF HO
              have f0 := FF.out.c0
              cases TB
              · go_wp2
                exact ⟨⟨k + 1, HK.out, by first | rfl | simp, by rw [TS.out, TH.out, Bool.false_or], HO2⟩, by simp only [intOf]; omega⟩
              · go_wp2
                exact ⟨⟨k + 1, HK.out, by first | rfl | simp, by rw [TS.out, TH.out, Bool.true_or], HO2⟩, by simp only [intOf]; omega⟩
          · obtain ⟨j, hkj⟩ : ∃ j, k = j + 1 := ⟨k - 1, by omega⟩
            have HX' := HX.out
            rw [hkj] at HX'
            have KJ := Lib.hid hkj
            have hj : j < n := by omega
            obtain ⟨y, hy⟩ : ∃ y, L[j]? = some y := ⟨L[j]'(by rw [← HNL.out]; exact hj), List.getElem?_eq_getElem _⟩
            have hup := mem_up HM3.out hy HX'
            obtain ⟨g', o', u', eg, hgl', d0, _⟩ := HA.out j y hy
            simp only [Option.some.injEq, Addr.mk.injEq, and_true] at eg
            obtain ⟨rfl, rfl⟩ := eg
            obtain ⟨IDp, Tp, sp⟩ := y
            simp only at d0 hup
            have P0 := Lib.hid d0
            clear d0 hy HX' hkj hk0
            go_wp2_with (go_at_call 18; (with_reducible refine (kr_get MM.out XM.out).mono ?_); rintro e w5 ⟨⟨oa5, c5, rfl, hv5⟩, ho⟩; replace MM := Lib.hid ((MM.out.old ho).old ((Old.refl _).alloc (.cells #[.int .i64 ID, .int .i64 T, .slice oa5 s.length c5] 38))); replace HO := Lib.hid ((HO.out.trans ho).trans ((Old.refl _).alloc (.cells #[.int .i64 ID, .int .i64 T, .slice oa5 s.length c5] 38))); replace FF := Lib.hid ((FF.out.old ho).old ((Old.refl _).alloc (.cells #[.int .i64 ID, .int .i64 T, .slice oa5 s.length c5] 38))); replace VF := Lib.hid ((VF.out.old ho).old ((Old.refl _).alloc (.cells #[.int .i64 ID, .int .i64 T, .slice oa5 s.length c5] 38))); have FG := Lib.hid (Fb.new w5 (.int .i64 ID) (.int .i64 T) (.slice oa5 s.length c5)); have VG := Lib.hid (hv5.old ((Old.refl _).alloc (.cells #[.int .i64 ID, .int .i64 T, .slice oa5 s.length c5] 38))); clear ho hv5)
            have LF := Lib.hid FF.out.lt
            have LG := Lib.hid FG.out.lt
            have C0 := Lib.hid ((HO.out.cell HS.out).trans P0.out)
            have L3 := Lib.hid (Nat.lt_of_lt_of_le HS.out HO.out.size)
            refine wp_region_inv (spOf [.eq (.pointer (some ⟨wr.heap.size, 0, none⟩)), .eq (.int .i64 ID), .eq (.bool false), .eq (.bool false), .eq (.pointer (some ⟨wr.heap.size, 0, none⟩)), .eq (.int .i64 ID), .eq (.pointer (some ⟨p, 0, none⟩)), .eq (.int .i64 (last : Int)), .eq (.bool false), .eq (.bool false), .eq (.bool false), .eq (.int .i64 (k : Int)), .eq (.bool true), .eq (.bool true), .eq (.pointer (some ⟨wr.heap.size, 0, none⟩)), .eq (.int .i64 ID), .eq (.slice (some ⟨g, o, none⟩) n c), .eq (.int .i64 (k : Int)), .eq (.int .i64 (j : Int)), .eq (.pointer (some ⟨g, o + j * 3, none⟩)), .eq (.pointer (some ⟨g, o + j * 3, none⟩)), .eq (.int .i64 IDp), .eq (.bool false), .eq (.bool false), .eq (.bool false), .eq (.bool false), .eq (.bool true), .eq (.bool false), .eq (.bool false), .eq (.bool false), .eq (.pointer (some ⟨w5.heap.size, 1, none⟩)), .eq (.int .i64 T), .eq (.pointer (some ⟨wr.heap.size, 1, none⟩)), .eq (.int .i64 T), .eq (.bool false), .eq (.bool false), .eq (.bool false), .eq (.pointer (some ⟨w5.heap.size, 2, none⟩)), .eq (.slice oa5 s.length c5), .eq (.pointer (some ⟨wr.heap.size, 2, none⟩)), .eq (.slice ua s.length uc), .eq (.bool true), .eq (.bool false), .eq (.bool false), .eq (.bool false), .eq (.pointer (some ⟨p, 0, none⟩)), .eq (.pointer (some ⟨wr.heap.size, 1, none⟩)), .eq (.int .i64 T), .eq (.pointer (some ⟨wr.heap.size, 2, none⟩)), .eq (.slice ua s.length uc), .eq (.int .i64 ID), .eq (.pointer (some ⟨wr.heap.size, 0, none⟩)), .eq (.int .i64 ID), .eq (.bool false), .eq (.bool false)]) (by kernel_rfl) (by kernel_rfl) (spOf_mono _) ?_ ?_
            · refine ⟨?_, ?_, ?_, ?_, ?_, ?_, ?_, ?_, ?_, ?_, ?_, ?_, ?_, ?_, ?_, ?_, ?_, ?_, ?_, ?_, ?_, ?_, ?_, ?_, ?_, ?_, ?_, ?_, ?_, ?_, ?_, ?_, ?_, ?_, ?_, ?_, ?_, ?_, ?_, ?_, ?_, ?_, ?_, ?_, ?_, ?_, ?_, ?_, ?_, ?_, ?_, ?_, ?_, ?_, ?_, trivial⟩
              · refine step_plain rfl fun ρ w2 ho hr hd => ?_
                have x0 : ρ (.tmp 12) = .pointer (some ⟨wr.heap.size, 0, none⟩) := (hr.1 12 rfl).trans rfl
                refine does_value (v := .pointer (some ⟨wr.heap.size, 0, none⟩)) (w' := w2) ?_ ⟨rfl, Old.refl _⟩
                unfold execOp
                simp only [x0]
                go_simp
              · refine step_plain rfl fun ρ w2 ho hr hd => ?_
                obtain ⟨h0, _⟩ := hd
                have x0 : ρ (.tmp 62) = .pointer (some ⟨wr.heap.size, 0, none⟩) := h0 rfl
                have q0 := (ho.cell LF.out).trans FF.out.c0
                refine does_value (v := .int .i64 ID) (w' := w2) ?_ ⟨rfl, Old.refl _⟩
                unfold execOp
                simp only [x0]
                go_simp
              · refine step_plain rfl fun ρ w2 ho hr hd => ?_
                obtain ⟨h0, _⟩ := hd
                have x0 : ρ (.tmp 63) = .int .i64 ID := h0 rfl
                have hb : decide (ID < 1) = false := decide_eq_false (by omega)
                refine does_value (v := .bool false) (w' := w2) ?_ ⟨rfl, Old.refl _⟩
                unfold execOp
                simp only [x0, hr.2.1]
                go_simp
              · refine step_plain rfl fun ρ w2 ho hr hd => ?_
                obtain ⟨h0, _⟩ := hd
                have x0 : ρ (.tmp 64) = .bool false := h0 rfl
                exact does_move rfl x0 ⟨rfl, Old.refl _⟩
              · refine step_guard rfl fun ρ w2 ho hr hd => ?_
                obtain ⟨h0, _⟩ := hd
                have hgd : ρ (.tmp 65) = .bool false := h0 rfl
                have x0 : ρ (.tmp 12) = .pointer (some ⟨wr.heap.size, 0, none⟩) := (hr.1 12 rfl).trans rfl
                refine ⟨hgd, ?_⟩
                refine does_value (v := .pointer (some ⟨wr.heap.size, 0, none⟩)) (w' := w2) ?_ ⟨rfl, Old.refl _⟩
                unfold execOp
                simp only [x0]
                go_simp
              · refine step_guard rfl fun ρ w2 ho hr hd => ?_
                obtain ⟨h0, h1, _⟩ := hd
                have hgd : ρ (.tmp 65) = .bool false := h1 rfl
                have x0 : ρ (.tmp 66) = .pointer (some ⟨wr.heap.size, 0, none⟩) := h0 rfl
                have q0 := (ho.cell LF.out).trans FF.out.c0
                refine ⟨hgd, ?_⟩
                refine does_value (v := .int .i64 ID) (w' := w2) ?_ ⟨rfl, Old.refl _⟩
                unfold execOp
                simp only [x0]
                go_simp
              · refine step_guard rfl fun ρ w2 ho hr hd => ?_
                obtain ⟨h0, _⟩ := hd
                have hgd : ρ (.tmp 65) = .bool false := h0 rfl
                have x0 : ρ (.tmp 7) = .pointer (some ⟨p, 0, none⟩) := (hr.1 7 rfl).trans rfl
                refine ⟨hgd, ?_⟩
                exact does_move rfl x0 ⟨rfl, Old.refl _⟩
              · refine step_guard rfl fun ρ w2 ho hr hd => ?_
                obtain ⟨h0, h1, h2, _⟩ := hd
                have hgd : ρ (.tmp 65) = .bool false := h2 rfl
                have x0 : ρ (.tmp 68) = .pointer (some ⟨p, 0, none⟩) := h0 rfl
                refine ⟨hgd, ?_⟩
                exact does_call1 rfl (hr.2.2.2 _) x0 rfl ((last_old (MM.out.old ho)).mono fun e w' h => ⟨_, h.1, rfl, h.2⟩)
              · refine step_guard rfl fun ρ w2 ho hr hd => ?_
                obtain ⟨h0, h1, h2, _⟩ := hd
                have hgd : ρ (.tmp 65) = .bool false := h2 rfl
                have x0 : ρ (.tmp 67) = .int .i64 ID := h0 rfl
                have y0 : ρ (.tmp 69) = .int .i64 (last : Int) := h1 rfl
                have hb : decide ((last : Int) < ID) = false := decide_eq_false (by omega)
                refine ⟨hgd, ?_⟩
                refine does_value (v := .bool false) (w' := w2) ?_ ⟨rfl, Old.refl _⟩
                unfold execOp
                simp only [x0, y0]
                go_simp
              · refine step_plain rfl fun ρ w2 ho hr hd => ?_
                obtain ⟨h0, h1, _⟩ := hd
                have x0 : ρ (.tmp 65) = .bool false := h0 rfl
                have y0 : ρ (.tmp 70) = .bool false := h1 rfl
                exact does_pick rfl x0 y0 ⟨rfl, Old.refl _⟩
              · refine step_plain rfl fun ρ w2 ho hr hd => ?_
                obtain ⟨h0, h1, _⟩ := hd
                have x0 : ρ (.tmp 71) = .bool false := h0 rfl
                exact does_move rfl x0 ⟨rfl, Old.refl _⟩
              · refine step_guard rfl fun ρ w2 ho hr hd => ?_
                obtain ⟨h0, _⟩ := hd
                have hgd : ρ (.tmp 72) = .bool false := h0 rfl
                have x0 : ρ (.tmp 11) = .int .i64 (k : Int) := (hr.1 11 rfl).trans rfl
                refine ⟨hgd, ?_⟩
                exact does_move rfl x0 ⟨rfl, Old.refl _⟩
              · refine step_guard rfl fun ρ w2 ho hr hd => ?_
                obtain ⟨h0, h1, _⟩ := hd
                have hgd : ρ (.tmp 72) = .bool false := h1 rfl
                have x0 : ρ (.tmp 73) = .int .i64 (k : Int) := h0 rfl
                have hb : 0 < k := by have := KJ.out; omega
                refine ⟨hgd, ?_⟩
                refine does_value (v := .bool true) (w' := w2) ?_ ⟨rfl, Old.refl _⟩
                unfold execOp
                simp only [x0, hr.2.1]
                go_simp
              · refine step_guard rfl fun ρ w2 ho hr hd => ?_
                obtain ⟨h0, h1, h2, _⟩ := hd
                have hgd : ρ (.tmp 72) = .bool false := h2 rfl
                have x0 : ρ (.tmp 74) = .bool true := h0 rfl
                refine ⟨hgd, ?_⟩
                exact does_move rfl x0 ⟨rfl, Old.refl _⟩
              · refine step_guard rfl fun ρ w2 ho hr hd => ?_
                obtain ⟨h0, _⟩ := hd
                have hgd : ρ (.tmp 75) = .bool true := h0 rfl
                have x0 : ρ (.tmp 12) = .pointer (some ⟨wr.heap.size, 0, none⟩) := (hr.1 12 rfl).trans rfl
                refine ⟨hgd, ?_⟩
                refine does_value (v := .pointer (some ⟨wr.heap.size, 0, none⟩)) (w' := w2) ?_ ⟨rfl, Old.refl _⟩
                unfold execOp
                simp only [x0]
                go_simp
              · refine step_guard rfl fun ρ w2 ho hr hd => ?_
                obtain ⟨h0, h1, _⟩ := hd
                have hgd : ρ (.tmp 75) = .bool true := h1 rfl
                have x0 : ρ (.tmp 76) = .pointer (some ⟨wr.heap.size, 0, none⟩) := h0 rfl
                have q0 := (ho.cell LF.out).trans FF.out.c0
                refine ⟨hgd, ?_⟩
                refine does_value (v := .int .i64 ID) (w' := w2) ?_ ⟨rfl, Old.refl _⟩
                unfold execOp
                simp only [x0]
                go_simp
              · refine step_guard rfl fun ρ w2 ho hr hd => ?_
                obtain ⟨h0, _⟩ := hd
                have hgd : ρ (.tmp 75) = .bool true := h0 rfl
                have x0 : ρ (.tmp 9) = .slice (some ⟨g, o, none⟩) n c := (hr.1 9 rfl).trans rfl
                refine ⟨hgd, ?_⟩
                exact does_move rfl x0 ⟨rfl, Old.refl _⟩
              · refine step_guard rfl fun ρ w2 ho hr hd => ?_
                obtain ⟨h0, _⟩ := hd
                have hgd : ρ (.tmp 75) = .bool true := h0 rfl
                have x0 : ρ (.tmp 11) = .int .i64 (k : Int) := (hr.1 11 rfl).trans rfl
                refine ⟨hgd, ?_⟩
                exact does_move rfl x0 ⟨rfl, Old.refl _⟩
              · refine step_guard rfl fun ρ w2 ho hr hd => ?_
                obtain ⟨h0, h1, _⟩ := hd
                have hgd : ρ (.tmp 75) = .bool true := h1 rfl
                have x0 : ρ (.tmp 79) = .int .i64 (k : Int) := h0 rfl
                have hb : (k : Int) - 1 = (j : Int) := by have := KJ.out; omega
                have hw : IntKind.i64.wrap (j : Int) = (j : Int) := (IntKind.wrap_i64 _).trans (by omega)
                refine ⟨hgd, ?_⟩
                refine does_value (v := .int .i64 (j : Int)) (w' := w2) ?_ ⟨rfl, Old.refl _⟩
                unfold execOp
                simp only [x0, hr.2.1]
                go_simp
              · refine step_guard rfl fun ρ w2 ho hr hd => ?_
                obtain ⟨h0, h1, h2, _⟩ := hd
                have hgd : ρ (.tmp 75) = .bool true := h2 rfl
                have x0 : ρ (.tmp 78) = .slice (some ⟨g, o, none⟩) n c := h0 rfl
                have y0 : ρ (.tmp 80) = .int .i64 (j : Int) := h1 rfl
                refine ⟨hgd, ?_⟩
                refine does_value (v := .pointer (some ⟨g, o + j * 3, none⟩)) (w' := w2) ?_ ⟨rfl, Old.refl _⟩
                unfold execOp
                simp only [x0, y0]
                go_simp
              · refine step_guard rfl fun ρ w2 ho hr hd => ?_
                obtain ⟨h0, h1, _⟩ := hd
                have hgd : ρ (.tmp 75) = .bool true := h1 rfl
                have x0 : ρ (.tmp 81) = .pointer (some ⟨g, o + j * 3, none⟩) := h0 rfl
                refine ⟨hgd, ?_⟩
                refine does_value (v := .pointer (some ⟨g, o + j * 3, none⟩)) (w' := w2) ?_ ⟨rfl, Old.refl _⟩
                unfold execOp
                simp only [x0]
                go_simp
              · refine step_guard rfl fun ρ w2 ho hr hd => ?_
                obtain ⟨h0, h1, _⟩ := hd
                have hgd : ρ (.tmp 75) = .bool true := h1 rfl
                have x0 : ρ (.tmp 82) = .pointer (some ⟨g, o + j * 3, none⟩) := h0 rfl
                have q0 := (ho.cell L3.out).trans C0.out
                refine ⟨hgd, ?_⟩
                refine does_value (v := .int .i64 IDp) (w' := w2) ?_ ⟨rfl, Old.refl _⟩
                unfold execOp
                simp only [x0]
                go_simp
              · refine step_guard rfl fun ρ w2 ho hr hd => ?_
                obtain ⟨h0, h1, h2, _⟩ := hd
                have hgd : ρ (.tmp 75) = .bool true := h2 rfl
                have x0 : ρ (.tmp 77) = .int .i64 ID := h0 rfl
                have y0 : ρ (.tmp 83) = .int .i64 IDp := h1 rfl
                have hb : decide (ID ≤ IDp) = false := decide_eq_false (by omega)
                refine ⟨hgd, ?_⟩
                refine does_value (v := .bool false) (w' := w2) ?_ ⟨rfl, Old.refl _⟩
                unfold execOp
                simp only [x0, y0]
                go_simp
              · refine step_guard rfl fun ρ w2 ho hr hd => ?_
                obtain ⟨h0, h1, h2, _⟩ := hd
                have hgd : ρ (.tmp 72) = .bool false := h2 rfl
                have x0 : ρ (.tmp 75) = .bool true := h0 rfl
                have y0 : ρ (.tmp 84) = .bool false := h1 rfl
                refine ⟨hgd, ?_⟩
                exact does_pick rfl x0 y0 ⟨rfl, Old.refl _⟩
              · refine step_plain rfl fun ρ w2 ho hr hd => ?_
                obtain ⟨h0, h1, _⟩ := hd
                have x0 : ρ (.tmp 72) = .bool false := h0 rfl
                have y0 : ρ (.tmp 85) = .bool false := h1 rfl
                exact does_pick rfl x0 y0 ⟨rfl, Old.refl _⟩
              · refine step_plain rfl fun ρ w2 ho hr hd => ?_
                obtain ⟨h0, h1, _⟩ := hd
                have x0 : ρ (.tmp 86) = .bool false := h0 rfl
                exact does_move rfl x0 ⟨rfl, Old.refl _⟩
              · refine step_guard rfl fun ρ w2 ho hr hd => ?_
                obtain ⟨h0, _⟩ := hd
                have hgd : ρ (.tmp 87) = .bool false := h0 rfl
                have x0 : ρ (.tmp 14) = .bool true := (hr.1 14 rfl).trans rfl
                refine ⟨hgd, ?_⟩
                exact does_move rfl x0 ⟨rfl, Old.refl _⟩
              · refine step_guard rfl fun ρ w2 ho hr hd => ?_
                obtain ⟨h0, h1, _⟩ := hd
                have hgd : ρ (.tmp 87) = .bool false := h1 rfl
                have x0 : ρ (.tmp 88) = .bool true := h0 rfl
                refine ⟨hgd, ?_⟩
                refine does_value (v := .bool false) (w' := w2) ?_ ⟨rfl, Old.refl _⟩
                unfold execOp
                simp only [x0]
                go_simp
              · refine step_plain rfl fun ρ w2 ho hr hd => ?_
                obtain ⟨h0, h1, _⟩ := hd
                have x0 : ρ (.tmp 87) = .bool false := h0 rfl
                have y0 : ρ (.tmp 89) = .bool false := h1 rfl
                exact does_pick rfl x0 y0 ⟨rfl, Old.refl _⟩
              · refine step_plain rfl fun ρ w2 ho hr hd => ?_
                obtain ⟨h0, h1, _⟩ := hd
                have x0 : ρ (.tmp 90) = .bool false := h0 rfl
                exact does_move rfl x0 ⟨rfl, Old.refl _⟩
              · refine step_guard rfl fun ρ w2 ho hr hd => ?_
                obtain ⟨h0, _⟩ := hd
                have hgd : ρ (.tmp 91) = .bool false := h0 rfl
                have x0 : ρ (.tmp 13) = .pointer (some ⟨w5.heap.size, 0, none⟩) := (hr.1 13 rfl).trans rfl
                refine ⟨hgd, ?_⟩
                refine does_value (v := .pointer (some ⟨w5.heap.size, 1, none⟩)) (w' := w2) ?_ ⟨rfl, Old.refl _⟩
                unfold execOp
                simp only [x0]
                go_simp
              · refine step_guard rfl fun ρ w2 ho hr hd => ?_
                obtain ⟨h0, h1, _⟩ := hd
                have hgd : ρ (.tmp 91) = .bool false := h1 rfl
                have x0 : ρ (.tmp 92) = .pointer (some ⟨w5.heap.size, 1, none⟩) := h0 rfl
                have q0 := (ho.cell LG.out).trans FG.out.c1
                refine ⟨hgd, ?_⟩
                refine does_value (v := .int .i64 T) (w' := w2) ?_ ⟨rfl, Old.refl _⟩
                unfold execOp
                simp only [x0]
                go_simp
              · refine step_guard rfl fun ρ w2 ho hr hd => ?_
                obtain ⟨h0, _⟩ := hd
                have hgd : ρ (.tmp 91) = .bool false := h0 rfl
                have x0 : ρ (.tmp 12) = .pointer (some ⟨wr.heap.size, 0, none⟩) := (hr.1 12 rfl).trans rfl
                refine ⟨hgd, ?_⟩
                refine does_value (v := .pointer (some ⟨wr.heap.size, 1, none⟩)) (w' := w2) ?_ ⟨rfl, Old.refl _⟩
                unfold execOp
                simp only [x0]
                go_simp
              · refine step_guard rfl fun ρ w2 ho hr hd => ?_
                obtain ⟨h0, h1, _⟩ := hd
                have hgd : ρ (.tmp 91) = .bool false := h1 rfl
                have x0 : ρ (.tmp 94) = .pointer (some ⟨wr.heap.size, 1, none⟩) := h0 rfl
                have q0 := (ho.cell LF.out).trans FF.out.c1
                refine ⟨hgd, ?_⟩
                refine does_value (v := .int .i64 T) (w' := w2) ?_ ⟨rfl, Old.refl _⟩
                unfold execOp
                simp only [x0]
                go_simp
              · refine step_guard rfl fun ρ w2 ho hr hd => ?_
                obtain ⟨h0, h1, h2, _⟩ := hd
                have hgd : ρ (.tmp 91) = .bool false := h2 rfl
                have x0 : ρ (.tmp 93) = .int .i64 T := h0 rfl
                have y0 : ρ (.tmp 95) = .int .i64 T := h1 rfl
                refine ⟨hgd, ?_⟩
                refine does_value (v := .bool false) (w' := w2) ?_ ⟨rfl, Old.refl _⟩
                unfold execOp
                simp only [x0, y0]
                go_simp
              · refine step_plain rfl fun ρ w2 ho hr hd => ?_
                obtain ⟨h0, h1, _⟩ := hd
                have x0 : ρ (.tmp 91) = .bool false := h0 rfl
                have y0 : ρ (.tmp 96) = .bool false := h1 rfl
                exact does_pick rfl x0 y0 ⟨rfl, Old.refl _⟩
              · refine step_plain rfl fun ρ w2 ho hr hd => ?_
                obtain ⟨h0, h1, _⟩ := hd
                have x0 : ρ (.tmp 97) = .bool false := h0 rfl
                exact does_move rfl x0 ⟨rfl, Old.refl _⟩
              · refine step_guard rfl fun ρ w2 ho hr hd => ?_
                obtain ⟨h0, _⟩ := hd
                have hgd : ρ (.tmp 98) = .bool false := h0 rfl
                have x0 : ρ (.tmp 13) = .pointer (some ⟨w5.heap.size, 0, none⟩) := (hr.1 13 rfl).trans rfl
                refine ⟨hgd, ?_⟩
                refine does_value (v := .pointer (some ⟨w5.heap.size, 2, none⟩)) (w' := w2) ?_ ⟨rfl, Old.refl _⟩
                unfold execOp
                simp only [x0]
                go_simp
              · refine step_guard rfl fun ρ w2 ho hr hd => ?_
                obtain ⟨h0, h1, _⟩ := hd
                have hgd : ρ (.tmp 98) = .bool false := h1 rfl
                have x0 : ρ (.tmp 99) = .pointer (some ⟨w5.heap.size, 2, none⟩) := h0 rfl
                have q0 := (ho.cell LG.out).trans FG.out.c2
                refine ⟨hgd, ?_⟩
                refine does_value (v := .slice oa5 s.length c5) (w' := w2) ?_ ⟨rfl, Old.refl _⟩
                unfold execOp
                simp only [x0]
                go_simp
              · refine step_guard rfl fun ρ w2 ho hr hd => ?_
                obtain ⟨h0, _⟩ := hd
                have hgd : ρ (.tmp 98) = .bool false := h0 rfl
                have x0 : ρ (.tmp 12) = .pointer (some ⟨wr.heap.size, 0, none⟩) := (hr.1 12 rfl).trans rfl
                refine ⟨hgd, ?_⟩
                refine does_value (v := .pointer (some ⟨wr.heap.size, 2, none⟩)) (w' := w2) ?_ ⟨rfl, Old.refl _⟩
                unfold execOp
                simp only [x0]
                go_simp
              · refine step_guard rfl fun ρ w2 ho hr hd => ?_
                obtain ⟨h0, h1, _⟩ := hd
                have hgd : ρ (.tmp 98) = .bool false := h1 rfl
                have x0 : ρ (.tmp 101) = .pointer (some ⟨wr.heap.size, 2, none⟩) := h0 rfl
                have q0 := (ho.cell LF.out).trans FF.out.c2
                refine ⟨hgd, ?_⟩
                refine does_value (v := .slice ua s.length uc) (w' := w2) ?_ ⟨rfl, Old.refl _⟩
                unfold execOp
                simp only [x0]
                go_simp
              · refine step_guard rfl fun ρ w2 ho hr hd => ?_
                obtain ⟨h0, h1, h2, h3, _⟩ := hd
                have hgd : ρ (.tmp 98) = .bool false := h3 rfl
                have x0 : ρ (.tmp 100) = .slice oa5 s.length c5 := h0 rfl
                have x1 : ρ (.tmp 102) = .slice ua s.length uc := h1 rfl
                refine ⟨hgd, ?_⟩
                exact does_call2 rfl (hr.2.2.2 _) x0 x1 rfl ((rself_any s _ _ w2 (VG.out.old ho) (VF.out.old ho)).mono fun e w' h => ⟨_, h.1, rfl, h.2⟩)
              · refine step_guard rfl fun ρ w2 ho hr hd => ?_
                obtain ⟨h0, h1, _⟩ := hd
                have hgd : ρ (.tmp 98) = .bool false := h1 rfl
                have x0 : ρ (.tmp 103) = .bool true := h0 rfl
                refine ⟨hgd, ?_⟩
                refine does_value (v := .bool false) (w' := w2) ?_ ⟨rfl, Old.refl _⟩
                unfold execOp
                simp only [x0]
                go_simp
              · refine step_plain rfl fun ρ w2 ho hr hd => ?_
                obtain ⟨h0, h1, _⟩ := hd
                have x0 : ρ (.tmp 98) = .bool false := h0 rfl
                have y0 : ρ (.tmp 104) = .bool false := h1 rfl
                exact does_pick rfl x0 y0 ⟨rfl, Old.refl _⟩
              · refine step_plain rfl fun ρ w2 ho hr hd => ?_
                obtain ⟨h0, h1, _⟩ := hd
                have x0 : ρ (.tmp 105) = .bool false := h0 rfl
                exact does_move rfl x0 ⟨rfl, Old.refl _⟩
              · refine step_guard rfl fun ρ w2 ho hr hd => ?_
                obtain ⟨h0, _⟩ := hd
                have hgd : ρ (.tmp 106) = .bool false := h0 rfl
                have x0 : ρ (.tmp 7) = .pointer (some ⟨p, 0, none⟩) := (hr.1 7 rfl).trans rfl
                refine ⟨hgd, ?_⟩
                exact does_move rfl x0 ⟨rfl, Old.refl _⟩
              · refine step_guard rfl fun ρ w2 ho hr hd => ?_
                obtain ⟨h0, _⟩ := hd
                have hgd : ρ (.tmp 106) = .bool false := h0 rfl
                have x0 : ρ (.tmp 12) = .pointer (some ⟨wr.heap.size, 0, none⟩) := (hr.1 12 rfl).trans rfl
                refine ⟨hgd, ?_⟩
                refine does_value (v := .pointer (some ⟨wr.heap.size, 1, none⟩)) (w' := w2) ?_ ⟨rfl, Old.refl _⟩
                unfold execOp
                simp only [x0]
                go_simp
              · refine step_guard rfl fun ρ w2 ho hr hd => ?_
                obtain ⟨h0, h1, _⟩ := hd
                have hgd : ρ (.tmp 106) = .bool false := h1 rfl
                have x0 : ρ (.tmp 108) = .pointer (some ⟨wr.heap.size, 1, none⟩) := h0 rfl
                have q0 := (ho.cell LF.out).trans FF.out.c1
                refine ⟨hgd, ?_⟩
                refine does_value (v := .int .i64 T) (w' := w2) ?_ ⟨rfl, Old.refl _⟩
                unfold execOp
                simp only [x0]
                go_simp
              · refine step_guard rfl fun ρ w2 ho hr hd => ?_
                obtain ⟨h0, _⟩ := hd
                have hgd : ρ (.tmp 106) = .bool false := h0 rfl
                have x0 : ρ (.tmp 12) = .pointer (some ⟨wr.heap.size, 0, none⟩) := (hr.1 12 rfl).trans rfl
                refine ⟨hgd, ?_⟩
                refine does_value (v := .pointer (some ⟨wr.heap.size, 2, none⟩)) (w' := w2) ?_ ⟨rfl, Old.refl _⟩
                unfold execOp
                simp only [x0]
                go_simp
              · refine step_guard rfl fun ρ w2 ho hr hd => ?_
                obtain ⟨h0, h1, _⟩ := hd
                have hgd : ρ (.tmp 106) = .bool false := h1 rfl
                have x0 : ρ (.tmp 110) = .pointer (some ⟨wr.heap.size, 2, none⟩) := h0 rfl
                have q0 := (ho.cell LF.out).trans FF.out.c2
                refine ⟨hgd, ?_⟩
                refine does_value (v := .slice ua s.length uc) (w' := w2) ?_ ⟨rfl, Old.refl _⟩
                unfold execOp
                simp only [x0]
                go_simp
              · refine step_guard rfl fun ρ w2 ho hr hd => ?_
                obtain ⟨h0, h1, h2, h3, h4, _⟩ := hd
                have hgd : ρ (.tmp 106) = .bool false := h4 rfl
                have x0 : ρ (.tmp 107) = .pointer (some ⟨p, 0, none⟩) := h0 rfl
                have x1 : ρ (.tmp 109) = .int .i64 T := h1 rfl
                have x2 : ρ (.tmp 111) = .slice ua s.length uc := h2 rfl
                refine ⟨hgd, ?_⟩
                exact does_call3 rfl (hr.2.2.2 _) x0 x1 x2 rfl ((kr_find (MM.out.old ho) XM.out (VF.out.old ho)).mono fun e w' h => ⟨_, h.1, rfl, h.2⟩)
              · refine step_guard rfl fun ρ w2 ho hr hd => ?_
                obtain ⟨h0, _⟩ := hd
                have hgd : ρ (.tmp 106) = .bool false := h0 rfl
                have x0 : ρ (.tmp 12) = .pointer (some ⟨wr.heap.size, 0, none⟩) := (hr.1 12 rfl).trans rfl
                refine ⟨hgd, ?_⟩
                refine does_value (v := .pointer (some ⟨wr.heap.size, 0, none⟩)) (w' := w2) ?_ ⟨rfl, Old.refl _⟩
                unfold execOp
                simp only [x0]
                go_simp
              · refine step_guard rfl fun ρ w2 ho hr hd => ?_
                obtain ⟨h0, h1, _⟩ := hd
                have hgd : ρ (.tmp 106) = .bool false := h1 rfl
                have x0 : ρ (.tmp 113) = .pointer (some ⟨wr.heap.size, 0, none⟩) := h0 rfl
                have q0 := (ho.cell LF.out).trans FF.out.c0
                refine ⟨hgd, ?_⟩
                refine does_value (v := .int .i64 ID) (w' := w2) ?_ ⟨rfl, Old.refl _⟩
                unfold execOp
                simp only [x0]
                go_simp
              · refine step_guard rfl fun ρ w2 ho hr hd => ?_
                obtain ⟨h0, h1, h2, _⟩ := hd
                have hgd : ρ (.tmp 106) = .bool false := h2 rfl
                have x0 : ρ (.tmp 112) = .int .i64 ID := h0 rfl
                have y0 : ρ (.tmp 114) = .int .i64 ID := h1 rfl
                refine ⟨hgd, ?_⟩
                refine does_value (v := .bool false) (w' := w2) ?_ ⟨rfl, Old.refl _⟩
                unfold execOp
                simp only [x0, y0]
                go_simp
              · refine step_plain rfl fun ρ w2 ho hr hd => ?_
                obtain ⟨h0, h1, _⟩ := hd
                have x0 : ρ (.tmp 106) = .bool false := h0 rfl
                have y0 : ρ (.tmp 115) = .bool false := h1 rfl
                exact does_pick rfl x0 y0 ⟨rfl, Old.refl _⟩
            · intro a' w' hoE hst hl
              obtain ⟨_, _, _, _, _, _, _, _, _, _, _, _, _, _, _, _, _, _, _, _, _, _, _, _, _, _, _, _, _, _, _, _, _, _, _, _, _, _, _, _, _, _, _, _, _, _, _, _, _, _, _, _, _, _, k54, _⟩ := hl
              have e54 : a'.eval (.tmp 116) = .bool false := k54
              rw [act_fresh hst [false, false, false, false, false, false, false, false, false, false, false, false, false, false, false, false, false, false, false, false, false, false, false, false, false, false, false, false, false, false, false, false, false, false, false, false, false, false, false, false, false, false, false, false, false, false, false, false, false, false, false, false, false, false, false, false, false, false, false, false, false, false, true, true, true, true, true, true, true, true, true, true, true, true, true, true, true, true, true, true, true, true, true, true, true, true, true, true, true, true, true, true, true, true, true, true, true, true, true, true, true, true, true, true, true, true, true, true, true, true, true, true, true, true, true, true, true, false, false, false, false, false, false, false, false, false, false, false, false, false, false, false, false, false, false, false, false, false, false, false, false, false, false, false] (by kernel_rfl) (by kernel_rfl)]
              simp only [fresh, e54]
              clear hst k54 e54
              have HO2 := Lib.hid (HO.out.trans hoE)
              replace FF := Lib.hid (FF.out.old hoE)
              clear MM XM FG VG VF HO
              have f0 := FF.out.c0
              cases TB
              · go_wp2
                exact ⟨⟨k + 1, HK.out, by first | rfl | simp, by rw [TS.out, TH.out, Bool.false_or], HO2⟩, by simp only [intOf]; omega⟩
              · go_wp2
                exact ⟨⟨k + 1, HK.out, by first | rfl | simp, by rw [TS.out, TH.out, Bool.true_or], HO2⟩, by simp only [intOf]; omega⟩
        · have hkn' : k = n := by omega
          subst hkn'
          have HT : L.take k = L := by rw [HNL.out, List.take_length]
          rw [HT]
          have MM := Lib.hid (HM3.out.old HO.out)
          replace OW := Lib.hid (OW.out.trans HO.out)
          generalize hTB : hasId L id = TB
          have TH := Lib.hid hTB
          clear HT HO HM3 HA hTB
          go_wp2_with (first
            | (go_at_call 18; (with_reducible refine (get_on MM.out id HI.out).mono ?_); rintro e w5 ⟨⟨i5, t5, oa5, m5, c5, rfl⟩, ho⟩; replace MM := Lib.hid ((MM.out.old ho).old ((Old.refl _).alloc (.cells #[.int .i64 i5, .int .i64 t5, .slice oa5 m5 c5] 38))); replace OW := Lib.hid ((OW.out.trans ho).trans ((Old.refl _).alloc (.cells #[.int .i64 i5, .int .i64 t5, .slice oa5 m5 c5] 38))); clear ho; rw [TH.out])
            | (go_at_call 24; (with_reducible refine (len_any MM.out).mono ?_); rintro e w6 ⟨rfl, rfl⟩; rw [← HNL.out])
            | (go_at_call 9; (with_reducible refine (known_any _).mono ?_); rintro e w16 ⟨rfl, ho⟩; have OZ := Lib.hid (OW.out.trans ho); clear ho))
          go_ret
          exact ⟨rfl, OZ.out⟩
end Go.Proofs.Ytfhbnkdibhmmcaa
