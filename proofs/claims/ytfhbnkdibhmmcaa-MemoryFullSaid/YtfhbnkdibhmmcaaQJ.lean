/- Layer memory: a memory that is filled to its limit (MemoryFull). -/
import Derived.Test.YtfhbnkdibhmmcaaQI
namespace Go.Proofs.Ytfhbnkdibhmmcaa
open Go.ChangeShapes Go.WideShapes Go.ChangeAt Go.RowKit Go.Lib
set_option linter.unusedVariables false
set_option linter.unusedSimpArgs false
set_option maxRecDepth 100000

/-- The values of the i-th fact. -/
def sI (i : Int) : List Vl := [⟨1, i, ⟨#[]⟩⟩]
def ftI (i : Nat) : Ft := ⟨(i : Int) + 1, 0, sI (i : Int)⟩
def FL (n : Nat) : List Ft := (List.range n).map ftI
theorem sI_inj {i j : Int} (h : sI i = sI j) : i = j := by
  unfold sI at h
  injection h with h _
  injection h
theorem FL_len (n : Nat) : (FL n).length = n := by simp [FL]
theorem FL_more (n : Nat) : FL n ++ [⟨(n : Int) + 1, 0, sI (n : Int)⟩] = FL (n + 1) := by
  unfold FL
  rw [List.range_succ, List.map_append]
  rfl
theorem FL_mem {n : Nat} {x : Ft} (h : x ∈ FL n) : ∃ i, i < n ∧ x = ftI i := by
  obtain ⟨i, hi, rfl⟩ := List.mem_map.1 h
  exact ⟨i, List.mem_range.1 hi, rfl⟩
theorem find_first {L : List Ft} {q : Ft → Bool} {y : Ft} (hy : y ∈ L) (hq : q y = true) (hu : ∀ x ∈ L, q x = true → x = y) : L.find? q = some y := by
  cases h : L.find? q with
  | none => rw [List.find?_eq_none] at h; exact absurd hq (h y hy)
  | some x => rw [hu x (List.mem_of_find?_eq_some h) (List.find?_some h)]
theorem find_none {L : List Ft} {q : Ft → Bool} (hu : ∀ x ∈ L, q x = false) : L.find? q = none := by
  rw [List.find?_eq_none]
  intro x hx
  rw [hu x hx]
  decide
theorem idOf_at {L : List Ft} {y : Ft} {t : Int} {s : List Vl} (hy : y ∈ L) (ht : y.t = t) (hs : y.l = s) (hu : ∀ x ∈ L, x.t = t → x.l = s → x = y) : idOf L t s = y.id := by
  unfold idOf
  rw [find_first hy (decide_eq_true ⟨ht, hs⟩) (fun x hx h => hu x hx (of_decide_eq_true h).1 (of_decide_eq_true h).2)]
theorem idOf_none {L : List Ft} {t : Int} {s : List Vl} (hu : ∀ x ∈ L, ¬ x.l = s) : idOf L t s = 0 := by
  unfold idOf
  rw [find_none (fun x hx => decide_eq_false (fun h => hu x hx h.2))]
theorem getOf_at {L : List Ft} {y : Ft} (hy : y ∈ L) (hu : ∀ x ∈ L, x.id = y.id → x = y) : getOf L y.id = some y :=
  find_first hy (decide_eq_true rfl) (fun x hx h => hu x hx (of_decide_eq_true h))

theorem fl_find {n i : Nat} (h : i < n) : idOf (FL n) 0 (sI (i : Int)) = (i : Int) + 1 :=
  idOf_at (y := ftI i) (List.mem_map.2 ⟨i, List.mem_range.2 h, rfl⟩) rfl rfl (fun x hx _ hl => by
    obtain ⟨j, _, rfl⟩ := FL_mem hx
    have := sI_inj hl
    have : j = i := by omega
    rw [this])
theorem fl_none (n : Nat) : idOf (FL n) 0 (sI (n : Int)) = 0 := idOf_none (fun x hx e => by
  obtain ⟨j, hj, rfl⟩ := FL_mem hx
  have := sI_inj e
  omega)
theorem fl_get {n i : Nat} (h : i < n) : getOf (FL n) ((i : Int) + 1) = some (ftI i) :=
  getOf_at (y := ftI i) (List.mem_map.2 ⟨i, List.mem_range.2 h, rfl⟩) (fun x hx hl => by
    obtain ⟨j, _, rfl⟩ := FL_mem hx
    have : (j : Int) + 1 = (i : Int) + 1 := hl
    have : j = i := by omega
    rw [this])
theorem gl_mem {n i : Nat} {x : Ft} (h : x ∈ delOf (FL n) ((i : Int) + 1)) : ∃ j, j < n ∧ j ≠ i ∧ x = ftI j := by
  unfold delOf at h
  obtain ⟨h1, h2⟩ := List.mem_filter.1 h
  obtain ⟨j, hj, rfl⟩ := FL_mem h1
  refine ⟨j, hj, fun e => ?_, rfl⟩
  subst e
  have := of_decide_eq_true h2
  exact this rfl
theorem gl_len {n i : Nat} (h : i < n) : (delOf (FL n) ((i : Int) + 1)).length + 1 = n := by
  unfold delOf FL
  rw [List.filter_map, List.length_map]
  have : ∀ n, i < n → ((List.range n).filter ((fun x => decide (x.id ≠ (i : Int) + 1)) ∘ ftI)).length + 1 = n := by
    intro n
    induction n with
    | zero => intro h; omega
    | succ k ih =>
      intro h
      rw [List.range_succ, List.filter_append, List.length_append]
      by_cases e : i = k
      · subst e
        have h1 : (List.range i).filter ((fun x => decide (x.id ≠ (i : Int) + 1)) ∘ ftI) = List.range i := by
          rw [List.filter_eq_self]
          intro a ha
          have := List.mem_range.1 ha
          show decide ((a : Int) + 1 ≠ (i : Int) + 1) = true
          rw [decide_eq_true_eq]
          omega
        rw [h1]
        simp [ftI]
      · have := ih (by omega)
        have h2 : [k].filter ((fun x => decide (x.id ≠ (i : Int) + 1)) ∘ ftI) = [k] := by
          rw [List.filter_eq_self]
          intro a ha
          rw [List.mem_singleton] at ha
          subst ha
          show decide ((a : Int) + 1 ≠ (i : Int) + 1) = true
          rw [decide_eq_true_eq]
          omega
        rw [h2, List.length_singleton]
        omega
  exact this n h
theorem gl_none {n i : Nat} : idOf (delOf (FL n) ((i : Int) + 1)) 0 (sI (n : Int)) = 0 := idOf_none (fun x hx e => by
  obtain ⟨j, hj, _, rfl⟩ := gl_mem hx
  have := sI_inj e
  omega)
theorem gl_get {n i : Nat} : getOf (delOf (FL n) ((i : Int) + 1)) ((i : Int) + 1) = none := find_none (fun x hx => by
  obtain ⟨j, _, hj, rfl⟩ := gl_mem hx
  refine decide_eq_false (fun e => ?_)
  have : (j : Int) + 1 = (i : Int) + 1 := e
  omega)
/-- One went, one came. -/
def HL (n i : Nat) : List Ft := delOf (FL n) ((i : Int) + 1) ++ [⟨(n : Int) + 1, 0, sI (n : Int)⟩]
theorem hl_mem {n i : Nat} {x : Ft} (h : x ∈ HL n i) : (∃ j, j < n ∧ j ≠ i ∧ x = ftI j) ∨ x = ftI n := by
  rcases List.mem_append.1 h with h | h
  · exact Or.inl (gl_mem h)
  · rw [List.mem_singleton] at h
    exact Or.inr h
theorem hl_none {n i : Nat} (h : i < n) : idOf (HL n i) 0 (sI (i : Int)) = 0 := idOf_none (fun x hx e => by
  rcases hl_mem hx with ⟨j, hj, hn, rfl⟩ | rfl
  · have := sI_inj e
    omega
  · have := sI_inj e
    omega)
theorem hl_find {n i : Nat} : idOf (HL n i) 0 (sI (n : Int)) = (n : Int) + 1 :=
  idOf_at (y := ftI n) (List.mem_append.2 (Or.inr (List.mem_singleton.2 rfl))) rfl rfl (fun x hx _ hl => by
    rcases hl_mem hx with ⟨j, hj, hn, rfl⟩ | rfl
    · have := sI_inj hl
      omega
    · rfl)

/-- The closure that tells the i-th values. -/
theorem cl_any (i : Int) (w : World) : Calls Try.prog 27 #[.int .i64 i] w fun e w' => (∃ b, e = .returned (.slice (some ⟨b, 0, none⟩) 1 1) ∧ VR w' (.slice (some ⟨b, 0, none⟩) 1 1) (sI i)) ∧ Old w w' := by
  go_enter Try.func27, Try.ntmps27
  go_wp2
  go_ret
  exact ⟨⟨w.heap.size, rfl, one_vr (MapKept.heap_alloc w (.cells #[.int .u8 1, .int .i64 i, .string ⟨#[]⟩] 45)).1 (Nat.zero_le _)⟩, (Old.refl w).alloc _⟩

theorem Fb.chg {S : Nat → Prop} {w w' : World} {g : Nat} {x y z : Value} (h : Fb w g x y z) (hc : Chg S w w') (hs : ¬ S g) : Fb w' g x y z := (hc.block g (blk_lt h) hs).trans h
abbrev ad (p : Nat) : Value := .pointer (some ⟨p, 0, none⟩)
abbrev r3 (i : Int) (b : Bool) (e : Int) : Ending := .returned (.tuple #[.int .i64 i, .bool b, .int .i64 e])
theorem kf1 {W : World} {p b n k : Nat} {u : Value} (hm : Mem W p b n k (FL k)) (hu : VR W u (sI (k : Int))) (hk : k < n) (hn : n ≤ 200) : Calls Try.prog 11 #[ad p, .int .i64 0, u] W fun e w' => e = r3 ((k : Int) + 1) true 0 ∧ Mem w' p b n (k + 1) (FL (k + 1)) ∧ Chg (fun k => k = p ∨ k = b) W w' := by
  refine (add_new hm 0 u _ hu (by simp [sI]) (fl_none k) (by rw [FL_len]; exact hk) (by omega)).mono ?_
  rintro e w' ⟨rfl, h2, h3⟩
  refine ⟨rfl, ?_, h3⟩
  rw [← FL_more]
  exact h2
theorem kfA {W : World} {p b n m : Nat} {u : Value} (hm : Mem W p b n n (FL n)) (hu : VR W u (sI (m : Int))) (hk : m < n) {q : Int} (hq : (1 : Int) + (m : Int) = q) : Calls Try.prog 11 #[ad p, .int .i64 0, u] W fun e w' => e = r3 q false 0 ∧ Old W w' := by
  have hq' : q = (m : Int) + 1 := by omega
  subst hq'
  have := add_old hm 0 u _ hu (by rw [fl_find hk]; omega)
  rw [fl_find hk] at this
  exact this
theorem kfB {W : World} {p b n : Nat} {u : Value} (hm : Mem W p b n n (FL n)) (hu : VR W u (sI (n : Int))) : Calls Try.prog 11 #[ad p, .int .i64 0, u] W fun e w' => e = r3 0 false 7 ∧ Old W w' :=
  add_full hm 0 u _ hu (fl_none n) (by rw [FL_len]; exact Nat.le_refl n)
theorem kfC {W : World} {p b n m : Nat} (hm : Mem W p b n n (FL n)) (hk : m < n) (hn : n ≤ 200) {q : Int} (hq : (1 : Int) + (m : Int) = q) : Calls Try.prog 13 #[ad p, .int .i64 q] W fun e w' => (∃ oa c, e = .returned (.tuple #[fv q 0 (.slice oa 1 c), .bool true])) ∧ Mem w' p b n n (delOf (FL n) ((m : Int) + 1)) ∧ Chg (fun k => k = p ∨ k = b) W w' := by
  have hq' : q = (m : Int) + 1 := by omega
  subst hq'
  refine (remove_any hm ((m : Int) + 1) (by unfold I64; omega)).mono ?_
  rintro e w' ⟨⟨u, rfl, hf⟩, h2, h3⟩
  rw [fl_get hk] at hf ⊢
  obtain ⟨v, rfl, hv, _⟩ := hf
  obtain ⟨oa, c, rfl⟩ := own_shape hv
  exact ⟨⟨oa, c, rfl⟩, h2, chgB p h3⟩
theorem kfD {W : World} {p b n m : Nat} (hm : Mem W p b n n (delOf (FL n) ((m : Int) + 1))) (hk : m < n) (hn : n ≤ 200) {q : Int} (hq : (1 : Int) + (m : Int) = q) : Calls Try.prog 13 #[ad p, .int .i64 q] W fun e w' => (∃ oa c, e = .returned (.tuple #[fv 0 0 (.slice oa 0 c), .bool false])) ∧ Mem w' p b n n (delOf (FL n) ((m : Int) + 1)) ∧ Chg (fun k => k = p ∨ k = b) W w' := by
  have hq' : q = (m : Int) + 1 := by omega
  subst hq'
  refine (remove_any hm ((m : Int) + 1) (by unfold I64; omega)).mono ?_
  rintro e w' ⟨⟨u, rfl, hf⟩, h2, h3⟩
  rw [gl_get] at hf ⊢
  obtain ⟨v, rfl, hv, _⟩ := hf
  obtain ⟨oa, c, rfl⟩ := own_shape hv
  rw [delOf_no (by rw [gl_get]; rfl)] at h2
  exact ⟨⟨oa, c, rfl⟩, h2, chgB p h3⟩
theorem kfE {W : World} {p b n m : Nat} {u : Value} (hm : Mem W p b n n (delOf (FL n) ((m : Int) + 1))) (hu : VR W u (sI (n : Int))) (hk : m < n) (hn : n ≤ 200) : Calls Try.prog 11 #[ad p, .int .i64 0, u] W fun e w' => e = r3 ((n : Int) + 1) true 0 ∧ Mem w' p b n (n + 1) (HL n m) ∧ Chg (fun k => k = p ∨ k = b) W w' :=
  add_new hm 0 u _ hu (by simp [sI]) gl_none (by have := gl_len hk; omega) (by omega)
theorem kfF {W : World} {p b n m : Nat} {u : Value} (hm : Mem W p b n (n + 1) (HL n m)) (hu : VR W u (sI (m : Int))) (hk : m < n) : Calls Try.prog 11 #[ad p, .int .i64 0, u] W fun e w' => e = r3 0 false 7 ∧ Old W w' :=
  add_full hm 0 u _ hu (hl_none hk) (by unfold HL; rw [List.length_append, List.length_singleton, gl_len hk]; exact Nat.le_refl n)
theorem kfG {W : World} {p b n m : Nat} {u : Value} (hm : Mem W p b n (n + 1) (HL n m)) (hu : VR W u (sI (m : Int))) (hk : m < n) : Calls Try.prog 21 #[ad p, .int .i64 0, u] W fun e w' => e = .returned (.int .i64 0) ∧ Old W w' := by
  have := find_any hm 0 u _ hu
  rw [hl_none hk] at this
  exact this
theorem kfH {W : World} {p b n m : Nat} {u : Value} (hm : Mem W p b n (n + 1) (HL n m)) (hu : VR W u (sI (n : Int))) : Calls Try.prog 21 #[ad p, .int .i64 0, u] W fun e w' => e = .returned (.int .i64 ((n : Int) + 1)) ∧ Old W w' := by
  have := find_any hm 0 u _ hu
  rw [hl_find] at this
  exact this
theorem kfL {W : World} {p b n : Nat} (hm : Mem W p b n n (FL n)) : Calls Try.prog 24 #[ad p] W fun e w' => e = .returned (.int .i64 (n : Int)) ∧ W = w' := by
  have := len_any hm
  rw [FL_len] at this
  exact this

set_option maxHeartbeats 1600000 in
theorem full_any (a c : Int) (w : World) (ha : 0 ≤ a ∧ a ≤ 255) (hc : 0 ≤ c ∧ c ≤ 255) : Calls Try.prog 6 #[.int .u8 a, .int .u8 c] w fun e w' => e = .returned (.bool true) ∧ Old w w' := by
  obtain ⟨n, hn, hn1, hn2⟩ : ∃ n : Nat, (1 : Int) + a % 200 = (n : Int) ∧ 1 ≤ n ∧ n ≤ 200 := ⟨((1 : Int) + a % 200).toNat, by omega, by omega, by omega⟩
  obtain ⟨m, hm, hmn⟩ : ∃ m : Nat, c % (n : Int) = (m : Int) ∧ m < n := ⟨(c % (n : Int)).toNat, by have := Int.emod_nonneg c (b := (n : Int)) (by omega); omega, by have := Int.emod_nonneg c (b := (n : Int)) (by omega); have := Int.emod_lt_of_pos c (b := (n : Int)) (by omega); omega⟩
  have hnew := new_any n hn1 hn2 w
  have HW := Lib.hid (by omega : ∀ k, (k = w.heap.size + 1 ∨ k = w.heap.size) → w.heap.size ≤ k)
  have HN := Lib.hid hn2
  have HMN := Lib.hid hmn
  have i1 : (1 : Int) ≤ (n : Int) := by omega
  have i2 : (n : Int) ≤ 200 := by omega
  have i3 : (m : Int) < (n : Int) := by omega
  have i4 : (0 : Int) ≤ (m : Int) := by omega
  obtain ⟨q, hq⟩ : ∃ q : Int, (1 : Int) + (m : Int) = q := ⟨_, rfl⟩
  have HQ := Lib.hid hq
  have hq1 : q - 1 = (m : Int) := by omega
  have i5 : (1 : Int) ≤ q := by omega
  have i6 : q ≤ 200 := by omega
  clear hn1 hn2 hmn
  go_enter Try.func6, Try.ntmps6
  go_wp2_with (go_at_call 10; (with_reducible refine hnew.mono ?_); rintro e w1 ⟨rfl, hM, ho⟩; have MM := Lib.hid hM; have HO := Lib.hid ho; clear hM ho)
  go_loopw [39] (fun i wr => ∃ k : Nat, k ≤ n ∧ i = .int .i64 (k : Int) ∧ Hid (Mem wr (w.heap.size + 1) w.heap.size n k (FL k)) ∧ Hid (Old w wr)) (fun i _ => (n - intOf i).toNat)
  case atStart => exact ⟨0, Nat.zero_le _, rfl, MM, HO⟩
  case round =>
    obtain ⟨k, hk, rfl, MM, HO⟩ := hrel
    by_cases hkn : k < n
    · have HK := Lib.hid hkn
      go_wp2_with (first
        | (go_at_call 27; (with_reducible refine (cl_any _ _).mono ?_); rintro e w2 ⟨⟨bb, rfl, hv⟩, ho⟩; replace MM := Lib.hid (MM.out.old ho); replace HO := Lib.hid (HO.out.trans ho); have VV := Lib.hid hv; clear hv ho)
        | (go_at_call 11; (with_reducible refine (kf1 MM.out VV.out HK.out HN.out).mono ?_); rintro e w3 ⟨rfl, hM, hC⟩; have MM3 := Lib.hid hM; have HO3 := Lib.hid (hC.old HO.out HW.out); clear hM hC))
      exact ⟨⟨k + 1, by omega, by simp, MM3, HO3⟩, by simp only [intOf]; omega⟩
    · have hkn' : k = n := by omega
      subst hkn'
      go_wp2_with (first
        | (go_at_call 27; (with_reducible refine (cl_any _ _).mono ?_); rintro e w2 ⟨⟨bb, rfl, hv⟩, ho⟩; replace MM := Lib.hid (MM.out.old ho); replace HO := Lib.hid (HO.out.trans ho); have VV := Lib.hid hv; (try replace BB := Lib.hid (BB.out.old ho)); clear hv ho)
        | (go_at_call 11; first
          | ((with_reducible refine (kfA MM.out VV.out HMN.out HQ.out).mono ?_); rintro e w3 ⟨rfl, ho⟩; replace MM := Lib.hid (MM.out.old ho); replace HO := Lib.hid (HO.out.trans ho); clear ho VV)
          | ((with_reducible refine (kfB MM.out VV.out).mono ?_); rintro e w3 ⟨rfl, ho⟩; replace MM := Lib.hid (MM.out.old ho); replace HO := Lib.hid (HO.out.trans ho); clear ho VV)
          | ((with_reducible refine (kfE MM.out VV.out HMN.out HN.out).mono ?_); rintro e w3 ⟨rfl, hM, hC⟩; replace MM := Lib.hid hM; replace HO := Lib.hid (hC.old HO.out HW.out); replace BB := Lib.hid (BB.out.chg hC BL.out); clear hM hC VV)
          | ((with_reducible refine (kfF MM.out VV.out HMN.out).mono ?_); rintro e w3 ⟨rfl, ho⟩; replace MM := Lib.hid (MM.out.old ho); replace HO := Lib.hid (HO.out.trans ho); replace BB := Lib.hid (BB.out.old ho); clear ho VV; have b0 := BB.out.c0))
        | (go_at_call 13; first
          | ((with_reducible refine (kfC MM.out HMN.out HN.out HQ.out).mono ?_); rintro e w3 ⟨⟨oa3, c3, rfl⟩, hM, hC⟩; have BB := Lib.hid (Fb.new w3 (.int .i64 q) (.int .i64 0) (.slice oa3 1 c3)); have BL := Lib.hid (show ¬ (w3.heap.size = w.heap.size + 1 ∨ w3.heap.size = w.heap.size) by have := hM.lt; omega); replace MM := Lib.hid (hM.old ((Old.refl _).alloc (.cells #[.int .i64 q, .int .i64 0, .slice oa3 1 c3] 38))); replace HO := Lib.hid ((hC.old HO.out HW.out).alloc (.cells #[.int .i64 q, .int .i64 0, .slice oa3 1 c3] 38)); clear hM hC)
          | ((with_reducible refine (kfD MM.out HMN.out HN.out HQ.out).mono ?_); rintro e w4 ⟨⟨oa4, c4, rfl⟩, hM, hC⟩; replace BB := Lib.hid ((BB.out.chg hC BL.out).alloc (.cells #[.int .i64 0, .int .i64 0, .slice oa4 0 c4] 38)); replace MM := Lib.hid (hM.old ((Old.refl _).alloc (.cells #[.int .i64 0, .int .i64 0, .slice oa4 0 c4] 38))); replace HO := Lib.hid ((hC.old HO.out HW.out).alloc (.cells #[.int .i64 0, .int .i64 0, .slice oa4 0 c4] 38)); clear hM hC))
        | (go_at_call 24; (with_reducible refine (kfL MM.out).mono ?_); rintro e w3 ⟨rfl, rfl⟩)
        | (go_at_call 25; (with_reducible refine (last_any MM.out).mono ?_); rintro e w3 ⟨rfl, rfl⟩)
        | (go_at_call 21; first
          | ((with_reducible refine (kfG MM.out VV.out HMN.out).mono ?_); rintro e w3 ⟨rfl, ho⟩; replace MM := Lib.hid (MM.out.old ho); replace HO := Lib.hid (HO.out.trans ho); clear ho VV)
          | ((with_reducible refine (kfH MM.out VV.out).mono ?_); rintro e w3 ⟨rfl, ho⟩; replace MM := Lib.hid (MM.out.old ho); replace HO := Lib.hid (HO.out.trans ho); clear ho VV))
        | (go_at_call 9; (with_reducible refine (known_any _).mono ?_); rintro e w5 ⟨rfl, ho⟩; replace HO := Lib.hid (HO.out.trans ho); clear ho))
      go_ret
      exact ⟨rfl, HO.out⟩

end Go.Proofs.Ytfhbnkdibhmmcaa
