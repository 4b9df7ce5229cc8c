/- Layer lexer: the closure of each kind; the kind of the next word. -/
import Derived.Test.YtgmjpcaennmgoaaGreatDoorTE
namespace Go.Proofs.YtgmjpcaennmgoaaGreatDoor
open Go.ChangeShapes Go.WideShapes Go.ChangeAt Go.RowKit Go.Lib
set_option linter.unusedVariables false
set_option linter.unusedSimpArgs false
set_option maxRecDepth 100000

theorem go_none {σ : Type} (a : σ) (l : List UInt8) : goL (fun (_ : σ) _ => (none : Option σ)) a l = 0 := by
  cases l <;> rfl

theorem goes_name (w w1 : World) (b j x : Nat) (s : ByteArray) (L B : Int) (k : Nat) (hp : Rb w1 x b s (j : Int) L B) (ho : Old w w1) (hj : j < s.size) (hk : k = 1 ∨ k = 2 ∨ k = 6) :
    Goes w w1 b s j L B k (.func (.func 88) #[] #[.pointer (some ⟨x, 0, none⟩)]) :=
  ⟨Unit, runS nm, (), _, 88, _, rfl, enters_of Tryz.func88 (by kernel_rfl) rfl, asks_name s x b (j : Int) L B (Old w), fun i a A h => h.1.rd, ⟨hp, ho⟩, fun i a A h => h.2, by
    rw [← drop_tail (by rw [Array.length_toList]; exact hj)]
    unfold endL
    rw [if_pos hk]⟩
theorem goes_sign (w w1 : World) (b j x f : Nat) (s : ByteArray) (L B : Int) (hp : Rb w1 x b s (j : Int) L B) (hf : Boxed w1 f 3 (.int .i64 (j : Int))) (ho : Old w w1) (hs : s.size ≤ 900000) (hj : j < s.size) :
    Goes w w1 b s j L B 7 (.func (.func 92) #[] #[.pointer (some ⟨f, 0, none⟩), .pointer (some ⟨x, 0, none⟩)]) :=
  ⟨Bool, _, true, _, 92, _, rfl, enters_of Tryz.func92 (by kernel_rfl) rfl, asks_sign s x f b j L B (Old w) hs hj, fun i a A h => h.1.1.rd, ⟨⟨hp, hf, (decide_eq_true rfl).symm⟩, ho⟩, fun i a A h => h.2, by
    rw [← drop_tail (by rw [Array.length_toList]; exact hj)]
    rfl⟩
theorem goes_none (w w1 : World) (b j : Nat) (s : ByteArray) (L B : Int) (k : Nat) (hp : Rdr w b s (j : Int) L B) (ho : Old w w1) (hk : k = 0 ∨ k = 3) :
    Goes w w1 b s j L B k (.func (.func 93) #[] #[]) :=
  ⟨Unit, _, (), _, 93, _, rfl, enters_of Tryz.func93 (by kernel_rfl) rfl, asks_none s (Old w), fun i a A h => hp.old h, ho, fun i a A h => h, by
    rw [go_none]
    unfold endL
    rcases hk with rfl | rfl <;> rfl⟩

theorem goesOn_any (w : World) (b j : Nat) (s : ByteArray) (L B : Int) (hr : Rdr w b s (j : Int) L B) (hs : s.size ≤ 900000) (hj : j < s.size) (k : Nat) (hk : k ≤ 7) :
    Calls Tryz.prog 60 #[.pointer (some ⟨b, 0, none⟩), .int .u8 (k : Int)] w fun e w' => ∃ v, e = .returned v ∧ Goes w w' b s j L B k v := by
  have c1 := hr.c1
  have f1 := hr.f 1
  have HR := Lib.hid hr
  have HP := Lib.hid (Rb.new hr)
  have HO := Lib.hid ((Old.refl w).alloc (.cells #[.pointer (some ⟨b, 0, none⟩)] 88))
  clear hr
  have hk8 : k = 0 ∨ k = 1 ∨ k = 2 ∨ k = 3 ∨ k = 4 ∨ k = 5 ∨ k = 6 ∨ k = 7 := by omega
  rcases hk8 with rfl | rfl | rfl | rfl | rfl | rfl | rfl | rfl
  · go_enter Tryz.func60, Tryz.ntmps60
    go_wp2
    go_ret
    exact ⟨_, rfl, goes_none _ _ _ _ _ _ _ _ HR.out HO.out (Or.inl rfl)⟩
  · go_enter Tryz.func60, Tryz.ntmps60
    go_wp2
    go_ret
    exact ⟨_, rfl, goes_name _ _ _ _ _ _ _ _ _ HP.out HO.out hj (by omega)⟩
  · go_enter Tryz.func60, Tryz.ntmps60
    go_wp2
    go_ret
    exact ⟨_, rfl, goes_name _ _ _ _ _ _ _ _ _ HP.out HO.out hj (by omega)⟩
  · go_enter Tryz.func60, Tryz.ntmps60
    go_wp2
    go_ret
    exact ⟨_, rfl, goes_none _ _ _ _ _ _ _ _ HR.out HO.out (Or.inr rfl)⟩
  · have h1 := num_goes _ w b j s L B HP.out.rd HO.out hs hj
    go_enter Tryz.func60, Tryz.ntmps60
    go_wp2_with (go_at_call 90; (with_reducible refine h1.mono ?_); rintro e w1 ⟨v, rfl, hv⟩; have HV := Lib.hid hv; clear hv)
    go_ret
    exact ⟨_, rfl, HV.out⟩
  · have h1 := str_goes _ w b j s L B HP.out.rd HO.out hs hj
    go_enter Tryz.func60, Tryz.ntmps60
    go_wp2_with (go_at_call 91; (with_reducible refine h1.mono ?_); rintro e w1 ⟨v, rfl, hv⟩; have HV := Lib.hid hv; clear hv)
    go_ret
    exact ⟨_, rfl, HV.out⟩
  · go_enter Tryz.func60, Tryz.ntmps60
    go_wp2
    go_ret
    exact ⟨_, rfl, goes_name _ _ _ _ _ _ _ _ _ HP.out HO.out hj (by omega)⟩
  · have hf := Boxed.new (w.alloc (.cells #[.pointer (some ⟨b, 0, none⟩)] 88)) 3 (.int .i64 (j : Int))
    rw [sz_alloc] at hf
    have HF := Lib.hid hf
    have HP2 := Lib.hid (HP.out.old ((Old.refl _).alloc (.cells #[.int .i64 (j : Int)] 3)))
    have HO2 := Lib.hid (HO.out.alloc (.cells #[.int .i64 (j : Int)] 3))
    have d1 := HP.out.rd.c1
    have e1 := HP.out.rd.f 1
    clear hf c1 f1
    go_enter Tryz.func60, Tryz.ntmps60
    go_wp2
    go_ret
    exact ⟨_, rfl, goes_sign _ _ _ _ _ _ _ _ _ HP2.out HF.out HO2.out hs hj⟩

theorem idx_sgn (c : UInt8) : decide (Lib.indexByte [40, 41, 91, 93, 44, 58, 61, 60, 62, 43, 45, 42, 47] c ≥ 0) = sgn c := by
  have h : ∀ (l : List UInt8), decide (Lib.indexByte l c ≥ 0) = l.contains c := by
    intro l
    induction l with
    | nil => rfl
    | cons b l ih =>
      rw [Lib.indexByte, List.contains_cons]
      by_cases hb : b = c
      · subst hb; simp
      · have hbc : (b == c) = false := beq_false_of_ne hb
        have hcb : (c == b) = false := beq_false_of_ne (Ne.symm hb)
        rw [hbc, hcb, Bool.false_or, ← ih]
        have := Lib.indexByte_ge l c
        by_cases h1 : Lib.indexByte l c = -1
        · simp [h1]
        · have h2 : (Lib.indexByte l c == -1) = false := beq_false_of_ne h1
          simp only [h2, Bool.false_eq_true, ↓reduceIte]
          apply decide_eq_decide.2
          omega
  exact h _
theorem sgn_call (c : UInt8) (w : World) : Calls Tryz.prog 86 #[.string ⟨#[40, 41, 91, 93, 44, 58, 61, 60, 62, 43, 45, 42, 47]⟩, .int .u8 (c.toNat : Int)] w fun e w' => e = .returned (.int .i64 (Lib.indexByte [40, 41, 91, 93, 44, 58, 61, 60, 62, 43, 45, 42, 47] c)) ∧ w' = w := by
  have := Tryz.strings_IndexByte ⟨#[40, 41, 91, 93, 44, 58, 61, 60, 62, 43, 45, 42, 47]⟩ (c.toNat : Int) w
  rw [show ((c.toNat : Int).toNat.toUInt8) = c from by simp] at this
  exact this

set_option maxHeartbeats 1600000 in
theorem kind_any (w : World) (b j : Nat) (s : ByteArray) (L B : Int) (hr : Rdr w b s (j : Int) L B) (hs : s.size ≤ 900000) (hj : j < s.size) :
    Calls Tryz.prog 59 #[.pointer (some ⟨b, 0, none⟩)] w fun e w' => e = .returned (.int .u8 (kindL (s.data.toList.drop j) : Int)) ∧ Old w w' := by
  have h2 := fun n => isAt_sm (w.drewN n) b s (j : Int) L B hr (j + 1) (by omega)
  have h3 := fun n => pair_any (w.drewN n) b s (j : Int) L B hr j (by omega)
  simp only [show ((j + 1 : Nat) : Int) = (j : Int) + 1 from by omega] at h2
  have hl : j < s.data.toList.length := by rw [Array.length_toList]; exact hj
  obtain ⟨c, hc⟩ : ∃ c, c = s.data.toList[j] := ⟨_, rfl⟩
  have hx := fun W => idx_any s j c (by rw [hc]; exact List.getElem?_eq_getElem hl) W
  have h1 := fun W => sm_any c W
  have h4 := fun W => dgc_any c W
  have h5 := fun W => sgn_call c W
  have hi := idx_sgn c
  have e : s.data.toList.drop j = c :: s.data.toList.drop (j + 1) := by rw [hc]; exact List.drop_eq_getElem_cons hl
  have c0 := hr.c0
  have f0 := hr.f 0
  have c1 := hr.c1
  have f1 := hr.f 1
  simp only [e] at h3
  rw [e]
  have z1 : (c = 34) = ((c.toNat : Int) = 34) := by simpa using congrArg (fun b => b = true) (u8_eq c 34).symm
  have z2 : (c = 35) = ((c.toNat : Int) = 35) := by simpa using congrArg (fun b => b = true) (u8_eq c 35).symm
  have z3 : (c = 63) = ((c.toNat : Int) = 63) := by simpa using congrArg (fun b => b = true) (u8_eq c 63).symm
  have hk : kindL (c :: s.data.toList.drop (j + 1)) = if sm c then 1 else if dgc c then 4 else if c = 34 then 5 else if c = 35 then 6
    else if c = 63 then (if hd sm (s.data.toList.drop (j + 1)) then 2 else 3) else if sgn c || pair (c :: s.data.toList.drop (j + 1)) then 7 else 0 := rfl
  simp only [z1, z2, z3] at hk
  rw [hk]
  clear hk z1 z2 z3 hr e hc hl
  obtain ⟨ix, hix⟩ : ∃ ix, ix = Lib.indexByte [40, 41, 91, 93, 44, 58, 61, 60, 62, 43, 45, 42, 47] c := ⟨_, rfl⟩
  rw [← hix] at h5 hi
  obtain ⟨v, hv⟩ : ∃ v, v = (c.toNat : Int) := ⟨_, rfl⟩
  rw [← hv] at hx h1 h4 h5 ⊢
  rw [← hi]
  obtain ⟨a1, ha1⟩ : ∃ a, a = sm c := ⟨_, rfl⟩
  obtain ⟨a2, ha2⟩ : ∃ a, a = dgc c := ⟨_, rfl⟩
  obtain ⟨a3, ha3⟩ : ∃ a, a = hd sm (s.data.toList.drop (j + 1)) := ⟨_, rfl⟩
  obtain ⟨a5, ha5⟩ : ∃ a, a = pair (c :: s.data.toList.drop (j + 1)) := ⟨_, rfl⟩
  rw [← ha1] at h1 ⊢
  rw [← ha2] at h4 ⊢
  simp only [← ha3] at h2
  simp only [← ha5] at h3
  rw [← ha3, ← ha5]
  clear ha1 ha2 ha3 ha5 hix hv hi
  cases a1
  case true =>
    go_enter Tryz.func59, Tryz.ntmps59
    go_wp2
    go_quiet (fail)
    go_wp2_with (first
      | (go_at_call 83; (with_reducible refine (h1 _).mono ?_); rintro e w' ⟨rfl, rfl⟩)
      | (go_at_call 84; (with_reducible refine (h4 _).mono ?_); rintro e w' ⟨rfl, rfl⟩)
      | (go_at_call 85; (with_reducible refine (h2 _).mono ?_); rintro e w' ⟨rfl, rfl⟩)
      | (go_at_call 86; (with_reducible refine (h5 _).mono ?_); rintro e w' ⟨rfl, rfl⟩)
      | (go_at_call 87; (with_reducible refine (h3 _).mono ?_); rintro e w' ⟨rfl, rfl⟩))
    go_ret
    exact ⟨rfl, (Old.refl w).drewN _⟩
  case false =>
    cases a2
    case true =>
      go_enter Tryz.func59, Tryz.ntmps59
      go_wp2
      go_quiet (fail)
      go_wp2_with (first
        | (go_at_call 83; (with_reducible refine (h1 _).mono ?_); rintro e w' ⟨rfl, rfl⟩)
        | (go_at_call 84; (with_reducible refine (h4 _).mono ?_); rintro e w' ⟨rfl, rfl⟩)
        | (go_at_call 85; (with_reducible refine (h2 _).mono ?_); rintro e w' ⟨rfl, rfl⟩)
        | (go_at_call 86; (with_reducible refine (h5 _).mono ?_); rintro e w' ⟨rfl, rfl⟩)
        | (go_at_call 87; (with_reducible refine (h3 _).mono ?_); rintro e w' ⟨rfl, rfl⟩))
      go_ret
      exact ⟨rfl, (Old.refl w).drewN _⟩
    case false =>
      by_cases v1 : v = 34
      · subst v1
        go_enter Tryz.func59, Tryz.ntmps59
        go_wp2
        go_quiet (fail)
        go_wp2_with (first
          | (go_at_call 83; (with_reducible refine (h1 _).mono ?_); rintro e w' ⟨rfl, rfl⟩)
          | (go_at_call 84; (with_reducible refine (h4 _).mono ?_); rintro e w' ⟨rfl, rfl⟩)
          | (go_at_call 85; (with_reducible refine (h2 _).mono ?_); rintro e w' ⟨rfl, rfl⟩)
          | (go_at_call 86; (with_reducible refine (h5 _).mono ?_); rintro e w' ⟨rfl, rfl⟩)
          | (go_at_call 87; (with_reducible refine (h3 _).mono ?_); rintro e w' ⟨rfl, rfl⟩))
        go_ret
        exact ⟨rfl, (Old.refl w).drewN _⟩
      by_cases v2 : v = 35
      · subst v2
        go_enter Tryz.func59, Tryz.ntmps59
        go_wp2
        go_quiet (fail)
        go_wp2_with (first
          | (go_at_call 83; (with_reducible refine (h1 _).mono ?_); rintro e w' ⟨rfl, rfl⟩)
          | (go_at_call 84; (with_reducible refine (h4 _).mono ?_); rintro e w' ⟨rfl, rfl⟩)
          | (go_at_call 85; (with_reducible refine (h2 _).mono ?_); rintro e w' ⟨rfl, rfl⟩)
          | (go_at_call 86; (with_reducible refine (h5 _).mono ?_); rintro e w' ⟨rfl, rfl⟩)
          | (go_at_call 87; (with_reducible refine (h3 _).mono ?_); rintro e w' ⟨rfl, rfl⟩))
        go_ret
        exact ⟨rfl, (Old.refl w).drewN _⟩
      by_cases v3 : v = 63
      · subst v3
        cases a3
        all_goals
          go_enter Tryz.func59, Tryz.ntmps59
          go_wp2
          go_quiet (fail)
          go_wp2_with (first
            | (go_at_call 83; (with_reducible refine (h1 _).mono ?_); rintro e w' ⟨rfl, rfl⟩)
            | (go_at_call 84; (with_reducible refine (h4 _).mono ?_); rintro e w' ⟨rfl, rfl⟩)
            | (go_at_call 85; (with_reducible refine (h2 _).mono ?_); rintro e w' ⟨rfl, rfl⟩)
            | (go_at_call 86; (with_reducible refine (h5 _).mono ?_); rintro e w' ⟨rfl, rfl⟩)
            | (go_at_call 87; (with_reducible refine (h3 _).mono ?_); rintro e w' ⟨rfl, rfl⟩))
          go_ret
          exact ⟨rfl, (Old.refl w).drewN _⟩
      rw [if_neg v1, if_neg v2, if_neg v3]
      by_cases v4 : ix ≥ 0
      · rw [decide_eq_true v4]
        go_enter Tryz.func59, Tryz.ntmps59
        go_wp2
        go_quiet (fail)
        go_wp2_with (first
          | (go_at_call 83; (with_reducible refine (h1 _).mono ?_); rintro e w' ⟨rfl, rfl⟩)
          | (go_at_call 84; (with_reducible refine (h4 _).mono ?_); rintro e w' ⟨rfl, rfl⟩)
          | (go_at_call 85; (with_reducible refine (h2 _).mono ?_); rintro e w' ⟨rfl, rfl⟩)
          | (go_at_call 86; (with_reducible refine (h5 _).mono ?_); rintro e w' ⟨rfl, rfl⟩)
          | (go_at_call 87; (with_reducible refine (h3 _).mono ?_); rintro e w' ⟨rfl, rfl⟩))
        go_ret
        exact ⟨rfl, (Old.refl w).drewN _⟩
      · rw [decide_eq_false v4]
        cases a5
        all_goals
          go_enter Tryz.func59, Tryz.ntmps59
          go_wp2
          go_quiet (fail)
          go_wp2_with (first
            | (go_at_call 83; (with_reducible refine (h1 _).mono ?_); rintro e w' ⟨rfl, rfl⟩)
            | (go_at_call 84; (with_reducible refine (h4 _).mono ?_); rintro e w' ⟨rfl, rfl⟩)
            | (go_at_call 85; (with_reducible refine (h2 _).mono ?_); rintro e w' ⟨rfl, rfl⟩)
            | (go_at_call 86; (with_reducible refine (h5 _).mono ?_); rintro e w' ⟨rfl, rfl⟩)
            | (go_at_call 87; (with_reducible refine (h3 _).mono ?_); rintro e w' ⟨rfl, rfl⟩))
          go_ret
          exact ⟨rfl, (Old.refl w).drewN _⟩
end Go.Proofs.YtgmjpcaennmgoaaGreatDoor
