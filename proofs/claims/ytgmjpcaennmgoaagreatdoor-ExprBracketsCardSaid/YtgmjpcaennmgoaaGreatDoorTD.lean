/- Layer lexer: the closures that say how far a word goes; its kind. -/
import Derived.Test.YtgmjpcaennmgoaaGreatDoorTC
namespace Go.Proofs.YtgmjpcaennmgoaaGreatDoor
open Go.ChangeShapes Go.WideShapes Go.ChangeAt Go.RowKit Go.Lib
set_option linter.unusedVariables false
set_option linter.unusedSimpArgs false
set_option maxRecDepth 100000

theorem drop_get {l : List UInt8} {i : Nat} {c : UInt8} {r : List UInt8} (h : l.drop i = c :: r) : l[i]? = some c := by
  have := congrArg (·[0]?) h
  simpa using this

theorem pair_any (w : World) (b : Nat) (s : ByteArray) (j L B : Int) (hr : Rdr w b s j L B) (i : Nat) (hi : i ≤ 1000000) :
    Calls Tryz.prog 87 #[.pointer (some ⟨b, 0, none⟩), .int .i64 (i : Int)] w fun e w' => e = .returned (.bool (pair (s.data.toList.drop i))) ∧ w = w' := by
  have c0 := hr.c0
  have f0 := hr.f 0
  rcases Nat.lt_or_ge (i + 1) s.size with h | h
  · have h1 : i < s.data.toList.length := by rw [Array.length_toList]; exact Nat.lt_of_succ_lt h
    have h2 : i + 1 < s.data.toList.length := by rw [Array.length_toList]; exact h
    obtain ⟨x, hx⟩ : ∃ x, x = s.data.toList[i] := ⟨_, rfl⟩
    obtain ⟨y, hy⟩ : ∃ y, y = s.data.toList[i + 1] := ⟨_, rfl⟩
    have e : s.data.toList.drop i = x :: y :: s.data.toList.drop (i + 1 + 1) := by
      rw [List.drop_eq_getElem_cons h1, List.drop_eq_getElem_cons h2, hx, hy]
    have hs : s.extract i (i + 2) = ⟨#[x, y]⟩ := by
      apply ba_ext
      rw [Lib.extract_toList, ByteArray.toList_eq, e]
      have : i + 2 - i = 2 := by omega
      rw [this]
      rfl
    obtain ⟨z, hz⟩ : ∃ z : ByteArray, z = ⟨#[x, y]⟩ := ⟨_, rfl⟩
    have hsl : ∀ W, (Instr.slice 9 (.string s) (some (.int .i64 (i : Int))) (some (.int .i64 ((i : Int) + 2))) none).run Tryz.prog W = .ok (.string z) W := fun W => by
      rw [run_slice_string W 9 s .i64 .i64 (i : Int) ((i : Int) + 2) Tryz.underlying9 (by omega) (by omega) (by omega), hz, ← hs]
      congr 4
    have hp : pair (s.data.toList.drop i) = ((z.toList == [60, 61]) || (z.toList == [62, 61]) || (z.toList == [60, 62]) || (z.toList == [46, 46])) := by
      rw [e, hz, ByteArray.toList_eq]
      simp [pair, Bool.and_true]
    rw [hp]
    clear e hx hy h1 h2 hs hz hp
    go_enter Tryz.func87, Tryz.ntmps87
    go_wp2_with fail
    all_goals (go_ret; exact ⟨rb _ _ (by simp_all), rfl⟩)
  · have e : pair (s.data.toList.drop i) = false := by
      have hl : (s.data.toList.drop i).length ≤ 1 := by rw [List.length_drop, Array.length_toList]; have : s.data.size = s.size := rfl; omega
      match s.data.toList.drop i, hl with
      | [], _ => rfl
      | [x], _ => rfl
      | x :: y :: r, hl => simp at hl
    rw [e]
    clear e
    go_enter Tryz.func87, Tryz.ntmps87
    go_wp2
    go_ret
    exact ⟨rfl, rfl⟩

/-- A reader's pointer in a box, and the reader. -/
structure Rb (W : World) (x b : Nat) (s : ByteArray) (j L B : Int) : Prop where
  box : Boxed W x 88 (.pointer (some ⟨b, 0, none⟩))
  rd : Rdr W b s j L B

theorem runS_some (p : UInt8 → Bool) (a : Unit) (c : UInt8) (r : List UInt8) : (runS p a (c :: r)).isSome = p c := by
  rw [show runS p a (c :: r) = if p c then some () else none from rfl]
  cases p c <;> rfl
theorem after_same {σ : Type} {C : Nat → σ → World → Prop} {i : Nat} {a : σ} {o : Option σ} {W : World} (h : ∀ i a, C i a W) : After C i a o W := by
  unfold After
  split
  · exact h _ _
  · exact h _ _
theorem u8_eq (c d : UInt8) : ((c.toNat : Int) == (d.toNat : Int)) = (c == d) := by
  by_cases h : c = d
  · subst h; simp
  · rw [beq_false_of_ne h, beq_eq_false_iff_ne]
    exact u8_int h

theorem heap_set_other {W : World} {p k : Nat} {u : Value} (h : p ≠ k) : (W.setCell ⟨p, 0, none⟩ u).heap[k]? = W.heap[k]? := by
  show (W.heap.modify p _)[k]? = _
  rw [Array.getElem?_modify, if_neg h]
theorem Rb.poke {W : World} {x b p : Nat} {s : ByteArray} {j L B : Int} {v : Value} (h : Rb W x b s j L B) (hp : Boxed W p 4 v) (u : Value) : Rb (W.setCell ⟨p, 0, none⟩ u) x b s j L B := by
  have h1 : p ≠ x := by
    rintro rfl
    have := hp.symm.trans h.box
    simp at this
  have h2 : p ≠ b := by
    rintro rfl
    have := hp.symm.trans h.rd
    simp at this
  exact ⟨(heap_set_other h1).trans h.box, (heap_set_other h2).trans h.rd⟩

theorem asks_line (s : ByteArray) (x b : Nat) (j L B : Int) (K : World → Prop) :
    Asks 58 #[.pointer (some ⟨x, 0, none⟩)] s (runS (fun c => c != 10)) (fun _ _ W => Rb W x b s j L B ∧ K W) := by
  intro i a A c r hC hd hi
  have hx := fun W => idx_any s i c (drop_get hd) W
  rw [runS_some]
  have c0 := hC.1.rd.c0
  have f0 := hC.1.rd.f 0
  have b0 := hC.1.box.cell
  have g0 := hC.1.box.frozen
  have HC := Lib.hid (after_same (C := fun (_ : Nat) (_ : Unit) W => Rb W x b s j L B ∧ K W) (W := A) (i := i) (a := a) (o := runS (fun c => c != 10) a (c :: r)) (fun (_ : Nat) (_ : Unit) => hC))
  have hz : (c != 10) = ((c.toNat : Int) != 10) := congrArg Bool.not (u8_eq c 10).symm
  rw [hz]
  clear hC hd hz
  go_enter Tryz.func58, Tryz.ntmps58
  go_wp2
  go_ret
  exact ⟨rfl, HC.out⟩
theorem asks_name (s : ByteArray) (x b : Nat) (j L B : Int) (K : World → Prop) :
    Asks 88 #[.pointer (some ⟨x, 0, none⟩)] s (runS nm) (fun _ _ W => Rb W x b s j L B ∧ K W) := by
  intro i a A c r hC hd hi
  have hx := fun W => idx_any s i c (drop_get hd) W
  rw [runS_some]
  have h1 := fun W => nm_any c W
  have c0 := hC.1.rd.c0
  have f0 := hC.1.rd.f 0
  have b0 := hC.1.box.cell
  have g0 := hC.1.box.frozen
  have HC := Lib.hid (after_same (C := fun (_ : Nat) (_ : Unit) W => Rb W x b s j L B ∧ K W) (W := A) (i := i) (a := a) (o := runS nm a (c :: r)) (fun (_ : Nat) (_ : Unit) => hC))
  clear hC hd
  go_enter Tryz.func88, Tryz.ntmps88
  go_wp2_with (go_at_call 89; (with_reducible refine (h1 _).mono ?_); rintro e w' ⟨rfl, rfl⟩)
  go_ret
  exact ⟨rfl, HC.out⟩
theorem asks_none (s : ByteArray) (K : World → Prop) : Asks 93 #[] s (fun (_ : Unit) _ => (none : Option Unit)) (fun _ _ W => K W) := by
  intro i a A c r hC hd hi
  have HC := Lib.hid (after_same (C := fun (_ : Nat) (_ : Unit) W => K W) (i := i) (a := a) (o := none) (W := A) (fun (_ : Nat) (_ : Unit) => hC))
  clear hC hd
  go_enter Tryz.func93, Tryz.ntmps93
  go_wp2
  go_ret
  exact ⟨rfl, HC.out⟩

/-- The number's closure: whether there was a point. -/
theorem asks_num (s : ByteArray) (x p b : Nat) (j L B : Int) (K : World → Prop) (hs : s.size ≤ 900000) (hK : ∀ W v, K W → Boxed W p 4 v → ∀ u, K (W.setCell ⟨p, 0, none⟩ u)) :
    Asks 112 #[.pointer (some ⟨p, 0, none⟩), .pointer (some ⟨x, 0, none⟩)] s numS (fun _ (pt : Bool) W => (Rb W x b s j L B ∧ Boxed W p 4 (.bool pt)) ∧ K W) := by
  intro i a A c r hC hd hi
  have hx := fun W => idx_any s i c (drop_get hd) W
  have h1 := fun W => dgc_any c W
  have hr : s.data.toList.drop (i + 1) = r := by rw [← List.drop_drop, hd]; rfl
  have h2 := isAt_dgc A b s j L B hC.1.1.rd (i + 1) (by omega)
  rw [hr, show ((i + 1 : Nat) : Int) = (i : Int) + 1 from by omega] at h2
  have hz : (c == 46) = ((c.toNat : Int) == 46) := (u8_eq c 46).symm
  have c0 := hC.1.1.rd.c0
  have f0 := hC.1.1.rd.f 0
  have b0 := hC.1.1.box.cell
  have g0 := hC.1.1.box.frozen
  have p0 := hC.1.2.cell
  have q0 := hC.1.2.frozen
  have HC := Lib.hid hC
  have HK := Lib.hid hK
  have hi9 : i ≤ 900000 := by omega
  clear hC hd hr hK
  rw [show numS a (c :: r) = if !a && c == 46 && hd dgc r then some true else if dgc c then some a else none from rfl, hz]
  obtain ⟨d, hdg⟩ : ∃ d, d = dgc c := ⟨_, rfl⟩
  obtain ⟨n, hn⟩ : ∃ n, n = hd dgc r := ⟨_, rfl⟩
  rw [← hdg, ← hn]
  rw [← hdg] at h1
  rw [← hn] at h2
  clear hdg hn hz
  obtain ⟨v, hv⟩ : ∃ v, v = (c.toNat : Int) := ⟨_, rfl⟩
  rw [← hv] at hx h1 ⊢
  clear hv
  by_cases hc : v = 46
  · subst hc
    rw [show ((46 : Int) == 46) = true from rfl]
    cases a <;> cases n <;> cases d
    all_goals
      go_enter Tryz.func112, Tryz.ntmps112
      go_wp2_with (first
        | (go_at_call 84; (with_reducible refine (h1 _).mono ?_); rintro e w' ⟨rfl, rfl⟩)
        | (go_at_call 85; (with_reducible refine h2.mono ?_); rintro e w' ⟨rfl, rfl⟩))
      go_ret
      first
        | exact ⟨rfl, HC.out⟩
        | exact ⟨rfl, ⟨HC.out.1.1.poke HC.out.1.2 _, HC.out.1.2.set _⟩, HK.out _ _ HC.out.2 HC.out.1.2 _⟩
  · have hb : (v == 46) = false := by simpa using hc
    rw [hb]
    cases a <;> cases d
    all_goals
      go_enter Tryz.func112, Tryz.ntmps112
      go_wp2_with (first
        | (go_at_call 84; (with_reducible refine (h1 _).mono ?_); rintro e w' ⟨rfl, rfl⟩)
        | (go_at_call 85; (with_reducible refine h2.mono ?_); rintro e w' ⟨rfl, rfl⟩))
      go_ret
      first
        | exact ⟨rfl, HC.out⟩
        | exact ⟨rfl, ⟨HC.out.1.1.poke HC.out.1.2 _, HC.out.1.2.set _⟩, HK.out _ _ HC.out.2 HC.out.1.2 _⟩

/-- The quotes' closure: ended, a byte taken as it is. -/
theorem asks_str (s : ByteArray) (x p q b : Nat) (j L B : Int) (K : World → Prop) (hs : s.size ≤ 900000) (hpq : p ≠ q) (hK : ∀ W r v, K W → (r = p ∨ r = q) → Boxed W r 4 v → ∀ u, K (W.setCell ⟨r, 0, none⟩ u)) :
    Asks 113 #[.pointer (some ⟨p, 0, none⟩), .pointer (some ⟨x, 0, none⟩), .pointer (some ⟨q, 0, none⟩)] s strS (fun _ (a : Bool × Bool) W => (Rb W x b s j L B ∧ Boxed W p 4 (.bool a.1) ∧ Boxed W q 4 (.bool a.2)) ∧ K W) := by
  rintro i ⟨en, es⟩ A c r hC hd hi
  have hx := fun W => idx_any s i c (drop_get hd) W
  have z1 : (c == 34) = ((c.toNat : Int) == 34) := (u8_eq c 34).symm
  have z2 : (c == 92) = ((c.toNat : Int) == 92) := (u8_eq c 92).symm
  have c0 := hC.1.1.rd.c0
  have f0 := hC.1.1.rd.f 0
  have b0 := hC.1.1.box.cell
  have g0 := hC.1.1.box.frozen
  have p0 := hC.1.2.1.cell
  have q0 := hC.1.2.1.frozen
  have p1 := hC.1.2.2.cell
  have q1 := hC.1.2.2.frozen
  have HC := Lib.hid hC
  have HK := Lib.hid hK
  have HP := Lib.hid hpq
  have n1 : p ≠ x := by
    rintro rfl
    have := hC.1.2.1.symm.trans hC.1.1.box
    simp at this
  have n2 : p ≠ b := by
    rintro rfl
    have := hC.1.2.1.symm.trans hC.1.1.rd
    simp at this
  clear hC hd hK
  rw [show strS (en, es) (c :: r) = if en then none else some (c == 34 && !es, c == 92 && !es) from rfl, z1, z2]
  obtain ⟨v, hv⟩ : ∃ v, v = (c.toNat : Int) := ⟨_, rfl⟩
  rw [← hv] at hx ⊢
  clear hv z1 z2
  by_cases h1 : v = 34
  · subst h1
    rw [show ((34 : Int) == 34) = true from rfl, show ((34 : Int) == 92) = false from rfl]
    cases en <;> cases es
    all_goals
      go_enter Tryz.func113, Tryz.ntmps113
      go_wp2
      go_ret
      first
        | exact ⟨rfl, HC.out⟩
        | exact ⟨rfl, ⟨(HC.out.1.1.poke HC.out.1.2.1 _).poke (HC.out.1.2.2.other (Ne.symm HP.out) _) _, (HC.out.1.2.1.set _).other HP.out _, (HC.out.1.2.2.other (Ne.symm HP.out) _).set _⟩, HK.out _ _ _ (HK.out _ _ _ HC.out.2 (Or.inl rfl) HC.out.1.2.1 _) (Or.inr rfl) (HC.out.1.2.2.other (Ne.symm HP.out) _) _⟩
  · have k1 : (v == 34) = false := by simpa using h1
    by_cases h2 : v = 92
    · subst h2
      rw [show ((92 : Int) == 34) = false from rfl, show ((92 : Int) == 92) = true from rfl]
      cases en <;> cases es
      all_goals
        go_enter Tryz.func113, Tryz.ntmps113
        go_wp2
        go_ret
        first
          | exact ⟨rfl, HC.out⟩
          | exact ⟨rfl, ⟨(HC.out.1.1.poke HC.out.1.2.1 _).poke (HC.out.1.2.2.other (Ne.symm HP.out) _) _, (HC.out.1.2.1.set _).other HP.out _, (HC.out.1.2.2.other (Ne.symm HP.out) _).set _⟩, HK.out _ _ _ (HK.out _ _ _ HC.out.2 (Or.inl rfl) HC.out.1.2.1 _) (Or.inr rfl) (HC.out.1.2.2.other (Ne.symm HP.out) _) _⟩
    · have k2 : (v == 92) = false := by simpa using h2
      rw [k1, k2]
      cases en <;> cases es
      all_goals
        go_enter Tryz.func113, Tryz.ntmps113
        go_wp2
        go_ret
        first
          | exact ⟨rfl, HC.out⟩
          | exact ⟨rfl, ⟨(HC.out.1.1.poke HC.out.1.2.1 _).poke (HC.out.1.2.2.other (Ne.symm HP.out) _) _, (HC.out.1.2.1.set _).other HP.out _, (HC.out.1.2.2.other (Ne.symm HP.out) _).set _⟩, HK.out _ _ _ (HK.out _ _ _ HC.out.2 (Or.inl rfl) HC.out.1.2.1 _) (Or.inr rfl) (HC.out.1.2.2.other (Ne.symm HP.out) _) _⟩
end Go.Proofs.YtgmjpcaennmgoaaGreatDoor
