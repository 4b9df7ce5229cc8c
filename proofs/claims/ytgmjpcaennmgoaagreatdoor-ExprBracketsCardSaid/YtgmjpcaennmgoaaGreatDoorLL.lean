/- Layer vtext: Parse, whatever the text. -/
import Derived.Test.YtgmjpcaennmgoaaGreatDoorLK
import Derived.Lib.ParseIntBTie
namespace Go.Proofs.YtgmjpcaennmgoaaGreatDoor
open Go.ChangeShapes Go.WideShapes Go.ChangeAt Go.RowKit Go.Lib
set_option linter.unusedVariables false
set_option maxRecDepth 100000

theorem numV_may (k : Int) (hk : 0 ≤ k ∧ k ≤ 255) (l : List UInt8) : (0 ≤ (numV k l).1 ∧ (numV k l).1 ≤ 255) ∧ I64 (numV k l).2.1 := by
  unfold numV
  split
  · next v h =>
    have := Lib.parseIntB_bounds h
    refine ⟨hk, ?_⟩
    unfold I64
    simp only [Nat.reducePow, Nat.reduceSub] at this ⊢
    omega
  · exact ⟨by decide, by decide⟩
theorem readC_may (S wh rs : List UInt8) (pt : Bool) : (0 ≤ (readC S wh rs pt).1 ∧ (readC S wh rs pt).1 ≤ 255) ∧ I64 (readC S wh rs pt).2.1 := by
  unfold readC
  split
  · exact ⟨by decide, by decide⟩
  split
  · exact numV_may 1 (by decide) _
  split
  · exact ⟨by decide, by decide⟩
  · exact numV_may 2 (by decide) _
theorem readN_may (l : List UInt8) : (0 ≤ (readN l).1 ∧ (readN l).1 ≤ 255) ∧ I64 (readN l).2.1 := by
  cases l with
  | nil => exact ⟨by decide, by decide⟩
  | cons c l =>
    have e : readN (c :: l) = if c = 45 then readC [45] (Lib.cut l [46]).1 (Lib.cut l [46]).2.1 (Lib.cut l [46]).2.2 else readC [] (Lib.cut (c :: l) [46]).1 (Lib.cut (c :: l) [46]).2.1 (Lib.cut (c :: l) [46]).2.2 := rfl
    rw [e]
    split
    · exact readC_may _ _ _ _
    · exact readC_may _ _ _ _

theorem parse_long (l : List UInt8) (h : 402 < l.length) (hb : l.length ≤ 1000000) (w : World) :
    Calls Tryz.prog 115 #[.string (st l)] w fun e w' => e = rv 0 0 3 ⟨#[]⟩ ∧ Old w w' := by
  have HO := Lib.hid ((Old.refl w).alloc (.cells #[.int .u8 0, .int .i64 0, .string ⟨#[]⟩] 35))
  have HT := Lib.hid (Three.new w (.int .u8 0) (.int .i64 0) (.string ⟨#[]⟩))
  have c0 := HT.out.c0
  have c1 := HT.out.c1
  have c2 := HT.out.c2
  have f0 := HT.out.f 0
  have f1 := HT.out.f 1
  have f2 := HT.out.f 2
  go_enter Tryz.func115, Tryz.ntmps115
  go_wp2_with fail
  exact bodyPost_ret (v := .tuple #[vl 0 0 ⟨#[]⟩, .int .i64 3]) (by simp [results, Tryz.results115, go_sem]) rfl ⟨rfl, HO.out⟩
theorem parse_empty (w : World) :
    Calls Tryz.prog 115 #[.string (st [])] w fun e w' => e = rv 0 0 4 ⟨#[]⟩ ∧ Old w w' := by
  have HO := Lib.hid ((Old.refl w).alloc (.cells #[.int .u8 0, .int .i64 0, .string ⟨#[]⟩] 35))
  have HT := Lib.hid (Three.new w (.int .u8 0) (.int .i64 0) (.string ⟨#[]⟩))
  have c0 := HT.out.c0
  have c1 := HT.out.c1
  have c2 := HT.out.c2
  have f0 := HT.out.f 0
  have f1 := HT.out.f 1
  have f2 := HT.out.f 2
  go_enter Tryz.func115, Tryz.ntmps115
  go_wp2_with fail
  exact bodyPost_ret (v := .tuple #[vl 0 0 ⟨#[]⟩, .int .i64 4]) (by simp [results, Tryz.results115, go_sem]) rfl ⟨rfl, HO.out⟩

/-- What is read: kind, number, error, text. -/
structure Rd3 where
  k : Int
  n : Int
  e : Int
  s : List UInt8
/-- What a text is read as, by what begins it. -/
def readL : List UInt8 → Rd3
  | [] => ⟨0, 0, 4, []⟩
  | c :: r => if c = 110 then ⟨0, 0, 0, []⟩ else if c = 116 then ⟨4, 1, 0, []⟩ else if c = 102 then ⟨4, 0, 0, []⟩
    else if c = 34 then ⟨3, 0, 0, unqL (Lib.trimSuffix r [34])⟩ else if c = 35 then ⟨5, 0, 0, r⟩
    else if c = 45 ∨ dg8 c = true then ⟨(readN (c :: r)).1, (readN (c :: r)).2.1, (readN (c :: r)).2.2, []⟩ else ⟨0, 0, 4, []⟩
/-- What a text says. -/
def parseL (l : List UInt8) : Rd3 :=
  if 402 < l.length then ⟨0, 0, 3, []⟩
  else if (readL l).e = 0 then (if textL (readL l).k (readL l).n (st (readL l).s) = l then readL l else ⟨0, 0, 4, []⟩)
  else ⟨0, 0, (readL l).e, []⟩
/-- What Parse tells. -/
abbrev rd (t : Rd3) : Ending := rv t.k t.n t.e (st t.s)
theorem parse_of (l : List UInt8) (K N E : Int) (S : List UInt8) (h : readL l = ⟨K, N, E, S⟩) (hl : ¬ 402 < l.length) : parseL l = if E = 0 then (if textL K N (st S) = l then ⟨K, N, 0, S⟩ else ⟨0, 0, 4, []⟩) else ⟨0, 0, E, []⟩ := by
  unfold parseL
  rw [if_neg hl, h]
  split
  · next h0 => simp only at h0; subst h0; rfl
  · rfl
theorem rd_of {l : List UInt8} {K N E : Int} {S : List UInt8} (h : readL l = ⟨K, N, E, S⟩) (hl : ¬ 402 < l.length) : (if E = 0 then (if textL K N (st S) = l then rv K N 0 (st S) else rv 0 0 4 ⟨#[]⟩) else rv 0 0 E ⟨#[]⟩) = rd (parseL l) := by
  rw [parse_of l K N E S h hl]
  split
  · split <;> rfl
  · rfl
theorem key_c {c : UInt8} {k : Int} (h : (c.toNat : Int) = k) (hk : ¬ (48 ≤ k ∧ k ≤ 57)) : (if (48 : Int) ≤ (c.toNat : Int) ∧ (c.toNat : Int) ≤ 57 then 48 else (c.toNat : Int)) = k := by
  rw [h, if_neg hk]
theorem u8_int {c d : UInt8} (h : ¬ c = d) : (c.toNat : Int) ≠ (d.toNat : Int) := fun e => h (UInt8.toNat_inj.1 (by omega))

theorem parse_any (l : List UInt8) (hb : l.length ≤ 1000000) (w : World) (he : Env w) :
    Calls Tryz.prog 115 #[.string (st l)] w fun e w' => e = rd (parseL l) ∧ Old w w' := by
  by_cases hl : 402 < l.length
  · have : parseL l = ⟨0, 0, 3, []⟩ := by unfold parseL; rw [if_pos hl]
    rw [this]
    exact parse_long l hl hb w
  cases l with
  | nil => exact parse_empty w
  | cons c r =>
    have hr : r.length ≤ 401 := by simp only [List.length_cons] at hl; omega
    by_cases h1 : c = 110
    · have this := rd_of (K := 0) (N := 0) (E := 0) (S := []) (by rw [readL, if_pos h1]) hl
      rw [if_pos rfl] at this
      rw [← this]
      exact parse_only c r 110 0 0 (by decide) (by decide) (key_c (by subst h1; rfl) (by decide)) looks_n hr w he
    by_cases h2 : c = 116
    · have this := rd_of (K := 4) (N := 1) (E := 0) (S := []) (by rw [readL, if_neg h1, if_pos h2]) hl
      rw [if_pos rfl] at this
      rw [← this]
      exact parse_only c r 116 4 1 (by decide) (by decide) (key_c (by subst h2; rfl) (by decide)) looks_t hr w he
    by_cases h3 : c = 102
    · have this := rd_of (K := 4) (N := 0) (E := 0) (S := []) (by rw [readL, if_neg h1, if_neg h2, if_pos h3]) hl
      rw [if_pos rfl] at this
      rw [← this]
      exact parse_only c r 102 4 0 (by decide) (by decide) (key_c (by subst h3; rfl) (by decide)) looks_f hr w he
    by_cases h4 : c = 34
    · rw [← rd_of (K := 3) (N := 0) (E := 0) (S := unqL (Lib.trimSuffix r [34])) (by rw [readL, if_neg h1, if_neg h2, if_neg h3, if_pos h4]) hl]
      exact parse_quo c r 34 3 0 0 _ (by decide) (by decide) (fun W hW => quo_read c r _ rfl (by omega) W) (key_c (by subst h4; rfl) (by decide)) looks_q hr w he
    by_cases h5 : c = 35
    · rw [← rd_of (K := 5) (N := 0) (E := 0) (S := r) (by rw [readL, if_neg h1, if_neg h2, if_neg h3, if_neg h4, if_pos h5]) hl]
      exact parse_sym c r 35 5 0 0 _ (by decide) (by decide) (fun W hW => sym_any c r (by omega) W) (key_c (by subst h5; rfl) (by decide)) looks_s hr w he
    by_cases h6 : c = 45 ∨ dg8 c = true
    · rw [← rd_of (K := (readN (c :: r)).1) (N := (readN (c :: r)).2.1) (E := (readN (c :: r)).2.2) (S := []) (by rw [readL, if_neg h1, if_neg h2, if_neg h3, if_neg h4, if_neg h5, if_pos h6]) hl]
      have hm := readN_may (c :: r)
      rcases h6 with h6 | h6
      · exact parse_num c r 45 _ _ _ _ hm.1 hm.2 (fun W hW => rn_any c r (by omega) W hW) (key_c (by subst h6; rfl) (by decide)) looks_m hr w he
      · refine parse_num c r 48 _ _ _ _ hm.1 hm.2 (fun W hW => rn_any c r (by omega) W hW) ?_ looks_d hr w he
        unfold dg8 at h6
        simp only [decide_eq_true_eq] at h6
        rw [if_pos ⟨by omega, by omega⟩]
    · rw [← rd_of (K := 0) (N := 0) (E := 4) (S := []) (by rw [readL, if_neg h1, if_neg h2, if_neg h3, if_neg h4, if_neg h5, if_neg h6]) hl]
      rw [not_or] at h6
      have k7 : ¬ ((48 : Int) ≤ (c.toNat : Int) ∧ (c.toNat : Int) ≤ 57) := by
        have := h6.2
        unfold dg8 at this
        simp only [decide_eq_true_eq] at this
        omega
      exact parse_none c r (c.toNat : Int) (by rw [if_neg k7]) (looks_no _ ⟨u8_int (d := 110) h1, u8_int (d := 116) h2, u8_int (d := 102) h3, u8_int (d := 34) h4, u8_int (d := 35) h5, u8_int (d := 45) h6.1, fun e => k7 (by omega)⟩) hr w he
end Go.Proofs.YtgmjpcaennmgoaaGreatDoor
