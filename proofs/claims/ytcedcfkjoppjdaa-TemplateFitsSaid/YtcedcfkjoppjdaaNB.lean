/- Layer template: the words that are kept; names. -/
import Derived.Test.YtcedcfkjoppjdaaNA
import Derived.Laws.EntriesVeiled
namespace Go.Proofs.Ytcedcfkjoppjdaa
open Go.ChangeShapes Go.WideShapes Go.ChangeAt Go.RowKit
set_option linter.unusedVariables false
set_option linter.unusedSimpArgs false
set_option maxRecDepth 100000

/-- The words that are kept. -/
def keptL : List ByteArray := [⟨#[116, 114, 117, 101]⟩, ⟨#[102, 97, 108, 115, 101]⟩, ⟨#[110, 117, 108, 108]⟩, ⟨#[97, 110, 100]⟩, ⟨#[111, 114]⟩, ⟨#[110, 111, 116]⟩, ⟨#[105, 102]⟩, ⟨#[97, 98, 115]⟩, ⟨#[109, 105, 110]⟩, ⟨#[109, 97, 120]⟩, ⟨#[109, 111, 100]⟩, ⟨#[108, 101, 110, 103, 116, 104]⟩, ⟨#[117, 112, 112, 101, 114]⟩, ⟨#[99, 111, 110, 116, 97, 105, 110, 115]⟩, ⟨#[115, 116, 97, 114, 116, 115]⟩, ⟨#[116, 101, 109, 112, 108, 97, 116, 101]⟩, ⟨#[114, 117, 108, 101]⟩, ⟨#[119, 104, 101, 110]⟩, ⟨#[116, 104, 101, 110]⟩, ⟨#[101, 110, 100]⟩, ⟨#[101, 120, 105, 115, 116, 115]⟩, ⟨#[116, 101, 115, 116]⟩, ⟨#[97, 115, 115, 101, 114, 116]⟩, ⟨#[108, 111, 103, 105, 99, 97, 108]⟩, ⟨#[109, 111, 100, 105, 102, 121]⟩, ⟨#[114, 101, 116, 114, 97, 99, 116]⟩, ⟨#[104, 97, 108, 116]⟩, ⟨#[116, 97, 98, 108, 101]⟩, ⟨#[105, 110]⟩, ⟨#[111, 117, 116]⟩, ⟨#[114, 111, 119]⟩]
def keptB (s : ByteArray) : Bool := keptL.any (fun x => s == x)
/-- A name: one of layer 2's, and none that is kept. -/
def nmB (s : ByteArray) : Bool := nameB s && !keptB s

/-- The entries of a map that has these texts. -/
def ents : List ByteArray → Nat → List MapEntry
  | [], _ => []
  | x :: l, n => ⟨.string x, .agg #[], n⟩ :: ents l (n + 1)
theorem ents_snoc (x : ByteArray) : ∀ (l : List ByteArray) (n : Nat), ents (l ++ [x]) n = ents l n ++ [⟨.string x, .agg #[], n + l.length⟩]
  | [], n => rfl
  | y :: l, n => by
    show _ :: ents (l ++ [x]) (n + 1) = _ :: (ents l (n + 1) ++ _)
    rw [ents_snoc x l (n + 1), List.length_cons, Nat.add_assoc n 1, Nat.add_comm 1]
theorem find_ents (s : ByteArray) : ∀ (l : List ByteArray) (n i : Nat), ∃ r, Instr.findNow .string (.string s) (ents l n) i = some r ∧ r.isSome = l.any (fun x => s == x) ∧ ∀ p, r = some p → p.2 = .agg #[]
  | [], n, i => ⟨none, rfl, rfl, fun _ h => by cases h⟩
  | y :: l, n, i => by
    obtain ⟨r, h1, h2, h3⟩ := find_ents s l (n + 1) (i + 1)
    cases e : (s == y)
    · refine ⟨r, ?_, ?_, h3⟩
      · show (match Instr.sameNow .string (.string s) (.string y) with | some true => _ | some false => _ | none => _) = _
        simp only [Instr.sameNow, e]
        exact h1
      · rw [List.any_cons, e, Bool.false_or]; exact h2
    · refine ⟨some (i, .agg #[]), ?_, ?_, fun p hp => by cases hp; rfl⟩
      · show (match Instr.sameNow .string (.string s) (.string y) with | some true => _ | some false => _ | none => _) = _
        simp only [Instr.sameNow, e]
      · rw [List.any_cons, e]; rfl

theorem run_put {w : World} {B : Nat} {es : Array MapEntry} {clock : Nat} (s : ByteArray) (v : Value) (hb : w.heap[B]? = some (.map es clock)) (hf : Instr.findNow .string (.string s) es.toList 0 = some none) :
    ∃ w', (Instr.mapUpdate 56 (.map (some B)) (.string s) v).run Try.prog w = .ok () w' ∧ w'.heap[B]? = some (.map (es.push ⟨.string s, v, clock⟩) (clock + 1)) ∧ w.grownBy w' (some B) := by
  have hr := MapKept.run_findKey (P := Try.prog) (w := w) (kt := 9) Try.underlying9 hf
  have hu := run_underlying (P := Try.prog) (w := w) Try.underlying56
  have hck := MapKept.run_checkKey (P := Try.prog) (w := w) (kt := 9) (k := .string s) Try.underlying9 (by simp [MapKept.IsKey]) false 9999
  have hg := MapKept.run_getObj_map (P := Try.prog) hb
  have hs := MapKept.run_setObj_map (P := Try.prog) (.map (es.push ⟨.string s, v, clock⟩) (clock + 1)) hb
  refine ⟨{ w with heap := w.heap.setIfInBounds B (.map (es.push ⟨.string s, v, clock⟩) (clock + 1)) }, ?_, (MapKept.heap_set hb).1, ⟨rfl, rfl, rfl, by simp, fun j hj hne => (MapKept.heap_set hb).2 j (fun e => hne (by rw [e]))⟩⟩
  simp [Instr.mapUpdate, hu, hg, hck, hr, hs, Result.andThen]
theorem run_lk {w : World} {B : Nat} {l : List ByteArray} {clock : Nat} (s : ByteArray) (hb : w.heap[B]? = some (.map (ents l 0).toArray clock)) :
    (Instr.lookup 56 (.map (some B)) (.string s) true).run Try.prog w = .ok (.tuple #[.agg #[], .bool (l.any (fun x => s == x))]) w := by
  obtain ⟨r, hf, h2, h3⟩ := find_ents s l 0 0
  have hr := MapKept.run_findKey (P := Try.prog) (w := w) (kt := 9) Try.underlying9 hf
  have hu := run_underlying (P := Try.prog) (w := w) Try.underlying56
  have hck := fun b => MapKept.run_checkKey (P := Try.prog) (w := w) (kt := 9) (k := .string s) Try.underlying9 (by simp [MapKept.IsKey]) b 9999
  have hg := MapKept.run_getObj_map (P := Try.prog) hb
  have hz : (zeroValue 58).run Try.prog w = .ok (.agg #[]) w := Try.zeroValue58 w
  rw [← h2]
  cases r with
  | none => simp [Instr.lookup, hu, hg, hck, hr, hz, Result.andThen]
  | some p =>
    have := h3 p rfl
    simp [Instr.lookup, hu, hg, hck, hr, Result.andThen, this]
theorem Old.put {a w w' : World} {B : Nat} (h : Old a w) (hg : w.grownBy w' (some B)) (hB : a.heap.size ≤ B) : Old a w' := h.grown hg (by intro k hk; cases hk; exact hB)
/-- This map has the words that are kept. -/
def KeptIn (w : World) (B : Nat) : Prop := w.heap[B]? = some (.map (ents keptL 0).toArray 31)

theorem put_at {w : World} {B : Nat} {l : List ByteArray} (s : ByteArray) (hb : w.heap[B]? = some (.map (ents l 0).toArray l.length)) (hf : l.any (fun x => s == x) = false) :
    ∃ w', (Instr.mapUpdate 56 (.map (some B)) (.string s) (.agg #[])).run Try.prog w = .ok () w' ∧ w'.heap[B]? = some (.map (ents (l ++ [s]) 0).toArray (l ++ [s]).length) ∧ w.grownBy w' (some B) := by
  have hfn : Instr.findNow .string (.string s) (ents l 0).toArray.toList 0 = some none := by
    obtain ⟨r, h1, h2, h3⟩ := find_ents s l 0 0
    rw [hf] at h2
    cases r with
    | none => exact h1
    | some p => cases h2
  obtain ⟨w', hrun, r1, r2⟩ := run_put s (.agg #[]) hb hfn
  refine ⟨w', hrun, ?_, r2⟩
  rw [r1, ents_snoc, List.length_append, Nat.zero_add]
  simp
set_option maxHeartbeats 3200000 in
theorem kept_any (w : World) : Calls Try.prog 35 #[] w fun e w' => ∃ B, e = .returned (.map (some B)) ∧ KeptIn w' B ∧ Old w w' := by
  have hmm := @run_makeMap Try.prog
  have HM0 : Hid ((w.alloc (.map #[] 0)).heap[w.heap.size]? = some (.map (ents [] 0).toArray ([] : List ByteArray).length)) := Lib.hid (MapKept.heap_alloc w _).1
  have HO0 := Lib.hid ((Old.refl w).alloc (.map #[] 0))
  obtain ⟨w1, e1, m1, g1⟩ := put_at ⟨#[116, 114, 117, 101]⟩ HM0.out (by kernel_rfl)
  have HM1 := Lib.hid m1
  have HO1 := Lib.hid (HO0.out.put g1 (Nat.le_refl _))
  clear m1 g1 HM0 HO0
  obtain ⟨w2, e2, m2, g2⟩ := put_at ⟨#[102, 97, 108, 115, 101]⟩ HM1.out (by kernel_rfl)
  have HM2 := Lib.hid m2
  have HO2 := Lib.hid (HO1.out.put g2 (Nat.le_refl _))
  clear m2 g2 HM1 HO1
  obtain ⟨w3, e3, m3, g3⟩ := put_at ⟨#[110, 117, 108, 108]⟩ HM2.out (by kernel_rfl)
  have HM3 := Lib.hid m3
  have HO3 := Lib.hid (HO2.out.put g3 (Nat.le_refl _))
  clear m3 g3 HM2 HO2
  obtain ⟨w4, e4, m4, g4⟩ := put_at ⟨#[97, 110, 100]⟩ HM3.out (by kernel_rfl)
  have HM4 := Lib.hid m4
  have HO4 := Lib.hid (HO3.out.put g4 (Nat.le_refl _))
  clear m4 g4 HM3 HO3
  obtain ⟨w5, e5, m5, g5⟩ := put_at ⟨#[111, 114]⟩ HM4.out (by kernel_rfl)
  have HM5 := Lib.hid m5
  have HO5 := Lib.hid (HO4.out.put g5 (Nat.le_refl _))
  clear m5 g5 HM4 HO4
  obtain ⟨w6, e6, m6, g6⟩ := put_at ⟨#[110, 111, 116]⟩ HM5.out (by kernel_rfl)
  have HM6 := Lib.hid m6
  have HO6 := Lib.hid (HO5.out.put g6 (Nat.le_refl _))
  clear m6 g6 HM5 HO5
  obtain ⟨w7, e7, m7, g7⟩ := put_at ⟨#[105, 102]⟩ HM6.out (by kernel_rfl)
  have HM7 := Lib.hid m7
  have HO7 := Lib.hid (HO6.out.put g7 (Nat.le_refl _))
  clear m7 g7 HM6 HO6
  obtain ⟨w8, e8, m8, g8⟩ := put_at ⟨#[97, 98, 115]⟩ HM7.out (by kernel_rfl)
  have HM8 := Lib.hid m8
  have HO8 := Lib.hid (HO7.out.put g8 (Nat.le_refl _))
  clear m8 g8 HM7 HO7
  obtain ⟨w9, e9, m9, g9⟩ := put_at ⟨#[109, 105, 110]⟩ HM8.out (by kernel_rfl)
  have HM9 := Lib.hid m9
  have HO9 := Lib.hid (HO8.out.put g9 (Nat.le_refl _))
  clear m9 g9 HM8 HO8
  obtain ⟨w10, e10, m10, g10⟩ := put_at ⟨#[109, 97, 120]⟩ HM9.out (by kernel_rfl)
  have HM10 := Lib.hid m10
  have HO10 := Lib.hid (HO9.out.put g10 (Nat.le_refl _))
  clear m10 g10 HM9 HO9
  obtain ⟨w11, e11, m11, g11⟩ := put_at ⟨#[109, 111, 100]⟩ HM10.out (by kernel_rfl)
  have HM11 := Lib.hid m11
  have HO11 := Lib.hid (HO10.out.put g11 (Nat.le_refl _))
  clear m11 g11 HM10 HO10
  obtain ⟨w12, e12, m12, g12⟩ := put_at ⟨#[108, 101, 110, 103, 116, 104]⟩ HM11.out (by kernel_rfl)
  have HM12 := Lib.hid m12
  have HO12 := Lib.hid (HO11.out.put g12 (Nat.le_refl _))
  clear m12 g12 HM11 HO11
  obtain ⟨w13, e13, m13, g13⟩ := put_at ⟨#[117, 112, 112, 101, 114]⟩ HM12.out (by kernel_rfl)
  have HM13 := Lib.hid m13
  have HO13 := Lib.hid (HO12.out.put g13 (Nat.le_refl _))
  clear m13 g13 HM12 HO12
  obtain ⟨w14, e14, m14, g14⟩ := put_at ⟨#[99, 111, 110, 116, 97, 105, 110, 115]⟩ HM13.out (by kernel_rfl)
  have HM14 := Lib.hid m14
  have HO14 := Lib.hid (HO13.out.put g14 (Nat.le_refl _))
  clear m14 g14 HM13 HO13
  obtain ⟨w15, e15, m15, g15⟩ := put_at ⟨#[115, 116, 97, 114, 116, 115]⟩ HM14.out (by kernel_rfl)
  have HM15 := Lib.hid m15
  have HO15 := Lib.hid (HO14.out.put g15 (Nat.le_refl _))
  clear m15 g15 HM14 HO14
  obtain ⟨w16, e16, m16, g16⟩ := put_at ⟨#[116, 101, 109, 112, 108, 97, 116, 101]⟩ HM15.out (by kernel_rfl)
  have HM16 := Lib.hid m16
  have HO16 := Lib.hid (HO15.out.put g16 (Nat.le_refl _))
  clear m16 g16 HM15 HO15
  obtain ⟨w17, e17, m17, g17⟩ := put_at ⟨#[114, 117, 108, 101]⟩ HM16.out (by kernel_rfl)
  have HM17 := Lib.hid m17
  have HO17 := Lib.hid (HO16.out.put g17 (Nat.le_refl _))
  clear m17 g17 HM16 HO16
  obtain ⟨w18, e18, m18, g18⟩ := put_at ⟨#[119, 104, 101, 110]⟩ HM17.out (by kernel_rfl)
  have HM18 := Lib.hid m18
  have HO18 := Lib.hid (HO17.out.put g18 (Nat.le_refl _))
  clear m18 g18 HM17 HO17
  obtain ⟨w19, e19, m19, g19⟩ := put_at ⟨#[116, 104, 101, 110]⟩ HM18.out (by kernel_rfl)
  have HM19 := Lib.hid m19
  have HO19 := Lib.hid (HO18.out.put g19 (Nat.le_refl _))
  clear m19 g19 HM18 HO18
  obtain ⟨w20, e20, m20, g20⟩ := put_at ⟨#[101, 110, 100]⟩ HM19.out (by kernel_rfl)
  have HM20 := Lib.hid m20
  have HO20 := Lib.hid (HO19.out.put g20 (Nat.le_refl _))
  clear m20 g20 HM19 HO19
  obtain ⟨w21, e21, m21, g21⟩ := put_at ⟨#[101, 120, 105, 115, 116, 115]⟩ HM20.out (by kernel_rfl)
  have HM21 := Lib.hid m21
  have HO21 := Lib.hid (HO20.out.put g21 (Nat.le_refl _))
  clear m21 g21 HM20 HO20
  obtain ⟨w22, e22, m22, g22⟩ := put_at ⟨#[116, 101, 115, 116]⟩ HM21.out (by kernel_rfl)
  have HM22 := Lib.hid m22
  have HO22 := Lib.hid (HO21.out.put g22 (Nat.le_refl _))
  clear m22 g22 HM21 HO21
  obtain ⟨w23, e23, m23, g23⟩ := put_at ⟨#[97, 115, 115, 101, 114, 116]⟩ HM22.out (by kernel_rfl)
  have HM23 := Lib.hid m23
  have HO23 := Lib.hid (HO22.out.put g23 (Nat.le_refl _))
  clear m23 g23 HM22 HO22
  obtain ⟨w24, e24, m24, g24⟩ := put_at ⟨#[108, 111, 103, 105, 99, 97, 108]⟩ HM23.out (by kernel_rfl)
  have HM24 := Lib.hid m24
  have HO24 := Lib.hid (HO23.out.put g24 (Nat.le_refl _))
  clear m24 g24 HM23 HO23
  obtain ⟨w25, e25, m25, g25⟩ := put_at ⟨#[109, 111, 100, 105, 102, 121]⟩ HM24.out (by kernel_rfl)
  have HM25 := Lib.hid m25
  have HO25 := Lib.hid (HO24.out.put g25 (Nat.le_refl _))
  clear m25 g25 HM24 HO24
  obtain ⟨w26, e26, m26, g26⟩ := put_at ⟨#[114, 101, 116, 114, 97, 99, 116]⟩ HM25.out (by kernel_rfl)
  have HM26 := Lib.hid m26
  have HO26 := Lib.hid (HO25.out.put g26 (Nat.le_refl _))
  clear m26 g26 HM25 HO25
  obtain ⟨w27, e27, m27, g27⟩ := put_at ⟨#[104, 97, 108, 116]⟩ HM26.out (by kernel_rfl)
  have HM27 := Lib.hid m27
  have HO27 := Lib.hid (HO26.out.put g27 (Nat.le_refl _))
  clear m27 g27 HM26 HO26
  obtain ⟨w28, e28, m28, g28⟩ := put_at ⟨#[116, 97, 98, 108, 101]⟩ HM27.out (by kernel_rfl)
  have HM28 := Lib.hid m28
  have HO28 := Lib.hid (HO27.out.put g28 (Nat.le_refl _))
  clear m28 g28 HM27 HO27
  obtain ⟨w29, e29, m29, g29⟩ := put_at ⟨#[105, 110]⟩ HM28.out (by kernel_rfl)
  have HM29 := Lib.hid m29
  have HO29 := Lib.hid (HO28.out.put g29 (Nat.le_refl _))
  clear m29 g29 HM28 HO28
  obtain ⟨w30, e30, m30, g30⟩ := put_at ⟨#[111, 117, 116]⟩ HM29.out (by kernel_rfl)
  have HM30 := Lib.hid m30
  have HO30 := Lib.hid (HO29.out.put g30 (Nat.le_refl _))
  clear m30 g30 HM29 HO29
  obtain ⟨w31, e31, m31, g31⟩ := put_at ⟨#[114, 111, 119]⟩ HM30.out (by kernel_rfl)
  have HM31 := Lib.hid m31
  have HO31 := Lib.hid (HO30.out.put g31 (Nat.le_refl _))
  clear m31 g31 HM30 HO30

  go_enter Try.func35, Try.ntmps35
  go_wp2_with fail
  go_ret
  exact ⟨w.heap.size, rfl, HM31.out, HO31.out⟩
end Go.Proofs.Ytcedcfkjoppjdaa
