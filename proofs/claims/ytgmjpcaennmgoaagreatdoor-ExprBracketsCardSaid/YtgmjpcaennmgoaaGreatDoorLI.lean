/- Layer vtext: a text in quotes is read. -/
import Derived.Test.YtgmjpcaennmgoaaGreatDoorLG
namespace Go.Proofs.YtgmjpcaennmgoaaGreatDoor
open Go.ChangeShapes Go.WideShapes Go.ChangeAt Go.RowKit Go.Lib
set_option linter.unusedVariables false
set_option maxRecDepth 100000

/-- What stands in quotes, told as it was. -/
def unqL : List UInt8 → List UInt8
  | [] => []
  | [c] => [c]
  | c :: d :: r => if c = 92 then d :: unqL r else c :: unqL (d :: r)
theorem unq_two {c d : UInt8} {r : List UInt8} (h : c = 92) : unqL (c :: d :: r) = d :: unqL r := by
  rw [unqL, if_pos h]
theorem unq_one {c : UInt8} {r : List UInt8} (h : ¬ (c = 92 ∧ r ≠ [])) : unqL (c :: r) = c :: unqL r := by
  cases r with
  | nil => rfl
  | cons d r => rw [unqL, if_neg (fun e => h ⟨e, by simp⟩)]
theorem drop_at {I : List UInt8} {k : Nat} (h : k < I.length) : I.drop k = I[k] :: I.drop (k + 1) := List.drop_eq_getElem_cons h

/-- While it is read: the builder holds what was read so far. -/
structure Ui (W wr : World) (B : Nat) (acc : List UInt8) : Prop where
  old : Old W wr
  bu : Lib.IsBuilder 148 5 B B (Lib.byteCells acc) wr
theorem Ui.step {W wr : World} {B : Nat} {acc : List UInt8} (h : Ui W wr B acc) (hB : W.heap.size = B) (c : UInt8) (hl : acc.length ≤ 1000) :
    Calls Tryz.prog 139 #[.pointer (some ⟨B, 0, none⟩), .int .u8 (c.toNat : Int)] wr fun e w' => e = .returned .nilIface ∧ Ui W w' B (acc ++ [c]) := by
  have hs := h.old.size
  refine (Tryz.Builder_WriteByte B B (Lib.byteCells acc) c.toNat wr h.bu (by simp [Lib.byteCells]; omega) (by omega)).mono ?_
  rintro e w' ⟨rfl, h1, h2⟩
  refine ⟨rfl, old_below h.old (by rw [hB]; exact h2), ?_⟩
  have : Lib.byteCells (acc ++ [c]) = Lib.byteCells acc ++ [.int .u8 (c.toNat : Int)] := by simp [Lib.byteCells]
  rw [this]
  exact Or.inr h1

set_option maxHeartbeats 1600000 in
theorem quo_read (c : UInt8) (l I : List UInt8) (hI : Lib.trimSuffix l [34] = I) (hl : l.length ≤ 900) (w : World) :
    Calls Tryz.prog 128 #[.string (st (c :: l))] w fun e w' => e = rv 3 0 0 (st (unqL I)) ∧ Old w w' := by
  have hx : (st (c :: l)).extract 1 (l.length + 1) = st l := ext1 c l
  have hil : I.length ≤ l.length := by
    rw [← hI]
    unfold Lib.trimSuffix
    split
    · simp
    · exact Nat.le_refl _
  have hts : ∀ W, Calls Tryz.prog 138 #[.string (st l), .string ⟨#[34]⟩] W fun e w' => e = .returned (.string (st I)) ∧ w' = W := by
    intro W
    have h := Tryz.strings_TrimSuffix (st l) ⟨#[34]⟩ W (by simp [ByteArray.size]; omega)
    have e : Lib.trimSuffix (st l).data.toList (⟨#[34]⟩ : ByteArray).data.toList = I := hI
    rw [e] at h
    exact h
  have HO := Lib.hid ((Old.refl w).alloc (.cells #[.int .u8 0, .int .i64 0, .string ⟨#[]⟩] 35))
  have HT := Lib.hid (Three.new w (.int .u8 0) (.int .i64 0) (.string ⟨#[]⟩))
  have hI1 : I.length ≤ 900 := by omega
  have HU : Hid (Ui (w.alloc (.cells #[.int .u8 0, .int .i64 0, .string ⟨#[]⟩] 35)) ((w.alloc (.cells #[.int .u8 0, .int .i64 0, .string ⟨#[]⟩] 35)).alloc (.cells #[.pointer none, .slice none 0 0] 148)) (w.heap.size + 1) []) := by
    have h := Lib.fresh_isBuilder 148 5 (w.alloc (.cells #[.int .u8 0, .int .i64 0, .string ⟨#[]⟩] 35))
    rw [sz_alloc] at h
    exact Lib.hid ⟨(Old.refl _).alloc _, h⟩
  have HB : Hid ((w.alloc (.cells #[.int .u8 0, .int .i64 0, .string ⟨#[]⟩] 35)).heap.size = w.heap.size + 1) := Lib.hid (sz_alloc _ _)
  clear hI hil
  go_enter Tryz.func128, Tryz.ntmps128
  go_wp2_with (go_at_call 138; (with_reducible refine (hts _).mono ?_); rintro e w1 ⟨rfl, rfl⟩)
  clear hts hx
  generalize (w.alloc (.cells #[.int .u8 0, .int .i64 0, .string ⟨#[]⟩] 35)) = W1 at *
  go_loopw [6] (fun i wr => ∃ k : Nat, ∃ acc, k ≤ I.length ∧ i = .int .i64 (k : Int) ∧ Hid (Ui W1 wr (w.heap.size + 1) acc) ∧ Hid (acc ++ unqL (I.drop k) = unqL I ∧ acc.length ≤ k)) (fun i _ => (I.length - RowKit.intOf i).toNat)
  case atStart => exact ⟨0, [], Nat.zero_le _, rfl, HU, Lib.hid ⟨rfl, Nat.le_refl _⟩⟩
  case round =>
    obtain ⟨k, acc, hk, rfl, HR, HA⟩ := hrel
    by_cases hkn : k < I.length
    · have hg : (st I).size = I.length := by simp [ByteArray.size]
      have hks : k < (st I).size := by rw [hg]; exact hkn
      obtain ⟨a, ha⟩ : ∃ a, a = I[k]'hkn := ⟨_, rfl⟩
      have hd : I.drop k = a :: I.drop (k + 1) := by rw [ha]; exact drop_at hkn
      have HK := Lib.hid hkn
      by_cases h92 : a = 92 ∧ k + 1 < I.length
      · have e92 : (((((st I)[k]'hks).toNat : Int)) == 92) = true := by
          have e : ((st I)[k]'hks) = a := ha.symm
          rw [e, h92.1]; rfl
        have hlt := h92.2
        have hls : k + 1 < (st I).size := by rw [hg]; exact hlt
        obtain ⟨b, hb⟩ : ∃ b, b = I[k + 1]'hlt := ⟨_, rfl⟩
        have hq := Lib.hid (HR.out.step HB.out ((st I)[k + 1]'hls) (by have := HA.out.2; omega))
        have hnx : acc ++ [(st I)[k + 1]'hls] ++ unqL (I.drop (k + 1 + 1)) = unqL I := by
          have e : ((st I)[k + 1]'hls) = b := hb.symm
          have hd2 : I.drop (k + 1) = b :: I.drop (k + 1 + 1) := by rw [hb]; exact drop_at hlt
          have := HA.out.1
          rw [hd, hd2, unq_two h92.1] at this
          rw [← this, List.append_assoc, e]
          rfl
        have HN := Lib.hid hnx
        have HAl := Lib.hid HA.out.2
        clear hnx hd h92 hb ha
        go_wp2_with (first
          | (go_at_call 139; (with_reducible refine hq.out.mono ?_); rintro e w2 ⟨rfl, hq2⟩; have H2 := Lib.hid hq2; clear hq2))
        refine ⟨⟨k + 1 + 1, _, by omega, rfl, H2, Lib.hid ⟨HN.out, by have := HAl.out; rw [List.length_append, List.length_cons, List.length_nil]; omega⟩⟩, by simp only [RowKit.intOf]; omega⟩
      · have hq := Lib.hid (HR.out.step HB.out ((st I)[k]'hks) (by have := HA.out.2; omega))
        have hnx : acc ++ [(st I)[k]'hks] ++ unqL (I.drop (k + 1)) = unqL I := by
          have e : ((st I)[k]'hks) = a := ha.symm
          have := HA.out.1
          rw [hd, unq_one (fun h => h92 ⟨h.1, by
            rcases Nat.lt_or_ge (k + 1) I.length with h' | h'
            · exact h'
            · exact absurd (List.drop_eq_nil_of_le h') h.2⟩)] at this
          rw [← this, List.append_assoc, e]
          rfl
        have HN := Lib.hid hnx
        have HAl := Lib.hid HA.out.2
        by_cases ha92 : a = 92
        · have e92 : (((((st I)[k]'hks).toNat : Int)) == 92) = true := by
            have e : ((st I)[k]'hks) = a := ha.symm
            rw [e, ha92]; rfl
          have hnl : ¬ k + 1 < I.length := fun h => h92 ⟨ha92, h⟩
          clear hnx hd h92 ha ha92
          go_wp2_with (first
            | (go_at_call 139; (with_reducible refine hq.out.mono ?_); rintro e w2 ⟨rfl, hq2⟩; have H2 := Lib.hid hq2; clear hq2))
          refine ⟨⟨k + 1, _, hkn, rfl, H2, Lib.hid ⟨HN.out, by have := HAl.out; rw [List.length_append, List.length_cons, List.length_nil]; omega⟩⟩, by simp only [RowKit.intOf]; omega⟩
        · have e92 : (((((st I)[k]'hks).toNat : Int)) == 92) = false := by
            have e : ((st I)[k]'hks) = a := ha.symm
            rw [e, beq_eq_false_iff_ne]
            intro h
            exact ha92 (UInt8.toNat_inj.1 (by show a.toNat = 92; omega))
          clear hnx hd h92 ha ha92
          go_wp2_with (first
            | (go_at_call 139; (with_reducible refine hq.out.mono ?_); rintro e w2 ⟨rfl, hq2⟩; have H2 := Lib.hid hq2; clear hq2))
          refine ⟨⟨k + 1, _, hkn, rfl, H2, Lib.hid ⟨HN.out, by have := HAl.out; rw [List.length_append, List.length_cons, List.length_nil]; omega⟩⟩, by simp only [RowKit.intOf]; omega⟩
    · have hkn' : k = I.length := by omega
      have hacc : acc = unqL I := by
        have := HA.out.1
        rw [hkn', List.drop_length] at this
        simpa [unqL] using this
      have HI := Lib.hid (Tryz.Builder_String_any (w.heap.size + 1) (w.heap.size + 1) acc wr HR.out.bu (by have := HR.out.old.size; have := HB.out; omega))
      have HC := Lib.hid hacc
      clear hacc
      have HZ := Lib.hid hkn'
      clear hkn'
      go_wp2_with (first
        | (go_at_call 140; (with_reducible refine HI.out.mono ?_); rintro e w4 ⟨rfl, hb4⟩; have o4 := Lib.hid (old_below HR.out.old (by rw [HB.out]; exact hb4)); clear hb4; have T := Lib.hid (HT.out.old o4.out); have c0 := T.out.c0; have c1 := T.out.c1; have c2 := T.out.c2; have f0 := T.out.f 0; have f1 := T.out.f 1; have f2 := T.out.f 2))
      have R := T.out.set (.int .u8 3) (.int .i64 0) (.string (st acc))
      refine bodyPost_ret (v := .tuple #[vl 3 0 (st acc), .int .i64 0]) (by simp [results, Tryz.results128, go_sem, R.c0, R.c1, R.c2]) rfl ⟨by rw [HC.out], old3 (HO.out.trans o4.out) (Nat.le_refl _) _ _ _⟩
end Go.Proofs.YtgmjpcaennmgoaaGreatDoor
