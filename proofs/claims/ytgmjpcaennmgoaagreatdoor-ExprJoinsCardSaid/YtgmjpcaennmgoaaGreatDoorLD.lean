/- Layer vtext: a text in quotes. -/
import Derived.Test.YtgmjpcaennmgoaaGreatDoorLC
import Derived.Test.YtgmjpcaennmgoaaGreatDoorVN
namespace Go.Proofs.YtgmjpcaennmgoaaGreatDoor
open Go.ChangeShapes Go.WideShapes Go.ChangeAt Go.RowKit Go.Lib
set_option linter.unusedVariables false
set_option maxRecDepth 100000

theorem Bu.isB {w : World} {B b : Nat} {bs : List UInt8} {row : Option Nat} (h : Bu w b bs row) (hB : B ≤ b) (hr : ∀ g, row = some g → B ≤ g) : Lib.IsBuilder 148 5 B b (Lib.byteCells bs) w := by
  obtain ⟨v, h1, h2, h3⟩ := h
  refine Or.inr ⟨hB, v, h1, ?_, Lib.ownBlock_ne h2 h1 (by decide)⟩
  have hl : (Lib.byteCells bs).length = bs.length := by simp [Lib.byteCells]
  rw [hl]
  refine ⟨h2.1, ?_⟩
  rcases h2.2 with hn | ⟨g, cap, cur, e1, e2, rest⟩
  · exact Or.inl hn
  · refine Or.inr ⟨g, cap, cur, e1, hr g ?_, rest⟩
    rw [← h3, e1]; rfl
theorem old_below {w wr w' : World} (ho : Old w wr) (hb : Below w.heap.size wr w') : Old w w' :=
  ⟨hb.os.trans ho.os, hb.output.trans ho.output, Nat.le_trans ho.size hb.size, fun k hk => (hb.block k hk).trans (ho.block k hk)⟩

/-- While a text is told into the builder of block B: its bytes lie in block C. -/
structure Qi (w wr : World) (B C : Nat) (s : ByteArray) (bs : List UInt8) : Prop where
  old : Old w wr
  bu : ∃ row, Bu wr B bs row ∧ row ≠ some C ∧ (∀ g, row = some g → w.heap.size ≤ g)
  cells : ∀ j, j < s.size → wr.cell? ⟨C, j, none⟩ = some (.int .u8 (bt s j))
  lt : C < wr.heap.size
  ne : C ≠ B
theorem old_chg {w wr w' : World} {B : Nat} {row : Option Nat} (ho : Old w wr) (hB : w.heap.size ≤ B) (hr : ∀ g, row = some g → w.heap.size ≤ g) (h : Chg wr w' B row) : Old w w' :=
  ⟨h.os.trans ho.os, h.output.trans ho.output, Nat.le_trans ho.size h.size, fun k hk => (h.block k (Nat.lt_of_lt_of_le hk ho.size) (by omega) (fun e => by have := hr k e.symm; omega)).trans (ho.block k hk)⟩
theorem Qi.step {w wr : World} {B C : Nat} {s : ByteArray} {bs : List UInt8} (h : Qi w wr B C s bs) (hB : w.heap.size ≤ B) (u : UInt8) (x : Int) (hx : x = (u.toNat : Int)) (hl : bs.length + 1 ≤ 1000000) :
    Calls Tryz.prog 139 #[.pointer (some ⟨B, 0, none⟩), .int .u8 x] wr fun e w' => e = .returned .nilIface ∧ Qi w w' B C s (bs ++ [u]) := by
  subst hx
  obtain ⟨row, h1, h2, h3⟩ := h.bu
  refine (wb_used B bs row u wr hl h1).mono ?_
  rintro e w' ⟨rfl, row', k1, k2, k3⟩
  have hs : w'.heap[C]? = wr.heap[C]? := k3.block C h.lt h.ne (fun e => h2 e.symm)
  refine ⟨rfl, old_chg h.old hB h3 k3, ⟨row', k1, ?_, ?_⟩, fun j hj => ?_, Nat.lt_of_lt_of_le h.lt k3.size, h.ne⟩
  · rcases k2 with rfl | ⟨g, rfl, hg⟩
    · exact h2
    · intro e
      have := Option.some.inj e
      have := h.lt
      omega
  · rcases k2 with rfl | ⟨g, rfl, hg⟩
    · exact h3
    · intro g' e
      obtain rfl := Option.some.inj e
      exact Nat.le_trans h.old.size hg
  · exact (World.cell?_of_block (a := ⟨C, j, none⟩) hs).trans (h.cells j hj)

/-- A byte as it stands in a text in quotes. -/
def escB (c : UInt8) : List UInt8 := if c = 34 ∨ c = 92 then [92, c] else [c]
def escL (l : List UInt8) : List UInt8 := l.flatMap escB
def quoteL (l : List UInt8) : List UInt8 := 34 :: (escL l ++ [34])
theorem escL_len : ∀ l : List UInt8, (escL l).length ≤ 2 * l.length
  | [] => by simp [escL]
  | x :: l => by
    have := escL_len l
    unfold escL at *
    rw [List.flatMap_cons, List.length_append, List.length_cons]
    have : (escB x).length ≤ 2 := by unfold escB; split <;> simp
    omega
theorem bt_of {s : ByteArray} {k : Nat} (h : k < s.size) : bt s k = ((s.data.toList[k]'(by simpa using h)).toNat : Int) := by
  unfold bt
  rw [List.getD_eq_getElem?_getD, List.getElem?_eq_getElem (by simpa using h)]
  rfl
theorem esc_more {s : ByteArray} {k : Nat} (h : k < s.size) : escL (s.data.toList.take (k + 1)) = escL (s.data.toList.take k) ++ escB (s.data.toList[k]'(by simpa using h)) := by
  rw [List.take_succ_eq_append_getElem (by simpa using h)]
  unfold escL
  rw [List.flatMap_append]
  simp

set_option maxHeartbeats 1600000 in
theorem quoted_any (s : ByteArray) (w : World) (hs : s.size ≤ 1000) :
    Calls Tryz.prog 135 #[.string s] w fun e w' => e = .returned (.string (⟨(quoteL s.data.toList).toArray⟩ : ByteArray)) ∧ Old w w' := by
  have hfr : (w.alloc (.cells #[.pointer none, .slice none 0 0] 148)).heap[w.heap.size]? = some (.cells #[.pointer none, .slice none 0 0] 148 (0, 0)) := (MapKept.heap_alloc w _).1
  have hq : Calls Tryz.prog 139 #[.pointer (some ⟨w.heap.size, 0, none⟩), .int .u8 34] (w.alloc (.cells #[.pointer none, .slice none 0 0] 148)) _ := wb_fresh w.heap.size 34 _ hfr
  clear hfr
  have HS := Lib.hid hs
  go_enter Tryz.func135, Tryz.ntmps135
  go_upto_region 3 with (go_at_call 139; refine hq.mono ?_; rintro e w1 ⟨rfl, row, hb1, hr1, hg1⟩)
  clear hq
  obtain ⟨cap, W1, hc, hO, hcell⟩ := conv_cells w1 s
  have hQ : Qi w W1 w.heap.size w1.heap.size s [34] := by
    have hOw : Old w w1 := old_chg (((Old.refl w).alloc (.cells #[.pointer none, .slice none 0 0] 148))) (Nat.le_refl _) (by intro g hg; cases hg) hg1
    have hsz := hg1.size
    simp at hsz
    refine ⟨hOw.trans hO, ⟨row, hb1.old hO, ?_, ?_⟩, hcell, ?_, by omega⟩
    · intro e
      have := hb1.row_lt _ e
      omega
    · rcases hr1 with rfl | ⟨g, rfl, hg⟩
      · intro g hg; cases hg
      · intro g' e
        obtain rfl := Option.some.inj e
        simp at hg
        omega
    · have h := run_bytes_of_string (P := Tryz.prog) w1 9 42 5 s Tryz.underlying9 Tryz.underlying42 Tryz.underlying5
      rw [hc] at h
      simp only [Result.ok.injEq] at h
      rw [h.2]
      simp
  clear hb1 hr1 hg1 hO hcell
  have HQ := Lib.hid hQ
  clear hQ
  obtain ⟨n, hn⟩ : ∃ n, n = s.size := ⟨_, rfl⟩
  rw [← hn] at hc hs
  have HN := Lib.hid hn
  have hn' := hn.symm
  clear hn
  generalize w1.heap.size = C at *
  generalize hBw : w.heap.size = B at *
  have HB := Lib.hid hBw
  clear hBw
  go_wp2
  go_loopw [10] (fun i wr => ∃ k : Nat, k ≤ n ∧ i = .int .i64 (k : Int) ∧ Hid (Qi w wr B C s (34 :: escL (s.data.toList.take k)))) (fun i _ => (n - RowKit.intOf i).toNat)
  case atStart => exact ⟨0, Nat.zero_le _, rfl, HQ⟩
  case round =>
    obtain ⟨k, hk, rfl, HR⟩ := hrel
    by_cases hkn : k < n
    · have hks : k < s.size := by rw [← HN.out]; exact hkn
      have d0 := HR.out.cells k hks
      have hb0 := bt_of hks
      obtain ⟨u, hu⟩ : ∃ u, u = s.data.toList[k]'(by simpa using hks) := ⟨_, rfl⟩
      rw [← hu] at hb0
      have hm := esc_more hks
      rw [← hu] at hm
      obtain ⟨b, hb⟩ : ∃ b, b = bt s k := ⟨_, rfl⟩
      rw [← hb] at d0 hb0
      have hl : (34 :: escL (s.data.toList.take k)).length ≤ 2 * k + 1 := by
        have := escL_len (s.data.toList.take k)
        have := List.length_take_le k s.data.toList
        simp only [List.length_cons]
        omega
      have HX := Lib.hid hb0
      have HM := Lib.hid hm
      have HL := Lib.hid hl
      have HK := Lib.hid hk
      have HNN := Lib.hid hs
      have hBB := Lib.hid (Nat.le_of_eq HB.out)
      generalize hbs : 34 :: escL (s.data.toList.take k) = bs at *
      have HBS := Lib.hid hbs
      have HLT : Hid (bs.length + 3 ≤ 1000000) := Lib.hid (by have := HL.out; omega)
      clear hb hb0 hu hm hl hks hbs
      have h92 := Lib.hid (HR.out.step hBB.out 92 92 rfl (by have := HLT.out; omega))
      have hu1 := Lib.hid (HR.out.step hBB.out u b HX.out (by have := HLT.out; omega))
      have hfin1 : (b = 34 ∨ b = 92) → escB u = [92, u] := by
        intro h
        unfold escB
        rw [if_pos]
        have := HX.out
        rcases h with h | h
        · left; apply UInt8.toNat_inj.1; simp; omega
        · right; apply UInt8.toNat_inj.1; simp; omega
      have hfin2 : ¬ (b = 34 ∨ b = 92) → escB u = [u] := by
        intro h
        unfold escB
        rw [if_neg]
        have := HX.out
        rintro (e | e)
        · apply h; left; rw [this, e]; rfl
        · apply h; right; rw [this, e]; rfl
      have HF1 := Lib.hid hfin1
      have HF2 := Lib.hid hfin2
      clear hfin1 hfin2
      by_cases h34 : b = 34
      · have e34 : (b == 34) = true := by simpa using h34
        have he := Lib.hid (HF1.out (Or.inl h34))
        clear h34 hu1
        go_wp2_with (first
          | (go_at_call 139; (with_reducible refine h92.out.mono ?_); rintro e w2 ⟨rfl, hq2⟩; have H2 := Lib.hid (hq2.step hBB.out u b HX.out (by have := HLT.out; simp only [List.length_append, List.length_cons, List.length_nil]; omega)); clear hq2)
          | (go_at_call 139; (with_reducible refine H2.out.mono ?_); rintro e w3 ⟨rfl, hq3⟩; have H3 := Lib.hid hq3; clear hq3))
        refine ⟨⟨k + 1, hkn, rfl, Lib.hid ?_⟩, by simp only [RowKit.intOf]; omega⟩
        rw [HM.out, he.out, ← List.cons_append, HBS.out]
        have := H3.out
        rwa [List.append_assoc] at this
      · have e34 : (b == 34) = false := by simpa using h34
        by_cases h92' : b = 92
        · have e92 : (b == 92) = true := by simpa using h92'
          have he := Lib.hid (HF1.out (Or.inr h92'))
          clear h34 h92' hu1
          go_wp2_with (first
            | (go_at_call 139; (with_reducible refine h92.out.mono ?_); rintro e w2 ⟨rfl, hq2⟩; have H2 := Lib.hid (hq2.step hBB.out u b HX.out (by have := HLT.out; simp only [List.length_append, List.length_cons, List.length_nil]; omega)); clear hq2)
            | (go_at_call 139; (with_reducible refine H2.out.mono ?_); rintro e w3 ⟨rfl, hq3⟩; have H3 := Lib.hid hq3; clear hq3))
          refine ⟨⟨k + 1, hkn, rfl, Lib.hid ?_⟩, by simp only [RowKit.intOf]; omega⟩
          rw [HM.out, he.out, ← List.cons_append, HBS.out]
          have := H3.out
          rwa [List.append_assoc] at this
        · have e92 : (b == 92) = false := by simpa using h92'
          have he := Lib.hid (HF2.out (by intro h; rcases h with h | h; exact h34 h; exact h92' h))
          clear h34 h92' h92
          go_wp2_with (first
            | (go_at_call 139; (with_reducible refine hu1.out.mono ?_); rintro e w3 ⟨rfl, hq3⟩; have H3 := Lib.hid hq3; clear hq3))
          refine ⟨⟨k + 1, hkn, rfl, Lib.hid ?_⟩, by simp only [RowKit.intOf]; omega⟩
          rw [HM.out, he.out, ← List.cons_append, HBS.out]
          exact H3.out
    · have hkn' : k = n := by omega
      subst hkn'
      have hT : s.data.toList.take k = s.data.toList := by rw [HN.out]; exact List.take_of_length_le (by simp)
      rw [hT] at HR
      have hl : (34 :: escL s.data.toList).length ≤ 2 * k + 1 := by
        have := escL_len s.data.toList
        have := HN.out
        have e : s.data.toList.length = s.size := by simp
        simp only [List.length_cons]
        omega
      have HNN := Lib.hid hs
      have hq := Lib.hid (HR.out.step (Nat.le_of_eq HB.out) 34 34 rfl (by omega))
      clear hT hl HR
      go_wp2_with (first
        | (go_at_call 139; (with_reducible refine hq.out.mono ?_); rintro e w3 ⟨rfl, hq3⟩; have H3 := Lib.hid hq3; clear hq3; obtain ⟨row3, g1, g2, g3⟩ := H3.out.bu; have HI := Lib.hid (Tryz.Builder_String_any w.heap.size B _ w3 (g1.isB (Nat.le_of_eq HB.out) g3) H3.out.old.size); clear g1 g2 g3)
        | (go_at_call 140; (with_reducible refine HI.out.mono ?_); rintro e w4 ⟨rfl, hb4⟩))
      go_ret
      exact ⟨rfl, old_below H3.out.old hb4⟩
end Go.Proofs.YtgmjpcaennmgoaaGreatDoor
