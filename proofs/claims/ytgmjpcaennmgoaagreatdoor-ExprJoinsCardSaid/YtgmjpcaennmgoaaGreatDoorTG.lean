/- Layer lexer: what stands between words is passed over. -/
import Derived.Test.YtgmjpcaennmgoaaGreatDoorTF
import Derived.StillTailTactics
namespace Go.Proofs.YtgmjpcaennmgoaaGreatDoor
open Go.ChangeShapes Go.WideShapes Go.ChangeAt Go.RowKit Go.Lib
set_option linter.unusedVariables false
set_option linter.unusedSimpArgs false
set_option maxRecDepth 100000

/-- What was there is as it was, but for some blocks. -/
structure Chx (S : Nat → Prop) (w w' : World) : Prop where
  os : w'.os = w.os
  output : w'.output = w.output
  size : w.heap.size ≤ w'.heap.size
  block : ∀ k, k < w.heap.size → ¬ S k → w'.heap[k]? = w.heap[k]?
theorem Chx.ofOld {S : Nat → Prop} {w w' : World} (h : Old w w') : Chx S w w' := ⟨h.os, h.output, h.size, fun k hk _ => h.block k hk⟩
theorem Chx.trans {S : Nat → Prop} {a b c : World} (h : Chx S a b) (k : Chx S b c) : Chx S a c :=
  ⟨k.os.trans h.os, k.output.trans h.output, Nat.le_trans h.size k.size, fun i hi hs => (k.block i (Nat.lt_of_lt_of_le hi h.size) hs).trans (h.block i hi hs)⟩
/-- What changes lies beyond what was there at the start. -/
theorem Chx.old {S : Nat → Prop} {a w w' : World} (h : Chx S w w') (ho : Old a w) (hs : ∀ k, S k → a.heap.size ≤ k) : Old a w' :=
  ⟨h.os.trans ho.os, h.output.trans ho.output, Nat.le_trans ho.size h.size, fun k hk => (h.block k (Nat.lt_of_lt_of_le hk ho.size) (fun e => by have := hs k e; omega)).trans (ho.block k hk)⟩
theorem Chx.ofSet (w : World) (p : Addr) (u : Value) : Chx (· = p.block) w (w.setCell p u) :=
  ⟨rfl, rfl, by rw [World.setCell]; simp, fun k hk hs => by
    show (w.heap.modify p.block _)[k]? = _
    rw [Array.getElem?_modify, if_neg (fun e => hs e.symm)]⟩
theorem Boxed.chg {S : Nat → Prop} {w w' : World} {x : Nat} {t : TypeId} {v : Value} (h : Boxed w x t v) (hc : Chx S w w') (hs : ¬ S x) : Boxed w' x t v := (hc.block x (blk_lt h) hs).trans h
theorem Rb.ne {W : World} {x b : Nat} {s : ByteArray} {j L B : Int} (h : Rb W x b s j L B) : x ≠ b := by
  rintro rfl
  have := h.box.symm.trans h.rd
  simp at this

theorem Rdr.drewN {w : World} {b : Nat} {s : ByteArray} {j L B : Int} (h : Rdr w b s j L B) (n : Nat) : Rdr (w.drewN n) b s j L B := h
theorem box_far {W : World} {x b o : Nat} {t : TypeId} {v : Value} (h : Boxed W x t v) (hne : x ≠ b) (u : Value) : (W.setCell ⟨b, o, none⟩ u).cell? ⟨x, 0, none⟩ = some v :=
  (World.cell?_of_block (w := W) (by
    show (W.heap.modify b _)[x]? = _
    rw [Array.getElem?_modify, if_neg (Ne.symm hne)])).trans h.cell
/-- A remark, to its end. -/
theorem skip_line : ∀ (l : List UInt8) (L C : Nat), skipL true l L C = skipL false (l.drop (goL (runS (fun c => c != 10)) () l)) L (C + goL (runS (fun c => c != 10)) () l)
  | [], L, C => rfl
  | c :: r, L, C => by
    by_cases h : c = 10
    · subst h
      rw [goL_stop (by rfl)]
      rfl
    · have hs : runS (fun c => c != 10) () (c :: r) = some () := by
        rw [show runS (fun c => c != 10) () (c :: r) = if c != 10 then some () else none from rfl, if_pos (by simpa using h)]
      rw [goL_go hs, skipL, if_neg h, skip_line r L (C + 1), List.drop_succ_cons]
      congr 1
      omega
theorem skip_sp (r : List UInt8) (L C : Nat) : skipL false (32 :: r) L C = skipL false r L (C + 1) := rfl
theorem skip_nl (r : List UInt8) (L C : Nat) : skipL false (10 :: r) L C = skipL false r (L + 1) 1 := rfl
theorem skip_sc (r : List UInt8) (L C : Nat) : skipL false (59 :: r) L C = skipL true r L (C + 1) := rfl
theorem skip_no (c : UInt8) (r : List UInt8) (L C : Nat) (h1 : c ≠ 32) (h2 : c ≠ 10) (h3 : c ≠ 59) : skipL false (c :: r) L C = (c :: r, L, C) := by
  rw [skipL, if_neg h1, if_neg h2, if_neg h3]

/-- While blanks are passed over. -/
structure Sk (w W : World) (x b : Nat) (s : ByteArray) (i0 L0 C0 i L B : Nat) : Prop where
  rb : Rb W x b s (i : Int) (L : Int) (B : Int)
  chg : Chx (· = b) w W
  ib : B ≤ i
  il : i ≤ s.size
  ge : i0 ≤ i
  lin : L + i0 ≤ L0 + i
  eq : skipL false (s.data.toList.drop i0) L0 C0 = skipL false (s.data.toList.drop i) L (i + 1 - B)

theorem Sk.move {w W W' : World} {x b : Nat} {s : ByteArray} {i0 L0 C0 i L B i' L' B' : Nat} (h : Sk w W x b s i0 L0 C0 i L B) (hc : Chx (· = b) W W') (hr : Rdr W' b s (i' : Int) (L' : Int) (B' : Int)) (h1 : B' ≤ i') (h2 : i' ≤ s.size) (h3 : i < i') (h4 : L' ≤ L + 1)
    (he : skipL false (s.data.toList.drop i) L (i + 1 - B) = skipL false (s.data.toList.drop i') L' (i' + 1 - B')) : Sk w W' x b s i0 L0 C0 i' L' B' :=
  ⟨⟨Boxed.chg h.rb.box hc h.rb.ne, hr⟩, h.chg.trans hc, h1, h2, by have := h.ge; omega, by have := h.lin; omega, h.eq.trans he⟩
theorem Sk.drewN {w W : World} {x b : Nat} {s : ByteArray} {i0 L0 C0 i L B : Nat} (h : Sk w W x b s i0 L0 C0 i L B) (n : Nat) : Sk w (W.drewN n) x b s i0 L0 C0 i L B :=
  ⟨⟨h.rb.box, h.rb.rd⟩, ⟨h.chg.os, h.chg.output, h.chg.size, h.chg.block⟩, h.ib, h.il, h.ge, h.lin, h.eq⟩
theorem Sk.drew {w W : World} {x b : Nat} {s : ByteArray} {i0 L0 C0 i L B : Nat} (h : Sk w W x b s i0 L0 C0 i L B) : Sk w W.drew x b s i0 L0 C0 i L B :=
  ⟨⟨h.rb.box, h.rb.rd⟩, ⟨h.chg.os, h.chg.output, h.chg.size, h.chg.block⟩, h.ib, h.il, h.ge, h.lin, h.eq⟩
theorem Chx.drewN {S : Nat → Prop} {w w' : World} (h : Chx S w w') (n : Nat) : Chx S w (w'.drewN n) := ⟨h.os, h.output, h.size, h.block⟩
theorem nat_succ (i : Nat) : ((i : Int) + 1) = ((i + 1 : Nat) : Int) := by omega
theorem Sk.sp {w W : World} {x b : Nat} {s : ByteArray} {i0 L0 C0 i L B : Nat} (h : Sk w W x b s i0 L0 C0 i L B) (hd : s.data.toList.drop i = 32 :: s.data.toList.drop (i + 1)) (hi : i < s.size) :
    Sk w (W.setCell ⟨b, 1, none⟩ (.int .i64 ((i : Int) + 1))) x b s i0 L0 C0 (i + 1) L B := by
  have h5 := h.ib
  refine h.move (Chx.ofSet W ⟨b, 1, none⟩ _) (by rw [nat_succ]; exact h.rb.rd.set1 _) (by omega) (by omega) (by omega) (by omega) ?_
  rw [hd, skip_sp]
  congr 1
  omega
theorem Sk.nl {w W W2 : World} {x b : Nat} {s : ByteArray} {i0 L0 C0 i L B : Nat} (h : Sk w W x b s i0 L0 C0 i L B) (hd : s.data.toList.drop i = 10 :: s.data.toList.drop (i + 1)) (hi : i < s.size)
    (hc : Chx (· = b) W W2) (hr : Rdr W2 b s ((i + 1 : Nat) : Int) ((L + 1 : Nat) : Int) (B : Int)) :
    Sk w (W2.setCell ⟨b, 3, none⟩ (.int .i64 ((i : Int) + 1))) x b s i0 L0 C0 (i + 1) (L + 1) (i + 1) := by
  have h5 := h.ib
  refine h.move (hc.trans (Chx.ofSet _ ⟨b, 3, none⟩ _)) ?_ (by omega) (by omega) (by omega) (by omega) ?_
  · rw [nat_succ]
    exact hr.set3 _
  · rw [hd, skip_nl]
    congr 1
    omega
theorem Sk.sc {w W W2 : World} {x b : Nat} {s : ByteArray} {i0 L0 C0 i L B : Nat} (h : Sk w W x b s i0 L0 C0 i L B) (hd : s.data.toList.drop i = 59 :: s.data.toList.drop (i + 1)) (hi : i < s.size)
    (hc : Chx (· = b) W W2) (hr : Rdr W2 b s (i : Int) (L : Int) (B : Int)) (k : Nat) (hk : k = i + 1 + goL (runS (fun c => c != 10)) () (s.data.toList.drop (i + 1))) :
    Sk w (W2.setCell ⟨b, 1, none⟩ (.int .i64 (k : Int))) x b s i0 L0 C0 k L B := by
  have h5 := h.ib
  have h6 := goL_le (runS (fun c => c != 10)) () (s.data.toList.drop (i + 1))
  rw [List.length_drop, Array.length_toList] at h6
  have h7 : s.data.size = s.size := rfl
  refine h.move (hc.trans (Chx.ofSet _ ⟨b, 1, none⟩ _)) (hr.set1 _) (by omega) (by omega) (by omega) (by omega) ?_
  rw [hd, skip_sc, skip_line, List.drop_drop, ← hk]
  congr 1
  omega
theorem line_reach (W : World) (x b i : Nat) (s : ByteArray) (L B : Int) (h : Rb W x b s (i : Int) L B) (hs : s.size ≤ 900000) (hi : i < s.size) :
    Calls Tryz.prog 57 #[.pointer (some ⟨b, 0, none⟩), .func (.func 58) #[] #[.pointer (some ⟨x, 0, none⟩)]] W fun e w' => e = .returned (.int .i64 ((i + 1 + goL (runS (fun c => c != 10)) () (s.data.toList.drop (i + 1)) : Nat) : Int)) ∧ Old W w' := by
  refine (reach_any 58 _ s (runS (fun c => c != 10)) _ b i L B () (enters_of Tryz.func58 (by kernel_rfl) rfl) (by omega) hi ?_ (asks_line s x b (i : Int) L B (Old W)) W ⟨h, Old.refl W⟩).mono ?_
  · intro i a A hC
    exact hC.1.rd
  · rintro e w' ⟨rfl, i, a, hC⟩
    exact ⟨rfl, hC.2⟩
theorem Chx.drew {S : Nat → Prop} {w w' : World} (h : Chx S w w') : Chx S w w'.drew := ⟨h.os, h.output, h.size, h.block⟩
theorem Rdr.drew {w : World} {b : Nat} {s : ByteArray} {j L B : Int} (h : Rdr w b s j L B) : Rdr w.drew b s j L B := h
/-- A reader whose blanks are passed over. -/
def Skd (w w' : World) (b : Nat) (s : ByteArray) (i0 L0 C0 : Nat) : Prop :=
  ∃ i L B : Nat, Rdr w' b s (i : Int) (L : Int) (B : Int) ∧ Chx (· = b) w w' ∧ B ≤ i ∧ i ≤ s.size ∧ i0 ≤ i ∧ L + i0 ≤ L0 + i ∧ skipL false (s.data.toList.drop i0) L0 C0 = (s.data.toList.drop i, L, i + 1 - B)

theorem Sk.done {w W : World} {x b : Nat} {s : ByteArray} {i0 L0 C0 i L B : Nat} (h : Sk w W x b s i0 L0 C0 i L B) (hd : skipL false (s.data.toList.drop i) L (i + 1 - B) = (s.data.toList.drop i, L, i + 1 - B)) : Skd w W b s i0 L0 C0 :=
  ⟨i, L, B, h.rb.rd, h.chg, h.ib, h.il, h.ge, h.lin, h.eq.trans hd⟩

/-- The reader's place, as it lies. -/
def nextOf (W : World) (b : Nat) : Nat := match W.cell? ⟨b, 1, none⟩ with | some (.int _ n) => n.toNat | _ => 0
theorem nextOf_eq {W : World} {b : Nat} {s : ByteArray} {i : Nat} {L B : Int} (h : Rdr W b s (i : Int) L B) : nextOf W b = i := by
  unfold nextOf
  rw [h.c1]
  rfl

set_option maxHeartbeats 1600000 in
theorem skip_any (w : World) (b i0 L0 B0 : Nat) (s : ByteArray) (hr : Rdr w b s (i0 : Int) (L0 : Int) (B0 : Int)) (hs : s.size ≤ 900000) (hi : i0 ≤ s.size) (hb : B0 ≤ i0) (hL : L0 ≤ 900001) :
    Calls Tryz.prog 33 #[.pointer (some ⟨b, 0, none⟩)] w fun e w' => (∃ v, e = .returned v) ∧ Skd w w' b s i0 L0 (i0 + 1 - B0) := by
  have HS : Hid (Sk w (w.alloc (.cells #[.pointer (some ⟨b, 0, none⟩)] 88)) w.heap.size b s i0 L0 (i0 + 1 - B0) i0 L0 B0) := Lib.hid ⟨Rb.new hr, Chx.ofOld ((Old.refl w).alloc _), hb, hi, Nat.le_refl _, by omega, rfl⟩
  clear hr
  go_enter Tryz.func33, Tryz.ntmps33
  go_wp2
  go_loopw [] (fun wr => ∃ i L B : Nat, Hid (Sk w wr w.heap.size b s i0 L0 (i0 + 1 - B0) i L B)) (fun wr => s.size - nextOf wr b)
  case atStart => exact ⟨i0, L0, B0, HS⟩
  case round =>
    clear HS
    obtain ⟨i, L, B, HS⟩ := hrel
    have c0 := HS.out.rb.rd.c0
    have f0 := HS.out.rb.rd.f 0
    have c1 := HS.out.rb.rd.c1
    have f1 := HS.out.rb.rd.f 1
    have b0 := HS.out.rb.box.cell
    have g0 := HS.out.rb.box.frozen
    have hL9 : L ≤ 2000000 := by have := HS.out.lin; have := HS.out.il; omega
    have hib := HS.out.ib
    rcases Nat.lt_or_ge i s.size with hi1 | hi1
    · have hl : i < s.data.toList.length := by rw [Array.length_toList]; exact hi1
      obtain ⟨c, hc⟩ : ∃ c, c = s.data.toList[i] := ⟨_, rfl⟩
      have hx := fun W => idx_any s i c (by rw [hc]; exact List.getElem?_eq_getElem hl) W
      have HD := Lib.hid (show s.data.toList.drop i = c :: s.data.toList.drop (i + 1) by rw [hc]; exact List.drop_eq_getElem_cons hl)
      clear hc hl
      by_cases h1 : c = 32
      · subst h1
        have c2 := HS.out.rb.rd.c2
        go_wp2
        go_quiet (fail)
        go_wp2
        go_quiet (fail)
        go_wp2
        refine ⟨⟨i + 1, L, B, Lib.hid ((HS.out.drewN _).sp HD.out hi1)⟩, ?_⟩
        rw [nextOf_eq ((HS.out.drewN _).sp HD.out hi1).rb.rd, nextOf_eq HS.out.rb.rd]
        omega
      by_cases h2 : c = 10
      · subst h2
        have c2 := HS.out.rb.rd.c2
        have f2 := HS.out.rb.rd.f 2
        have f3 := HS.out.rb.rd.f 3
        go_wp2
        go_quiet (fail)
        go_wp2
        go_quiet (fail)
        go_wp2
        rename_i n1
        generalize hW5 : World.setCell (World.setCell (World.drewN wr (n1 + nq)) ⟨b, 1, none⟩ (.int .i64 ((i : Int) + 1))) ⟨b, 2, none⟩ (.int .i64 ((L : Int) + 1)) = W5
        have hr5 : Rdr W5 b s ((i + 1 : Nat) : Int) ((L + 1 : Nat) : Int) (B : Int) := by
          rw [← hW5, nat_succ, nat_succ]
          exact ((HS.out.drewN (n1 + nq)).rb.rd.set1 _).set2 _
        have hc5 : Chx (· = b) wr W5 := by
          rw [← hW5]
          exact ((Chx.ofOld ((Old.refl wr).drewN (n1 + nq))).trans (Chx.ofSet _ ⟨b, 1, none⟩ _)).trans (Chx.ofSet _ ⟨b, 2, none⟩ _)
        have H5 := Lib.hid hr5
        have C5 := Lib.hid hc5
        have d0 := (Boxed.chg HS.out.rb.box hc5 HS.out.rb.ne).cell
        have d1 := hr5.c1
        have e3 := hr5.f 3
        have d3 := hr5.c3
        rw [← nat_succ] at d1
        clear hW5 hr5 hc5 c0 f0 c1 f1 b0 g0 c2 f2 f3
        go_still_tail 7, (by kernel_rfl)
        change wpList _ _ _ _ _ (World.drew W5)
        go_wp2
        have HN := Lib.hid (HS.out.nl HD.out hi1 C5.out H5.out).drew
        refine ⟨⟨i + 1, L + 1, i + 1, HN⟩, ?_⟩
        rw [nextOf_eq HN.out.rb.rd, nextOf_eq HS.out.rb.rd]
        omega
      by_cases h3 : c = 59
      · subst h3
        go_wp2
        go_quiet (fail)
        go_wp2
        go_quiet (fail)
        go_wp2
        rename_i n1
        go_region_held3 (fun w' => w'.cell? ⟨w.heap.size, 0, none⟩ = some (.pointer (some ⟨b, 0, none⟩)))
          (first | exact b0 | exact b1 | exact box_far R1.box HS.out.rb.ne _ | go_keep)
          (first
            | (go_at_call 57; refine (line_reach _ w.heap.size b i s (L : Int) (B : Int) (HS.out.drewN _).rb hs hi1).mono ?_; rintro e w1 ⟨rfl, o1⟩; have O1 := Lib.hid o1; have R1 := Rb.old (HS.out.drewN _).rb o1; have b1 := Boxed.cell R1.box; have f9 := R1.rd.f 1; have e9 := R1.rd.c1))
        all_goals
          go_wp2
          have HN := Lib.hid (HS.out.sc HD.out hi1 ((Chx.ofOld ((Old.refl wr).drewN _)).trans (Chx.ofOld O1.out)) R1.rd (i + 1 + goL (runS (fun c => c != 10)) () (s.data.toList.drop (i + 1))) rfl)
          rw [Int.natCast_add, Int.natCast_add, Int.natCast_one] at HN
          refine ⟨⟨_, L, B, HN⟩, ?_⟩
          rw [← Int.natCast_one, ← Int.natCast_add, ← Int.natCast_add] at HN ⊢
          rw [nextOf_eq HN.out.rb.rd, nextOf_eq HS.out.rb.rd]
          omega
      have k1 : (c.toNat : Int) ≠ 32 := u8_int (d := 32) h1
      have k2 : (c.toNat : Int) ≠ 10 := u8_int (d := 10) h2
      have k3 : (c.toNat : Int) ≠ 59 := u8_int (d := 59) h3
      go_wp2
      go_quiet (fail)
      go_wp2
      go_quiet (fail)
      go_wp2
      refine bodyPost_ret (v := .tuple #[]) (by simp [results, Tryz.results33, go_sem]) rfl ?_
      exact ⟨⟨_, rfl⟩, (HS.out.drewN _).done (by rw [HD.out, skip_no c _ _ _ h1 h2 h3])⟩
    · go_wp2
      go_quiet (fail)
      go_wp2
      refine bodyPost_end (v := .tuple #[]) (by simp [results, Tryz.results33, go_sem]) rfl ?_
      exact ⟨⟨_, rfl⟩, (HS.out.drewN _).done (by rw [List.drop_eq_nil_of_le (by rw [Array.length_toList]; exact hi1)]; rfl)⟩
end Go.Proofs.YtgmjpcaennmgoaaGreatDoor
