/- The document's own answers of layer value: As. -/
import Derived.Test.YtmoomdikgfeifaaRV
namespace Go.Proofs.Ytmoomdikgfeifaa
open Go.ChangeShapes Go.WideShapes Go.ChangeAt Go.RowKit
set_option linter.unusedVariables false

theorem RN.two {w2 : World} {b : Nat} {x : Bool} {a : Option Addr} {m c : Nat} {n : Int} {nz : Bool} {oz : Option Addr} {lz cz' : Nat} (h : Two w2 b (.bool x) (.slice a m c)) (hz : RN w2 (.agg #[.bool nz, .slice oz lz cz']) n) (u u' : Value) :
    RN ((w2.setCell ⟨b, 0, none⟩ u).setCell ⟨b, 1, none⟩ u') (.agg #[.bool nz, .slice oz lz cz']) n := by
  obtain ⟨v, ev, hr⟩ := hz
  simp only [Value.agg.injEq, Array.mk.injEq, List.cons.injEq, and_true, Value.bool.injEq] at ev
  obtain ⟨e1, rfl⟩ := ev
  exact ⟨_, by rw [e1], h.rd2 hr _ _⟩
theorem RN.alloc {w : World} {x : Value} {n : Int} (h : RN w x n) (o : Obj) : RN (w.alloc o) x n := h.old ((Old.refl w).alloc o)

theorem Three.far {w : World} {b : Nat} {x y z : Value} (h : Three w b x y z) {p : Addr} (hp : b ≠ p.block) (u : Value) : Three (w.setCell p u) b x y z := (Below.heap_setCell w p u b hp).trans h

set_option maxHeartbeats 1600000 in
theorem as_same (k n : Int) (s : ByteArray) (K : Int) (w : World) (hK : ¬ (k = 1 ∧ K = 2)) (hn : I64 n) : Calls Try.prog 40 #[vl k n s, .int .u8 K] w fun e w' => e = rv K n 0 ∧ Old w w' := by
  have HO := Lib.hid (((Old.refl w).alloc (.cells #[.int .u8 k, .int .i64 n, .string s] 23)).alloc (.cells #[.int .u8 0, .int .i64 0, .string ⟨#[]⟩] 23))
  have HB := Lib.hid (Bx2.new w k n s 0 0 ⟨#[]⟩)
  have hc : ¬ k = 1 ∨ (k = 1 ∧ (K == 2) = false) := by
    by_cases h : k = 1
    · right
      refine ⟨h, ?_⟩
      have : ¬ K = 2 := fun h2 => hK ⟨h, h2⟩
      simpa using this
    · exact Or.inl h
  clear hK
  have hI := fun W x h => intI n x W h (i64_lo hn)
  rw [fitV_in hn, fitE_in hn] at hI
  rcases hc with hk | ⟨hk, hK⟩
  · have hk' : (k == 1) = false := by simpa using hk
    go_enter Try.func40, Try.ntmps40
    go_wp2_with (first
      | (go_at_call 41; ((with_reducible refine (ofI n _ hn).mono ?_); rintro e w1 ⟨x, rfl, hx, o1⟩; obtain ⟨nz, oz, lz, cz', rfl⟩ := hx.form; have B1 := Lib.hid ((HB.out.old o1).old ((Old.refl w1).alloc (.cells #[.bool nz, .slice oz lz cz'] 47))); have c0 := B1.out.t0.c0; have c1 := B1.out.t0.c1; have c2 := B1.out.t0.c2; have hx2 := Lib.hid (hx.alloc (.cells #[.bool nz, .slice oz lz cz'] 47))))
      | (go_at_call 47; ((with_reducible refine (hI _ _ hx2.out).mono ?_); clear c0 c1 c2; rintro e w2 ⟨rfl, o2⟩; have B2 := Lib.hid (B1.out.old o2); have c0 := B2.out.t1.c0; have c1 := B2.out.t1.c1; have c2 := B2.out.t1.c2; have f0 := B2.out.t1.f 0; have f1 := B2.out.t1.f 1; have f2 := B2.out.t1.f 2)))
    have R := B2.out.t1.set (.int .u8 K) (.int .i64 n) (.string ⟨#[]⟩)
    exact bodyPost_ret (v := .tuple #[vl K n ⟨#[]⟩, .int .i64 0]) (by simp [results, Try.results40, go_sem, R.c0, R.c1, R.c2]) rfl ⟨rfl, old3 B2.out.o (by omega) _ _ _⟩
  · subst hk
    go_enter Try.func40, Try.ntmps40
    go_wp2_with (first
      | (go_at_call 41; ((with_reducible refine (ofI n _ hn).mono ?_); rintro e w1 ⟨x, rfl, hx, o1⟩; obtain ⟨nz, oz, lz, cz', rfl⟩ := hx.form; have B1 := Lib.hid ((HB.out.old o1).old ((Old.refl w1).alloc (.cells #[.bool nz, .slice oz lz cz'] 47))); have c0 := B1.out.t0.c0; have c1 := B1.out.t0.c1; have c2 := B1.out.t0.c2; have hx2 := Lib.hid (hx.alloc (.cells #[.bool nz, .slice oz lz cz'] 47))))
      | (go_at_call 47; ((with_reducible refine (hI _ _ hx2.out).mono ?_); clear c0 c1 c2; rintro e w2 ⟨rfl, o2⟩; have B2 := Lib.hid (B1.out.old o2); have c0 := B2.out.t1.c0; have c1 := B2.out.t1.c1; have c2 := B2.out.t1.c2; have f0 := B2.out.t1.f 0; have f1 := B2.out.t1.f 1; have f2 := B2.out.t1.f 2)))
    have R := B2.out.t1.set (.int .u8 K) (.int .i64 n) (.string ⟨#[]⟩)
    exact bodyPost_ret (v := .tuple #[vl K n ⟨#[]⟩, .int .i64 0]) (by simp [results, Try.results40, go_sem, R.c0, R.c1, R.c2]) rfl ⟨rfl, old3 B2.out.o (by omega) _ _ _⟩

set_option maxHeartbeats 1600000 in
theorem as_more (n : Int) (s : ByteArray) (w : World) (hn : I64 n) (V E : Int) (hE : E = 0 ∨ (E = 9 ∧ V = 0))
    (hI : ∀ W x, RN W x (wt 1 n) → Calls Try.prog 47 #[x] W fun e w' => e = pr V E ∧ Old W w') : Calls Try.prog 40 #[vl 1 n s, .int .u8 2] w fun e w' => e = rv (nmK 2 E) (nmN V E) E ∧ Old w w' := by
  have HB := Lib.hid (Bx2.new w 1 n s 0 0 ⟨#[]⟩)
  have hw1 := fun W => worth_any 1 n s W hn
  generalize wt 1 n = u at *
  have e0 : (E = 0 ∧ nmK 2 E = 2 ∧ nmN V E = V) ∨ (E = 9 ∧ nmK 2 E = 0 ∧ nmN V E = 0) := by
    rcases hE with rfl | ⟨rfl, rfl⟩
    · exact Or.inl ⟨rfl, rfl, rfl⟩
    · exact Or.inr ⟨rfl, rfl, rfl⟩
  clear hE
  rcases e0 with ⟨rfl, e1, e2⟩ | ⟨rfl, e1, e2⟩
  · rw [e1, e2]
    clear e1 e2
    go_enter Try.func40, Try.ntmps40
    go_wp2_with (first
      | (go_at_call 41; ((with_reducible refine (ofI n _ hn).mono ?_); rintro e w1 ⟨x, rfl, hx, o1⟩; obtain ⟨nx, ox, lx, cx', rfl⟩ := hx.form; have B1 := Lib.hid ((HB.out.old o1).old ((Old.refl w1).alloc (.cells #[.bool nx, .slice ox lx cx'] 47))); have T1 := Lib.hid (Two.new w1 (.bool nx) (.slice ox lx cx')); have L1 := Lib.hid (Nat.lt_of_lt_of_le (HB.out.t1.lt) o1.size); have c0 := B1.out.t0.c0; have c1 := B1.out.t0.c1; have c2 := B1.out.t0.c2))
      | (go_at_call 34; ((with_reducible refine (hw1 _).mono ?_); clear c0 c1 c2; rintro e w2 ⟨z, rfl, hz, o2⟩; obtain ⟨nz, oz, lz, cz', rfl⟩ := hz.form; have B2 := Lib.hid (B1.out.old o2); have T2 := Lib.hid (T1.out.old o2); have c0 := T2.out.c0; have c1 := T2.out.c1; have f0 := T2.out.f 0; have f1 := T2.out.f 1; have T3 := Lib.hid (T2.out.set (.bool nz) (.slice oz lz cz')); have d0 := T3.out.c0; have d1 := T3.out.c1; have hz2 := Lib.hid (hz.two T2.out (.bool nz) (.slice oz lz cz'))))
      | (go_at_call 47; ((with_reducible refine (hI _ _ hz2.out).mono ?_); clear c0 c1 f0 f1 d0 d1; rintro e w3 ⟨rfl, o3⟩; have R1 := Lib.hid ((B2.out.t1.far (p := ⟨w1.heap.size, 0, none⟩) (Nat.ne_of_lt L1.out) (.bool nz)).far (p := ⟨w1.heap.size, 1, none⟩) (Nat.ne_of_lt L1.out) (.slice oz lz cz')); have O2 := Lib.hid (((B2.out.o.setCell (p := ⟨w1.heap.size, 0, none⟩) (Nat.le_of_lt (Nat.lt_of_succ_lt L1.out)) (.bool nz)).setCell (p := ⟨w1.heap.size, 1, none⟩) (Nat.le_of_lt (Nat.lt_of_succ_lt L1.out)) (.slice oz lz cz')).trans o3); have R2 := Lib.hid (R1.out.old o3); have c0 := R2.out.c0; have c1 := R2.out.c1; have c2 := R2.out.c2; have f0 := R2.out.f 0; have f1 := R2.out.f 1; have f2 := R2.out.f 2)))
    have R := R2.out.set (.int .u8 2) (.int .i64 V) (.string ⟨#[]⟩)
    exact bodyPost_ret (v := .tuple #[vl 2 V ⟨#[]⟩, .int .i64 0]) (by simp [results, Try.results40, go_sem, R.c0, R.c1, R.c2]) rfl ⟨rfl, old3 O2.out (by omega) _ _ _⟩
  · rw [e1, e2]
    clear e1 e2
    go_enter Try.func40, Try.ntmps40
    go_wp2_with (first
      | (go_at_call 41; ((with_reducible refine (ofI n _ hn).mono ?_); rintro e w1 ⟨x, rfl, hx, o1⟩; obtain ⟨nx, ox, lx, cx', rfl⟩ := hx.form; have B1 := Lib.hid ((HB.out.old o1).old ((Old.refl w1).alloc (.cells #[.bool nx, .slice ox lx cx'] 47))); have T1 := Lib.hid (Two.new w1 (.bool nx) (.slice ox lx cx')); have L1 := Lib.hid (Nat.lt_of_lt_of_le (HB.out.t1.lt) o1.size); have c0 := B1.out.t0.c0; have c1 := B1.out.t0.c1; have c2 := B1.out.t0.c2))
      | (go_at_call 34; ((with_reducible refine (hw1 _).mono ?_); clear c0 c1 c2; rintro e w2 ⟨z, rfl, hz, o2⟩; obtain ⟨nz, oz, lz, cz', rfl⟩ := hz.form; have B2 := Lib.hid (B1.out.old o2); have T2 := Lib.hid (T1.out.old o2); have c0 := T2.out.c0; have c1 := T2.out.c1; have f0 := T2.out.f 0; have f1 := T2.out.f 1; have T3 := Lib.hid (T2.out.set (.bool nz) (.slice oz lz cz')); have d0 := T3.out.c0; have d1 := T3.out.c1; have hz2 := Lib.hid (hz.two T2.out (.bool nz) (.slice oz lz cz'))))
      | (go_at_call 47; ((with_reducible refine (hI _ _ hz2.out).mono ?_); clear c0 c1 f0 f1 d0 d1; rintro e w3 ⟨rfl, o3⟩; have R1 := Lib.hid ((B2.out.t1.far (p := ⟨w1.heap.size, 0, none⟩) (Nat.ne_of_lt L1.out) (.bool nz)).far (p := ⟨w1.heap.size, 1, none⟩) (Nat.ne_of_lt L1.out) (.slice oz lz cz')); have O2 := Lib.hid (((B2.out.o.setCell (p := ⟨w1.heap.size, 0, none⟩) (Nat.le_of_lt (Nat.lt_of_succ_lt L1.out)) (.bool nz)).setCell (p := ⟨w1.heap.size, 1, none⟩) (Nat.le_of_lt (Nat.lt_of_succ_lt L1.out)) (.slice oz lz cz')).trans o3); have R2 := Lib.hid (R1.out.old o3); have c0 := R2.out.c0; have c1 := R2.out.c1; have c2 := R2.out.c2; have f0 := R2.out.f 0; have f1 := R2.out.f 1; have f2 := R2.out.f 2)))
    have R := R2.out.set (.int .u8 0) (.int .i64 0) (.string ⟨#[]⟩)
    exact bodyPost_ret (v := .tuple #[vl 0 0 ⟨#[]⟩, .int .i64 9]) (by simp [results, Try.results40, go_sem, R.c0, R.c1, R.c2]) rfl ⟨rfl, old3 O2.out (by omega) _ _ _⟩

/-- As: a number in a kind. -/
theorem as_any (k n : Int) (s : ByteArray) (K : Int) (w : World) (hn : I64 n) (hk : (K = 1 ∧ k = 1) ∨ (K = 2 ∧ (k = 1 ∨ k = 2))) : Calls Try.prog 40 #[vl k n s, .int .u8 K] w fun e w' => e = rv (nmK K (fitE (if K = 2 then wt k n else n))) (nmN (fitV (if K = 2 then wt k n else n)) (fitE (if K = 2 then wt k n else n))) (fitE (if K = 2 then wt k n else n)) ∧ Old w w' := by
  by_cases h : k = 1 ∧ K = 2
  · obtain ⟨rfl, rfl⟩ := h
    rw [if_pos rfl]
    refine as_more n s w hn _ _ ?_ (fun W x hx => intI _ x W hx (wt_lo hn))
    by_cases hu : I64 (wt 1 n)
    · left; exact fitE_in hu
    · right; exact ⟨fitE_out hu, fitV_out hu⟩
  · have e : (if K = 2 then wt k n else n) = n := by
      split
      · unfold wt; rw [if_neg (by omega)]
      · rfl
    rw [e, fitE_in hn, fitV_in hn]
    exact as_same k n s K w h hn

end Go.Proofs.Ytmoomdikgfeifaa
