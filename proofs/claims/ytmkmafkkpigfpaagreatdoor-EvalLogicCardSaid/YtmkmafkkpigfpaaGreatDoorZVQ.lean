/- Layer value: three truths. Add, Sub, Mul, Div as walks. what Add, Sub, Mul, Div, Neg answer. All, Any; the statements' own helper known. Values that lie boxed: a list of them, kept over what is done behind. -/
import Derived.Test.YtmkmafkkpigfpaaGreatDoorZVF
set_option maxHeartbeats 1600000
namespace Go.Proofs.YtmkmafkkpigfpaaGreatDoor.V
open Go.ChangeShapes Go.WideShapes Go.ChangeAt Go.RowKit
set_option linter.unusedVariables false
abbrev r1 (k n : Int) : Ending := .returned (vl k n ⟨#[]⟩)
def b01 (b : Bool) : Int := if b then 1 else 0
theorem truth_any (b : Bool) (w : World) : Calls Tryz.prog 62 #[.bool b] w fun e w' => e = r1 4 (b01 b) ∧ Old w w' := by
  cases b
  · go_enter Tryz.func62, Tryz.ntmps62
    go_wp2
    exact bodyPost_ret (v := vl 4 0 ⟨#[]⟩) (by simp [results, Tryz.results62, go_sem]) rfl ⟨rfl, (Old.refl w).alloc _⟩
  · go_enter Tryz.func62, Tryz.ntmps62
    go_wp2
    exact bodyPost_ret (v := vl 4 1 ⟨#[]⟩) (by simp [results, Tryz.results62, go_sem]) rfl ⟨rfl, (Old.refl w).alloc _⟩
def ntT (k n : Int) : Int × Int := if k = 4 then (4, b01 (n == 0)) else (0, 0)
theorem not_any (k n : Int) (s : ByteArray) (w : World) : Calls Tryz.prog 64 #[vl k n s] w fun e w' => e = r1 (ntT k n).1 (ntT k n).2 ∧ Old w w' := by
  unfold ntT
  by_cases hk : k = 4
  · subst hk
    rw [if_pos rfl]
    have HO := Lib.hid (((Old.refl w).alloc (.cells #[.int .u8 4, .int .i64 n, .string s] 26)).alloc (.cells #[.int .u8 0, .int .i64 0, .string ⟨#[]⟩] 26))
    have HT := Three.new (w.alloc (.cells #[.int .u8 4, .int .i64 n, .string s] 26)) (.int .u8 0) (.int .i64 0) (.string ⟨#[]⟩)
    rw [sz_alloc] at HT
    have HT := Lib.hid HT
    go_enter Tryz.func64, Tryz.ntmps64
    go_wp2_with (first
      | (go_at_call 62; (with_reducible refine (truth_any _ _).mono ?_); rintro e w1 ⟨rfl, ho1⟩; have T := Lib.hid (HT.out.old ho1); have c0 := T.out.c0; have c1 := T.out.c1; have c2 := T.out.c2; have f0 := T.out.f 0; have f1 := T.out.f 1; have f2 := T.out.f 2))
    have R := T.out.set (.int .u8 4) (.int .i64 (b01 (n == 0))) (.string ⟨#[]⟩)
    exact bodyPost_ret (v := vl 4 (b01 (n == 0)) ⟨#[]⟩) (by simp [results, Tryz.results64, go_sem, R.c0, R.c1, R.c2]) rfl ⟨rfl, old3 (HO.out.trans ho1) (by omega) _ _ _⟩
  · rw [if_neg hk]
    go_enter Tryz.func64, Tryz.ntmps64
    go_wp2
    exact bodyPost_ret (v := vl 0 0 ⟨#[]⟩) (by simp [results, Tryz.results64, go_sem]) rfl ⟨rfl, ((Old.refl w).alloc _).alloc _⟩
def isS (st : Int) (x : Vl) : Bool := x.k == 4 && x.n == st
def unT (st : Int) (l : List Vl) : Int × Int :=
  if l.any (isS st) = true then (4, b01 (st == 1)) else if l.all (fun x => x.k == 4) = true then (4, b01 (st == 0)) else (0, 0)
theorem un_any (st : Int) (l : List Vl) (v : Value) (w : World) (hl : RV w v l) (hb : l.length ≤ 100000) : Calls Tryz.prog 63 #[.int .i64 st, v] w fun e w' => e = r1 (unT st l).1 (unT st l).2 ∧ Old w w' := by
  obtain ⟨oa, c, rfl, a1, a2, a3⟩ := hl
  obtain ⟨n, hn⟩ : ∃ n, n = l.length := ⟨_, rfl⟩
  rw [← hn]
  rw [← hn] at a1 hb
  have HN := Lib.hid hn
  have HA := Lib.hid a3
  clear hn a3
  have HT := Lib.hid (Three.new w (.int .u8 0) (.int .i64 0) (.string ⟨#[]⟩))
  go_enter Tryz.func63, Tryz.ntmps63
  go_wp2
  go_loopw [5, 10] (fun kn i wr => ∃ k : Nat, k ≤ n ∧ i = .int .i64 (k : Int) ∧ kn = .bool ((l.take k).all (fun x => x.k == 4)) ∧ Hid ((l.take k).any (isS st) = false) ∧ Hid (Three wr w.heap.size (.int .u8 0) (.int .i64 0) (.string ⟨#[]⟩)) ∧ Hid (Old w wr)) (fun _ i _ => (n - intOf i).toNat)
  case atStart =>
    exact ⟨0, Nat.zero_le _, rfl, rfl, Lib.hid rfl, HT, Lib.hid ((Old.refl w).alloc _)⟩
  case round =>
    obtain ⟨k, hk, rfl, rfl, HE, HW, HO⟩ := hrel
    by_cases hkn : k < n
    · have hx : ∃ x, l[k]? = some x := ⟨l[k]'(by rw [← HN.out]; exact hkn), List.getElem?_eq_getElem _⟩
      obtain ⟨x, hx⟩ := hx
      obtain ⟨g, rfl, hgl, c0, c1, c2⟩ := HA.out k x hx
      have d0 := (HO.out.cell hgl).trans c0
      have d1 := (HO.out.cell hgl).trans c1
      have d2 := (HO.out.cell hgl).trans c2
      obtain ⟨xk, xn, xs⟩ := x
      have HX := Lib.hid hx
      clear hx c0 c1 c2
      by_cases h4 : xk = 4
      · subst h4
        by_cases hs : xn = st
        · subst hs
          have HW2 := Lib.hid (HW.out.alloc (.cells #[.int .u8 4, .int .i64 xn, .string xs] 26))
          go_wp2_with (first
            | (go_at_call 62; (with_reducible refine (truth_any _ _).mono ?_); rintro e w1 ⟨rfl, ho1⟩; have T := Lib.hid (HW2.out.old ho1); have c0 := T.out.c0; have c1 := T.out.c1; have c2 := T.out.c2; have f0 := T.out.f 0; have f1 := T.out.f 1; have f2 := T.out.f 2))
          have R := T.out.set (.int .u8 4) (.int .i64 (b01 (xn == 1))) (.string ⟨#[]⟩)
          have e : unT xn l = (4, b01 (xn == 1)) := by
            unfold unT
            rw [if_pos]
            rw [List.any_eq_true]
            exact ⟨_, List.mem_of_getElem? HX.out, by unfold isS; simp⟩
          rw [e]
          exact bodyPost_ret (v := vl 4 (b01 (xn == 1)) ⟨#[]⟩) (by simp [results, Tryz.results63, go_sem, R.c0, R.c1, R.c2]) rfl ⟨rfl, old3 ((HO.out.alloc _).trans ho1) (Nat.le_refl _) _ _ _⟩
        · have hs' : (xn == st) = false := by simpa using hs
          go_wp2
          refine ⟨⟨k + 1, hkn, rfl, ib ?_, Lib.hid ?_, Lib.hid (HW.out.alloc _), Lib.hid (HO.out.alloc _)⟩, by simp only [intOf]; omega⟩
          · rw [take_more HX.out]; simp [List.all_append]
          · rw [take_more HX.out, List.any_append, HE.out]; simp [isS, hs']
      · have h4' : (xk == 4) = false := by simpa using h4
        go_wp2
        refine ⟨⟨k + 1, hkn, rfl, ib ?_, Lib.hid ?_, Lib.hid (HW.out.alloc _), Lib.hid (HO.out.alloc _)⟩, by simp only [intOf]; omega⟩
        · rw [take_more HX.out]; simp [List.all_append, h4']
        · rw [take_more HX.out, List.any_append, HE.out]; simp [isS, h4']
    · have hkn' : k = n := by omega
      subst hkn'
      have HTk : l.take k = l := by rw [HN.out, List.take_length]
      have HE' := HE.out
      rw [HTk] at HE' ⊢
      have HE' := Lib.hid HE'
      clear HTk HE
      have c0 := HW.out.c0
      have c1 := HW.out.c1
      have c2 := HW.out.c2
      have f0 := HW.out.f 0
      have f1 := HW.out.f 1
      have f2 := HW.out.f 2
      by_cases hall : l.all (fun x => x.k == 4) = true
      · rw [hall]
        have HL := Lib.hid hall
        clear hall
        go_wp2_with (first
          | (go_at_call 62; (with_reducible refine (truth_any _ _).mono ?_); clear c0 c1 c2 f0 f1 f2; rintro e w1 ⟨rfl, ho1⟩; have T := Lib.hid (HW.out.old ho1); have c0 := T.out.c0; have c1 := T.out.c1; have c2 := T.out.c2; have f0 := T.out.f 0; have f1 := T.out.f 1; have f2 := T.out.f 2))
        have R := T.out.set (.int .u8 4) (.int .i64 (b01 (st == 0))) (.string ⟨#[]⟩)
        have e : unT st l = (4, b01 (st == 0)) := by
          unfold unT
          rw [if_neg (by rw [HE'.out]; decide), if_pos HL.out]
        rw [e]
        exact bodyPost_ret (v := vl 4 (b01 (st == 0)) ⟨#[]⟩) (by simp [results, Tryz.results63, go_sem, R.c0, R.c1, R.c2]) rfl ⟨rfl, old3 (HO.out.trans ho1) (Nat.le_refl _) _ _ _⟩
      · have hall' : l.all (fun x => x.k == 4) = false := by simpa using hall
        rw [hall']
        have HL := Lib.hid hall
        clear hall hall'
        go_wp2
        have R := HW.out.set (.int .u8 0) (.int .i64 0) (.string ⟨#[]⟩)
        have e : unT st l = (0, 0) := by
          unfold unT
          rw [if_neg (by rw [HE'.out]; decide), if_neg HL.out]
        rw [e]
        exact bodyPost_ret (v := vl 0 0 ⟨#[]⟩) (by simp [results, Tryz.results63, go_sem, R.c0, R.c1, R.c2]) rfl ⟨rfl, old3 HO.out (Nat.le_refl _) _ _ _⟩
theorem far3 {w : World} {B b o : Nat} {x : Value} (h : w.cell? ⟨b, o, none⟩ = some x) (hne : ¬ b = B) (u0 u1 u2 : Value) : (((w.setCell ⟨B, 0, none⟩ u0).setCell ⟨B, 1, none⟩ u1).setCell ⟨B, 2, none⟩ u2).cell? ⟨b, o, none⟩ = some x := by
  rw [World.cell?_setCell_other _ _ _ _ (by intro e; exact hne (congrArg Addr.block e).symm), World.cell?_setCell_other _ _ _ _ (by intro e; exact hne (congrArg Addr.block e).symm), World.cell?_setCell_other _ _ _ _ (by intro e; exact hne (congrArg Addr.block e).symm)]
  exact h
theorem ofi_any (f : FuncId) (w : World) : Calls Tryz.prog 115 #[.func (.func f) #[] #[]] w fun e w' => e = .returned (.func (.func 146) #[] #[.pointer (some ⟨w.heap.size, 0, none⟩)]) ∧ w' = w.alloc (.cells #[.func (.func f) #[] #[]] 152) := by
  go_enter Tryz.func115, Tryz.ntmps115
  go_wp2
  go_ret
  exact ⟨rfl, rfl⟩
theorem ofd_any (f : FuncId) (w : World) : Calls Tryz.prog 117 #[.func (.func f) #[] #[]] w fun e w' => e = .returned (.func (.func 148) #[] #[.pointer (some ⟨w.heap.size, 0, none⟩)]) ∧ w' = w.alloc (.cells #[.func (.func f) #[] #[]] 152) := by
  go_enter Tryz.func117, Tryz.ntmps117
  go_wp2
  go_ret
  exact ⟨rfl, rfl⟩
def Fc (w : World) (g : Nat) (f : FuncId) : Prop := g < w.heap.size ∧ w.cell? ⟨g, 0, none⟩ = some (.func (.func f) #[] #[])
theorem Fc.new (w : World) (f : FuncId) : Fc (w.alloc (.cells #[.func (.func f) #[] #[]] 152)) w.heap.size f := by
  have h := (MapKept.heap_alloc w (.cells #[.func (.func f) #[] #[]] 152)).1
  refine ⟨blk_lt h, ?_⟩
  simp only [World.cell?, h]
  rfl
theorem Fc.old {w w' : World} {g : Nat} {f : FuncId} (h : Fc w g f) (ho : Old w w') : Fc w' g f := ⟨Nat.lt_of_lt_of_le h.1 ho.size, (ho.cell (p := ⟨g, 0, none⟩) h.1).trans h.2⟩
def RK (fi fd : FuncId) (k n : Int) (s : ByteArray) (k' n' : Int) (s' : ByteArray) (A B C : Int) : Prop :=
  ∀ (W : World) (g g' : Nat), Fc W g fi → Fc W g' fd → Calls Tryz.prog 114 #[vl k n s, vl k' n' s', .func (.func 146) #[] #[.pointer (some ⟨g, 0, none⟩)], .func (.func 148) #[] #[.pointer (some ⟨g', 0, none⟩)]] W fun e w' => e = rv A B C ∧ Old W w'
theorem vadd_walk (k n : Int) (s : ByteArray) (k' n' : Int) (s' : ByteArray) (w : World) (A B C : Int) (hR : RK 116 116 k n s k' n' s' A B C) :
    Calls Tryz.prog 74 #[vl k n s, vl k' n' s'] w fun e w' => e = rv A B C ∧ Old w w' := by
  unfold RK at hR
  have HR := Rk3.new w k n s k' n' s'
  go_enter Tryz.func74, Tryz.ntmps74
  go_wp2_with fail
  generalize hW : ((w.alloc (.cells #[.int .u8 k, .int .i64 n, .string s] 26)).alloc (.cells #[.int .u8 k', .int .i64 n', .string s'] 26)).alloc (.cells #[.int .u8 0, .int .i64 0, .string ⟨#[]⟩] 26) = W at *
  clear hW
  have c0 := HR.b.t0.c0
  have c1 := HR.b.t0.c1
  have c2 := HR.b.t0.c2
  have d0 := HR.b.t1.c0
  have d1 := HR.b.t1.c1
  have d2 := HR.b.t1.c2
  have HR := Lib.hid HR
  have oi : Old W (W.alloc (.cells #[.func (.func 116) #[] #[]] 152)).drew := ((Old.refl W).alloc _).drew
  have oj : Old W ((W.alloc (.cells #[.func (.func 116) #[] #[]] 152)).alloc (.cells #[.func (.func 116) #[] #[]] 152)).drew := (((Old.refl W).alloc _).alloc _).drew
  have R1 := Lib.hid (HR.out.old oi)
  have R2 := Lib.hid (HR.out.old oj)
  have F2 := Lib.hid ((Fc.new W 116).old (((Old.refl _).alloc (.cells #[.func (.func 116) #[] #[]] 152)).drew))
  have F3 := Fc.new (W.alloc (.cells #[.func (.func 116) #[] #[]] 152)) 116
  rw [sz_alloc] at F3
  have F3 := Lib.hid (F3.old (Old.refl _).drew)
  clear oi oj
  go_region_held3 (fun w' => w'.cell? ⟨w.heap.size, 0, none⟩ = some (.int .u8 k) ∧ w'.cell? ⟨w.heap.size, 1, none⟩ = some (.int .i64 n) ∧ w'.cell? ⟨w.heap.size, 2, none⟩ = some (.string s) ∧ w'.cell? ⟨w.heap.size + 1, 0, none⟩ = some (.int .u8 k') ∧ w'.cell? ⟨w.heap.size + 1, 1, none⟩ = some (.int .i64 n') ∧ w'.cell? ⟨w.heap.size + 1, 2, none⟩ = some (.string s'))
    (first | exact ⟨c0, c1, c2, d0, d1, d2⟩ | exact ⟨R1.out.b.t0.c0, R1.out.b.t0.c1, R1.out.b.t0.c2, R1.out.b.t1.c0, R1.out.b.t1.c1, R1.out.b.t1.c2⟩ | exact ⟨R2.out.b.t0.c0, R2.out.b.t0.c1, R2.out.b.t0.c2, R2.out.b.t1.c0, R2.out.b.t1.c1, R2.out.b.t1.c2⟩ | exact ⟨R3.out.b.t0.c0, R3.out.b.t0.c1, R3.out.b.t0.c2, R3.out.b.t1.c0, R3.out.b.t1.c1, R3.out.b.t1.c2⟩ | exact ⟨far3 R3.out.b.t0.c0 (by omega) _ _ _, far3 R3.out.b.t0.c1 (by omega) _ _ _, far3 R3.out.b.t0.c2 (by omega) _ _ _, far3 R3.out.b.t1.c0 (by omega) _ _ _, far3 R3.out.b.t1.c1 (by omega) _ _ _, far3 R3.out.b.t1.c2 (by omega) _ _ _⟩ | go_keep)
    (first
      | (go_at_call 115; (with_reducible refine (ofi_any _ _).mono ?_); rintro e w1 ⟨rfl, rfl⟩)
      | (go_at_call 117; (with_reducible refine (ofd_any _ _).mono ?_); rintro e w2 ⟨rfl, rfl⟩)
      | (go_at_call 114; (with_reducible refine (hR _ _ _ F2.out F3.out).mono ?_); rintro e w3 ⟨rfl, ho3⟩; have R3 := Lib.hid (R2.out.old ho3); have e0 := R3.out.t2.c0; have e1 := R3.out.t2.c1; have e2 := R3.out.t2.c2; have f0 := R3.out.t2.f 0; have f1 := R3.out.t2.f 1; have f2 := R3.out.t2.f 2))
  all_goals go_wp2
  have R := R3.out.t2.set (.int .u8 A) (.int .i64 B) (.string ⟨#[]⟩)
  have O := old3 R3.out.b.o (b := w.heap.size + 1 + 1) (by omega) (.int .u8 A) (.int .i64 B) (.string ⟨#[]⟩)
  clear hR HR c0 c1 c2 d0 d1 d2 R1 R2 F2 F3 e0 e1 e2 f0 f1 f2 R3 ho3
  exact bodyPost_ret (v := .tuple #[vl A B ⟨#[]⟩, .int .i64 C]) (by simp [results, Tryz.results74, go_sem, R.c0, R.c1, R.c2]) rfl ⟨rfl, O⟩
theorem vsub_walk (k n : Int) (s : ByteArray) (k' n' : Int) (s' : ByteArray) (w : World) (A B C : Int) (hR : RK 118 118 k n s k' n' s' A B C) :
    Calls Tryz.prog 75 #[vl k n s, vl k' n' s'] w fun e w' => e = rv A B C ∧ Old w w' := by
  unfold RK at hR
  have HR := Rk3.new w k n s k' n' s'
  go_enter Tryz.func75, Tryz.ntmps75
  go_wp2_with fail
  generalize hW : ((w.alloc (.cells #[.int .u8 k, .int .i64 n, .string s] 26)).alloc (.cells #[.int .u8 k', .int .i64 n', .string s'] 26)).alloc (.cells #[.int .u8 0, .int .i64 0, .string ⟨#[]⟩] 26) = W at *
  clear hW
  have c0 := HR.b.t0.c0
  have c1 := HR.b.t0.c1
  have c2 := HR.b.t0.c2
  have d0 := HR.b.t1.c0
  have d1 := HR.b.t1.c1
  have d2 := HR.b.t1.c2
  have HR := Lib.hid HR
  have oi : Old W (W.alloc (.cells #[.func (.func 118) #[] #[]] 152)).drew := ((Old.refl W).alloc _).drew
  have oj : Old W ((W.alloc (.cells #[.func (.func 118) #[] #[]] 152)).alloc (.cells #[.func (.func 118) #[] #[]] 152)).drew := (((Old.refl W).alloc _).alloc _).drew
  have R1 := Lib.hid (HR.out.old oi)
  have R2 := Lib.hid (HR.out.old oj)
  have F2 := Lib.hid ((Fc.new W 118).old (((Old.refl _).alloc (.cells #[.func (.func 118) #[] #[]] 152)).drew))
  have F3 := Fc.new (W.alloc (.cells #[.func (.func 118) #[] #[]] 152)) 118
  rw [sz_alloc] at F3
  have F3 := Lib.hid (F3.old (Old.refl _).drew)
  clear oi oj
  go_region_held3 (fun w' => w'.cell? ⟨w.heap.size, 0, none⟩ = some (.int .u8 k) ∧ w'.cell? ⟨w.heap.size, 1, none⟩ = some (.int .i64 n) ∧ w'.cell? ⟨w.heap.size, 2, none⟩ = some (.string s) ∧ w'.cell? ⟨w.heap.size + 1, 0, none⟩ = some (.int .u8 k') ∧ w'.cell? ⟨w.heap.size + 1, 1, none⟩ = some (.int .i64 n') ∧ w'.cell? ⟨w.heap.size + 1, 2, none⟩ = some (.string s'))
    (first | exact ⟨c0, c1, c2, d0, d1, d2⟩ | exact ⟨R1.out.b.t0.c0, R1.out.b.t0.c1, R1.out.b.t0.c2, R1.out.b.t1.c0, R1.out.b.t1.c1, R1.out.b.t1.c2⟩ | exact ⟨R2.out.b.t0.c0, R2.out.b.t0.c1, R2.out.b.t0.c2, R2.out.b.t1.c0, R2.out.b.t1.c1, R2.out.b.t1.c2⟩ | exact ⟨R3.out.b.t0.c0, R3.out.b.t0.c1, R3.out.b.t0.c2, R3.out.b.t1.c0, R3.out.b.t1.c1, R3.out.b.t1.c2⟩ | exact ⟨far3 R3.out.b.t0.c0 (by omega) _ _ _, far3 R3.out.b.t0.c1 (by omega) _ _ _, far3 R3.out.b.t0.c2 (by omega) _ _ _, far3 R3.out.b.t1.c0 (by omega) _ _ _, far3 R3.out.b.t1.c1 (by omega) _ _ _, far3 R3.out.b.t1.c2 (by omega) _ _ _⟩ | go_keep)
    (first
      | (go_at_call 115; (with_reducible refine (ofi_any _ _).mono ?_); rintro e w1 ⟨rfl, rfl⟩)
      | (go_at_call 117; (with_reducible refine (ofd_any _ _).mono ?_); rintro e w2 ⟨rfl, rfl⟩)
      | (go_at_call 114; (with_reducible refine (hR _ _ _ F2.out F3.out).mono ?_); rintro e w3 ⟨rfl, ho3⟩; have R3 := Lib.hid (R2.out.old ho3); have e0 := R3.out.t2.c0; have e1 := R3.out.t2.c1; have e2 := R3.out.t2.c2; have f0 := R3.out.t2.f 0; have f1 := R3.out.t2.f 1; have f2 := R3.out.t2.f 2))
  all_goals go_wp2
  have R := R3.out.t2.set (.int .u8 A) (.int .i64 B) (.string ⟨#[]⟩)
  have O := old3 R3.out.b.o (b := w.heap.size + 1 + 1) (by omega) (.int .u8 A) (.int .i64 B) (.string ⟨#[]⟩)
  clear hR HR c0 c1 c2 d0 d1 d2 R1 R2 F2 F3 e0 e1 e2 f0 f1 f2 R3 ho3
  exact bodyPost_ret (v := .tuple #[vl A B ⟨#[]⟩, .int .i64 C]) (by simp [results, Tryz.results75, go_sem, R.c0, R.c1, R.c2]) rfl ⟨rfl, O⟩
theorem vmul_walk (k n : Int) (s : ByteArray) (k' n' : Int) (s' : ByteArray) (w : World) (A B C : Int) (hR : RK 119 120 k n s k' n' s' A B C) :
    Calls Tryz.prog 76 #[vl k n s, vl k' n' s'] w fun e w' => e = rv A B C ∧ Old w w' := by
  unfold RK at hR
  have HR := Rk3.new w k n s k' n' s'
  go_enter Tryz.func76, Tryz.ntmps76
  go_wp2_with fail
  generalize hW : ((w.alloc (.cells #[.int .u8 k, .int .i64 n, .string s] 26)).alloc (.cells #[.int .u8 k', .int .i64 n', .string s'] 26)).alloc (.cells #[.int .u8 0, .int .i64 0, .string ⟨#[]⟩] 26) = W at *
  clear hW
  have c0 := HR.b.t0.c0
  have c1 := HR.b.t0.c1
  have c2 := HR.b.t0.c2
  have d0 := HR.b.t1.c0
  have d1 := HR.b.t1.c1
  have d2 := HR.b.t1.c2
  have HR := Lib.hid HR
  have oi : Old W (W.alloc (.cells #[.func (.func 119) #[] #[]] 152)).drew := ((Old.refl W).alloc _).drew
  have oj : Old W ((W.alloc (.cells #[.func (.func 119) #[] #[]] 152)).alloc (.cells #[.func (.func 120) #[] #[]] 152)).drew := (((Old.refl W).alloc _).alloc _).drew
  have R1 := Lib.hid (HR.out.old oi)
  have R2 := Lib.hid (HR.out.old oj)
  have F2 := Lib.hid ((Fc.new W 119).old (((Old.refl _).alloc (.cells #[.func (.func 120) #[] #[]] 152)).drew))
  have F3 := Fc.new (W.alloc (.cells #[.func (.func 119) #[] #[]] 152)) 120
  rw [sz_alloc] at F3
  have F3 := Lib.hid (F3.old (Old.refl _).drew)
  clear oi oj
  go_region_held3 (fun w' => w'.cell? ⟨w.heap.size, 0, none⟩ = some (.int .u8 k) ∧ w'.cell? ⟨w.heap.size, 1, none⟩ = some (.int .i64 n) ∧ w'.cell? ⟨w.heap.size, 2, none⟩ = some (.string s) ∧ w'.cell? ⟨w.heap.size + 1, 0, none⟩ = some (.int .u8 k') ∧ w'.cell? ⟨w.heap.size + 1, 1, none⟩ = some (.int .i64 n') ∧ w'.cell? ⟨w.heap.size + 1, 2, none⟩ = some (.string s'))
    (first | exact ⟨c0, c1, c2, d0, d1, d2⟩ | exact ⟨R1.out.b.t0.c0, R1.out.b.t0.c1, R1.out.b.t0.c2, R1.out.b.t1.c0, R1.out.b.t1.c1, R1.out.b.t1.c2⟩ | exact ⟨R2.out.b.t0.c0, R2.out.b.t0.c1, R2.out.b.t0.c2, R2.out.b.t1.c0, R2.out.b.t1.c1, R2.out.b.t1.c2⟩ | exact ⟨R3.out.b.t0.c0, R3.out.b.t0.c1, R3.out.b.t0.c2, R3.out.b.t1.c0, R3.out.b.t1.c1, R3.out.b.t1.c2⟩ | exact ⟨far3 R3.out.b.t0.c0 (by omega) _ _ _, far3 R3.out.b.t0.c1 (by omega) _ _ _, far3 R3.out.b.t0.c2 (by omega) _ _ _, far3 R3.out.b.t1.c0 (by omega) _ _ _, far3 R3.out.b.t1.c1 (by omega) _ _ _, far3 R3.out.b.t1.c2 (by omega) _ _ _⟩ | go_keep)
    (first
      | (go_at_call 115; (with_reducible refine (ofi_any _ _).mono ?_); rintro e w1 ⟨rfl, rfl⟩)
      | (go_at_call 117; (with_reducible refine (ofd_any _ _).mono ?_); rintro e w2 ⟨rfl, rfl⟩)
      | (go_at_call 114; (with_reducible refine (hR _ _ _ F2.out F3.out).mono ?_); rintro e w3 ⟨rfl, ho3⟩; have R3 := Lib.hid (R2.out.old ho3); have e0 := R3.out.t2.c0; have e1 := R3.out.t2.c1; have e2 := R3.out.t2.c2; have f0 := R3.out.t2.f 0; have f1 := R3.out.t2.f 1; have f2 := R3.out.t2.f 2))
  all_goals go_wp2
  have R := R3.out.t2.set (.int .u8 A) (.int .i64 B) (.string ⟨#[]⟩)
  have O := old3 R3.out.b.o (b := w.heap.size + 1 + 1) (by omega) (.int .u8 A) (.int .i64 B) (.string ⟨#[]⟩)
  clear hR HR c0 c1 c2 d0 d1 d2 R1 R2 F2 F3 e0 e1 e2 f0 f1 f2 R3 ho3
  exact bodyPost_ret (v := .tuple #[vl A B ⟨#[]⟩, .int .i64 C]) (by simp [results, Tryz.results76, go_sem, R.c0, R.c1, R.c2]) rfl ⟨rfl, O⟩
theorem vdiv_walk (k n : Int) (s : ByteArray) (k' n' : Int) (s' : ByteArray) (w : World) (A B C : Int) (hR : RK 121 122 k n s k' n' s' A B C) :
    Calls Tryz.prog 77 #[vl k n s, vl k' n' s'] w fun e w' => e = rv A B C ∧ Old w w' := by
  unfold RK at hR
  have HR := Rk3.new w k n s k' n' s'
  go_enter Tryz.func77, Tryz.ntmps77
  go_wp2_with fail
  generalize hW : ((w.alloc (.cells #[.int .u8 k, .int .i64 n, .string s] 26)).alloc (.cells #[.int .u8 k', .int .i64 n', .string s'] 26)).alloc (.cells #[.int .u8 0, .int .i64 0, .string ⟨#[]⟩] 26) = W at *
  clear hW
  have c0 := HR.b.t0.c0
  have c1 := HR.b.t0.c1
  have c2 := HR.b.t0.c2
  have d0 := HR.b.t1.c0
  have d1 := HR.b.t1.c1
  have d2 := HR.b.t1.c2
  have HR := Lib.hid HR
  have oi : Old W (W.alloc (.cells #[.func (.func 121) #[] #[]] 152)).drew := ((Old.refl W).alloc _).drew
  have oj : Old W ((W.alloc (.cells #[.func (.func 121) #[] #[]] 152)).alloc (.cells #[.func (.func 122) #[] #[]] 152)).drew := (((Old.refl W).alloc _).alloc _).drew
  have R1 := Lib.hid (HR.out.old oi)
  have R2 := Lib.hid (HR.out.old oj)
  have F2 := Lib.hid ((Fc.new W 121).old (((Old.refl _).alloc (.cells #[.func (.func 122) #[] #[]] 152)).drew))
  have F3 := Fc.new (W.alloc (.cells #[.func (.func 121) #[] #[]] 152)) 122
  rw [sz_alloc] at F3
  have F3 := Lib.hid (F3.old (Old.refl _).drew)
  clear oi oj
  go_region_held3 (fun w' => w'.cell? ⟨w.heap.size, 0, none⟩ = some (.int .u8 k) ∧ w'.cell? ⟨w.heap.size, 1, none⟩ = some (.int .i64 n) ∧ w'.cell? ⟨w.heap.size, 2, none⟩ = some (.string s) ∧ w'.cell? ⟨w.heap.size + 1, 0, none⟩ = some (.int .u8 k') ∧ w'.cell? ⟨w.heap.size + 1, 1, none⟩ = some (.int .i64 n') ∧ w'.cell? ⟨w.heap.size + 1, 2, none⟩ = some (.string s'))
    (first | exact ⟨c0, c1, c2, d0, d1, d2⟩ | exact ⟨R1.out.b.t0.c0, R1.out.b.t0.c1, R1.out.b.t0.c2, R1.out.b.t1.c0, R1.out.b.t1.c1, R1.out.b.t1.c2⟩ | exact ⟨R2.out.b.t0.c0, R2.out.b.t0.c1, R2.out.b.t0.c2, R2.out.b.t1.c0, R2.out.b.t1.c1, R2.out.b.t1.c2⟩ | exact ⟨R3.out.b.t0.c0, R3.out.b.t0.c1, R3.out.b.t0.c2, R3.out.b.t1.c0, R3.out.b.t1.c1, R3.out.b.t1.c2⟩ | exact ⟨far3 R3.out.b.t0.c0 (by omega) _ _ _, far3 R3.out.b.t0.c1 (by omega) _ _ _, far3 R3.out.b.t0.c2 (by omega) _ _ _, far3 R3.out.b.t1.c0 (by omega) _ _ _, far3 R3.out.b.t1.c1 (by omega) _ _ _, far3 R3.out.b.t1.c2 (by omega) _ _ _⟩ | go_keep)
    (first
      | (go_at_call 115; (with_reducible refine (ofi_any _ _).mono ?_); rintro e w1 ⟨rfl, rfl⟩)
      | (go_at_call 117; (with_reducible refine (ofd_any _ _).mono ?_); rintro e w2 ⟨rfl, rfl⟩)
      | (go_at_call 114; (with_reducible refine (hR _ _ _ F2.out F3.out).mono ?_); rintro e w3 ⟨rfl, ho3⟩; have R3 := Lib.hid (R2.out.old ho3); have e0 := R3.out.t2.c0; have e1 := R3.out.t2.c1; have e2 := R3.out.t2.c2; have f0 := R3.out.t2.f 0; have f1 := R3.out.t2.f 1; have f2 := R3.out.t2.f 2))
  all_goals go_wp2
  have R := R3.out.t2.set (.int .u8 A) (.int .i64 B) (.string ⟨#[]⟩)
  have O := old3 R3.out.b.o (b := w.heap.size + 1 + 1) (by omega) (.int .u8 A) (.int .i64 B) (.string ⟨#[]⟩)
  clear hR HR c0 c1 c2 d0 d1 d2 R1 R2 F2 F3 e0 e1 e2 f0 f1 f2 R3 ho3
  exact bodyPost_ret (v := .tuple #[vl A B ⟨#[]⟩, .int .i64 C]) (by simp [results, Tryz.results77, go_sem, R.c0, R.c1, R.c2]) rfl ⟨rfl, O⟩
def rk3 (V E VD ED : Int → Int → Int) (k n k' n' : Int) : Int × Int × Int :=
  if okK k = false ∨ okK k' = false then (0, 0, 8)
  else if k = 0 ∨ k' = 0 then (0, 0, 0)
  else if k = 1 ∧ k' = 1 then (nmK 1 (E n n'), nmN (V n n') (E n n'), E n n')
  else if I64 (wt k n) ∧ I64 (wt k' n') then (nmK 2 (ED (wt k n) (wt k' n')), nmN (VD (wt k n) (wt k' n')) (ED (wt k n) (wt k' n')), ED (wt k n) (wt k' n'))
  else (0, 0, 9)
abbrev rvt (t : Int × Int × Int) : Ending := rv t.1 t.2.1 t.2.2
def adV (a b : Int) : Int := fitV (a + b)
def adE (a b : Int) : Int := fitE (a + b)
def sbV (a b : Int) : Int := fitV (a - b)
def sbE (a b : Int) : Int := fitE (a - b)
def mlV (a b : Int) : Int := fitV (a * b)
def mlE (a b : Int) : Int := fitE (a * b)
def quV (a b : Int) : Int := if b = 0 then 0 else fitV (a.tdiv b)
def quE (a b : Int) : Int := if b = 0 then 10 else fitE (a.tdiv b)
def mdV (a b : Int) : Int := fitV (sgn a b (rnd (a.natAbs * b.natAbs) 10000))
def mdE (a b : Int) : Int := fitE (sgn a b (rnd (a.natAbs * b.natAbs) 10000))
def ddV (a b : Int) : Int := if b = 0 then 0 else fitV (sgn a b (rnd (a.natAbs * 10000) b.natAbs))
def ddE (a b : Int) : Int := if b = 0 then 10 else fitE (sgn a b (rnd (a.natAbs * 10000) b.natAbs))
theorem cf_add : CF 116 adV adE := cf_same fun a b W ha hb => add_any a b W ha hb
theorem cf_sub : CF 118 sbV sbE := cf_same fun a b W ha hb => sub_any a b W ha hb
theorem cf_mul : CF 119 mlV mlE := cf_grown fun a b W ha hb => mul_any a b W ha hb
theorem cf_muldec : CF 120 mdV mdE := cf_grown fun a b W ha hb => muldec_any a b W ha hb
theorem cf_quo : CF 121 quV quE := cf_grown fun a b W ha hb => by
  unfold quV quE
  by_cases h : b = 0
  · subst h
    rw [if_pos rfl, if_pos rfl]
    exact quo_zero a W
  · rw [if_neg h, if_neg h]
    exact quo_any a b W ha hb h
theorem cf_divdec : CF 122 ddV ddE := cf_grown fun a b W ha hb => by
  unfold ddV ddE
  by_cases h : b = 0
  · subst h
    rw [if_pos rfl, if_pos rfl]
    exact divdec_zero a W
  · rw [if_neg h, if_neg h]
    exact divdec_any a b W ha hb h
theorem ok_cases {k : Int} (h : ¬ okK k = false) : k = 0 ∨ k = 1 ∨ k = 2 := by
  unfold okK at h
  simp at h
  omega
theorem kd_bad {k n : Int} {s : ByteArray} {k' n' : Int} {s' : ByteArray} (h : okK k = false ∨ okK k' = false) : kdV [⟨k, n, s⟩, ⟨k', n', s'⟩] = 0 ∧ kdE [⟨k, n, s⟩, ⟨k', n', s'⟩] = 8 := by
  unfold kdV kdE
  rcases h with h | h <;> simp [h]
theorem rk_any (fi fd : FuncId) (hi : fi = 116 ∨ fi = 118 ∨ fi = 119 ∨ fi = 121) (hd : fd = 116 ∨ fd = 118 ∨ fd = 120 ∨ fd = 122) (V E VD ED : Int → Int → Int) (ci : CF fi V E) (cd : CF fd VD ED) (k n : Int) (s : ByteArray) (k' n' : Int) (s' : ByteArray) (hn : I64 n) (hn' : I64 n') :
    RK fi fd k n s k' n' s' (rk3 V E VD ED k n k' n').1 (rk3 V E VD ED k n k' n').2.1 (rk3 V E VD ED k n k' n').2.2 := by
  intro W g g' hg hg'
  unfold rk3
  by_cases h1 : okK k = false ∨ okK k' = false
  · rw [if_pos h1]
    exact reck_end _ _ k n s k' n' s' W 8 (kd_bad h1).1 (kd_bad h1).2
  · rw [if_neg h1]
    have a1 := ok_cases (fun h => h1 (Or.inl h))
    have a2 := ok_cases (fun h => h1 (Or.inr h))
    by_cases h2 : k = 0 ∨ k' = 0
    · rw [if_pos h2]
      refine reck_end _ _ k n s k' n' s' W 0 ?_ ?_
      · rcases a1 with rfl | rfl | rfl <;> rcases a2 with rfl | rfl | rfl <;> first | rfl | omega
      · rcases a1 with rfl | rfl | rfl <;> rcases a2 with rfl | rfl | rfl <;> first | rfl | omega
    · rw [if_neg h2]
      by_cases h3 : k = 1 ∧ k' = 1
      · rw [if_pos h3]
        obtain ⟨rfl, rfl⟩ := h3
        exact reck_int _ _ 1 n s 1 n' s' W _ _ _ rfl rfl (fun W1 ho => ints_any fi hi V E ci 1 n s 1 n' s' W1 g (hg.old ho).2 (hg.old ho).1 hn hn')
      · rw [if_neg h3]
        have e1 : kdV [⟨k, n, s⟩, ⟨k', n', s'⟩] = 2 := by rcases a1 with rfl | rfl | rfl <;> rcases a2 with rfl | rfl | rfl <;> first | rfl | omega
        have e2 : kdE [⟨k, n, s⟩, ⟨k', n', s'⟩] = 0 := by rcases a1 with rfl | rfl | rfl <;> rcases a2 with rfl | rfl | rfl <;> first | rfl | omega
        by_cases h4 : I64 (wt k n) ∧ I64 (wt k' n')
        · rw [if_pos h4]
          exact reck_dec _ _ k n s k' n' s' W _ _ _ e1 e2 (fun W1 ho => decs_any fd hd VD ED cd k n s k' n' s' W1 g' (hg'.old ho).2 (hg'.old ho).1 hn hn' h4.1 h4.2)
        · rw [if_neg h4]
          exact reck_dec _ _ k n s k' n' s' W _ _ _ e1 e2 (fun W1 ho => decs_over k n s k' n' s' W1 g' hn hn' h4)
abbrev adT := rk3 adV adE adV adE
abbrev sbT := rk3 sbV sbE sbV sbE
abbrev mlT := rk3 mlV mlE mdV mdE
abbrev dvT := rk3 quV quE ddV ddE
theorem vadd_any (k n : Int) (s : ByteArray) (k' n' : Int) (s' : ByteArray) (w : World) (hn : I64 n) (hn' : I64 n') : Calls Tryz.prog 74 #[vl k n s, vl k' n' s'] w fun e w' => e = rvt (adT k n k' n') ∧ Old w w' :=
  vadd_walk k n s k' n' s' w _ _ _ (rk_any 116 116 (by decide) (by decide) _ _ _ _ cf_add cf_add k n s k' n' s' hn hn')
theorem vsub_any (k n : Int) (s : ByteArray) (k' n' : Int) (s' : ByteArray) (w : World) (hn : I64 n) (hn' : I64 n') : Calls Tryz.prog 75 #[vl k n s, vl k' n' s'] w fun e w' => e = rvt (sbT k n k' n') ∧ Old w w' :=
  vsub_walk k n s k' n' s' w _ _ _ (rk_any 118 118 (by decide) (by decide) _ _ _ _ cf_sub cf_sub k n s k' n' s' hn hn')
theorem vmul_any (k n : Int) (s : ByteArray) (k' n' : Int) (s' : ByteArray) (w : World) (hn : I64 n) (hn' : I64 n') : Calls Tryz.prog 76 #[vl k n s, vl k' n' s'] w fun e w' => e = rvt (mlT k n k' n') ∧ Old w w' :=
  vmul_walk k n s k' n' s' w _ _ _ (rk_any 119 120 (by decide) (by decide) _ _ _ _ cf_mul cf_muldec k n s k' n' s' hn hn')
theorem vdiv_any (k n : Int) (s : ByteArray) (k' n' : Int) (s' : ByteArray) (w : World) (hn : I64 n) (hn' : I64 n') : Calls Tryz.prog 77 #[vl k n s, vl k' n' s'] w fun e w' => e = rvt (dvT k n k' n') ∧ Old w w' :=
  vdiv_walk k n s k' n' s' w _ _ _ (rk_any 121 122 (by decide) (by decide) _ _ _ _ cf_quo cf_divdec k n s k' n' s' hn hn')
theorem vneg_walk (k n : Int) (s : ByteArray) (w : World) (A B C : Int) (hc : ∀ W, Calls Tryz.prog 75 #[vl 1 0 ⟨#[]⟩, vl k n s] W fun e w' => e = rv A B C ∧ Old W w') :
    Calls Tryz.prog 79 #[vl k n s] w fun e w' => e = rv A B C ∧ Old w w' := by
  have HO := Lib.hid (((Old.refl w).alloc (.cells #[.int .u8 k, .int .i64 n, .string s] 26)).alloc (.cells #[.int .u8 0, .int .i64 0, .string ⟨#[]⟩] 26))
  have HT := Three.new (w.alloc (.cells #[.int .u8 k, .int .i64 n, .string s] 26)) (.int .u8 0) (.int .i64 0) (.string ⟨#[]⟩)
  rw [sz_alloc] at HT
  have HT := Lib.hid HT
  go_enter Tryz.func79, Tryz.ntmps79
  go_wp2_with (first
    | (go_at_call 75; (with_reducible refine (hc _).mono ?_); rintro e w1 ⟨rfl, ho1⟩; have T := Lib.hid (HT.out.old ho1); have c0 := T.out.c0; have c1 := T.out.c1; have c2 := T.out.c2; have f0 := T.out.f 0; have f1 := T.out.f 1; have f2 := T.out.f 2))
  have R := T.out.set (.int .u8 A) (.int .i64 B) (.string ⟨#[]⟩)
  exact bodyPost_ret (v := .tuple #[vl A B ⟨#[]⟩, .int .i64 C]) (by simp [results, Tryz.results79, go_sem, R.c0, R.c1, R.c2]) rfl ⟨rfl, old3 (HO.out.trans ho1) (by omega) _ _ _⟩
theorem vneg_any (k n : Int) (s : ByteArray) (w : World) (hn : I64 n) : Calls Tryz.prog 79 #[vl k n s] w fun e w' => e = rvt (sbT 1 0 k n) ∧ Old w w' :=
  vneg_walk k n s w _ _ _ (fun W => vsub_any 1 0 ⟨#[]⟩ k n s W (by decide) hn)
theorem all_any (l : List Vl) (v : Value) (w : World) (hl : RV w v l) (hb : l.length ≤ 100000) : Calls Tryz.prog 35 #[v] w fun e w' => e = r1 (unT 0 l).1 (unT 0 l).2 ∧ Old w w' := by
  have HO := Lib.hid ((Old.refl w).alloc (.cells #[.int .u8 0, .int .i64 0, .string ⟨#[]⟩] 26))
  have HT := Lib.hid (Three.new w (.int .u8 0) (.int .i64 0) (.string ⟨#[]⟩))
  have k1 := un_any 0 l v _ (hl.old HO.out) hb
  generalize (unT 0 l).1 = A at *
  generalize (unT 0 l).2 = B at *
  go_enter Tryz.func35, Tryz.ntmps35
  go_wp2_with (first
    | (go_at_call 63; (with_reducible refine k1.mono ?_); rintro e w1 ⟨rfl, ho1⟩; have T := Lib.hid (HT.out.old ho1); have c0 := T.out.c0; have c1 := T.out.c1; have c2 := T.out.c2; have f0 := T.out.f 0; have f1 := T.out.f 1; have f2 := T.out.f 2))
  have R := T.out.set (.int .u8 A) (.int .i64 B) (.string ⟨#[]⟩)
  exact bodyPost_ret (v := vl A B ⟨#[]⟩) (by simp [results, Tryz.results35, go_sem, R.c0, R.c1, R.c2]) rfl ⟨rfl, old3 (HO.out.trans ho1) (Nat.le_refl _) _ _ _⟩
theorem any_any (l : List Vl) (v : Value) (w : World) (hl : RV w v l) (hb : l.length ≤ 100000) : Calls Tryz.prog 36 #[v] w fun e w' => e = r1 (unT 1 l).1 (unT 1 l).2 ∧ Old w w' := by
  have HO := Lib.hid ((Old.refl w).alloc (.cells #[.int .u8 0, .int .i64 0, .string ⟨#[]⟩] 26))
  have HT := Lib.hid (Three.new w (.int .u8 0) (.int .i64 0) (.string ⟨#[]⟩))
  have k1 := un_any 1 l v _ (hl.old HO.out) hb
  generalize (unT 1 l).1 = A at *
  generalize (unT 1 l).2 = B at *
  go_enter Tryz.func36, Tryz.ntmps36
  go_wp2_with (first
    | (go_at_call 63; (with_reducible refine k1.mono ?_); rintro e w1 ⟨rfl, ho1⟩; have T := Lib.hid (HT.out.old ho1); have c0 := T.out.c0; have c1 := T.out.c1; have c2 := T.out.c2; have f0 := T.out.f 0; have f1 := T.out.f 1; have f2 := T.out.f 2))
  have R := T.out.set (.int .u8 A) (.int .i64 B) (.string ⟨#[]⟩)
  exact bodyPost_ret (v := vl A B ⟨#[]⟩) (by simp [results, Tryz.results36, go_sem, R.c0, R.c1, R.c2]) rfl ⟨rfl, old3 (HO.out.trans ho1) (Nat.le_refl _) _ _ _⟩
end Go.Proofs.YtmkmafkkpigfpaaGreatDoor.V
