/- Layer vtext: how texts are read, by what begins them. -/
import Derived.Test.YtgmjpcaennmgoaaGreatDoorLG
namespace Go.Proofs.YtgmjpcaennmgoaaGreatDoor
open Go.ChangeShapes Go.WideShapes Go.ChangeAt Go.RowKit Go.Lib
set_option linter.unusedVariables false
set_option linter.unusedSimpArgs false
set_option maxRecDepth 100000

/-- What a number's text says: kind, number, error. -/
def readN : List UInt8 → Int × Int × Int
  | [] => (0, 0, 4)
  | c :: l => if c = 45 then readC [45] (Lib.cut l [46]).1 (Lib.cut l [46]).2.1 (Lib.cut l [46]).2.2 else readC [] (Lib.cut (c :: l) [46]).1 (Lib.cut (c :: l) [46]).2.1 (Lib.cut (c :: l) [46]).2.2
theorem rn_any (c : UInt8) (l : List UInt8) (hl : l.length ≤ 900) (w : World) (he : Env w) :
    Calls Tryz.prog 130 #[.string (st (c :: l))] w fun e w' => e = rt (readN (c :: l)) ∧ Old w w' := by
  show Calls Tryz.prog 130 #[.string (st (c :: l))] w fun e w' => e = rt (if c = 45 then readC [45] (Lib.cut l [46]).1 (Lib.cut l [46]).2.1 (Lib.cut l [46]).2.2 else readC [] (Lib.cut (c :: l) [46]).1 (Lib.cut (c :: l) [46]).2.1 (Lib.cut (c :: l) [46]).2.2) ∧ Old w w'
  by_cases h : c = 45
  · rw [if_pos h]
    exact rn_neg c l _ _ _ h rfl hl w he
  · rw [if_neg h]
    exact rn_pos c l _ _ _ h rfl hl w he

theorem truth_any (b : Bool) (w : World) : Calls Tryz.prog 127 #[.bool b] w fun e w' => e = .returned (vl 4 (if b = true then 1 else 0) ⟨#[]⟩) ∧ Old w w' := by
  cases b
  · go_enter Tryz.func127, Tryz.ntmps127
    go_wp2
    exact bodyPost_ret (v := vl 4 0 ⟨#[]⟩) (by simp [results, Tryz.results127, go_sem]) rfl ⟨rfl, (Old.refl w).alloc _⟩
  · go_enter Tryz.func127, Tryz.ntmps127
    go_wp2
    exact bodyPost_ret (v := vl 4 1 ⟨#[]⟩) (by simp [results, Tryz.results127, go_sem]) rfl ⟨rfl, (Old.refl w).alloc _⟩
theorem only_any (k n : Int) (s : ByteArray) (w : World) : Calls Tryz.prog 126 #[vl k n s] w fun e w' => e = .returned (.func (.func 137) #[] #[.pointer (some ⟨w.heap.size, 0, none⟩)]) ∧ w' = w.alloc (.cells #[.int .u8 k, .int .i64 n, .string s] 35) := by
  go_enter Tryz.func126, Tryz.ntmps126
  go_wp2
  go_ret
  exact ⟨rfl, rfl⟩
theorem only1_any (k n : Int) (t s : ByteArray) (b : Nat) (w : World) (hb : Three w b (.int .u8 k) (.int .i64 n) (.string t)) :
    Calls Tryz.prog 137 #[.string s, .pointer (some ⟨b, 0, none⟩)] w fun e w' => e = rv k n 0 t ∧ Old w w' := by
  have hb' := hb.alloc (.cells #[.int .u8 0, .int .i64 0, .string ⟨#[]⟩] 35)
  have c0 := hb'.c0
  have c1 := hb'.c1
  have c2 := hb'.c2
  clear hb'
  go_enter Tryz.func137, Tryz.ntmps137
  go_wp2
  exact bodyPost_ret (v := .tuple #[vl k n t, .int .i64 0]) (by simp [results, Tryz.results137, go_sem]) rfl ⟨rfl, (Old.refl w).alloc _⟩
theorem sym_any (c : UInt8) (l : List UInt8) (hl : l.length ≤ 900) (w : World) : Calls Tryz.prog 129 #[.string (st (c :: l))] w fun e w' => e = rv 5 0 0 (st l) ∧ Old w w' := by
  have HT := Lib.hid (Three.new w (.int .u8 0) (.int .i64 0) (.string ⟨#[]⟩))
  have HO := Lib.hid ((Old.refl w).alloc (.cells #[.int .u8 0, .int .i64 0, .string ⟨#[]⟩] 35))
  have hx : (st (c :: l)).extract 1 (l.length + 1) = st l := ext1 c l
  have hc := fun W => Tryz.stringslite_Clone (st l) W (by simp [ByteArray.size]; omega)
  have hcl : ∀ W, Calls Tryz.prog 69 #[.string (st l)] W fun e w' => e = .returned (.string (st l)) ∧ Old W w' := by
    intro W
    go_enter Tryz.func69, Tryz.ntmps69
    go_wp2_with (go_at_call 101; (with_reducible refine (hc _).mono ?_); rintro e w1 ⟨rfl, hb⟩)
    go_ret
    exact ⟨rfl, Old.ofBelow hb (Nat.le_refl _)⟩
  clear hc
  go_enter Tryz.func129, Tryz.ntmps129
  go_wp2_with (go_at_call 69; (with_reducible refine (hcl _).mono ?_); rintro e w1 ⟨rfl, o1⟩; have T := Lib.hid (HT.out.old o1); have c0 := T.out.c0; have c1 := T.out.c1; have c2 := T.out.c2; have f0 := T.out.f 0; have f1 := T.out.f 1; have f2 := T.out.f 2)
  have R := T.out.set (.int .u8 5) (.int .i64 0) (.string (st l))
  exact bodyPost_ret (v := .tuple #[vl 5 0 (st l), .int .i64 0]) (by simp [results, Tryz.results129, go_sem, R.c0, R.c1, R.c2]) rfl ⟨rfl, old3 (HO.out.trans o1) (Nat.le_refl _) _ _ _⟩
theorem begin_any (b : Int) (w : World) : Calls Tryz.prog 124 #[.int .u8 b] w fun e w' => e = .returned (.int .u8 (if 48 ≤ b ∧ b ≤ 57 then 48 else b)) ∧ w = w' := by
  have hd := fun W => digit_any b W
  by_cases h : 48 ≤ b ∧ b ≤ 57
  · rw [decide_eq_true h] at hd
    rw [if_pos h]
    clear h
    go_enter Tryz.func124, Tryz.ntmps124
    go_wp2_with (go_at_call 131; (with_reducible refine (hd _).mono ?_); rintro e w1 ⟨rfl, rfl⟩)
    go_ret
    exact ⟨rfl, rfl⟩
  · rw [decide_eq_false h] at hd
    rw [if_neg h]
    clear h
    go_enter Tryz.func124, Tryz.ntmps124
    go_wp2_with (go_at_call 131; (with_reducible refine (hd _).mono ?_); rintro e w1 ⟨rfl, rfl⟩)
    go_ret
    exact ⟨rfl, rfl⟩
/-- An entry of the table. -/
abbrev me (k : Int) (v : Value) (n : Nat) : MapEntry := ⟨.int .u8 k, .agg #[v], n⟩
theorem run_put {w : World} {B : Nat} {es : Array MapEntry} {clock : Nat} (k : Int) (v : Value) (hb : w.heap[B]? = some (.map es clock)) (hf : Instr.findNow (.int .u8) (.int .u8 k) es.toList 0 = some none) :
    ∃ w', (Instr.mapUpdate 139 (.map (some B)) (.int .u8 k) v).run Tryz.prog w = .ok () w' ∧ w'.heap[B]? = some (.map (es.push ⟨.int .u8 k, v, clock⟩) (clock + 1)) ∧ w.grownBy w' (some B) := by
  have hr := MapKept.run_findKey (P := Tryz.prog) (w := w) (kt := 5) Tryz.underlying5 hf
  have hu := run_underlying (P := Tryz.prog) (w := w) Tryz.underlying139
  have hck := MapKept.run_checkKey (P := Tryz.prog) (w := w) (kt := 5) (k := .int .u8 k) Tryz.underlying5 (by simp [MapKept.IsKey]) false 9999
  have hg := MapKept.run_getObj_map (P := Tryz.prog) hb
  have hs := MapKept.run_setObj_map (P := Tryz.prog) (.map (es.push ⟨.int .u8 k, v, clock⟩) (clock + 1)) hb
  refine ⟨{ w with heap := w.heap.setIfInBounds B (.map (es.push ⟨.int .u8 k, v, clock⟩) (clock + 1)) }, ?_, (MapKept.heap_set hb).1, ⟨rfl, rfl, rfl, by simp, fun j hj hne => (MapKept.heap_set hb).2 j (fun e => hne (by rw [e]))⟩⟩
  simp [Instr.mapUpdate, hu, hg, hck, hr, hs, Result.andThen]
/-- What a look-up has found. -/
def lkV : Option (Nat × Value) → Value
  | some (_, v) => v
  | none => .agg #[.nilFunc]
theorem run_lk {w : World} {B : Nat} {es : Array MapEntry} {clock : Nat} (k : Int) (hb : w.heap[B]? = some (.map es clock)) (r : Option (Nat × Value)) (hf : Instr.findNow (.int .u8) (.int .u8 k) es.toList 0 = some r) :
    (Instr.lookup 139 (.map (some B)) (.int .u8 k) true).run Tryz.prog w = .ok (.tuple #[lkV r, .bool r.isSome]) w := by
  have hr := MapKept.run_findKey (P := Tryz.prog) (w := w) (kt := 5) Tryz.underlying5 hf
  have hu := run_underlying (P := Tryz.prog) (w := w) Tryz.underlying139
  have hck := fun b => MapKept.run_checkKey (P := Tryz.prog) (w := w) (kt := 5) (k := .int .u8 k) Tryz.underlying5 (by simp [MapKept.IsKey]) b 9999
  have hg := MapKept.run_getObj_map (P := Tryz.prog) hb
  have hz : (zeroValue 137).run Tryz.prog w = .ok (.agg #[.nilFunc]) w := Tryz.zeroValue137 w
  cases r with
  | none => simp [Instr.lookup, hu, hg, hck, hr, hz, Result.andThen, lkV]
  | some p => simp [Instr.lookup, hu, hg, hck, hr, Result.andThen, lkV]
theorem wpl_put {ops : Array Oper} {rest : List Oper} {o : Oper} {a : Act} {Q : Exit → Act → World → Prop} {w : World} (hg : o.guard = none) (m x v : Operand) (hop : o.op = .insert 139 m x v)
    (B : Nat) (es : Array MapEntry) (clock : Nat) (k : Int) (val : Value) (hm : a.eval m = .map (some B)) (hx : a.eval x = .int .u8 k) (hv : a.eval v = val) (hb : w.heap[B]? = some (.map es clock)) (hf : Instr.findNow (.int .u8) (.int .u8 k) es.toList 0 = some none)
    (hK : ∀ w', w'.heap[B]? = some (.map (es.push ⟨.int .u8 k, val, clock⟩) (clock + 1)) → w.grownBy w' (some B) → wpList Tryz.prog ops Q rest (a.put o.dst undef) w') : wpList Tryz.prog ops Q (o :: rest) a w := by
  refine wpList_plain hg fun K' hK' => ?_
  obtain ⟨w', hrun, r1, r2⟩ := run_put k val hb hf
  unfold Oper.wp
  simp [execOp, hop, hm, hx, hv, hrun, Result.andThen]
  exact hK' _ _ (hK w' r1 r2)
/-- The table of forms, as it is laid. -/
def formsAt (b1 b2 b3 : Nat) : List MapEntry := [me 110 (.func (.func 137) #[] #[.pointer (some ⟨b1, 0, none⟩)]) 0, me 116 (.func (.func 137) #[] #[.pointer (some ⟨b2, 0, none⟩)]) 1, me 102 (.func (.func 137) #[] #[.pointer (some ⟨b3, 0, none⟩)]) 2, me 34 (.func (.func 128) #[] #[]) 3, me 35 (.func (.func 129) #[] #[]) 4, me 45 (.func (.func 130) #[] #[]) 5, me 48 (.func (.func 130) #[] #[]) 6]
/-- This map is the table of forms, its values where it says. -/
def FormsIn (w : World) (B : Nat) : Prop := ∃ b1 b2 b3 cl, w.heap[B]? = some (.map (formsAt b1 b2 b3).toArray cl) ∧ Three w b1 (.int .u8 0) (.int .i64 0) (.string ⟨#[]⟩) ∧ Three w b2 (.int .u8 4) (.int .i64 1) (.string ⟨#[]⟩) ∧ Three w b3 (.int .u8 4) (.int .i64 0) (.string ⟨#[]⟩)
theorem Three.grown {w w' : World} {b B : Nat} {x y z : Value} (h : Three w b x y z) (hg : w.grownBy w' (some B)) (hne : b ≠ B) : Three w' b x y z := (hg.block b h.lt (by simpa using hne)).trans h
theorem Old.put {a w w' : World} {B : Nat} (h : Old a w) (hg : w.grownBy w' (some B)) (hB : a.heap.size ≤ B) : Old a w' := h.grown hg (by intro k hk; cases hk; exact hB)

theorem hm_old {w w' : World} {B : Nat} {o : Obj} (ho : Old w w') (h : w.heap[B]? = some o) : w'.heap[B]? = some o := (ho.block B (blk_lt h)).trans h
theorem only_ex (k n : Int) (w : World) {B : Nat} {o : Obj} (hb : w.heap[B]? = some o) : Calls Tryz.prog 126 #[vl k n ⟨#[]⟩] w fun e w' => ∃ b, e = .returned (.func (.func 137) #[] #[.pointer (some ⟨b, 0, none⟩)]) ∧ Three w' b (.int .u8 k) (.int .i64 n) (.string ⟨#[]⟩) ∧ b ≠ B ∧ Old w w' := by
  refine (only_any k n ⟨#[]⟩ w).mono ?_
  rintro e w' ⟨rfl, rfl⟩
  exact ⟨w.heap.size, rfl, Three.new _ _ _ _, Nat.ne_of_gt (blk_lt hb), (Old.refl w).alloc _⟩

set_option maxHeartbeats 3200000 in
theorem forms_any (w : World) : Calls Tryz.prog 123 #[] w fun e w' => ∃ B, e = .returned (.map (some B)) ∧ FormsIn w' B ∧ Old w w' := by
  have hmm := @run_makeMap Tryz.prog
  have HM : Hid ((w.alloc (.map #[] 0)).heap[w.heap.size]? = some (.map #[] 0)) := Lib.hid (MapKept.heap_alloc w _).1
  have HO := Lib.hid ((Old.refl w).alloc (.map #[] 0))
  go_enter Tryz.func123, Tryz.ntmps123
  go_wp2_with (first
    | (refine wpl_put (by rfl) (.tmp 1) (.const (.int .u8 110)) _ (by rfl) w.heap.size #[] 0 110 (.agg #[.func (.func 137) #[] #[.pointer (some ⟨b1, 0, none⟩)]]) (by rfl) (by rfl) (by rfl) HM.out (by rfl) ?_; intro p0 hM0 hG0; replace HM := Lib.hid hM0; replace HO := Lib.hid (HO.out.put hG0 (Nat.le_refl _)); clear hM0; replace T1 := Lib.hid (T1.out.grown hG0 N1.out); clear hG0)
    | (refine wpl_put (by rfl) (.tmp 1) (.const (.int .u8 116)) _ (by rfl) w.heap.size #[me 110 (.func (.func 137) #[] #[.pointer (some ⟨b1, 0, none⟩)]) 0] 1 116 (.agg #[.func (.func 137) #[] #[.pointer (some ⟨b2, 0, none⟩)]]) (by rfl) (by rfl) (by rfl) HM.out (by rfl) ?_; intro p1 hM1 hG1; replace HM := Lib.hid hM1; replace HO := Lib.hid (HO.out.put hG1 (Nat.le_refl _)); clear hM1; replace T1 := Lib.hid (T1.out.grown hG1 N1.out); replace T2 := Lib.hid (T2.out.grown hG1 N2.out); clear hG1)
    | (refine wpl_put (by rfl) (.tmp 1) (.const (.int .u8 102)) _ (by rfl) w.heap.size #[me 110 (.func (.func 137) #[] #[.pointer (some ⟨b1, 0, none⟩)]) 0, me 116 (.func (.func 137) #[] #[.pointer (some ⟨b2, 0, none⟩)]) 1] 2 102 (.agg #[.func (.func 137) #[] #[.pointer (some ⟨b3, 0, none⟩)]]) (by rfl) (by rfl) (by rfl) HM.out (by rfl) ?_; intro p2 hM2 hG2; replace HM := Lib.hid hM2; replace HO := Lib.hid (HO.out.put hG2 (Nat.le_refl _)); clear hM2; replace T1 := Lib.hid (T1.out.grown hG2 N1.out); replace T2 := Lib.hid (T2.out.grown hG2 N2.out); replace T3 := Lib.hid (T3.out.grown hG2 N3.out); clear hG2)
    | (refine wpl_put (by rfl) (.tmp 1) (.const (.int .u8 34)) _ (by rfl) w.heap.size #[me 110 (.func (.func 137) #[] #[.pointer (some ⟨b1, 0, none⟩)]) 0, me 116 (.func (.func 137) #[] #[.pointer (some ⟨b2, 0, none⟩)]) 1, me 102 (.func (.func 137) #[] #[.pointer (some ⟨b3, 0, none⟩)]) 2] 3 34 (.agg #[.func (.func 128) #[] #[]]) (by rfl) (by rfl) (by rfl) HM.out (by rfl) ?_; intro p3 hM3 hG3; replace HM := Lib.hid hM3; replace HO := Lib.hid (HO.out.put hG3 (Nat.le_refl _)); clear hM3; replace T1 := Lib.hid (T1.out.grown hG3 N1.out); replace T2 := Lib.hid (T2.out.grown hG3 N2.out); replace T3 := Lib.hid (T3.out.grown hG3 N3.out); clear hG3)
    | (refine wpl_put (by rfl) (.tmp 1) (.const (.int .u8 35)) _ (by rfl) w.heap.size #[me 110 (.func (.func 137) #[] #[.pointer (some ⟨b1, 0, none⟩)]) 0, me 116 (.func (.func 137) #[] #[.pointer (some ⟨b2, 0, none⟩)]) 1, me 102 (.func (.func 137) #[] #[.pointer (some ⟨b3, 0, none⟩)]) 2, me 34 (.func (.func 128) #[] #[]) 3] 4 35 (.agg #[.func (.func 129) #[] #[]]) (by rfl) (by rfl) (by rfl) HM.out (by rfl) ?_; intro p4 hM4 hG4; replace HM := Lib.hid hM4; replace HO := Lib.hid (HO.out.put hG4 (Nat.le_refl _)); clear hM4; replace T1 := Lib.hid (T1.out.grown hG4 N1.out); replace T2 := Lib.hid (T2.out.grown hG4 N2.out); replace T3 := Lib.hid (T3.out.grown hG4 N3.out); clear hG4)
    | (refine wpl_put (by rfl) (.tmp 1) (.const (.int .u8 45)) _ (by rfl) w.heap.size #[me 110 (.func (.func 137) #[] #[.pointer (some ⟨b1, 0, none⟩)]) 0, me 116 (.func (.func 137) #[] #[.pointer (some ⟨b2, 0, none⟩)]) 1, me 102 (.func (.func 137) #[] #[.pointer (some ⟨b3, 0, none⟩)]) 2, me 34 (.func (.func 128) #[] #[]) 3, me 35 (.func (.func 129) #[] #[]) 4] 5 45 (.agg #[.func (.func 130) #[] #[]]) (by rfl) (by rfl) (by rfl) HM.out (by rfl) ?_; intro p5 hM5 hG5; replace HM := Lib.hid hM5; replace HO := Lib.hid (HO.out.put hG5 (Nat.le_refl _)); clear hM5; replace T1 := Lib.hid (T1.out.grown hG5 N1.out); replace T2 := Lib.hid (T2.out.grown hG5 N2.out); replace T3 := Lib.hid (T3.out.grown hG5 N3.out); clear hG5)
    | (refine wpl_put (by rfl) (.tmp 1) (.const (.int .u8 48)) _ (by rfl) w.heap.size #[me 110 (.func (.func 137) #[] #[.pointer (some ⟨b1, 0, none⟩)]) 0, me 116 (.func (.func 137) #[] #[.pointer (some ⟨b2, 0, none⟩)]) 1, me 102 (.func (.func 137) #[] #[.pointer (some ⟨b3, 0, none⟩)]) 2, me 34 (.func (.func 128) #[] #[]) 3, me 35 (.func (.func 129) #[] #[]) 4, me 45 (.func (.func 130) #[] #[]) 5] 6 48 (.agg #[.func (.func 130) #[] #[]]) (by rfl) (by rfl) (by rfl) HM.out (by rfl) ?_; intro p6 hM6 hG6; replace HM := Lib.hid hM6; replace HO := Lib.hid (HO.out.put hG6 (Nat.le_refl _)); clear hM6; replace T1 := Lib.hid (T1.out.grown hG6 N1.out); replace T2 := Lib.hid (T2.out.grown hG6 N2.out); replace T3 := Lib.hid (T3.out.grown hG6 N3.out); clear hG6)
    | (go_at_call 127; (with_reducible refine (truth_any true _).mono ?_); rintro e q2 ⟨rfl, o⟩; replace HM := Lib.hid (hm_old o HM.out); replace HO := Lib.hid (HO.out.trans o); replace T1 := Lib.hid (T1.out.old o); clear o)
    | (go_at_call 127; (with_reducible refine (truth_any false _).mono ?_); rintro e q3 ⟨rfl, o⟩; replace HM := Lib.hid (hm_old o HM.out); replace HO := Lib.hid (HO.out.trans o); replace T1 := Lib.hid (T1.out.old o); replace T2 := Lib.hid (T2.out.old o); clear o)
    | (go_at_call 126; (with_reducible refine (only_ex 0 0 _ HM.out).mono ?_); rintro e v1 ⟨b1, rfl, t1, n1, o⟩; have T1 := Lib.hid t1; have N1 := Lib.hid n1; clear t1 n1; replace HM := Lib.hid (hm_old o HM.out); replace HO := Lib.hid (HO.out.trans o); clear o)
    | (go_at_call 126; (with_reducible refine (only_ex 4 1 _ HM.out).mono ?_); rintro e v2 ⟨b2, rfl, t2, n2, o⟩; have T2 := Lib.hid t2; have N2 := Lib.hid n2; clear t2 n2; replace HM := Lib.hid (hm_old o HM.out); replace HO := Lib.hid (HO.out.trans o); replace T1 := Lib.hid (T1.out.old o); clear o)
    | (go_at_call 126; (with_reducible refine (only_ex 4 0 _ HM.out).mono ?_); rintro e v3 ⟨b3, rfl, t3, n3, o⟩; have T3 := Lib.hid t3; have N3 := Lib.hid n3; clear t3 n3; replace HM := Lib.hid (hm_old o HM.out); replace HO := Lib.hid (HO.out.trans o); replace T1 := Lib.hid (T1.out.old o); replace T2 := Lib.hid (T2.out.old o); clear o)
    )
  go_ret
  exact ⟨w.heap.size, rfl, ⟨b1, b2, b3, _, HM.out, T1.out, T2.out, T3.out⟩, HO.out⟩
end Go.Proofs.YtgmjpcaennmgoaaGreatDoor
