/- Layer memory: the facts collected (slices.AppendSeq, slices.Collect); Facts. -/
import Derived.Test.YtfhbnkdibhmmcaaQM
import Derived.RangeFuncBox
namespace Go.Proofs.Ytfhbnkdibhmmcaa
open Go.ChangeShapes Go.WideShapes Go.ChangeAt Go.RowKit Go.Lib
set_option linter.unusedVariables false
set_option linter.unusedSimpArgs false
set_option maxRecDepth 100000

theorem wpListIn_appC {F : Fence} {nF : Nat} {P : Program} (W : World) {ops : Array Oper} {rest : List Oper} {o : Oper} {a : Act} {Q : Exit → Act → World → Prop} (hgd : o.guard = none) (s x : Operand) (t : TypeId)
    (ho : o.op = .call { callee := .builtin .append, args := #[s, x], argTypes := #[t, t] })
    (base : Nat) (e : TypeId) (i : TypeInfo) (z : Value) (size bytes : Nat) (ht : P.underlying t = some (.slice e)) (hi : P.info? e = some i) (hz : i.zero = some z)
    (hsize : i.size = size) (hby : i.bytes = bytes) (hzs : z.cells.size = size) (hsz : 0 < size)
    (v : Value) (n : Nat) (xs : List Value) (hs : a.eval s = v) (hown : W.ownsRow base e size v n xs)
    (vx : Value) (m : Nat) (cs : List Value) (hx : a.eval x = vx) (hr : CR W vx m size cs) (h1 : ∀ u ∈ cs, u.oneCell' = true) (hlen : (n + m) * bytes ≤ 140737488355328) (hlen2 : n + m ≤ maxLen) (hbase : base ≤ W.heap.size)
    (h : ∀ oa cap w', w'.ownsRow base e size (.slice oa (n + m) cap) (n + m) (xs ++ cs) → W.grownBy w' v.ownBlock → wpListIn F nF P ops Q rest (a.put o.dst (.slice oa (n + m) cap)) w') : wpListIn F nF P ops Q (o :: rest) a W := by
  refine wpListIn_plain hgd fun K hK => ?_
  obtain ⟨v', w', hrun, h2, h3, _⟩ := run_appC (P := P) W base t o.type e i z size bytes ht hi hz hsize hby hzs hsz v n xs hown vx m cs hr h1 hlen hlen2 hbase
  obtain ⟨oa, cap, rfl⟩ := own_shape h2
  unfold Oper.wpIn
  refine ⟨by simp [Oper.about, ho, resolve, Target.leads, Sem.run_pure], ?_⟩
  rw [Oper.semAt_plain F _ _ (by rw [ho]; intro c hc'; cases hc')]
  simp [execOp, ho, resolve, invoke, builtin, hs, hx, hrun, Result.andThen]
  exact hK _ _ (h oa cap w' h2 h3)

theorem Old.below {a w w' : World} (h : Old a w) (hb : Below a.heap.size w w') : Old a w' :=
  ⟨hb.os.trans h.os, hb.output.trans h.output, Nat.le_trans h.size hb.size, fun k hk => (hb.block k hk).trans (h.block k hk)⟩
theorem Old.put {a w : World} (h : Old a w) {l : Nat} {o : Obj} (o' : Obj) (hl : a.heap.size ≤ l) (ho : w.heap[l]? = some o) : Old a (w.putObj l o') :=
  h.grown (grownBy_putObj' w l o') (fun k e => by cases e; exact hl)
/-- Rows of cells of other types lie in other blocks. -/
theorem own_ne {w : World} {b b' n n' s s' : Nat} {e e' : TypeId} {v v' : Value} {cs cs' : List Value} (h : w.ownsRow b e s v n cs) (h' : w.ownsRow b' e' s' v' n' cs') (hne : e ≠ e') : v'.ownBlock = none ∨ v'.ownBlock ≠ v.ownBlock := by
  rcases h'.2 with ⟨rfl, _⟩ | ⟨g', cap', cur', rfl, _, hg', _⟩
  · exact Or.inl rfl
  · rcases h.2 with ⟨rfl, _⟩ | ⟨g, cap, cur, rfl, _, hg, _⟩
    · exact Or.inr (by simp [Value.ownBlock])
    · refine Or.inr (fun e => ?_)
      obtain rfl : g' = g := by simpa [Value.ownBlock] using e
      rw [hg] at hg'
      simp only [Option.some.injEq, Obj.cells.injEq] at hg'
      exact hne hg'.2.1

/-- The cells of facts with their slices. -/
def fcells : List (Ft × Value) → List Value
  | [] => []
  | x :: l => .int .i64 x.1.id :: .int .i64 x.1.t :: x.2 :: fcells l
theorem fcells_len : ∀ l : List (Ft × Value), (fcells l).length = l.length * 3
  | [] => rfl
  | x :: l => by rw [fcells, List.length_cons, List.length_cons, List.length_cons, List.length_cons, fcells_len l]; omega
theorem fcells_app : ∀ (a b : List (Ft × Value)), fcells (a ++ b) = fcells a ++ fcells b
  | [], b => rfl
  | x :: a, b => by rw [List.cons_append, fcells, fcells_app a b]; rfl
/-- Each told fact's values lie in a row of their own. -/
def RVs (w : World) (B : Nat) (V : List (Ft × Value)) : Prop := ∀ x ∈ V, w.ownsRow B 45 3 x.2 x.1.l.length (vcells x.1.l) ∧ ∀ y ∈ x.1.l, y.s.size ≤ maxLen
theorem RVs.old {w w' : World} {B : Nat} {V : List (Ft × Value)} (h : RVs w B V) (ho : Old w w') : RVs w' B V := fun x hx => ⟨own_old (h x hx).1 ho, (h x hx).2⟩
/-- The slice r holds these facts, all of it from block B on. -/
def FR (w : World) (B : Nat) (r : Value) (L : List Ft) : Prop := ∃ V : List (Ft × Value), V.map (·.1) = L ∧ w.ownsRow B 38 3 r V.length (fcells V) ∧ RVs w B V
theorem FR.old {w w' : World} {B : Nat} {r : Value} {L : List Ft} (h : FR w B r L) (ho : Old w w') : FR w' B r L := by
  obtain ⟨V, h1, h2, h3⟩ := h
  exact ⟨V, h1, own_old h2 ho, h3.old ho⟩

/-- Between two rounds: what has been collected. -/
def Ci (w : World) (E : List En) (k : Nat) (W : World) : Prop := ∃ (V : List (Ft × Value)) (oa : Option Addr) (cap : Nat), V.length = k ∧ V.map (·.1) = (E.take k).map En.ft ∧ Boxed W w.heap.size 30 (.slice oa k cap) ∧ W.ownsRow w.heap.size 38 3 (.slice oa k cap) k (fcells V) ∧ RVs W w.heap.size V ∧ Old w W
theorem Ci.old {w : World} {E : List En} {k : Nat} {A B : World} (h : Ci w E k A) (ho : Old A B) : Ci w E k B := by
  obtain ⟨V, oa, cap, h1, h2, h3, h4, h5, h6⟩ := h
  exact ⟨V, oa, cap, h1, h2, (ho.block _ (blk_lt h3)).trans h3, own_old h4 ho, h5.old ho, h6.trans ho⟩
theorem Ci.put {w : World} {E : List En} {k : Nat} {A : World} {l : Nat} {r : Loop} (h : Ci w E k A) (o' : Obj) (hl : w.heap.size ≤ l) (ho : A.heap[l]? = some (.loop r)) : Ci w E k (A.putObj l o') := by
  obtain ⟨V, oa, cap, h1, h2, h3, h4, h5, h6⟩ := h
  refine ⟨V, oa, cap, h1, h2, ?_, ownsRow_putObj h4 _ ho rfl, fun x hx => ⟨ownsRow_putObj (h5 x hx).1 _ ho rfl, (h5 x hx).2⟩, h6.put _ hl ho⟩
  have : l ≠ w.heap.size := fun e => by
    have h3' : A.heap[w.heap.size]? = _ := h3
    rw [← e, ho] at h3'
    cases h3'
  have h3' : A.heap[w.heap.size]? = _ := h3
  exact (World.putObj_heap_other (Ne.symm this)).trans h3'
theorem Ym.put {E : List En} {B k : Nat} {v : Value} {A : World} {l : Nat} {r : Loop} (h : Ym E B k v A) (o' : Obj) (ho : A.heap[l]? = some (.loop r)) : Ym E B k v (A.putObj l o') := by
  obtain ⟨x, hx, v', rfl, hv, hs⟩ := h
  exact ⟨x, hx, v', rfl, ownsRow_putObj hv _ ho rfl, hs⟩
theorem Ym.old {E : List En} {B k : Nat} {v : Value} {A A' : World} (h : Ym E B k v A) (ho : Old A A') : Ym E B k v A' := by
  obtain ⟨x, hx, hf⟩ := h
  exact ⟨x, hx, hf.old ho⟩
theorem Fb.put {A : World} {b l : Nat} {x y z : Value} {r : Loop} (h : Fb A b x y z) (o' : Obj) (ho : A.heap[l]? = some (.loop r)) : Fb (A.putObj l o') b x y z := by
  have : l ≠ b := fun e => by
    unfold Fb at h
    rw [← e, ho] at h
    cases h
  have h' : A.heap[b]? = _ := h
  exact (World.putObj_heap_other (Ne.symm this)).trans h'

theorem cr_one3 {W : World} {b : Nat} {x y z : Value} {t : TypeId} (h : W.heap[b]? = some (.cells #[x, y, z] t (0, 0))) : CR W (.slice (some ⟨b, 0, none⟩) 1 1) 1 3 [x, y, z] := by
  obtain ⟨c0, c1, c2⟩ := obj_cells h
  refine ⟨_, 1, rfl, Nat.le_refl _, by unfold maxLen; omega, rfl, fun j u hj => ⟨b, 0, rfl, blk_lt h, ?_⟩⟩
  rcases j with _ | _ | _ | j
  · simp at hj; subst hj; exact c0
  · simp at hj; subst hj; exact c1
  · simp at hj; subst hj; exact c2
  · simp at hj
/-- A row of values stays where a fact is appended to a row of facts and that one is put into its variable. -/
theorem row_kept {W w1 : World} {n₀ B k : Nat} {v v' u : Value} {xs cs : List Value} {n : Nat} {tmp : Obj} {b0 : Nat} (hv : Boxed W B 30 v) (hrow : W.ownsRow n₀ 38 3 v k xs) (hgrow : (W.alloc tmp).grownBy w1 v.ownBlock) (hv1 : Boxed w1 B 30 v)
    (h : W.ownsRow b0 45 3 u n cs) : (w1.setCell ⟨B, 0, none⟩ v').ownsRow b0 45 3 u n cs := by
  have h1 : w1.ownsRow b0 45 3 u n cs := (own_old h ((Old.refl W).alloc tmp)).kept hgrow (own_ne (own_old hrow ((Old.refl W).alloc tmp)) (own_old h ((Old.refl W).alloc tmp)) (by decide))
  exact h1.kept (grownBy_setCell' w1 B v') (.inr (hv1.not_row (by decide) h1).symm)

attribute [local go_sem] Oper.semAt_some

/-- Behind the round's variable. -/
def Ca (w : World) (E : List En) (tm : Value → Value → Array Value) (k : Nat) (v : Value) (a : Act) (W : World) : Prop :=
  Ci w E k W ∧ Ym E w.heap.size k v W ∧ ∃ bf x y z, v = .agg #[x, y, z] ∧ Fb W bf x y z ∧ a = { tmps := tm (.pointer (some ⟨bf, 0, none⟩)) v, defers := [] }

set_option maxHeartbeats 1000000 in
theorem appseq_any {w : World} {p b lim last : Nat} {E : List En} {v : Value} {B3 B1 : Nat} (hM : MemE w p b lim last E) (hI : It w B3 B1 p v E) :
    Calls Try.prog 38 #[.slice none 0 0, .func (.func 37) #[] #[.pointer (some ⟨B3, 0, none⟩), .pointer (some ⟨B1, 0, none⟩)]] w fun e w' => (∃ r, e = .returned r ∧ FR w' w.heap.size r (E.map En.ft)) ∧ Old w w' := by
  refine (callsIn_wide (n := 8)).1 ?_
  refine callsIn_of_wp_marks Try.func38 rfl trivial ?_ rfl
  simp only [Try.ntmps38, List.size_toArray, List.length_cons, List.length_nil, Nat.reduceAdd, Nat.reduceSub, Array.replicate_succ, Array.replicate_zero, List.push_toArray, List.append_toArray, List.nil_append, List.cons_append]
  gi_wp2
  have hsz : (w.alloc (.cells #[.slice none 0 0] 30)).heap.size = w.heap.size + 1 := by simp
  have HM := Lib.hid hM
  have HI := Lib.hid hI
  refine wpIn_tells rfl (by omega) (gf := 37) (lb := #[.pointer (some ⟨B3, 0, none⟩), .pointer (some ⟨B1, 0, none⟩)]) rfl trivial (enters_of Try.func37 (by kernel_rfl) rfl)
    (tells_any 7 (by omega) p b lim last E v B3 B1 w.heap.size) rfl (Ci w E) (fun k A B h ho => h.old ho) (fun k A l r r' h hl ho => h.put _ (by rw [hsz] at hl; omega) ho)
    (fun k A h => ?_) ?_ (Ca w E (fun x y => #[.slice none 0 0, .func (.func 37) #[] #[.pointer (some ⟨B3, 0, none⟩), .pointer (some ⟨B1, 0, none⟩)], .pointer (some ⟨w.heap.size, 0, none⟩), undef, .slice none 0 0, x, .func (.func 37) #[] #[.pointer (some ⟨B3, 0, none⟩), .pointer (some ⟨B1, 0, none⟩)], y, undef, undef, undef, undef, undef]))
    (fun k u a' A l r r' h hl ho => ?_) ?assign ?body ?done
  · obtain ⟨V, oa, cap, _, _, _, _, _, h6⟩ := h
    exact ⟨HM.out.old h6, HI.out.old h6, h6.size⟩
  · exact ⟨[], none, 0, rfl, rfl, (MapKept.heap_alloc w _).1, World.ownsRow_nil _ _ _ _, fun x hx => (by simp at hx), (Old.refl w).alloc _⟩
  · obtain ⟨h1, h2, bf, x, y, z, rfl, hf, ha⟩ := h
    exact ⟨h1.put _ (by rw [hsz] at hl; omega) ho, h2.put _ ho, bf, x, y, z, rfl, hf.put _ ho, ha⟩
  case assign =>
    intro l k u A hi hy hk
    obtain ⟨x, hx, vv, rfl, hown, hs⟩ := id hy
    obtain ⟨oa, cap, rfl⟩ := own_shape hown
    have HI2 := Lib.hid hi
    have HY := Lib.hid hy
    clear hi hy hx hown hs
    gi_wp2
    exact ⟨KeepsFrom.ofOld _ ((Old.refl A).alloc _), HI2.out.old ((Old.refl A).alloc _), HY.out.old ((Old.refl A).alloc _), A.heap.size, _, _, _, rfl, Fb.new A _ _ _, rfl⟩
  case body =>
    intro l k u a' A h hk
    obtain ⟨hC, hY, bf, x, y, z, rfl, hf, rfl⟩ := h
    obtain ⟨V, oa, cap, e1, e2, hbx, hown, hrv, ho⟩ := hC
    obtain ⟨xe, hx, vv, e3, hvr, hs⟩ := hY
    simp only [Value.agg.injEq, Array.mk.injEq, List.cons.injEq, and_true] at e3
    obtain ⟨rfl, rfl, rfl⟩ := e3
    obtain ⟨ov, cv, rfl⟩ := own_shape hvr
    obtain ⟨i, hi, hz, hsz', hby⟩ := info_parts info38
    have HC1 := Lib.hid (cr_one3 (MapKept.heap_alloc A (.cells #[.int .i64 xe.ft.id, .int .i64 xe.ft.t, .slice ov xe.ft.l.length cv] 38)).1)
    have HBX := Lib.hid hbx
    have HOWN := Lib.hid hown
    have HOWN2 := Lib.hid (own_old hown ((Old.refl A).alloc (.cells #[.int .i64 xe.ft.id, .int .i64 xe.ft.t, .slice ov xe.ft.l.length cv] 38)))
    have hk2 : k ≤ 200 := by
      have := HM.out.room
      have := HM.out.lims
      omega
    have L1 := Lib.hid (show (k + 1) * 40 ≤ 140737488355328 by omega)
    have L2 := Lib.hid (show k + 1 ≤ maxLen by unfold maxLen; omega)
    have L3 := Lib.hid (show w.heap.size ≤ (A.alloc (.cells #[.int .i64 xe.ft.id, .int .i64 xe.ft.t, .slice ov xe.ft.l.length cv] 38)).heap.size by have := ho.size; simp; omega)
    have L4 := Lib.hid ho.size
    have HONE := Lib.hid (fun u hu => by
      simp only [List.mem_cons, List.not_mem_nil, or_false] at hu
      rcases hu with rfl | rfl | rfl <;> rfl : ∀ u ∈ [Value.int .i64 xe.ft.id, Value.int .i64 xe.ft.t, Value.slice ov xe.ft.l.length cv], u.oneCell' = true)
    have HRV := Lib.hid hrv
    have HVR := Lib.hid hvr
    have HS := Lib.hid hs
    have HX := Lib.hid hx
    have HO := Lib.hid ho
    have HK := Lib.hid hk
    have c0 := hbx.cell
    have d0 := hf.c0
    have d1 := hf.c1
    have d2 := hf.c2
    clear hbx hown hrv hvr hs hx ho hk hk2 hf
    gi_wp2_with (first
      | (gi_at_builtin; refine wpListIn_appC _ rfl _ _ 30 rfl w.heap.size 38 i _ 3 40 Try.underlying30 hi hz hsz' hby rfl (Nat.zero_lt_succ 2) (.slice oa k cap) k (fcells V) rfl HOWN2.out (.slice (some ⟨A.heap.size, 0, none⟩) 1 1) 1 _ rfl HC1.out HONE.out L1.out L2.out L3.out ?_; intro ob cap2 w1 hown1 hgrow; obtain ⟨q1, q2, q3, q4, q5⟩ := HBX.out.appended (by decide) HOWN.out L4.out (Nat.le_refl _) hown1 hgrow; have HG := Lib.hid hgrow; have Q1 := Lib.hid q1; have Q2 := Lib.hid q2; have Q3 := Lib.hid q3; have Q4 := Lib.hid q4; have Q5 := Lib.hid q5; clear hown1 hgrow q2 q3 q4 q5; have g0 := q1.cell; have gf := q1.frozen; clear q1))
    refine ⟨Q4.out.from _, V ++ [(xe.ft, .slice ov xe.ft.l.length cv)], ob, cap2, by rw [List.length_append, e1]; rfl, ?_, Q2.out, ?_, ?_, HO.out.below Q5.out⟩
    · rw [List.map_append, e2, List.take_add_one, HX.out, Option.toList_some, List.map_append]
      rfl
    · rw [fcells_app]
      exact Q3.out
    · intro y hy
      rcases List.mem_append.1 hy with hy | hy
      · exact ⟨row_kept HBX.out HOWN.out HG.out Q1.out (HRV.out y hy).1, (HRV.out y hy).2⟩
      · rw [List.mem_singleton] at hy
        subst hy
        exact ⟨row_kept HBX.out HOWN.out HG.out Q1.out HVR.out, HS.out⟩
  case done =>
    intro D A hD h hA
    obtain ⟨V, oa, cap, e1, e2, hbx, hown, hrv, ho⟩ := h
    have c0 := hbx.cell
    gi_wp2
    refine ⟨by simp, .inl ⟨_, _, rfl, run_takeDeferred hA, ?_⟩⟩
    refine ⟨_, results_tmp rfl _ _ _, ⟨_, rfl, V, ?_, ?_, fun x hx => ⟨ownsRow_putObj (hrv x hx).1 _ hA rfl, (hrv x hx).2⟩⟩, ho.put _ (by rw [hsz] at hD; omega) hA⟩
    · rw [e2, List.take_length]
    · rw [e1]
      exact ownsRow_putObj hown _ hA rfl

theorem collect_any {w : World} {p b lim last : Nat} {E : List En} {v : Value} {B3 B1 : Nat} (hM : MemE w p b lim last E) (hI : It w B3 B1 p v E) :
    Calls Try.prog 32 #[.func (.func 37) #[] #[.pointer (some ⟨B3, 0, none⟩), .pointer (some ⟨B1, 0, none⟩)]] w fun e w' => (∃ r, e = .returned r ∧ FR w' w.heap.size r (E.map En.ft)) ∧ Old w w' := by
  have ha := appseq_any hM hI
  go_enter Try.func32, Try.ntmps32
  go_wp2_with (go_at_call 38; (with_reducible refine ha.mono ?_); rintro e w1 ⟨⟨r, rfl, V, h1, h2, h3⟩, ho⟩; obtain ⟨oa, cap, rfl⟩ := own_shape h2)
  go_ret
  exact ⟨⟨_, rfl, V, h1, h2, h3⟩, ho⟩

theorem FR.low {w : World} {B B' : Nat} {r : Value} {L : List Ft} (h : FR w B r L) (hb : B' ≤ B) : FR w B' r L := by
  obtain ⟨V, h1, h2, h3⟩ := h
  exact ⟨V, h1, own_low h2 hb, fun x hx => ⟨own_low (h3 x hx).1 hb, (h3 x hx).2⟩⟩
theorem FR.shape {w : World} {B : Nat} {r : Value} {L : List Ft} (h : FR w B r L) : ∃ oa cap, r = .slice oa L.length cap := by
  obtain ⟨V, rfl, h2, _⟩ := h
  rw [List.length_map]
  exact own_shape h2

/-- Facts. -/
theorem facts_any {w : World} {p b lim last : Nat} {L : List Ft} (h : Mem w p b lim last L) : Calls Try.prog 20 #[.pointer (some ⟨p, 0, none⟩)] w fun e w' => (∃ r, e = .returned r ∧ FR w' w.heap.size r L) ∧ Old w w' := by
  obtain ⟨E, rfl, h⟩ := h
  have hm := made_any h
  have hi := inorder_any h
  have HM := Lib.hid h
  clear h
  go_enter Try.func20, Try.ntmps20
  go_wp2_with (first
    | (go_at_call 29; (with_reducible refine hm.mono ?_); rintro e w1 ⟨rfl, rfl⟩)
    | (go_at_call 31; (with_reducible refine hi.mono ?_); rintro e w2 ⟨⟨B3, B1, v, rfl, hit⟩, ho⟩; have HO := Lib.hid ho; have HI := Lib.hid hit; clear ho hit)
    | (go_at_call 32; (with_reducible refine (collect_any (HM.out.old HO.out) HI.out).mono ?_); rintro e w3 ⟨⟨r, rfl, hr⟩, ho⟩; obtain ⟨oa, cap, er⟩ := hr.shape; rw [List.length_map] at er; subst er; have HR := Lib.hid (hr.low HO.out.size); have HO3 := Lib.hid (HO.out.trans ho); clear hr ho))
  go_ret
  exact ⟨⟨_, rfl, HR.out⟩, HO3.out⟩

end Go.Proofs.Ytfhbnkdibhmmcaa
