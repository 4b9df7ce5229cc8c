/- What is compared, told by closures. -/
import Derived.Test.YtdcfaniimhjghaaOF
import Derived.Sort.Grow
namespace Go.Proofs.Ytdcfaniimhjghaa
open Go.ChangeShapes Go.WideShapes Go.ChangeAt Go.RowKit Go.Lib Go.Sort
set_option linter.unusedVariables false
set_option linter.unusedSimpArgs false
set_option maxRecDepth 100000
set_option maxHeartbeats 1600000

/-- Draws, and blocks behind: nothing else has turned. -/
def Gw (w w' : World) : Prop := ∃ q os, w' = grow (w.drewN q) os
theorem Gw.refl (w : World) : Gw w w := ⟨0, #[], by rw [grow_empty]; rfl⟩
theorem drewN_grow (w : World) (os : Array Obj) (n : Nat) : (grow w os).drewN n = grow (w.drewN n) os := rfl
theorem Gw.trans {a b c : World} (h : Gw a b) (k : Gw b c) : Gw a c := by
  obtain ⟨q, os, rfl⟩ := h
  obtain ⟨q', os', rfl⟩ := k
  refine ⟨q + q', os ++ os', ?_⟩
  rw [drewN_grow, grow_grow, World.drewN_drewN]
theorem Gw.alloc {a w : World} (h : Gw a w) (o : Obj) : Gw a (w.alloc o) := h.trans ⟨0, #[o], by rw [alloc_eq_grow]; rfl⟩
theorem Gw.drew {a w : World} (h : Gw a w) : Gw a w.drew := h.trans ⟨1, #[], by rw [grow_empty]; rfl⟩
theorem Gw.old {a w : World} (h : Gw a w) : Old a w := by
  obtain ⟨q, os, rfl⟩ := h
  exact ⟨rfl, rfl, by simp [grow], fun k hk => by rw [heap_grow_old _ _ (by exact hk)]; rfl⟩

/-- An activation with its vector. -/
abbrev Rw := Aw × Value
def rv (r : Rw) : Value := .agg #[.int .i64 r.1.1.rule, r.1.2, .int .i64 r.1.1.sal, r.2]
def ROk (w : World) (s : Int) (r : Rw) : Prop := IR w r.1.2 r.1.1.tup ∧ IR w r.2 (vec s r.1.1.tup)
theorem ROk.old {w w' : World} {s : Int} {r : Rw} (h : ROk w s r) (ho : Old w w') : ROk w' s r := ⟨h.1.old ho, h.2.old ho⟩
theorem ROk.open {w : World} {s r l : Int} {t : List Int} {v u : Value} (h : ROk w s ((⟨r, t, l⟩, v), u)) : ∃ oa ca oc cc, v = .slice oa t.length ca ∧ u = .slice oc (vec s t).length cc := by
  obtain ⟨oa, ca, e1⟩ := h.1.slice
  obtain ⟨oc, cc, e2⟩ := h.2.slice
  exact ⟨oa, ca, oc, cc, e1, e2⟩

theorem clo35 {w : World} {s : Int} (a b : Rw) (ha : ROk w s a) (hb : ROk w s b) : Calls Try.prog 35 #[rv a, rv b] w fun e w' => e = .returned (.int .i64 (cI b.1.1.sal a.1.1.sal)) ∧ Gw w w' := by
  obtain ⟨⟨⟨r1, t1, s1⟩, v1⟩, u1⟩ := a
  obtain ⟨⟨⟨r2, t2, s2⟩, v2⟩, u2⟩ := b
  obtain ⟨oa, ca, oc, cc, rfl, rfl⟩ := ha.open
  obtain ⟨ob, cb, od, cd, rfl, rfl⟩ := hb.open
  clear ha hb
  have hcon : ∀ W', Calls Try.prog 24 #[.int .i64 s2, .int .i64 s1] W' fun e w' => e = .returned (.int .i64 (cI s2 s1)) ∧ w' = W' := fun W' => AnyG.cmp_Compare_int Try.laysCmp s2 s1 W'
  unfold rv
  simp only
  generalize cI s2 s1 = R at hcon ⊢
  go_enter Try.func35, Try.ntmps35
  go_wp2_with (first | (go_at_call 24; (with_reducible refine (hcon _).mono ?_); rintro e w2 ⟨rfl, rfl⟩))
  go_ret
  exact ⟨rfl, ((Gw.refl w).alloc _).alloc _⟩
theorem clo38 {w : World} {s : Int} (a b : Rw) (ha : ROk w s a) (hb : ROk w s b) : Calls Try.prog 38 #[rv a, rv b] w fun e w' => e = .returned (.int .i64 (cI a.1.1.rule b.1.1.rule)) ∧ Gw w w' := by
  obtain ⟨⟨⟨r1, t1, s1⟩, v1⟩, u1⟩ := a
  obtain ⟨⟨⟨r2, t2, s2⟩, v2⟩, u2⟩ := b
  obtain ⟨oa, ca, oc, cc, rfl, rfl⟩ := ha.open
  obtain ⟨ob, cb, od, cd, rfl, rfl⟩ := hb.open
  clear ha hb
  have hcon : ∀ W', Calls Try.prog 24 #[.int .i64 r1, .int .i64 r2] W' fun e w' => e = .returned (.int .i64 (cI r1 r2)) ∧ w' = W' := fun W' => AnyG.cmp_Compare_int Try.laysCmp r1 r2 W'
  unfold rv
  simp only
  generalize cI r1 r2 = R at hcon ⊢
  go_enter Try.func38, Try.ntmps38
  go_wp2_with (first | (go_at_call 24; (with_reducible refine (hcon _).mono ?_); rintro e w2 ⟨rfl, rfl⟩))
  go_ret
  exact ⟨rfl, ((Gw.refl w).alloc _).alloc _⟩
theorem clo39 {w : World} {s : Int} (a b : Rw) (ha : ROk w s a) (hb : ROk w s b) : Calls Try.prog 39 #[rv a, rv b] w fun e w' => e = .returned (.int .i64 (rowC a.1.1.tup b.1.1.tup)) ∧ Gw w w' := by
  obtain ⟨⟨⟨r1, t1, s1⟩, v1⟩, u1⟩ := a
  obtain ⟨⟨⟨r2, t2, s2⟩, v2⟩, u2⟩ := b
  have hcon : ∀ W', Old w W' → Calls Try.prog 37 #[v1, v2] W' fun e w' => e = .returned (.int .i64 (rowC t1 t2)) ∧ w' = W' := fun W' ho => rowcmp_any (ha.1.old ho) (hb.1.old ho)
  obtain ⟨oa, ca, oc, cc, rfl, rfl⟩ := ha.open
  obtain ⟨ob, cb, od, cd, rfl, rfl⟩ := hb.open
  clear ha hb
  unfold rv
  simp only
  generalize rowC t1 t2 = R at hcon ⊢
  have HC := Lib.hid hcon
  clear hcon
  go_enter Try.func39, Try.ntmps39
  go_wp2_with (first | (go_at_call 37; (with_reducible refine (HC.out _ (((Old.refl w).alloc _).alloc _)).mono ?_); rintro e w2 ⟨rfl, rfl⟩))
  go_ret
  exact ⟨rfl, ((Gw.refl w).alloc _).alloc _⟩
/-- What the second one tells. -/
def vcmp (s : Int) (a b : Ac) : Int := if s = 2 then rowC (vec s a.tup) (vec s b.tup) else rowC (vec s b.tup) (vec s a.tup)
theorem clo36 {w : World} {s : Int} {sb : Nat} (hsb : sb < w.heap.size) (hs : w.cell? ⟨sb, 0, none⟩ = some (.int .u8 s)) (a b : Rw) (ha : ROk w s a) (hb : ROk w s b) : Calls Try.prog 36 #[rv a, rv b, .pointer (some ⟨sb, 0, none⟩)] w fun e w' => e = .returned (.int .i64 (vcmp s a.1.1 b.1.1)) ∧ Gw w w' := by
  obtain ⟨⟨⟨r1, t1, s1⟩, v1⟩, u1⟩ := a
  obtain ⟨⟨⟨r2, t2, s2⟩, v2⟩, u2⟩ := b
  have h1 : ∀ W', Old w W' → Calls Try.prog 37 #[u1, u2] W' fun e w' => e = .returned (.int .i64 (rowC (vec s t1) (vec s t2))) ∧ w' = W' := fun W' ho => rowcmp_any (ha.2.old ho) (hb.2.old ho)
  have h2 : ∀ W', Old w W' → Calls Try.prog 37 #[u2, u1] W' fun e w' => e = .returned (.int .i64 (rowC (vec s t2) (vec s t1))) ∧ w' = W' := fun W' ho => rowcmp_any (hb.2.old ho) (ha.2.old ho)
  have H1 := Lib.hid h1
  have H2 := Lib.hid h2
  obtain ⟨oa, ca, oc, cc, rfl, rfl⟩ := ha.open
  obtain ⟨ob, cb, od, cd, rfl, rfl⟩ := hb.open
  clear ha hb h1 h2
  unfold rv vcmp
  simp only
  by_cases h : s = 2
  · rw [if_pos h]
    have hb : (s == 2) = true := by simp [h]
    generalize rowC (vec s t1) (vec s t2) = R at H1 ⊢
    clear H2 h
    go_enter Try.func36, Try.ntmps36
    go_wp2_with (first | (go_at_call 37; (with_reducible refine (H1.out _ (((Old.refl w).alloc _).alloc _)).mono ?_); rintro e w2 ⟨rfl, rfl⟩))
    go_ret
    exact ⟨rfl, ((Gw.refl w).alloc _).alloc _⟩
  · rw [if_neg h]
    have hb : (s == 2) = false := by simpa using h
    generalize rowC (vec s t2) (vec s t1) = R at H2 ⊢
    clear H1 h
    go_enter Try.func36, Try.ntmps36
    go_wp2_with (first | (go_at_call 37; (with_reducible refine (H2.out _ (((Old.refl w).alloc _).alloc _)).mono ?_); rintro e w2 ⟨rfl, rfl⟩))
    go_ret
    exact ⟨rfl, ((Gw.refl w).alloc _).alloc _⟩

/-- The list of closures. -/
def LS (w : World) (v : Value) (s : Int) : Prop :=
  ∃ g sb cap, v = .slice (some ⟨g, 0, none⟩) 4 cap ∧ g < w.heap.size ∧ sb < w.heap.size ∧ w.cell? ⟨sb, 0, none⟩ = some (.int .u8 s) ∧ w.cell? ⟨g, 0, none⟩ = some (.func (.func 35) #[] #[]) ∧ w.cell? ⟨g, 1, none⟩ = some (.func (.func 36) #[] #[.pointer (some ⟨sb, 0, none⟩)]) ∧ w.cell? ⟨g, 2, none⟩ = some (.func (.func 38) #[] #[]) ∧ w.cell? ⟨g, 3, none⟩ = some (.func (.func 39) #[] #[])
theorem LS.old {w w' : World} {v : Value} {s : Int} (h : LS w v s) (ho : Old w w') : LS w' v s := by
  obtain ⟨g, sb, cap, rfl, h1, h2, h3, h4, h5, h6, h7⟩ := h
  exact ⟨g, sb, cap, rfl, Nat.lt_of_lt_of_le h1 ho.size, Nat.lt_of_lt_of_le h2 ho.size, (ho.cell h2).trans h3, (ho.cell h1).trans h4, (ho.cell h1).trans h5, (ho.cell h1).trans h6, (ho.cell h1).trans h7⟩
/-- A box of an activation with its vector. -/
def Bk (w : World) (g : Nat) (r : Rw) : Prop := w.heap[g]? = some (.cells #[.int .i64 r.1.1.rule, r.1.2, .int .i64 r.1.1.sal, r.2] 48 (0, 0))
theorem Bk.old {w w' : World} {g : Nat} {r : Rw} (h : Bk w g r) (ho : Old w w') : Bk w' g r := (ho.block g (blk_lt h)).trans h
theorem Bk.new (w : World) (r : Rw) : Bk (w.alloc (.cells #[.int .i64 r.1.1.rule, r.1.2, .int .i64 r.1.1.sal, r.2] 48)) w.heap.size r := (MapKept.heap_alloc w _).1
theorem Bk.cells {w : World} {g : Nat} {r : Rw} (h : Bk w g r) : w.cell? ⟨g, 0, none⟩ = some (.int .i64 r.1.1.rule) ∧ w.cell? ⟨g, 1, none⟩ = some r.1.2 ∧ w.cell? ⟨g, 2, none⟩ = some (.int .i64 r.1.1.sal) ∧ w.cell? ⟨g, 3, none⟩ = some r.2 := by
  unfold Bk at h
  simp [World.cell?, h]
theorem cmpA_eq (s : Int) (a b : Ac) : cmpA s a b = thn (cI b.sal a.sal) (thn (vcmp s a b) (thn (cI a.rule b.rule) (rowC a.tup b.tup))) := rfl
end Go.Proofs.Ytdcfaniimhjghaa
