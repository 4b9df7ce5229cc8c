/- The laws: what calls do, plainly; Add and Remove, whatever they are asked. -/
import Derived.Test.YtfgdgnkihiokoaaBV
namespace Go.Proofs.Ytfgdgnkihiokoaa
open Go.ChangeShapes Go.WideShapes Go.ChangeAt Go.RowKit Go.Lib
set_option linter.unusedVariables false
set_option linter.unusedSimpArgs false
set_option maxRecDepth 100000
set_option maxHeartbeats 800000

/-- What Remove tells, and leaves. -/
def remG (i : Int) (L : List Tk) : List Tk := if getT L i = none ∨ i = 0 then [] else gone i L
def remL (i : Int) (L : List Tk) : List Tk := if getT L i = none ∨ i = 0 then L else rest i L
/-- Does Add make a token? -/
def okAdd (L : List Tk) (x : Ox) : Prop := getT L x.a ≠ none ∧ 0 ≤ x.b ∧ 0 ≤ x.c
instance (L : List Tk) (x : Ox) : Decidable (okAdd L x) := inferInstanceAs (Decidable (_ ∧ _))
def newT (last : Nat) (x : Ox) : Tk := ⟨(last : Int) + 1, x.a, x.b, x.c⟩
def doOp (s : List Tk × Nat) (x : Ox) : List Tk × Nat :=
  if x.k = 1 then (if okAdd s.1 x then (s.1 ++ [newT s.2 x], s.2 + 1) else s) else (remL x.a s.1, s.2)
def runS (l : List Ox) : List Tk × Nat := l.foldl doOp ([rootT], 0)
theorem runS_snoc (l : List Ox) (x : Ox) : runS (l ++ [x]) = doOp (runS l) x := by simp [runS]

theorem remL_good {L : List Tk} {last : Nat} (hg : Good L last) (i : Int) : Good (remL i L) last := by
  unfold remL
  split
  · exact hg
  · rename_i h
    rcases hgt : getT L i with _ | t
    · exact absurd (Or.inl hgt) h
    · obtain ⟨ht, rfl⟩ := getT_some hgt
      exact hg.rest (fun e => h (Or.inr e)) (hg.low t ht).1
theorem newT_good {L : List Tk} {last : Nat} (hg : Good L last) {x : Ox} (hx : O64 x) (h : okAdd L x) : Good (L ++ [newT last x]) (last + 1) :=
  hg.add h.1 ⟨h.2.1, hx.b.2⟩ ⟨h.2.2, hx.c.2⟩
theorem remL_len (i : Int) (L : List Tk) : (remL i L).length ≤ L.length := by
  unfold remL rest
  split
  · exact Nat.le_refl _
  · exact List.length_filter_le _ _
theorem doOp_good {s : List Tk × Nat} (hg : Good s.1 s.2) {x : Ox} (hx : O64 x) : Good (doOp s x).1 (doOp s x).2 := by
  unfold doOp
  split
  · split
    · exact newT_good hg hx (by assumption)
    · exact hg
  · exact remL_good hg _
theorem runS_facts (l : List Ox) (hl : ∀ x ∈ l, O64 x) : Good (runS l).1 (runS l).2 ∧ (runS l).2 ≤ l.length ∧ (runS l).1.length ≤ l.length + 1 := by
  suffices H : ∀ M : List Ox, (∀ x ∈ M.reverse, O64 x) → Good (runS M.reverse).1 (runS M.reverse).2 ∧ (runS M.reverse).2 ≤ M.length ∧ (runS M.reverse).1.length ≤ M.length + 1 by
    have := H l.reverse; rw [List.reverse_reverse, List.length_reverse] at this; exact this hl
  intro M
  induction M with
  | nil => intro _; exact ⟨Good.first, by simp [runS], by simp [runS]⟩
  | cons a M ih =>
    rw [List.reverse_cons, runS_snoc]
    intro h
    obtain ⟨h1, h2, h3⟩ := ih (fun x hx => h x (List.mem_append_left _ hx))
    refine ⟨doOp_good h1 (h a (by simp)), ?_, ?_⟩
    · unfold doOp
      split
      · split
        · simp only [List.length_cons]; omega
        · simp only [List.length_cons]; omega
      · simp only [List.length_cons]; omega
    · unfold doOp
      split
      · split
        · simp only [List.length_cons, List.length_append, List.length_nil]; omega
        · simp only [List.length_cons]; omega
      · have := remL_len a.a (runS M.reverse).1
        simp only [List.length_cons]; omega

theorem remove_all {w W : World} {b : Bs} {A : Nat → Prop} {L : List Tk} {last cap : Nat} (h : My w W b A L last cap) (hg : Good L last) (hlast : last < 1000000) (hL : L.length ≤ 900000) (hcap : cap < 1000000) {i : Int} (hi : I64 i) :
    Calls Try.prog 10 #[ptr b, .int .i64 i] W fun e W' => ∃ v, e = .returned v ∧ Toks W' W.heap.size v (remG i L) ∧ (∃ A', My w W' b A' (remL i L) last cap ∧ Stp W W' A A') := by
  unfold remG remL
  split
  · rename_i hc
    refine (remove_none h.ar hg.up hi hc).mono ?_
    rintro e W' ⟨rfl, ho⟩
    exact ⟨_, rfl, World.ownsRow_nil _ _ _ _, A, h.o ho, Stp.ofOld A ho⟩
  · rename_i hc
    rcases hgt : getT L i with _ | t
    · exact absurd (Or.inl hgt) hc
    · obtain ⟨ht, rfl⟩ := getT_some hgt
      refine (remove_any h.ar hg hlast hL hcap ht (fun e => hc (Or.inr e))).mono ?_
      rintro e W' ⟨v, rfl, h1, h2⟩
      obtain ⟨A', h3, h4⟩ := h2.ar
      obtain ⟨h5, h6⟩ := h4.toOld h.old h.new
      exact ⟨v, rfl, h1, A', ⟨h3, h6, h5⟩, h4⟩
theorem add_yes {w W : World} {b : Bs} {A : Nat → Prop} {L : List Tk} {last cap : Nat} (h : My w W b A L last cap) (hg : Good L last) (hlast : last < 1000000) (hcap : cap + 4 < 1000000) {x : Ox} (hx : O64 x) (hok : okAdd L x) :
    Calls Try.prog 12 #[ptr b, .int .i64 x.a, .int .i64 x.b, .int .i64 x.c] W fun e W' => e = .returned (.tuple #[.int .i64 ((last : Int) + 1), .int .i64 0]) ∧ ∃ A', My w W' b A' (L ++ [newT last x]) (last + 1) (cap + 4) ∧ Stp W W' A A' := by
  refine (add_any h.ar hg hx.a hx.b hx.c hok.1 hok.2.1 hok.2.2 hcap hlast).mono ?_
  rintro e W' ⟨rfl, ht⟩
  obtain ⟨A', h3, h4⟩ := ht.ar
  obtain ⟨h5, h6⟩ := h4.toOld h.old h.new
  exact ⟨rfl, A', ⟨h3, h6, h5⟩, h4⟩
theorem add_no {w W : World} {b : Bs} {A : Nat → Prop} {L : List Tk} {last cap : Nat} (h : My w W b A L last cap) (hg : Good L last) {x : Ox} (hx : O64 x) (hok : ¬ okAdd L x) :
    Calls Try.prog 12 #[ptr b, .int .i64 x.a, .int .i64 x.b, .int .i64 x.c] W fun e W' => (∃ er, e = .returned (.tuple #[.int .i64 0, .int .i64 er]) ∧ (er = 5 ∨ er = 2)) ∧ My w W' b A L last cap ∧ Old W W' := by
  by_cases hn : getT L x.a = none
  · refine (add_none h.ar hg.up hx.a x.b x.c hn).mono ?_
    rintro e W' ⟨rfl, ho⟩
    exact ⟨⟨5, rfl, Or.inl rfl⟩, h.o ho, ho⟩
  · have hbc : x.b < 0 ∨ x.c < 0 := by
      refine Classical.byContradiction fun hc => hok ⟨hn, ?_, ?_⟩ <;> omega
    refine (add_arg h.ar hg.up hx.a x.b x.c hn hbc).mono ?_
    rintro e W' ⟨rfl, ho⟩
    exact ⟨⟨2, rfl, Or.inr rfl⟩, h.o ho, ho⟩

/-- A call in a box. -/
def Ob (w : World) (g : Nat) (x : Ox) : Prop := w.heap[g]? = some (.cells #[.int .i64 x.k, .int .i64 x.a, .int .i64 x.b, .int .i64 x.c] 27 (0, 0))
namespace Ob
variable {w w' : World} {g : Nat} {x : Ox}
theorem c0 (h : Ob w g x) : w.cell? ⟨g, 0, none⟩ = some (.int .i64 x.k) := by unfold Ob at h; simp [World.cell?, h]
theorem c1 (h : Ob w g x) : w.cell? ⟨g, 1, none⟩ = some (.int .i64 x.a) := by unfold Ob at h; simp [World.cell?, h]
theorem c2 (h : Ob w g x) : w.cell? ⟨g, 2, none⟩ = some (.int .i64 x.b) := by unfold Ob at h; simp [World.cell?, h]
theorem c3 (h : Ob w g x) : w.cell? ⟨g, 3, none⟩ = some (.int .i64 x.c) := by unfold Ob at h; simp [World.cell?, h]
theorem lt (h : Ob w g x) : g < w.heap.size := blk_lt h
theorem new (w : World) (x : Ox) : Ob (w.alloc (.cells #[.int .i64 x.k, .int .i64 x.a, .int .i64 x.b, .int .i64 x.c] 27)) w.heap.size x := (MapKept.heap_alloc w _).1
theorem old (h : Ob w g x) (ho : Old w w') : Ob w' g x := (ho.block g h.lt).trans h
theorem chg {S : Nat → Prop} (h : Ob w g x) (hc : Chg S w w') (hs : ¬ S g) : Ob w' g x := (hc.block g h.lt hs).trans h
end Ob
/-- A call as it is read. -/
theorem OR.at_ {w : World} {oa : Option Addr} {n cap : Nat} {L : List Ox} (h : OR w (.slice oa n cap) L) {j : Nat} {x : Ox} (hj : L[j]? = some x) : ∃ g o, oa = some ⟨g, o, none⟩ ∧ g < w.heap.size ∧ w.cell? ⟨g, o + j * 4, none⟩ = some (.int .i64 x.k) ∧ w.cell? ⟨g, o + j * 4 + 1, none⟩ = some (.int .i64 x.a) ∧ w.cell? ⟨g, o + j * 4 + 2, none⟩ = some (.int .i64 x.b) ∧ w.cell? ⟨g, o + j * 4 + 3, none⟩ = some (.int .i64 x.c) ∧ O64 x := by
  obtain ⟨oa', cap', e, h1⟩ := h
  obtain ⟨rfl, _, _⟩ : oa = oa' ∧ n = L.length ∧ cap = cap' := by simpa using e
  exact h1 j x hj
theorem OR.all {w : World} {v : Value} {L : List Ox} (h : OR w v L) : ∀ x ∈ L, O64 x := fun x hx => by
  obtain ⟨oa, cap, rfl, h1⟩ := h
  obtain ⟨j, hj⟩ := List.mem_iff_getElem?.1 hx
  obtain ⟨g, o, _, _, _, _, _, _, r⟩ := h1 j x hj
  exact r
end Go.Proofs.Ytfgdgnkihiokoaa
