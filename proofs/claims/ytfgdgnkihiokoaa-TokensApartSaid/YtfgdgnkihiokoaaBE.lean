/- The arena: its block, its maps; isMade, put, take, Get, Len. -/
import Derived.Test.YtfgdgnkihiokoaaBD
namespace Go.Proofs.Ytfgdgnkihiokoaa
open Go.ChangeShapes Go.WideShapes Go.ChangeAt Go.RowKit Go.Lib
set_option linter.unusedVariables false
set_option linter.unusedSimpArgs false
set_option maxRecDepth 100000

/-- Sets by a number, in the blocks B. -/
def IxE (w : World) (b : Nat) (B : Nat → Prop) (P : Prs) (cap : Nat) : Prop := ∃ G D, Ix w b G P cap D ∧ B = Bk b G
theorem IxE.lt {w : World} {b : Nat} {B : Nat → Prop} {P : Prs} {cap : Nat} (h : IxE w b B P cap) {j : Nat} (hj : B j) : j < w.heap.size := by
  obtain ⟨G, D, h, rfl⟩ := h
  exact h.lt hj
theorem IxE.chg {S : Nat → Prop} {w w' : World} {b : Nat} {B : Nat → Prop} {P : Prs} {cap : Nat} (h : IxE w b B P cap) (hc : Chg S w w') (hs : ∀ j, B j → ¬ S j) : IxE w' b B P cap := by
  obtain ⟨G, D, h, rfl⟩ := h
  exact ⟨G, D, h.chg hc hs, rfl⟩
theorem IxE.mono {w : World} {b : Nat} {B : Nat → Prop} {P : Prs} {cap cap' : Nat} (h : IxE w b B P cap) (hc : cap ≤ cap') : IxE w b B P cap' := by
  obtain ⟨G, D, h, rfl⟩ := h
  exact ⟨G, D, h.mono hc, rfl⟩
theorem IxE.base {w : World} {b : Nat} {B : Nat → Prop} {P : Prs} {cap : Nat} (h : IxE w b B P cap) : B b := by
  obtain ⟨G, D, h, rfl⟩ := h
  exact Or.inl rfl
theorem IxE.isMap {w : World} {b : Nat} {B : Nat → Prop} {P : Prs} {cap : Nat} (h : IxE w b B P cap) {j : Nat} (hj : B j) : ∃ es clock, w.heap[j]? = some (.map es clock) := by
  obtain ⟨G, D, h, rfl⟩ := h
  rcases hj with rfl | ⟨k, hk⟩
  · obtain ⟨es, clock, hb, _⟩ := h.own
    exact ⟨es, clock, hb⟩
  · obtain ⟨es, clock, hb, _⟩ := (h.sets k j hk).2.own
    exact ⟨es, clock, hb⟩
theorem IxE.congr {w : World} {b : Nat} {B : Nat → Prop} {P P' : Prs} {cap : Nat} (h : IxE w b B P cap) (e : P = P') : IxE w b B P' cap := e ▸ h
theorem IxE.made (w : World) : IxE (w.alloc (.map #[] 0)) w.heap.size (· = w.heap.size) [] 0 := by
  refine ⟨fun _ => none, .map [], ⟨World.ownsMap_made w Try.prog 3 Rm, fun k g e => (by cases e), fun k _ => rfl, fun k g e => (by cases e), fun k _ => rfl, fun k k' g e => (by cases e), fun k e => (by cases e)⟩, ?_⟩
  funext j
  simp [Bk]

/-- One more. -/
def Putp (w : World) (b : Nat) (B : Nat → Prop) (P : Prs) (cap : Nat) (w' : World) : Prop := (∃ B', IxE w' b B' P cap ∧ ∀ j, B' j → B j ∨ w.heap.size ≤ j) ∧ Chg B w w'
theorem put_ix {w : World} {b : Nat} {B : Nat → Prop} {P : Prs} {cap : Nat} (h : IxE w b B P cap) {k id : Int} (hk : I64 k) (hid : I64 id) (hlt : ∀ i ∈ sel P k, i < id) (hcap : cap < 1000000) :
    Calls Try.prog 26 #[.map (some b), .int .i64 k, .int .i64 id] w fun e w' => e = .returned (.tuple #[]) ∧ Putp w b B (P ++ [(k, id)]) (cap + 1) w' := by
  obtain ⟨G, D, h, rfl⟩ := h
  refine (ixput h hk hid hlt hcap).mono ?_
  rintro e w' ⟨rfl, ⟨G', D', hi, hB⟩, hc⟩
  exact ⟨rfl, ⟨_, ⟨G', D', hi, rfl⟩, hB⟩, hc⟩
theorem take_ix {w : World} {b : Nat} {B : Nat → Prop} {P : Prs} {cap : Nat} (h : IxE w b B P cap) {k id : Int} (hk : I64 k) (hid : I64 id) (hcap : cap < 1000000) :
    Calls Try.prog 31 #[.map (some b), .int .i64 k, .int .i64 id] w fun e w' => e = .returned (.tuple #[]) ∧ Putp w b B (less P k id) cap w' := by
  obtain ⟨G, D, h, rfl⟩ := h
  refine (ixtake h hk hid hcap).mono ?_
  rintro e w' ⟨rfl, ⟨G', D', hi, hB⟩, hc⟩
  exact ⟨rfl, ⟨_, ⟨G', D', hi, rfl⟩, fun j hj => Or.inl (hB j hj)⟩, hc⟩

/-- The blocks of an arena. -/
structure Bs where
  p : Nat
  t : Nat
  k : Nat
  n : Nat
  f : Nat
def Al (b : Bs) (K N F : Nat → Prop) (j : Nat) : Prop := j = b.p ∨ j = b.t ∨ K j ∨ N j ∨ F j
abbrev obA (b : Bs) (last : Int) : Obj := .cells #[.int .i64 last, .map (some b.t), .map (some b.k), .map (some b.n), .map (some b.f)] 53 (0, 0)
structure ArG (w : World) (b : Bs) (K N F : Nat → Prop) (last : Int) (T : List (Int × Value)) (PK PN PF : Prs) (cap : Nat) : Prop where
  obj : w.heap[b.p]? = some (obA b last)
  tok : w.ownsMap Try.prog 3 Rm b.t cap (Dz T)
  kids : IxE w b.k K PK cap
  nodes : IxE w b.n N PN cap
  facts : IxE w b.f F PF cap
  tk : ¬ K b.t
  tn : ¬ N b.t
  tf : ¬ F b.t
  kn : ∀ j, K j → ¬ N j
  kf : ∀ j, K j → ¬ F j
  nf : ∀ j, N j → ¬ F j
/-- An arena of these tokens, in these blocks. -/
def Ar (w : World) (b : Bs) (A : Nat → Prop) (L : List Tk) (last : Nat) (cap : Nat) : Prop := ∃ K N F, ArG w b K N F (last : Int) (te L) (pk L) (pn L) (pf L) cap ∧ A = Al b K N F
namespace ArG
variable {w w' : World} {b : Bs} {K N F : Nat → Prop} {last : Int} {T : List (Int × Value)} {PK PN PF : Prs} {cap : Nat}
theorem pLt (h : ArG w b K N F last T PK PN PF cap) : b.p < w.heap.size := blk_lt h.obj
theorem lt (h : ArG w b K N F last T PK PN PF cap) {j : Nat} (hj : Al b K N F j) : j < w.heap.size := by
  rcases hj with rfl | rfl | hj | hj | hj
  · exact h.pLt
  · exact h.tok.lt
  · exact h.kids.lt hj
  · exact h.nodes.lt hj
  · exact h.facts.lt hj
theorem pNot (h : ArG w b K N F last T PK PN PF cap) {j : Nat} (hm : ∃ es clock, w.heap[j]? = some (.map es clock)) : b.p ≠ j := fun e => by
  obtain ⟨es, clock, hb⟩ := hm
  have := h.obj
  rw [e, hb] at this
  cases this
theorem tMap (h : ArG w b K N F last T PK PN PF cap) : ∃ es clock, w.heap[b.t]? = some (.map es clock) := by
  obtain ⟨es, clock, hb, _⟩ := h.tok
  exact ⟨es, clock, hb⟩
theorem chg {S : Nat → Prop} (h : ArG w b K N F last T PK PN PF cap) (hc : Chg S w w') (hs : ∀ j, Al b K N F j → ¬ S j) : ArG w' b K N F last T PK PN PF cap :=
  ⟨(hc.block _ h.pLt (hs _ (Or.inl rfl))).trans h.obj, own_chg h.tok hc (hs _ (Or.inr (Or.inl rfl))), h.kids.chg hc (fun j hj => hs j (Or.inr (Or.inr (Or.inl hj)))),
    h.nodes.chg hc (fun j hj => hs j (Or.inr (Or.inr (Or.inr (Or.inl hj))))), h.facts.chg hc (fun j hj => hs j (Or.inr (Or.inr (Or.inr (Or.inr hj))))), h.tk, h.tn, h.tf, h.kn, h.kf, h.nf⟩
theorem old (h : ArG w b K N F last T PK PN PF cap) (ho : Old w w') : ArG w' b K N F last T PK PN PF cap := h.chg (S := fun _ => False) (Chg.ofOld ho) (fun _ _ e => e)
theorem mono (h : ArG w b K N F last T PK PN PF cap) {cap' : Nat} (hc : cap ≤ cap') : ArG w b K N F last T PK PN PF cap' := ⟨h.obj, h.tok.mono hc, h.kids.mono hc, h.nodes.mono hc, h.facts.mono hc, h.tk, h.tn, h.tf, h.kn, h.kf, h.nf⟩
theorem cells (h : ArG w b K N F last T PK PN PF cap) : w.cell? ⟨b.p, 0, none⟩ = some (.int .i64 last) ∧ w.cell? ⟨b.p, 1, none⟩ = some (.map (some b.t)) ∧ w.cell? ⟨b.p, 2, none⟩ = some (.map (some b.k)) ∧ w.cell? ⟨b.p, 3, none⟩ = some (.map (some b.n)) ∧ w.cell? ⟨b.p, 4, none⟩ = some (.map (some b.f)) := by
  have := h.obj
  refine ⟨?_, ?_, ?_, ?_, ?_⟩ <;> simp [World.cell?, this]
theorem frozen (h : ArG w b K N F last T PK PN PF cap) (o : Nat) : w.frozen? ⟨b.p, o, none⟩ = false := by
  have := h.obj
  simp [World.frozen?, this]
/-- The map of tokens turns. -/
theorem setT (h : ArG w b K N F last T PK PN PF cap) {T' : List (Int × Value)} {cap' : Nat} (hc : cap ≤ cap') (hown : w'.ownsMap Try.prog 3 Rm b.t cap' (Dz T')) (ht : w.mapTurned w' b.t) : ArG w' b K N F last T' PK PN PF cap' := by
  have hcg := Chg.ofTurn ht
  have ne : ∀ {j : Nat} {S : Nat → Prop}, S j → ¬ S b.t → j ≠ b.t := fun h1 h2 e => h2 (e ▸ h1)
  exact ⟨(hcg.block _ h.pLt (h.pNot h.tMap)).trans h.obj, hown, (h.kids.chg hcg (fun j hj => ne hj h.tk)).mono hc, (h.nodes.chg hcg (fun j hj => ne hj h.tn)).mono hc, (h.facts.chg hcg (fun j hj => ne hj h.tf)).mono hc, h.tk, h.tn, h.tf, h.kn, h.kf, h.nf⟩
theorem setK (h : ArG w b K N F last T PK PN PF cap) {PK' : Prs} {cap' : Nat} (hc : cap ≤ cap') (hp : Putp w b.k K PK' cap' w') : ∃ K', ArG w' b K' N F last T PK' PN PF cap' ∧ (∀ j, Al b K' N F j → Al b K N F j ∨ w.heap.size ≤ j) ∧ Chg K w w' := by
  obtain ⟨⟨K', hk, hn⟩, hcg⟩ := hp
  refine ⟨K', ⟨(hcg.block _ h.pLt (fun e => h.pNot (h.kids.isMap e) rfl)).trans h.obj, (own_chg h.tok hcg h.tk).mono hc, hk, (h.nodes.chg hcg (fun j hj e => h.kn j e hj)).mono hc, (h.facts.chg hcg (fun j hj e => h.kf j e hj)).mono hc, fun e => ?_, h.tn, h.tf, fun j e e2 => ?_, fun j e e2 => ?_, h.nf⟩, fun j hj => ?_, hcg⟩
  · rcases hn _ e with e | e
    · exact h.tk e
    · have := h.tok.lt; omega
  · rcases hn _ e with e | e
    · exact h.kn j e e2
    · have := h.nodes.lt e2; omega
  · rcases hn _ e with e | e
    · exact h.kf j e e2
    · have := h.facts.lt e2; omega
  · rcases hj with e | e | e | e | e
    · exact Or.inl (Or.inl e)
    · exact Or.inl (Or.inr (Or.inl e))
    · exact (hn j e).imp (fun e => Or.inr (Or.inr (Or.inl e))) _root_.id
    · exact Or.inl (Or.inr (Or.inr (Or.inr (Or.inl e))))
    · exact Or.inl (Or.inr (Or.inr (Or.inr (Or.inr e))))
theorem setN (h : ArG w b K N F last T PK PN PF cap) {PN' : Prs} {cap' : Nat} (hc : cap ≤ cap') (hp : Putp w b.n N PN' cap' w') : ∃ N', ArG w' b K N' F last T PK PN' PF cap' ∧ (∀ j, Al b K N' F j → Al b K N F j ∨ w.heap.size ≤ j) ∧ Chg N w w' := by
  obtain ⟨⟨N', hk, hn⟩, hcg⟩ := hp
  refine ⟨N', ⟨(hcg.block _ h.pLt (fun e => h.pNot (h.nodes.isMap e) rfl)).trans h.obj, (own_chg h.tok hcg h.tn).mono hc, (h.kids.chg hcg (fun j hj e => h.kn j hj e)).mono hc, hk, (h.facts.chg hcg (fun j hj e => h.nf j e hj)).mono hc, h.tk, fun e => ?_, h.tf, fun j e e2 => ?_, h.kf, fun j e e2 => ?_⟩, fun j hj => ?_, hcg⟩
  · rcases hn _ e with e | e
    · exact h.tn e
    · have := h.tok.lt; omega
  · rcases hn _ e2 with e2 | e2
    · exact h.kn j e e2
    · have := h.kids.lt e; omega
  · rcases hn _ e with e | e
    · exact h.nf j e e2
    · have := h.facts.lt e2; omega
  · rcases hj with e | e | e | e | e
    · exact Or.inl (Or.inl e)
    · exact Or.inl (Or.inr (Or.inl e))
    · exact Or.inl (Or.inr (Or.inr (Or.inl e)))
    · exact (hn j e).imp (fun e => Or.inr (Or.inr (Or.inr (Or.inl e)))) _root_.id
    · exact Or.inl (Or.inr (Or.inr (Or.inr (Or.inr e))))
theorem setF (h : ArG w b K N F last T PK PN PF cap) {PF' : Prs} {cap' : Nat} (hc : cap ≤ cap') (hp : Putp w b.f F PF' cap' w') : ∃ F', ArG w' b K N F' last T PK PN PF' cap' ∧ (∀ j, Al b K N F' j → Al b K N F j ∨ w.heap.size ≤ j) ∧ Chg F w w' := by
  obtain ⟨⟨F', hk, hn⟩, hcg⟩ := hp
  refine ⟨F', ⟨(hcg.block _ h.pLt (fun e => h.pNot (h.facts.isMap e) rfl)).trans h.obj, (own_chg h.tok hcg h.tf).mono hc, (h.kids.chg hcg (fun j hj e => h.kf j hj e)).mono hc, (h.nodes.chg hcg (fun j hj e => h.nf j hj e)).mono hc, hk, h.tk, h.tn, fun e => ?_, h.kn, fun j e e2 => ?_, fun j e e2 => ?_⟩, fun j hj => ?_, hcg⟩
  · rcases hn _ e with e | e
    · exact h.tf e
    · have := h.tok.lt; omega
  · rcases hn _ e2 with e2 | e2
    · exact h.kf j e e2
    · have := h.kids.lt e; omega
  · rcases hn _ e2 with e2 | e2
    · exact h.nf j e e2
    · have := h.nodes.lt e; omega
  · rcases hj with e | e | e | e | e
    · exact Or.inl (Or.inl e)
    · exact Or.inl (Or.inr (Or.inl e))
    · exact Or.inl (Or.inr (Or.inr (Or.inl e)))
    · exact Or.inl (Or.inr (Or.inr (Or.inr (Or.inl e))))
    · exact (hn j e).imp (fun e => Or.inr (Or.inr (Or.inr (Or.inr e)))) _root_.id
end ArG
/-- The arena as a pointer. -/
abbrev ptr (b : Bs) : Value := .pointer (some ⟨b.p, 0, none⟩)

/-! isMade -/
theorem made_nil (w : World) : Calls Try.prog 21 #[.pointer none] w fun e w' => e = .returned (.bool false) ∧ w = w' := by
  go_enter Try.func21, Try.ntmps21
  go_wp2
  go_ret
  exact ⟨rfl, rfl⟩
theorem made_any {w : World} {b : Bs} {K N F : Nat → Prop} {last : Int} {T : List (Int × Value)} {PK PN PF : Prs} {cap : Nat} (h : ArG w b K N F last T PK PN PF cap) : Calls Try.prog 21 #[ptr b] w fun e w' => e = .returned (.bool true) ∧ w = w' := by
  obtain ⟨c0, c1, _⟩ := h.cells
  have hne : ∀ W : World, (binOp .neq 49 (.map (some b.t)) (.map none)).run Try.prog W = .ok (.bool true) W := fun W => run_neq_map_nil (P := Try.prog) W 49 3 32 (some b.t) Try.underlying49
  go_enter Try.func21, Try.ntmps21
  go_wp2
  go_ret
  exact ⟨rfl, rfl⟩
/-! Len -/
theorem len_nil (w : World) : Calls Try.prog 9 #[.pointer none] w fun e w' => e = .returned (.int .i64 0) ∧ w = w' := by
  go_enter Try.func9, Try.ntmps9
  go_wp2_with (go_at_call 21; (with_reducible refine (made_nil _).mono ?_); rintro e w1 ⟨rfl, rfl⟩)
  go_ret
  exact ⟨rfl, rfl⟩
theorem len_any {w : World} {b : Bs} {K N F : Nat → Prop} {last : Int} {T : List (Int × Value)} {PK PN PF : Prs} {cap : Nat} (h : ArG w b K N F last T PK PN PF cap) : Calls Try.prog 9 #[ptr b] w fun e w' => e = .returned (.int .i64 (T.length : Int)) ∧ w = w' := by
  have hm := made_any h
  obtain ⟨c0, c1, _⟩ := h.cells
  have hl := Dz_size T
  have hln : ∀ ty, (Builtin.len_ #[49] ty #[.map (some b.t)]).run Try.prog w = .ok (.int .i64 (T.length : Int)) w := fun ty => by have := h.tok.len Try.underlying49 ty; rw [hl] at this; exact this
  go_enter Try.func9, Try.ntmps9
  go_wp2_with (go_at_call 21; (with_reducible refine hm.mono ?_); rintro e w1 ⟨rfl, rfl⟩)
  go_ret
  exact ⟨rfl, rfl⟩

/-! a token's box -/
def Tb (w : World) (g : Nat) (t : Tk) : Prop := w.heap[g]? = some (.cells #[.int .i64 t.id, .int .i64 t.par, .int .i64 t.node, .int .i64 t.fact] 32 (0, 0))
namespace Tb
variable {w w' : World} {g : Nat} {t : Tk}
theorem cells (h : Tb w g t) : w.cell? ⟨g, 0, none⟩ = some (.int .i64 t.id) ∧ w.cell? ⟨g, 1, none⟩ = some (.int .i64 t.par) ∧ w.cell? ⟨g, 2, none⟩ = some (.int .i64 t.node) ∧ w.cell? ⟨g, 3, none⟩ = some (.int .i64 t.fact) := by
  unfold Tb at h
  refine ⟨?_, ?_, ?_, ?_⟩ <;> simp [World.cell?, h]
theorem new (w : World) (t : Tk) : Tb (w.alloc (.cells #[.int .i64 t.id, .int .i64 t.par, .int .i64 t.node, .int .i64 t.fact] 32)) w.heap.size t := (MapKept.heap_alloc w _).1
theorem lt (h : Tb w g t) : g < w.heap.size := blk_lt h
theorem chg {S : Nat → Prop} (h : Tb w g t) (hc : Chg S w w') (hs : ¬ S g) : Tb w' g t := (hc.block g h.lt hs).trans h
theorem old (h : Tb w g t) (ho : Old w w') : Tb w' g t := (ho.block g h.lt).trans h
end Tb
theorem size32 : (Try.prog.info? 32).map (·.size) = some 4 := by kernel_rfl
/-- A token that was put into a result's box is what is told. -/
theorem ret_tok2 {fn : Func} {p u : Tmp} (hf : fn.results = #[.cell p 32, .tmp u]) (tmps : Array Value) (w : World) (g : Nat) {t : Tk} {b : Value} (hp : tmps.getD p undef = .pointer (some ⟨g, 0, none⟩)) (hb : tmps.getD u undef = b) (hg : Tb w g t) : (results fn tmps).run Try.prog w = .ok (.tuple #[tv t, b]) w := by
  rw [results_cell_tmp hf, hp, hb]
  simp [asAddr, Result.andThen, run_loadVar_row w g 32 32 #[.int .i64 t.id, .int .i64 t.par, .int .i64 t.node, .int .i64 t.fact] (0, 0) _ hg Try.underlying32 rfl size32]
end Go.Proofs.Ytfgdgnkihiokoaa
