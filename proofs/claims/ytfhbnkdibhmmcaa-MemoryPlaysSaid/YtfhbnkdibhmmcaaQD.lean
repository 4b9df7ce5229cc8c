/- Layer memory: what a memory is: a block of three cells, a map of facts by ids, each with its row of values. -/
import Derived.Test.YtfhbnkdibhmmcaaQC
import Derived.WalkSpells
namespace Go.Proofs.Ytfhbnkdibhmmcaa
open Go.ChangeShapes Go.WideShapes Go.ChangeAt Go.RowKit Go.Lib
set_option linter.unusedVariables false
set_option linter.unusedSimpArgs false
set_option maxRecDepth 100000

/-- What was there is as it was, but for some blocks. -/
structure Chg (S : Nat → Prop) (w w' : World) : Prop where
  os : w'.os = w.os
  output : w'.output = w.output
  size : w.heap.size ≤ w'.heap.size
  block : ∀ k, k < w.heap.size → ¬ S k → w'.heap[k]? = w.heap[k]?
theorem Chg.ofOld {S : Nat → Prop} {w w' : World} (h : Old w w') : Chg S w w' := ⟨h.os, h.output, h.size, fun k hk _ => h.block k hk⟩
theorem Chg.trans {S : Nat → Prop} {a b c : World} (h : Chg S a b) (k : Chg S b c) : Chg S a c :=
  ⟨k.os.trans h.os, k.output.trans h.output, Nat.le_trans h.size k.size, fun i hi hs => (k.block i (Nat.lt_of_lt_of_le hi h.size) hs).trans (h.block i hi hs)⟩
theorem Chg.mono {S T : Nat → Prop} {a b : World} (h : Chg S a b) (hs : ∀ k, S k → T k) : Chg T a b := ⟨h.os, h.output, h.size, fun k hk hn => h.block k hk (fun e => hn (hs k e))⟩
/-- What changes lies beyond what was there at the start. -/
theorem Chg.old {S : Nat → Prop} {a w w' : World} (h : Chg S w w') (ho : Old a w) (hs : ∀ k, S k → a.heap.size ≤ k) : Old a w' :=
  ⟨h.os.trans ho.os, h.output.trans ho.output, Nat.le_trans ho.size h.size, fun k hk => (h.block k (Nat.lt_of_lt_of_le hk ho.size) (fun e => by have := hs k e; omega)).trans (ho.block k hk)⟩
theorem Chg.ofTurn {w w' : World} {b : Nat} (h : w.mapTurned w' b) : Chg (· = b) w w' :=
  ⟨h.grown.os, h.grown.output, h.grown.size, fun k hk hn => h.grown.block k hk (fun e => hn (by cases e; rfl))⟩
/-- One change behind another: what the second one turns is new, or may be turned. -/
theorem Chg.later {S T : Nat → Prop} {a b c : World} (h : Chg S a b) (k : Chg T b c) (hT : ∀ k, T k → a.heap.size ≤ k ∨ S k) : Chg S a c :=
  ⟨k.os.trans h.os, k.output.trans h.output, Nat.le_trans h.size k.size, fun i hi hs => (k.block i (Nat.lt_of_lt_of_le hi h.size) (fun e => by
    rcases hT i e with h1 | h1
    · omega
    · exact hs h1)).trans (h.block i hi hs)⟩
theorem Chg.ofSet (w : World) (p : Addr) (u : Value) : Chg (· = p.block) w (w.setCell p u) :=
  ⟨rfl, rfl, by rw [World.setCell]; simp, fun k hk hs => by
    show (w.heap.modify p.block _)[k]? = _
    rw [Array.getElem?_modify, if_neg (fun e => hs e.symm)]⟩
theorem Chg.ofSet3 (w : World) (b : Nat) (u v t : Value) : Chg (· = b) w (((w.setCell ⟨b, 0, none⟩ u).setCell ⟨b, 1, none⟩ v).setCell ⟨b, 2, none⟩ t) :=
  ((Chg.ofSet w ⟨b, 0, none⟩ u).trans (Chg.ofSet _ ⟨b, 1, none⟩ v)).trans (Chg.ofSet _ ⟨b, 2, none⟩ t)
theorem VR.chg {S : Nat → Prop} {w w' : World} {v : Value} {l : List Vl} (h : VR w v l) (hc : Chg S w w') (hs : ∀ k o c, S k → w.cell? ⟨k, o, none⟩ ≠ some (.int .u8 c)) : VR w' v l := by
  obtain ⟨oa, cap, rfl, h1, h2, h3⟩ := h
  refine ⟨oa, cap, rfl, h1, h2, fun j x hj => ?_⟩
  obtain ⟨g, o, rfl, hg, c0, c1, c2, hs'⟩ := h3 j x hj
  have hb := hc.block g hg (fun e => hs _ _ _ e c0)
  exact ⟨g, o, rfl, Nat.lt_of_lt_of_le hg hc.size, (World.cell?_of_block (w := w) hb).trans c0, (World.cell?_of_block (w := w) hb).trans c1, (World.cell?_of_block (w := w) hb).trans c2, hs'⟩

/-- A fact. -/
structure Ft where
  id : Int
  t : Int
  l : List Vl
/-- A fact, and its slice. -/
structure En where
  id : Int
  t : Int
  v : Value
  l : List Vl
def En.ft (x : En) : Ft := ⟨x.id, x.t, x.l⟩
abbrev fv (id t : Int) (v : Value) : Value := .agg #[.int .i64 id, .int .i64 t, v]
def Rm (v : Value) : Option (DataW Value × List MemPlace) := some (.held v, [])
def ents (E : List En) : List (Lit × DataW Value) := E.map fun x => (Lit.int .i64 x.id, .held (fv x.id x.t x.v))
def Dm (E : List En) : DataW Value := .map (ents E)

theorem lit_same (a b : Int) : (Lit.int .i64 a).sameKey (.int .i64 b) = decide (a = b) := by simp [Lit.sameKey]
theorem Dm_size (E : List En) : Maps.size (Dm E) = E.length := by simp [Dm, ents, Maps.size]
theorem Dm_at {E : List En} (hu : E.Pairwise (fun x y => x.id < y.id)) {x : En} (hx : x ∈ E) (z : DataW Value) : (Dm E).atKey (.int .i64 x.id) z = .held (fv x.id x.t x.v) := by
  unfold DataW.atKey Dm
  simp only
  have : (ents E).find? (fun p => p.1.sameKey (.int .i64 x.id)) = some (Lit.int .i64 x.id, .held (fv x.id x.t x.v)) := by
    unfold ents
    induction E with
    | nil => cases hx
    | cons y r ih =>
      obtain ⟨h1, h2⟩ := List.pairwise_cons.1 hu
      rw [List.map_cons, List.find?_cons]
      rcases List.mem_cons.1 hx with rfl | hx'
      · simp [lit_same]
      · have := h1 x hx'
        rw [lit_same, decide_eq_false (by omega)]
        exact ih h2 hx'
  rw [this]
theorem Dm_no {E : List En} {id : Int} (hx : ∀ x ∈ E, x.id ≠ id) (z : DataW Value) : (Dm E).atKey (.int .i64 id) z = z := by
  unfold DataW.atKey Dm
  simp only
  have : (ents E).find? (fun p => p.1.sameKey (.int .i64 id)) = none := by
    rw [List.find?_eq_none]
    intro p hp
    obtain ⟨x, hx', rfl⟩ := List.mem_map.1 hp
    simp only
    rw [lit_same]
    simpa using hx x hx'
  rw [this]
theorem Dm_has (E : List En) (kl : Lit) : Maps.has (Dm E) kl = true ↔ ∃ x ∈ E, kl = .int .i64 x.id := by
  show (ents E).any (fun p => p.1.sameKey kl) = true ↔ _
  rw [List.any_eq_true]
  constructor
  · rintro ⟨p, hp, h⟩
    obtain ⟨x, hx, rfl⟩ := List.mem_map.1 hp
    exact ⟨x, hx, (WideAt.sameKey_eq h).symm⟩
  · rintro ⟨x, hx, rfl⟩
    exact ⟨_, List.mem_map.2 ⟨x, hx, rfl⟩, by simp only; rw [lit_same]; simp⟩
theorem ins_end : ∀ (r : List (Lit × DataW Value)) (id : Int) (d : DataW Value), (∀ p ∈ r, ∃ i, p.1 = .int .i64 i ∧ i < id) → DataW.insert (.int .i64 id, d) r = r ++ [(.int .i64 id, d)]
  | [], _, _, _ => rfl
  | y :: r, id, d, h => by
    obtain ⟨i, e, hi⟩ := h y (by simp)
    obtain ⟨yk, yd⟩ := y
    simp only at e
    subst e
    unfold DataW.insert
    rw [if_neg (by simp [Lit.before]; omega), ins_end r id d (fun p hp => h p (by simp [hp]))]
    rfl
theorem Dm_put {E : List En} {x : En} (hx : ∀ y ∈ E, y.id < x.id) : (Dm E).put (.int .i64 x.id) (.held (fv x.id x.t x.v)) = Dm (E ++ [x]) := by
  show DataW.map (DataW.insert _ ((ents E).filter fun p => !p.1.sameKey (.int .i64 x.id))) = _
  have hf : (ents E).filter (fun p => !p.1.sameKey (.int .i64 x.id)) = ents E := by
    rw [List.filter_eq_self]
    intro p hp
    obtain ⟨y, hy, rfl⟩ := List.mem_map.1 hp
    simp only
    rw [lit_same]
    have := hx y hy
    simp
    omega
  rw [hf, ins_end]
  · simp [Dm, ents]
  · intro p hp
    obtain ⟨y, hy, rfl⟩ := List.mem_map.1 hp
    exact ⟨_, rfl, hx y hy⟩
theorem Dm_del (E : List En) (id : Int) : (Dm E).del (.int .i64 id) = Dm (E.filter fun x => decide (x.id ≠ id)) := by
  show DataW.map ((ents E).filter fun p => !p.1.sameKey (.int .i64 id)) = _
  unfold Dm ents
  rw [List.filter_map]
  congr 2
  apply List.filter_congr
  intro x _
  simp [lit_same]

/-- Of the facts the one of these values. -/
def idOf (L : List Ft) (t : Int) (s : List Vl) : Int := match L.find? (fun x => decide (x.t = t ∧ x.l = s)) with | some x => x.id | none => 0
def getOf (L : List Ft) (id : Int) : Option Ft := L.find? (fun x => decide (x.id = id))
def delOf (L : List Ft) (id : Int) : List Ft := L.filter (fun x => decide (x.id ≠ id))
def noFt : Ft := ⟨0, 0, []⟩

/-- A memory: its block p, its map's block b. -/
structure MemE (w : World) (p b lim last : Nat) (E : List En) : Prop where
  obj : w.heap[p]? = some (.cells #[.int .i64 lim, .int .i64 last, .map (some b)] 61 (0, 0))
  own : w.ownsMap Try.prog 3 Rm b E.length (Dm E)
  up : E.Pairwise (fun x y => x.id < y.id)
  ids : ∀ x ∈ E, 1 ≤ x.id ∧ x.id ≤ last
  rows : ∀ x ∈ E, VR w x.v x.l ∧ x.l.length ≤ 10
  uniq : E.Pairwise (fun x y => ¬ (x.t = y.t ∧ x.l = y.l))
  room : E.length ≤ lim
  lims : lim ≤ 200
  lasts : last ≤ 1000000
def Mem (w : World) (p b lim last : Nat) (L : List Ft) : Prop := ∃ E, L = E.map En.ft ∧ MemE w p b lim last E

theorem own_tight {P : Program} {k : TypeId} {R : Value → Option (DataW Value × List MemPlace)} {w : World} {b n : Nat} {D : DataW Value} (h : w.ownsMap P k R b n D) : w.ownsMap P k R b (Maps.size D) D := by
  obtain ⟨es, clock, hb, F, hs, rfl⟩ := h
  refine ⟨es, clock, hb, F, ?_, rfl⟩
  rw [show Maps.size (DataW.map ((es.toList.map (WideElems.rg P k R)).foldr DataW.insert [])) = ((es.toList.map (WideElems.rg P k R)).foldr DataW.insert []).length from rfl, length_sorted]
  simp
theorem own_chg {S : Nat → Prop} {P : Program} {k : TypeId} {R : Value → Option (DataW Value × List MemPlace)} {w w' : World} {b n : Nat} {D : DataW Value} (h : w.ownsMap P k R b n D) (hc : Chg S w w') (hs : ¬ S b) : w'.ownsMap P k R b n D := by
  have hlt := h.lt
  obtain ⟨es, clock, hb, F, hn, hD⟩ := h
  exact ⟨es, clock, (hc.block b hlt hs).trans hb, F, hn, hD⟩
/-- The two blocks of a memory hold no value's kind. -/
theorem MemE.noU8 {w : World} {p b lim last : Nat} {E : List En} (h : MemE w p b lim last E) : ∀ k o c, (k = p ∨ k = b) → w.cell? ⟨k, o, none⟩ ≠ some (.int .u8 c) := by
  rintro k o c (rfl | rfl) e
  · have hob := h.obj
    rcases o with _ | _ | _ | o <;> simp [World.cell?, hob] at e
  · obtain ⟨es, clock, hb, _⟩ := h.own
    simp [World.cell?, hb] at e
theorem MemE.chg {S : Nat → Prop} {w w' : World} {p b lim last : Nat} {E : List En} (h : MemE w p b lim last E) (hc : Chg S w w') (hp : ¬ S p) (hb : ¬ S b) (hs : ∀ k o c, S k → w.cell? ⟨k, o, none⟩ ≠ some (.int .u8 c)) : MemE w' p b lim last E where
  obj := (hc.block p (blk_lt h.obj) hp).trans h.obj
  own := own_chg h.own hc hb
  up := h.up
  ids := h.ids
  rows := fun x hx => ⟨(h.rows x hx).1.chg hc hs, (h.rows x hx).2⟩
  uniq := h.uniq
  room := h.room
  lims := h.lims
  lasts := h.lasts
theorem MemE.old {w w' : World} {p b lim last : Nat} {E : List En} (h : MemE w p b lim last E) (ho : Old w w') : MemE w' p b lim last E :=
  h.chg (S := fun _ => False) (Chg.ofOld ho) (fun e => e) (fun e => e) (fun _ _ _ e => e.elim)
theorem Mem.old {w w' : World} {p b lim last : Nat} {L : List Ft} (h : Mem w p b lim last L) (ho : Old w w') : Mem w' p b lim last L := by
  obtain ⟨E, hL, h⟩ := h
  exact ⟨E, hL, h.old ho⟩
theorem Mem.chg {S : Nat → Prop} {w w' : World} {p b lim last : Nat} {L : List Ft} (h : Mem w p b lim last L) (hc : Chg S w w') (hp : ¬ S p) (hb : ¬ S b) (hs : ∀ k o c, S k → w.cell? ⟨k, o, none⟩ ≠ some (.int .u8 c)) : Mem w' p b lim last L := by
  obtain ⟨E, hL, h⟩ := h
  exact ⟨E, hL, h.chg hc hp hb hs⟩
theorem Mem.noU8 {w : World} {p b lim last : Nat} {L : List Ft} (h : Mem w p b lim last L) : ∀ k o c, (k = p ∨ k = b) → w.cell? ⟨k, o, none⟩ ≠ some (.int .u8 c) := by
  obtain ⟨E, hL, h⟩ := h
  exact h.noU8

/-- A told fact, its values in a row of its own from block B on. -/
def FV (w : World) (B : Nat) (u : Value) (x : Ft) : Prop := ∃ v, u = fv x.id x.t v ∧ w.ownsRow B 45 3 v x.l.length (vcells x.l) ∧ ∀ y ∈ x.l, y.s.size ≤ maxLen
theorem FV.vr {w : World} {B : Nat} {u : Value} {x : Ft} (h : FV w B u x) : ∃ v, u = fv x.id x.t v ∧ VR w v x.l := by
  obtain ⟨v, rfl, ho, hs⟩ := h
  exact ⟨v, rfl, (CR.owned ho).vr hs⟩

/-! isMade -/
theorem made_nil (w : World) : Calls Try.prog 29 #[.pointer none] w fun e w' => e = .returned (.bool false) ∧ w = w' := by
  go_enter Try.func29, Try.ntmps29
  go_wp2
  go_ret
  exact ⟨rfl, rfl⟩
theorem obj_cells {w : World} {p : Nat} {x y z : Value} {t : TypeId} (h : w.heap[p]? = some (.cells #[x, y, z] t (0, 0))) : w.cell? ⟨p, 0, none⟩ = some x ∧ w.cell? ⟨p, 1, none⟩ = some y ∧ w.cell? ⟨p, 2, none⟩ = some z := by
  refine ⟨?_, ?_, ?_⟩ <;> simp [World.cell?, h]
theorem made_any {w : World} {p b lim last : Nat} {E : List En} (h : MemE w p b lim last E) : Calls Try.prog 29 #[.pointer (some ⟨p, 0, none⟩)] w fun e w' => e = .returned (.bool true) ∧ w = w' := by
  obtain ⟨c0, c1, c2⟩ := obj_cells h.obj
  have hne : ∀ W : World, (binOp .neq 59 (.map (some b)) (.map none)).run Try.prog W = .ok (.bool true) W := fun W => run_neq_map_nil (P := Try.prog) W 59 3 38 (some b) Try.underlying59
  go_enter Try.func29, Try.ntmps29
  go_wp2
  go_ret
  exact ⟨rfl, rfl⟩

/-! Len, Last -/
theorem len_any {w : World} {p b lim last : Nat} {L : List Ft} (h : Mem w p b lim last L) : Calls Try.prog 24 #[.pointer (some ⟨p, 0, none⟩)] w fun e w' => e = .returned (.int .i64 (L.length : Int)) ∧ w = w' := by
  obtain ⟨E, rfl, h⟩ := h
  have hm := made_any h
  obtain ⟨c0, c1, c2⟩ := obj_cells h.obj
  have hl := Dm_size E
  have hown := h.own
  rw [List.length_map]
  go_enter Try.func24, Try.ntmps24
  go_wp2_with (first
    | (go_at_call 29; (with_reducible refine hm.mono ?_); rintro e w1 ⟨rfl, rfl⟩)
    | (at_len; refine wpList_len_own _ rfl _ 59 rfl 3 38 Try.underlying59 Rm b E.length (Dm E) rfl hown ?_; rw [hl]))
  go_ret
  exact ⟨rfl, rfl⟩
theorem last_any {w : World} {p b lim last : Nat} {L : List Ft} (h : Mem w p b lim last L) : Calls Try.prog 25 #[.pointer (some ⟨p, 0, none⟩)] w fun e w' => e = .returned (.int .i64 (last : Int)) ∧ w = w' := by
  obtain ⟨E, rfl, h⟩ := h
  have hm := made_any h
  obtain ⟨c0, c1, c2⟩ := obj_cells h.obj
  go_enter Try.func25, Try.ntmps25
  go_wp2_with (first
    | (go_at_call 29; (with_reducible refine hm.mono ?_); rintro e w1 ⟨rfl, rfl⟩))
  go_ret
  exact ⟨rfl, rfl⟩

end Go.Proofs.Ytfhbnkdibhmmcaa
