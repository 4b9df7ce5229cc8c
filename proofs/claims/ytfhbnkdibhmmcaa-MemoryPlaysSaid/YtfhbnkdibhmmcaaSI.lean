/- Layer memory: two memories, the law's and the document's, beside a slice that is written over. -/
import Derived.Test.YtfhbnkdibhmmcaaSU
import Derived.Test.YtfhbnkdibhmmcaaSF
import Derived.Test.YtfhbnkdibhmmcaaSH
namespace Go.Proofs.Ytfhbnkdibhmmcaa
open Go.ChangeShapes Go.WideShapes Go.ChangeAt Go.RowKit Go.Lib
set_option linter.unusedVariables false
set_option linter.unusedSimpArgs false
set_option maxRecDepth 100000

/-- Numbers were written over, in these blocks. -/
structure Shp (S : Nat → Prop) (w w' : World) : Prop where
  os : w'.os = w.os
  output : w'.output = w.output
  size : w'.heap.size = w.heap.size
  block : ∀ k, ¬ S k → w'.heap[k]? = w.heap[k]?
  num : ∀ a, (∃ z, w.cell? a = some (.int .i64 z)) → ∃ z, w'.cell? a = some (.int .i64 z)
  oth : ∀ a u, w.cell? a = some u → (∀ z, u ≠ .int .i64 z) → w'.cell? a = some u
  froz : ∀ a, w'.frozen? a = w.frozen? a
theorem Shp.refl (S : Nat → Prop) (w : World) : Shp S w w := ⟨rfl, rfl, rfl, fun _ _ => rfl, fun _ h => h, fun _ _ h _ => h, fun _ => rfl⟩
theorem Shp.set {S : Nat → Prop} {w x : World} (h : Shp S w x) {a : Addr} (ha : S a.block) {z : Int} (hz : x.cell? a = some (.int .i64 z)) (y : Int) : Shp S w (x.setCell a (.int .i64 y)) where
  os := h.os
  output := h.output
  size := by rw [← h.size, World.setCell]; simp
  block := fun k hk => by
    rw [← h.block k hk]
    show (x.heap.modify a.block _)[k]? = _
    rw [Array.getElem?_modify, if_neg (fun e : a.block = k => hk (e ▸ ha))]
  num := fun b hb => by
    by_cases e : a = b
    · subst e
      exact ⟨y, World.cell?_setCell_same _ _ _ hz⟩
    · rw [World.cell?_setCell_other _ _ _ _ e]
      exact h.num b hb
  oth := fun b u hb hu => by
    have h1 := h.oth b u hb hu
    by_cases e : a = b
    · subst e
      rw [hz] at h1
      cases h1
      exact absurd rfl (hu z)
    · rw [World.cell?_setCell_other _ _ _ _ e]
      exact h1
  froz := fun b => by rw [World.frozen?_setCell]; exact h.froz b
theorem Shp.chg {S : Nat → Prop} {w w' : World} (h : Shp S w w') : Chg S w w' := ⟨h.os, h.output, Nat.le_of_eq h.size.symm, fun k _ hs => h.block k hs⟩
/-- A slice of values whose numbers may be written over: it lies in these blocks. -/
def NC (S : Nat → Prop) (w : World) (v : Value) (n : Nat) : Prop :=
  ∃ oa c, v = .slice oa n c ∧ ∀ j, j < n → ∃ g o, oa = some ⟨g, o, none⟩ ∧ S g ∧ g < w.heap.size ∧ (∃ z, w.cell? ⟨g, o + j * 3 + 1, none⟩ = some (.int .i64 z)) ∧ w.frozen? ⟨g, o + j * 3 + 1, none⟩ = false
theorem NC.shp {S T : Nat → Prop} {w w' : World} {v : Value} {n : Nat} (h : NC S w v n) (hs : Shp T w w') : NC S w' v n := by
  obtain ⟨oa, c, rfl, h1⟩ := h
  refine ⟨oa, c, rfl, fun j hj => ?_⟩
  obtain ⟨g, o, rfl, hg, hl, hz, hf⟩ := h1 j hj
  exact ⟨g, o, rfl, hg, by rw [hs.size]; exact hl, hs.num _ hz, (hs.froz _).trans hf⟩
theorem NC.chg {S T : Nat → Prop} {w w' : World} {v : Value} {n : Nat} (h : NC S w v n) (hc : Chg T w w') (hn : ∀ b, S b → ¬ T b) : NC S w' v n := by
  obtain ⟨oa, c, rfl, h1⟩ := h
  refine ⟨oa, c, rfl, fun j hj => ?_⟩
  obtain ⟨g, o, rfl, hg, hl, ⟨z, hz⟩, hf⟩ := h1 j hj
  have hb := hc.block g hl (hn g hg)
  exact ⟨g, o, rfl, hg, Nat.lt_of_lt_of_le hl hc.size, ⟨z, (World.cell?_of_block (w := w) hb).trans hz⟩, (World.frozen?_of_block (w := w) hb).trans hf⟩
theorem NC.old {S : Nat → Prop} {w w' : World} {v : Value} {n : Nat} (h : NC S w v n) (ho : Old w w') : NC S w' v n := h.chg (T := fun _ => False) (Chg.ofOld ho) (fun _ _ e => e)
theorem NC.own {S : Nat → Prop} {w : World} {b n : Nat} {v : Value} {l : List Vl} (h : w.ownsRow b 45 3 v n (vcells l)) (hs : ∀ k, v.ownBlock = some k → S k) : NC S w v n := by
  have hl := h.1
  rw [vcells_len] at hl
  have hln : l.length = n := by omega
  rcases h.2 with ⟨rfl, rfl⟩ | ⟨g, cap, cur, rfl, hb, hg, hc, hm, hsz, ht⟩
  · exact ⟨none, 0, rfl, fun j hj => absurd hj (Nat.not_lt_zero _)⟩
  · refine ⟨_, cap, rfl, fun j hj => ⟨g, 0, rfl, hs g rfl, blk_lt hg, ?_, by simp [World.frozen?, hg]⟩⟩
    obtain ⟨oa, cap', e, _, _, _, h4⟩ := CR.owned h
    simp only [Value.slice.injEq] at e
    obtain ⟨rfl, _, rfl⟩ := e
    obtain ⟨x, hx⟩ : ∃ x, l[j]? = some x := ⟨l[j]'(by omega), List.getElem?_eq_getElem _⟩
    obtain ⟨g', o', e', _, c1⟩ := h4 _ _ (vcells_at hx).2.1
    simp only [Option.some.injEq, Addr.mk.injEq, and_true] at e'
    obtain ⟨rfl, rfl⟩ := e'
    exact ⟨x.n, by rw [show 0 + j * 3 + 1 = 0 + (j * 3 + 1) by omega]; exact c1⟩

theorem RX.chgN {S T : Nat → Prop} {w w' : World} {r : Value} {L : List Ft} (h : RX S w r L) (hc : Chg T w w') (hs : ∀ k o c, T k → w.cell? ⟨k, o, none⟩ ≠ some (.int .u8 c)) (hs' : ∀ k o a n c, T k → w.cell? ⟨k, o, none⟩ ≠ some (.slice a n c)) : RX S w' r L := by
  obtain ⟨oa, cap, rfl, h1, h2, h3⟩ := h
  refine ⟨oa, cap, rfl, h1, h2, fun j x hj => ?_⟩
  obtain ⟨g, o, u, rfl, hg, hk, c0, c1, c2, hv, hx⟩ := h3 j x hj
  obtain ⟨a, c, e, _⟩ := id hv
  subst e
  have hb := hc.block g hg (fun e => hs' _ _ _ _ _ e c2)
  exact ⟨g, o, _, rfl, Nat.lt_of_lt_of_le hg hc.size, hk, (World.cell?_of_block (w := w) hb).trans c0, (World.cell?_of_block (w := w) hb).trans c1, (World.cell?_of_block (w := w) hb).trans c2, hv.chg hc hs, hx⟩
theorem MemX.chgN {T : Nat → Prop} {k : Nat} {w w' : World} {p b lim : Nat} {s : St} (h : MemX k w p b lim s) (hc : Chg T w w') (hp : ¬ T p) (hb : ¬ T b) (hs : ∀ k o c, T k → w.cell? ⟨k, o, none⟩ ≠ some (.int .u8 c)) : MemX k w' p b lim s := by
  obtain ⟨E, h1, h2, h3⟩ := h
  exact ⟨E, h1, h2.chg hc hp hb hs, h3⟩
theorem Dx.noU {k : Nat} {w : World} {q lim : Nat} {s : St} {r : Value} (h : Dx k w q lim s r) : ∀ j o c, j = q → w.cell? ⟨j, o, none⟩ ≠ some (.int .u8 c) := by
  rintro j o c rfl e
  have hob := h.obj
  obtain ⟨oa, cap, rfl, _⟩ := h.rx
  rcases o with _ | _ | _ | o <;> simp [World.cell?, hob] at e
/-- Both memories, each in its state; the slice iv in block kk. -/
structure Pm (w : World) (kk lim N : Nat) (iv : Value) (gb : Nat) (x : Ox) (p b q : Nat) (s t : St) (r : Value) (W : World) : Prop where
  old : Old w W
  hp : w.heap.size ≤ p
  hb : w.heap.size ≤ b
  hq : w.heap.size ≤ q
  hk : w.heap.size ≤ kk
  mx : MemX kk W p b lim s
  dx : Dx kk W q lim t r
  ne : p ≠ q ∧ b ≠ q
  kl : kk < W.heap.size
  inn : NC (· = kk) W iv N
  bx : Ob W gb x
  vi : VR W iv x.l
  gne : gb ≠ p ∧ gb ≠ b ∧ gb ≠ q
theorem MemX.ne {k : Nat} {w : World} {p b lim : Nat} {s : St} (h : MemX k w p b lim s) : p ≠ k ∧ b ≠ k := by
  obtain ⟨E, _, _, h1, h2, _⟩ := h
  exact ⟨h1, h2⟩
theorem Pm.on {w W W' : World} {gb : Nat} {x : Ox} {kk lim N p b q : Nat} {iv r : Value} {s t : St} (h : Pm w kk lim N iv gb x p b q s t r W) (ho : Old W W') : Pm w kk lim N iv gb x p b q s t r W' :=
  ⟨h.old.trans ho, h.hp, h.hb, h.hq, h.hk, h.mx.old ho, h.dx.old ho, h.ne, Nat.lt_of_lt_of_le h.kl ho.size, h.inn.old ho, h.bx.old ho, h.vi.old ho, h.gne⟩
theorem Pm.far {T : Nat → Prop} {w W W' : World} {gb : Nat} {x : Ox} {kk lim N p b q : Nat} {iv r : Value} {s t : St} (h : Pm w kk lim N iv gb x p b q s t r W) (hc : Chg T W W') (hT : ∀ k, T k → w.heap.size ≤ k ∧ k ≠ p ∧ k ≠ b ∧ k ≠ q ∧ k ≠ kk ∧ k ≠ gb) (hs : ∀ k o c, T k → W.cell? ⟨k, o, none⟩ ≠ some (.int .u8 c)) (hs' : ∀ k o a n c, T k → W.cell? ⟨k, o, none⟩ ≠ some (.slice a n c)) : Pm w kk lim N iv gb x p b q s t r W' :=
  ⟨hc.old h.old (fun k e => (hT k e).1), h.hp, h.hb, h.hq, h.hk, h.mx.chgN hc (fun e => (hT _ e).2.1 rfl) (fun e => (hT _ e).2.2.1 rfl) hs,
    ⟨(hc.block q (blk_lt h.dx.obj) (fun e => (hT _ e).2.2.2.1 rfl)).trans h.dx.obj, h.dx.ne, h.dx.rx.chgN hc hs hs'⟩, h.ne, Nat.lt_of_lt_of_le h.kl hc.size, h.inn.chg hc (fun b e e' => by subst e; exact (hT _ e').2.2.2.2.1 rfl), (hc.block gb (blk_lt h.bx) (fun e => (hT _ e).2.2.2.2.2 rfl)).trans h.bx, h.vi.chg hc hs, h.gne⟩
theorem Pm.m {w W W' : World} {gb : Nat} {x : Ox} {kk lim N p b q : Nat} {iv r : Value} {s s' t : St} (h : Pm w kk lim N iv gb x p b q s t r W) (hm : MemX kk W' p b lim s') (hc : Chg (fun k => k = p ∨ k = b) W W') : Pm w kk lim N iv gb x p b q s' t r W' :=
  have hs := h.mx.mem.noU8
  have hs' := h.mx.mem.noS
  ⟨hc.old h.old (fun k e => e.elim (fun e => e ▸ h.hp) (fun e => e ▸ h.hb)), h.hp, h.hb, h.hq, h.hk, hm,
    ⟨(hc.block q (blk_lt h.dx.obj) (fun e => e.elim (fun e => h.ne.1 e.symm) (fun e => h.ne.2 e.symm))).trans h.dx.obj, h.dx.ne, h.dx.rx.chgN hc (fun k o c e => hs k o c e) (fun k o a n c e => hs' k o a n c e)⟩, h.ne, Nat.lt_of_lt_of_le h.kl hc.size, h.inn.chg hc (fun j e e' => by
      subst e
      exact e'.elim (fun e => h.mx.ne.1 e.symm) (fun e => h.mx.ne.2 e.symm)), (hc.block gb (blk_lt h.bx) (fun e => e.elim h.gne.1 h.gne.2.1)).trans h.bx, h.vi.chg hc (fun k o c e => hs k o c e), h.gne⟩
theorem Pm.d {w W W' : World} {gb : Nat} {x : Ox} {kk lim N p b q : Nat} {iv r r' : Value} {s t t' : St} (h : Pm w kk lim N iv gb x p b q s t r W) (hd : Dx kk W' q lim t' r') (hc : Chg (· = q) W W') : Pm w kk lim N iv gb x p b q s t' r' W' :=
  ⟨hc.old h.old (fun k e => e ▸ h.hq), h.hp, h.hb, h.hq, h.hk, h.mx.chgN hc h.ne.1 h.ne.2 (fun k o c e => h.dx.noU k o c e), hd, h.ne, Nat.lt_of_lt_of_le h.kl hc.size, h.inn.chg hc (fun j e e' => by
      subst e
      exact h.dx.ne e'.symm), (hc.block gb (blk_lt h.bx) h.gne.2.2).trans h.bx, h.vi.chg hc (fun k o c e => h.dx.noU k o c e), h.gne⟩
/-- Between two rounds. -/
structure Ps (w : World) (lim p b q : Nat) (s : St) (r : Value) (W : World) : Prop where
  old : Old w W
  hp : w.heap.size ≤ p
  hb : w.heap.size ≤ b
  hq : w.heap.size ≤ q
  mem : Mem W p b lim s.last s.L
  doc : Dx W.heap.size W q lim s r
  ne : p ≠ q ∧ b ≠ q
theorem Dx.up {k k' : Nat} {w : World} {q lim : Nat} {s : St} {r : Value} (h : Dx k w q lim s r) (hk : w.heap.size ≤ k') : Dx k' w q lim s r :=
  h.turn (Chg.ofOld (Old.refl w)) hk
theorem Ps.on {w W W' : World} {lim p b q : Nat} {s : St} {r : Value} (h : Ps w lim p b q s r W) (ho : Old W W') : Ps w lim p b q s r W' :=
  ⟨h.old.trans ho, h.hp, h.hb, h.hq, h.mem.old ho, (h.doc.old ho).up (Nat.le_refl _), h.ne⟩
theorem Pm.shp {w W W' : World} {gb : Nat} {x : Ox} {kk lim N p b q : Nat} {iv r : Value} {s : St} (h : Pm w kk lim N iv gb x p b q s s r W) (hc : Shp (· = kk) W W') : Ps w lim p b q s r W' :=
  ⟨hc.chg.old h.old (fun k e => e ▸ h.hk), h.hp, h.hb, h.hq, h.mx.chg hc.chg, h.dx.turn hc.chg (Nat.le_refl _), h.ne⟩
theorem Ps.pm {w W W' : World} {lim p b q kk N gb : Nat} {s : St} {r iv : Value} {x : Ox} (h : Ps w lim p b q s r W) (ho : Old W W') (hk : W.heap.size ≤ kk) (hk' : kk < W'.heap.size) (hi : NC (· = kk) W' iv N) (hb : Ob W' gb x) (hg : W.heap.size ≤ gb) (hv : VR W' iv x.l) : Pm w kk lim N iv gb x p b q s s r W' :=
  ⟨h.old.trans ho, h.hp, h.hb, h.hq, Nat.le_trans h.old.size hk, (MemX.new h.mem hk).old ho, (h.doc.up hk).old ho, h.ne, hk', hi, hb, hv, by have := h.mem.lt; have := blk_lt h.doc.obj; omega⟩
end Go.Proofs.Ytfhbnkdibhmmcaa
