/- strings.Builder, told apart from the caller's own rows of bytes: which blocks a WriteByte turns. -/
import Derived.Test.YtgmjpcaennmgoaaGreatDoorLA
import Derived.Laws.AppendOwn
namespace Go.Proofs.YtgmjpcaennmgoaaGreatDoor
open Go.ChangeShapes Go.WideShapes Go.ChangeAt Go.RowKit Go.Lib Go.Shelf
set_option linter.unusedVariables false
set_option maxRecDepth 100000

/-- Nothing has turned but block b and this row. -/
structure Chg (w w' : World) (b : Nat) (row : Option Nat) : Prop where
  os : w'.os = w.os
  output : w'.output = w.output
  size : w.heap.size ≤ w'.heap.size
  block : ∀ k, k < w.heap.size → k ≠ b → some k ≠ row → w'.heap[k]? = w.heap[k]?
theorem Chg.refl (w : World) (b : Nat) (row : Option Nat) : Chg w w b row := ⟨rfl, rfl, Nat.le_refl _, fun _ _ _ _ => rfl⟩
theorem Chg.trans {a b c : World} {k : Nat} {row : Option Nat} (h : Chg a b k row) (j : Chg b c k row) : Chg a c k row :=
  ⟨j.os.trans h.os, j.output.trans h.output, Nat.le_trans h.size j.size, fun i hi h1 h2 => (j.block i (Nat.lt_of_lt_of_le hi h.size) h1 h2).trans (h.block i hi h1 h2)⟩
/-- The builder in block b, written on already, holds these bytes, in this row. -/
def Bu (w : World) (b : Nat) (bs : List UInt8) (row : Option Nat) : Prop :=
  ∃ v, w.heap[b]? = some (.cells #[.pointer (some ⟨b, 0, none⟩), v] 148 (0, 0)) ∧ w.ownsRow 0 5 1 v bs.length (Lib.byteCells bs) ∧ v.ownBlock = row
theorem Bu.lt {w : World} {b : Nat} {bs : List UInt8} {row : Option Nat} (h : Bu w b bs row) : b < w.heap.size := by
  obtain ⟨v, h, _⟩ := h
  exact blk_lt h
theorem Bu.row_lt {w : World} {b : Nat} {bs : List UInt8} {row : Option Nat} (h : Bu w b bs row) : ∀ k, row = some k → k < w.heap.size := by
  obtain ⟨v, _, h2, h3⟩ := h
  intro k hk
  exact (h2.lt k (h3.trans hk)).2
theorem Bu.is {w : World} {b : Nat} {bs : List UInt8} {row : Option Nat} (h : Bu w b bs row) : Lib.IsBuilder 148 5 0 b (Lib.byteCells bs) w := by
  obtain ⟨v, h1, h2, h3⟩ := h
  refine Or.inr ⟨Nat.zero_le _, v, h1, ?_, Lib.ownBlock_ne h2 h1 (by decide)⟩
  simpa [Lib.byteCells] using h2
theorem Bu.old {w w' : World} {b : Nat} {bs : List UInt8} {row : Option Nat} (h : Bu w b bs row) (ho : Old w w') : Bu w' b bs row := by
  obtain ⟨v, h1, h2, h3⟩ := h
  refine ⟨v, (ho.block b (blk_lt h1)).trans h1, ⟨h2.1, ?_⟩, h3⟩
  rcases h2.2 with hn | ⟨g, cap, cur, e1, e2, e3, rest⟩
  · exact Or.inl hn
  · exact Or.inr ⟨g, cap, cur, e1, e2, (ho.block g (blk_lt e3)).trans e3, rest⟩

/-- A row that takes a byte stays where it is, or goes to a new block. -/
theorem append_where {w : World} {v v' : Value} {w' : World} {n : Nat} {xs : List Value} {ty : TypeId} {a : Addr} {c : Nat} {x : Value} (hown : w.ownsRow 0 5 1 v n xs)
    (hx : w.cell? a = some x) (ha : a.add 0 = a) (h1 : x.oneCell' = true) (hb : n + 1 ≤ 1000000) (hr : (Builtin.append_ #[42, 42] ty #[v, .slice (some a) 1 c]).run Tryz.prog w = .ok v' w') :
    v'.ownBlock = v.ownBlock ∨ v'.ownBlock = some w.heap.size := by
  obtain ⟨i0, hi, hz0, hz1, hz2⟩ := info_parts Tryz.wb_extra.infoByte
  have hnews : ∀ j u, [x][j]? = some u → w.cell? (a.add j) = some u := by
    intro j u hj
    match j, hj with
    | 0, hj => simp at hj; subst hj; rw [ha]; exact hx
  have hone : ∀ u ∈ [x], u.oneCell' = true := by intro u hu; simp at hu; subst hu; exact h1
  rcases hown.2 with ⟨rfl, hn⟩ | ⟨g, cap, cur, rfl, _, hg, hnc, hcm, hcs, htake⟩
  · rw [run_append_nil (P := Tryz.prog) w _ ty 5 i0 (.int .u8 0) Tryz.underlying42 hi hz0 a 1 c [x] (by rw [hz1]; rfl) hnews (by omega) (by omega) (by rw [hz2]; omega)] at hr
    right
    simp only [Result.ok.injEq] at hr
    rw [← hr.1]; rfl
  · by_cases hroom : n + 1 ≤ cap
    · left
      rw [run_append_room (P := Tryz.prog) w _ ty 5 i0 Tryz.underlying42 hi g n cap cur hg a 1 c [x] (by rw [hz1]; rfl) hnews hone hroom (by rw [hcs, hz1]; simp; omega)] at hr
      simp only [Result.ok.injEq] at hr
      rw [← hr.1]; rfl
    · right
      rw [run_append_grow (P := Tryz.prog) w _ ty 5 i0 (.int .u8 0) Tryz.underlying42 hi hz0 ⟨g, 0, none⟩ n cap xs (by rw [hz1]; exact hown.1) (hown.cells (g := g) rfl) a 1 c [x] (by rw [hz1]; rfl) hnews (by omega) (by omega) (by rw [hz2]; exact growslice_fits (by omega) (by omega))] at hr
      simp only [Result.ok.injEq] at hr
      rw [← hr.1]; rfl
theorem wpl_append {ops : Array Oper} {rest : List Oper} {o : Oper} {a : Act} {Q : Exit → Act → World → Prop} {w : World} (hgd : o.guard = none) (s x : Operand)
    (ho : o.op = .call { callee := .builtin .append, args := #[s, x], argTypes := #[42, 42] }) (v : Value) (n : Nat) (xs : List Value) (hs : a.eval s = v) (hown : w.ownsRow 0 5 1 v n xs)
    (ad : Addr) (c : Nat) (y : Value) (hx : a.eval x = .slice (some ad) 1 c) (hy : w.cell? ad = some y) (ha : ad.add 0 = ad) (h1 : y.oneCell' = true) (hb : n + 1 ≤ 1000000)
    (h : ∀ v' w', w'.ownsRow 0 5 1 v' (n + 1) (xs ++ [y]) → w.grownBy w' v.ownBlock → (v'.ownBlock = v.ownBlock ∨ v'.ownBlock = some w.heap.size) → wpList Tryz.prog ops Q rest (a.put o.dst v') w') : wpList Tryz.prog ops Q (o :: rest) a w := by
  obtain ⟨i0, hi, hz0, hz1, hz2⟩ := info_parts Tryz.wb_extra.infoByte
  have hnews : ∀ j u, [y][j]? = some u → w.cell? (ad.add j) = some u := by
    intro j u hj
    match j, hj with
    | 0, hj => simp at hj; subst hj; rw [ha]; exact hy
  refine wpList_plain hgd fun K hK => ?_
  obtain ⟨v', w', hr, h2, h3, h4⟩ := run_append_own (P := Tryz.prog) w 0 42 o.type 5 i0 (.int .u8 0) 1 1 Tryz.underlying42 hi hz0 hz1 hz2 rfl (by decide) v n xs hown ad 1 c [y] rfl hnews (by intro u hu; simp at hu; subst hu; exact h1) (by unfold maxLen; omega) (by omega) (Nat.zero_le _)
  have h5 := append_where hown hy ha h1 hb hr
  unfold Oper.wp execOp
  simp only [ho, resolve, invoke, builtin, Sem.run_bind, Sem.run_pure, Result.andThen_ok, List.map_toArray, List.map_cons, List.map_nil, hs, hx, hr]
  exact hK _ _ (h v' w' h2 h3 h5)

set_option maxHeartbeats 2000000 in
theorem wb_core (b : Nat) (bs : List UInt8) (row : Option Nat) (c : UInt8) (w : World) (hlen : bs.length + 1 ≤ 1000000)
    (hcc : Calls Tryz.prog 153 #[.pointer (some ⟨b, 0, none⟩)] w fun e w' => e = .returned (.tuple #[]) ∧ Bu w' b bs row ∧ Chg w w' b row) :
    Calls Tryz.prog 139 #[.pointer (some ⟨b, 0, none⟩), .int .u8 (c.toNat : Int)] w fun e w' => e = .returned .nilIface ∧ ∃ row', Bu w' b (bs ++ [c]) row' ∧ (row' = row ∨ ∃ g, row' = some g ∧ w.heap.size ≤ g) ∧ Chg w w' b row := by
  go_enter Tryz.func139, Tryz.ntmps139
  go_wp2_with (go_at_call 153; refine hcc.mono ?_)
  rintro e w1 ⟨rfl, hb1, hg1⟩
  obtain ⟨v, hbk, hown, hrow⟩ := hb1
  have c0 : w1.cell? ⟨b, 0, none⟩ = some (.pointer (some ⟨b, 0, none⟩)) := by rw [Lib.cell_of_heap hbk]; rfl
  have c1 : w1.cell? ⟨b, 1, none⟩ = some v := by rw [Lib.cell_of_heap hbk]; rfl
  have hlt := blk_lt hbk
  have hc1 : (w1.alloc (.cells #[.int .u8 (c.toNat : Int)] 5)).cell? ⟨w1.heap.size, 0, none⟩ = some (.int .u8 (c.toNat : Int)) := by simp
  have ha0 : (⟨w1.heap.size, 0, none⟩ : Addr).add 0 = ⟨w1.heap.size, 0, none⟩ := by simp [Addr.add]
  have HC1 := Lib.hid hc1
  have HA0 := Lib.hid ha0
  have HLT := Lib.hid hlt
  have HBK := Lib.hid hbk
  have HROW := Lib.hid hrow
  have HOWN := Lib.hid hown
  have HLEN := Lib.hid hlen
  clear hc1 ha0 hlt hbk hrow hown hlen hcc
  go_wp2_with (at_builtin; refine wpl_append (by rfl) (.tmp 11) (.tmp 13) (by rfl) v bs.length (Lib.byteCells bs) (by rfl) (HOWN.out.alloc _) ⟨w1.heap.size, 0, none⟩ 1 (.int .u8 (c.toNat : Int)) (by rfl) HC1.out HA0.out (by rfl) HLEN.out ?_)
  have hlt := HLT.out
  have hbk := HBK.out
  have hrow := HROW.out
  have hown := HOWN.out
  intro v' w2 hown' hgrow hwh
  have hb2 : w2.heap[b]? = some (.cells #[.pointer (some ⟨b, 0, none⟩), v] 148 (0, 0)) := by
    rw [hgrow.block b (by simp; omega) (fun e => Lib.ownBlock_ne hown hbk (by decide) e.symm), Lib.alloc_old w1 _ b hlt]
    exact hbk
  have d0 : w2.cell? ⟨b, 0, none⟩ = some (.pointer (some ⟨b, 0, none⟩)) := by rw [Lib.cell_of_heap hb2]; rfl
  have d1 : w2.cell? ⟨b, 1, none⟩ = some v := by rw [Lib.cell_of_heap hb2]; rfl
  have f1 : w2.frozen? ⟨b, 1, none⟩ = false := Lib.frozen_of_heap hb2 1
  obtain ⟨g, cap, rfl⟩ : ∃ g cap, v' = .slice (some ⟨g, 0, none⟩) (bs.length + 1) cap := by
    rcases hown'.2 with ⟨_, h0⟩ | ⟨g, cap, cur, hv, _⟩
    · omega
    · exact ⟨g, cap, hv⟩
  go_wp2
  go_ret
  refine ⟨rfl, some g, ?_, ?_, ?_⟩
  · have hown2 : w2.ownsRow 0 5 1 (.slice (some ⟨g, 0, none⟩) (bs.length + 1) cap) (bs ++ [c]).length (Lib.byteCells (bs ++ [c])) := by
      have : Lib.byteCells (bs ++ [c]) = Lib.byteCells bs ++ [.int .u8 (c.toNat : Int)] := by simp [Lib.byteCells]
      rw [this, List.length_append]
      exact hown'
    have := Lib.BuilderAt.put (T := 148) (e := 5) (B := 0) (Nat.zero_le b) hb2 (bs' := Lib.byteCells (bs ++ [c])) (by simpa [Lib.byteCells] using hown2) (by decide)
    obtain ⟨_, v2, q1, q2, q3⟩ := this
    have hs : v2 = .slice (some ⟨g, 0, none⟩) (bs.length + 1) cap := by
      have hc : ((w2.setCell ⟨b, 1, none⟩ (.slice (some ⟨g, 0, none⟩) (bs.length + 1) cap)).heap[b]?) = some (.cells #[.pointer (some ⟨b, 0, none⟩), .slice (some ⟨g, 0, none⟩) (bs.length + 1) cap] 148 (0, 0)) := by
        simp [World.setCell, Array.getElem?_modify, hb2]
      rw [hc] at q1
      simpa using q1.symm
    subst hs
    exact ⟨_, q1, by simpa [Lib.byteCells] using q2, rfl⟩
  · rcases hwh with h | h
    · left
      rw [← hrow, ← h]; rfl
    · right
      refine ⟨g, rfl, ?_⟩
      have hg : g = (w1.alloc (.cells #[.int .u8 (c.toNat : Int)] 5)).heap.size := by
        simpa [Value.ownBlock] using h
      have := hg1.size
      simp at hg
      omega
  · refine ⟨?_, ?_, ?_, fun k hk h1 h2 => ?_⟩
    · exact hgrow.os.trans hg1.os
    · exact hgrow.output.trans hg1.output
    · have := hgrow.size
      have := hg1.size
      simp [World.setCell] at *
      omega
    · have hk1 : k < w1.heap.size := Nat.lt_of_lt_of_le hk hg1.size
      rw [Below.heap_setCell _ _ _ _ h1, hgrow.block k (by simp; omega) (by rw [hrow]; exact h2), Lib.alloc_old w1 _ k hk1]
      exact hg1.block k hk h1 h2

theorem wb_used (b : Nat) (bs : List UInt8) (row : Option Nat) (c : UInt8) (w : World) (hlen : bs.length + 1 ≤ 1000000) (h : Bu w b bs row) :
    Calls Tryz.prog 139 #[.pointer (some ⟨b, 0, none⟩), .int .u8 (c.toNat : Int)] w fun e w' => e = .returned .nilIface ∧ ∃ row', Bu w' b (bs ++ [c]) row' ∧ (row' = row ∨ ∃ g, row' = some g ∧ w.heap.size ≤ g) ∧ Chg w w' b row := by
  refine wb_core b bs row c w hlen ?_
  have h' := h
  obtain ⟨v, hbk, _⟩ := h'
  have c0 : w.cell? ⟨b, 0, none⟩ = some (.pointer (some ⟨b, 0, none⟩)) := by rw [Lib.cell_of_heap hbk]; rfl
  refine (Any.Builder_copyCheck_used { Tryz.wb_lays with } Tryz.wb_extra.toX72 b w c0).mono ?_
  rintro e w' ⟨rfl, rfl⟩
  exact ⟨rfl, h, Chg.refl _ _ _⟩
theorem wb_fresh (b : Nat) (c : UInt8) (w : World) (h : w.heap[b]? = some (.cells #[.pointer none, .slice none 0 0] 148 (0, 0))) :
    Calls Tryz.prog 139 #[.pointer (some ⟨b, 0, none⟩), .int .u8 (c.toNat : Int)] w fun e w' => e = .returned .nilIface ∧ ∃ row', Bu w' b [c] row' ∧ (row' = none ∨ ∃ g, row' = some g ∧ w.heap.size ≤ g) ∧ Chg w w' b none := by
  refine wb_core b [] none c w (by simp) ?_
  have c0 : w.cell? ⟨b, 0, none⟩ = some (.pointer none) := by rw [Lib.cell_of_heap h]; rfl
  refine (Any.Builder_copyCheck_fresh { Tryz.wb_lays with } Tryz.wb_extra.toX72 b w c0 (by simp [World.shape?, h, Tryz.wb_ren]) (Lib.frozen_of_heap h 0)).mono ?_
  rintro e w' ⟨rfl, rfl⟩
  refine ⟨rfl, ⟨.slice none 0 0, ?_, World.ownsRow_nil _ _ _ _, rfl⟩, ⟨rfl, rfl, by simp [World.setCell], fun k hk h1 _ => Below.heap_setCell _ _ _ _ h1⟩⟩
  simp [World.setCell, Array.getElem?_modify, h]
end Go.Proofs.YtgmjpcaennmgoaaGreatDoor
