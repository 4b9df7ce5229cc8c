/- The arena: what is below a token: the closure that gathers. -/
import Derived.Test.YtfgdgnkihiokoaaBK1
import Derived.Deep.RegionLaw
import Derived.Deep.AppendLies
namespace Go.Proofs.Ytfgdgnkihiokoaa
open Go.ChangeShapes Go.WideShapes Go.ChangeAt Go.RowKit Go.Lib
set_option linter.unusedVariables false
set_option linter.unusedSimpArgs false
set_option maxRecDepth 100000

def tcs : List Tk → List Value
  | [] => []
  | t :: l => .int .i64 t.id :: .int .i64 t.par :: .int .i64 t.node :: .int .i64 t.fact :: tcs l
theorem tcs_len : ∀ l : List Tk, (tcs l).length = l.length * 4
  | [] => rfl
  | t :: l => by rw [tcs, List.length_cons, List.length_cons, List.length_cons, List.length_cons, List.length_cons, tcs_len l]; omega
theorem tcs_app : ∀ a b : List Tk, tcs (a ++ b) = tcs a ++ tcs b
  | [], b => rfl
  | t :: a, b => by rw [List.cons_append, tcs, tcs_app a b]; rfl
/-- A slice of tokens of the call's own. -/
def Toks (w : World) (base : Nat) (v : Value) (l : List Tk) : Prop := w.ownsRow base 32 4 v l.length (tcs l)
theorem Toks.old {w w' : World} {base : Nat} {v : Value} {l : List Tk} (h : Toks w base v l) (ho : Old w w') : Toks w' base v l := own_old h ho
/-- A variable in a block of one cell, that a closure has. -/
def Var (w : World) (g : Nat) (t : TypeId) (v : Value) : Prop := w.heap[g]? = some (.cells #[v] t (0, 0))
namespace Var
variable {w w' : World} {g : Nat} {t : TypeId} {v : Value}
theorem cell (h : Var w g t v) : w.cell? ⟨g, 0, none⟩ = some v := by unfold Var at h; simp [World.cell?, h]
theorem frozen (h : Var w g t v) : w.frozen? ⟨g, 0, none⟩ = false := by unfold Var at h; simp [World.frozen?, h]
theorem lt (h : Var w g t v) : g < w.heap.size := blk_lt h
theorem new (w : World) (t : TypeId) (v : Value) : Var (w.alloc (.cells #[v] t)) w.heap.size t v := (MapKept.heap_alloc w _).1
theorem old (h : Var w g t v) (ho : Old w w') : Var w' g t v := (ho.block g h.lt).trans h
theorem set (h : Var w g t v) (u : Value) : Var (w.setCell ⟨g, 0, none⟩ u) g t u := by
  unfold Var at *
  show (w.heap.modify g _)[g]? = _
  rw [Array.getElem?_modify, if_pos rfl, h]
  simp
theorem other (h : Var w g t v) {a : Addr} (hne : a.block ≠ g) (u : Value) : Var (w.setCell a u) g t v := by
  unfold Var at *
  show (w.heap.modify a.block _)[g]? = _
  rw [Array.getElem?_modify, if_neg hne, h]
theorem grown (h : Var w g t v) {row : Option Nat} (hg : w.grownBy w' row) (hr : ∀ k, row = some k → k ≠ g) : Var w' g t v := (hg.block g h.lt (fun e => hr g e.symm rfl)).trans h
end Var
theorem row_low {w : World} {base n size : Nat} {e : TypeId} {v : Value} {cs : List Value} (h : w.ownsRow base e size v n cs) : ∀ k, v.ownBlock = some k → base ≤ k := fun k hk => by
  rcases h.2 with ⟨rfl, _⟩ | ⟨g, cap, cur, rfl, hb, _⟩
  · simp [Value.ownBlock] at hk
  · obtain rfl : g = k := by simpa [Value.ownBlock] using hk
    exact hb
theorem Chg.ofGrown {w w' : World} {row : Option Nat} (h : w.grownBy w' row) : Chg (fun j => row = some j) w w' := ⟨h.os, h.output, h.size, fun k hk hn => h.block k hk (fun e => hn e.symm)⟩

theorem gather_any {w : World} {b : Bs} {A : Nat → Prop} {L : List Tk} {last cap : Nat} (h : Ar w b A L last cap) (hu : L.Pairwise (fun x y => x.id < y.id)) {i : Int} (hi : I64 i) {t : Tk} (ht : getT L i = some t)
    {g5 g2 base n cp : Nat} {oa : Option Addr} {l : List Tk} (v5 : Var w g5 29 (.slice oa n cp)) (v2 : Var w g2 24 (ptr b)) (hr : Toks w base (.slice oa n cp) l) (hn : n = l.length) (hn1 : n < 1000000) (hbase : base ≤ w.heap.size) (hgb : g5 < base) :
    Calls Try.prog 27 #[.int .i64 i, .pointer (some ⟨g5, 0, none⟩), .pointer (some ⟨g2, 0, none⟩)] w fun e w' => e = .returned (.tuple #[]) ∧ ∃ ob cp', Var w' g5 29 (.slice ob (n + 1) cp') ∧ Toks w' base (.slice ob (n + 1) cp') (l ++ [t]) ∧ Chg (fun j => j = g5 ∨ (Value.slice oa n cp).ownBlock = some j) w w' := by
  obtain ⟨K, N, F, h, rfl⟩ := h
  have c1 := h.cells.2.1
  have hl : (Instr.lookup 49 (.map (some b.t)) (.int .i64 i) false).run Try.prog w.drew = .ok (tv t) w.drew := by
    have := (tok_look (h.old (Old.refl w).drew).tok hu hi).1
    rw [ht, Option.getD_some] at this
    exact this
  have a5 := v5.cell
  have f5 := v5.frozen
  have a2 := v2.cell
  have lt5 := v5.lt
  have HAL := Lib.hid ((Old.refl w).drew.alloc (.cells #[.int .i64 t.id, .int .i64 t.par, .int .i64 t.node, .int .i64 t.fact] 32))
  have HRW : Hid ((w.drew.alloc (.cells #[.int .i64 t.id, .int .i64 t.par, .int .i64 t.node, .int .i64 t.fact] 32)).ownsRow base 32 4 (.slice oa n cp) n (tcs l)) := Lib.hid (by rw [hn]; rw [hn] at hr; exact own_old hr HAL.out)
  have HV := Lib.hid (v5.old HAL.out)
  have HBS := Lib.hid (show base ≤ (w.drew.alloc (.cells #[.int .i64 t.id, .int .i64 t.par, .int .i64 t.node, .int .i64 t.fact] 32)).heap.size from Nat.le_trans hbase HAL.out.size)
  have NEWS := Lib.hid (World.news_of_block (cs := #[.int .i64 t.id, .int .i64 t.par, .int .i64 t.node, .int .i64 t.fact]) (MapKept.heap_alloc w.drew (.cells #[.int .i64 t.id, .int .i64 t.par, .int .i64 t.node, .int .i64 t.fact] 32)).1)
  have ONE := Lib.hid (show ∀ u ∈ (#[.int .i64 t.id, .int .i64 t.par, .int .i64 t.node, .int .i64 t.fact] : Array Value).toList, u.oneCell' = true from fun u hu => by simp at hu; rcases hu with rfl | rfl | rfl | rfl <;> rfl)
  obtain ⟨ti, hti, hz, hsz, hby⟩ := info_parts info32
  have L1 := Lib.hid (show (n + 1) * 32 ≤ 140737488355328 by omega)
  have L2 := Lib.hid (show n + 1 ≤ maxLen by unfold maxLen; omega)
  have HB := Lib.hid hbase
  have HGB := Lib.hid hgb
  have HN := Lib.hid hn
  clear h hr hn v5 v2 ht hn1 hbase hgb
  go_enter Try.func27, Try.ntmps27
  go_wp2
  go_region_law (refine step_append_lies _ rfl _ _ 29 rfl base 32 ti _ 4 32 Try.underlying29 hti hz hsz hby rfl (Nat.zero_lt_succ 3) (.slice oa n cp) n (tcs l) rfl HRW.out ⟨w.heap.size, 0, none⟩ 1 1 _ rfl rfl NEWS.out ONE.out (Nat.zero_lt_succ 0) L2.out L1.out HBS.out _ rfl ?_; intro g5' c5 w5 hown hgr hlie hlt; have HW := Lib.hid hown; have HG := Lib.hid (Chg.ofGrown hgr); have HV5 := Lib.hid (HV.out.grown hgr (fun k hk => by have := row_low HRW.out k hk; have := HGB.out; omega)); have q5 := HV5.out.frozen; have p5 := HV5.out.cell; clear hown hgr hlie hlt)
  all_goals
    refine bodyPost_end (v := .tuple #[]) (by simp [results, Try.results27, go_sem]) rfl ⟨rfl, _, _, HV5.out.set _, ?_, ?_⟩
    · unfold Toks
      rw [List.length_append, tcs_app, ← HN.out]
      exact own_set HW.out (a := ⟨g5, 0, none⟩) HGB.out _
    · exact (((Chg.ofOld HAL.out).trans (HG.out.mono (fun k hk => Or.inr hk))).trans ((Chg.ofSet w5 ⟨g5, 0, none⟩ _).mono (fun k hk => Or.inl hk)))
end Go.Proofs.Ytfgdgnkihiokoaa
