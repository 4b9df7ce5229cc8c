/- Layer lexer: a word in memory: seven cells; copies of texts. -/
import Derived.Test.YtgmjpcaennmgoaaGreatDoorTG
namespace Go.Proofs.YtgmjpcaennmgoaaGreatDoor
open Go.ChangeShapes Go.WideShapes Go.ChangeAt Go.RowKit Go.Lib
set_option linter.unusedVariables false
set_option linter.unusedSimpArgs false
set_option maxRecDepth 100000

/-- A word: kind, text, value, place. -/
structure Tk where
  k : Int
  t : List UInt8
  vk : Int
  vn : Int
  vs : List UInt8
  ln : Int
  cl : Int
def Tk.cells (x : Tk) : Array Value := #[.int .u8 x.k, .string (st x.t), .int .u8 x.vk, .int .i64 x.vn, .string (st x.vs), .int .i64 x.ln, .int .i64 x.cl]
abbrev Tk.v (x : Tk) : Value := .agg #[.int .u8 x.k, .string (st x.t), .int .u8 x.vk, .int .i64 x.vn, .string (st x.vs), .int .i64 x.ln, .int .i64 x.cl]
def Tk.zero : Tk := ⟨0, [], 0, 0, [], 0, 0⟩
abbrev zeroV : Value := .agg #[.int .u8 0, .string ⟨#[]⟩, .int .u8 0, .int .i64 0, .string ⟨#[]⟩, .int .i64 0, .int .i64 0]
/-- A block that a word was put into. -/
def Sv (w : World) (b : Nat) (x0 x1 x2 x3 x4 x5 x6 : Value) : Prop := w.heap[b]? = some (.cells #[x0, x1, x2, x3, x4, x5, x6] 51 (0, 0))
section
variable {w w' : World} {b : Nat} {x0 x1 x2 x3 x4 x5 x6 : Value}
theorem Sv.c (h : Sv w b x0 x1 x2 x3 x4 x5 x6) (o : Nat) : w.cell? ⟨b, o, none⟩ = #[x0, x1, x2, x3, x4, x5, x6][o]? := by unfold Sv at h; simp [World.cell?, h]
theorem Sv.f (h : Sv w b x0 x1 x2 x3 x4 x5 x6) (o : Nat) : w.frozen? ⟨b, o, none⟩ = false := by unfold Sv at h; simp [World.frozen?, h]
theorem Sv.lt (h : Sv w b x0 x1 x2 x3 x4 x5 x6) : b < w.heap.size := blk_lt h
theorem Sv.old (h : Sv w b x0 x1 x2 x3 x4 x5 x6) (ho : Old w w') : Sv w' b x0 x1 x2 x3 x4 x5 x6 := (ho.block b h.lt).trans h
theorem Sv.new (w : World) : Sv (w.alloc (.cells #[x0, x1, x2, x3, x4, x5, x6] 51)) w.heap.size x0 x1 x2 x3 x4 x5 x6 := (MapKept.heap_alloc w _).1
theorem Sv.put (h : Sv w b x0 x1 x2 x3 x4 x5 x6) (o : Nat) (u : Value) : (w.setCell ⟨b, o, none⟩ u).heap[b]? = some (.cells (#[x0, x1, x2, x3, x4, x5, x6].setIfInBounds o u) 51 (0, 0)) := by
  have hlt := h.lt
  unfold Sv at h
  show (w.heap.modify b _)[b]? = _
  rw [Array.getElem?_modify, if_pos rfl, h]
  simp
theorem Sv.set0 (h : Sv w b x0 x1 x2 x3 x4 x5 x6) (u : Value) : Sv (w.setCell ⟨b, 0, none⟩ u) b u x1 x2 x3 x4 x5 x6 := h.put 0 u
theorem Sv.set1 (h : Sv w b x0 x1 x2 x3 x4 x5 x6) (u : Value) : Sv (w.setCell ⟨b, 1, none⟩ u) b x0 u x2 x3 x4 x5 x6 := h.put 1 u
theorem Sv.set2 (h : Sv w b x0 x1 x2 x3 x4 x5 x6) (u : Value) : Sv (w.setCell ⟨b, 2, none⟩ u) b x0 x1 u x3 x4 x5 x6 := h.put 2 u
theorem Sv.set3 (h : Sv w b x0 x1 x2 x3 x4 x5 x6) (u : Value) : Sv (w.setCell ⟨b, 3, none⟩ u) b x0 x1 x2 u x4 x5 x6 := h.put 3 u
theorem Sv.set4 (h : Sv w b x0 x1 x2 x3 x4 x5 x6) (u : Value) : Sv (w.setCell ⟨b, 4, none⟩ u) b x0 x1 x2 x3 u x5 x6 := h.put 4 u
theorem Sv.set5 (h : Sv w b x0 x1 x2 x3 x4 x5 x6) (u : Value) : Sv (w.setCell ⟨b, 5, none⟩ u) b x0 x1 x2 x3 x4 u x6 := h.put 5 u
theorem Sv.set6 (h : Sv w b x0 x1 x2 x3 x4 x5 x6) (u : Value) : Sv (w.setCell ⟨b, 6, none⟩ u) b x0 x1 x2 x3 x4 x5 u := h.put 6 u
end
/-- A word is put into a block. -/
abbrev poke7 (w : World) (b : Nat) (y0 y1 y2 y3 y4 y5 y6 : Value) : World :=
  ((((((w.setCell ⟨b, 0, none⟩ y0).setCell ⟨b, 1, none⟩ y1).setCell ⟨b, 2, none⟩ y2).setCell ⟨b, 3, none⟩ y3).setCell ⟨b, 4, none⟩ y4).setCell ⟨b, 5, none⟩ y5).setCell ⟨b, 6, none⟩ y6
theorem Sv.poke {w : World} {b : Nat} {x0 x1 x2 x3 x4 x5 x6 : Value} (h : Sv w b x0 x1 x2 x3 x4 x5 x6) (y0 y1 y2 y3 y4 y5 y6 : Value) : Sv (poke7 w b y0 y1 y2 y3 y4 y5 y6) b y0 y1 y2 y3 y4 y5 y6 :=
  ((((((h.set0 y0).set1 y1).set2 y2).set3 y3).set4 y4).set5 y5).set6 y6
theorem old_poke7 {a w : World} {b : Nat} (h : Old a w) (hb : a.heap.size ≤ b) (y0 y1 y2 y3 y4 y5 y6 : Value) : Old a (poke7 w b y0 y1 y2 y3 y4 y5 y6) :=
  ((((((h.setCell (p := ⟨b, 0, none⟩) hb y0).setCell (p := ⟨b, 1, none⟩) hb y1).setCell (p := ⟨b, 2, none⟩) hb y2).setCell (p := ⟨b, 3, none⟩) hb y3).setCell (p := ⟨b, 4, none⟩) hb y4).setCell (p := ⟨b, 5, none⟩) hb y5).setCell (p := ⟨b, 6, none⟩) hb y6
theorem size33 : (Tryz.prog.info? 51).map (·.size) = some 7 := by kernel_rfl
/-- A word that was put into a result's box, and an error, are what is told. -/
theorem ret_tok {fn : Func} {p u : Tmp} (hf : fn.results = #[.cell p 51, .tmp u]) (tmps : Array Value) (w : World) (g : Nat) {x0 x1 x2 x3 x4 x5 x6 b : Value} (hp : tmps.getD p undef = .pointer (some ⟨g, 0, none⟩)) (hb : tmps.getD u undef = b) (hg : Sv w g x0 x1 x2 x3 x4 x5 x6) :
    (results fn tmps).run Tryz.prog w = .ok (.tuple #[.agg #[x0, x1, x2, x3, x4, x5, x6], b]) w := by
  rw [results_cell_tmp hf, hp, hb]
  simp [asAddr, Result.andThen, run_loadVar_row w g 51 51 #[x0, x1, x2, x3, x4, x5, x6] (0, 0) _ hg Tryz.underlying51 rfl size33]

theorem clone_any (s : ByteArray) (w : World) (hs : s.size ≤ 1000000) : Calls Tryz.prog 69 #[.string s] w fun e w' => e = .returned (.string s) ∧ Old w w' := by
  have h := Tryz.stringslite_Clone s w (by omega)
  go_enter Tryz.func69, Tryz.ntmps69
  go_wp2_with (go_at_call 101; refine h.mono ?_; rintro e w1 ⟨rfl, h1⟩)
  go_ret
  exact ⟨rfl, Old.ofBelow h1 (Nat.le_refl _)⟩

/-- A word and an error, as they are told. -/
abbrev tokE (x : Value) (e : Int) : Ending := .returned (.tuple #[x, .int .i64 e])
theorem sv0 (w : World) : Sv (w.alloc (.cells #[.int .u8 0, .string ⟨#[]⟩, .int .u8 0, .int .i64 0, .string ⟨#[]⟩, .int .i64 0, .int .i64 0] 51)) w.heap.size (.int .u8 0) (.string ⟨#[]⟩) (.int .u8 0) (.int .i64 0) (.string ⟨#[]⟩) (.int .i64 0) (.int .i64 0) := Sv.new w
theorem named_any (k : Int) (s : ByteArray) (B : Bool) (w : World) (hz : s.size ≤ 1000000) (hn : ∀ W, Calls Tryz.prog 114 #[.string s] W fun e w' => e = .returned (.bool B) ∧ Old W w') :
    Calls Tryz.prog 94 #[.int .u8 k, .string s] w fun e w' => e = (if B then tokE (.agg #[.int .u8 k, .string s, .int .u8 0, .int .i64 0, .string ⟨#[]⟩, .int .i64 0, .int .i64 0]) 0 else tokE zeroV 4) ∧ Old w w' := by
  have HS := Lib.hid (sv0 w)
  have hcl := fun W => clone_any s W hz
  have HO := Lib.hid ((Old.refl w).alloc (.cells #[.int .u8 0, .string ⟨#[]⟩, .int .u8 0, .int .i64 0, .string ⟨#[]⟩, .int .i64 0, .int .i64 0] 51))
  cases B
  · go_enter Tryz.func94, Tryz.ntmps94
    go_wp2_with (first
      | (go_at_call 114; refine (hn _).mono ?_; rintro e w1 ⟨rfl, o1⟩; replace HS := Lib.hid (HS.out.old o1); replace HO := Lib.hid (HO.out.trans o1); have a0 := HS.out.c 0; have a1 := HS.out.c 1; have a2 := HS.out.c 2; have a3 := HS.out.c 3; have a4 := HS.out.c 4; have a5 := HS.out.c 5; have a6 := HS.out.c 6; have f0 := HS.out.f 0; have f1 := HS.out.f 1; have f2 := HS.out.f 2; have f3 := HS.out.f 3; have f4 := HS.out.f 4; have f5 := HS.out.f 5; have f6 := HS.out.f 6))
    refine bodyPost_ret (ret_tok rfl _ _ w.heap.size rfl rfl (HS.out.poke _ _ _ _ _ _ _)) rfl ?_
    exact ⟨rfl, old_poke7 HO.out (Nat.le_refl _) _ _ _ _ _ _ _⟩
  · go_enter Tryz.func94, Tryz.ntmps94
    go_wp2_with (first
      | (go_at_call 114; refine (hn _).mono ?_; rintro e w1 ⟨rfl, o1⟩; replace HS := Lib.hid (HS.out.old o1); replace HO := Lib.hid (HO.out.trans o1))
      | (go_at_call 69; refine (hcl _).mono ?_; rintro e w2 ⟨rfl, o2⟩; replace HS := Lib.hid (HS.out.old o2); replace HO := Lib.hid (HO.out.trans o2); have a0 := HS.out.c 0; have a1 := HS.out.c 1; have a2 := HS.out.c 2; have a3 := HS.out.c 3; have a4 := HS.out.c 4; have a5 := HS.out.c 5; have a6 := HS.out.c 6; have f0 := HS.out.f 0; have f1 := HS.out.f 1; have f2 := HS.out.f 2; have f3 := HS.out.f 3; have f4 := HS.out.f 4; have f5 := HS.out.f 5; have f6 := HS.out.f 6))
    refine bodyPost_ret (ret_tok rfl _ _ w.heap.size rfl rfl (HS.out.poke _ _ _ _ _ _ _)) rfl ?_
    exact ⟨rfl, old_poke7 HO.out (Nat.le_refl _) _ _ _ _ _ _ _⟩
end Go.Proofs.YtgmjpcaennmgoaaGreatDoor
