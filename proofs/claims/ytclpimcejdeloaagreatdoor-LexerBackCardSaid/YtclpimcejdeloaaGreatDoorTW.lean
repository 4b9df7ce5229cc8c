/- Layer lexer: the known sources. -/
import Derived.Test.YtclpimcejdeloaaGreatDoorTV
namespace Go.Proofs.YtclpimcejdeloaaGreatDoor
open Go.ChangeShapes Go.WideShapes Go.ChangeAt Go.RowKit Go.Lib
set_option linter.unusedVariables false
set_option linter.unusedSimpArgs false
set_option maxRecDepth 100000

/-- A row of words: its block, and its cells. -/
theorem row_cells {w : World} {base : Nat} {oa : Option Addr} {n cap : Nat} {cs : List Value} (h : w.ownsRow base 33 7 (.slice oa n cap) n cs) (hn : 0 < n) : ∃ g, oa = some ⟨g, 0, none⟩ ∧ g < w.heap.size ∧ n ≤ cap ∧ cap ≤ maxLen ∧ (∃ cur, w.heap[g]? = some (.cells cur 33 (0, 0))) ∧ ∀ j u, cs[j]? = some u → w.cell? ⟨g, j, none⟩ = some u := by
  obtain ⟨hl, h⟩ := h
  rcases h with ⟨h1, rfl⟩ | ⟨g, cap', cur, h1, hb, hg, hc, hm, hsz, ht⟩
  · omega
  · injection h1 with h1 h2 h3
    subst h1 h3
    refine ⟨g, rfl, blk_lt hg, hc, hm, ⟨cur, hg⟩, fun j u hj => ?_⟩
    have hjl : j < cs.length := (List.getElem?_eq_some_iff.1 hj).1
    rw [← ht, List.getElem?_take, if_pos (by omega), Array.getElem?_toList] at hj
    simp [World.cell?, hg, hj]
theorem name1 : isName [112, 49] = true := by decide
theorem name2 : isName [49, 112] = false := by decide

set_option maxHeartbeats 1600000 in
theorem known_lex (w : World) (he : Env w) : Calls Tryz.prog 6 #[] w fun e w' => e = .returned (.bool true) ∧ Old w w' := by
  have k1 := fun W hW => lex_at ⟨#[112, 49, 40, 97, 103, 101, 58, 62, 61, 49, 56, 41]⟩ W (by decide) hW _ lx1.symm
  have k2 := fun W hW => lex_at ⟨#[91, 49, 46, 46, 50, 93, 32, 59, 32, 102, 114, 111, 109, 10, 63, 120, 32, 63]⟩ W (by decide) hW _ lx2.symm
  have k3 := fun W hW => lex_at ⟨#[97, 10, 32, 32, 33]⟩ W (by decide) hW _ lx3.symm
  have n1 : ∀ W, Calls Tryz.prog 12 #[.string ⟨#[112, 49]⟩] W fun e w' => e = .returned (.bool true) ∧ Old W w' := fun W => lname_any ⟨#[112, 49]⟩ W (by decide)
  have n2 : ∀ W, Calls Tryz.prog 12 #[.string ⟨#[49, 112]⟩] W fun e w' => e = .returned (.bool false) ∧ Old W w' := fun W => lname_any ⟨#[49, 112]⟩ W (by decide)
  have HE := Lib.hid (fun W (h : Old w W) => he.old h)
  have HO := Lib.hid (Old.refl w)
  simp only [List.length_cons, List.length_nil, Nat.reduceAdd] at k1 k2 k3
  clear he
  go_enter Tryz.func6, Tryz.ntmps6
  go_wp2_with (first
    | (go_at_call 7; (with_reducible refine (k1 _ (HE.out _ HO.out)).mono ?_); rintro e w1 ⟨⟨oa, ca, rfl, h1⟩, o1⟩; replace HO := Lib.hid ((HO.out.trans o1).alloc (.cells #[.int .i64 0, .int .i64 0] 25)); have R1 := Lib.hid (own_old h1 ((Old.refl w1).alloc (.cells #[.int .i64 0, .int .i64 0] 25))); clear h1 o1)
    | (go_at_call 7; (with_reducible refine (k2 _ (HE.out _ HO.out)).mono ?_); rintro e w2 ⟨⟨ob, cb, rfl, h2⟩, o2⟩; replace HO := Lib.hid ((HO.out.trans o2).alloc (.cells #[.int .i64 0, .int .i64 0] 25)); replace R1 := Lib.hid (own_old R1.out (o2.alloc (.cells #[.int .i64 0, .int .i64 0] 25))); have R2 := Lib.hid (own_old h2 ((Old.refl w2).alloc (.cells #[.int .i64 0, .int .i64 0] 25))); clear h2 o2)
    | (go_at_call 7; (with_reducible refine (k3 _ (HE.out _ HO.out)).mono ?_); rintro e w3 ⟨⟨oc, cc, rfl, h3⟩, o3⟩; replace HO := Lib.hid ((HO.out.trans o3).alloc (.cells #[.int .i64 2, .int .i64 3] 25)); replace R1 := Lib.hid (own_old R1.out (o3.alloc (.cells #[.int .i64 2, .int .i64 3] 25))); replace R2 := Lib.hid (own_old R2.out (o3.alloc (.cells #[.int .i64 2, .int .i64 3] 25))); clear h3 o3; obtain ⟨ga, rfl, _, ca1, ca2, _, ha⟩ := row_cells R1.out (by decide); obtain ⟨gb, rfl, _, cb1, cb2, _, hb⟩ := row_cells R2.out (by decide); have a1 := ha 29 _ rfl; have a2 := ha 38 _ rfl; have b1 := hb 15 _ rfl; have b2 := hb 35 _ rfl; have b3 := hb 40 _ rfl; have b4 := hb 41 _ rfl; have b5 := hb 42 _ rfl; clear ha hb)
    | (go_at_call 12; (with_reducible refine (n1 _).mono ?_); rintro e w4 ⟨rfl, o4⟩; replace HO := Lib.hid (HO.out.trans o4))
    | (go_at_call 12; (with_reducible refine (n2 _).mono ?_); rintro e w4 ⟨rfl, o4⟩; replace HO := Lib.hid (HO.out.trans o4)))
  go_ret
  exact ⟨rfl, HO.out⟩
end Go.Proofs.YtclpimcejdeloaaGreatDoor
