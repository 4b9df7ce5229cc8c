/- Layer expr: a tree by its cells; four texts. Layer expr: the law's four texts. Layer expr: the document's names; how many expressions an op has. -/
import Derived.Test.YtgmjpcaennmgoaaGreatDoorKF
import Derived.Test.YtgmjpcaennmgoaaGreatDoorKA
import Derived.Test.YtgmjpcaennmgoaaGreatDoorTX
namespace Go.Proofs.YtgmjpcaennmgoaaGreatDoor
open Go.ChangeShapes Go.WideShapes Go.ChangeAt Go.RowKit Go.Lib
set_option linter.unusedVariables false
set_option linter.unusedSimpArgs false
set_option maxRecDepth 100000

theorem kx1 : readP [63, 97, 32, 43, 32, 50, 32, 42, 32, 51] = ([⟨2, 0, 0, [], [97], [], 1, 1⟩, ⟨1, 1, 2, [], [], [], 1, 6⟩, ⟨1, 1, 3, [], [], [], 1, 10⟩, ⟨15, 0, 0, [], [], [2, 1], 1, 8⟩, ⟨13, 0, 0, [], [], [4, 1], 1, 4⟩], 0, 0, 0) := by kernel_rfl
theorem kx2 : readP [110, 111, 116, 32, 63, 97, 32, 61, 32, 63] = ([⟨2, 0, 0, [], [97], [], 1, 5⟩, ⟨3, 0, 0, [], [], [], 1, 10⟩, ⟨7, 0, 0, [], [], [2, 1], 1, 8⟩, ⟨6, 0, 0, [], [], [1], 1, 1⟩], 0, 0, 0) := by kernel_rfl
theorem kx3 : readP [49, 32, 60, 32, 50, 32, 60, 32, 51] = ([], 1, 7, 4) := by kernel_rfl
theorem kx4 : readP [109, 111, 100, 40, 49, 41] = ([], 1, 6, 14) := by kernel_rfl
theorem row_any {w : World} {base size : Nat} {e : TypeId} {oa : Option Addr} {n cap : Nat} {cs : List Value} (h : w.ownsRow base e size (.slice oa n cap) n cs) (hn : 0 < n) : ∃ g, oa = some ⟨g, 0, none⟩ ∧ g < w.heap.size ∧ n ≤ cap ∧ cap ≤ maxLen ∧ (∃ cur, w.heap[g]? = some (.cells cur e (0, 0))) ∧ ∀ j u, cs[j]? = some u → w.cell? ⟨g, j, none⟩ = some u := by
  obtain ⟨hl, h⟩ := h
  rcases h with ⟨h1, rfl⟩ | ⟨g, cap', cur, h1, hb, hg, hc, hm, hsz, ht⟩
  · omega
  · injection h1 with h1 h2 h3
    subst h1 h3
    refine ⟨g, rfl, blk_lt hg, hc, hm, ⟨cur, hg⟩, fun j u hj => ?_⟩
    have hjl : j < cs.length := (List.getElem?_eq_some_iff.1 hj).1
    rw [← ht, List.getElem?_take, if_pos (by omega), Array.getElem?_toList] at hj
    simp [World.cell?, hg, hj]
/-- A row of places, by its cells. -/
def Kw (w : World) (v : Value) (ks : List Nat) : Prop := ∃ oa cap, v = .slice oa ks.length cap ∧ ks.length ≤ cap ∧ cap ≤ maxLen ∧ ∀ (j k : Nat), ks[j]? = some k → ∃ g, oa = some ⟨g, 0, none⟩ ∧ g < w.heap.size ∧ w.heap[g]?.isSome = true ∧ w.cell? ⟨g, j, none⟩ = some (.int .i64 (k : Int))
theorem Kw.old {w w' : World} {v : Value} {ks : List Nat} (h : Kw w v ks) (ho : Old w w') : Kw w' v ks := by
  obtain ⟨oa, cap, h1, h2, h3, h4⟩ := h
  refine ⟨oa, cap, h1, h2, h3, fun i x hx => ?_⟩
  obtain ⟨g, e, hg, hs, a0⟩ := h4 i x hx
  exact ⟨g, e, Nat.lt_of_lt_of_le hg ho.size, by rw [ho.block g hg]; exact hs, (ho.cell hg).trans a0⟩
theorem row_bound {w : World} {base e size n cap : Nat} {oa : Option Addr} {cs : List Value} (h : w.ownsRow base e size (.slice oa n cap) n cs) : n ≤ cap ∧ cap ≤ maxLen := by
  rcases h.2 with ⟨h1, h2, _⟩ | ⟨g, cap', cur, h1, _, _, hc, hm, _⟩
  · injection h1 with h1 h2' h3
    rw [h2', h3]
    exact ⟨Nat.le_refl _, Nat.zero_le _⟩
  · injection h1 with h1 h2 h3
    rw [h3]
    exact ⟨hc, hm⟩
theorem KR.kw {w : World} {base : Nat} {v : Value} {ks : List Nat} (h : KR w base v ks) : Kw w v ks := by
  obtain ⟨oa, cap, rfl⟩ := own_shape h
  obtain ⟨hb1, hb2⟩ := row_bound h
  refine ⟨oa, cap, rfl, hb1, hb2, fun j k hj => ?_⟩
  have hlt : j < ks.length := (List.getElem?_eq_some_iff.1 hj).1
  obtain ⟨g, rfl, hg, h1, h2, ⟨cur, hc⟩, h4⟩ := row_any h (by omega)
  exact ⟨g, rfl, hg, by rw [hc]; rfl, h4 _ _ (by rw [List.getElem?_map, hj]; rfl)⟩
/-- A tree, by its cells. -/
def Tw (w : World) (v : Value) (T : List Nd) : Prop := ∃ oa cap, v = .slice oa T.length cap ∧ T.length ≤ cap ∧ cap ≤ maxLen ∧ ∀ (i : Nat) (x : Nd), T[i]? = some x → ∃ g kv, oa = some ⟨g, 0, none⟩ ∧ g < w.heap.size ∧ w.heap[g]?.isSome = true ∧ w.cell? ⟨g, i * 8, none⟩ = some (.int .u8 x.op) ∧ w.cell? ⟨g, i * 8 + 1, none⟩ = some (.int .u8 x.vk) ∧ w.cell? ⟨g, i * 8 + 2, none⟩ = some (.int .i64 x.vn) ∧
    w.cell? ⟨g, i * 8 + 3, none⟩ = some (.string (st x.vs)) ∧ w.cell? ⟨g, i * 8 + 4, none⟩ = some (.string (st x.nm)) ∧ w.cell? ⟨g, i * 8 + 5, none⟩ = some kv ∧ w.cell? ⟨g, i * 8 + 6, none⟩ = some (.int .i64 x.ln) ∧ w.cell? ⟨g, i * 8 + 7, none⟩ = some (.int .i64 x.cl) ∧ Kw w kv (x.ks.map (i - ·))
theorem Tw.old {w w' : World} {v : Value} {T : List Nd} (h : Tw w v T) (ho : Old w w') : Tw w' v T := by
  obtain ⟨oa, cap, h1, h2, h3, h4⟩ := h
  refine ⟨oa, cap, h1, h2, h3, fun i x hx => ?_⟩
  obtain ⟨g, kv, e, hg, hs, a0, a1, a2, a3, a4, a5, a6, a7, hk⟩ := h4 i x hx
  exact ⟨g, kv, e, Nat.lt_of_lt_of_le hg ho.size, by rw [ho.block g hg]; exact hs, (ho.cell hg).trans a0, (ho.cell hg).trans a1, (ho.cell hg).trans a2, (ho.cell hg).trans a3, (ho.cell hg).trans a4, (ho.cell hg).trans a5, (ho.cell hg).trans a6, (ho.cell hg).trans a7, hk.old ho⟩
theorem ncells_at : ∀ {T : List Nd} {kvs : List Value} {i : Nat} {x : Nd} {v : Value}, T[i]? = some x → kvs[i]? = some v → ∀ j, j < 8 → (ncells T kvs)[i * 8 + j]? = (x.cells v)[j]?
  | [], _, i, x, v, h, _, j, hj => by simp at h
  | _ :: _, [], i, x, v, _, h, j, hj => by simp at h
  | y :: T, u :: kvs, 0, x, v, h, k, j, hj => by
    simp only [List.getElem?_cons_zero, Option.some.injEq] at h k
    subst h k
    rw [ncells, Nat.zero_mul, Nat.zero_add, List.getElem?_append_left (by simpa using hj)]
  | y :: T, u :: kvs, i + 1, x, v, h, k, j, hj => by
    simp only [List.getElem?_cons_succ] at h k
    rw [ncells, List.getElem?_append_right (by simp; omega)]
    rw [← ncells_at h k j hj]
    congr 1
    simp
    omega
theorem TreeR.tw {S : Nat → Prop} {w : World} {base : Nat} {v : Value} {T : List Nd} (h : TreeR S w base v T) : Tw w v T := by
  obtain ⟨kvs, t1, t2, t3⟩ := h
  obtain ⟨oa, cap, rfl⟩ := own_shape t2
  obtain ⟨hb1, hb2⟩ := row_bound t2
  refine ⟨oa, cap, rfl, hb1, hb2, fun i x hx => ?_⟩
  have hlt : i < T.length := (List.getElem?_eq_some_iff.1 hx).1
  have hv : kvs[i]? = some kvs[i] := List.getElem?_eq_getElem (by omega)
  obtain ⟨g, rfl, hg, h1, h2, ⟨cur, hc⟩, h4⟩ := row_any t2 (by omega)
  have hn := fun j hj => ncells_at hx hv j hj
  exact ⟨g, _, rfl, hg, by rw [hc]; rfl, h4 _ _ (hn 0 (by omega)), h4 _ _ (hn 1 (by omega)), h4 _ _ (hn 2 (by omega)), h4 _ _ (hn 3 (by omega)), h4 _ _ (hn 4 (by omega)), h4 _ _ (hn 5 (by omega)), h4 _ _ (hn 6 (by omega)), h4 _ _ (hn 7 (by omega)), (t3 i x _ hx hv).1.kw⟩
/-- What Read tells, as a law reads it. -/
theorem read_tw (s : ByteArray) (w : World) (hs : s.size ≤ 65536) (he : Env w) {T : List Nd} {ln cl E : Int} (hR : readP s.data.toList = (T, ln, cl, E)) :
    Calls Tryz.prog 8 #[.string s] w fun e w' => ∃ oa cap, e = .returned (.tuple #[.slice oa T.length cap, .agg #[.int .i64 ln, .int .i64 cl], .int .i64 E]) ∧ Hid (Tw w' (.slice oa T.length cap) T) ∧ Old w w' :=
  (eread_any s w hs he hR.symm).mono (by
    rintro e w' ⟨⟨vt, h1, h2⟩, h3⟩
    have h4 := h2.tw
    obtain ⟨oa, cap, rfl, _⟩ := id h4
    exact ⟨oa, cap, h1, Lib.hid h4, h3⟩)
end Go.Proofs.YtgmjpcaennmgoaaGreatDoor
namespace Go.Proofs.YtgmjpcaennmgoaaGreatDoor
open Go.ChangeShapes Go.WideShapes Go.ChangeAt Go.RowKit Go.Lib
set_option linter.unusedVariables false
set_option linter.unusedSimpArgs false
set_option maxRecDepth 100000

theorem tw_first {w : World} {v : Value} (h : Tw w v [⟨2, 0, 0, [], [97], [], 1, 1⟩, ⟨1, 1, 2, [], [], [], 1, 6⟩, ⟨1, 1, 3, [], [], [], 1, 10⟩, ⟨15, 0, 0, [], [], [2, 1], 1, 8⟩, ⟨13, 0, 0, [], [], [4, 1], 1, 4⟩]) :
    ∃ g cap h c2, v = .slice (some ⟨g, 0, none⟩) 5 cap ∧ w.cell? ⟨g, 32, none⟩ = some (.int .u8 13) ∧ w.cell? ⟨g, 37, none⟩ = some (.slice (some ⟨h, 0, none⟩) 2 c2) ∧ w.cell? ⟨h, 1, none⟩ = some (.int .i64 3) := by
  obtain ⟨oa, cap, rfl, h2, h3, h4⟩ := h
  obtain ⟨g, kv, rfl, hg, hs, a0, a1, a2, a3, a4, a5, a6, a7, hk⟩ := h4 4 _ rfl
  obtain ⟨ob, c2, rfl, k2, k3, k4⟩ := hk
  obtain ⟨h, rfl, hg2, hs2, b0⟩ := k4 1 3 rfl
  exact ⟨g, cap, h, c2, rfl, a0, a5, b0⟩
theorem tw_second {w : World} {v : Value} (h : Tw w v [⟨2, 0, 0, [], [97], [], 1, 5⟩, ⟨3, 0, 0, [], [], [], 1, 10⟩, ⟨7, 0, 0, [], [], [2, 1], 1, 8⟩, ⟨6, 0, 0, [], [], [1], 1, 1⟩]) :
    ∃ g cap, v = .slice (some ⟨g, 0, none⟩) 4 cap ∧ w.cell? ⟨g, 24, none⟩ = some (.int .u8 6) := by
  obtain ⟨oa, cap, rfl, h2, h3, h4⟩ := h
  obtain ⟨g, kv, rfl, hg, hs, a0, _⟩ := h4 3 _ rfl
  exact ⟨g, cap, rfl, a0⟩
set_option maxHeartbeats 1600000 in
theorem known_ok (w : World) (he : Env w) : Calls Tryz.prog 7 #[] w fun e w' => e = .returned (.bool true) ∧ Old w w' := by
  have HK1 := Lib.hid (show ∀ W, Old w W → Calls Tryz.prog 8 #[.string ⟨#[63, 97, 32, 43, 32, 50, 32, 42, 32, 51]⟩] W fun e w' => ∃ v, e = .returned (.tuple #[v, .agg #[.int .i64 0, .int .i64 0], .int .i64 0]) ∧ Hid (Tw w' v [⟨2, 0, 0, [], [97], [], 1, 1⟩, ⟨1, 1, 2, [], [], [], 1, 6⟩, ⟨1, 1, 3, [], [], [], 1, 10⟩, ⟨15, 0, 0, [], [], [2, 1], 1, 8⟩, ⟨13, 0, 0, [], [], [4, 1], 1, 4⟩]) ∧ Old W w' from fun W ho =>
    (read_tw ⟨#[63, 97, 32, 43, 32, 50, 32, 42, 32, 51]⟩ W (by decide) (he.old ho) kx1).mono (by rintro e w' ⟨oa, cap, h1, h2, h3⟩; exact ⟨_, h1, h2, h3⟩))
  have HK2 := Lib.hid (show ∀ W, Old w W → Calls Tryz.prog 8 #[.string ⟨#[110, 111, 116, 32, 63, 97, 32, 61, 32, 63]⟩] W fun e w' => ∃ v, e = .returned (.tuple #[v, .agg #[.int .i64 0, .int .i64 0], .int .i64 0]) ∧ Hid (Tw w' v [⟨2, 0, 0, [], [97], [], 1, 5⟩, ⟨3, 0, 0, [], [], [], 1, 10⟩, ⟨7, 0, 0, [], [], [2, 1], 1, 8⟩, ⟨6, 0, 0, [], [], [1], 1, 1⟩]) ∧ Old W w' from fun W ho =>
    (read_tw ⟨#[110, 111, 116, 32, 63, 97, 32, 61, 32, 63]⟩ W (by decide) (he.old ho) kx2).mono (by rintro e w' ⟨oa, cap, h1, h2, h3⟩; exact ⟨_, h1, h2, h3⟩))
  have HK3 := Lib.hid (show ∀ W, Old w W → Calls Tryz.prog 8 #[.string ⟨#[49, 32, 60, 32, 50, 32, 60, 32, 51]⟩] W fun e w' => ∃ v, e = .returned (.tuple #[v, .agg #[.int .i64 1, .int .i64 7], .int .i64 4]) ∧ Old W w' from fun W ho =>
    (read_tw ⟨#[49, 32, 60, 32, 50, 32, 60, 32, 51]⟩ W (by decide) (he.old ho) kx3).mono (by rintro e w' ⟨oa, cap, h1, h2, h3⟩; exact ⟨_, h1, h3⟩))
  have HK4 := Lib.hid (show ∀ W, Old w W → Calls Tryz.prog 8 #[.string ⟨#[109, 111, 100, 40, 49, 41]⟩] W fun e w' => ∃ v, e = .returned (.tuple #[v, .agg #[.int .i64 1, .int .i64 6], .int .i64 14]) ∧ Old W w' from fun W ho =>
    (read_tw ⟨#[109, 111, 100, 40, 49, 41]⟩ W (by decide) (he.old ho) kx4).mono (by rintro e w' ⟨oa, cap, h1, h2, h3⟩; exact ⟨_, h1, h3⟩))
  have HO := Lib.hid (Old.refl w)
  clear he
  go_enter Tryz.func7, Tryz.ntmps7
  go_wp2_with (first
    | (go_at_call 8; (with_reducible refine (HK1.out _ HO.out).mono ?_); rintro e w1 ⟨v1, rfl, t1, o1⟩; have o1' := (Old.refl w1).alloc (.cells #[.int .i64 0, .int .i64 0] 26); have T1 := Lib.hid (t1.out.old o1'); have O1 := Lib.hid (o1.trans o1'); clear o1 o1' t1)
    | (go_at_call 8; (with_reducible refine (HK2.out _ O1.out).mono ?_); rintro e w2 ⟨v2, rfl, t2, o2⟩; have o2' := (Old.refl w2).alloc (.cells #[.int .i64 0, .int .i64 0] 26); have T2 := Lib.hid (t2.out.old o2'); have T1' := Lib.hid (T1.out.old (o2.trans o2')); have O2 := Lib.hid ((O1.out.trans o2).trans o2'); clear o2 o2' t2)
    | (go_at_call 8; (with_reducible refine (HK3.out _ O2.out).mono ?_); rintro e w3 ⟨v3, rfl, o3⟩; have o3' := (Old.refl w3).alloc (.cells #[.int .i64 1, .int .i64 7] 26); have P3 := Lib.hid (show Pl (w3.alloc (.cells #[.int .i64 1, .int .i64 7] 26)) w3.heap.size 1 7 from (MapKept.heap_alloc w3 _).1); have T2' := Lib.hid (T2.out.old (o3.trans o3')); have T1'' := Lib.hid (T1'.out.old (o3.trans o3')); have O3 := Lib.hid ((O2.out.trans o3).trans o3'); clear o3 o3')
    | (go_at_call 8; (with_reducible refine (HK4.out _ O3.out).mono ?_); rintro e w4 ⟨v4, rfl, o4⟩; have o4' := (Old.refl w4).alloc (.cells #[.int .i64 1, .int .i64 6] 26); obtain ⟨g, cap, h, c2, rfl, f1, f2, f3⟩ := tw_first (T1''.out.old (o4.trans o4')); obtain ⟨g2, cap2, rfl, f4⟩ := tw_second (T2'.out.old (o4.trans o4')); have P3' := P3.out.old (o4.trans o4'); have f5 := P3'.c0; have f6 := P3'.c1; have O4 := Lib.hid ((O3.out.trans o4).trans o4'); clear o4 o4' P3'))
  go_ret
  exact ⟨rfl, O4.out⟩
end Go.Proofs.YtgmjpcaennmgoaaGreatDoor
namespace Go.Proofs.YtgmjpcaennmgoaaGreatDoor
open Go.ChangeShapes Go.WideShapes Go.ChangeAt Go.RowKit Go.Lib
set_option linter.unusedVariables false
set_option linter.unusedSimpArgs false
set_option maxRecDepth 100000

theorem rsmall_any (b : Int) (w : World) : Calls Tryz.prog 30 #[.int .u8 b] w fun e w' => e = .returned (.bool (decide (97 ≤ b ∧ b ≤ 122))) ∧ w = w' := by
  by_cases h1 : 97 ≤ b
  · by_cases h2 : b ≤ 122
    · rw [decide_eq_true ⟨h1, h2⟩]
      go_enter Tryz.func30, Tryz.ntmps30
      go_wp2
      go_ret
      exact ⟨by simp [h1, h2], rfl⟩
    · rw [decide_eq_false (fun h => h2 h.2)]
      go_enter Tryz.func30, Tryz.ntmps30
      go_wp2
      go_ret
      exact ⟨by simp [h1, h2], rfl⟩
  · rw [decide_eq_false (fun h => h1 h.1)]
    go_enter Tryz.func30, Tryz.ntmps30
    go_wp2
    go_ret
    exact ⟨by simp [h1], rfl⟩
theorem rdig_any (b : Int) (w : World) : Calls Tryz.prog 31 #[.int .u8 b] w fun e w' => e = .returned (.bool (decide (48 ≤ b ∧ b ≤ 57))) ∧ w = w' := by
  by_cases h1 : 48 ≤ b
  · by_cases h2 : b ≤ 57
    · rw [decide_eq_true ⟨h1, h2⟩]
      go_enter Tryz.func31, Tryz.ntmps31
      go_wp2
      go_ret
      exact ⟨by simp [h1, h2], rfl⟩
    · rw [decide_eq_false (fun h => h2 h.2)]
      go_enter Tryz.func31, Tryz.ntmps31
      go_wp2
      go_ret
      exact ⟨by simp [h1, h2], rfl⟩
  · rw [decide_eq_false (fun h => h1 h.1)]
    go_enter Tryz.func31, Tryz.ntmps31
    go_wp2
    go_ret
    exact ⟨by simp [h1], rfl⟩
theorem rsm_any (c : UInt8) (w : World) : Calls Tryz.prog 30 #[.int .u8 (c.toNat : Int)] w fun e w' => e = .returned (.bool (sm c)) ∧ w = w' := by
  have e : sm c = decide ((97 : Int) ≤ (c.toNat : Int) ∧ (c.toNat : Int) ≤ 122) := by unfold sm; congr 1; simp only [eq_iff_iff]; omega
  rw [e]; exact rsmall_any _ w
theorem rdgc_any (c : UInt8) (w : World) : Calls Tryz.prog 31 #[.int .u8 (c.toNat : Int)] w fun e w' => e = .returned (.bool (dgc c)) ∧ w = w' := by
  have e : dgc c = decide ((48 : Int) ≤ (c.toNat : Int) ∧ (c.toNat : Int) ≤ 57) := by unfold dgc; congr 1; simp only [eq_iff_iff]; omega
  rw [e]; exact rdig_any _ w
set_option maxHeartbeats 800000 in
/-- A name runs to its end. -/
theorem run_name (s : ByteArray) (w : World) (hs : s.size ≤ 900000) (hn : isName s.data.toList = true) : Calls Tryz.prog 23 #[.string s, .int .i64 0] w fun e w' => e = .returned (.int .i64 (s.size : Int)) ∧ w = w' := by
  have hz : s.data.toList.length = s.size := Array.length_toList
  unfold isName at hn
  simp only [Bool.and_eq_true, decide_eq_true_eq] at hn
  obtain ⟨⟨⟨hn1, hn2⟩, hn3⟩, hn4⟩ := hn
  obtain ⟨c, r, hcr⟩ : ∃ c r, s.data.toList = c :: r := List.exists_cons_of_ne_nil hn1
  have hx0 : ∀ W, (Instr.index 9 (.string s) (.int .i64 0)).run Tryz.prog W = .ok (.int .u8 (c.toNat : Int)) W := fun W => idx_any s 0 c (by rw [hcr]; rfl) W
  have hsm : sm c = true := by rw [hcr] at hn3; exact hn3
  have h1 := fun W => rsm_any c W
  rw [hsm] at h1
  have hpos : 0 < s.size := by rw [← hz, hcr]; simp
  have hne : ¬ s = ByteArray.empty := by rintro rfl; exact absurd hpos (by decide)
  have HN := Lib.hid hn4
  have HZ := Lib.hid hz
  clear hn1 hn2 hn3 hn4 hcr hz hsm
  go_enter Tryz.func23, Tryz.ntmps23
  go_wp2_with (go_at_call 30; (with_reducible refine (h1 _).mono ?_); rintro e w1 ⟨rfl, rfl⟩)
  go_loopw [1] (fun i wr => ∃ k : Nat, k ≤ s.size ∧ i = .int .i64 (k : Int) ∧ wr = w) (fun i _ => (s.size - RowKit.intOf i).toNat)
  case atStart => exact ⟨0, Nat.zero_le _, rfl, rfl⟩
  case round =>
    obtain ⟨k, hk, rfl, rfl⟩ := hrel
    rcases Nat.lt_or_ge k s.size with hks | hks
    · have hl : k < s.data.toList.length := by rw [HZ.out]; exact hks
      obtain ⟨d, hd⟩ : ∃ d, d = s.data.toList[k] := ⟨_, rfl⟩
      have hx := fun W => idx_any s k d (by rw [hd]; exact List.getElem?_eq_getElem hl) W
      have hnm : nm d = true := List.all_eq_true.1 HN.out d (by rw [hd]; exact List.getElem_mem hl)
      unfold nm at hnm
      have h2 := fun W => rsm_any d W
      have h3 := fun W => rdgc_any d W
      have hki : (k : Int) < (s.size : Int) := by omega
      clear hd hl
      cases hsd : sm d with
      | true =>
        rw [hsd] at h2
        clear hnm h3
        go_wp2_with (go_at_call 30; (with_reducible refine (h2 _).mono ?_); rintro e w1 ⟨rfl, rfl⟩)
        refine ⟨⟨k + 1, by omega, by simp⟩, by simp only [RowKit.intOf]; omega⟩
      | false =>
        rw [hsd] at h2 hnm
        rw [Bool.false_or] at hnm
        rw [hnm] at h3
        go_wp2_with (first
          | (go_at_call 30; (with_reducible refine (h2 _).mono ?_); rintro e w1 ⟨rfl, rfl⟩)
          | (go_at_call 31; (with_reducible refine (h3 _).mono ?_); rintro e w1 ⟨rfl, rfl⟩))
        refine ⟨⟨k + 1, by omega, by simp⟩, by simp only [RowKit.intOf]; omega⟩
    · obtain rfl : k = s.size := by omega
      go_wp2
      go_ret
      exact ⟨rfl, rfl⟩
theorem rname_is (s : ByteArray) (w : World) (hs : s.size ≤ 900000) (hn : isName s.data.toList = true) : Calls Tryz.prog 13 #[.string s] w fun e w' => e = .returned (.bool true) ∧ w = w' := by
  have hr := run_name s w hs hn
  have hz : s.data.toList.length = s.size := Array.length_toList
  unfold isName at hn
  simp only [Bool.and_eq_true, decide_eq_true_eq] at hn
  obtain ⟨⟨⟨hn1, hn2⟩, hn3⟩, hn4⟩ := hn
  have h1 : (0 : Int) < (s.size : Int) := by
    have := List.length_pos_iff.2 hn1
    omega
  have h2 : (s.size : Int) ≤ 12 := by omega
  clear hn1 hn2 hn3 hn4 hz
  go_enter Tryz.func13, Tryz.ntmps13
  go_wp2_with (go_at_call 23; (with_reducible refine hr.mono ?_); rintro e w1 ⟨rfl, rfl⟩)
  go_ret
  exact ⟨rfl, rfl⟩
set_option maxHeartbeats 3200000 in
theorem kids_any (op : Int) (h1 : 1 ≤ op) (h2 : op ≤ 26) (w : World) : Calls Tryz.prog 12 #[.int .u8 op] w fun e w' => e = .returned (.tuple #[.int .i64 ((kidN op).1 : Nat), .int .i64 ((kidN op).2 : Nat)]) ∧ w = w' := by
  have h : op = 1 ∨ op = 2 ∨ op = 3 ∨ op = 4 ∨ op = 5 ∨ op = 6 ∨ op = 7 ∨ op = 8 ∨ op = 9 ∨ op = 10 ∨ op = 11 ∨ op = 12 ∨ op = 13 ∨ op = 14 ∨ op = 15 ∨ op = 16 ∨ op = 17 ∨ op = 18 ∨ op = 19 ∨ op = 20 ∨ op = 21 ∨ op = 22 ∨ op = 23 ∨ op = 24 ∨ op = 25 ∨ op = 26 := by omega
  clear h1 h2
  rcases h with rfl | rfl | rfl | rfl | rfl | rfl | rfl | rfl | rfl | rfl | rfl | rfl | rfl | rfl | rfl | rfl | rfl | rfl | rfl | rfl | rfl | rfl | rfl | rfl | rfl | rfl
  all_goals
    go_enter Tryz.func12, Tryz.ntmps12
    go_wp2
    go_ret2
    exact ⟨rfl, rfl⟩
end Go.Proofs.YtgmjpcaennmgoaaGreatDoor
