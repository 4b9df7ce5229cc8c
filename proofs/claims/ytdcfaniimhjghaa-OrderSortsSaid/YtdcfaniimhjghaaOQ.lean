/- Sort: the walk. -/
import Derived.Test.YtdcfaniimhjghaaOP
namespace Go.Proofs.Ytdcfaniimhjghaa
open Go.ChangeShapes Go.WideShapes Go.ChangeAt Go.RowKit Go.Lib Go.Sort Go.Shelf
set_option linter.unusedVariables false
set_option linter.unusedSimpArgs false
set_option maxRecDepth 100000
set_option maxHeartbeats 6400000

theorem info48 : (Try.prog.info? 48).map (fun i => (i.zero, i.size, i.bytes)) = some (some (.agg #[.int .i64 0, .slice none 0 0, .int .i64 0, .slice none 0 0]), 4, 64) := by kernel_rfl
/-- A row of so many elements of that size; those at its head are these. -/
def Row (w : World) (t : TypeId) (k g n : Nat) (E : List (List Value)) : Prop :=
  ∃ cur, w.heap[g]? = some (.cells cur t (0, 0)) ∧ cur.size = n * k ∧ ∀ j e, E[j]? = some e → e.length = k ∧ ∀ q u, e[q]? = some u → cur[j * k + q]? = some u
theorem Row.old {w w' : World} {t : TypeId} {k g n : Nat} {E : List (List Value)} (h : Row w t k g n E) (ho : Old w w') : Row w' t k g n E := by
  obtain ⟨cur, h1, h2⟩ := h
  exact ⟨cur, (ho.block g (blk_lt h1)).trans h1, h2⟩
theorem Row.lt {w : World} {t : TypeId} {k g n : Nat} {E : List (List Value)} (h : Row w t k g n E) : g < w.heap.size := by
  obtain ⟨cur, h1, _⟩ := h
  exact blk_lt h1
theorem Row.frozen {w : World} {t : TypeId} {k g n : Nat} {E : List (List Value)} (h : Row w t k g n E) (o : Nat) : w.frozen? ⟨g, o, none⟩ = false := by
  obtain ⟨cur, h1, _⟩ := h
  simp [World.frozen?, h1]
theorem Row.cell {w : World} {t : TypeId} {k g n : Nat} {E : List (List Value)} (h : Row w t k g n E) {j : Nat} {e : List Value} (hj : E[j]? = some e) {q : Nat} {u : Value} (hq : e[q]? = some u) : w.cell? ⟨g, j * k + q, none⟩ = some u := by
  obtain ⟨cur, h1, _, h3⟩ := h
  have := (h3 j e hj).2 q u hq
  simp [World.cell?, h1, this]
theorem Row.new {w : World} {t : TypeId} {k base g n : Nat} {cs : List Value} (h : w.ownsRow base t k (.slice (some ⟨g, 0, none⟩) n n) n cs) : Row w t k g n [] := by
  rcases h.2 with ⟨e, _⟩ | ⟨g', cap, cur, e, hb, hg, hc, hm, hsz, ht⟩
  · cases e
  · simp only [Value.slice.injEq, Option.some.injEq, Addr.mk.injEq, and_true, true_and] at e
    obtain ⟨rfl, rfl⟩ := e
    exact ⟨cur, hg, hsz, fun j e hj => by simp at hj⟩
theorem Row.has {w : World} {t : TypeId} {k g n : Nat} {E : List (List Value)} (h : Row w t k g n E) {o : Nat} (ho : o < n * k) : ∃ x, w.cell? ⟨g, o, none⟩ = some x := by
  obtain ⟨cur, h1, h2, _⟩ := h
  exact ⟨cur[o]'(by omega), by simp [World.cell?, h1, show o < cur.size by omega]⟩
theorem Row.set {w : World} {t : TypeId} {k g n : Nat} {E : List (List Value)} (h : Row w t k g n E) {i : Nat} (hi : i = E.length) (q : Nat) (u : Value) : Row (w.setCell ⟨g, i * k + q, none⟩ u) t k g n E := by
  subst hi
  obtain ⟨cur, h1, h2, h3⟩ := h
  refine ⟨cur.setIfInBounds (E.length * k + q) u, by simp [World.setCell, Array.getElem?_modify, h1], by simp [h2], fun j e hj => ⟨(h3 j e hj).1, fun p v hp => ?_⟩⟩
  have hjl := (List.getElem?_eq_some_iff.1 hj).1
  have hpl := (List.getElem?_eq_some_iff.1 hp).1
  have hlt : j * k + k ≤ E.length * k := by
    have := Nat.mul_le_mul_right k (show j + 1 ≤ E.length from hjl)
    rwa [Nat.add_mul, Nat.one_mul] at this
  have hpk := (h3 j e hj).1
  rw [Array.getElem?_setIfInBounds_ne (by omega)]
  exact (h3 j e hj).2 p v hp
theorem Row.set4 {w : World} {t : TypeId} {g n i : Nat} {E : List (List Value)} (h : Row w t 4 g n E) (hi : i = E.length) (hin : i < n) (a b c d : Value) : Row ((((w.setCell ⟨g, i * 4, none⟩ a).setCell ⟨g, i * 4 + 1, none⟩ b).setCell ⟨g, i * 4 + 2, none⟩ c).setCell ⟨g, i * 4 + 3, none⟩ d) t 4 g n (E ++ [[a, b, c, d]]) := by
  have h0 := (((h.set hi 0 a).set hi 1 b).set hi 2 c).set hi 3 d
  obtain ⟨cur0, g1, g2, _⟩ := h
  obtain ⟨cur, h1, h2, h3⟩ := h0
  rw [Nat.add_zero] at h1
  have e : cur = (((cur0.setIfInBounds (i * 4) a).setIfInBounds (i * 4 + 1) b).setIfInBounds (i * 4 + 2) c).setIfInBounds (i * 4 + 3) d := by
    have : ((((w.setCell ⟨g, i * 4, none⟩ a).setCell ⟨g, i * 4 + 1, none⟩ b).setCell ⟨g, i * 4 + 2, none⟩ c).setCell ⟨g, i * 4 + 3, none⟩ d).heap[g]? = some (.cells ((((cur0.setIfInBounds (i * 4) a).setIfInBounds (i * 4 + 1) b).setIfInBounds (i * 4 + 2) c).setIfInBounds (i * 4 + 3) d) t (0, 0)) := by simp [World.setCell, Array.getElem?_modify, g1]
    rw [h1] at this
    simpa using this
  refine ⟨cur, h1, h2, fun j x hj => ?_⟩
  by_cases hjE : j < E.length
  · rw [List.getElem?_append_left hjE] at hj
    exact h3 j x hj
  · have hjl := (List.getElem?_eq_some_iff.1 hj).1
    have : j = i := by simp at hjl; omega
    subst this
    rw [List.getElem?_append_right (by omega), hi, Nat.sub_self] at hj
    simp at hj
    subst hj
    refine ⟨rfl, fun q u hq => ?_⟩
    have hq4 : q < 4 := (List.getElem?_eq_some_iff.1 hq).1
    rw [e]
    have hcur : j * 4 + 3 < cur0.size := by rw [g2]; omega
    have : q = 0 ∨ q = 1 ∨ q = 2 ∨ q = 3 := by omega
    rcases this with rfl | rfl | rfl | rfl <;> simp at hq <;> subst hq <;> simp [Array.getElem?_setIfInBounds] <;> omega
theorem Row.put3 {w : World} {t : TypeId} {g n i : Nat} {E : List (List Value)} (h : Row w t 3 g n E) (hi : i = E.length) (hin : i < n) (a b c : Value) : Row (((w.setCell ⟨g, i * 3, none⟩ a).setCell ⟨g, i * 3 + 1, none⟩ b).setCell ⟨g, i * 3 + 2, none⟩ c) t 3 g n (E ++ [[a, b, c]]) := by
  have h0 := ((h.set hi 0 a).set hi 1 b).set hi 2 c
  obtain ⟨cur0, g1, g2, _⟩ := h
  obtain ⟨cur, h1, h2, h3⟩ := h0
  rw [Nat.add_zero] at h1
  have e : cur = ((cur0.setIfInBounds (i * 3) a).setIfInBounds (i * 3 + 1) b).setIfInBounds (i * 3 + 2) c := by
    have : (((w.setCell ⟨g, i * 3, none⟩ a).setCell ⟨g, i * 3 + 1, none⟩ b).setCell ⟨g, i * 3 + 2, none⟩ c).heap[g]? = some (.cells (((cur0.setIfInBounds (i * 3) a).setIfInBounds (i * 3 + 1) b).setIfInBounds (i * 3 + 2) c) t (0, 0)) := by simp [World.setCell, Array.getElem?_modify, g1]
    rw [h1] at this
    simpa using this
  refine ⟨cur, h1, h2, fun j x hj => ?_⟩
  by_cases hjE : j < E.length
  · rw [List.getElem?_append_left hjE] at hj
    exact h3 j x hj
  · have hjl := (List.getElem?_eq_some_iff.1 hj).1
    have : j = i := by simp at hjl; omega
    subst this
    rw [List.getElem?_append_right (by omega), hi, Nat.sub_self] at hj
    simp at hj
    subst hj
    refine ⟨rfl, fun q u hq => ?_⟩
    have hq3 : q < 3 := (List.getElem?_eq_some_iff.1 hq).1
    rw [e]
    have hcur : j * 3 + 2 < cur0.size := by rw [g2]; omega
    have : q = 0 ∨ q = 1 ∨ q = 2 := by omega
    rcases this with rfl | rfl | rfl <;> simp at hq <;> subst hq <;> simp [Array.getElem?_setIfInBounds] <;> omega
theorem Row.reset {w : World} {t : TypeId} {g n i : Nat} {E : List (List Value)} {a b c : Value} (h : Row w t 3 g n (E ++ [[a, b, c]])) (hi : i = E.length) (hin : i < n) (b' : Value) : Row (w.setCell ⟨g, i * 3 + 1, none⟩ b') t 3 g n (E ++ [[a, b', c]]) := by
  obtain ⟨cur, h1, h2, h3⟩ := h
  refine ⟨cur.setIfInBounds (i * 3 + 1) b', by simp [World.setCell, Array.getElem?_modify, h1], by simp [h2], fun j x hj => ?_⟩
  by_cases hjE : j < E.length
  · have hj2 : (E ++ [[a, b, c]])[j]? = some x := by
      rw [List.getElem?_append_left hjE] at hj ⊢
      exact hj
    obtain ⟨h4, h5⟩ := h3 j x hj2
    refine ⟨h4, fun q u hq => ?_⟩
    have := (List.getElem?_eq_some_iff.1 hq).1
    rw [Array.getElem?_setIfInBounds_ne (by omega)]
    exact h5 q u hq
  · have hjl := (List.getElem?_eq_some_iff.1 hj).1
    have : j = i := by simp at hjl; omega
    subst this
    have hj2 : (E ++ [[a, b, c]])[j]? = some [a, b, c] := by rw [List.getElem?_append_right (by omega), hi, Nat.sub_self]; rfl
    obtain ⟨h4, h5⟩ := h3 j _ hj2
    rw [List.getElem?_append_right (by omega), hi, Nat.sub_self] at hj
    simp at hj
    subst hj
    refine ⟨rfl, fun q u hq => ?_⟩
    have hq3 : q < 3 := (List.getElem?_eq_some_iff.1 hq).1
    have : q = 0 ∨ q = 1 ∨ q = 2 := by omega
    rcases this with rfl | rfl | rfl
    · rw [Array.getElem?_setIfInBounds_ne (by omega)]
      exact h5 0 u hq
    · simp at hq
      subst hq
      rw [Array.getElem?_setIfInBounds_self_of_lt (by rw [h2]; omega)]
    · rw [Array.getElem?_setIfInBounds_ne (by omega)]
      exact h5 2 u hq
theorem LSb.low {w : World} {base base' : Nat} {v : Value} {s : Int} (h : LSb w base v s) (hb : base' ≤ base) : LSb w base' v s := by
  obtain ⟨g, sb, cap, rfl, b1, b2, h⟩ := h
  exact ⟨g, sb, cap, rfl, Nat.le_trans hb b1, Nat.le_trans hb b2, h⟩

theorem own_set4 {w : World} {base n size : Nat} {e : TypeId} {v : Value} {cs : List Value} (h : w.ownsRow base e size v n cs) {g : Nat} (hg : g < base) (o1 o2 o3 o4 : Nat) (a b c d : Value) : ((((w.setCell ⟨g, o1, none⟩ a).setCell ⟨g, o2, none⟩ b).setCell ⟨g, o3, none⟩ c).setCell ⟨g, o4, none⟩ d).ownsRow base e size v n cs :=
  own_set (own_set (own_set (own_set h hg a) hg b) hg c) hg d
theorem old_set4 {w W : World} (h : Old w W) {g : Nat} (hg : w.heap.size ≤ g) (o1 o2 o3 o4 : Nat) (a b c d : Value) : Old w ((((W.setCell ⟨g, o1, none⟩ a).setCell ⟨g, o2, none⟩ b).setCell ⟨g, o3, none⟩ c).setCell ⟨g, o4, none⟩ d) :=
  (((h.setCell (p := ⟨g, o1, none⟩) hg a).setCell (p := ⟨g, o2, none⟩) hg b).setCell (p := ⟨g, o3, none⟩) hg c).setCell (p := ⟨g, o4, none⟩) hg d
/-- One row more is filled. -/
theorem rank_step {w wr w3 : World} {s : Int} {g n i : Nat} {R : List Rw} {P : List Aw} {p : Aw} {u : Value} (hp : P[i]? = some p) (hin : i < n) (h1 : i = R.length) (h2 : R.map (·.1) = P.take i) (h3 : Row wr 48 4 g n (R.map encR)) (h4 : ∀ r ∈ R, Ints wr (g + 1) r.2 (vec s r.1.1.tup)) (h5 : Old w wr) (ho : Old wr w3) (hg : w.heap.size ≤ g) {b : Nat} (hb : g + 1 ≤ b) (hi : Ints w3 b u (vec s p.1.tup)) :
    i + 1 = (R ++ [(p, u)]).length ∧ (R ++ [(p, u)]).map (·.1) = P.take (i + 1) ∧ Row ((((w3.setCell ⟨g, i * 4, none⟩ (.int .i64 p.1.rule)).setCell ⟨g, i * 4 + 1, none⟩ p.2).setCell ⟨g, i * 4 + 2, none⟩ (.int .i64 p.1.sal)).setCell ⟨g, i * 4 + 3, none⟩ u) 48 4 g n ((R ++ [(p, u)]).map encR) ∧ (∀ r ∈ R ++ [(p, u)], Ints ((((w3.setCell ⟨g, i * 4, none⟩ (.int .i64 p.1.rule)).setCell ⟨g, i * 4 + 1, none⟩ p.2).setCell ⟨g, i * 4 + 2, none⟩ (.int .i64 p.1.sal)).setCell ⟨g, i * 4 + 3, none⟩ u) (g + 1) r.2 (vec s r.1.1.tup)) ∧ Old w ((((w3.setCell ⟨g, i * 4, none⟩ (.int .i64 p.1.rule)).setCell ⟨g, i * 4 + 1, none⟩ p.2).setCell ⟨g, i * 4 + 2, none⟩ (.int .i64 p.1.sal)).setCell ⟨g, i * 4 + 3, none⟩ u) := by
  refine ⟨by simp [h1], ?_, ?_, ?_, old_set4 (h5.trans ho) hg _ _ _ _ _ _ _ _⟩
  · rw [List.map_append, h2, List.take_add_one, hp]
    rfl
  · rw [List.map_append]
    exact (h3.old ho).set4 (by rw [List.length_map]; exact h1) hin _ _ _ _
  · intro r hr
    rcases List.mem_append.1 hr with hr | hr
    · exact own_set4 (own_old (h4 r hr) ho) (Nat.lt_succ_self g) _ _ _ _ _ _ _ _
    · rw [List.mem_singleton] at hr
      subst hr
      exact own_set4 (own_low hi hb) (Nat.lt_succ_self g) _ _ _ _ _ _ _ _
def encA (p : Aw) : List Value := [.int .i64 p.1.rule, p.2, .int .i64 p.1.sal]
theorem own_set3 {w : World} {base n size : Nat} {e : TypeId} {v : Value} {cs : List Value} (h : w.ownsRow base e size v n cs) {g : Nat} (hg : g < base) (o1 o2 o3 : Nat) (a b c : Value) : (((w.setCell ⟨g, o1, none⟩ a).setCell ⟨g, o2, none⟩ b).setCell ⟨g, o3, none⟩ c).ownsRow base e size v n cs :=
  own_set (own_set (own_set h hg a) hg b) hg c
theorem old_set3 {w W : World} (h : Old w W) {g : Nat} (hg : w.heap.size ≤ g) (o1 o2 o3 : Nat) (a b c : Value) : Old w (((W.setCell ⟨g, o1, none⟩ a).setCell ⟨g, o2, none⟩ b).setCell ⟨g, o3, none⟩ c) :=
  ((h.setCell (p := ⟨g, o1, none⟩) hg a).setCell (p := ⟨g, o2, none⟩) hg b).setCell (p := ⟨g, o3, none⟩) hg c
theorem cell_set3 {W : World} {g k : Nat} (h : k ≠ g) (o o1 o2 o3 : Nat) (a b c : Value) : (((W.setCell ⟨g, o1, none⟩ a).setCell ⟨g, o2, none⟩ b).setCell ⟨g, o3, none⟩ c).cell? ⟨k, o, none⟩ = W.cell? ⟨k, o, none⟩ := by
  have hg : g ≠ k := fun e => h e.symm
  simp [World.setCell, World.cell?, Array.getElem?_modify, hg]
/-- What was sorted: in memory of its own. -/
def SO (w w' : World) (v : Value) (s : Int) (P : List Aw) : Prop := ∃ (g : Nat) (Q : List Aw), v = .slice (some ⟨g, 0, none⟩) P.length P.length ∧ w.heap.size ≤ g ∧ Q.map (·.1) = ord s (P.map (·.1)) ∧ Row w' 25 3 g P.length (Q.map encA) ∧ (∀ p ∈ Q, Ints w' (g + 1) p.2 p.1.tup) ∧ Old w w'
theorem sort_any (s : Int) {w : World} {v : Value} {P : List Aw} (h : AR w v P) (hn : P.length ≤ 1000000) (ht : ∀ p ∈ P, p.1.tup.length ≤ 1000000) :
    Calls Try.prog 16 #[.int .u8 s, v] w fun e w' => ∃ v', e = .returned v' ∧ SO w w' v' s P := by
  obtain ⟨oa, ca, rfl, _, _, ea⟩ := h.shape
  have HE := Lib.hid ea
  have HT := Lib.hid h.2
  have HTL := Lib.hid ht
  obtain ⟨n, hnn⟩ : ∃ n, n = P.length := ⟨_, rfl⟩
  rw [← hnn] at hn ⊢
  have HN := Lib.hid hnn
  obtain ⟨i4, hi4, hz4, hs4, hb4⟩ := info_parts info48
  obtain ⟨i3, hi3, hz3, hs3, hb3⟩ := info_parts info25
  have L1 := Lib.hid (show i4.bytes * n ≤ 281474976710656 by rw [hb4]; omega)
  have L2 := Lib.hid (show i3.bytes * n ≤ 281474976710656 by rw [hb3]; omega)
  have L3 := Lib.hid (show n ≤ maxLen by unfold maxLen; omega)
  clear ea h hnn ht
  go_enter Try.func16, Try.ntmps16
  go_upto_region 2 with (at_make; refine wpList_make_full _ rfl _ _ 51 rfl w.heap.size 48 i4 _ 4 Try.underlying51 hi4 hz4 hs4 .i64 .i64 _ _ n rfl rfl rfl rfl L1.out L3.out (Nat.le_refl _) ?_; intro w1 hown hgrow; have R1 := Lib.hid (Row.new hown); have O1 := Lib.hid ((Old.refl w).grown hgrow (fun k hk => by cases hk)); clear hown hgrow)
  obtain ⟨g, hg⟩ : ∃ g, g = w.heap.size := ⟨_, rfl⟩
  rw [← hg] at R1 ⊢
  have HG := Lib.hid hg
  clear hg
  go_wp2
  go_loopg [17] n (fun kx s17 wr => ∃ (i : Nat) (R : List Rw), s17 = .int .i64 (i : Int) ∧ i ≤ n ∧ n - i ≤ kx ∧ Hid (i = R.length ∧ R.map (·.1) = P.take i ∧ Row wr 48 4 g n (R.map encR) ∧ (∀ r ∈ R, Ints wr (g + 1) r.2 (vec s r.1.1.tup)) ∧ Old w wr))
  case atStart => exact ⟨0, [], rfl, Nat.zero_le _, Nat.le_refl _, Lib.hid ⟨rfl, by simp, R1.out, (fun r hr => by cases hr), O1.out⟩⟩
  case round =>
    clear R1 O1
    obtain ⟨i, R, rfl, hi, hix, HS⟩ := hrel
    by_cases hlt : i < n
    · have hlti : (i : Int) < (n : Int) := by omega
      obtain ⟨p, hp⟩ : ∃ p, P[i]? = some p := ⟨P[i]'(by rw [← HN.out]; exact hlt), List.getElem?_eq_getElem _⟩
      obtain ⟨gl, ol, rfl, hgl, k0, k1, k2⟩ := HE.out i p hp
      have c0 := (HS.out.2.2.2.2.cell (p := ⟨gl, ol + i * 3, none⟩) hgl).trans k0
      have c1 := (HS.out.2.2.2.2.cell (p := ⟨gl, ol + i * 3 + 1, none⟩) hgl).trans k1
      have c2 := (HS.out.2.2.2.2.cell (p := ⟨gl, ol + i * 3 + 2, none⟩) hgl).trans k2
      have h0i : (0 : Int) ≤ (i : Int) := by omega
      have hpm := List.mem_of_getElem? hp
      have HP := Lib.hid hp
      have hir := HT.out p hpm
      have hil := HTL.out p hpm
      obtain ⟨⟨pr, pt, ps⟩, pv⟩ := p
      simp only at c0 c1 c2 hir hil
      have hc : ∀ W, Old w W → Calls Try.prog 27 #[.int .u8 s, av (⟨pr, pt, ps⟩, pv)] W fun e w' => ∃ u, e = .returned (rv ((⟨pr, pt, ps⟩, pv), u)) ∧ Ints w' W.heap.size u (vec s pt) ∧ Old W w' := fun W ho => rank_any s (⟨pr, pt, ps⟩, pv) (hir.old ho) hil
      have HC := Lib.hid hc
      obtain ⟨ot, ct, et⟩ := hir.slice
      subst et
      unfold av rv at HC
      simp only at HC
      obtain ⟨m, hm⟩ : ∃ m, m = pt.length := ⟨_, rfl⟩
      rw [← hm] at HC c1 HP
      have W2 := Lib.hid ((Old.refl wr).alloc (.cells #[.int .i64 pr, .slice ot m ct, .int .i64 ps] 25))
      have hw2 := Lib.hid (HS.out.2.2.2.2.trans W2.out)
      clear hp hpm hir hil hc k0 k1 k2 hm
      go_wp2_with (first | (go_at_call 27; (with_reducible refine (HC.out _ hw2.out).mono ?_); rintro e w3 ⟨u, rfl, hi, ho⟩; obtain ⟨ou, cu, rfl⟩ := hi.shape; have HI := Lib.hid hi; have HO := Lib.hid (W2.out.trans ho); have f0 := (HS.out.2.2.1.old HO.out).frozen (i * 4); have f1 := (HS.out.2.2.1.old HO.out).frozen (i * 4 + 1); have f2 := (HS.out.2.2.1.old HO.out).frozen (i * 4 + 2); have f3 := (HS.out.2.2.1.old HO.out).frozen (i * 4 + 3); obtain ⟨x0, y0⟩ := (HS.out.2.2.1.old HO.out).has (o := i * 4) (by omega); obtain ⟨x1, y1⟩ := (HS.out.2.2.1.old HO.out).has (o := i * 4 + 1) (by omega); obtain ⟨x2, y2⟩ := (HS.out.2.2.1.old HO.out).has (o := i * 4 + 2) (by omega); obtain ⟨x3, y3⟩ := (HS.out.2.2.1.old HO.out).has (o := i * 4 + 3) (by omega); clear hi ho))
      go_roundg (n - (i + 1))
      case measure => omega
      case rel =>
        exact ⟨i + 1, _, by go_num, hlt, Nat.le_refl _, Lib.hid (rank_step (p := (⟨pr, pt, ps⟩, .slice ot m ct)) HP.out hlt HS.out.1 HS.out.2.1 HS.out.2.2.1 HS.out.2.2.2.1 HS.out.2.2.2.2 HO.out (Nat.le_of_eq HG.out.symm) (by have := HS.out.2.2.1.lt; simp; omega) HI.out)⟩
    · have hlti : ¬ (i : Int) < (n : Int) := by omega
      obtain rfl : i = n := by omega
      have hRl : i = R.length := HS.out.1
      have hRP : R.map (·.1) = P := by
        have := HS.out.2.1
        rw [HN.out, List.take_length] at this
        exact this
      have HRP := Lib.hid hRP
      have CN := Lib.hid (fun W => comparisons_new s W)
      have key : ∀ (w4 w5 : World) (lv : Value), Old wr w4 → LSb w4 wr.heap.size lv s → w5 = w4.alloc (.cells #[lv] 45) → Calls Try.prog 29 #[.slice (some ⟨g, 0, none⟩) i i, .func (.func 30) #[] #[.pointer (some ⟨w4.heap.size, 0, none⟩)]] w5 fun e w' => e = .returned (.tuple #[]) ∧ ∃ R' : List Rw, Chg (· = g) w5 w' ∧ R'.Perm R ∧ R'.map (·.1.1) = ord s (R.map (·.1.1)) ∧ (∀ j r, R'[j]? = some r → ∀ q u, (encR r)[q]? = some u → w'.cell? ⟨g, j * 4 + q, none⟩ = some u) := fun w4 w5 lv ho hls e => by
        subst e
        have hg := HS.out.2.2.1.lt
        have o5 : Old wr (w4.alloc (.cells #[lv] 45)) := ho.alloc _
        have := sortR_any (w := w) (w0 := w4.alloc (.cells #[lv] 45)) (s := s) (blk := g) (cap := i) (lb := w4.heap.size) (lv := lv) (R := R) (HS.out.2.2.2.2.trans o5) (Nat.le_of_eq HG.out.symm) (Nat.lt_of_lt_of_le hg o5.size) (by simp) (Nat.lt_of_lt_of_le hg ho.size) (by simp) ((hls.low hg).chg (Chg.ofOld (S := fun _ => False) ((Old.refl w4).alloc _)) (fun _ _ h => h)) (fun r hr => ⟨HT.out _ (by rw [← HRP.out]; exact List.mem_map.2 ⟨r, hr, rfl⟩), own_old (HS.out.2.2.2.1 r hr) o5⟩) (fun j r hj q u hq => (HS.out.2.2.1.old o5).cell (by rw [List.getElem?_map, hj]; rfl) hq) (fun o => (HS.out.2.2.1.old o5).frozen o) (by omega)
        rw [← hRl] at this
        exact this
      have KEY := Lib.hid key
      have HRL := Lib.hid hRl
      clear key hRP hRl
      go_upto_region 10 with (first
        | (go_at_call 26; (with_reducible refine (CN.out _).mono ?_); rintro e w4 ⟨lv, rfl, hl, ho⟩; have K1 := KEY.out w4 _ lv ho hl rfl; obtain ⟨gv, sv, cv, rfl, _⟩ := hl; have HO4 := Lib.hid ho; clear ho)
        | (go_at_call 29; (with_reducible refine K1.mono ?_); rintro e w6 ⟨rfl, R', h1, h2, h3, h4⟩; have HC6 := Lib.hid h1; have HP6 := Lib.hid h2; have HM6 := Lib.hid h3; have HR6 := Lib.hid h4; clear h1 h2 h3 h4)
        | (at_make; refine wpList_make_full _ rfl _ _ 22 rfl w6.heap.size 25 i3 _ 3 Try.underlying22 hi3 hz3 hs3 .i64 .i64 _ _ i rfl rfl rfl rfl L2.out L3.out (Nat.le_refl _) ?_; intro w7 hown hgrow; have R7 := Lib.hid (Row.new hown); have O7 := Lib.hid ((Old.refl w6).grown hgrow (fun k hk => by cases hk)); clear hown hgrow))
      obtain ⟨g2, hg2⟩ : ∃ g2, g2 = w6.heap.size := ⟨_, rfl⟩
      rw [← hg2] at R7 ⊢
      have HG2 := Lib.hid hg2
      have hw6 : Old w w6 := HC6.out.old ((HS.out.2.2.2.2.trans HO4.out).alloc (.cells #[.slice (some ⟨gv, 0, none⟩) 4 cv] 45)) (fun k hk => by rw [hk]; exact Nat.le_of_eq HG.out.symm)
      have HW6 := Lib.hid hw6
      have HG6 := Lib.hid (show g < w6.heap.size by have h1 := HC6.out.size; have h2 := HO4.out.size; have h3 := HS.out.2.2.1.lt; simp at h1; omega)
      have HRL2 := Lib.hid (show i = R'.length by rw [HRL.out]; exact HP6.out.length_eq.symm)
      have hord : R'.map (·.1.1) = ord s (P.map (·.1)) := by
        rw [HM6.out, ← HRP.out, List.map_map]
        rfl
      have HORD := Lib.hid hord
      have HIR := Lib.hid (fun r (hr : r ∈ R') => HT.out r.1 (by rw [← HRP.out]; exact List.mem_map.2 ⟨r, HP6.out.mem_iff.1 hr, rfl⟩))
      have HIL := Lib.hid (fun r (hr : r ∈ R') => HTL.out r.1 (by rw [← HRP.out]; exact List.mem_map.2 ⟨r, HP6.out.mem_iff.1 hr, rfl⟩))
      have HVS := Lib.hid (fun r (hr : r ∈ R') => (HS.out.2.2.2.1 r (HP6.out.mem_iff.1 hr)).ir.slice)
      clear hg2 hw6 hord HS HRP HM6 KEY K1 CN HC6 HO4 HP6
      go_wp2
      go_loopg [39] i (fun kx s39 wr => ∃ (j : Nat) (Q : List Aw), s39 = .int .i64 (j : Int) ∧ j ≤ i ∧ i - j ≤ kx ∧ Hid (j = Q.length ∧ Q.map (·.1) = (ord s (P.map (·.1))).take j ∧ Row wr 25 3 g2 i (Q.map encA) ∧ (∀ p ∈ Q, Ints wr (g2 + 1) p.2 p.1.tup) ∧ Old w6 wr))
      case atStart => exact ⟨0, [], rfl, Nat.zero_le _, Nat.le_refl _, Lib.hid ⟨rfl, by simp, R7.out, (fun p hp => by cases hp), O7.out⟩⟩
      case round =>
        clear R7 O7
        obtain ⟨j, Q, rfl, hj, hjx, HQ⟩ := hrel
        by_cases hlt2 : j < i
        · have hlti2 : (j : Int) < (i : Int) := by omega
          obtain ⟨r, hr⟩ : ∃ r, R'[j]? = some r := ⟨R'[j]'(by rw [← HRL2.out]; exact hlt2), List.getElem?_eq_getElem _⟩
          have hrm := List.mem_of_getElem? hr
          have hir := HIR.out r hrm
          have hil := HIL.out r hrm
          obtain ⟨ou, cu, eu⟩ := HVS.out r hrm
          obtain ⟨⟨⟨rr, rt, rs⟩, rtv⟩, ru⟩ := r
          simp only at hir hil eu
          subst eu
          have HR := Lib.hid hr
          have e0 := (HQ.out.2.2.2.2.cell (p := ⟨g, j * 4 + 0, none⟩) HG6.out).trans (HR6.out j _ hr 0 _ rfl)
          have e1 := (HQ.out.2.2.2.2.cell (p := ⟨g, j * 4 + 1, none⟩) HG6.out).trans (HR6.out j _ hr 1 _ rfl)
          have e2 := (HQ.out.2.2.2.2.cell (p := ⟨g, j * 4 + 2, none⟩) HG6.out).trans (HR6.out j _ hr 2 _ rfl)
          have e3 := (HQ.out.2.2.2.2.cell (p := ⟨g, j * 4 + 3, none⟩) HG6.out).trans (HR6.out j _ hr 3 _ rfl)
          rw [Nat.add_zero] at e0
          have hc : ∀ W, Old w W → Calls Try.prog 21 #[rtv] W fun e w' => ∃ v', e = .returned v' ∧ Ints w' W.heap.size v' rt ∧ Old W w' := fun W ho => list_any (hir.old ho) hil
          have HC := Lib.hid hc
          obtain ⟨ot, ct, et⟩ := hir.slice
          subst et
          obtain ⟨m, hm⟩ : ∃ m, m = rt.length := ⟨_, rfl⟩
          obtain ⟨mu, hmu⟩ : ∃ m, m = (vec s rt).length := ⟨_, rfl⟩
          rw [← hm, ← hmu] at HR
          rw [← hm] at e1 HC
          rw [← hmu] at e3
          have h0j : (0 : Int) ≤ (j : Int) := by omega
          have W2 := Lib.hid ((Old.refl wr).alloc (.cells #[.int .i64 rr, .slice ot m ct, .int .i64 rs, .slice ou mu cu] 48))
          have f0 := (HQ.out.2.2.1.old W2.out).frozen (j * 3)
          have f1 := (HQ.out.2.2.1.old W2.out).frozen (j * 3 + 1)
          have f2 := (HQ.out.2.2.1.old W2.out).frozen (j * 3 + 2)
          obtain ⟨x0, y0⟩ := (HQ.out.2.2.1.old W2.out).has (o := j * 3) (by omega)
          obtain ⟨x1, y1⟩ := (HQ.out.2.2.1.old W2.out).has (o := j * 3 + 1) (by omega)
          obtain ⟨x2, y2⟩ := (HQ.out.2.2.1.old W2.out).has (o := j * 3 + 2) (by omega)
          clear hr hrm hir hil hc hm hmu
          go_upto_region 14 with fail
          have HE8 := Lib.hid (((HQ.out.2.2.1.old W2.out).put3 (i := j) (by rw [List.length_map]; exact HQ.out.1) hlt2 (.int .i64 rr) (.slice ot m ct) (.int .i64 rs)))
          have HO8 := Lib.hid (old_set3 (HQ.out.2.2.2.2.trans W2.out) (Nat.le_of_eq HG2.out.symm) (j * 3) (j * 3 + 1) (j * 3 + 2) (.int .i64 rr) (.slice ot m ct) (.int .i64 rs))
          have HI8 := Lib.hid (fun p (hp : p ∈ Q) => own_set3 (own_old (HQ.out.2.2.2.1 p hp) W2.out) (Nat.lt_succ_self g2) (j * 3) (j * 3 + 1) (j * 3 + 2) (.int .i64 rr) (.slice ot m ct) (.int .i64 rs))
          have hbk := (Bk.new wr ((⟨rr, rt, rs⟩, .slice ot m ct), .slice ou mu cu)).cells.2.1
          have hne : wr.heap.size ≠ g2 := by have := HQ.out.2.2.1.lt; omega
          have b1 := (cell_set3 (W := wr.alloc (.cells #[.int .i64 rr, .slice ot m ct, .int .i64 rs, .slice ou mu cu] 48)) hne 1 (j * 3) (j * 3 + 1) (j * 3 + 2) (.int .i64 rr) (.slice ot m ct) (.int .i64 rs)).trans hbk
          have hs8 : g2 + 1 ≤ ((((wr.alloc (.cells #[.int .i64 rr, .slice ot m ct, .int .i64 rs, .slice ou mu cu] 48)).setCell ⟨g2, j * 3, none⟩ (.int .i64 rr)).setCell ⟨g2, j * 3 + 1, none⟩ (.slice ot m ct)).setCell ⟨g2, j * 3 + 2, none⟩ (.int .i64 rs)).heap.size := by have := HQ.out.2.2.1.lt; simp [World.setCell]; omega
          clear hbk hne e0 e1 e2 e3 f0 f1 f2 x0 x1 x2 y0 y1 y2
          generalize hW8 : (((wr.alloc (.cells #[.int .i64 rr, .slice ot m ct, .int .i64 rs, .slice ou mu cu] 48)).setCell ⟨g2, j * 3, none⟩ (.int .i64 rr)).setCell ⟨g2, j * 3 + 1, none⟩ (.slice ot m ct)).setCell ⟨g2, j * 3 + 2, none⟩ (.int .i64 rs) = W8 at HE8 HO8 HI8 b1 hs8 ⊢
          clear hW8
          go_wp2_with (first | (go_at_call 21; (with_reducible refine (HC.out _ (HW6.out.trans HO8.out)).mono ?_); rintro e w9 ⟨v9, rfl, hi, ho⟩; obtain ⟨o9, c9, rfl⟩ := hi.shape; have HI9 := Lib.hid hi; have HO9 := Lib.hid ho; have f9 := (HE8.out.old ho).frozen (j * 3 + 1); obtain ⟨x9, y9⟩ := (HE8.out.old ho).has (o := j * 3 + 1) (by omega); clear hi ho))
          go_roundg (i - (j + 1))
          case measure => omega
          case rel =>
            refine ⟨j + 1, Q ++ [(⟨rr, rt, rs⟩, .slice o9 rt.length c9)], by go_num, hlt2, Nat.le_refl _, Lib.hid ⟨by simp [HQ.out.1], ?_, ?_, ?_, (HO8.out.trans HO9.out).setCell (p := ⟨g2, j * 3 + 1, none⟩) (Nat.le_of_eq HG2.out.symm) _⟩⟩
            · rw [List.map_append, HQ.out.2.1, List.take_add_one, ← HORD.out, List.getElem?_map, HR.out]
              rfl
            · rw [List.map_append]
              exact (HE8.out.old HO9.out).reset (by rw [List.length_map]; exact HQ.out.1) hlt2 _
            · intro p hp
              rcases List.mem_append.1 hp with hp | hp
              · exact own_set (own_old (HI8.out p hp) HO9.out) (Nat.lt_succ_self g2) _
              · rw [List.mem_singleton] at hp
                subst hp
                exact own_set (own_low HI9.out hs8) (Nat.lt_succ_self g2) _
        · have hlti2 : ¬ (j : Int) < (i : Int) := by omega
          obtain rfl : j = i := by omega
          go_wp2_with fail
          go_ret
          refine ⟨_, rfl, g2, Q, by rw [← HN.out]; rfl, by have := HW6.out.size; have := HG2.out; omega, ?_, by rw [← HN.out]; exact HQ.out.2.2.1, HQ.out.2.2.2.1, HW6.out.trans HQ.out.2.2.2.2⟩
          rw [HQ.out.2.1]
          exact List.take_of_length_le (by rw [ord_len, List.length_map, ← HN.out]; exact Nat.le_refl _)
end Go.Proofs.Ytdcfaniimhjghaa
