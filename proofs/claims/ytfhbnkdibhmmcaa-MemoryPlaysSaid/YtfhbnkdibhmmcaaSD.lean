/- Layer memory: the document's memory: Find, Get. -/
import Derived.Test.YtfhbnkdibhmmcaaSC
namespace Go.Proofs.Ytfhbnkdibhmmcaa
open Go.ChangeShapes Go.WideShapes Go.ChangeAt Go.RowKit Go.Lib
set_option linter.unusedVariables false
set_option linter.unusedSimpArgs false
set_option maxRecDepth 100000

/-- Of a slice of some values: it lies in none of these blocks. -/
def VS (S : Nat → Prop) (v : Value) : Prop := ∀ g o n c, v = .slice (some ⟨g, o, none⟩) n c → n ≠ 0 → ¬ S g
theorem VS.far {S : Nat → Prop} {B : Nat} {v : Value} (h : ∀ j, v.ownBlock = some j → B ≤ j) (hk : ∀ b, S b → b < B) : VS S v := by
  rintro g o n c rfl hn hs
  have h1 : B ≤ g := h _ rfl
  have := hk g hs
  omega
theorem VS.new {w : World} {k : Nat} {v : Value} {l : List Vl} (h : VR w v l) (hk : w.heap.size ≤ k) : VS (· = k) v := fun g o n c e hn => VX.new h hk g o n c e hn
theorem VR.chgS {S : Nat → Prop} {w w' : World} {v : Value} {l : List Vl} (h : VR w v l) (hc : Chg S w w') (hx : VS S v) : VR w' v l := by
  obtain ⟨oa, cap, rfl, h1, h2, h3⟩ := h
  refine ⟨oa, cap, rfl, h1, h2, fun j x hj => ?_⟩
  obtain ⟨g, o, rfl, hg, c0, c1, c2, hs'⟩ := h3 j x hj
  have hne : ¬ S g := hx g o _ _ rfl (fun e => by
    have := List.eq_nil_of_length_eq_zero e
    subst this
    simp at hj)
  have hb := hc.block g hg hne
  exact ⟨g, o, rfl, Nat.lt_of_lt_of_le hg hc.size, (World.cell?_of_block (w := w) hb).trans c0, (World.cell?_of_block (w := w) hb).trans c1, (World.cell?_of_block (w := w) hb).trans c2, hs'⟩
/-- The slice r reads as these facts; neither it nor their rows lie in these blocks. -/
def RX (S : Nat → Prop) (w : World) (r : Value) (L : List Ft) : Prop :=
  ∃ oa cap, r = .slice oa L.length cap ∧ L.length ≤ cap ∧ cap ≤ maxLen ∧ ∀ j x, L[j]? = some x → ∃ g o u, oa = some ⟨g, o, none⟩ ∧ g < w.heap.size ∧ ¬ S g ∧ w.cell? ⟨g, o + j * 3, none⟩ = some (.int .i64 x.id) ∧ w.cell? ⟨g, o + j * 3 + 1, none⟩ = some (.int .i64 x.t) ∧ w.cell? ⟨g, o + j * 3 + 2, none⟩ = some u ∧ VR w u x.l ∧ VS S u
theorem RX.chg {S T : Nat → Prop} {w w' : World} {r : Value} {L : List Ft} (h : RX S w r L) (hc : Chg T w w') (hs : ∀ b, T b → S b) : RX S w' r L := by
  obtain ⟨oa, cap, rfl, h1, h2, h3⟩ := h
  refine ⟨oa, cap, rfl, h1, h2, fun j x hj => ?_⟩
  obtain ⟨g, o, u, rfl, hg, hk, c0, c1, c2, hv, hx⟩ := h3 j x hj
  have hb := hc.block g hg (fun e => hk (hs g e))
  exact ⟨g, o, u, rfl, Nat.lt_of_lt_of_le hg hc.size, hk, (World.cell?_of_block (w := w) hb).trans c0, (World.cell?_of_block (w := w) hb).trans c1, (World.cell?_of_block (w := w) hb).trans c2, hv.chgS (hc.mono hs) hx, hx⟩
theorem RX.old {S : Nat → Prop} {w w' : World} {r : Value} {L : List Ft} (h : RX S w r L) (ho : Old w w') : RX S w' r L := h.chg (T := fun _ => False) (Chg.ofOld ho) (fun b e => e.elim)
theorem RX.less {S T : Nat → Prop} {w : World} {r : Value} {L : List Ft} (h : RX S w r L) (hs : ∀ b, T b → S b) : RX T w r L := by
  obtain ⟨oa, cap, rfl, h1, h2, h3⟩ := h
  refine ⟨oa, cap, rfl, h1, h2, fun j x hj => ?_⟩
  obtain ⟨g, o, u, rfl, hg, hk, c0, c1, c2, hv, hx⟩ := h3 j x hj
  exact ⟨g, o, u, rfl, hg, fun e => hk (hs g e), c0, c1, c2, hv, fun a b c d e1 e2 e3 => hx a b c d e1 e2 (hs a e3)⟩
theorem RX.rf {S : Nat → Prop} {w : World} {r : Value} {L : List Ft} (h : RX S w r L) : RF w r L := by
  obtain ⟨oa, cap, rfl, h1, h2, h3⟩ := h
  refine ⟨oa, cap, rfl, h1, h2, fun j x hj => ?_⟩
  obtain ⟨g, o, u, rfl, hg, hk, c0, c1, c2, hv, hx⟩ := h3 j x hj
  exact ⟨g, o, u, rfl, hg, c0, c1, c2, hv⟩
theorem RX.more {S T : Nat → Prop} {w : World} {r : Value} {L : List Ft} (h : RX S w r L) (hk : ∀ b, T b → w.heap.size ≤ b ∨ S b) : RX T w r L := by
  obtain ⟨oa, cap, rfl, h1, h2, h3⟩ := h
  refine ⟨oa, cap, rfl, h1, h2, fun j x hj => ?_⟩
  obtain ⟨g, o, u, rfl, hg, hn, c0, c1, c2, hv, hx⟩ := h3 j x hj
  refine ⟨g, o, u, rfl, hg, fun e => ?_, c0, c1, c2, hv, fun a b c d e1 e2 e3 => ?_⟩
  · rcases hk g e with h | h
    · omega
    · exact hn h
  · rcases hk a e3 with h | h
    · exact VX.new hv h a b c d e1 e2 rfl
    · exact hx a b c d e1 e2 h
/-- The document's memory: its block q. -/
structure Dx (k : Nat) (w : World) (q lim : Nat) (s : St) (r : Value) : Prop where
  obj : w.heap[q]? = some (.cells #[.int .i64 lim, .int .i64 s.last, r] 32 (0, 0))
  ne : q ≠ k
  rx : RX (fun b => b = k ∨ b = q) w r s.L
theorem Dx.old {k : Nat} {w w' : World} {q lim : Nat} {s : St} {r : Value} (h : Dx k w q lim s r) (ho : Old w w') : Dx k w' q lim s r := ⟨(ho.block q (blk_lt h.obj)).trans h.obj, h.ne, h.rx.old ho⟩
theorem Dx.turn {k k' : Nat} {w w' : World} {q lim : Nat} {s : St} {r : Value} (h : Dx k w q lim s r) (hc : Chg (· = k) w w') (hk : w'.heap.size ≤ k') : Dx k' w' q lim s r := by
  have hl := Nat.lt_of_lt_of_le (blk_lt h.obj) hc.size
  exact ⟨(hc.block q (blk_lt h.obj) h.ne).trans h.obj, by omega, (h.rx.chg hc (fun b e => Or.inl e)).more (fun b e => by
    rcases e with rfl | rfl
    · exact Or.inl hk
    · exact Or.inr (Or.inr rfl))⟩

theorem idOf_none {L : List Ft} {t : Int} {s : List Vl} (h : ∀ y ∈ L, ¬ (y.t = t ∧ y.l = s)) : idOf L t s = 0 := by
  unfold idOf
  have : L.find? (fun x => decide (x.t = t ∧ x.l = s)) = none := by
    rw [List.find?_eq_none]
    intro x hx
    simpa using h x hx
  rw [this]
theorem find_at {p : Ft → Bool} : ∀ {L : List Ft} {k : Nat} {x : Ft}, L[k]? = some x → (∀ y ∈ L.take k, p y = false) → p x = true → L.find? p = some x
  | [], k, x, h, _, _ => by simp at h
  | y :: l, 0, x, h, _, hp => by
    have : y = x := by simpa using h
    subst this
    rw [List.find?_cons, hp]
  | y :: l, k + 1, x, h, hb, hp => by
    rw [List.find?_cons, hb y (by simp)]
    exact find_at (L := l) (k := k) (by simpa using h) (fun z hz => hb z (by simp [hz])) hp
theorem idOf_at {L : List Ft} {t : Int} {s : List Vl} {k : Nat} {x : Ft} (hx : L[k]? = some x) (hb : ∀ y ∈ L.take k, ¬ (y.t = t ∧ y.l = s)) (ht : x.t = t ∧ x.l = s) : idOf L t s = x.id := by
  unfold idOf
  rw [find_at hx (fun y hy => decide_eq_false (hb y hy)) (decide_eq_true ht)]
theorem getOf_at {L : List Ft} {id : Int} {k : Nat} {x : Ft} (hx : L[k]? = some x) (hb : ∀ y ∈ L.take k, ¬ y.id = id) (ht : x.id = id) : getOf L id = some x := find_at hx (fun y hy => decide_eq_false (hb y hy)) (decide_eq_true ht)
theorem getOf_none {L : List Ft} {id : Int} (hb : ∀ y ∈ L, ¬ y.id = id) : getOf L id = none := by
  unfold getOf
  rw [List.find?_eq_none]
  intro x hx
  simpa using hb x hx
theorem take_step {Q : Ft → Prop} {L : List Ft} {k : Nat} {x : Ft} (hx : L[k]? = some x) (hb : ∀ y ∈ L.take k, Q y) (h : Q x) : ∀ y ∈ L.take (k + 1), Q y := by
  intro y hy
  rw [List.take_add_one, hx, Option.toList_some] at hy
  rcases List.mem_append.1 hy with hy | hy
  · exact hb y hy
  · rw [List.mem_singleton] at hy
    subst hy
    exact h

set_option maxHeartbeats 800000 in
theorem find_doc {k0 : Nat} {W : World} {q lim : Nat} {st : St} {r : Value} (h : Dx k0 W q lim st r) (t : Int) (u : Value) (s : List Vl) (hs : VR W u s) :
    Calls Try.prog 22 #[ap q, .int .i64 t, u] W fun e w' => e = .returned (.int .i64 (idOf st.L t s)) ∧ Old W w' := by
  obtain ⟨last, L⟩ := st
  have HD := Lib.hid h
  obtain ⟨hobj, _, oa, c, rfl, r1, r2, r3⟩ := h
  simp only at hobj r1 r2 r3 HD ⊢
  have HV := Lib.hid hs
  obtain ⟨ua, uc, rfl, _⟩ := hs
  obtain ⟨n, hn⟩ : ∃ n, n = L.length := ⟨_, rfl⟩
  obtain ⟨N, hN⟩ : ∃ n, n = s.length := ⟨_, rfl⟩
  rw [← hn] at hobj r1 HD
  rw [← hN] at HV ⊢
  unfold maxLen at r2
  have HN := Lib.hid hn
  have HA := Lib.hid r3
  have HOBJ := Lib.hid hobj
  clear hn hN r3 hobj
  go_enter Try.func22, Try.ntmps22
  go_wp2
  go_loopw [7] (fun i wr => ∃ k : Nat, k ≤ n ∧ i = .int .i64 (k : Int) ∧ Hid (Old W wr) ∧ Hid (∀ y ∈ L.take k, ¬ (y.t = t ∧ y.l = s))) (fun i _ => (n - intOf i).toNat)
  case atStart => exact ⟨0, Nat.zero_le _, rfl, Lib.hid (Old.refl _), Lib.hid (fun x hx => by simp at hx)⟩
  case round =>
    obtain ⟨k, hk, rfl, HO, HT⟩ := hrel
    obtain ⟨d0, d1, d2⟩ := obj_cells ((HO.out.block q (blk_lt HOBJ.out)).trans HOBJ.out)
    by_cases hkn : k < n
    · obtain ⟨x, hx⟩ : ∃ x, L[k]? = some x := ⟨L[k]'(by rw [← HN.out]; exact hkn), List.getElem?_eq_getElem _⟩
      obtain ⟨g, o, v, rfl, hgl, _, c0, c1, c2, hv, _⟩ := HA.out k x hx
      replace c0 := (HO.out.cell hgl).trans c0
      replace c1 := (HO.out.cell hgl).trans c1
      replace c2 := (HO.out.cell hgl).trans c2
      have VA := Lib.hid (hv.old HO.out)
      have VB := Lib.hid (HV.out.old HO.out)
      have HX := Lib.hid hx
      have HK := Lib.hid hkn
      obtain ⟨ID, T, l⟩ := x
      simp only at c0 c1 c2 hv VA
      obtain ⟨va, vc, rfl, _⟩ := _root_.id hv
      have HS := fun w => rsame_any l s (.slice va l.length vc) (.slice ua N uc) w
      generalize hD : decide (l = s) = D at HS
      have HD2 := Lib.hid hD
      have LG := Lib.hid (show (⟨g, o + k * 3, none⟩ : Addr).block < wr.heap.size from Nat.lt_of_lt_of_le hgl HO.out.size)
      have C0 := Lib.hid c0
      have DD := Lib.hid ((HO.out.block q (blk_lt HOBJ.out)).trans HOBJ.out)
      clear hv hx hgl hD
      by_cases ht : T = t
      · subst ht
        cases D
        · go_wp2_with (go_at_call 26; (with_reducible refine (HS _ VA.out VB.out).mono ?_); rintro e w2 ⟨rfl, ho⟩; have HO2 := Lib.hid (HO.out.trans ho); clear ho)
          refine ⟨⟨k + 1, HK.out, by first | rfl | simp, HO2, Lib.hid (take_step HX.out HT.out (fun e => ?_))⟩, by simp only [intOf]; omega⟩
          exact absurd e.2 (of_decide_eq_false HD2.out)
        · go_wp2_with (go_at_call 26; (with_reducible refine (HS _ VA.out VB.out).mono ?_); rintro e w2 ⟨rfl, ho⟩; have HO2 := Lib.hid (HO.out.trans ho); have e0 := (ho.cell LG.out).trans C0.out; have hq := (ho.block q (blk_lt DD.out)).trans DD.out; have d2' := (obj_cells hq).2.2; clear ho hq)
          go_ret
          exact ⟨ri _ _ (idOf_at HX.out HT.out ⟨rfl, of_decide_eq_true HD2.out⟩).symm, HO2.out⟩
      · have htb : (T == t) = false := by simpa using ht
        have HNT := Lib.hid ht
        clear HS
        go_wp2
        refine ⟨⟨k + 1, HK.out, by first | rfl | simp, HO, Lib.hid (take_step HX.out HT.out (fun e => ?_))⟩, by simp only [intOf]; omega⟩
        exact HNT.out e.1
    · have hkn' : k = n := by omega
      subst hkn'
      have HR : idOf L t s = 0 := idOf_none (by have := HT.out; rwa [HN.out, List.take_length] at this)
      have HR := Lib.hid HR
      go_wp2
      go_ret
      exact ⟨ri _ _ HR.out.symm, HO.out⟩

set_option maxHeartbeats 800000 in
theorem get_doc {k0 : Nat} {W : World} {q lim : Nat} {st : St} {r : Value} (h : Dx k0 W q lim st r) (id : Int) :
    Calls Try.prog 19 #[ap q, .int .i64 id] W fun e w' => (∃ oa c, e = .returned (.tuple #[fv ((getOf st.L id).getD noFt).id ((getOf st.L id).getD noFt).t (.slice oa ((getOf st.L id).getD noFt).l.length c), .bool (getOf st.L id).isSome]) ∧ VR w' (.slice oa ((getOf st.L id).getD noFt).l.length c) ((getOf st.L id).getD noFt).l) ∧ Old W w' := by
  obtain ⟨last, L⟩ := st
  have HD := Lib.hid h
  obtain ⟨hobj, _, oa, c, rfl, r1, r2, r3⟩ := h
  simp only at hobj r1 r2 r3 HD ⊢
  obtain ⟨n, hn⟩ : ∃ n, n = L.length := ⟨_, rfl⟩
  rw [← hn] at hobj r1 HD
  unfold maxLen at r2
  have HN := Lib.hid hn
  have HA := Lib.hid r3
  have HOBJ := Lib.hid hobj
  have HO0 := Lib.hid ((Old.refl W).alloc (.cells #[.int .i64 0, .int .i64 0, .slice none 0 0] 38))
  have HB0 := Lib.hid (Fb.new W (.int .i64 0) (.int .i64 0) (.slice none 0 0))
  clear hn r3 hobj
  generalize hX : (getOf L id).getD noFt = X
  generalize hG : (getOf L id).isSome = G
  have HX0 := Lib.hid hX
  have HG0 := Lib.hid hG
  clear hX hG
  go_enter Try.func19, Try.ntmps19
  go_wp2
  generalize hW1 : W.alloc (.cells #[.int .i64 0, .int .i64 0, .slice none 0 0] 38) = W1 at *
  clear hW1
  go_loopw [6] (fun i wr => ∃ k : Nat, k ≤ n ∧ i = .int .i64 (k : Int) ∧ wr = W1 ∧ Hid (∀ y ∈ L.take k, ¬ y.id = id)) (fun i _ => (n - intOf i).toNat)
  case atStart => exact ⟨0, Nat.zero_le _, rfl, rfl, Lib.hid (fun x hx => by simp at hx)⟩
  case round =>
    obtain ⟨k, hk, rfl, rfl, HT⟩ := hrel
    obtain ⟨d0, d1, d2⟩ := obj_cells ((HO0.out.block q (blk_lt HOBJ.out)).trans HOBJ.out)
    have a0 := HB0.out.c0
    have a1 := HB0.out.c1
    have a2 := HB0.out.c2
    have g0 := HB0.out.f 0
    have g1 := HB0.out.f 1
    have g2 := HB0.out.f 2
    by_cases hkn : k < n
    · obtain ⟨x, hx⟩ : ∃ x, L[k]? = some x := ⟨L[k]'(by rw [← HN.out]; exact hkn), List.getElem?_eq_getElem _⟩
      obtain ⟨g, o, v, rfl, hgl, _, c0, c1, c2, hv, _⟩ := HA.out k x hx
      replace c0 := (HO0.out.cell hgl).trans c0
      replace c1 := (HO0.out.cell hgl).trans c1
      replace c2 := (HO0.out.cell hgl).trans c2
      have HX := Lib.hid hx
      have HK := Lib.hid hkn
      obtain ⟨ID, T, l⟩ := x
      simp only at c0 c1 c2 hv
      obtain ⟨va, vc, rfl, _⟩ := _root_.id hv
      have VA := Lib.hid hv
      clear hv hx hgl
      by_cases ht : ID = id
      · subst ht
        have HG := getOf_at HX.out HT.out rfl
        have e1 := HX0.out
        have e2 := HG0.out
        rw [HG] at e1 e2
        clear HX0 HG0
        simp only [Option.getD_some, Option.isSome_some] at e1 e2
        subst e1 e2
        clear HG
        go_wp2
        have ho := old_set3 HO0.out (Nat.le_refl _) (.int .i64 ID) (.int .i64 T) (.slice va l.length vc)
        exact bodyPost_ret (ret_fact2 rfl _ _ W.heap.size rfl rfl (HB0.out.set _ _ _)) rfl ⟨⟨va, vc, rfl, VA.out.old ho⟩, ho⟩
      · have htb : (ID == id) = false := by simpa using ht
        have HNT := Lib.hid ht
        go_wp2
        exact ⟨⟨k + 1, HK.out, by first | rfl | simp, trivial, Lib.hid (take_step HX.out HT.out HNT.out)⟩, by simp only [intOf]; omega⟩
    · have hkn' : k = n := by omega
      subst hkn'
      have HG : getOf L id = none := getOf_none (by have := HT.out; rwa [HN.out, List.take_length] at this)
      have e1 := HX0.out
      have e2 := HG0.out
      rw [HG] at e1 e2
      clear HX0 HG0
      simp only [Option.getD_none, Option.isSome_none, noFt] at e1 e2
      subst e1 e2
      clear HG
      go_wp2
      have ho := old_set3 HO0.out (Nat.le_refl _) (.int .i64 0) (.int .i64 0) (.slice none 0 0)
      exact bodyPost_ret (ret_fact2 rfl _ _ W.heap.size rfl rfl (HB0.out.set _ _ _)) rfl ⟨⟨none, 0, rfl, VR.nil _⟩, ho⟩
end Go.Proofs.Ytfhbnkdibhmmcaa
