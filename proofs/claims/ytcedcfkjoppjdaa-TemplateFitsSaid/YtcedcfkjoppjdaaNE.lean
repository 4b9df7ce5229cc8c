/- Layer template: rows of templates and of slots; which place one with a name has. -/
import Derived.Test.YtcedcfkjoppjdaaND
namespace Go.Proofs.Ytcedcfkjoppjdaa
open Go.ChangeShapes Go.WideShapes Go.ChangeAt Go.RowKit
set_option linter.unusedVariables false
set_option linter.unusedSimpArgs false
set_option maxRecDepth 100000

/-- A slot; a template with the slice that holds its slots. -/
structure Sl where
  n : ByteArray
  k : Int
structure Tp where
  n : ByteArray
  v : Value
  l : List Sl
abbrev tv (n : ByteArray) (v : Value) : Value := .agg #[.string n, v]
abbrev sv (n : ByteArray) (k : Int) : Value := .agg #[.string n, .int .u8 k]
/-- The slice v reads as these slots. -/
def SR (w : World) (v : Value) (l : List Sl) : Prop :=
  ∃ oa cap, v = .slice oa l.length cap ∧ l.length ≤ cap ∧ cap ≤ maxLen ∧ ∀ j x, l[j]? = some x → ∃ g o, oa = some ⟨g, o, none⟩ ∧ g < w.heap.size ∧ w.cell? ⟨g, o + j * 2, none⟩ = some (.string x.n) ∧ w.cell? ⟨g, o + j * 2 + 1, none⟩ = some (.int .u8 x.k) ∧ x.n.size ≤ maxLen
theorem SR.old {w w' : World} {v : Value} {l : List Sl} (h : SR w v l) (ho : Old w w') : SR w' v l := by
  obtain ⟨oa, cap, rfl, h1, h2, h3⟩ := h
  refine ⟨oa, cap, rfl, h1, h2, fun j x hj => ?_⟩
  obtain ⟨g, o, rfl, hg, c0, c1, hs⟩ := h3 j x hj
  exact ⟨g, o, rfl, Nat.lt_of_lt_of_le hg ho.size, (ho.cell hg).trans c0, (ho.cell hg).trans c1, hs⟩
/-- The slice v reads as these templates. -/
def TR (w : World) (v : Value) (l : List Tp) : Prop :=
  ∃ oa cap, v = .slice oa l.length cap ∧ l.length ≤ cap ∧ cap ≤ maxLen ∧ ∀ j x, l[j]? = some x → ∃ g o, oa = some ⟨g, o, none⟩ ∧ g < w.heap.size ∧ w.cell? ⟨g, o + j * 2, none⟩ = some (.string x.n) ∧ w.cell? ⟨g, o + j * 2 + 1, none⟩ = some x.v ∧ x.n.size ≤ maxLen ∧ SR w x.v x.l
theorem TR.old {w w' : World} {v : Value} {l : List Tp} (h : TR w v l) (ho : Old w w') : TR w' v l := by
  obtain ⟨oa, cap, rfl, h1, h2, h3⟩ := h
  refine ⟨oa, cap, rfl, h1, h2, fun j x hj => ?_⟩
  obtain ⟨g, o, rfl, hg, c0, c1, hs, hl⟩ := h3 j x hj
  exact ⟨g, o, rfl, Nat.lt_of_lt_of_le hg ho.size, (ho.cell hg).trans c0, (ho.cell hg).trans c1, hs, hl.old ho⟩

/-- The place of the first of these texts that is s. -/
def ixFrom (s : ByteArray) : List ByteArray → Int → Int
  | [], _ => -1
  | x :: l, i => if (x.toList == s.toList) = true then i else ixFrom s l (i + 1)
def ix (l : List ByteArray) (s : ByteArray) : Int := ixFrom s l 0
/-- None of the first k is s. -/
def noX (l : List ByteArray) (s : ByteArray) (k : Nat) : Prop := ∀ j x, j < k → l[j]? = some x → (x.toList == s.toList) = false
theorem ixFrom_hit {s x : ByteArray} : ∀ {l : List ByteArray} {k : Nat} {i : Int}, noX l s k → l[k]? = some x → (x.toList == s.toList) = true → ixFrom s l i = i + k
  | y :: l, 0, i, hn, hk, h => by
    cases hk
    rw [ixFrom, if_pos h]; simp
  | y :: l, k + 1, i, hn, hk, h => by
    have h0 := hn 0 y (Nat.succ_pos _) rfl
    rw [ixFrom, h0, if_neg (by decide), ixFrom_hit (k := k) (fun j x hj hx => hn (j + 1) x (by omega) hx) hk h]
    omega
theorem ixFrom_no {s : ByteArray} : ∀ {l : List ByteArray} {i : Int}, noX l s l.length → ixFrom s l i = -1
  | [], i, hn => rfl
  | y :: l, i, hn => by
    have h0 := hn 0 y (Nat.succ_pos _) rfl
    rw [ixFrom, h0, if_neg (by decide)]
    exact ixFrom_no (fun j x hj hx => hn (j + 1) x (by simpa using hj) hx)
theorem ix_hit {s x : ByteArray} {l : List ByteArray} {k : Nat} (hn : noX l s k) (hk : l[k]? = some x) (h : (x.toList == s.toList) = true) : ix l s = k := by
  unfold ix
  rw [ixFrom_hit hn hk h]; omega
theorem ix_no {s : ByteArray} {l : List ByteArray} (hn : noX l s l.length) : ix l s = -1 := ixFrom_no hn
theorem noX_next {s x : ByteArray} {l : List ByteArray} {k : Nat} (hn : noX l s k) (hk : l[k]? = some x) (h : (x.toList == s.toList) = false) : noX l s (k + 1) := fun j y hj hy => by
  by_cases e : j = k
  · subst e
    rw [hk] at hy
    cases hy
    exact h
  · exact hn j y (by omega) hy
abbrev tnames (l : List Tp) : List ByteArray := l.map (·.n)
abbrev snames (l : List Sl) : List ByteArray := l.map (·.n)
theorem ri {a b : Int} (h : a = b) : Ending.returned (.int .i64 a) = .returned (.int .i64 b) := by rw [h]

theorem same_any (n s : ByteArray) (v : Value) (b : Nat) (w : World) (h : One w b (.string s) 9) : Calls Try.prog 30 #[tv n v, .pointer (some ⟨b, 0, none⟩)] w fun e w' => e = .returned (.bool (n.toList == s.toList)) ∧ Old w w' := by
  have c0 := (h.old ((Old.refl w).alloc (.cells #[.string n, v] 33))).c0
  clear h
  go_enter Try.func30, Try.ntmps30
  go_wp2_with fail
  go_ret
  exact ⟨rfl, (Old.refl w).alloc _⟩
theorem sames_any (n s : ByteArray) (k : Int) (b : Nat) (w : World) (h : One w b (.string s) 9) : Calls Try.prog 32 #[sv n k, .pointer (some ⟨b, 0, none⟩)] w fun e w' => e = .returned (.bool (n.toList == s.toList)) ∧ Old w w' := by
  have c0 := (h.old ((Old.refl w).alloc (.cells #[.string n, .int .u8 k] 41))).c0
  clear h
  go_enter Try.func32, Try.ntmps32
  go_wp2_with fail
  go_ret
  exact ⟨rfl, (Old.refl w).alloc _⟩

theorem index_any (l : List Tp) (v : Value) (s : ByteArray) (b : Nat) (w : World) (hl : TR w v l) (hb : One w b (.string s) 9) : Calls Try.prog 29 #[v, .func (.func 30) #[] #[.pointer (some ⟨b, 0, none⟩)]] w fun e w' => e = .returned (.int .i64 (ix (tnames l) s)) ∧ Old w w' := by
  obtain ⟨oa, c, rfl, a1, a2, a3⟩ := hl
  obtain ⟨n, hn⟩ : ∃ n, n = l.length := ⟨_, rfl⟩
  rw [← hn]
  rw [← hn] at a1
  unfold maxLen at a2
  have HN := Lib.hid hn
  have HA := Lib.hid a3
  have HB := Lib.hid hb
  clear hn a3 hb
  go_enter Try.func29, Try.ntmps29
  go_wp2_with fail
  go_loopw [8] (fun i wr => ∃ k : Nat, k ≤ n ∧ i = .int .i64 (k : Int) ∧ Hid (noX (tnames l) s k) ∧ Hid (Old w wr)) (fun i _ => (n - intOf i).toNat)
  case atStart => exact ⟨0, Nat.zero_le _, rfl, Lib.hid (fun j x hj => by omega), Lib.hid (Old.refl w)⟩
  case round =>
    obtain ⟨k, hk, rfl, HX, HO⟩ := hrel
    by_cases hkn : k < n
    · obtain ⟨x, hx⟩ : ∃ x, l[k]? = some x := ⟨l[k]'(by rw [← HN.out]; exact hkn), List.getElem?_eq_getElem _⟩
      obtain ⟨g, o, rfl, hgl, c0, c1, hs, hsr⟩ := HA.out k x hx
      have d0 := (HO.out.cell hgl).trans c0
      have d1 := (HO.out.cell hgl).trans c1
      have HK : Hid ((tnames l)[k]? = some x.n) := Lib.hid (by rw [List.getElem?_map, hx]; rfl)
      have hc := fun W hW => same_any x.n s x.v b W hW
      have HB' := Lib.hid (HB.out.old HO.out)
      clear c0 c1 hs hsr hx
      cases hE : (x.n.toList == s.toList)
      · rw [hE] at hc
        have HE := Lib.hid hE
        clear hE
        go_wp2_with (go_at_call 30; (with_reducible refine (hc _ HB'.out).mono ?_); rintro e w1 ⟨rfl, o1⟩)
        refine ⟨⟨k + 1, hkn, rfl, Lib.hid (noX_next HX.out HK.out HE.out), Lib.hid (HO.out.trans o1)⟩, by simp only [intOf]; omega⟩
      · rw [hE] at hc
        have HE := Lib.hid hE
        clear hE
        go_wp2_with (go_at_call 30; (with_reducible refine (hc _ HB'.out).mono ?_); rintro e w1 ⟨rfl, o1⟩)
        go_ret
        exact ⟨ri (ix_hit HX.out HK.out HE.out).symm, HO.out.trans o1⟩
    · have hkn' : k = n := by omega
      subst hkn'
      go_wp2_with fail
      go_ret
      exact ⟨ri (ix_no (by rw [List.length_map, ← HN.out]; exact HX.out)).symm, HO.out⟩
theorem find_any (l : List Tp) (v : Value) (s : ByteArray) (w : World) (hl : TR w v l) : Calls Try.prog 16 #[v, .string s] w fun e w' => e = .returned (.int .i64 (ix (tnames l) s)) ∧ Old w w' := by
  have hb := One.new w (.string s) 9
  have hl' := hl.old ((Old.refl w).alloc (.cells #[.string s] 9))
  have hc := Lib.hid (index_any l v s w.heap.size _ hl' hb)
  have HO := Lib.hid ((Old.refl w).alloc (.cells #[.string s] 9))
  clear hb hl hl'
  go_enter Try.func16, Try.ntmps16
  go_wp2_with (go_at_call 29; (with_reducible refine (hc.out).mono ?_); rintro e w1 ⟨rfl, o1⟩)
  go_ret
  exact ⟨rfl, HO.out.trans o1⟩
theorem rfind_any (l : List Tp) (v : Value) (s : ByteArray) (w : World) (hl : TR w v l) : Calls Try.prog 17 #[v, .string s] w fun e w' => e = .returned (.int .i64 (ix (tnames l) s)) ∧ w = w' := by
  obtain ⟨oa, c, rfl, a1, a2, a3⟩ := hl
  obtain ⟨n, hn⟩ : ∃ n, n = l.length := ⟨_, rfl⟩
  rw [← hn]
  rw [← hn] at a1
  unfold maxLen at a2
  have HN := Lib.hid hn
  have HA := Lib.hid a3
  clear hn a3
  go_enter Try.func17, Try.ntmps17
  go_wp2_with fail
  go_loopw [5] (fun i wr => ∃ k : Nat, k ≤ n ∧ i = .int .i64 (k : Int) ∧ Hid (noX (tnames l) s k) ∧ wr = w) (fun i _ => (n - intOf i).toNat)
  case atStart => exact ⟨0, Nat.zero_le _, rfl, Lib.hid (fun j x hj => by omega), rfl⟩
  case round =>
    obtain ⟨k, hk, rfl, HX, rfl⟩ := hrel
    by_cases hkn : k < n
    · obtain ⟨x, hx⟩ : ∃ x, l[k]? = some x := ⟨l[k]'(by rw [← HN.out]; exact hkn), List.getElem?_eq_getElem _⟩
      obtain ⟨g, o, rfl, hgl, c0, c1, hs, hsr⟩ := HA.out k x hx
      have HK : Hid ((tnames l)[k]? = some x.n) := Lib.hid (by rw [List.getElem?_map, hx]; rfl)
      clear hs hsr hx
      cases hE : (x.n.toList == s.toList)
      · have HE := Lib.hid hE
        go_wp2_with fail
        refine ⟨⟨k + 1, hkn, rfl, Lib.hid (noX_next HX.out HK.out HE.out), ?_⟩, by simp only [intOf]; omega⟩
        first | rfl | trivial
      · have HE := Lib.hid hE
        go_wp2_with fail
        go_ret
        exact ⟨ri (ix_hit HX.out HK.out HE.out).symm, rfl⟩
    · have hkn' : k = n := by omega
      subst hkn'
      go_wp2_with fail
      go_ret
      exact ⟨ri (ix_no (by rw [List.length_map, ← HN.out]; exact HX.out)).symm, rfl⟩
end Go.Proofs.Ytcedcfkjoppjdaa
