/- Layer memory: a memory behind calls (runs). -/
import Derived.Test.YtfhbnkdibhmmcaaQI
import Derived.Test.YtfhbnkdibhmmcaaQO
import Derived.Test.YtfhbnkdibhmmcaaQP
namespace Go.Proofs.Ytfhbnkdibhmmcaa
open Go.ChangeShapes Go.WideShapes Go.ChangeAt Go.RowKit Go.Lib
set_option linter.unusedVariables false
set_option linter.unusedSimpArgs false
set_option maxRecDepth 100000

/-- A memory's last id and its facts. -/
structure St where
  last : Nat
  L : List Ft
def addS (lim : Nat) (s : St) (t : Int) (l : List Vl) : St := if idOf s.L t l = 0 then (if s.L.length < lim then ⟨s.last + 1, s.L ++ [⟨((s.last + 1 : Nat) : Int), t, l⟩]⟩ else s) else s
def opS (lim : Nat) (s : St) (x : Ox) : St := if x.k = 2 then ⟨s.last, delOf s.L x.id⟩ else addS lim s x.t x.l
def runS (lim : Nat) (s : St) (l : List Ox) : St := l.foldl (opS lim) s
theorem addS_last (lim : Nat) (s : St) (t : Int) (l : List Vl) : (addS lim s t l).last ≤ s.last + 1 := by
  unfold addS
  split
  · split
    · exact Nat.le_refl _
    · exact Nat.le_succ _
  · exact Nat.le_succ _
theorem opS_last (lim : Nat) (s : St) (x : Ox) : (opS lim s x).last ≤ s.last + 1 := by
  unfold opS
  split
  · exact Nat.le_succ _
  · exact addS_last _ _ _ _
theorem runS_last (lim : Nat) : ∀ (l : List Ox) (s : St), (runS lim s l).last ≤ s.last + l.length
  | [], s => Nat.le_refl _
  | x :: l, s => by
    have h1 := runS_last lim l (opS lim s x)
    have h2 := opS_last lim s x
    show (runS lim (opS lim s x) l).last ≤ _
    rw [List.length_cons]
    omega
theorem runS_more (lim : Nat) (s : St) {l : List Ox} {k : Nat} {x : Ox} (h : l[k]? = some x) : runS lim s (l.take (k + 1)) = opS lim (runS lim s (l.take k)) x := by
  unfold runS
  rw [List.take_add_one, h, Option.toList_some, List.foldl_append]
  rfl

abbrev ap (p : Nat) : Value := .pointer (some ⟨p, 0, none⟩)
theorem addS_any {W : World} {p b lim : Nat} {s : St} (hm : Mem W p b lim s.last s.L) {t : Int} {u : Value} {l : List Vl} (hu : VR W u l) (h10 : l.length ≤ 10) (hl : s.last < 1000000) : Calls Try.prog 11 #[ap p, .int .i64 t, u] W fun e w' => (∃ i f er, e = .returned (.tuple #[.int .i64 i, .bool f, .int .i64 er])) ∧ Mem w' p b lim (addS lim s t l).last (addS lim s t l).L ∧ Chg (fun k => k = p ∨ k = b) W w' := by
  unfold addS
  by_cases hi : idOf s.L t l = 0
  · rw [if_pos hi]
    by_cases hr : s.L.length < lim
    · rw [if_pos hr]
      refine (add_new hm t u l hu h10 hi hr hl).mono ?_
      rintro e w' ⟨rfl, h2, h3⟩
      exact ⟨⟨_, _, _, rfl⟩, h2, h3⟩
    · rw [if_neg hr]
      refine (add_full hm t u l hu hi (Nat.le_of_not_lt hr)).mono ?_
      rintro e w' ⟨rfl, ho⟩
      exact ⟨⟨_, _, _, rfl⟩, hm.old ho, Chg.ofOld ho⟩
  · rw [if_neg hi]
    refine (add_old hm t u l hu hi).mono ?_
    rintro e w' ⟨rfl, ho⟩
    exact ⟨⟨_, _, _, rfl⟩, hm.old ho, Chg.ofOld ho⟩
theorem delS_any {W : World} {p b lim : Nat} {s : St} (hm : Mem W p b lim s.last s.L) {id : Int} (hid : I64 id) : Calls Try.prog 13 #[ap p, .int .i64 id] W fun e w' => (∃ u f, e = .returned (.tuple #[u, .bool f])) ∧ Mem w' p b lim s.last (delOf s.L id) ∧ Chg (fun k => k = p ∨ k = b) W w' := by
  refine (remove_any hm id hid).mono ?_
  rintro e w' ⟨⟨u, rfl, _⟩, h2, h3⟩
  exact ⟨⟨_, _, rfl⟩, h2, chgB p h3⟩

set_option maxHeartbeats 1600000 in
theorem runs_any {w0 W : World} {p b lim : Nat} {s : St} {l : List Ox} {v : Value} (hl : OR w0 v l) (ho : Old w0 W) (hp : w0.heap.size ≤ p) (hb : w0.heap.size ≤ b) (hm : Mem W p b lim s.last s.L) (h10 : ∀ x ∈ l, x.l.length ≤ 10) (hs : s.last + l.length ≤ 1000000) :
    Calls Try.prog 28 #[ap p, v] W fun e w' => e = .returned (.tuple #[]) ∧ Mem w' p b lim (runS lim s l).last (runS lim s l).L ∧ Chg (fun k => k = p ∨ k = b) W w' := by
  have HPB := Lib.hid (show ∀ k, (k = p ∨ k = b) → w0.heap.size ≤ k by omega)
  obtain ⟨oa, c, rfl, a1, a2, a3⟩ := hl
  obtain ⟨n, hn⟩ : ∃ n, n = l.length := ⟨_, rfl⟩
  rw [← hn] at a1 hs ⊢
  unfold maxLen at a2
  have HN := Lib.hid hn
  have HA := Lib.hid a3
  have H10 := Lib.hid h10
  have HS := Lib.hid hs
  have HW := Lib.hid ho
  have HM := Lib.hid hm
  clear hn a3 h10 hs ho hm hp hb
  go_enter Try.func28, Try.ntmps28
  go_wp2
  go_loopw [8] (fun i wr => ∃ k : Nat, k ≤ n ∧ i = .int .i64 (k : Int) ∧ Hid (Mem wr p b lim (runS lim s (l.take k)).last (runS lim s (l.take k)).L) ∧ Hid (Chg (fun k => k = p ∨ k = b) W wr)) (fun i _ => (n - intOf i).toNat)
  case atStart => exact ⟨0, Nat.zero_le _, rfl, HM, Lib.hid (Chg.ofOld (Old.refl _))⟩
  case round =>
    obtain ⟨k, hk, rfl, MM, HC⟩ := hrel
    by_cases hkn : k < n
    · obtain ⟨x, hx⟩ : ∃ x, l[k]? = some x := ⟨l[k]'(by rw [← HN.out]; exact hkn), List.getElem?_eq_getElem _⟩
      obtain ⟨g, o, rfl, hgl, c0, c1, c2, c3, hv, hb0, hb1, hb2⟩ := HA.out k x hx
      have HO := Lib.hid (HC.out.old HW.out HPB.out)
      replace c0 := (HO.out.cell hgl).trans c0
      replace c1 := (HO.out.cell hgl).trans c1
      replace c2 := (HO.out.cell hgl).trans c2
      replace c3 := (HO.out.cell hgl).trans c3
      have HR := Lib.hid (runS_more lim s hx)
      have hlast := runS_last lim (l.take k) s
      have HLA := Lib.hid (show (runS lim s (l.take k)).last < 1000000 by
        have h1 := HS.out
        have h2 : (l.take k).length ≤ k := by rw [List.length_take]; exact Nat.min_le_left _ _
        omega)
      have HT := Lib.hid (H10.out x (List.mem_iff_getElem?.2 ⟨k, hx⟩))
      have VV := Lib.hid hv
      have HB2 := Lib.hid hb2
      have HK := Lib.hid hkn
      obtain ⟨ua, uc, ev, _⟩ := id hv
      obtain ⟨K, T, D, xv, xl⟩ := x
      simp only at ev c0 c1 c2 c3
      subst ev
      clear hv hb0 hb1 hb2 hx hlast hgl
      have HE := Lib.hid ((Old.refl wr).alloc (.cells #[.int .i64 K, .int .i64 T, .int .i64 D, .slice ua xl.length uc] 34))
      by_cases h2 : K = 2
      · subst h2
        go_wp2_with (first
          | (go_at_call 13; (with_reducible refine (delS_any (MM.out.old HE.out) HB2.out).mono ?_); rintro e w3 ⟨⟨u, f, rfl⟩, hM, hC⟩; have MM3 := Lib.hid hM; have HC3 := Lib.hid ((HC.out.trans (Chg.ofOld HE.out)).trans hC); clear hM hC))
        refine ⟨⟨k + 1, HK.out, by first | rfl | simp, Lib.hid ?_, HC3⟩, by simp only [intOf]; omega⟩
        rw [HR.out]
        exact MM3.out
      · have h2b : (K == 2) = false := by simpa using h2
        have H2 := Lib.hid h2
        clear h2
        go_wp2_with (first
          | (go_at_call 11; (with_reducible refine (addS_any (MM.out.old HE.out) ((VV.out.old HO.out).old HE.out) HT.out HLA.out).mono ?_); rintro e w3 ⟨⟨i, f, er, rfl⟩, hM, hC⟩; have MM3 := Lib.hid hM; have HC3 := Lib.hid ((HC.out.trans (Chg.ofOld HE.out)).trans hC); clear hM hC))
        refine ⟨⟨k + 1, HK.out, by first | rfl | simp, Lib.hid ?_, HC3⟩, by simp only [intOf]; omega⟩
        rw [HR.out]
        have : opS lim (runS lim s (l.take k)) ⟨K, T, D, .slice ua xl.length uc, xl⟩ = addS lim (runS lim s (l.take k)) T xl := by
          unfold opS
          rw [if_neg H2.out]
        rw [this]
        exact MM3.out
    · have hkn' : k = n := by omega
      subst hkn'
      have HT : l.take k = l := by rw [HN.out, List.take_length]
      have MM' := MM.out
      rw [HT] at MM'
      have MM' := Lib.hid MM'
      clear HT
      go_wp2
      go_end0
      exact ⟨rfl, MM'.out, HC.out⟩

end Go.Proofs.Ytfhbnkdibhmmcaa
