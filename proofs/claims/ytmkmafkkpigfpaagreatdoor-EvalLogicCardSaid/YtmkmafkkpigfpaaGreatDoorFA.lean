/- Layer eval, plain: an answer hangs on the variables that are named. what is answered may be reckoned with. Layer expr: whether two trees are the same (the document's). The document's lexer: bytes; how far a name, a number goes. -/
import Derived.Test.YtmkmafkkpigfpaaGreatDoorWT
set_option maxHeartbeats 800000
namespace Go.Proofs.YtmkmafkkpigfpaaGreatDoor.V
open Go.ChangeShapes Go.WideShapes Go.ChangeAt Go.RowKit Go.Lib
set_option linter.unusedVariables false
set_option linter.unusedSimpArgs false
set_option maxRecDepth 100000
theorem bound_cons (nm : ByteArray) (b : Bd) (l : List Bd) : boundA nm (b :: l) = if (b.nm.toList == nm.toList) = true then properA b.v else boundA nm l := by
  unfold boundA
  rw [List.findIdx?_cons]
  cases hb : (b.nm.toList == nm.toList) with
  | true => rfl
  | false =>
    cases h : l.findIdx? (fun b => b.nm.toList == nm.toList) with
    | none => rfl
    | some i => rfl
def hasB (nm : ByteArray) (l : List Bd) : Bool := l.any fun b => b.nm.toList == nm.toList
theorem bound_none {nm : ByteArray} : ∀ {l : List Bd}, hasB nm l = false → boundA nm l = anE 11
  | [], _ => rfl
  | b :: l, h => by
    unfold hasB at h
    rw [List.any_cons, Bool.or_eq_false_iff] at h
    rw [bound_cons, if_neg (by rw [h.1]; decide)]
    exact bound_none h.2
theorem bound_app (nm : ByteArray) (m : List Bd) : ∀ l : List Bd, boundA nm (l ++ m) = if hasB nm l = true then boundA nm l else boundA nm m
  | [] => rfl
  | b :: l => by
    rw [List.cons_append, bound_cons, bound_cons, bound_app nm m l]
    unfold hasB
    rw [List.any_cons]
    cases (b.nm.toList == nm.toList) <;> rfl
abbrev reB (v : Vl) (b : Bd) : Bd := ⟨b.nm, v⟩
theorem has_re (nm : ByteArray) (v : Vl) : ∀ l : List Bd, hasB nm (l.map (reB v)) = hasB nm l
  | [] => rfl
  | b :: l => by
    unfold hasB
    rw [List.map_cons, List.any_cons, List.any_cons]
    exact congrArg _ (has_re nm v l)
theorem bound_more {nm : ByteArray} (other : Bd) (vars : List Bd) (h : (other.nm.toList == nm.toList) = false) : boundA nm (other :: vars ++ vars.map (reB other.v)) = boundA nm vars := by
  rw [List.cons_append, bound_cons, if_neg (by rw [h]; decide), bound_app]
  split
  · rfl
  · rename_i hh
    have h0 : hasB nm vars = false := by simpa using hh
    rw [bound_none h0, bound_none (by rw [has_re]; exact h0)]
theorem ans_more {T : List Na} {A : List An} {x : Na} {self : Vl} {vars more : List Bd} (h : x.op = 2 → boundA (st x.nm) more = boundA (st x.nm) vars) : ansA T A x self more = ansA T A x self vars := by
  unfold ansA
  by_cases h2 : x.op = 2
  · have h1 : ¬ x.op = 1 := by rw [h2]; decide
    rw [if_neg h1, if_neg h1, if_pos h2, if_pos h2, h h2]
  · simp only [if_neg h2]
theorem run_more {T : List Na} {self : Vl} {vars more : List Bd} (h : ∀ x ∈ T, x.op = 2 → boundA (st x.nm) more = boundA (st x.nm) vars) : ∀ k, runA T self more k = runA T self vars k
  | 0 => rfl
  | k + 1 => by
    rw [runA, runA, run_more h k]
    cases hx : T[k]? with
    | none => rfl
    | some x =>
      show _ ++ [ansA T (runA T self vars k) x self more] = _ ++ [ansA T (runA T self vars k) x self vars]
      rw [ans_more (h x (List.mem_of_getElem? hx))]
theorem val_more {T : List Na} {self : Vl} {vars more : List Bd} (h : ∀ x ∈ T, x.op = 2 → boundA (st x.nm) more = boundA (st x.nm) vars) : valA T self more = valA T self vars := by
  unfold valA lastA
  rw [run_more h]
structure Ga (x : Vl) : Prop where
  n : I64 x.n
  s : x.s.size ≤ 200
  a : ∀ b ∈ x.s.data.toList, b.toNat < 128
theorem Ga.gd {x : Vl} (h : Ga x) : Gd x := ⟨h.n, by have := h.s; omega⟩
theorem ga0 (k n : Int) (h : I64 n) : Ga ⟨k, n, ⟨#[]⟩⟩ := ⟨h, by show (0 : Nat) ≤ 200; omega, fun b hb => by cases hb⟩
theorem i64_0 : I64 0 := by decide
theorem gaE (e : Int) : Ga (anE e).v := ga0 0 0 i64_0
theorem ga01 (k : Int) (b : Bool) : Ga ⟨k, b01 b, ⟨#[]⟩⟩ := ga0 k _ (by cases b <;> decide)
theorem fst_all {p : Int → Bool} {s : ByteArray} : ∀ {k : Nat}, fst p s k = true → ∀ j, j < k → p (bt s j) = true
  | 0, _, j, h => absurd h (Nat.not_lt_zero _)
  | k + 1, hf, j, h => by
    rw [fst, Bool.and_eq_true] at hf
    rcases Nat.lt_or_ge j k with h1 | h1
    · exact fst_all hf.1 j h1
    · obtain rfl : j = k := by omega
      exact hf.2
theorem all_low {p : Int → Bool} {s : ByteArray} (hf : fst p s s.size = true) (hp : ∀ c : Int, p c = true → c < 128) : ∀ b ∈ s.data.toList, b.toNat < 128 := by
  intro b hb
  obtain ⟨j, hj⟩ := List.getElem?_of_mem hb
  have hjl : j < s.size := by
    have := (List.getElem?_eq_some_iff.1 hj).1
    rw [Array.length_toList] at this
    exact this
  have h := hp _ (fst_all hf j hjl)
  unfold bt at h
  rw [List.getD_eq_getElem?_getD, hj] at h
  simp only [Option.getD_some] at h
  omega
theorem empty_nil {s : ByteArray} (h : s.toList.isEmpty = true) : s = ⟨#[]⟩ := by
  apply ba_ext
  rw [List.isEmpty_iff] at h
  rw [h]
  simp [ByteArray.toList_eq]
theorem ga_may {x : Vl} (hn : I64 x.n) (h : mayB x.k x.n x.s = true) : Ga x := by
  obtain ⟨k, n, s⟩ := x
  unfold mayB at h
  simp only at h hn
  split at h
  · rw [Bool.and_eq_true] at h
    obtain rfl := empty_nil h.2
    exact ga0 k n hn
  split at h
  · obtain rfl := empty_nil h
    exact ga0 k n hn
  split at h
  · rw [Bool.and_eq_true] at h
    unfold textB at h
    rw [Bool.and_eq_true, decide_eq_true_iff] at h
    exact ⟨hn, h.2.1, all_low h.2.2 (fun c hc => by
      unfold tb at hc
      rw [Bool.and_eq_true, decide_eq_true_iff, decide_eq_true_iff] at hc
      omega)⟩
  split at h
  · rw [Bool.and_eq_true] at h
    obtain rfl := empty_nil h.2
    exact ga0 k n hn
  split at h
  · rw [Bool.and_eq_true] at h
    unfold nameB at h
    rw [Bool.and_eq_true, Bool.and_eq_true, decide_eq_true_iff] at h
    refine ⟨hn, by have := h.2.1.1; simp only; omega, all_low h.2.2 (fun c hc => ?_)⟩
    unfold nb sl dg at hc
    simp only [Bool.or_eq_true, Bool.and_eq_true, decide_eq_true_iff] at hc
    omega
  · cases h
theorem ga_proper {x : Vl} (hn : I64 x.n) : Ga (properA x).v := by
  unfold properA
  split
  · rename_i h
    exact ga_may hn h
  · exact gaE 2
theorem ga_bound (nm : ByteArray) {l : List Bd} (h : ∀ b ∈ l, I64 b.v.n) : Ga (boundA nm l).v := by
  unfold boundA
  split
  · split
    · rename_i b hb
      exact ga_proper (h b (List.mem_of_getElem? hb))
    · exact gaE 11
  · exact gaE 11
theorem i64_fit (n : Int) : I64 (fitV n) := by
  by_cases h : I64 n
  · rw [fitV_in h]; exact h
  · rw [fitV_out h]; exact i64_0
theorem i64_nm {n : Int} (h : I64 n) (e : Int) : I64 (nmN n e) := by
  unfold nmN
  split
  · exact h
  · exact i64_0
theorem ga_rk3 {V E VD ED : Int → Int → Int} (h1 : ∀ a b, I64 (V a b)) (h2 : ∀ a b, I64 (VD a b)) (k n k' n' : Int) : Ga (tri (rk3 V E VD ED k n k' n')).v := by
  refine ga0 _ _ ?_
  show I64 (rk3 V E VD ED k n k' n').2.1
  unfold rk3
  split
  · exact i64_0
  split
  · exact i64_0
  split
  · exact i64_nm (h1 _ _) _
  split
  · exact i64_nm (h2 _ _) _
  · exact i64_0
theorem ga_add (a b : Vl) : Ga (tri (adT a.k a.n b.k b.n)).v := ga_rk3 (fun _ _ => i64_fit _) (fun _ _ => i64_fit _) _ _ _ _
theorem ga_sub (k n k' n' : Int) : Ga (tri (sbT k n k' n')).v := ga_rk3 (fun _ _ => i64_fit _) (fun _ _ => i64_fit _) _ _ _ _
theorem ga_mul (a b : Vl) : Ga (tri (mlT a.k a.n b.k b.n)).v := ga_rk3 (fun _ _ => i64_fit _) (fun _ _ => i64_fit _) _ _ _ _
theorem ga_div (a b : Vl) : Ga (tri (dvT a.k a.n b.k b.n)).v := by
  refine ga_rk3 (fun x y => ?_) (fun x y => ?_) _ _ _ _
  · unfold quV
    split
    · exact i64_0
    · exact i64_fit _
  · unfold ddV
    split
    · exact i64_0
    · exact i64_fit _
theorem bst_mem (p : Int → Int → Bool) (f : Nat → Int) : ∀ k, bst p f k = 0 ∨ ∃ j, j < k ∧ bst p f k = f j
  | 0 => Or.inl rfl
  | k + 1 => by
    rw [bst]
    split
    · rename_i h
      subst h
      exact Or.inr ⟨0, by omega, rfl⟩
    split
    · exact Or.inr ⟨k, by omega, rfl⟩
    · rcases bst_mem p f k with h | ⟨j, h1, h2⟩
      · exact Or.inl h
      · exact Or.inr ⟨j, by omega, h2⟩
theorem wks_get {K : Int} {l : List Vl} {j : Nat} (hj : j < l.length) : ∃ x ∈ l, wks K l j = wk K x := by
  obtain ⟨x, hx⟩ : ∃ x, l[j]? = some x := ⟨_, List.getElem?_eq_getElem hj⟩
  exact ⟨x, List.mem_of_getElem? hx, wks_at hx⟩
theorem ga_ends (p : Int → Int → Bool) {l : List Vl} (h : ∀ x ∈ l, I64 x.n) : Ga (tri (fmT p l)).v := by
  refine ga0 _ _ ?_
  show I64 (fmT p l).2.1
  unfold fmT
  split
  · exact i64_0
  split
  · show I64 (bst p (wks 1 l) l.length)
    rcases bst_mem p (wks 1 l) l.length with e | ⟨j, hj, e⟩
    · rw [e]; exact i64_0
    · rw [e]
      obtain ⟨x, hx, ew⟩ := wks_get (K := 1) hj
      rw [ew]
      unfold wk
      rw [if_neg (by decide)]
      exact h x hx
  split
  · rename_i hu
    show I64 (bst p (wks 2 l) l.length)
    rcases bst_mem p (wks 2 l) l.length with e | ⟨j, hj, e⟩
    · rw [e]; exact i64_0
    · rw [e]
      obtain ⟨x, hx, ew⟩ := wks_get (K := 2) hj
      rw [ew]
      unfold wk
      rw [if_pos rfl]
      exact of_decide_eq_true (List.all_eq_true.1 hu x hx)
  · exact i64_0
theorem i64_mod {a b : Int} (h : I64 a) : I64 (a.tmod b) := by
  unfold I64 at *
  have h1 := Int.natAbs_tmod a b
  have h2 : (a.tmod b).natAbs ≤ a.natAbs := by
    rw [h1]
    exact Nat.mod_le _ _
  have h3 : 0 ≤ a → 0 ≤ a.tmod b := Int.tmod_nonneg b
  have h4 : a ≤ 0 → a.tmod b ≤ 0 := fun h => by
    have := Int.tmod_nonneg b (a := -a) (by omega)
    rw [Int.neg_tmod] at this
    omega
  omega
theorem ga_whole {n e : Int} (h : I64 n) : Ga (wholeA n e).v := by
  unfold wholeA
  split
  · exact ga0 _ _ h
  · exact gaE _
theorem ga_mod {a b : Vl} (h : Ga a) : Ga (modA a b).v := by
  unfold modA
  split
  · exact ga_whole i64_0
  · exact ga_whole (i64_mod h.n)
theorem ga_len {a : Vl} (h : Ga a) : Ga (lenA a).v := ga_whole (by have := h.s; unfold I64; omega)
def upB (b : UInt8) : UInt8 := if 97 ≤ b.toNat ∧ b.toNat ≤ 122 then UInt8.ofNat (b.toNat - 32) else b
theorem up_low : ∀ b : Fin 128, (if 0 ≤ upI (b.val : Int) then encodeRune (upI (b.val : Int)) else []) = [upB (UInt8.ofNat b.val)] := by decide
theorem up_lt : ∀ b : Fin 128, (upB (UInt8.ofNat b.val)).toNat < 128 := by decide
theorem dec_low {b : UInt8} {l : List UInt8} (h : b.toNat < 128) : decodeL (b :: l) = (b.toNat, 1) := by
  rw [decodeL_N]
  unfold decodeN
  exact if_pos h
theorem up_map_low : ∀ l : List UInt8, (∀ b ∈ l, b.toNat < 128) → mapD upI l = l.map upB
  | [], _ => rfl
  | b :: l, h => by
    have hb := h b (by simp)
    rw [mapD_step upI (b :: l) (by simp), dec_low hb]
    have e := up_low ⟨b.toNat, hb⟩
    simp only [UInt8.ofNat_toNat] at e
    rw [e, List.map_cons]
    show upB b :: mapD upI l = _
    rw [up_map_low l (fun c hc => h c (by simp [hc]))]
theorem ga_up {a : Vl} (h : Ga a) : Ga (upA a).v := by
  unfold upA
  rw [up_map_low _ h.a]
  refine ⟨i64_0, ?_, ?_⟩
  · show (List.map upB a.s.data.toList).toArray.size ≤ 200
    rw [List.size_toArray, List.length_map, Array.length_toList]
    exact h.s
  · intro c hc
    have hc' : c ∈ List.map upB a.s.data.toList := hc
    rw [List.mem_map] at hc'
    obtain ⟨b, hb, rfl⟩ := hc'
    have := up_lt ⟨b.toNat, h.a b hb⟩
    simp only [UInt8.ofNat_toNat] at this
    exact this
theorem ga_neg (a : Vl) : Ga (negA a).v := ga_sub _ _ _ _
theorem ga_abs {a : Vl} (h : Ga a) : Ga (absA a).v := by
  unfold absA
  split
  · exact gaE 8
  split
  · exact ga_neg a
  · exact h
theorem ga_cmp (p : Int → Bool) (a b : Vl) : Ga (cmpA p a b).v := by
  unfold cmpA
  split
  · exact gaE 0
  split
  · exact ga01 _ _
  · exact gaE 8
theorem ga_eq (nl wanted : Bool) (l : List Vl) : Ga (eqR nl wanted l).v := by
  unfold eqR
  split
  · exact ga01 _ _
  · exact ga_cmp _ _ _
theorem ga_ord (p : Int → Bool) (l : List Vl) : Ga (ordR p l).v := by
  unfold ordR
  split
  · exact gaE 8
  · exact ga_cmp _ _ _
theorem ga_kind {R : List Vl → An} (kind : Int) {l : List Vl} (h : Ga (R l).v) : Ga (kindR kind R l).v := by
  unfold kindR
  split
  · exact gaE 8
  split
  · exact gaE 0
  · exact h
theorem ga_hd {l : List Vl} (h : ∀ x ∈ l, Ga x) (i : Nat) : Ga (hd l i) := by
  unfold hd
  rw [List.getD_eq_getElem?_getD]
  cases hx : l[i]? with
  | none => exact ga0 0 0 i64_0
  | some x => exact h x (List.mem_of_getElem? hx)
theorem ga_left {ask : Nat → An} (h : ∀ j, Ga (ask j).v) (n : Nat) {R : List Vl → An} (hR : ∀ l, (∀ x ∈ l, Ga x) → Ga (R l).v) : Ga (leftA ask n R).v := by
  unfold leftA
  split
  · exact h _
  · exact hR _ fun x hx => by
      rw [List.mem_map] at hx
      obtain ⟨i, _, rfl⟩ := hx
      exact h i
theorem ga_reck (op : Int) (n0 n1 : Bool) {ask : Nat → An} (h : ∀ j, Ga (ask j).v) (m : Nat) : Ga (reckA op n0 n1 ask m).v := by
  unfold reckA
  by_cases hop : op < 7 ∨ 25 < op
  · rw [rk_zero op _ _ hop]
    exact gaE 2
  · have hc : op = 7 ∨ op = 8 ∨ op = 9 ∨ op = 10 ∨ op = 11 ∨ op = 12 ∨ op = 13 ∨ op = 14 ∨ op = 15 ∨ op = 16 ∨ op = 17 ∨ op = 18 ∨ op = 19 ∨ op = 20 ∨ op = 21 ∨ op = 22 ∨ op = 23 ∨ op = 24 ∨ op = 25 := by omega
    rcases hc with rfl | rfl | rfl | rfl | rfl | rfl | rfl | rfl | rfl | rfl | rfl | rfl | rfl | rfl | rfl | rfl | rfl | rfl | rfl
    · exact ga_left h 2 fun l _ => ga_eq _ _ _
    · exact ga_left h 2 fun l _ => ga_eq _ _ _
    · exact ga_left h 2 fun l _ => ga_ord _ _
    · exact ga_left h 2 fun l _ => ga_ord _ _
    · exact ga_left h 2 fun l _ => ga_ord _ _
    · exact ga_left h 2 fun l _ => ga_ord _ _
    · exact ga_left h 2 fun l _ => ga_add _ _
    · exact ga_left h 2 fun l _ => ga_sub _ _ _ _
    · exact ga_left h 2 fun l _ => ga_mul _ _
    · exact ga_left h 2 fun l _ => ga_div _ _
    · exact ga_left h 1 fun l _ => ga_neg _
    · exact ga_left h 1 fun l hl => ga_abs (ga_hd hl 0)
    · exact ga_left h m fun l hl => ga_ends _ fun x hx => (hl x hx).n
    · exact ga_left h m fun l hl => ga_ends _ fun x hx => (hl x hx).n
    · exact ga_left h 2 fun l hl => ga_kind 1 (ga_mod (ga_hd hl 0))
    · exact ga_left h 1 fun l hl => ga_kind 3 (ga_len (ga_hd hl 0))
    · exact ga_left h 1 fun l hl => ga_kind 3 (ga_up (ga_hd hl 0))
    · exact ga_left h 2 fun l hl => ga_kind 3 (ga01 _ _)
    · exact ga_left h 2 fun l hl => ga_kind 3 (ga01 _ _)
theorem ga_tru {a : An} (h : Ga a.v) : Ga (truA a).v := by
  unfold truA
  split
  · exact gaE 8
  · exact h
theorem i64_un (st : Int) (l : List Vl) : I64 (unT st l).2 := by
  unfold unT
  split
  · show I64 (b01 _)
    cases (st == 1) <;> decide
  split
  · show I64 (b01 _)
    cases (st == 0) <;> decide
  · exact i64_0
theorem ga_ans {T : List Na} {A : List An} {x : Na} {self : Vl} {vars : List Bd} (hx : I64 x.vn) (hs : I64 self.n) (hv : ∀ b ∈ vars, I64 b.v.n) (hA : ∀ j, Ga (askA A x.ks j).v) : Ga (ansA T A x self vars).v := by
  unfold ansA
  split
  · exact ga_proper hx
  split
  · exact ga_bound _ hv
  split
  · exact ga_proper hs
  split
  · unfold unlA
    split
    · exact ga_tru (hA 0)
    split
    · exact ga_tru (hA 1)
    · exact ga0 _ _ (i64_un _ _)
  split
  · unfold unlA
    split
    · exact ga_tru (hA 0)
    split
    · exact ga_tru (hA 1)
    · exact ga0 _ _ (i64_un _ _)
  split
  · unfold notA
    split
    · exact ga_tru (hA 0)
    · refine ga0 _ _ ?_
      unfold ntT
      split
      · show I64 (b01 _)
        cases ((truA (askA A x.ks 0)).v.n == 0) <;> decide
      · exact i64_0
  split
  · unfold ifA
    split
    · exact ga_tru (hA 0)
    split
    · exact hA 1
    · exact hA 2
  · exact ga_reck _ _ _ hA _
theorem ga_ask {A : List An} (h : ∀ a ∈ A, Ga a.v) (ks : List Int) (j : Nat) : Ga (askA A ks j).v := by
  unfold askA
  split
  · rename_i k hk
    rw [List.getD_eq_getElem?_getD]
    cases hx : A[k]? with
    | none => exact gaE 0
    | some a => exact h a (List.mem_of_getElem? hx)
  · exact gaE 0
theorem ga_run {T : List Na} {self : Vl} {vars : List Bd} (hT : ∀ x ∈ T, I64 x.vn) (hs : I64 self.n) (hv : ∀ b ∈ vars, I64 b.v.n) : ∀ k, ∀ a ∈ runA T self vars k, Ga a.v
  | 0, a, h => by cases h
  | k + 1, a, h => by
    have ih := ga_run hT hs hv k
    rw [runA, List.mem_append] at h
    rcases h with h | h
    · exact ih a h
    · cases hx : T[k]? with
      | none =>
        rw [hx] at h
        simp only [List.mem_singleton] at h
        rw [h]
        exact gaE 0
      | some x =>
        rw [hx] at h
        simp only [List.mem_singleton] at h
        rw [h]
        exact ga_ans (hT x (List.mem_of_getElem? hx)) hs hv (ga_ask ih _)
theorem value_any (w : World) {vt vv : Value} {T : List Na} (self : Vl) (vars : List Bd) (hT : Tz w vt T) (hv : BR w vv vars) (he : En w) (hl : T.length ≤ 100000) (hk : ∀ x ∈ T, x.ks.length ≤ 100000)
    (h1 : ∀ x ∈ T, I64 x.vn) (h2 : I64 self.n) (h3 : ∀ b ∈ vars, I64 b.v.n) : Calls Tryz.prog 11 #[vt, self.v, vv] w fun e w' => e = tl (valA T self vars) ∧ Old w w' :=
  val_any w self vars hT hv he hl hk fun k x j hx => (ga_ask (ga_run h1 h2 h3 k) x.ks j).gd
end Go.Proofs.YtmkmafkkpigfpaaGreatDoor.V
namespace Go.Proofs.YtmkmafkkpigfpaaGreatDoor
open Go.ChangeShapes Go.WideShapes Go.ChangeAt Go.RowKit Go.Lib
set_option linter.unusedVariables false
set_option linter.unusedSimpArgs false
set_option maxRecDepth 100000
theorem rsmall_any (b:Int) (w:World):Calls Tryz.prog 91 #[.int .u8 b] w fun e w'=>e=.returned (.bool (decide (97≤b∧b≤122)))∧w=w':=by
 by_cases h1:97≤b
 ·by_cases h2:b≤122
  ·rw [decide_eq_true ⟨h1,h2⟩]
   go_enter Tryz.func91,Tryz.ntmps91
   go_wp2
   go_ret
   exact ⟨by simp [h1,h2],rfl⟩
  ·rw [decide_eq_false (fun h=>h2 h.2)]
   go_enter Tryz.func91,Tryz.ntmps91
   go_wp2
   go_ret
   exact ⟨by simp [h1,h2],rfl⟩
 ·rw [decide_eq_false (fun h=>h1 h.1)]
  go_enter Tryz.func91,Tryz.ntmps91
  go_wp2
  go_ret
  exact ⟨by simp [h1],rfl⟩
theorem rdig_any (b:Int) (w:World):Calls Tryz.prog 41 #[.int .u8 b] w fun e w'=>e=.returned (.bool (decide (48≤b∧b≤57)))∧w=w':=by
 by_cases h1:48≤b
 ·by_cases h2:b≤57
  ·rw [decide_eq_true ⟨h1,h2⟩]
   go_enter Tryz.func41,Tryz.ntmps41
   go_wp2
   go_ret
   exact ⟨by simp [h1,h2],rfl⟩
  ·rw [decide_eq_false (fun h=>h2 h.2)]
   go_enter Tryz.func41,Tryz.ntmps41
   go_wp2
   go_ret
   exact ⟨by simp [h1,h2],rfl⟩
 ·rw [decide_eq_false (fun h=>h1 h.1)]
  go_enter Tryz.func41,Tryz.ntmps41
  go_wp2
  go_ret
  exact ⟨by simp [h1],rfl⟩
theorem rsm_any (c:UInt8) (w:World):Calls Tryz.prog 91 #[.int .u8 (c.toNat:Int)] w fun e w'=>e=.returned (.bool (sm c))∧w=w':=by
 have e:sm c=decide ((97:Int)≤(c.toNat:Int)∧(c.toNat:Int)≤122):=by unfold sm;congr 1;simp only [eq_iff_iff];omega
 rw [e];exact rsmall_any _ w
theorem rdgc_any (c:UInt8) (w:World):Calls Tryz.prog 41 #[.int .u8 (c.toNat:Int)] w fun e w'=>e=.returned (.bool (dgc c))∧w=w':=by
 have e:dgc c=decide ((48:Int)≤(c.toNat:Int)∧(c.toNat:Int)≤57):=by unfold dgc;congr 1;simp only [eq_iff_iff];omega
 rw [e];exact rdig_any _ w
theorem runS_cons (p:UInt8→Bool) (a:Unit) (c:UInt8) (r:List UInt8):runS p a (c::r)=if p c then some () else none:=rfl
theorem goL_runT {p:UInt8→Bool} {c:UInt8} {r:List UInt8} (h:p c=true):goL (runS p) () (c::r)=goL (runS p) () r+1:=goL_go (by rw [runS_cons,if_pos h])
theorem goL_runF {p:UInt8→Bool} {c:UInt8} {r:List UInt8} (h:p c=false):goL (runS p) () (c::r)=0:=goL_stop (by rw [runS_cons,if_neg (by rw [h];exact Bool.false_ne_true)])
def runN (l:List UInt8):Nat:=if hd sm l then goL (runS nm) () l else 0
theorem drop_ex {s:ByteArray} {k:Nat} (h:k<s.size):∃ c,s.data.toList.drop k=c::s.data.toList.drop (k+1):=
 ⟨_,List.drop_eq_getElem_cons (by rw [Array.length_toList];exact h)⟩
theorem drop_no {s:ByteArray} {k:Nat} (h:s.size≤k):s.data.toList.drop k=[]:=List.drop_eq_nil_of_le (by rw [Array.length_toList];exact h)
theorem goL_in {σ:Type} (step:σ→List UInt8→Option σ) (a:σ) (s:ByteArray) {k:Nat} (h:k≤s.size):k+goL step a (s.data.toList.drop k)≤s.size:=by
 have:=goL_le step a (s.data.toList.drop k)
 rw [List.length_drop,Array.length_toList] at this
 have hz:s.data.size=s.size:=rfl
 omega
theorem rrun_any (s:ByteArray) (j:Nat) (hs:s.size≤1000000) (hj:j≤s.size) (w:World) :
 Calls Tryz.prog 40 #[.string s,.int .i64 (j:Int)] w fun e w'=>e=.returned (.int .i64 ((j+runN (s.data.toList.drop j):Nat):Int))∧w=w':=by
 rcases Nat.lt_or_ge j s.size with hlt|hge
 ·obtain ⟨c,hd0⟩:=drop_ex hlt
  have hx:=fun W=>idx_any s j c (drop_get hd0) W
  have h1:=fun W=>rsm_any c W
  cases hsm:sm c with
  | false=>
    have e:runN (s.data.toList.drop j)=0:=by unfold runN;rw [hd0,if_neg (by show ¬ sm c=true;rw [hsm];exact Bool.false_ne_true)]
    rw [e,Nat.add_zero]
    rw [hsm] at h1
    clear hd0 e
    go_enter Tryz.func40,Tryz.ntmps40
    go_wp2_with (go_at_call 91;(with_reducible refine (h1 _).mono ?_);rintro e w' ⟨rfl,rfl⟩)
    go_ret
    exact ⟨rfl,rfl⟩
  | true=>
    have e:runN (s.data.toList.drop j)=goL (runS nm) () (s.data.toList.drop j):=by unfold runN;rw [hd0];exact if_pos hsm
    obtain ⟨n,hn⟩:∃ n,n=j+goL (runS nm) () (s.data.toList.drop j):=⟨_,rfl⟩
    have hnl:n≤s.size:=by rw [hn];exact goL_in _ _ _ hj
    rw [e,←hn]
    have hjn:j≤n:=by omega
    have HN:=hid hn
    rw [hsm] at h1
    have h5:decide (s.size≤j)=false:=decide_eq_false (by omega)
    clear hd0 e hn
    go_enter Tryz.func40,Tryz.ntmps40
    go_wp2_with (go_at_call 91;(with_reducible refine (h1 _).mono ?_);rintro e w' ⟨rfl,rfl⟩)
    go_loopw [1] (fun i wr=>∃ k:Nat,i=.int .i64 (k:Int)∧k≤n∧Hid (n=k+goL (runS nm) () (s.data.toList.drop k))∧wr=w) (fun i _=>(n-RowKit.intOf i).toNat)
    case atStart=>exact ⟨j,rfl,hjn,HN,rfl⟩
    case round=>
     clear HN h1 hx
     obtain ⟨k,rfl,hk,HN,rfl⟩:=hrel
     rcases Nat.lt_or_ge k s.size with hks|hks
     ·obtain ⟨d,hd⟩:=drop_ex hks
      have hx:=fun W=>idx_any s k d (drop_get hd) W
      have h1:=fun W=>rsm_any d W
      have h2:=fun W=>rdgc_any d W
      have HD:=hid hd
      clear hd
      cases hs1:sm d with
      | true=>
        rw [hs1] at h1
        have HM:=hid (show nm d=true by unfold nm;rw [hs1];rfl)
        go_wp2_with (go_at_call 91;(with_reducible refine (h1 _).mono ?_);rintro e w' ⟨rfl,rfl⟩)
        have hn:=HN.out
        rw [HD.out,goL_runT HM.out] at hn
        exact ⟨⟨k+1,by simp,by omega,hid (by omega),by first|trivial|rfl⟩,by simp only [RowKit.intOf];omega⟩
      | false=>
        rw [hs1] at h1
        cases hs2:dgc d with
        | true=>
          rw [hs2] at h2
          have HM:=hid (show nm d=true by unfold nm;rw [hs1,hs2];rfl)
          go_wp2_with (first
           | (go_at_call 91;(with_reducible refine (h1 _).mono ?_);rintro e w' ⟨rfl,rfl⟩)
           | (go_at_call 41;(with_reducible refine (h2 _).mono ?_);rintro e w' ⟨rfl,rfl⟩))
          have hn:=HN.out
          rw [HD.out,goL_runT HM.out] at hn
          exact ⟨⟨k+1,by simp,by omega,hid (by omega),by first|trivial|rfl⟩,by simp only [RowKit.intOf];omega⟩
        | false=>
          rw [hs2] at h2
          have HM:=hid (show nm d=false by unfold nm;rw [hs1,hs2];rfl)
          go_wp2_with (first
           | (go_at_call 91;(with_reducible refine (h1 _).mono ?_);rintro e w' ⟨rfl,rfl⟩)
           | (go_at_call 41;(with_reducible refine (h2 _).mono ?_);rintro e w' ⟨rfl,rfl⟩))
          go_ret
          have hn:=HN.out
          rw [HD.out,goL_runF HM.out,Nat.add_zero] at hn
          exact ⟨by rw [hn];rfl,rfl⟩
     ·go_wp2
      go_ret
      have hn:=HN.out
      rw [drop_no hks,goL_nil,Nat.add_zero] at hn
      exact ⟨by rw [hn];rfl,rfl⟩
 ·have e:runN (s.data.toList.drop j)=0:=by rw [drop_no hge];rfl
  rw [e,Nat.add_zero]
  clear e
  go_enter Tryz.func40,Tryz.ntmps40
  go_wp2
  go_ret
  exact ⟨rfl,rfl⟩
def digN (l:List UInt8):Nat:=goL (runS dgc) () l
def ptN (l:List UInt8):Bool:=hd (fun c=>c==46) l&&hd dgc l.tail
def numN (l:List UInt8):Nat:=if ptN (l.drop (digN l)) then digN l+1+digN (l.drop (digN l+1)) else digN l
theorem dd {l:List UInt8} (j m:Nat):(l.drop j).drop m=l.drop (j+m):=List.drop_drop
theorem ptN_of {l:List UInt8} {k:Nat} {d e:UInt8} (h:l.drop k=d::l.drop (k+1)) (h2:l.drop (k+1)=e::l.drop (k+1+1)):ptN (l.drop k)=(d==46&&dgc e):=by
 rw [h,h2];rfl
theorem rnum_any (s:ByteArray) (j:Nat) (hs:s.size≤1000000) (hj:j≤s.size) (w:World) :
 Calls Tryz.prog 42 #[.string s,.int .i64 (j:Int)] w fun e w'=>e=.returned (.int .i64 ((j+numN (s.data.toList.drop j):Nat):Int))∧w=w':=by
 obtain ⟨m,hm⟩:∃ m,m=j+numN (s.data.toList.drop j):=⟨_,rfl⟩
 rw [←hm]
 have HM:=hid hm
 obtain ⟨n,hn⟩:∃ n,n=j+digN (s.data.toList.drop j):=⟨_,rfl⟩
 have HJ:=hid hn
 have hnl:n≤s.size:=by rw [hn];exact goL_in _ _ _ hj
 have hjn:j≤n:=by omega
 have HN:Hid (n=j+goL (runS dgc) () (s.data.toList.drop j)):=hid hn
 clear hn hm
 go_enter Tryz.func42,Tryz.ntmps42
 go_wp2
 go_loopw [1] (fun i wr=>∃ k:Nat,i=.int .i64 (k:Int)∧k≤n∧Hid (n=k+goL (runS dgc) () (s.data.toList.drop k))∧wr=w) (fun i _=>(n-RowKit.intOf i).toNat)
 case atStart=>exact ⟨j,rfl,hjn,HN,rfl⟩
 case round=>
  clear HN
  obtain ⟨k,rfl,hk,HN,rfl⟩:=hrel
  rcases Nat.lt_or_ge k s.size with hks|hks
  ·obtain ⟨d,hd⟩:=drop_ex hks
   have hx:=fun W=>idx_any s k d (drop_get hd) W
   have h2:=fun W=>rdgc_any d W
   have HD:=hid hd
   clear hd
   cases hs1:dgc d with
   | true=>
     rw [hs1] at h2
     have HG:=hid hs1
     go_wp2_with (go_at_call 41;(with_reducible refine (h2 _).mono ?_);rintro e w' ⟨rfl,rfl⟩)
     have hn:=HN.out
     rw [HD.out,goL_runT HG.out] at hn
     exact ⟨⟨k+1,by simp,by omega,hid (by omega),by first|trivial|rfl⟩,by simp only [RowKit.intOf];omega⟩
   | false=>
     rw [hs1] at h2
     have hn:=HN.out
     rw [HD.out,goL_runF hs1,Nat.add_zero] at hn
     subst hn
     have hnd:n=j+digN (s.data.toList.drop j):=HJ.out
     have hm:m=if ptN (s.data.toList.drop n) then n+1+digN (s.data.toList.drop (n+1)) else n:=by
      rw [HM.out]
      unfold numN
      rw [dd,dd,←Nat.add_assoc,←hnd]
      split<;>omega
     clear HM HJ HN hk
     by_cases hp:d=46
     ·subst hp
      replace h2:∀ W,Calls Tryz.prog 41 #[.int .u8 46] W fun e w'=>e=.returned (.bool false)∧W=w':=fun W=>h2 W
      replace hx:∀ W,(Instr.index 9 (.string s) (.int .i64 (n:Int))).run Tryz.prog W=.ok (.int .u8 46) W:=fun W=>hx W
      rcases Nat.lt_or_ge (n+1) s.size with hk2|hk2
      ·obtain ⟨e,he⟩:=drop_ex hk2
       have hx2:∀ W,(Instr.index 9 (.string s) (.int .i64 ((n:Int)+1))).run Tryz.prog W=.ok (.int .u8 (e.toNat:Int)) W:=fun W=>idx_any s (n+1) e (drop_get he) W
       have h3:=fun W=>rdgc_any e W
       have hpt:ptN (s.data.toList.drop n)=dgc e:=by rw [ptN_of HD.out he];rfl
       rw [hpt] at hm
       cases hs2:dgc e with
       | false=>
         rw [hs2] at h3
         rw [hs2,if_neg (by exact Bool.false_ne_true)] at hm
         have hr:m=n:=hm
         subst hr
         clear hm hpt he hnd
         go_wp2_with (first
          | (go_at_call 41;(with_reducible refine (h2 _).mono ?_);rintro e1 w1 ⟨rfl,rfl⟩)
          | (go_at_call 41;(with_reducible refine (h3 _).mono ?_);rintro e1 w1 ⟨rfl,rfl⟩))
         go_ret
         exact ⟨rfl,rfl⟩
       | true=>
         rw [hs2] at h3
         rw [hs2,if_pos rfl] at hm
         obtain ⟨n2,hn2⟩:∃ n2,n2=n+1+goL (runS dgc) () (s.data.toList.drop (n+1)):=⟨_,rfl⟩
         have hn2l:n2≤s.size:=by rw [hn2];exact goL_in _ _ _ (by omega)
         have hr:n2=m:=by rw [hm,hn2];rfl
         subst hr
         have hjn2:n+1≤n2:=by omega
         have HN2:=hid hn2
         have h5:decide (s.size≤n+1)=false:=decide_eq_false (by omega)
         clear hm hpt he hnd hn2
         go_wp2_with (first
          | (go_at_call 41;(with_reducible refine (h2 _).mono ?_);rintro e1 w1 ⟨rfl,rfl⟩)
          | (go_at_call 41;(with_reducible refine (h3 _).mono ?_);rintro e1 w1 ⟨rfl,rfl⟩))
         go_loopw [1] (fun i wr'=>∃ k:Nat,i=.int .i64 (k:Int)∧k≤n2∧Hid (n2=k+goL (runS dgc) () (s.data.toList.drop k))∧wr'=wr) (fun i _=>(n2-RowKit.intOf i).toNat)
         case atStart=>exact ⟨n+1,by simp,hjn2,HN2,rfl⟩
         case round=>
          clear HN2 h2 h3 hx hx2
          obtain ⟨k,rfl,hk,HN,rfl⟩:=hrel
          rcases Nat.lt_or_ge k s.size with hks|hks
          ·obtain ⟨d,hd⟩:=drop_ex hks
           have hx:=fun W=>idx_any s k d (drop_get hd) W
           have h2:=fun W=>rdgc_any d W
           have HD:=hid hd
           clear hd
           cases hs1:dgc d with
           | true=>
             rw [hs1] at h2
             have HG:=hid hs1
             go_wp2_with (go_at_call 41;(with_reducible refine (h2 _).mono ?_);rintro e w' ⟨rfl,rfl⟩)
             have hn:=HN.out
             rw [HD.out,goL_runT HG.out] at hn
             exact ⟨⟨k+1,by simp,by omega,hid (by omega),by first|trivial|rfl⟩,by simp only [RowKit.intOf];omega⟩
           | false=>
             rw [hs1] at h2
             have HG:=hid hs1
             go_wp2_with (go_at_call 41;(with_reducible refine (h2 _).mono ?_);rintro e w' ⟨rfl,rfl⟩)
             go_ret
             have hn:=HN.out
             rw [HD.out,goL_runF HG.out,Nat.add_zero] at hn
             exact ⟨by rw [hn];rfl,rfl⟩
          ·go_wp2
           go_ret
           have hn:=HN.out
           rw [drop_no hks,goL_nil,Nat.add_zero] at hn
           exact ⟨by rw [hn];rfl,rfl⟩
      ·have hpt:ptN (s.data.toList.drop n)=false:=by rw [HD.out,drop_no hk2];rfl
       rw [hpt,if_neg (by exact Bool.false_ne_true)] at hm
       have hr:m=n:=hm
       subst hr
       clear hm hpt hnd
       go_wp2_with (go_at_call 41;(with_reducible refine (h2 _).mono ?_);rintro e1 w1 ⟨rfl,rfl⟩)
       go_ret
       exact ⟨rfl,rfl⟩
     ·have hpt:ptN (s.data.toList.drop n)=false:=by
       rw [HD.out]
       show ((d==46)&&hd dgc _)=false
       rw [beq_false_of_ne hp];rfl
      rw [hpt,if_neg (by exact Bool.false_ne_true)] at hm
      have hr:m=n:=hm
      subst hr
      have hpi:¬ (d.toNat:Int)=46:=u8_int (d:=46) hp
      clear hm hpt hnd hp
      go_wp2_with (go_at_call 41;(with_reducible refine (h2 _).mono ?_);rintro e1 w1 ⟨rfl,rfl⟩)
      all_goals (go_ret;exact ⟨rfl,rfl⟩)
  ·have hn:=HN.out
   rw [drop_no hks,goL_nil,Nat.add_zero] at hn
   subst hn
   have hnd:n=j+digN (s.data.toList.drop j):=HJ.out
   have hr:m=n:=by
    rw [HM.out]
    unfold numN
    rw [dd,←hnd,drop_no hks,if_neg (by exact Bool.false_ne_true),←hnd]
   subst hr
   clear hnd HJ HN
   go_wp2
   go_ret
   exact ⟨rfl,rfl⟩
def badB (c:UInt8):Bool:=decide (c.toNat<32∨126<c.toNat)
def qd:List UInt8→Option Nat
 | []=>none
 | [c]=>if badB c then none else if c=34 then some 1 else none
 | c::d::r=>if badB c then none else if c=34 then some 1 else if c=92 then (if badB d then none else (qd r).map (·+ 2)) else (qd (d::r)).map (·+ 1)
theorem qd_bad {c:UInt8} {r:List UInt8} (h:badB c=true):qd (c::r)=none:=by
 cases r<;>(unfold qd;rw [if_pos h])
theorem qd_end {r:List UInt8}:qd (34::r)=some 1:=by
 cases r<;>(unfold qd;rw [if_neg (by decide),if_pos rfl])
theorem qd_esc {d:UInt8} {r:List UInt8}:qd (92::d::r)=if badB d then none else (qd r).map (·+ 2):=by
 rw [qd,if_neg (by decide),if_neg (by decide),if_pos rfl]
theorem qd_esc1:qd [92]=none:=by decide
theorem qd_one {c:UInt8} {r:List UInt8} (h:badB c=false) (h1:¬ c=34) (h2:¬ c=92):qd (c::r)=(qd r).map (·+ 1):=by
 cases r with
 | nil=>unfold qd;rw [if_neg (by rw [h];exact Bool.false_ne_true),if_neg h1];rfl
 | cons d r=>rw [qd,if_neg (by rw [h];exact Bool.false_ne_true),if_neg h1,if_neg h2]
def qdI (j:Nat) (o:Option Nat):Int:=match o with
 | some n=>((j+n:Nat):Int)
 | none=>-1
theorem qdI_map (j m:Nat) (o:Option Nat):qdI j (o.map (·+ m))=qdI (j+m) o:=by
 cases o with
 | none=>rfl
 | some n=>show ((j+(n+m):Nat):Int)=((j+m+n:Nat):Int);omega
theorem badI (c:UInt8):badB c=(decide ((c.toNat:Int)<32)||decide (126<(c.toNat:Int))):=by
 unfold badB
 rw [Bool.eq_iff_iff]
 simp only [decide_eq_true_eq,Bool.or_eq_true]
 omega
theorem rquo_any (s:ByteArray) (j:Nat) (hs:s.size≤1000000) (hj:j<s.size) (w:World) :
 Calls Tryz.prog 44 #[.string s,.int .i64 (j:Int)] w fun e w'=>e=.returned (.int .i64 (qdI (j+1) (qd (s.data.toList.drop (j+1)))))∧w=w':=by
 obtain ⟨m,hm⟩:∃ m,m=qdI (j+1) (qd (s.data.toList.drop (j+1))):=⟨_,rfl⟩
 rw [←hm]
 have HM:=hid hm
 clear hm
 go_enter Tryz.func44,Tryz.ntmps44
 go_wp2
 go_loopw [5] (fun i wr=>∃ k:Nat,i=.int .i64 (k:Int)∧k≤s.size+1∧Hid (m=qdI k (qd (s.data.toList.drop k)))∧wr=w) (fun i _=>(s.size+1-RowKit.intOf i).toNat)
 case atStart=>exact ⟨j+1,by simp,by omega,HM,rfl⟩
 case round=>
  clear HM
  obtain ⟨k,rfl,hk,HM,rfl⟩:=hrel
  rcases Nat.lt_or_ge k s.size with hks|hks
  ·obtain ⟨c,hd⟩:=drop_ex hks
   have hx:=fun W=>idx_any s k c (drop_get hd) W
   have hm:=HM.out
   rw [hd] at hm
   have hb:=badI c
   by_cases hlo:(c.toNat:Int)<32
   ·have hbt:badB c=true:=by rw [hb,decide_eq_true hlo];rfl
    rw [qd_bad hbt] at hm
    have hr:m=-1:=hm
    subst hr
    clear hm hbt hb HM hd
    go_wp2
    go_ret
    exact ⟨rfl,rfl⟩
   by_cases hhi:126<(c.toNat:Int)
   ·have hbt:badB c=true:=by rw [hb,decide_eq_true hhi,Bool.or_true]
    rw [qd_bad hbt] at hm
    have hr:m=-1:=hm
    subst hr
    clear hm hbt hb HM hd
    go_wp2
    go_ret
    exact ⟨rfl,rfl⟩
   have hbf:badB c=false:=by rw [hb,decide_eq_false hlo,decide_eq_false hhi];rfl
   by_cases h34:c=34
   ·subst h34
    rw [qd_end] at hm
    have hr:m=(k:Int)+1:=hm
    subst hr
    clear hm hbf hb HM hd
    go_wp2
    go_ret
    exact ⟨rfl,rfl⟩
   by_cases h92:c=92
   ·subst h92
    rcases Nat.lt_or_ge (k+1) s.size with hk2|hk2
    ·obtain ⟨d,hd2⟩:=drop_ex hk2
     have hx2:∀ W,(Instr.index 9 (.string s) (.int .i64 ((k:Int)+1))).run Tryz.prog W=.ok (.int .u8 (d.toNat:Int)) W:=fun W=>idx_any s (k+1) d (drop_get hd2) W
     rw [hd2,qd_esc] at hm
     have hb2:=badI d
     by_cases hlo2:(d.toNat:Int)<32
     ·have hbt:badB d=true:=by rw [hb2,decide_eq_true hlo2];rfl
      rw [if_pos hbt] at hm
      have hr:m=-1:=hm
      subst hr
      clear hm hbt hb2 hbf hb HM hd hd2
      go_wp2
      go_ret
      exact ⟨rfl,rfl⟩
     by_cases hhi2:126<(d.toNat:Int)
     ·have hbt:badB d=true:=by rw [hb2,decide_eq_true hhi2,Bool.or_true]
      rw [if_pos hbt] at hm
      have hr:m=-1:=hm
      subst hr
      clear hm hbt hb2 hbf hb HM hd hd2
      go_wp2
      go_ret
      exact ⟨rfl,rfl⟩
     have hbf2:badB d=false:=by rw [hb2,decide_eq_false hlo2,decide_eq_false hhi2];rfl
     rw [if_neg (by rw [hbf2];exact Bool.false_ne_true),qdI_map] at hm
     have HM2:Hid (m=qdI (k+1+1) (qd (s.data.toList.drop (k+1+1)))):=hid hm
     clear hm hbf2 hb2 hbf hb HM hd hd2
     go_wp2
     exact ⟨⟨k+1+1,by simp,by omega,HM2,by first|trivial|rfl⟩,by simp only [RowKit.intOf];omega⟩
    ·rw [drop_no hk2,qd_esc1] at hm
     have HM2:Hid (m=qdI (k+1+1) (qd (s.data.toList.drop (k+1+1)))):=hid (by rw [drop_no (by omega)];exact hm)
     clear hm hbf hb HM hd
     go_wp2
     exact ⟨⟨k+1+1,by simp,by omega,HM2,by first|trivial|rfl⟩,by simp only [RowKit.intOf];omega⟩
   ·rw [qd_one hbf h34 h92,qdI_map] at hm
    have HM2:Hid (m=qdI (k+1) (qd (s.data.toList.drop (k+1)))):=hid hm
    have i34:¬ (c.toNat:Int)=34:=u8_int (d:=34) h34
    have i92:¬ (c.toNat:Int)=92:=u8_int (d:=92) h92
    clear hm hbf hb HM hd h34 h92
    go_wp2
    exact ⟨⟨k+1,by simp,by omega,HM2,by first|trivial|rfl⟩,by simp only [RowKit.intOf];omega⟩
  ·have hr:m=-1:=by rw [HM.out,drop_no hks];rfl
   subst hr
   clear HM
   go_wp2
   go_ret
   exact ⟨rfl,rfl⟩
end Go.Proofs.YtmkmafkkpigfpaaGreatDoor
