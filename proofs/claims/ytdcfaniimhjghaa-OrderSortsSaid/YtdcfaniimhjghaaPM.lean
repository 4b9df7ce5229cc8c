/- Merging in place by exchanges, said plainly: no program is named here. -/
import Derived.Sort.LotA
namespace Go.Proofs.Ytdcfaniimhjghaa
open Go.Sort
set_option linter.unusedVariables false
set_option linter.unusedSimpArgs false
variable {α : Type} [Inhabited α]

/-- What lies at lo .. m, m .. hi of d stands in d' the other way round; all else as it was. -/
def Rot (d : Array α) (lo m hi : Nat) (d' : Array α) : Prop :=
  d'.size = d.size ∧ ∀ k, k < d.size → d'[k]! = if lo ≤ k ∧ k < lo + (hi - m) then d[k + (m - lo)]! else if lo + (hi - m) ≤ k ∧ k < hi then d[k - (hi - m)]! else d[k]!
/-- So many elements at a and at b exchanged. -/
def Xch (d : Array α) (a b n : Nat) (d' : Array α) : Prop :=
  d'.size = d.size ∧ ∀ k, k < d.size → d'[k]! = if a ≤ k ∧ k < a + n then d[k + (b - a)]! else if b ≤ k ∧ k < b + n then d[k - (b - a)]! else d[k]!

theorem Xch.zero (d : Array α) (a b : Nat) : Xch d a b 0 d := ⟨rfl, fun k hk => by rw [if_neg (by omega), if_neg (by omega)]⟩
theorem Xch.step {d d' : Array α} {a b n : Nat} (h : Xch d a b n d') (hab : a + n < b) (hb : b + n < d.size) : Xch d a b (n + 1) (swp d' (a + n) (b + n)) := by
  refine ⟨by rw [size_swp]; exact h.1, fun k hk => ?_⟩
  rw [swp_get _ (by rw [h.1]; omega) (by rw [h.1]; exact hb)]
  have ha := h.2 (a + n) (by omega)
  have hbb := h.2 (b + n) hb
  rw [if_neg (by omega), if_neg (by omega)] at ha hbb
  by_cases e1 : k = b + n
  · subst e1
    rw [if_pos rfl, ha, if_neg (by omega), if_pos (by omega)]
    congr 1; omega
  · rw [if_neg e1]
    by_cases e2 : k = a + n
    · subst e2
      rw [if_pos rfl, hbb, if_pos (by omega)]
      congr 1; omega
    · rw [if_neg e2, h.2 k hk]
      by_cases e3 : a ≤ k ∧ k < a + n
      · rw [if_pos e3, if_pos (by omega)]
      · rw [if_neg e3]
        by_cases e4 : b ≤ k ∧ k < b + n
        · rw [if_pos e4, if_neg (by omega), if_pos (by omega)]
        · rw [if_neg e4, if_neg (by omega), if_neg (by omega)]

theorem Rot.none_left {d : Array α} {m hi : Nat} : Rot d m m hi d := ⟨rfl, fun k hk => by
  by_cases h : m ≤ k ∧ k < m + (hi - m)
  · rw [if_pos h]; congr 1; omega
  · rw [if_neg h]
    by_cases h2 : m + (hi - m) ≤ k ∧ k < hi
    · omega
    · rw [if_neg h2]⟩
theorem Rot.none_right {d : Array α} {lo m : Nat} (h : lo ≤ m) : Rot d lo m m d := ⟨rfl, fun k hk => by
  rw [if_neg (by omega)]
  split
  · congr 1; omega
  · rfl⟩
/-- Both parts of one length: an exchange. -/
theorem Rot.ofXch {d d' : Array α} {m i : Nat} (hi : i ≤ m) (h : Xch d (m - i) m i d') : Rot d (m - i) m (m + i) d' := ⟨h.1, fun k hk => by
  have e1 : m + i - m = i := by omega
  have e2 : m - i + i = m := by omega
  have e3 : m - (m - i) = i := by omega
  rw [h.2 k hk, e1, e2, e3]⟩
/-- The left part is the longer one. -/
theorem Rot.left {d d1 d' : Array α} {m i j : Nat} (hi : i ≤ m) (hji : j < i) (hm : m + j ≤ d.size) (h : Xch d (m - i) m j d1) (h' : Rot d1 (m - (i - j)) m (m + j) d') : Rot d (m - i) m (m + j) d' := ⟨h'.1.trans h.1, fun k hk => by
  rw [h'.2 k (by rw [h.1]; exact hk)]
  by_cases h1 : m - i ≤ k ∧ k < m - i + (m + j - m)
  · rw [if_pos h1, if_neg (by omega), if_neg (by omega), h.2 k hk, if_pos (by omega)]
  · rw [if_neg h1]
    by_cases h2 : m - i + (m + j - m) ≤ k ∧ k < m + j
    · rw [if_pos h2]
      by_cases h3 : m - (i - j) ≤ k ∧ k < m - (i - j) + (m + j - m)
      · rw [if_pos h3, h.2 _ (by omega), if_neg (by omega)]
        by_cases h4 : m ≤ k + (m - (m - (i - j))) ∧ k + (m - (m - (i - j))) < m + j
        · rw [if_pos h4]; congr 1; omega
        · omega
      · rw [if_neg h3, if_pos (by omega), h.2 _ (by omega), if_neg (by omega), if_neg (by omega)]
    · rw [if_neg h2, if_neg (by omega), if_neg (by omega), h.2 k hk, if_neg (by omega), if_neg (by omega)]⟩
/-- The right part is the longer one. -/
theorem Rot.right {d d1 d' : Array α} {m i j : Nat} (hi : i ≤ m) (hji : i < j) (hm : m + j ≤ d.size) (h : Xch d (m - i) (m + j - i) i d1) (h' : Rot d1 (m - i) m (m + (j - i)) d') : Rot d (m - i) m (m + j) d' := ⟨h'.1.trans h.1, fun k hk => by
  rw [h'.2 k (by rw [h.1]; exact hk)]
  by_cases h1 : m - i ≤ k ∧ k < m - i + (m + j - m)
  · rw [if_pos h1]
    by_cases h3 : m - i ≤ k ∧ k < m - i + (m + (j - i) - m)
    · rw [if_pos h3, h.2 _ (by omega), if_neg (by omega)]
      by_cases h4 : m + j - i ≤ k + (m - (m - i)) ∧ k + (m - (m - i)) < m + j - i + i
      · omega
      · rw [if_neg h4]
    · rw [if_neg h3, if_pos (by omega), h.2 _ (by omega), if_pos (by omega)]; congr 1; omega
  · rw [if_neg h1]
    by_cases h2 : m - i + (m + j - m) ≤ k ∧ k < m + j
    · rw [if_pos h2, if_neg (by omega), if_neg (by omega), h.2 k hk, if_neg (by omega), if_pos (by omega)]; congr 1; omega
    · rw [if_neg h2, if_neg (by omega), if_neg (by omega), h.2 k hk, if_neg (by omega), if_neg (by omega)]⟩

/-- The element at a is brought to the place ahead of i. -/
theorem Rot.up {d d' : Array α} {a k : Nat} (hk : k + 1 < d.size) (hak : a ≤ k) (h : Rot d a (a + 1) (k + 1) d') : Rot d a (a + 1) (k + 2) (swp d' k (k + 1)) := by
  refine ⟨by rw [size_swp]; exact h.1, fun q hq => ?_⟩
  rw [swp_get _ (by rw [h.1]; omega) (by rw [h.1]; exact hk)]
  have h1 := h.2 k (by omega)
  have h2 := h.2 (k + 1) hk
  rw [if_neg (by omega), if_pos (by omega)] at h1
  rw [if_neg (by omega), if_neg (by omega)] at h2
  by_cases e1 : q = k + 1
  · subst e1
    rw [if_pos rfl, h1, if_neg (by omega), if_pos (by omega)]; congr 1; omega
  · rw [if_neg e1]
    by_cases e2 : q = k
    · subst e2
      rw [if_pos rfl, h2, if_pos (by omega)]; congr 1; omega
    · rw [if_neg e2, h.2 q hq]
      by_cases e3 : a ≤ q ∧ q < a + (k + 1 - (a + 1))
      · rw [if_pos e3, if_pos (by omega)]
      · rw [if_neg e3, if_neg (by omega), if_neg (by omega), if_neg (by omega)]
/-- The element at m is brought down by one place. -/
theorem Rot.down {d d' : Array α} {m k : Nat} (hm : m < d.size) (hk : 0 < k) (hkm : k ≤ m) (h : Rot d k m (m + 1) d') : Rot d (k - 1) m (m + 1) (swp d' k (k - 1)) := by
  refine ⟨by rw [size_swp]; exact h.1, fun q hq => ?_⟩
  rw [swp_get _ (by rw [h.1]; omega) (by rw [h.1]; omega)]
  have h1 := h.2 k (by omega)
  have h2 := h.2 (k - 1) (by omega)
  rw [if_pos (by omega)] at h1
  rw [if_neg (by omega), if_neg (by omega)] at h2
  by_cases e1 : q = k - 1
  · subst e1
    rw [if_pos rfl, h1, if_pos (by omega)]; congr 1; omega
  · rw [if_neg e1]
    by_cases e2 : q = k
    · subst e2
      rw [if_pos rfl, h2, if_neg (by omega), if_pos (by omega)]; congr 1; omega
    · rw [if_neg e2, h.2 q hq]
      by_cases e3 : k ≤ q ∧ q < k + (m + 1 - m)
      · omega
      · rw [if_neg e3]
        by_cases e4 : k + (m + 1 - m) ≤ q ∧ q < m + 1
        · rw [if_pos e4, if_neg (by omega), if_pos (by omega)]
        · rw [if_neg e4, if_neg (by omega), if_neg (by omega)]

section
variable (lt : α → α → Bool)
theorem sorted_join {d : Array α} {a m b : Nat} (h1 : SortedIn lt a m d) (h2 : SortedIn lt m b d) (h3 : ∀ i j, a ≤ i → i < m → m ≤ j → j < b → lt d[j]! d[i]! = false) : SortedIn lt a b d := fun i j hi hij hj => by
  by_cases hjm : j < m
  · exact h1 i j hi hij hjm
  · by_cases him : i < m
    · exact h3 i j hi him (by omega) hj
    · exact h2 i j (by omega) hij hj
theorem sorted_sub {d : Array α} {a b a' b' : Nat} (h : SortedIn lt a b d) (ha : a ≤ a') (hb : b' ≤ b) : SortedIn lt a' b' d := fun i j hi hij hj => h i j (by omega) hij (by omega)
theorem sorted_congr {d d' : Array α} {a b : Nat} (h : SortedIn lt a b d) (e : ∀ i, a ≤ i → i < b → d'[i]! = d[i]!) : SortedIn lt a b d' := fun i j hi hij hj => by
  rw [e i hi (by omega), e j (by omega) hj]; exact h i j hi hij hj
theorem sorted_one {d : Array α} {a b : Nat} (h : b ≤ a + 1) : SortedIn lt a b d := fun i j hi hij hj => by omega
/-- A part moved. -/
theorem sorted_moved {d d' : Array α} {a b s t : Nat} (h : SortedIn lt a b d) (e : ∀ i, s ≤ i → i < t → ∃ k, d'[i]! = d[k]! ∧ a ≤ k ∧ k < b ∧ k + s = i + a) : SortedIn lt s t d' := fun i j hi hij hj => by
  obtain ⟨k, e1, h1, h2, h3⟩ := e i hi (by omega)
  obtain ⟨q, e2, h4, h5, h6⟩ := e j (by omega) hj
  rw [e1, e2]
  exact h k q h1 (by omega) h5

/-- What a rotation leaves, where the left parts pass the right ones. -/
theorem rot_parts {d d1 : Array α} {a s m e b : Nat} (hd : b ≤ d.size) (has : a ≤ s) (hsm : s ≤ m) (hme : m ≤ e) (heb : e ≤ b) (hL : SortedIn lt a m d) (hR : SortedIn lt m b d) (h : Rot d s m e d1)
    (hA : ∀ i j, a ≤ i → i < s → e ≤ j → j < b → lt d[j]! d[i]! = false) (hB : ∀ i j, s ≤ i → i < m → m ≤ j → j < e → lt d[i]! d[j]! = false) :
    SortedIn lt a s d1 ∧ SortedIn lt s (s + (e - m)) d1 ∧ SortedIn lt (s + (e - m)) e d1 ∧ SortedIn lt e b d1 ∧ ∀ i j, a ≤ i → i < s + (e - m) → s + (e - m) ≤ j → j < b → lt d1[j]! d1[i]! = false := by
  have e1 : ∀ i, a ≤ i → i < s → d1[i]! = d[i]! := fun i h1 h2 => by rw [h.2 i (by omega), if_neg (by omega), if_neg (by omega)]
  have e2 : ∀ i, s ≤ i → i < s + (e - m) → d1[i]! = d[i + (m - s)]! := fun i h1 h2 => by rw [h.2 i (by omega), if_pos (by omega)]
  have e3 : ∀ i, s + (e - m) ≤ i → i < e → d1[i]! = d[i - (e - m)]! := fun i h1 h2 => by rw [h.2 i (by omega), if_neg (by omega), if_pos (by omega)]
  have e4 : ∀ i, e ≤ i → i < b → d1[i]! = d[i]! := fun i h1 h2 => by rw [h.2 i (by omega), if_neg (by omega), if_neg (by omega)]
  refine ⟨sorted_congr lt (sorted_sub lt hL (Nat.le_refl _) hsm) e1, sorted_moved lt (a := m) (b := b) hR (fun i h1 h2 => ⟨_, e2 i h1 h2, by omega, by omega, by omega⟩), sorted_moved lt (a := s) (b := m) (sorted_sub lt hL has (Nat.le_refl _)) (fun i h1 h2 => ⟨_, e3 i h1 h2, by omega, by omega, by omega⟩), sorted_congr lt (sorted_sub lt hR hme (Nat.le_refl _)) e4, fun i j h1 h2 h3 h4 => ?_⟩
  by_cases c1 : i < s
  · rw [e1 i h1 c1]
    by_cases c2 : j < e
    · rw [e3 j h3 c2]
      exact hL i _ h1 (by omega) (by omega)
    · rw [e4 j (by omega) h4]
      exact hA i j h1 c1 (by omega) h4
  · rw [e2 i (by omega) h2]
    by_cases c2 : j < e
    · rw [e3 j h3 c2]
      exact hB _ _ (by omega) (by omega) (by omega) (by omega)
    · rw [e4 j (by omega) h4]
      exact hR _ j (by omega) (by omega) h4
theorem permIn_parts {d d1 d2 d3 : Array α} {a mid b : Nat} (h1 : a ≤ mid) (h2 : mid ≤ b) (hd : b ≤ d.size) (p1 : PermIn a b d d1) (p2 : PermIn a mid d1 d2) (p3 : PermIn mid b d2 d3) : PermIn a b d d3 := by
  have s1 := p1.1
  have s2 := p2.1
  exact permIn_trans _ _ _ a b (permIn_trans _ _ _ a b p1 (permIn_mono _ _ a mid a b (Nat.le_refl _) h2 (by omega) p2)) (permIn_mono _ _ mid b a b h1 (Nat.le_refl _) (by omega) p3)
/-- Both halves sorted by themselves. -/
theorem halves {d1 d2 d3 : Array α} {a mid b : Nat} (h1 : a ≤ mid) (h2 : mid ≤ b) (hd : b ≤ d1.size) (hX : ∀ i j, a ≤ i → i < mid → mid ≤ j → j < b → lt d1[j]! d1[i]! = false)
    (p2 : PermIn a mid d1 d2) (s2 : SortedIn lt a mid d2) (p3 : PermIn mid b d2 d3) (s3 : SortedIn lt mid b d3) : SortedIn lt a b d3 := by
  have z2 := p2.1
  refine sorted_join lt (m := mid) (sorted_congr lt s2 fun i h3 h4 => p3.2.1 i (Or.inl h4)) s3 ?_
  intro i j hi him hj hjb
  rw [p3.2.1 i (Or.inl him)]
  refine permIn_all d2 d3 mid b (fun y => lt y d2[i]! = false) (by omega) p3 (fun q hq1 hq2 => ?_) j hj hjb
  rw [p2.2.1 q (Or.inr hq1)]
  exact permIn_all d1 d2 a mid (fun x => lt d1[q]! x = false) (by omega) p2 (fun r hr1 hr2 => hX r q hr1 hr2 hq1 hq2) i hi him

/-- Where the one of two parts that are merged is cut: what is known of all that was looked at. -/
structure Sc (d : Array α) (n lo hi s r : Nat) : Prop where
  klo : lo ≤ s
  ksr : s ≤ r
  khi : r ≤ hi
  low : ∀ c, lo ≤ c → c < s → lt d[n - 1 - c]! d[c]! = false
  high : ∀ c, r ≤ c → c < hi → lt d[n - 1 - c]! d[c]! = true
/-- Where it is looked. -/
structure Sw (d : Array α) (a m b n lo hi : Nat) : Prop where
  am : a < m
  mb : m < b
  nn : n = (a + b) / 2 + m
  at' : ((a + b) / 2 < m ∧ lo = n - b ∧ hi = (a + b) / 2) ∨ (m ≤ (a + b) / 2 ∧ lo = a ∧ hi = m)
  left : SortedIn lt a m d
  right : SortedIn lt m b d
variable {lt}
theorem Sw.c {d : Array α} {a m b n lo hi c : Nat} (h : Sw lt d a m b n lo hi) (h1 : lo ≤ c) (h2 : c < hi) : a ≤ c ∧ c < m ∧ m ≤ n - 1 - c ∧ n - 1 - c < b ∧ c + 1 ≤ n := by
  obtain ⟨x1, x2, x3, x4, _, _⟩ := h
  omega
theorem Sw.lohi {d : Array α} {a m b n lo hi : Nat} (h : Sw lt d a m b n lo hi) : lo ≤ hi := by
  obtain ⟨x1, x2, x3, x4, _, _⟩ := h
  omega
theorem Sc.start {d : Array α} {a m b n lo hi : Nat} (h : Sw lt d a m b n lo hi) : Sc lt d n lo hi lo hi := ⟨Nat.le_refl _, h.lohi, Nat.le_refl _, fun c h1 h2 => by omega, fun c h1 h2 => by omega⟩
theorem sorted_le {d : Array α} (hO : SWO lt) {a b i j : Nat} (h : SortedIn lt a b d) (h1 : a ≤ i) (h2 : i ≤ j) (h3 : j < b) : lt d[j]! d[i]! = false := by
  rcases Nat.lt_or_ge i j with h4 | h4
  · exact h i j h1 h4 h3
  · obtain rfl : i = j := by omega
    exact hO.irrefl _
theorem Sc.up {d : Array α} (hO : SWO lt) {a m b n lo hi s r c : Nat} (w : Sw lt d a m b n lo hi) (h : Sc lt d n lo hi s r) (h1 : s ≤ c) (h2 : c < r) (ht : lt d[n - 1 - c]! d[c]! = false) : Sc lt d n lo hi (c + 1) r :=
  ⟨by have := h.klo; omega, h2, h.khi, fun q hq1 hq2 => by
    have := h.klo
    have := h.khi
    obtain ⟨x1, x2, x3, x4, x5⟩ := w.c (c := c) (by omega) (by omega)
    obtain ⟨y1, y2, y3, y4, y5⟩ := w.c (c := q) hq1 (by omega)
    exact hO.ntrans _ _ _ (sorted_le hO w.right x3 (by omega) y4) (hO.ntrans _ _ _ ht (sorted_le hO w.left y1 (by omega) x2)), h.high⟩
theorem Sc.dn {d : Array α} (hO : SWO lt) {a m b n lo hi s r c : Nat} (w : Sw lt d a m b n lo hi) (h : Sc lt d n lo hi s r) (h1 : s ≤ c) (h2 : c < r) (ht : lt d[n - 1 - c]! d[c]! = true) : Sc lt d n lo hi s c :=
  ⟨h.klo, h1, by have := h.khi; omega, h.low, fun q hq1 hq2 => by
    have := h.klo
    have := h.khi
    obtain ⟨x1, x2, x3, x4, x5⟩ := w.c (c := c) (by omega) (by omega)
    obtain ⟨y1, y2, y3, y4, y5⟩ := w.c (c := q) (by omega) hq2
    cases hq : lt d[n - 1 - q]! d[q]! with
    | true => rfl
    | false =>
      have := hO.ntrans _ _ _ (sorted_le hO w.right y3 (i := n - 1 - q) (j := n - 1 - c) (by omega) x4) (hO.ntrans _ _ _ hq (sorted_le hO w.left x1 hq1 y2))
      rw [this] at ht
      cases ht⟩
/-- The cut that was found. -/
theorem Sc.cut {d d1 : Array α} (hO : SWO lt) {a m b n lo hi s : Nat} (hd : b ≤ d.size) (w : Sw lt d a m b n lo hi) (h : Sc lt d n lo hi s s) (hr : Rot d s m (n - s) d1) :
    SortedIn lt a s d1 ∧ SortedIn lt s ((a + b) / 2) d1 ∧ SortedIn lt ((a + b) / 2) (n - s) d1 ∧ SortedIn lt (n - s) b d1 ∧ ∀ i j, a ≤ i → i < (a + b) / 2 → (a + b) / 2 ≤ j → j < b → lt d1[j]! d1[i]! = false := by
  have e0 := w.lohi
  obtain ⟨w1, w2, w3, w4, w5, w6⟩ := w
  obtain ⟨g1, g2, g3, g4, g5⟩ := h
  have e1 : s + (n - s - m) = (a + b) / 2 := by omega
  have := rot_parts lt (a := a) (s := s) (m := m) (e := n - s) (b := b) hd (by omega) (by omega) (by omega) (by omega) w5 w6 hr ?_ ?_
  · rw [e1] at this
    exact this
  · intro i j h1 h2 h3 h4
    by_cases h5 : s = lo
    · omega
    · have h6 := g4 (s - 1) (by omega) (by omega)
      rw [show n - 1 - (s - 1) = n - s by omega] at h6
      exact hO.ntrans _ _ _ (sorted_le hO w6 (by omega) h3 h4) (hO.ntrans _ _ _ h6 (sorted_le hO w5 h1 (by omega) (by omega)))
  · intro i j h1 h2 h3 h4
    by_cases h5 : s = hi
    · omega
    · have h6 := hO.asymmA (g5 s (Nat.le_refl _) (by omega))
      exact hO.ntrans _ _ _ (sorted_le hO w5 (i := s) (j := i) (by omega) h1 h2) (hO.ntrans _ _ _ h6 (sorted_le hO w6 h3 (by omega) (by omega)))
theorem Sc.bounds {d : Array α} {a m b n lo hi s : Nat} (w : Sw lt d a m b n lo hi) (h : Sc lt d n lo hi s s) : a ≤ s ∧ s ≤ m ∧ m ≤ n - s ∧ n - s ≤ b ∧ s ≤ (a + b) / 2 ∧ (a + b) / 2 ≤ n - s ∧ s ≤ n := by
  have e0 := w.lohi
  obtain ⟨w1, w2, w3, w4, w5, w6⟩ := w
  obtain ⟨g1, g2, g3, g4, g5⟩ := h
  omega
/-- One element is brought into the right part. -/
theorem ins_left {d d1 : Array α} (hO : SWO lt) {a b i : Nat} (hd : b ≤ d.size) (ha : a + 1 ≤ i) (hi : i ≤ b) (hR : SortedIn lt (a + 1) b d) (hlow : ∀ k, a + 1 ≤ k → k < i → lt d[k]! d[a]! = true) (hhigh : ∀ k, i ≤ k → k < b → lt d[k]! d[a]! = false)
    (hr : Rot d a (a + 1) i d1) : SortedIn lt a b d1 := by
  obtain ⟨s1, s2, s3, s4, s5⟩ := rot_parts lt (a := a) (s := a) (m := a + 1) (e := i) (b := b) hd (Nat.le_refl _) (by omega) ha hi (sorted_one lt (by omega)) hR hr (fun x y h1 h2 => by omega)
    (fun x y h1 h2 h3 h4 => by obtain rfl : x = a := by omega
                               exact hO.asymmA (hlow y h3 h4))
  refine sorted_join lt s2 (sorted_join lt s3 s4 fun x y h1 h2 h3 h4 => ?_) s5
  rw [hr.2 x (by omega), if_neg (by omega), if_pos (by omega), hr.2 y (by omega), if_neg (by omega), if_neg (by omega)]
  obtain e : x - (i - (a + 1)) = a := by omega
  rw [e]
  exact hhigh y h3 h4
/-- One element is brought into the left part. -/
theorem ins_right {d d1 : Array α} (hO : SWO lt) {a m i : Nat} (hd : m + 1 ≤ d.size) (ha : a ≤ i) (hi : i ≤ m) (hL : SortedIn lt a m d) (hlow : ∀ k, a ≤ k → k < i → lt d[m]! d[k]! = false) (hhigh : ∀ k, i ≤ k → k < m → lt d[m]! d[k]! = true)
    (hr : Rot d i m (m + 1) d1) : SortedIn lt a (m + 1) d1 := by
  obtain ⟨s1, s2, s3, s4, s5⟩ := rot_parts lt (a := a) (s := i) (m := m) (e := m + 1) (b := m + 1) hd ha hi (by omega) (Nat.le_refl _) hL (sorted_one lt (by omega)) hr (fun x y h1 h2 => by omega)
    (fun x y h1 h2 h3 h4 => by obtain rfl : y = m := by omega
                               exact hO.asymmA (hhigh x h1 h2))
  refine sorted_join lt (sorted_join lt s1 s2 fun x y h1 h2 h3 h4 => ?_) (sorted_join lt s3 s4 fun x y h1 h2 h3 h4 => by omega) s5
  rw [hr.2 x (by omega), if_neg (by omega), if_neg (by omega), hr.2 y (by omega), if_pos (by omega)]
  obtain e : y + (m - i) = m := by omega
  rw [e]
  exact hlow x h1 h2
/-- What a merge leaves. -/
def Mg (lt : α → α → Bool) (a b : Nat) (d d' : Array α) : Prop := PermIn a b d d' ∧ SortedIn lt a b d'
/-- One half is sorted by a merge, or was. -/
theorem Mg.idle {d : Array α} {a b : Nat} (h : SortedIn lt a b d) : Mg lt a b d d := ⟨permIn_refl _ _ _, h⟩
theorem Sc.done {d d1 d2 d3 : Array α} (hO : SWO lt) {a m b n lo hi s : Nat} (hd : b ≤ d.size) (w : Sw lt d a m b n lo hi) (h : Sc lt d n lo hi s s) (p1 : PermIn a b d d1) (hr : Rot d s m (n - s) d1)
    (g2 : Mg lt a ((a + b) / 2) d1 d2) (g3 : Mg lt ((a + b) / 2) b d2 d3) : Mg lt a b d d3 := by
  have e := h.bounds w
  have z := hr.1
  exact ⟨permIn_parts (by omega) (by omega) hd p1 g2.1 g3.1, halves lt (by omega) (by omega) (by omega) (h.cut hO hd w hr).2.2.2.2 g2.1 g2.2 g3.1 g3.2⟩
/-- Blocks of s elements, each sorted. -/
def Blk (lt : α → α → Bool) (s : Nat) (d : Array α) (n : Nat) : Prop := ∀ q, SortedIn lt (q * s) (min (q * s + s) n) d
/-- Blocks ahead of a are of 2 s elements, the others of s. -/
structure Blks (lt : α → α → Bool) (s : Nat) (d : Array α) (n a : Nat) : Prop where
  two : ∀ q, q * (2 * s) + 2 * s ≤ a → SortedIn lt (q * (2 * s)) (q * (2 * s) + 2 * s) d
  one : ∀ q, a ≤ q * s → SortedIn lt (q * s) (min (q * s + s) n) d
theorem Blks.start {s n : Nat} {d : Array α} (hs : 0 < s) (h : Blk lt s d n) : Blks lt s d n 0 := ⟨fun q hq => by omega, fun q _ => h q⟩
end
end Go.Proofs.Ytdcfaniimhjghaa
