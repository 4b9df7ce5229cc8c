/- OrderVectors: the law's walk. -/
import Derived.Test.YtdcfaniimhjghaaOM
namespace Go.Proofs.Ytdcfaniimhjghaa
open Go.ChangeShapes Go.WideShapes Go.ChangeAt Go.RowKit Go.Lib Go.Sort
set_option linter.unusedVariables false
set_option linter.unusedSimpArgs false
set_option maxRecDepth 100000
set_option maxHeartbeats 6400000

theorem head_mem {l : List Int} (h : l ≠ []) : (srt l).headD 0 ∈ l ∧ ∀ y ∈ l, y ≤ (srt l).headD 0 := by
  have hp := srt_perm l
  have hs := srt_sorted l
  cases he : srt l with
  | nil =>
    rw [he] at hp
    exact absurd (List.nil_perm.1 hp) h
  | cons y r =>
    rw [he] at hp hs
    obtain ⟨h3, _⟩ := List.pairwise_cons.1 hs
    refine ⟨hp.mem_iff.1 (List.mem_cons_self ..), fun z hz => ?_⟩
    rcases List.mem_cons.1 (hp.mem_iff.2 hz) with rfl | h5
    · exact Int.le_refl _
    · exact h3 z h5
theorem count_take {l : List Int} {k : Nat} {y : Int} (x : Int) (h : l[k]? = some y) : (l.take (k + 1)).count x = (l.take k).count x + if y = x then 1 else 0 := by
  rw [List.take_add_one, h, List.count_append]
  congr 1
  by_cases e : y = x
  · subst e; simp
  · simp [e]
theorem vectors_none (s : Int) (l : List Int) (v : Value) (w : World) (h : IR w v l) (hs : s ≠ 3) (hl : l.length ≤ 20) :
    Calls Try.prog 5 #[.int .u8 s, v] w fun e w' => e = .returned (.bool true) ∧ Old w w' := by
  have hc := vector_any s h (by omega)
  have ev : vec s l = [(srt l).headD 0] := by simp [vec, hs]
  rw [ev] at hc
  clear ev
  have K := Lib.hid (fun W => known_any W)
  obtain ⟨oa, ca, rfl, _, _, ea⟩ := h.shape
  have HE := Lib.hid ea
  have hsb : (s != 3) = true := by simpa using hs
  have hm : Hid (l = [] → (srt l).headD 0 = 0) := Lib.hid (fun e => by subst e; simp [srt])
  have hq : Hid (l ≠ [] → (srt l).headD 0 ∈ l ∧ ∀ y ∈ l, y ≤ (srt l).headD 0) := Lib.hid head_mem
  obtain ⟨x0, hx0⟩ : ∃ x, (srt l).headD 0 = x := ⟨_, rfl⟩
  rw [hx0] at hc hm hq
  obtain ⟨n, hn⟩ : ∃ n, n = l.length := ⟨_, rfl⟩
  rw [← hn] at hl hc ⊢
  have HN := Lib.hid hn
  clear h ea hs hx0 hn
  have hnn : ¬ (20 : Int) < (n : Int) := by omega
  go_enter Try.func5, Try.ntmps5
  go_upto_region 4 with (first | (go_at_call 10; (with_reducible refine hc.mono ?_); rintro e w1 ⟨v1, rfl, hi, ho⟩; obtain ⟨ob, cb, rfl⟩ := hi.shape; have HI := Lib.hid hi; have HO := Lib.hid ho; clear hi ho))
  clear hc
  obtain ⟨_, _, e2, _, _, eb⟩ := HI.out.ir.shape
  obtain ⟨rfl, rfl⟩ : ob = _ ∧ cb = _ := by simpa using e2
  obtain ⟨g2, o2, rfl, hg2, cy⟩ := eb 0 x0 rfl
  rw [Nat.add_zero] at cy
  clear e2 eb HI
  by_cases hn0 : n = 0
  · subst hn0
    have hz : x0 = 0 := hm.out (List.eq_nil_of_length_eq_zero HN.out.symm)
    subst hz
    go_wp2
    go_loopg [41, 6] 0 (fun kx s41 s6 wr => s41 = .int .i64 0 ∧ s6 = .bool true ∧ wr = w1)
    case atStart => exact ⟨rfl, rfl, rfl⟩
    case round =>
      obtain ⟨rfl, rfl, rfl⟩ := hrel
      go_wp2_with (first | (go_at_call 8; (with_reducible refine (K.out _).mono ?_); rintro e3 w4 ⟨rfl, ho⟩; have O3 := Lib.hid ho; clear ho))
      go_ret
      exact ⟨rfl, HO.out.trans O3.out⟩
  · have hnz : ((n : Int) == 0) = false := beq_eq_false_iff_ne.2 (by omega)
    have hl0 : l ≠ [] := fun e => hn0 (by rw [HN.out, e]; rfl)
    have HM := Lib.hid (hq.out hl0)
    clear hl0 hq hm
    go_wp2
    go_loopg [41, 6] n (fun kx s41 s6 wr => ∃ (k : Nat) (T : Bool), s41 = .int .i64 (k : Int) ∧ s6 = .bool T ∧ k ≤ n ∧ n - k ≤ kx ∧ Hid (T = true ↔ ∃ j, j < k ∧ l[j]? = some x0) ∧ wr = w1)
    case atStart => exact ⟨0, false, rfl, rfl, Nat.zero_le _, Nat.le_refl _, Lib.hid ⟨fun h => by simp at h, fun ⟨j, hj, _⟩ => by omega⟩, rfl⟩
    case round =>
      obtain ⟨k, T, rfl, rfl, hk, hkx, HT, rfl⟩ := hrel
      by_cases hlt : k < n
      · have hlti : (k : Int) < (n : Int) := by omega
        obtain ⟨x, hx⟩ : ∃ x, l[k]? = some x := ⟨l[k]'(by rw [← HN.out]; exact hlt), List.getElem?_eq_getElem _⟩
        obtain ⟨g, o, rfl, hg, cx⟩ := HE.out k x hx
        have dx := (HO.out.cell (p := ⟨g, o + k, none⟩) hg).trans cx
        have h0k : (0 : Int) ≤ (k : Int) := by omega
        have hle : ¬ x0 < x := by have := HM.out.2 x (List.mem_of_getElem? hx); omega
        have HX := Lib.hid hx
        clear hx cx hg
        cases T with
        | true =>
          go_wp2_with fail
          go_roundg (n - (k + 1))
          case measure => omega
          case rel =>
            refine ⟨k + 1, true, by go_num, rfl, hlt, Nat.le_refl _, Lib.hid ⟨fun _ => ?_, fun _ => rfl⟩, rfl⟩
            obtain ⟨j, hj, e⟩ := HT.out.1 trivial
            exact ⟨j, by omega, e⟩
        | false =>
          by_cases hxx : x = x0
          · subst hxx
            have hb : (x == x) = true := by simp
            go_wp2_with fail
            go_roundg (n - (k + 1))
            case measure => omega
            case rel => exact ⟨k + 1, true, by go_num, rfl, hlt, Nat.le_refl _, Lib.hid ⟨fun _ => ⟨k, by omega, HX.out⟩, fun _ => rfl⟩, rfl⟩
          · have hb : (x == x0) = false := by simpa using hxx
            have HXX := Lib.hid hxx
            go_wp2_with fail
            go_roundg (n - (k + 1))
            case measure => omega
            case rel =>
              refine ⟨k + 1, false, by go_num, rfl, hlt, Nat.le_refl _, Lib.hid ⟨fun h => by simp at h, fun ⟨j, hj, e⟩ => ?_⟩, rfl⟩
              by_cases ejk : j = k
              · subst ejk
                rw [HX.out] at e
                exact absurd (Option.some.inj e) HXX.out
              · exact HT.out.2 ⟨j, by omega, e⟩
      · have hlti : ¬ (k : Int) < (n : Int) := by omega
        have hT : T = true := HT.out.2 (by
          obtain ⟨j, hj⟩ := List.mem_iff_getElem?.1 HM.out.1
          have := (List.getElem?_eq_some_iff.1 hj).1
          exact ⟨j, by have := HN.out; omega, hj⟩)
        subst hT
        go_wp2_with (first | (go_at_call 8; (with_reducible refine (K.out _).mono ?_); rintro e3 w4 ⟨rfl, ho⟩; have O3 := Lib.hid ho; clear ho))
        go_ret
        exact ⟨rfl, HO.out.trans O3.out⟩
theorem vectors_lex (l : List Int) (v : Value) (w : World) (h : IR w v l) (hl : l.length ≤ 20) :
    Calls Try.prog 5 #[.int .u8 3, v] w fun e w' => e = .returned (.bool true) ∧ Old w w' := by
  have hc := vector_any 3 h (by omega)
  have ev : vec 3 l = srt l := by simp [vec]
  rw [ev] at hc
  clear ev
  have K := Lib.hid (fun W => known_any W)
  obtain ⟨oa, ca, rfl, _, _, ea⟩ := h.shape
  have HE := Lib.hid ea
  have HPERM := Lib.hid (srt_perm l)
  have HSRT := Lib.hid (srt_sorted l)
  have hlen := srt_len l
  obtain ⟨V, hV⟩ : ∃ x, srt l = x := ⟨_, rfl⟩
  rw [hV] at hc HPERM HSRT hlen
  obtain ⟨n, hn⟩ : ∃ n, n = l.length := ⟨_, rfl⟩
  rw [← hn] at hl hc hlen ⊢
  have HN := Lib.hid hn
  have HNV := Lib.hid hlen
  clear h ea hV hn hlen
  have hnn : ¬ (20 : Int) < (n : Int) := by omega
  have key : ∀ (v1 : Value) (w1 : World), Ints w1 w.heap.size v1 V → ∃ ob cb, v1 = .slice ob n cb ∧ ∀ j x, V[j]? = some x → ∃ g o, ob = some ⟨g, o, none⟩ ∧ g < w1.heap.size ∧ w1.cell? ⟨g, o + j, none⟩ = some (.int .i64 x) := fun v1 w1 hi => by
    obtain ⟨ob, cb, e, _, _, h3⟩ := hi.ir.shape
    rw [HNV.out] at e
    exact ⟨ob, cb, e, h3⟩
  have KEY := Lib.hid key
  clear key
  go_enter Try.func5, Try.ntmps5
  go_upto_region 16 with (first | (go_at_call 10; (with_reducible refine hc.mono ?_); rintro e w1 ⟨v1, rfl, hi, ho⟩; obtain ⟨ob, cb, rfl, eb⟩ := KEY.out _ _ hi; have HF := Lib.hid eb; have HO := Lib.hid ho; clear hi ho eb))
  clear hc KEY
  have hee : ((n : Int) != (n : Int)) = false := by simp
  go_wp2
  go_loopg [70] n (fun kx s70 wr => ∃ (i : Nat), s70 = .int .i64 (i : Int) ∧ i ≤ n ∧ n - i ≤ kx ∧ wr = w1)
  case atStart => exact ⟨0, rfl, Nat.zero_le _, Nat.le_refl _, rfl⟩
  case round =>
    obtain ⟨i, rfl, hi, hix, rfl⟩ := hrel
    by_cases hin : i < n
    · have hini : (i : Int) < (n : Int) := by omega
      obtain ⟨x, hx⟩ : ∃ x, V[i]? = some x := ⟨V[i]'(by rw [HNV.out]; exact hin), List.getElem?_eq_getElem _⟩
      obtain ⟨g2, o2, rfl, hg2, cx⟩ := HF.out i x hx
      have h0i : (0 : Int) ≤ (i : Int) := by omega
      have HX := Lib.hid hx
      clear hx
      obtain ⟨w2, rfl⟩ : ∃ w2, w2 = wr := ⟨_, rfl⟩
      go_wp2
      go_loopg [77, 11] n (fun kx s77 s11 wr => ∃ (k : Nat) (c : Int), s77 = .int .i64 (k : Int) ∧ s11 = .int .i64 c ∧ k ≤ n ∧ n - k ≤ kx ∧ (-20 ≤ c ∧ c ≤ 20) ∧ Hid (c = ((V.take k).count x : Int) - ((l.take k).count x : Int)) ∧ wr = w2)
      case atStart => exact ⟨0, 0, rfl, rfl, Nat.zero_le _, Nat.le_refl _, by omega, Lib.hid (by simp), rfl⟩
      case round =>
        obtain ⟨k, c, rfl, rfl, hk, hkx, hcb, HC, rfl⟩ := hrel
        by_cases hlt : k < n
        · have hlti : (k : Int) < (n : Int) := by omega
          obtain ⟨y, hy⟩ : ∃ x, V[k]? = some x := ⟨V[k]'(by rw [HNV.out]; exact hlt), List.getElem?_eq_getElem _⟩
          obtain ⟨z, hz⟩ : ∃ x, l[k]? = some x := ⟨l[k]'(by rw [← HN.out]; exact hlt), List.getElem?_eq_getElem _⟩
          obtain ⟨g3, o3, e3, hg3, cy⟩ := HF.out k y hy
          simp only [Option.some.injEq, Addr.mk.injEq, and_true] at e3
          obtain ⟨rfl, rfl⟩ := e3
          obtain ⟨g, o, rfl, hg, cz⟩ := HE.out k z hz
          have dz := (HO.out.cell (p := ⟨g, o + k, none⟩) hg).trans cz
          have h0k : (0 : Int) ≤ (k : Int) := by omega
          have c1 := count_take x hy
          have c2 := count_take x hz
          have b1 : (V.take (k + 1)).count x ≤ n := Nat.le_trans List.count_le_length (by rw [List.length_take]; have := HNV.out; omega)
          have b2 : (l.take (k + 1)).count x ≤ n := Nat.le_trans List.count_le_length (by rw [List.length_take]; have := HN.out; omega)
          have b3 : (V.take k).count x ≤ n := Nat.le_trans List.count_le_length (by rw [List.length_take]; have := HNV.out; omega)
          have b4 : (l.take k).count x ≤ n := Nat.le_trans List.count_le_length (by rw [List.length_take]; have := HN.out; omega)
          obtain ⟨c', hc'⟩ : ∃ c' : Int, c' = ((V.take (k + 1)).count x : Int) - ((l.take (k + 1)).count x : Int) := ⟨_, rfl⟩
          have hcc : c' = c + (if y = x then 1 else 0) - (if z = x then 1 else 0) := by
            have := HC.out
            rw [hc', c1, c2, this]
            split <;> split <;> simp <;> omega
          have hc20 : -20 ≤ c' ∧ c' ≤ 20 := by omega
          have HC' := Lib.hid hc'
          clear hy hz cz hg c1 c2 b1 b2 b3 b4 hc' hg3
          by_cases e1 : y = x
          · by_cases e2 : z = x
            · have hb1 : (y == x) = true := by simpa using e1
              have hb2 : (z == x) = true := by simpa using e2
              rw [if_pos e1, if_pos e2] at hcc
              clear e1 e2
              go_wp2_with fail
              go_roundg (n - (k + 1))
              case measure => omega
              case rel => exact ⟨k + 1, c', by go_num, by congr 1; omega, hlt, Nat.le_refl _, hc20, HC', rfl⟩
            · have hb1 : (y == x) = true := by simpa using e1
              have hb2 : (z == x) = false := by simpa using e2
              rw [if_pos e1, if_neg e2] at hcc
              clear e1 e2
              go_wp2_with fail
              go_roundg (n - (k + 1))
              case measure => omega
              case rel => exact ⟨k + 1, c', by go_num, by congr 1; omega, hlt, Nat.le_refl _, hc20, HC', rfl⟩
          · by_cases e2 : z = x
            · have hb1 : (y == x) = false := by simpa using e1
              have hb2 : (z == x) = true := by simpa using e2
              rw [if_neg e1, if_pos e2] at hcc
              clear e1 e2
              go_wp2_with fail
              go_roundg (n - (k + 1))
              case measure => omega
              case rel => exact ⟨k + 1, c', by go_num, by congr 1; omega, hlt, Nat.le_refl _, hc20, HC', rfl⟩
            · have hb1 : (y == x) = false := by simpa using e1
              have hb2 : (z == x) = false := by simpa using e2
              rw [if_neg e1, if_neg e2] at hcc
              clear e1 e2
              go_wp2_with fail
              go_roundg (n - (k + 1))
              case measure => omega
              case rel => exact ⟨k + 1, c', by go_num, by congr 1; omega, hlt, Nat.le_refl _, hc20, HC', rfl⟩
        · have hlti : ¬ (k : Int) < (n : Int) := by omega
          have hc0 : c = 0 := by
            have h1 := HC.out
            rw [List.take_of_length_le (by have := HNV.out; omega), List.take_of_length_le (by have := HN.out; omega), HPERM.out.count_eq x] at h1
            omega
          subst hc0
          by_cases hi0 : i = 0
          · subst hi0
            have hi0b : ¬ (0 : Int) < ((0 : Nat) : Int) := by omega
            go_wp2_with fail
            go_roundg (n - (0 + 1))
            case measure => omega
            case rel => exact ⟨0 + 1, by go_num, by omega, Nat.le_refl _, rfl⟩
          · have hi0b : (0 : Int) < (i : Int) := by omega
            obtain ⟨p, rfl⟩ : ∃ p, i = p + 1 := ⟨i - 1, by omega⟩
            obtain ⟨y, hy⟩ : ∃ x, V[p]? = some x := ⟨V[p]'(by have := HNV.out; omega), List.getElem?_eq_getElem _⟩
            obtain ⟨g3, o3, e3, hg3, cy⟩ := HF.out p y hy
            simp only [Option.some.injEq, Addr.mk.injEq, and_true] at e3
            obtain ⟨rfl, rfl⟩ := e3
            have hp0 : (0 : Int) ≤ (p : Int) := by omega
            have hpn : (p : Int) < (n : Int) := by omega
            have hpe : ((p + 1 : Nat) : Int) - 1 = (p : Int) := by omega
            have hpe2 : (p : Int) + 1 - 1 = (p : Int) := by omega
            have hyx : ¬ y < x := by
              have h1 := (List.getElem?_eq_some_iff.1 hy).1
              have h2 := (List.getElem?_eq_some_iff.1 HX.out).1
              have h3 := List.pairwise_iff_getElem.1 HSRT.out p (p + 1) h1 h2 (by omega)
              rw [(List.getElem?_eq_some_iff.1 hy).2, (List.getElem?_eq_some_iff.1 HX.out).2] at h3
              omega
            clear hy hg3
            go_wp2_with fail
            go_roundg (n - (p + 1 + 1))
            case measure => omega
            case rel => exact ⟨p + 1 + 1, by go_num, by omega, Nat.le_refl _, rfl⟩
    · have hini : ¬ (i : Int) < (n : Int) := by omega
      go_wp2_with (first | (go_at_call 8; (with_reducible refine (K.out _).mono ?_); rintro e3 w4 ⟨rfl, ho⟩; have O3 := Lib.hid ho; clear ho))
      go_ret
      exact ⟨rfl, HO.out.trans O3.out⟩
theorem vectors_any (s : Int) (l : List Int) (v : Value) (w : World) (h : IR w v l) :
    Calls Try.prog 5 #[.int .u8 s, v] w fun e w' => e = .returned (.bool true) ∧ Old w w' := by
  by_cases hl : l.length ≤ 20
  · by_cases hs : s = 3
    · subst hs
      exact vectors_lex l v w h hl
    · exact vectors_none s l v w h hs hl
  · have K := Lib.hid (fun W => known_any W)
    obtain ⟨oa, ca, rfl, _, _, ea⟩ := h.shape
    have hnn : (20 : Int) < (l.length : Int) := by omega
    generalize l.length = n at hnn ⊢
    clear h ea hl
    go_enter Try.func5, Try.ntmps5
    go_wp2_with (first | (go_at_call 8; (with_reducible refine (K.out _).mono ?_); rintro e3 w4 ⟨rfl, ho⟩; have O3 := Lib.hid ho; clear ho))
    go_ret
    exact ⟨rfl, O3.out⟩
end Go.Proofs.Ytdcfaniimhjghaa
