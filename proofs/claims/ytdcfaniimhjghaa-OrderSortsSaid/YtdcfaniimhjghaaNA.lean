/- OrderAll: the law's walk. -/
import Derived.Test.YtdcfaniimhjghaaOM
import Derived.Test.YtdcfaniimhjghaaOR
namespace Go.Proofs.Ytdcfaniimhjghaa
open Go.ChangeShapes Go.WideShapes Go.ChangeAt Go.RowKit Go.Lib Go.Sort Go.Shelf
set_option linter.unusedVariables false
set_option linter.unusedSimpArgs false
set_option maxRecDepth 100000
set_option maxHeartbeats 6400000

theorem does_part {ρ : Operand → Value} {o : Oper} {w : World} {K : Value → World → Prop} {x y z : Operand} {g of n cap k : Nat} (ho : o.op = .slice 22 x (some y) (some z) none) (hx : ρ x = .slice (some ⟨g, of, none⟩) n cap) (hy : ρ y = .int .i64 (k : Int)) (hz : ρ z = .int .i64 ((k : Int) + 1)) (hk : k < n ∧ n ≤ cap ∧ cap ≤ 9223372036854775807)
    (h : K (.slice (some ⟨g, of + k * 3, none⟩) 1 (cap - k)) w) : Does Try.prog ρ o w K := by
  refine does_value (v := .slice (some ⟨g, of + k * 3, none⟩) 1 (cap - k)) (w' := w) ?_ h
  have h1 : (0 : Int) ≤ (k : Int) := by omega
  have h2 : (k : Int) ≤ (k : Int) + 1 := by omega
  have h3 : (k : Int) + 1 ≤ (cap : Int) := by omega
  have h4 : ¬ cap = k := by omega
  have h5 : ((k : Int) + 1).toNat = k + 1 := by omega
  have h6 : k + 1 - k = 1 := by omega
  unfold execOp
  rw [ho]
  simp only [hx, hy, hz, Option.map_some, Option.map_none]
  go_simp
theorem AR.one {w : World} {g o n cap : Nat} {P : List Aw} (h : AR w (.slice (some ⟨g, o, none⟩) n cap) P) (hn : n = P.length) {k : Nat} {p : Aw} (hp : P[k]? = some p) : AR w (.slice (some ⟨g, o + k * 3, none⟩) 1 (cap - k)) [p] := by
  subst hn
  have hk := (List.getElem?_eq_some_iff.1 hp).1
  have h1 := (h.1.rest (k := k) (by omega)).part (k := 1) (by omega)
  refine ⟨?_, fun q hq => by rw [List.mem_singleton] at hq; subst hq; exact h.2 _ (List.mem_of_getElem? hp)⟩
  rw [acs_drop, acs_take, List.drop_eq_getElem_cons hk] at h1
  rw [(List.getElem?_eq_some_iff.1 hp).2] at h1
  exact h1
theorem count_takeA {l : List Ac} {k : Nat} {y : Ac} (x : Ac) (h : l[k]? = some y) : (l.take (k + 1)).count x = (l.take k).count x + if y = x then 1 else 0 := by
  rw [List.take_add_one, h, List.count_append]
  congr 1
  by_cases e : y = x
  · subst e; simp
  · simp [e]
theorem ar_one_new {W : World} (p : Aw) : CR (W.alloc (.cells #[.int .i64 p.1.rule, p.2, .int .i64 p.1.sal] 25)) (.slice (some ⟨W.heap.size, 0, none⟩) 1 1) 1 3 (acs [p]) :=
  CR.owned (base := 0) (e := 25) ⟨rfl, Or.inr ⟨W.heap.size, 1, _, rfl, Nat.zero_le _, (MapKept.heap_alloc W _).1, Nat.le_refl _, by unfold maxLen; omega, rfl, rfl⟩⟩
def bi (b : Bool) : Int := if b = true then 1 else 0
theorem all_any (s : Int) (P : List Aw) (v : Value) (w : World) (h : AR w v P) :
    Calls Try.prog 6 #[.int .u8 s, v] w fun e w' => e = .returned (.bool true) ∧ Old w w' := by
  have K := Lib.hid (fun W => known_any W)
  have G := Lib.hid (great_any h 60)
  cases hR : grt (P.map (·.1)) 60 with
  | true =>
    rw [hR] at G
    obtain ⟨oa, ca, rfl, _⟩ := h.shape
    generalize P.length = n at G ⊢
    clear h hR
    go_enter Try.func6, Try.ntmps6
    go_wp2_with (first | (go_at_call 7; (with_reducible refine G.out.mono ?_); rintro e w2 ⟨rfl, rfl⟩) | (go_at_call 8; (with_reducible refine (K.out _).mono ?_); rintro e w3 ⟨rfl, ho⟩; have O3 := Lib.hid ho; clear ho))
    go_ret
    exact ⟨rfl, O3.out⟩
  | false =>
  rw [hR] at G
  obtain ⟨htl, hpl⟩ := grt_false hR
  rw [List.length_map] at hpl
  have hn60 : P.length ≤ 60 := by omega
  have HTL := Lib.hid (fun p (hp : p ∈ P) => htl p.1 (List.mem_map.2 ⟨p, hp, rfl⟩))
  have SRT := Lib.hid (sort_any s h (by omega) (fun p hp => by have := HTL.out p hp; omega))
  have HH := Lib.hid h
  obtain ⟨oa, ca, rfl, hca, hcm, ea⟩ := h.shape
  have HE := Lib.hid ea
  obtain ⟨n, hn⟩ : ∃ n, n = P.length := ⟨_, rfl⟩
  rw [← hn] at hn60 G SRT HH hca ⊢
  have HN := Lib.hid hn
  have HCA := Lib.hid (show n ≤ ca ∧ ca ≤ 9223372036854775807 by unfold maxLen at hcm; omega)
  obtain ⟨iA, hiA, hzA, hsA, hbA⟩ := info_parts info25
  clear h hR htl hpl ea hn hca hcm
  go_enter Try.func6, Try.ntmps6
  go_upto_region 4 with (first | (go_at_call 7; (with_reducible refine G.out.mono ?_); rintro e w2 ⟨rfl, hw2⟩; subst w2) | (go_at_call 16; (with_reducible refine SRT.out.mono ?_); rintro e w1 ⟨v1, rfl, hso⟩; have HSO := Lib.hid hso; obtain ⟨g0, Q0, rfl, hso2⟩ := hso; clear hso2))
  clear G SRT
  obtain ⟨g, Q, e, har, hm, hQl, ho, hgw, _, _⟩ := HSO.out.open' (by rw [← HN.out]; omega)
  obtain rfl : g0 = g := by simpa using e
  rw [← HN.out] at har hQl ⊢
  have HAR := Lib.hid har
  have HM := Lib.hid hm
  have HQL := Lib.hid hQl
  have HO := Lib.hid ho
  clear har hm hQl ho HSO e
  have hee : ((n : Int) != (n : Int)) = false := by simp
  go_wp2
  go_loopg [23, 6] n (fun kx s23 s6 wr => ∃ (i t : Nat) (ob : Option Addr) (cb : Nat), s23 = .int .i64 (i : Int) ∧ s6 = .slice ob t cb ∧ (t ≤ i ∧ i ≤ t) ∧ i ≤ n ∧ n - i ≤ kx ∧ Hid (wr.ownsRow w1.heap.size 25 3 (.slice ob t cb) t (acs (P.reverse.take i)) ∧ Old w1 wr))
  case atStart => exact ⟨0, 0, none, 0, rfl, rfl, by omega, Nat.zero_le _, Nat.le_refl _, Lib.hid ⟨World.ownsRow_nil _ _ _ _, Old.refl _⟩⟩
  case round =>
    obtain ⟨i, t, ob, cb, rfl, rfl, hti, hi, hix, HS⟩ := hrel
    by_cases hlt : i < n
    · have hlti : (i : Int) < (n : Int) := by omega
      obtain ⟨r, hr⟩ : ∃ r, r = n - 1 - i := ⟨_, rfl⟩
      have er : (n : Int) - 1 - (i : Int) = (r : Int) := by omega
      have hrn : r < n := by omega
      obtain ⟨x, hx⟩ : ∃ x, P[r]? = some x := ⟨P[r]'(by rw [← HN.out]; exact hrn), List.getElem?_eq_getElem _⟩
      obtain ⟨gl, ol, rfl, hgl, k0, k1, k2⟩ := HE.out r x hx
      have HOW := Lib.hid (HO.out.trans HS.out.2)
      have c0 := (HOW.out.cell (p := ⟨gl, ol + r * 3, none⟩) hgl).trans k0
      have c1 := (HOW.out.cell (p := ⟨gl, ol + r * 3 + 1, none⟩) hgl).trans k1
      have c2 := (HOW.out.cell (p := ⟨gl, ol + r * 3 + 2, none⟩) hgl).trans k2
      have hrv : P.reverse[i]? = some x := by
        rw [List.getElem?_reverse (by have := HN.out; omega), ← HN.out, ← hr]
        exact hx
      have HTK := Lib.hid (show acs (P.reverse.take (i + 1)) = acs (P.reverse.take i) ++ acs [x] by rw [List.take_add_one, hrv, acs_app]; rfl)
      have hxi := HH.out.tup hx
      obtain ⟨⟨xr, xt, xs⟩, xv⟩ := x
      simp only at c0 c1 c2 hxi
      obtain ⟨ot0, ct0, et⟩ := hxi.slice
      have HONE := Lib.hid (show ∀ u ∈ acs [(⟨xr, xt, xs⟩, xv)], u.oneCell' = true from acs_one (w := w) (fun p hp => by rw [List.mem_singleton] at hp; subst hp; exact hxi))
      subst et
      generalize xt.length = mx at *
      have HTI := Lib.hid hti
      have h0i : (0 : Int) ≤ (i : Int) := by omega
      have h0r : (0 : Int) ≤ (r : Int) := by omega
      have hri : (r : Int) < (n : Int) := by omega
      have A0 := Lib.hid ((Old.refl wr).alloc (.cells #[.int .i64 xr, .slice ot0 mx ct0, .int .i64 xs] 25))
      have AC := Lib.hid (ar_one_new (W := wr) (⟨xr, xt, xs⟩, .slice ot0 mx ct0))
      have AR0 := Lib.hid (own_old HS.out.1 A0.out)
      have L1 := Lib.hid (show (t + 1) * 40 ≤ 140737488355328 by omega)
      have L2 := Lib.hid (show t + 1 ≤ maxLen by unfold maxLen; omega)
      have L3 := Lib.hid (Nat.le_trans HS.out.2.size A0.out.size)
      clear hx hr hgl k0 k1 k2 hrv hxi hti
      go_upto_region 11 with (at_builtin; refine wpList_appC _ rfl _ _ 22 rfl w1.heap.size 25 iA _ 3 40 Try.underlying22 hiA hzA hsA hbA rfl (Nat.zero_lt_succ 2) (.slice ob t cb) t (acs (P.reverse.take i)) rfl AR0.out (.slice (some ⟨wr.heap.size, 0, none⟩) 1 1) 1 (acs [(⟨xr, xt, xs⟩, .slice ot0 mx ct0)]) rfl AC.out HONE.out L1.out L2.out L3.out ?_; intro v2 W2 hown hgrow _; obtain ⟨o2, cb2, rfl⟩ := own_shape hown; have R2 := Lib.hid hown; have O2 := Lib.hid ((HS.out.2.trans A0.out).grown hgrow (fun j hj => own_base AR0.out j hj)); clear hown hgrow)
      clear AR0 AC A0 L1 L2 L3 HONE c0 c1 c2
      obtain ⟨qi, hqi⟩ : ∃ q, Q[i]? = some q := ⟨Q[i]'(by have := HQL.out; omega), List.getElem?_eq_getElem _⟩
      have HQI := Lib.hid hqi
      have HI1 := Lib.hid (show i < n ∧ n ≤ n ∧ n ≤ 9223372036854775807 by omega)
      clear hqi
      go_wp2
      go_loopg [39, 8] n (fun kx s39 s8 wr => ∃ (k : Nat) (c : Int), s39 = .int .i64 (k : Int) ∧ s8 = .int .i64 c ∧ k ≤ n ∧ n - k ≤ kx ∧ (-60 ≤ c ∧ c ≤ 60) ∧ Hid (c = (((Q.map (·.1)).take k).count qi.1 : Int) - (((P.map (·.1)).take k).count qi.1 : Int)) ∧ Hid (Old w1 wr ∧ wr.ownsRow w1.heap.size 25 3 (.slice o2 (t + 1) cb2) (t + 1) (acs (P.reverse.take i) ++ acs [(⟨xr, xt, xs⟩, .slice ot0 mx ct0)])))
      case atStart => exact ⟨0, 0, rfl, rfl, Nat.zero_le _, Nat.le_refl _, by omega, Lib.hid (by simp), Lib.hid ⟨O2.out, R2.out⟩⟩
      case round =>
        clear O2 R2
        obtain ⟨k, c, rfl, rfl, hk, hkx2, hcb, HC, HWR⟩ := hrel
        have HW := Lib.hid HWR.out.1
        by_cases hlt2 : k < n
        · have hlti2 : (k : Int) < (n : Int) := by omega
          have h0k : (0 : Int) ≤ (k : Int) := by omega
          obtain ⟨qk, hqk⟩ : ∃ q, Q[k]? = some q := ⟨Q[k]'(by have := HQL.out; omega), List.getElem?_eq_getElem _⟩
          obtain ⟨pk, hpk⟩ : ∃ q, P[k]? = some q := ⟨P[k]'(by have := HN.out; omega), List.getElem?_eq_getElem _⟩
          have a1 := HAR.out.one HQL.out.symm hqk
          have a2 := HAR.out.one HQL.out.symm HQI.out
          have a3 := (HH.out.old HO.out).one HN.out hpk
          obtain ⟨B1, hB1⟩ : ∃ B, B = decide ([qk].map (·.1) = [qi].map (·.1)) := ⟨_, rfl⟩
          obtain ⟨B2, hB2⟩ : ∃ B, B = decide ([pk].map (·.1) = [qi].map (·.1)) := ⟨_, rfl⟩
          have HSA := Lib.hid (fun W (ho : Old w1 W) => sameAll_any (a1.old ho) (a2.old ho))
          have HSB := Lib.hid (fun W (ho : Old w1 W) => sameAll_any (a3.old ho) (a2.old ho))
          rw [← hB1] at HSA
          rw [← hB2] at HSB
          have e1 : bi B1 = if qk.1 = qi.1 then 1 else 0 := by
            rw [hB1]; unfold bi
            by_cases h : qk.1 = qi.1 <;> simp [h]
          have e2 : bi B2 = if pk.1 = qi.1 then 1 else 0 := by
            rw [hB2]; unfold bi
            by_cases h : pk.1 = qi.1 <;> simp [h]
          have q1 := count_takeA qi.1 (show (Q.map (·.1))[k]? = some qk.1 by rw [List.getElem?_map, hqk]; rfl)
          have q2 := count_takeA qi.1 (show (P.map (·.1))[k]? = some pk.1 by rw [List.getElem?_map, hpk]; rfl)
          have r1 : ((Q.map (·.1)).take (k + 1)).count qi.1 ≤ n := Nat.le_trans List.count_le_length (by rw [List.length_take, List.length_map]; have := HQL.out; omega)
          have r2 : ((P.map (·.1)).take (k + 1)).count qi.1 ≤ n := Nat.le_trans List.count_le_length (by rw [List.length_take, List.length_map]; have := HN.out; omega)
          have hb1 : bi B1 = 0 ∨ bi B1 = 1 := by rw [e1]; split <;> simp
          have hb2 : bi B2 = 0 ∨ bi B2 = 1 := by rw [e2]; split <;> simp
          obtain ⟨c1, hc1⟩ : ∃ c1, c1 = c + bi B1 := ⟨_, rfl⟩
          obtain ⟨c2, hc2⟩ : ∃ c2, c2 = c1 - bi B2 := ⟨_, rfl⟩
          have hcc : c2 = (((Q.map (·.1)).take (k + 1)).count qi.1 : Int) - (((P.map (·.1)).take (k + 1)).count qi.1 : Int) := by
            have := HC.out
            rw [q1, q2, hc2, hc1, this, e1, e2]
            split <;> split <;> simp <;> omega
          have hc1b : -60 ≤ c1 ∧ c1 ≤ 61 := by omega
          have hc2b : -60 ≤ c2 ∧ c2 ≤ 60 := by omega
          have HC1 := Lib.hid hc1
          have HC2 := Lib.hid hc2
          have HCC := Lib.hid hcc
          have HK1 := Lib.hid (show k < n ∧ n ≤ n ∧ n ≤ 9223372036854775807 by omega)
          have HK2 := Lib.hid (show k < n ∧ n ≤ ca ∧ ca ≤ 9223372036854775807 by have := HCA.out; omega)
          clear hqk hpk a1 a2 a3 hB1 hB2 e1 e2 q1 q2 r1 r2 hb1 hb2 hc1 hc2 hcc
          have hwk : IntKind.i64.wrap ((k : Int) + 1) = (k : Int) + 1 := by rw [IntKind.wrap_i64]; omega
          have hwi : IntKind.i64.wrap ((i : Int) + 1) = (i : Int) + 1 := by rw [IntKind.wrap_i64]; omega
          go_upto_region 15 with fail
          go_cut [52] from 42 to 53 (fun s52 wx => s52 = .bool B1 ∧ Hid (Old wr wx))
          case first =>
            refine wp_region_inv (spOf [.eq (.slice (some ⟨g0, 0, none⟩) n n), .eq (.int .i64 (k : Int)), .eq (.int .i64 (k : Int)), .eq (.int .i64 ((k : Int) + 1)), .eq (.slice (some ⟨g0, 0 + k * 3, none⟩) 1 (n - k)), .eq (.slice (some ⟨g0, 0, none⟩) n n), .eq (.int .i64 (i : Int)), .eq (.int .i64 (i : Int)), .eq (.int .i64 ((i : Int) + 1)), .eq (.slice (some ⟨g0, 0 + i * 3, none⟩) 1 (n - i)), .eq (.bool B1)]) (by kernel_rfl) (by kernel_rfl) (spOf_mono _) ?_ ?_
            · refine ⟨?_, ?_, ?_, ?_, ?_, ?_, ?_, ?_, ?_, ?_, ?_, trivial⟩
              · refine step_plain rfl fun ρ w2 ho hr hd => ?_
                have x0 : ρ (.tmp 5) = .slice (some ⟨g0, 0, none⟩) n n := (hr.1 5 rfl).trans rfl
                exact does_move rfl x0 ⟨rfl, Old.refl _⟩
              · refine step_plain rfl fun ρ w2 ho hr hd => ?_
                have x0 : ρ (.tmp 9) = .int .i64 (k : Int) := (hr.1 9 rfl).trans rfl
                exact does_move rfl x0 ⟨rfl, Old.refl _⟩
              · refine step_plain rfl fun ρ w2 ho hr hd => ?_
                have x0 : ρ (.tmp 9) = .int .i64 (k : Int) := (hr.1 9 rfl).trans rfl
                exact does_move rfl x0 ⟨rfl, Old.refl _⟩
              · refine step_plain rfl fun ρ w2 ho hr hd => ?_
                obtain ⟨h0, _⟩ := hd
                have x0 : ρ (.tmp 44) = .int .i64 (k : Int) := h0 rfl
                refine does_value (v := .int .i64 ((k : Int) + 1)) (w' := w2) ?_ ⟨rfl, Old.refl _⟩
                unfold execOp
                simp only [x0, hr.2.1]
                go_simp
              · refine step_plain rfl fun ρ w2 ho hr hd => ?_
                obtain ⟨h0, h1, h2, _⟩ := hd
                have x0 : ρ (.tmp 42) = .slice (some ⟨g0, 0, none⟩) n n := h0 rfl
                have y0 : ρ (.tmp 43) = .int .i64 (k : Int) := h1 rfl
                have z0 : ρ (.tmp 45) = .int .i64 ((k : Int) + 1) := h2 rfl
                exact does_part rfl x0 y0 z0 HK1.out ⟨rfl, Old.refl _⟩
              · refine step_plain rfl fun ρ w2 ho hr hd => ?_
                have x0 : ρ (.tmp 5) = .slice (some ⟨g0, 0, none⟩) n n := (hr.1 5 rfl).trans rfl
                exact does_move rfl x0 ⟨rfl, Old.refl _⟩
              · refine step_plain rfl fun ρ w2 ho hr hd => ?_
                have x0 : ρ (.tmp 7) = .int .i64 (i : Int) := (hr.1 7 rfl).trans rfl
                exact does_move rfl x0 ⟨rfl, Old.refl _⟩
              · refine step_plain rfl fun ρ w2 ho hr hd => ?_
                have x0 : ρ (.tmp 7) = .int .i64 (i : Int) := (hr.1 7 rfl).trans rfl
                exact does_move rfl x0 ⟨rfl, Old.refl _⟩
              · refine step_plain rfl fun ρ w2 ho hr hd => ?_
                obtain ⟨h0, _⟩ := hd
                have x0 : ρ (.tmp 49) = .int .i64 (i : Int) := h0 rfl
                refine does_value (v := .int .i64 ((i : Int) + 1)) (w' := w2) ?_ ⟨rfl, Old.refl _⟩
                unfold execOp
                simp only [x0, hr.2.1]
                go_simp
              · refine step_plain rfl fun ρ w2 ho hr hd => ?_
                obtain ⟨h0, h1, h2, _⟩ := hd
                have x0 : ρ (.tmp 47) = .slice (some ⟨g0, 0, none⟩) n n := h0 rfl
                have y0 : ρ (.tmp 48) = .int .i64 (i : Int) := h1 rfl
                have z0 : ρ (.tmp 50) = .int .i64 ((i : Int) + 1) := h2 rfl
                exact does_part rfl x0 y0 z0 HI1.out ⟨rfl, Old.refl _⟩
              · refine step_plain rfl fun ρ w2 ho hr hd => ?_
                obtain ⟨h0, h1, _⟩ := hd
                have x0 := h0 rfl
                have x1 := h1 rfl
                exact does_call2 rfl (hr.2.2.2 _) x0 x1 rfl ((HSA.out w2 (HW.out.trans ho)).mono fun e w' h => ⟨_, h.1, rfl, h.2⟩)
            · intro a' w' hoE hst hl
              obtain ⟨_, _, _, _, _, _, _, _, _, _, k10, _⟩ := hl
              have e10 : a'.eval (.tmp 52) = .bool B1 := k10
              rw [act_fresh hst [false, false, false, false, false, false, false, false, false, false, false, false, false, false, false, false, false, false, false, false, false, false, false, false, false, false, false, false, false, false, false, false, false, false, false, false, false, false, false, false, false, false, true, true, true, true, true, true, true, true, true, true, true, false, false, false, false, false, false, false, false, false, false, false, false, false, false, false, false, false, false, false, false, false, false, false, false, false, false, false, false, false, false, false, false, false, false, false, false, false, false, false, false, false, false, false, false, false, false, false, false, false, false, false, false] (by kernel_rfl) (by kernel_rfl)]
              simp only [fresh, e10]
              clear hst k10 e10
              go_wp2_with fail
              go_meet
              case rel => exact ⟨rfl, Lib.hid hoE⟩
          case rest =>
          obtain ⟨rfl, HA⟩ := hcut
          go_upto_if 52 with fail
          go_cut [8] from 53 to 55 (fun s8 wx => s8 = .int .i64 c1 ∧ wx = wc)
          case first =>
            cases B1 with
            | true =>
              have hv : c1 = c + 1 := HC1.out
              have hv' := Lib.hid hv
              clear hv
              go_wp2_with fail
              go_meet
              case rel => exact ⟨by rw [hv'.out], rfl⟩
            | false =>
              have hv' := Lib.hid (show c1 = c by rw [HC1.out]; simp [bi])
              go_wp2_with fail
              go_meet
              case rel => exact ⟨by rw [hv'.out], rfl⟩
          case rest =>
          obtain ⟨rfl, rfl⟩ := hcut
          replace HW := Lib.hid (HW.out.trans HA.out)
          have HWR2 := Lib.hid (own_old HWR.out.2 HA.out)
          clear HWR HA
          go_upto_region 17 with fail
          obtain ⟨wr, rfl⟩ : ∃ W, W = wc := ⟨_, rfl⟩
          go_cut [65] from 55 to 66 (fun s65 wx => s65 = .bool B2 ∧ Hid (Old wr wx))
          case first =>
            refine wp_region_inv (spOf [.eq (.slice (some ⟨gl, ol, none⟩) n ca), .eq (.int .i64 (k : Int)), .eq (.int .i64 (k : Int)), .eq (.int .i64 ((k : Int) + 1)), .eq (.slice (some ⟨gl, ol + k * 3, none⟩) 1 (ca - k)), .eq (.slice (some ⟨g0, 0, none⟩) n n), .eq (.int .i64 (i : Int)), .eq (.int .i64 (i : Int)), .eq (.int .i64 ((i : Int) + 1)), .eq (.slice (some ⟨g0, 0 + i * 3, none⟩) 1 (n - i)), .eq (.bool B2)]) (by kernel_rfl) (by kernel_rfl) (spOf_mono _) ?_ ?_
            · refine ⟨?_, ?_, ?_, ?_, ?_, ?_, ?_, ?_, ?_, ?_, ?_, trivial⟩
              · refine step_plain rfl fun ρ w2 ho hr hd => ?_
                have x0 : ρ (.tmp 1) = .slice (some ⟨gl, ol, none⟩) n ca := (hr.1 1 rfl).trans rfl
                exact does_move rfl x0 ⟨rfl, Old.refl _⟩
              · refine step_plain rfl fun ρ w2 ho hr hd => ?_
                have x0 : ρ (.tmp 9) = .int .i64 (k : Int) := (hr.1 9 rfl).trans rfl
                exact does_move rfl x0 ⟨rfl, Old.refl _⟩
              · refine step_plain rfl fun ρ w2 ho hr hd => ?_
                have x0 : ρ (.tmp 9) = .int .i64 (k : Int) := (hr.1 9 rfl).trans rfl
                exact does_move rfl x0 ⟨rfl, Old.refl _⟩
              · refine step_plain rfl fun ρ w2 ho hr hd => ?_
                obtain ⟨h0, _⟩ := hd
                have x0 : ρ (.tmp 57) = .int .i64 (k : Int) := h0 rfl
                refine does_value (v := .int .i64 ((k : Int) + 1)) (w' := w2) ?_ ⟨rfl, Old.refl _⟩
                unfold execOp
                simp only [x0, hr.2.1]
                go_simp
              · refine step_plain rfl fun ρ w2 ho hr hd => ?_
                obtain ⟨h0, h1, h2, _⟩ := hd
                have x0 : ρ (.tmp 55) = .slice (some ⟨gl, ol, none⟩) n ca := h0 rfl
                have y0 : ρ (.tmp 56) = .int .i64 (k : Int) := h1 rfl
                have z0 : ρ (.tmp 58) = .int .i64 ((k : Int) + 1) := h2 rfl
                exact does_part rfl x0 y0 z0 HK2.out ⟨rfl, Old.refl _⟩
              · refine step_plain rfl fun ρ w2 ho hr hd => ?_
                have x0 : ρ (.tmp 5) = .slice (some ⟨g0, 0, none⟩) n n := (hr.1 5 rfl).trans rfl
                exact does_move rfl x0 ⟨rfl, Old.refl _⟩
              · refine step_plain rfl fun ρ w2 ho hr hd => ?_
                have x0 : ρ (.tmp 7) = .int .i64 (i : Int) := (hr.1 7 rfl).trans rfl
                exact does_move rfl x0 ⟨rfl, Old.refl _⟩
              · refine step_plain rfl fun ρ w2 ho hr hd => ?_
                have x0 : ρ (.tmp 7) = .int .i64 (i : Int) := (hr.1 7 rfl).trans rfl
                exact does_move rfl x0 ⟨rfl, Old.refl _⟩
              · refine step_plain rfl fun ρ w2 ho hr hd => ?_
                obtain ⟨h0, _⟩ := hd
                have x0 : ρ (.tmp 62) = .int .i64 (i : Int) := h0 rfl
                refine does_value (v := .int .i64 ((i : Int) + 1)) (w' := w2) ?_ ⟨rfl, Old.refl _⟩
                unfold execOp
                simp only [x0, hr.2.1]
                go_simp
              · refine step_plain rfl fun ρ w2 ho hr hd => ?_
                obtain ⟨h0, h1, h2, _⟩ := hd
                have x0 : ρ (.tmp 60) = .slice (some ⟨g0, 0, none⟩) n n := h0 rfl
                have y0 : ρ (.tmp 61) = .int .i64 (i : Int) := h1 rfl
                have z0 : ρ (.tmp 63) = .int .i64 ((i : Int) + 1) := h2 rfl
                exact does_part rfl x0 y0 z0 HI1.out ⟨rfl, Old.refl _⟩
              · refine step_plain rfl fun ρ w2 ho hr hd => ?_
                obtain ⟨h0, h1, _⟩ := hd
                have x0 := h0 rfl
                have x1 := h1 rfl
                exact does_call2 rfl (hr.2.2.2 _) x0 x1 rfl ((HSB.out w2 (HW.out.trans ho)).mono fun e w' h => ⟨_, h.1, rfl, h.2⟩)
            · intro a' w' hoE hst hl
              obtain ⟨_, _, _, _, _, _, _, _, _, _, k10, _⟩ := hl
              have e10 : a'.eval (.tmp 65) = .bool B2 := k10
              rw [act_fresh hst [false, false, false, false, false, false, false, false, false, false, false, false, false, false, false, false, false, false, false, false, false, false, false, false, false, false, false, false, false, false, false, false, false, false, false, false, false, false, false, false, false, false, false, false, false, false, false, false, false, false, false, false, false, false, false, true, true, true, true, true, true, true, true, true, true, true, false, false, false, false, false, false, false, false, false, false, false, false, false, false, false, false, false, false, false, false, false, false, false, false, false, false, false, false, false, false, false, false, false, false, false, false, false, false, false] (by kernel_rfl) (by kernel_rfl)]
              simp only [fresh, e10]
              clear hst k10 e10
              go_wp2_with fail
              go_meet
              case rel => exact ⟨rfl, Lib.hid hoE⟩
          case rest =>
          obtain ⟨rfl, HA⟩ := hcut
          cases B2 with
          | true =>
            have hv' := Lib.hid (show c2 = c1 - 1 from HC2.out)
            go_wp2_with fail
            go_roundg (n - (k + 1))
            case measure => omega
            case rel => exact ⟨k + 1, c2, by go_num, by rw [hv'.out], hlt2, Nat.le_refl _, hc2b, HCC, Lib.hid ⟨HW.out.trans HA.out, own_old HWR2.out HA.out⟩⟩
          | false =>
            have hv' := Lib.hid (show c2 = c1 by rw [HC2.out]; simp [bi])
            go_wp2_with fail
            go_roundg (n - (k + 1))
            case measure => omega
            case rel => exact ⟨k + 1, c2, by go_num, by rw [hv'.out], hlt2, Nat.le_refl _, hc2b, HCC, Lib.hid ⟨HW.out.trans HA.out, own_old HWR2.out HA.out⟩⟩
        · have hlti2 : ¬ (k : Int) < (n : Int) := by omega
          have hc0 : c = 0 := by
            have h1 := HC.out
            rw [List.take_of_length_le (by rw [List.length_map]; have := HQL.out; omega), List.take_of_length_le (by rw [List.length_map]; have := HN.out; omega), HM.out, (ord_perm s (P.map (·.1))).count_eq] at h1
            omega
          subst hc0
          by_cases hi0 : i = 0
          · subst hi0
            go_upto_region 20 with fail
            refine wp_region_inv (spOf [.eq (.int .i64 0), .eq (.bool false), .eq (.bool false), .eq (.int .i64 0), .eq (.bool false), .eq (.bool false), .any, .any, .any, .any, .any, .any, .any, .any, .any, .any, .any, .any, .eq (.bool false), .eq (.bool false)]) (by kernel_rfl) (by kernel_rfl) (spOf_mono _) ?_ ?_
            · refine ⟨?_, ?_, ?_, ?_, ?_, ?_, ?_, ?_, ?_, ?_, ?_, ?_, ?_, ?_, ?_, ?_, ?_, ?_, ?_, ?_, trivial⟩
              · refine step_plain rfl fun ρ w2 ho hr hd => ?_
                have x0 : ρ (.tmp 8) = .int .i64 0 := (hr.1 8 rfl).trans rfl
                exact does_move rfl x0 ⟨rfl, Old.refl _⟩
              · refine step_plain rfl fun ρ w2 ho hr hd => ?_
                obtain ⟨h0, _⟩ := hd
                have x0 : ρ (.tmp 69) = .int .i64 0 := h0 rfl
                refine does_value (v := .bool false) (w' := w2) ?_ ⟨rfl, Old.refl _⟩
                unfold execOp
                simp only [x0, hr.2.1]
                go_simp
              · refine step_plain rfl fun ρ w2 ho hr hd => ?_
                obtain ⟨h0, _⟩ := hd
                have x0 : ρ (.tmp 70) = .bool false := h0 rfl
                exact does_move rfl x0 ⟨rfl, Old.refl _⟩
              · refine step_guard rfl fun ρ w2 ho hr hd => ?_
                obtain ⟨h0, _⟩ := hd
                have hgd : ρ (.tmp 71) = .bool false := h0 rfl
                have x0 : ρ (.tmp 7) = .int .i64 0 := (hr.1 7 rfl).trans rfl
                refine ⟨hgd, ?_⟩
                exact does_move rfl x0 ⟨rfl, Old.refl _⟩
              · refine step_guard rfl fun ρ w2 ho hr hd => ?_
                obtain ⟨h0, h1, _⟩ := hd
                have hgd : ρ (.tmp 71) = .bool false := h1 rfl
                have x0 : ρ (.tmp 72) = .int .i64 0 := h0 rfl
                refine ⟨hgd, ?_⟩
                refine does_value (v := .bool false) (w' := w2) ?_ ⟨rfl, Old.refl _⟩
                unfold execOp
                simp only [x0, hr.2.1]
                go_simp
              · refine step_guard rfl fun ρ w2 ho hr hd => ?_
                obtain ⟨h0, h1, h2, _⟩ := hd
                have hgd : ρ (.tmp 71) = .bool false := h2 rfl
                have x0 : ρ (.tmp 73) = .bool false := h0 rfl
                refine ⟨hgd, ?_⟩
                exact does_move rfl x0 ⟨rfl, Old.refl _⟩
              · refine step_skip rfl (fun ρ w2 ho hr hd => ?_) (fun _ => trivial)
                obtain ⟨h0, _⟩ := hd
                have hgd : ρ (.tmp 74) = .bool false := h0 rfl
                exact hgd
              · refine step_skip rfl (fun ρ w2 ho hr hd => ?_) (fun _ => trivial)
                obtain ⟨h0, _⟩ := hd
                have hgd : ρ (.tmp 74) = .bool false := h0 rfl
                exact hgd
              · refine step_skip rfl (fun ρ w2 ho hr hd => ?_) (fun _ => trivial)
                obtain ⟨h0, _⟩ := hd
                have hgd : ρ (.tmp 74) = .bool false := h0 rfl
                exact hgd
              · refine step_skip rfl (fun ρ w2 ho hr hd => ?_) (fun _ => trivial)
                obtain ⟨h0, h1, h2, _⟩ := hd
                have hgd : ρ (.tmp 74) = .bool false := h2 rfl
                exact hgd
              · refine step_skip rfl (fun ρ w2 ho hr hd => ?_) (fun _ => trivial)
                obtain ⟨h0, h1, _⟩ := hd
                have hgd : ρ (.tmp 74) = .bool false := h1 rfl
                exact hgd
              · refine step_skip rfl (fun ρ w2 ho hr hd => ?_) (fun _ => trivial)
                obtain ⟨h0, _⟩ := hd
                have hgd : ρ (.tmp 74) = .bool false := h0 rfl
                exact hgd
              · refine step_skip rfl (fun ρ w2 ho hr hd => ?_) (fun _ => trivial)
                obtain ⟨h0, _⟩ := hd
                have hgd : ρ (.tmp 74) = .bool false := h0 rfl
                exact hgd
              · refine step_skip rfl (fun ρ w2 ho hr hd => ?_) (fun _ => trivial)
                obtain ⟨h0, h1, _⟩ := hd
                have hgd : ρ (.tmp 74) = .bool false := h1 rfl
                exact hgd
              · refine step_skip rfl (fun ρ w2 ho hr hd => ?_) (fun _ => trivial)
                obtain ⟨h0, h1, h2, _⟩ := hd
                have hgd : ρ (.tmp 74) = .bool false := h2 rfl
                exact hgd
              · refine step_skip rfl (fun ρ w2 ho hr hd => ?_) (fun _ => trivial)
                obtain ⟨h0, h1, _⟩ := hd
                have hgd : ρ (.tmp 74) = .bool false := h1 rfl
                exact hgd
              · refine step_skip rfl (fun ρ w2 ho hr hd => ?_) (fun _ => trivial)
                obtain ⟨h0, h1, h2, h3, h4, _⟩ := hd
                have hgd : ρ (.tmp 74) = .bool false := h4 rfl
                exact hgd
              · refine step_skip rfl (fun ρ w2 ho hr hd => ?_) (fun _ => trivial)
                obtain ⟨h0, h1, _⟩ := hd
                have hgd : ρ (.tmp 74) = .bool false := h1 rfl
                exact hgd
              · refine step_guard rfl fun ρ w2 ho hr hd => ?_
                obtain ⟨h0, h1, h2, _⟩ := hd
                have hgd : ρ (.tmp 71) = .bool false := h2 rfl
                have x0 : ρ (.tmp 74) = .bool false := h0 rfl
                refine ⟨hgd, ?_⟩
                exact does_pick rfl x0 (hr.2.1 _) ⟨rfl, Old.refl _⟩
              · refine step_plain rfl fun ρ w2 ho hr hd => ?_
                obtain ⟨h0, h1, _⟩ := hd
                have x0 : ρ (.tmp 71) = .bool false := h0 rfl
                have y0 : ρ (.tmp 87) = .bool false := h1 rfl
                exact does_pick rfl x0 y0 ⟨rfl, Old.refl _⟩
            · intro a' w' hoE hst hl
              obtain ⟨_, _, _, _, _, _, _, _, _, _, _, _, _, _, _, _, _, _, _, k19, _⟩ := hl
              have e19 : a'.eval (.tmp 88) = .bool false := k19
              rw [act_fresh hst [false, false, false, false, false, false, false, false, false, false, false, false, false, false, false, false, false, false, false, false, false, false, false, false, false, false, false, false, false, false, false, false, false, false, false, false, false, false, false, false, false, false, false, false, false, false, false, false, false, false, false, false, false, false, false, false, false, false, false, false, false, false, false, false, false, false, false, false, false, true, true, true, true, true, true, true, true, true, true, true, true, true, true, true, true, true, true, true, true, false, false, false, false, false, false, false, false, false, false, false, false, false, false, false, false] (by kernel_rfl) (by kernel_rfl)]
              simp only [fresh, e19]
              clear hst k19 e19
              go_wp2_with fail
              go_roundg (n - (0 + 1))
              case measure => omega
              case rel => exact ⟨0 + 1, t + 1, o2, cb2, by go_num, rfl, by have := HTI.out; omega, hlt, Nat.le_refl _, Lib.hid ⟨by rw [HTK.out]; exact own_old HWR.out.2 hoE, HW.out.trans hoE⟩⟩
          · obtain ⟨q, hq⟩ : ∃ q, i = q + 1 := ⟨i - 1, by omega⟩
            obtain ⟨qp, hqp⟩ : ∃ x, Q[q]? = some x := ⟨Q[q]'(by have := HQL.out; omega), List.getElem?_eq_getElem _⟩
            obtain ⟨oa', ca', ee, _, _, eb⟩ := HAR.out.shape
            obtain ⟨g1, ob1, e1, hg1, a0, a1, a2⟩ := eb _ _ HQI.out
            obtain ⟨g2, ob2, e2, hg2, b0, b1, b2⟩ := eb _ _ hqp
            have e0 : oa' = some ⟨g0, 0, none⟩ := by simp at ee; exact ee.1.symm
            subst e0
            simp only [Option.some.injEq, Addr.mk.injEq, and_true] at e1 e2
            obtain ⟨rfl, rfl⟩ := e1
            obtain ⟨rfl, rfl⟩ := e2
            rw [Nat.zero_add] at a0 a1 a2 b0 b1 b2
            have c0 := (HW.out.cell (p := ⟨g0, i * 3, none⟩) hg1).trans a0
            have c1 := (HW.out.cell (p := ⟨g0, i * 3 + 1, none⟩) hg1).trans a1
            have c2 := (HW.out.cell (p := ⟨g0, i * 3 + 2, none⟩) hg1).trans a2
            have d0 := (HW.out.cell (p := ⟨g0, q * 3, none⟩) hg1).trans b0
            have d1 := (HW.out.cell (p := ⟨g0, q * 3 + 1, none⟩) hg1).trans b1
            have d2 := (HW.out.cell (p := ⟨g0, q * 3 + 2, none⟩) hg1).trans b2
            have HGW := Lib.hid (Nat.lt_of_lt_of_le hg1 HW.out.size)
            have i1 := HAR.out.tup HQI.out
            have i2 := HAR.out.tup hqp
            have hsrt := List.pairwise_iff_getElem.1 (ord_sorted s (P.map (·.1))) q i (by rw [← HM.out, List.length_map]; have := HQL.out; omega) (by rw [← HM.out, List.length_map]; have := HQL.out; omega) (by omega)
            have hl1 : qi.1.tup.length ≤ 20 := by
              have h1 : qi.1 ∈ P.map (·.1) := (ord_perm s _).mem_iff.1 (by rw [← HM.out]; exact List.mem_map.2 ⟨qi, List.mem_of_getElem? HQI.out, rfl⟩)
              obtain ⟨p, hp, e⟩ := List.mem_map.1 h1
              rw [← e]
              exact HTL.out p hp
            have hl2 : qp.1.tup.length ≤ 20 := by
              have h1 : qp.1 ∈ P.map (·.1) := (ord_perm s _).mem_iff.1 (by rw [← HM.out]; exact List.mem_map.2 ⟨qp, List.mem_of_getElem? hqp, rfl⟩)
              obtain ⟨p, hp, e⟩ := List.mem_map.1 h1
              rw [← e]
              exact HTL.out p hp
            have hcn0 : cmpA s qp.1 qi.1 ≤ 0 := by
              have e1 : (ord s (P.map (·.1)))[q]? = some qp.1 := by rw [← HM.out, List.getElem?_map, hqp]; rfl
              have e2 : (ord s (P.map (·.1)))[i]? = some qi.1 := by rw [← HM.out, List.getElem?_map, HQI.out]; rfl
              rw [(List.getElem?_eq_some_iff.1 e1).2, (List.getElem?_eq_some_iff.1 e2).2] at hsrt
              exact hsrt
            have hcn : ¬ cmpA s qi.1 qp.1 < 0 := by have := (cp_cmpA s).anti qp.1 qi.1; omega
            have HCC := Lib.hid (fun W (ho : Old w1 W) => cmp_any s qi qp (i1.old ho) (i2.old ho) (by omega) (by omega))
            generalize cmpA s qi.1 qp.1 = c at hcn HCC
            obtain ⟨⟨pr, pt, ps⟩, pv⟩ := qi
            obtain ⟨⟨qr, qt, qs⟩, qv⟩ := qp
            simp only at c0 c1 c2 d0 d1 d2 i1 i2
            obtain ⟨ot, ct, et⟩ := i1.slice
            obtain ⟨ou, cu, eu⟩ := i2.slice
            subst et eu
            unfold av at HCC
            simp only at HCC
            generalize pt.length = m1 at *
            generalize qt.length = m2 at *
            have hq0 : (0 : Int) ≤ (q : Int) := by omega
            have hqn : (q : Int) < (n : Int) := by omega
            have hqe : (i : Int) - 1 = (q : Int) := by omega
            have hi1 : (0 : Int) < (i : Int) := by omega
            have hi2 : 0 < i := by omega
            have hwq : IntKind.i64.wrap (q : Int) = (q : Int) := by rw [IntKind.wrap_i64]; omega
            clear hqp ee eb hg1 hg2 a0 a1 a2 b0 b1 b2 hsrt hl1 hl2 hcn0 hi0 i1 i2 hq
            go_upto_region 20 with fail
            refine wp_region_inv (spOf [.eq (.int .i64 0), .eq (.bool false), .eq (.bool false), .eq (.int .i64 (i : Int)), .eq (.bool true), .eq (.bool true), .eq (.int .u8 s), .eq (.slice (some ⟨g0, 0, none⟩) n n), .eq (.int .i64 (i : Int)), .eq (.pointer (some ⟨g0, i * 3, none⟩)), .eq (.agg #[.int .i64 pr, .slice ot m1 ct, .int .i64 ps]), .eq (.slice (some ⟨g0, 0, none⟩) n n), .eq (.int .i64 (i : Int)), .eq (.int .i64 (q : Int)), .eq (.pointer (some ⟨g0, q * 3, none⟩)), .eq (.agg #[.int .i64 qr, .slice ou m2 cu, .int .i64 qs]), .eq (.int .i64 c), .eq (.bool false), .eq (.bool false), .eq (.bool false)]) (by kernel_rfl) (by kernel_rfl) (spOf_mono _) ?_ ?_
            · refine ⟨?_, ?_, ?_, ?_, ?_, ?_, ?_, ?_, ?_, ?_, ?_, ?_, ?_, ?_, ?_, ?_, ?_, ?_, ?_, ?_, trivial⟩
              · refine step_plain rfl fun ρ w2 ho hr hd => ?_
                have x0 : ρ (.tmp 8) = .int .i64 0 := (hr.1 8 rfl).trans rfl
                exact does_move rfl x0 ⟨rfl, Old.refl _⟩
              · refine step_plain rfl fun ρ w2 ho hr hd => ?_
                obtain ⟨h0, _⟩ := hd
                have x0 : ρ (.tmp 69) = .int .i64 0 := h0 rfl
                refine does_value (v := .bool false) (w' := w2) ?_ ⟨rfl, Old.refl _⟩
                unfold execOp
                simp only [x0, hr.2.1]
                go_simp
              · refine step_plain rfl fun ρ w2 ho hr hd => ?_
                obtain ⟨h0, _⟩ := hd
                have x0 : ρ (.tmp 70) = .bool false := h0 rfl
                exact does_move rfl x0 ⟨rfl, Old.refl _⟩
              · refine step_guard rfl fun ρ w2 ho hr hd => ?_
                obtain ⟨h0, _⟩ := hd
                have hgd : ρ (.tmp 71) = .bool false := h0 rfl
                have x0 : ρ (.tmp 7) = .int .i64 (i : Int) := (hr.1 7 rfl).trans rfl
                refine ⟨hgd, ?_⟩
                exact does_move rfl x0 ⟨rfl, Old.refl _⟩
              · refine step_guard rfl fun ρ w2 ho hr hd => ?_
                obtain ⟨h0, h1, _⟩ := hd
                have hgd : ρ (.tmp 71) = .bool false := h1 rfl
                have x0 : ρ (.tmp 72) = .int .i64 (i : Int) := h0 rfl
                refine ⟨hgd, ?_⟩
                refine does_value (v := .bool true) (w' := w2) ?_ ⟨rfl, Old.refl _⟩
                unfold execOp
                simp only [x0, hr.2.1]
                go_simp
              · refine step_guard rfl fun ρ w2 ho hr hd => ?_
                obtain ⟨h0, h1, h2, _⟩ := hd
                have hgd : ρ (.tmp 71) = .bool false := h2 rfl
                have x0 : ρ (.tmp 73) = .bool true := h0 rfl
                refine ⟨hgd, ?_⟩
                exact does_move rfl x0 ⟨rfl, Old.refl _⟩
              · refine step_guard rfl fun ρ w2 ho hr hd => ?_
                obtain ⟨h0, _⟩ := hd
                have hgd : ρ (.tmp 74) = .bool true := h0 rfl
                have x0 : ρ (.tmp 0) = .int .u8 s := (hr.1 0 rfl).trans rfl
                refine ⟨hgd, ?_⟩
                exact does_move rfl x0 ⟨rfl, Old.refl _⟩
              · refine step_guard rfl fun ρ w2 ho hr hd => ?_
                obtain ⟨h0, _⟩ := hd
                have hgd : ρ (.tmp 74) = .bool true := h0 rfl
                have x0 : ρ (.tmp 5) = .slice (some ⟨g0, 0, none⟩) n n := (hr.1 5 rfl).trans rfl
                refine ⟨hgd, ?_⟩
                exact does_move rfl x0 ⟨rfl, Old.refl _⟩
              · refine step_guard rfl fun ρ w2 ho hr hd => ?_
                obtain ⟨h0, _⟩ := hd
                have hgd : ρ (.tmp 74) = .bool true := h0 rfl
                have x0 : ρ (.tmp 7) = .int .i64 (i : Int) := (hr.1 7 rfl).trans rfl
                refine ⟨hgd, ?_⟩
                exact does_move rfl x0 ⟨rfl, Old.refl _⟩
              · refine step_guard rfl fun ρ w2 ho hr hd => ?_
                obtain ⟨h0, h1, h2, _⟩ := hd
                have hgd : ρ (.tmp 74) = .bool true := h2 rfl
                have x0 : ρ (.tmp 76) = .slice (some ⟨g0, 0, none⟩) n n := h0 rfl
                have y0 : ρ (.tmp 77) = .int .i64 (i : Int) := h1 rfl
                refine ⟨hgd, ?_⟩
                refine does_value (v := .pointer (some ⟨g0, i * 3, none⟩)) (w' := w2) ?_ ⟨rfl, Old.refl _⟩
                unfold execOp
                simp only [x0, y0]
                go_simp
              · refine step_guard rfl fun ρ w2 ho hr hd => ?_
                obtain ⟨h0, h1, _⟩ := hd
                have hgd : ρ (.tmp 74) = .bool true := h1 rfl
                have x0 : ρ (.tmp 78) = .pointer (some ⟨g0, i * 3, none⟩) := h0 rfl
                have q0 := (ho.cell HGW.out).trans c0
                have q1 := (ho.cell HGW.out).trans c1
                have q2 := (ho.cell HGW.out).trans c2
                refine ⟨hgd, ?_⟩
                refine does_value (v := .agg #[.int .i64 pr, .slice ot m1 ct, .int .i64 ps]) (w' := w2) ?_ ⟨rfl, Old.refl _⟩
                unfold execOp
                simp only [x0]
                go_simp
              · refine step_guard rfl fun ρ w2 ho hr hd => ?_
                obtain ⟨h0, _⟩ := hd
                have hgd : ρ (.tmp 74) = .bool true := h0 rfl
                have x0 : ρ (.tmp 5) = .slice (some ⟨g0, 0, none⟩) n n := (hr.1 5 rfl).trans rfl
                refine ⟨hgd, ?_⟩
                exact does_move rfl x0 ⟨rfl, Old.refl _⟩
              · refine step_guard rfl fun ρ w2 ho hr hd => ?_
                obtain ⟨h0, _⟩ := hd
                have hgd : ρ (.tmp 74) = .bool true := h0 rfl
                have x0 : ρ (.tmp 7) = .int .i64 (i : Int) := (hr.1 7 rfl).trans rfl
                refine ⟨hgd, ?_⟩
                exact does_move rfl x0 ⟨rfl, Old.refl _⟩
              · refine step_guard rfl fun ρ w2 ho hr hd => ?_
                obtain ⟨h0, h1, _⟩ := hd
                have hgd : ρ (.tmp 74) = .bool true := h1 rfl
                have x0 : ρ (.tmp 81) = .int .i64 (i : Int) := h0 rfl
                refine ⟨hgd, ?_⟩
                refine does_value (v := .int .i64 (q : Int)) (w' := w2) ?_ ⟨rfl, Old.refl _⟩
                unfold execOp
                simp only [x0, hr.2.1]
                go_simp
              · refine step_guard rfl fun ρ w2 ho hr hd => ?_
                obtain ⟨h0, h1, h2, _⟩ := hd
                have hgd : ρ (.tmp 74) = .bool true := h2 rfl
                have x0 : ρ (.tmp 80) = .slice (some ⟨g0, 0, none⟩) n n := h0 rfl
                have y0 : ρ (.tmp 82) = .int .i64 (q : Int) := h1 rfl
                refine ⟨hgd, ?_⟩
                refine does_value (v := .pointer (some ⟨g0, q * 3, none⟩)) (w' := w2) ?_ ⟨rfl, Old.refl _⟩
                unfold execOp
                simp only [x0, y0]
                go_simp
              · refine step_guard rfl fun ρ w2 ho hr hd => ?_
                obtain ⟨h0, h1, _⟩ := hd
                have hgd : ρ (.tmp 74) = .bool true := h1 rfl
                have x0 : ρ (.tmp 83) = .pointer (some ⟨g0, q * 3, none⟩) := h0 rfl
                have q0 := (ho.cell HGW.out).trans d0
                have q1 := (ho.cell HGW.out).trans d1
                have q2 := (ho.cell HGW.out).trans d2
                refine ⟨hgd, ?_⟩
                refine does_value (v := .agg #[.int .i64 qr, .slice ou m2 cu, .int .i64 qs]) (w' := w2) ?_ ⟨rfl, Old.refl _⟩
                unfold execOp
                simp only [x0]
                go_simp
              · refine step_guard rfl fun ρ w2 ho hr hd => ?_
                obtain ⟨h0, h1, h2, h3, h4, _⟩ := hd
                have hgd : ρ (.tmp 74) = .bool true := h4 rfl
                have x0 : ρ (.tmp 75) = .int .u8 s := h0 rfl
                have x1 : ρ (.tmp 79) = .agg #[.int .i64 pr, .slice ot m1 ct, .int .i64 ps] := h1 rfl
                have x2 : ρ (.tmp 84) = .agg #[.int .i64 qr, .slice ou m2 cu, .int .i64 qs] := h2 rfl
                refine ⟨hgd, ?_⟩
                exact does_call3 rfl (hr.2.2.2 _) x0 x1 x2 rfl ((HCC.out w2 (HW.out.trans ho)).mono fun e w' h => ⟨_, h.1, rfl, h.2⟩)
              · refine step_guard rfl fun ρ w2 ho hr hd => ?_
                obtain ⟨h0, h1, _⟩ := hd
                have hgd : ρ (.tmp 74) = .bool true := h1 rfl
                have x0 : ρ (.tmp 85) = .int .i64 c := h0 rfl
                refine ⟨hgd, ?_⟩
                refine does_value (v := .bool false) (w' := w2) ?_ ⟨rfl, Old.refl _⟩
                unfold execOp
                simp only [x0, hr.2.1]
                go_simp
              · refine step_guard rfl fun ρ w2 ho hr hd => ?_
                obtain ⟨h0, h1, h2, _⟩ := hd
                have hgd : ρ (.tmp 71) = .bool false := h2 rfl
                have x0 : ρ (.tmp 74) = .bool true := h0 rfl
                have y0 : ρ (.tmp 86) = .bool false := h1 rfl
                refine ⟨hgd, ?_⟩
                exact does_pick rfl x0 y0 ⟨rfl, Old.refl _⟩
              · refine step_plain rfl fun ρ w2 ho hr hd => ?_
                obtain ⟨h0, h1, _⟩ := hd
                have x0 : ρ (.tmp 71) = .bool false := h0 rfl
                have y0 : ρ (.tmp 87) = .bool false := h1 rfl
                exact does_pick rfl x0 y0 ⟨rfl, Old.refl _⟩
            · intro a' w' hoE hst hl
              obtain ⟨_, _, _, _, _, _, _, _, _, _, _, _, _, _, _, _, _, _, _, k19, _⟩ := hl
              have e19 : a'.eval (.tmp 88) = .bool false := k19
              rw [act_fresh hst [false, false, false, false, false, false, false, false, false, false, false, false, false, false, false, false, false, false, false, false, false, false, false, false, false, false, false, false, false, false, false, false, false, false, false, false, false, false, false, false, false, false, false, false, false, false, false, false, false, false, false, false, false, false, false, false, false, false, false, false, false, false, false, false, false, false, false, false, false, true, true, true, true, true, true, true, true, true, true, true, true, true, true, true, true, true, true, true, true, false, false, false, false, false, false, false, false, false, false, false, false, false, false, false, false] (by kernel_rfl) (by kernel_rfl)]
              simp only [fresh, e19]
              clear hst k19 e19
              go_wp2_with fail
              go_roundg (n - (i + 1))
              case measure => omega
              case rel => exact ⟨i + 1, t + 1, o2, cb2, by go_num, rfl, by have := HTI.out; omega, hlt, Nat.le_refl _, Lib.hid ⟨by rw [HTK.out]; exact own_old HWR.out.2 hoE, HW.out.trans hoE⟩⟩
    · have hlti : ¬ (i : Int) < (n : Int) := by omega
      obtain rfl : i = n := by omega
      obtain rfl : t = i := by omega
      have ht1 : acs (P.reverse.take t) = acs P.reverse := by rw [List.take_of_length_le (by rw [List.length_reverse]; have := HN.out; omega)]
      have hown := HS.out.1
      rw [ht1] at hown
      have hLP := HN.out
      have harT : AR wr (.slice ob t cb) P.reverse := by
        refine ⟨?_, fun p hp => (HH.out.2.old (HO.out.trans HS.out.2)) p (List.mem_reverse.1 hp)⟩
        have := CR.owned hown
        rw [List.length_reverse, ← hLP]
        exact this
      have HT := Lib.hid harT
      have HA := Lib.hid (HAR.out.old HS.out.2)
      have lq : ∀ q ∈ Q, q.1.tup.length ≤ 1000000 := fun q hq => by
        have h1 : q.1 ∈ P.map (·.1) := (ord_perm s _).mem_iff.1 (by rw [← HM.out]; exact List.mem_map.2 ⟨q, hq, rfl⟩)
        obtain ⟨p, hp, e⟩ := List.mem_map.1 h1
        have := HTL.out p hp
        rw [← e]
        omega
      have S1 := Lib.hid (sort_any s HA.out (by have := HQL.out; omega) lq)
      have S2 := Lib.hid (fun W (ho : Old wr W) => sort_any s (HT.out.old ho) (by rw [List.length_reverse]; omega) (fun p hp => by have := HTL.out p (List.mem_reverse.1 hp); omega))
      have C1 := Lib.hid (fun (v3 : Value) W (hs : SO wr W v3 s Q) => by
        obtain ⟨g3, Q3, e3, har3, hm3, hl3, ho3, _⟩ := hs.open' (by have := HQL.out; omega)
        have := sameAll_any har3 (HA.out.old ho3)
        rw [decide_eq_true (by rw [hm3, HM.out, ord_ord])] at this
        exact And.intro this ho3)
      have C2 := Lib.hid (fun (v3 : Value) W0 W (ho0 : Old wr W0) (hs : SO W0 W v3 s P.reverse) => by
        obtain ⟨g3, Q3, e3, har3, hm3, hl3, ho3, _⟩ := hs.open' (by rw [List.length_reverse]; omega)
        have := sameAll_any har3 (HA.out.old (ho0.trans ho3))
        rw [decide_eq_true (by rw [hm3, HM.out, List.map_reverse, ord_rev])] at this
        exact And.intro this ho3)
      have HOWR := Lib.hid (HO.out.trans HS.out.2)
      clear ht1 hown hLP harT lq HS
      go_wp2_with (first
        | (go_at_call 16; (with_reducible refine S1.out.mono ?_); rintro e w3 ⟨v3, rfl, hso⟩; have D1 := C1.out v3 w3 hso; clear hso)
        | (go_at_call 17; (with_reducible refine D1.1.mono ?_); rintro e w4 ⟨rfl, ho⟩; have O4 := Lib.hid (D1.2.trans ho); clear ho D1)
        | (go_at_call 16; (with_reducible refine (S2.out _ O4.out).mono ?_); rintro e w5 ⟨v5, rfl, hso⟩; have D2 := C2.out v5 w4 w5 O4.out hso; clear hso)
        | (go_at_call 17; (with_reducible refine D2.1.mono ?_); rintro e w6 ⟨rfl, ho⟩; have O6 := Lib.hid (O4.out.trans (D2.2.trans ho)); clear ho D2)
        | (go_at_call 8; (with_reducible refine (K.out _).mono ?_); rintro e w7 ⟨rfl, ho⟩; have O7 := Lib.hid (O6.out.trans ho); clear ho))
      go_ret
      exact ⟨rfl, HOWR.out.trans O7.out⟩
end Go.Proofs.Ytdcfaniimhjghaa
