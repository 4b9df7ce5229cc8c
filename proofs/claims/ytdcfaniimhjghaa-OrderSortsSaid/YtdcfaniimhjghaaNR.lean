/- The document's Sort. -/
import Derived.Test.YtdcfaniimhjghaaNA
import Derived.Deep.CutRange
namespace Go.Proofs.Ytdcfaniimhjghaa
open Go.ChangeShapes Go.WideShapes Go.ChangeAt Go.RowKit Go.Lib Go.Sort Go.Shelf
set_option linter.unusedVariables false
set_option linter.unusedSimpArgs false
set_option maxRecDepth 100000
set_option maxHeartbeats 6400000

def fA (s : Int) (a b : Aw) : Int := cmpA s a.1 b.1
theorem cp_fA (s : Int) : Cp (fA s) := (cp_cmpA s).comap (fun a : Aw => a.1)
/-- One more activation is in its place. -/
theorem put_acts {s : Int} {W w : World} {base k m q : Nat} {P O : List Aw} {x : Aw} {ob : Option Addr} {cp : Nat} (hx : P[k]? = some x) (hm : m = O.length) (hp : O.Perm (P.take k)) (hs : O.Pairwise (fun x y => fA s x y ≤ 0)) (h1 : ∀ (j : Nat) y, q ≤ j → O[j]? = some y → fA s x y ≤ 0) (h2 : ∀ (p : Nat) y, q = p + 1 → O[p]? = some y → fA s y x ≤ 0) (hq : q ≤ m)
    {r : Nat} (e0 : r = m + 1) (hown : W.ownsRow base 25 3 (.slice ob r cp) r (acs (O.take q) ++ acs [x] ++ acs (O.drop q))) (ho : Old w W) :
    W.ownsRow base 25 3 (.slice ob (m + 1) cp) (m + 1) (acs (O.take q ++ x :: O.drop q)) ∧ m + 1 = (O.take q ++ x :: O.drop q).length ∧ (O.take q ++ x :: O.drop q).Perm (P.take (k + 1)) ∧ (O.take q ++ x :: O.drop q).Pairwise (fun x y => fA s x y ≤ 0) ∧ Old w W := by
  have e1 : (O.take q ++ x :: O.drop q).length = m + 1 := by simp; omega
  rw [e0] at hown
  refine ⟨?_, e1.symm, ?_, put_in (cp_fA s) hs (by omega) (fun j y hj hy => ?_) h1, ho⟩
  · rw [show acs (O.take q ++ x :: O.drop q) = acs (O.take q) ++ acs [x] ++ acs (O.drop q) by rw [acs_app, List.append_assoc]; rfl]
    exact hown
  · have e2 : P.take (k + 1) = P.take k ++ [x] := by rw [List.take_add_one, hx]; rfl
    rw [e2]
    exact put_perm q hp
  · have hjl := (List.getElem?_eq_some_iff.1 hy).1
    obtain ⟨p, rfl⟩ : ∃ p, q = p + 1 := ⟨q - 1, by omega⟩
    obtain ⟨z, hz⟩ : ∃ z, O[p]? = some z := ⟨O[p]'(by omega), List.getElem?_eq_getElem _⟩
    have h3 := h2 p z rfl hz
    by_cases e : j = p
    · subst e
      rw [hz] at hy
      obtain rfl := Option.some.inj hy
      exact h3
    · have := List.pairwise_iff_getElem.1 hs j p hjl (by omega) (by omega)
      rw [(List.getElem?_eq_some_iff.1 hy).2, (List.getElem?_eq_some_iff.1 hz).2] at this
      exact (cp_fA s).trans _ _ _ this h3

theorem rsort_any (s : Int) {w : World} {v : Value} {P : List Aw} (h : AR w v P) (hl : P.length ≤ 100000) (htl : ∀ p ∈ P, p.1.tup.length ≤ 100000) :
    Calls Try.prog 18 #[.int .u8 s, v] w fun e w' => ∃ v', e = .returned v' ∧ (∃ Q : List Aw, AR w' v' Q ∧ Q.map (·.1) = ord s (P.map (·.1))) ∧ Old w w' := by
  have HH := Lib.hid h
  obtain ⟨oa, ca, rfl, _, _, ea⟩ := h.shape
  have HE := Lib.hid ea
  have HTL := Lib.hid htl
  obtain ⟨n, hn⟩ : ∃ n, n = P.length := ⟨_, rfl⟩
  rw [← hn] at hl HH ⊢
  have HN := Lib.hid hn
  obtain ⟨iA, hiA, hzA, hsA, hbA⟩ := info_parts info25
  clear ea h hn htl
  go_enter Try.func18, Try.ntmps18
  go_wp2
  go_loopg [5, 6] n (fun kx s5 s6 wr => ∃ (k m : Nat) (O : List Aw) (ob : Option Addr) (cb : Nat), s5 = .slice ob m cb ∧ s6 = .int .i64 (k : Int) ∧ k ≤ n ∧ n - k ≤ kx ∧ (m ≤ k ∧ k ≤ m) ∧ Hid (m = 0 → ob = none ∧ cb = 0) ∧ Hid (wr.ownsRow w.heap.size 25 3 (.slice ob m cb) m (acs O) ∧ m = O.length ∧ O.Perm (P.take k) ∧ O.Pairwise (fun x y => fA s x y ≤ 0) ∧ Old w wr))
  case atStart => exact ⟨0, 0, [], none, 0, rfl, rfl, Nat.zero_le _, by omega, by omega, Lib.hid (fun _ => ⟨rfl, rfl⟩), Lib.hid ⟨World.ownsRow_nil _ _ _ _, rfl, by simp, List.Pairwise.nil, Old.refl w⟩⟩
  case round =>
    obtain ⟨k, m, O, ob, cb, rfl, rfl, hk, hkx, hmk, HNIL, HS⟩ := hrel
    by_cases hlt : k < n
    · have hlti : (k : Int) < (n : Int) := by omega
      obtain ⟨x, hx⟩ : ∃ x, P[k]? = some x := ⟨P[k]'(by rw [← HN.out]; exact hlt), List.getElem?_eq_getElem _⟩
      obtain ⟨gl, ol, rfl, hg, k0, k1, k2⟩ := HE.out k x hx
      have hxi := HH.out.tup hx
      have hxl := HTL.out x (List.mem_of_getElem? hx)
      have HX := Lib.hid hx
      have HOP := Lib.hid (fun y (hy : y ∈ O) => (show y ∈ P from List.mem_of_mem_take (HS.out.2.2.1.mem_iff.1 hy)))
      have hTO : Tups w O := fun y hy => HH.out.2 y (HOP.out y hy)
      have ON1' := Lib.hid hTO
      obtain ⟨⟨xr, xt, xs⟩, xv⟩ := x
      simp only at k0 k1 k2 hxi hxl
      have ON2 := Lib.hid (show ∀ u ∈ acs [(⟨⟨xr, xt, xs⟩, xv⟩ : Aw)], u.oneCell' = true from acs_one (w := w) (fun p hp => by rw [List.mem_singleton] at hp; subst hp; exact hxi))
      have HXI := Lib.hid hxi
      have HXL := Lib.hid hxl
      obtain ⟨ot0, ct0, et⟩ := hxi.slice
      subst et
      obtain ⟨mx, hmx⟩ : ∃ m, m = xt.length := ⟨_, rfl⟩
      rw [← hmx] at k1 HX ON2 HXI
      have h0k : (0 : Int) ≤ (k : Int) := by omega
      have HLT := Lib.hid hlt
      have HG := Lib.hid hg
      have HCX := Lib.hid (And.intro k0 (And.intro k1 k2))
      clear hx hlt hk hg k0 k1 k2 hxi hxl hTO hmx
      go_wp2
      go_loopg [7] m (fun kx s7 wr => ∃ (q : Nat), s7 = .int .i64 (q : Int) ∧ q ≤ m ∧ q ≤ kx ∧ Hid (wr.ownsRow w.heap.size 25 3 (.slice ob m cb) m (acs O) ∧ m = O.length ∧ O.Perm (P.take k) ∧ O.Pairwise (fun x y => fA s x y ≤ 0) ∧ Old w wr ∧ ∀ (j : Nat) y, q ≤ j → O[j]? = some y → fA s (⟨⟨xr, xt, xs⟩, .slice ot0 mx ct0⟩ : Aw) y ≤ 0))
      case atStart => exact ⟨m, rfl, Nat.le_refl _, Nat.le_refl _, Lib.hid ⟨HS.out.1, HS.out.2.1, HS.out.2.2.1, HS.out.2.2.2.1, HS.out.2.2.2.2, fun j y hj hy => by have := (List.getElem?_eq_some_iff.1 hy).1; have := HS.out.2.1; omega⟩⟩
      case round =>
        clear HS
        obtain ⟨q, rfl, hq, hkx2, HS⟩ := hrel
        have HOW := Lib.hid HS.out.2.2.2.2.1
        have HGL := Lib.hid (Nat.lt_of_lt_of_le HG.out HOW.out.size)
        have c0 := (HOW.out.cell (p := ⟨gl, ol + k * 3, none⟩) HG.out).trans HCX.out.1
        have c1 := (HOW.out.cell (p := ⟨gl, ol + k * 3 + 1, none⟩) HG.out).trans HCX.out.2.1
        have c2 := (HOW.out.cell (p := ⟨gl, ol + k * 3 + 2, none⟩) HG.out).trans HCX.out.2.2
        have h0q : (0 : Int) ≤ (q : Int) := by omega
        obtain ⟨B, hB⟩ : ∃ B, B = (decide (0 < q) && decide (fA s (⟨⟨xr, xt, xs⟩, .slice ot0 mx ct0⟩ : Aw) ((O[q - 1]?).getD (⟨noAc, undef⟩ : Aw)) < 0)) := ⟨_, rfl⟩
        have HB := Lib.hid hB
        clear hB
        go_upto_region 6 with fail
        go_cut [31] from 17 to 32 (fun s31 wx => s31 = .bool B ∧ Hid (wx.ownsRow w.heap.size 25 3 (.slice ob m cb) m (acs O) ∧ Old w wx))
        case first =>
          by_cases hq0 : q = 0
          · subst hq0
            have HB' := Lib.hid (show B = false by rw [HB.out]; simp)
            refine wp_region_inv (spOf [.eq (.int .i64 0), .eq (.bool false), .eq (.bool false), .any, .any, .any, .any, .any, .any, .any, .any, .any, .any, .any, .eq (.bool false)]) (by kernel_rfl) (by kernel_rfl) (spOf_mono _) ?_ ?_
            · refine ⟨?_, ?_, ?_, ?_, ?_, ?_, ?_, ?_, ?_, ?_, ?_, ?_, ?_, ?_, ?_, trivial⟩
              · refine step_plain rfl fun ρ w2 ho hr hd => ?_
                have x0 : ρ (.tmp 7) = .int .i64 0 := (hr.1 7 rfl).trans rfl
                exact does_move rfl x0 ⟨rfl, Old.refl _⟩
              · refine step_plain rfl fun ρ w2 ho hr hd => ?_
                obtain ⟨h0, _⟩ := hd
                have x0 : ρ (.tmp 17) = .int .i64 0 := h0 rfl
                refine does_value (v := .bool false) (w' := w2) ?_ ⟨rfl, Old.refl _⟩
                unfold execOp
                simp only [x0, hr.2.1]
                go_simp
              · refine step_plain rfl fun ρ w2 ho hr hd => ?_
                obtain ⟨h0, _⟩ := hd
                have x0 : ρ (.tmp 18) = .bool false := h0 rfl
                exact does_move rfl x0 ⟨rfl, Old.refl _⟩
              · refine step_skip rfl (fun ρ w2 ho hr hd => ?_) (fun _ => trivial)
                obtain ⟨h0, _⟩ := hd
                have hgd : ρ (.tmp 19) = .bool false := h0 rfl
                exact hgd
              · refine step_skip rfl (fun ρ w2 ho hr hd => ?_) (fun _ => trivial)
                obtain ⟨h0, _⟩ := hd
                have hgd : ρ (.tmp 19) = .bool false := h0 rfl
                exact hgd
              · refine step_skip rfl (fun ρ w2 ho hr hd => ?_) (fun _ => trivial)
                obtain ⟨h0, _⟩ := hd
                have hgd : ρ (.tmp 19) = .bool false := h0 rfl
                exact hgd
              · refine step_skip rfl (fun ρ w2 ho hr hd => ?_) (fun _ => trivial)
                obtain ⟨h0, h1, h2, _⟩ := hd
                have hgd : ρ (.tmp 19) = .bool false := h2 rfl
                exact hgd
              · refine step_skip rfl (fun ρ w2 ho hr hd => ?_) (fun _ => trivial)
                obtain ⟨h0, h1, _⟩ := hd
                have hgd : ρ (.tmp 19) = .bool false := h1 rfl
                exact hgd
              · refine step_skip rfl (fun ρ w2 ho hr hd => ?_) (fun _ => trivial)
                obtain ⟨h0, _⟩ := hd
                have hgd : ρ (.tmp 19) = .bool false := h0 rfl
                exact hgd
              · refine step_skip rfl (fun ρ w2 ho hr hd => ?_) (fun _ => trivial)
                obtain ⟨h0, _⟩ := hd
                have hgd : ρ (.tmp 19) = .bool false := h0 rfl
                exact hgd
              · refine step_skip rfl (fun ρ w2 ho hr hd => ?_) (fun _ => trivial)
                obtain ⟨h0, h1, _⟩ := hd
                have hgd : ρ (.tmp 19) = .bool false := h1 rfl
                exact hgd
              · refine step_skip rfl (fun ρ w2 ho hr hd => ?_) (fun _ => trivial)
                obtain ⟨h0, h1, h2, _⟩ := hd
                have hgd : ρ (.tmp 19) = .bool false := h2 rfl
                exact hgd
              · refine step_skip rfl (fun ρ w2 ho hr hd => ?_) (fun _ => trivial)
                obtain ⟨h0, h1, _⟩ := hd
                have hgd : ρ (.tmp 19) = .bool false := h1 rfl
                exact hgd
              · refine step_skip rfl (fun ρ w2 ho hr hd => ?_) (fun _ => trivial)
                obtain ⟨h0, h1, h2, h3, h4, _⟩ := hd
                have hgd : ρ (.tmp 19) = .bool false := h4 rfl
                exact hgd
              · refine step_plain rfl fun ρ w2 ho hr hd => ?_
                obtain ⟨h0, h1, _⟩ := hd
                have x0 : ρ (.tmp 19) = .bool false := h0 rfl
                exact does_pick rfl x0 (hr.2.1 _) ⟨rfl, Old.refl _⟩
            · intro a' w' hoE hst hl
              obtain ⟨_, _, _, _, _, _, _, _, _, _, _, _, _, _, k14, _⟩ := hl
              have e14 : a'.eval (.tmp 31) = .bool false := k14
              rw [act_fresh hst [false, false, false, false, false, false, false, false, false, false, false, false, false, false, false, false, false, true, true, true, true, true, true, true, true, true, true, true, true, true, true, true, false, false, false, false, false, false, false, false, false, false, false, false, false, false, false, false, false, false, false, false] (by kernel_rfl) (by kernel_rfl)]
              simp only [fresh, e14]
              clear hst k14 e14
              go_wp2_with fail
              go_meet
              case rel => exact ⟨by rw [HB'.out], Lib.hid ⟨own_old HS.out.1 hoE, HOW.out.trans hoE⟩⟩
          · obtain ⟨p, hp⟩ : ∃ p, q = p + 1 := ⟨q - 1, by omega⟩
            obtain ⟨y, hy⟩ : ∃ y, O[p]? = some y := ⟨O[p]'(by have := HS.out.2.1; omega), List.getElem?_eq_getElem _⟩
            have hAR : AR wr (.slice ob m cb) O := ⟨by have := CR.owned HS.out.1; rw [← HS.out.2.1]; exact this, ON1'.out.old HOW.out⟩
            obtain ⟨ob', cb', e2, _, _, eb⟩ := hAR.shape
            obtain ⟨g2, o2, eg, hg2, d0, d1, d2⟩ := eb p y hy
            have hob : ob = some ⟨g2, o2, none⟩ := by simp at e2; exact e2.1.trans eg
            have ho2 : o2 = 0 := by
              rcases HS.out.1.2 with ⟨e, _⟩ | ⟨g, cp, cur, e, _⟩
              · simp at e; rw [hob] at e; simp at e
              · simp at e; rw [hob] at e; simp at e; exact e.1.2
            subst ho2 hob
            rw [Nat.zero_add] at d0 d1 d2
            have HG2 := Lib.hid hg2
            have hyi := ON1'.out y (List.mem_of_getElem? hy)
            have hyl := HTL.out y (HOP.out y (List.mem_of_getElem? hy))
            have hAH := fun W (ho : Old w W) => ahead_any s (⟨⟨xr, xt, xs⟩, .slice ot0 mx ct0⟩ : Aw) y (HXI.out.old ho) (hyi.old ho) HXL.out hyl
            have HBB := Lib.hid (show B = aheadD s ⟨xr, xt, xs⟩ y.1 by
              rw [HB.out, show q - 1 = p by omega, hy, aheadD_eq]
              simp [hp, fA]
              try rfl)
            have HAH := Lib.hid hAH
            clear hAH eb e2 eg hAR
            obtain ⟨⟨yr, yt, ys⟩, yv⟩ := y
            simp only at d0 d1 d2 hyi HAH HBB
            obtain ⟨oy, cy, ey⟩ := hyi.slice
            subst ey
            unfold av at HAH
            simp only at HAH
            generalize yt.length = my at *
            generalize aheadD s ⟨xr, xt, xs⟩ ⟨yr, yt, ys⟩ = B0 at HAH HBB
            have hp0 : (0 : Int) ≤ (p : Int) := by omega
            have hpm : (p : Int) < (m : Int) := by omega
            have hqp : (q : Int) - 1 = (p : Int) := by omega
            have hq1 : (0 : Int) < (q : Int) := by omega
            have hq2 : 0 < q := by omega
            have hwp : IntKind.i64.wrap (p : Int) = (p : Int) := by rw [IntKind.wrap_i64]; omega
            clear hy hyi hyl hg2 hq0 hp
            refine wp_region_inv (spOf [.eq (.int .i64 (q : Int)), .eq (.bool true), .eq (.bool true), .eq (.int .u8 s), .eq (.slice (some ⟨gl, ol, none⟩) n ca), .eq (.int .i64 (k : Int)), .eq (.pointer (some ⟨gl, ol + k * 3, none⟩)), .eq (.agg #[.int .i64 xr, .slice ot0 mx ct0, .int .i64 xs]), .eq (.slice (some ⟨g2, 0, none⟩) m cb), .eq (.int .i64 (q : Int)), .eq (.int .i64 (p : Int)), .eq (.pointer (some ⟨g2, p * 3, none⟩)), .eq (.agg #[.int .i64 yr, .slice oy my cy, .int .i64 ys]), .eq (.bool B0), .eq (.bool B0)]) (by kernel_rfl) (by kernel_rfl) (spOf_mono _) ?_ ?_
            · refine ⟨?_, ?_, ?_, ?_, ?_, ?_, ?_, ?_, ?_, ?_, ?_, ?_, ?_, ?_, ?_, trivial⟩
              · refine step_plain rfl fun ρ w2 ho hr hd => ?_
                have x0 : ρ (.tmp 7) = .int .i64 (q : Int) := (hr.1 7 rfl).trans rfl
                exact does_move rfl x0 ⟨rfl, Old.refl _⟩
              · refine step_plain rfl fun ρ w2 ho hr hd => ?_
                obtain ⟨h0, _⟩ := hd
                have x0 : ρ (.tmp 17) = .int .i64 (q : Int) := h0 rfl
                refine does_value (v := .bool true) (w' := w2) ?_ ⟨rfl, Old.refl _⟩
                unfold execOp
                simp only [x0, hr.2.1]
                go_simp
              · refine step_plain rfl fun ρ w2 ho hr hd => ?_
                obtain ⟨h0, _⟩ := hd
                have x0 : ρ (.tmp 18) = .bool true := h0 rfl
                exact does_move rfl x0 ⟨rfl, Old.refl _⟩
              · refine step_guard rfl fun ρ w2 ho hr hd => ?_
                obtain ⟨h0, _⟩ := hd
                have hgd : ρ (.tmp 19) = .bool true := h0 rfl
                have x0 : ρ (.tmp 0) = .int .u8 s := (hr.1 0 rfl).trans rfl
                refine ⟨hgd, ?_⟩
                exact does_move rfl x0 ⟨rfl, Old.refl _⟩
              · refine step_guard rfl fun ρ w2 ho hr hd => ?_
                obtain ⟨h0, _⟩ := hd
                have hgd : ρ (.tmp 19) = .bool true := h0 rfl
                have x0 : ρ (.tmp 1) = .slice (some ⟨gl, ol, none⟩) n ca := (hr.1 1 rfl).trans rfl
                refine ⟨hgd, ?_⟩
                exact does_move rfl x0 ⟨rfl, Old.refl _⟩
              · refine step_guard rfl fun ρ w2 ho hr hd => ?_
                obtain ⟨h0, _⟩ := hd
                have hgd : ρ (.tmp 19) = .bool true := h0 rfl
                have x0 : ρ (.tmp 6) = .int .i64 (k : Int) := (hr.1 6 rfl).trans rfl
                refine ⟨hgd, ?_⟩
                exact does_move rfl x0 ⟨rfl, Old.refl _⟩
              · refine step_guard rfl fun ρ w2 ho hr hd => ?_
                obtain ⟨h0, h1, h2, _⟩ := hd
                have hgd : ρ (.tmp 19) = .bool true := h2 rfl
                have x0 : ρ (.tmp 21) = .slice (some ⟨gl, ol, none⟩) n ca := h0 rfl
                have y0 : ρ (.tmp 22) = .int .i64 (k : Int) := h1 rfl
                refine ⟨hgd, ?_⟩
                refine does_value (v := .pointer (some ⟨gl, ol + k * 3, none⟩)) (w' := w2) ?_ ⟨rfl, Old.refl _⟩
                unfold execOp
                simp only [x0, y0]
                go_simp
              · refine step_guard rfl fun ρ w2 ho hr hd => ?_
                obtain ⟨h0, h1, _⟩ := hd
                have hgd : ρ (.tmp 19) = .bool true := h1 rfl
                have x0 : ρ (.tmp 23) = .pointer (some ⟨gl, ol + k * 3, none⟩) := h0 rfl
                have q0 := (ho.cell HGL.out).trans c0
                have q1 := (ho.cell HGL.out).trans c1
                have q2 := (ho.cell HGL.out).trans c2
                refine ⟨hgd, ?_⟩
                refine does_value (v := .agg #[.int .i64 xr, .slice ot0 mx ct0, .int .i64 xs]) (w' := w2) ?_ ⟨rfl, Old.refl _⟩
                unfold execOp
                simp only [x0]
                go_simp
              · refine step_guard rfl fun ρ w2 ho hr hd => ?_
                obtain ⟨h0, _⟩ := hd
                have hgd : ρ (.tmp 19) = .bool true := h0 rfl
                have x0 : ρ (.tmp 5) = .slice (some ⟨g2, 0, none⟩) m cb := (hr.1 5 rfl).trans rfl
                refine ⟨hgd, ?_⟩
                exact does_move rfl x0 ⟨rfl, Old.refl _⟩
              · refine step_guard rfl fun ρ w2 ho hr hd => ?_
                obtain ⟨h0, _⟩ := hd
                have hgd : ρ (.tmp 19) = .bool true := h0 rfl
                have x0 : ρ (.tmp 7) = .int .i64 (q : Int) := (hr.1 7 rfl).trans rfl
                refine ⟨hgd, ?_⟩
                exact does_move rfl x0 ⟨rfl, Old.refl _⟩
              · refine step_guard rfl fun ρ w2 ho hr hd => ?_
                obtain ⟨h0, h1, _⟩ := hd
                have hgd : ρ (.tmp 19) = .bool true := h1 rfl
                have x0 : ρ (.tmp 26) = .int .i64 (q : Int) := h0 rfl
                refine ⟨hgd, ?_⟩
                refine does_value (v := .int .i64 (p : Int)) (w' := w2) ?_ ⟨rfl, Old.refl _⟩
                unfold execOp
                simp only [x0, hr.2.1]
                go_simp
              · refine step_guard rfl fun ρ w2 ho hr hd => ?_
                obtain ⟨h0, h1, h2, _⟩ := hd
                have hgd : ρ (.tmp 19) = .bool true := h2 rfl
                have x0 : ρ (.tmp 25) = .slice (some ⟨g2, 0, none⟩) m cb := h0 rfl
                have y0 : ρ (.tmp 27) = .int .i64 (p : Int) := h1 rfl
                refine ⟨hgd, ?_⟩
                refine does_value (v := .pointer (some ⟨g2, p * 3, none⟩)) (w' := w2) ?_ ⟨rfl, Old.refl _⟩
                unfold execOp
                simp only [x0, y0]
                go_simp
              · refine step_guard rfl fun ρ w2 ho hr hd => ?_
                obtain ⟨h0, h1, _⟩ := hd
                have hgd : ρ (.tmp 19) = .bool true := h1 rfl
                have x0 : ρ (.tmp 28) = .pointer (some ⟨g2, p * 3, none⟩) := h0 rfl
                have q0 := (ho.cell HG2.out).trans d0
                have q1 := (ho.cell HG2.out).trans d1
                have q2 := (ho.cell HG2.out).trans d2
                refine ⟨hgd, ?_⟩
                refine does_value (v := .agg #[.int .i64 yr, .slice oy my cy, .int .i64 ys]) (w' := w2) ?_ ⟨rfl, Old.refl _⟩
                unfold execOp
                simp only [x0]
                go_simp
              · refine step_guard rfl fun ρ w2 ho hr hd => ?_
                obtain ⟨h0, h1, h2, h3, h4, _⟩ := hd
                have hgd : ρ (.tmp 19) = .bool true := h4 rfl
                have x0 : ρ (.tmp 20) = .int .u8 s := h0 rfl
                have x1 : ρ (.tmp 24) = .agg #[.int .i64 xr, .slice ot0 mx ct0, .int .i64 xs] := h1 rfl
                have x2 : ρ (.tmp 29) = .agg #[.int .i64 yr, .slice oy my cy, .int .i64 ys] := h2 rfl
                refine ⟨hgd, ?_⟩
                exact does_call3 rfl (hr.2.2.2 _) x0 x1 x2 rfl ((HAH.out w2 (HOW.out.trans ho)).mono fun e w' h => ⟨_, h.1, rfl, h.2⟩)
              · refine step_plain rfl fun ρ w2 ho hr hd => ?_
                obtain ⟨h0, h1, _⟩ := hd
                have x0 : ρ (.tmp 19) = .bool true := h0 rfl
                have y0 : ρ (.tmp 30) = .bool B0 := h1 rfl
                exact does_pick rfl x0 y0 ⟨rfl, Old.refl _⟩
            · intro a' w' hoE hst hl
              obtain ⟨_, _, _, _, _, _, _, _, _, _, _, _, _, _, k14, _⟩ := hl
              have e14 : a'.eval (.tmp 31) = .bool B0 := k14
              rw [act_fresh hst [false, false, false, false, false, false, false, false, false, false, false, false, false, false, false, false, false, true, true, true, true, true, true, true, true, true, true, true, true, true, true, true, false, false, false, false, false, false, false, false, false, false, false, false, false, false, false, false, false, false, false, false] (by kernel_rfl) (by kernel_rfl)]
              simp only [fresh, e14]
              clear hst k14 e14
              go_wp2_with fail
              go_meet
              case rel => exact ⟨by rw [HBB.out], Lib.hid ⟨own_old HS.out.1 hoE, HOW.out.trans hoE⟩⟩
        case rest =>
        obtain ⟨rfl, HI⟩ := hcut
        clear c0 c1 c2
        cases B with
        | true =>
          have hB := HB.out
          simp only [Bool.true_eq, Bool.and_eq_true, decide_eq_true_eq] at hB
          have HB2 := Lib.hid hB
          obtain ⟨p, rfl⟩ : ∃ p, q = p + 1 := ⟨q - 1, by omega⟩
          clear hB
          go_wp2_with fail
          go_roundg p
          case measure => omega
          case rel =>
            refine ⟨p, by go_num, by omega, Nat.le_refl _, Lib.hid ⟨HI.out.1, HS.out.2.1, HS.out.2.2.1, HS.out.2.2.2.1, HI.out.2, fun j y hj hy => ?_⟩⟩
            by_cases e : j = p
            · subst e
              have := HB2.out.2
              rw [show j + 1 - 1 = j by omega, hy] at this
              exact Int.le_of_lt this
            · exact HS.out.2.2.2.2.2 j y (by omega) hy
        | false =>
          have hB := HB.out
          have hstop : ∀ (p : Nat) y, q = p + 1 → O[p]? = some y → fA s y (⟨⟨xr, xt, xs⟩, .slice ot0 mx ct0⟩ : Aw) ≤ 0 := fun p y hp hy => by
            subst hp
            rw [show p + 1 - 1 = p by omega, hy] at hB
            simp at hB
            have := (cp_fA s).anti (⟨⟨xr, xt, xs⟩, .slice ot0 mx ct0⟩ : Aw) y
            omega
          have HSTOP := Lib.hid hstop
          have HGC := Lib.hid (Nat.lt_of_lt_of_le HG.out HI.out.2.size)
          have c0 := (HI.out.2.cell (p := ⟨gl, ol + k * 3, none⟩) HG.out).trans HCX.out.1
          have c1 := (HI.out.2.cell (p := ⟨gl, ol + k * 3 + 1, none⟩) HG.out).trans HCX.out.2.1
          have c2 := (HI.out.2.cell (p := ⟨gl, ol + k * 3 + 2, none⟩) HG.out).trans HCX.out.2.2
          have HXC := Lib.hid (And.intro c0 (And.intro c1 c2))
          have ON1 := Lib.hid (acs_one (w := w) (P := O.take q) (fun y hy => ON1'.out y (List.mem_of_mem_take hy)))
          have ON3 := Lib.hid (acs_one (w := w) (P := O.drop q) (fun y hy => ON1'.out y (List.mem_of_mem_drop hy)))
          clear hB hstop
          by_cases hm0 : m = 0
          · obtain ⟨rfl, rfl⟩ := HNIL.out hm0
            subst hm0
            obtain rfl : q = 0 := by omega
            have hO : O = [] := List.eq_nil_of_length_eq_zero HS.out.2.1.symm
            have C1 : Hid (CR wc (.slice none 0 0) 0 3 (acs (O.take 0))) := Lib.hid (by rw [hO]; exact CR.none rfl (Nat.zero_le _))
            have C2 : Hid (CR wc (.slice none 0 0) (0 - 0) 3 (acs (O.drop 0))) := Lib.hid (by rw [hO]; exact CR.none rfl (Nat.zero_le _))
            clear hO
            have O0 := Lib.hid ((Old.refl wc).alloc (.cells #[] 25))
            have W0 := Lib.hid (own_none (size := 3) (Nat.le_refl _) (MapKept.heap_alloc wc (.cells #[] 25)).1)
            have L0 := Lib.hid ((Old.refl wc).alloc (.cells #[] 25)).size
            have L1 := Lib.hid (show (0 + 0) * 40 ≤ 140737488355328 by omega)
            have L2 := Lib.hid (show 0 + 0 ≤ maxLen by unfold maxLen; omega)
            have L3 := Lib.hid (show (0 + 1) * 40 ≤ 140737488355328 by omega)
            have L4 := Lib.hid (show 0 + 1 ≤ maxLen by unfold maxLen; omega)
            have L5 := Lib.hid (show (0 + 1 + (0 - 0)) * 40 ≤ 140737488355328 by omega)
            have L6 := Lib.hid (show 0 + 1 + (0 - 0) ≤ maxLen by unfold maxLen; omega)
            clear c0 c1 c2
            go_wp2_with (at_builtin; first
              | (refine wpList_appC _ rfl _ _ 22 rfl wc.heap.size 25 iA _ 3 40 Try.underlying22 hiA hzA hsA hbA rfl (Nat.zero_lt_succ 2) (.slice (some ⟨wc.heap.size, 0, none⟩) 0 0) 0 [] rfl W0.out (.slice none 0 0) 0 (acs (O.take 0)) rfl (C1.out.old ((Old.refl wc).alloc _)) ON1.out L1.out L2.out L0.out ?_; intro v1 W1 hown hgrow _; rw [Nat.zero_add, List.nil_append] at hown; obtain ⟨ob1, cp1, rfl⟩ := own_shape hown; have R1 := Lib.hid hown; have O1 := Lib.hid (((Old.refl wc).alloc (.cells #[] 25)).grown hgrow (fun j hj => by simp [Value.ownBlock] at hj; omega)); have c0 := (O1.out.cell (p := ⟨gl, ol + k * 3, none⟩) HGC.out).trans HXC.out.1; have c1 := (O1.out.cell (p := ⟨gl, ol + k * 3 + 1, none⟩) HGC.out).trans HXC.out.2.1; have c2 := (O1.out.cell (p := ⟨gl, ol + k * 3 + 2, none⟩) HGC.out).trans HXC.out.2.2; clear hown hgrow)
              | (refine wpList_appC _ rfl _ _ 22 rfl wc.heap.size 25 iA _ 3 40 Try.underlying22 hiA hzA hsA hbA rfl (Nat.zero_lt_succ 2) (.slice ob1 0 cp1) 0 (acs (O.take 0)) rfl (own_old R1.out ((Old.refl W1).alloc _)) (.slice (some ⟨W1.heap.size, 0, none⟩) 1 1) 1 (acs [(⟨⟨xr, xt, xs⟩, .slice ot0 mx ct0⟩ : Aw)]) rfl (ar_one_new (W := W1) (⟨⟨xr, xt, xs⟩, .slice ot0 mx ct0⟩ : Aw)) ON2.out L3.out L4.out (Nat.le_trans O1.out.size ((Old.refl W1).alloc _).size) ?_; intro v2 W2 hown hgrow _; obtain ⟨ob2, cp2, rfl⟩ := own_shape hown; have R2 := Lib.hid hown; have O2 := Lib.hid ((O1.out.alloc (.cells #[.int .i64 xr, .slice ot0 mx ct0, .int .i64 xs] 25)).grown hgrow (fun j hj => own_base R1.out j hj)); clear hown hgrow)
              | (refine wpList_appC _ rfl _ _ 22 rfl wc.heap.size 25 iA _ 3 40 Try.underlying22 hiA hzA hsA hbA rfl (Nat.zero_lt_succ 2) (.slice ob2 (0 + 1) cp2) (0 + 1) (acs (O.take 0) ++ acs [(⟨⟨xr, xt, xs⟩, .slice ot0 mx ct0⟩ : Aw)]) rfl R2.out (.slice none 0 0) (0 - 0) (acs (O.drop 0)) rfl (C2.out.old O2.out) ON3.out L5.out L6.out O2.out.size ?_; intro v3 W3 hown hgrow _; obtain ⟨ob3, cp3, rfl⟩ := own_shape hown; have R3 := Lib.hid hown; have O3 := Lib.hid (O2.out.grown hgrow (fun j hj => own_base R2.out j hj)); clear hown hgrow))
            go_roundg (n - (k + 1))
            case measure => have := HLT.out; omega
            case rel =>
              exact ⟨k + 1, 0 + 1, O.take 0 ++ (⟨⟨xr, xt, xs⟩, .slice ot0 mx ct0⟩ : Aw) :: O.drop 0, ob3, cp3, by rw [show 0 + 1 + (0 - 0) = 0 + 1 by omega], by go_num, HLT.out, Nat.le_refl _, by omega, Lib.hid (fun h => absurd h (by omega)), Lib.hid (put_acts HX.out HS.out.2.1 HS.out.2.2.1 HS.out.2.2.2.1 HS.out.2.2.2.2.2 HSTOP.out hq (by omega) (own_low R3.out HI.out.2.size) (HI.out.2.trans O3.out))⟩
          · have hcc : m ≤ cb ∧ ∃ g2, ob = some ⟨g2, 0, none⟩ := by
              rcases HI.out.1.2 with ⟨e, e2⟩ | ⟨g2, cp, cur, e, hbase, hgg, h1, h2, h3, h4⟩
              · omega
              · obtain ⟨rfl, rfl⟩ : ob = some ⟨g2, 0, none⟩ ∧ cb = cp := by simpa using e
                exact ⟨by omega, g2, rfl⟩
            obtain ⟨hcm, g2, rfl⟩ := hcc
            have HCR : CR wc (.slice (some ⟨g2, 0, none⟩) m cb) m 3 (acs O) := CR.owned HI.out.1
            have C1 := Lib.hid (acs_take O q ▸ HCR.part hq)
            have hcb0 : ¬ cb = 0 := by omega
            by_cases hcq : cb = q
            · obtain rfl : q = cb := hcq.symm
              obtain rfl : q = m := by omega
              have C2 : Hid (CR wc (.slice (some ⟨g2, 0, none⟩) 0 0) 0 3 (acs (O.drop q))) := Lib.hid (by
                have e5 : O.drop q = [] := List.drop_eq_nil_of_le (by have := HS.out.2.1; omega)
                rw [e5]
                exact CR.none rfl (Nat.zero_le _))
              clear HCR
              have O0 := Lib.hid ((Old.refl wc).alloc (.cells #[] 25))
              have W0 := Lib.hid (own_none (size := 3) (Nat.le_refl _) (MapKept.heap_alloc wc (.cells #[] 25)).1)
              have L0 := Lib.hid ((Old.refl wc).alloc (.cells #[] 25)).size
              have L1 := Lib.hid (show (0 + q) * 40 ≤ 140737488355328 by omega)
              have L2 := Lib.hid (show 0 + q ≤ maxLen by unfold maxLen; omega)
              have L3 := Lib.hid (show (q + 1) * 40 ≤ 140737488355328 by omega)
              have L4 := Lib.hid (show q + 1 ≤ maxLen by unfold maxLen; omega)
              have L5 := Lib.hid (show (q + 1 + 0) * 40 ≤ 140737488355328 by omega)
              have L6 := Lib.hid (show q + 1 + 0 ≤ maxLen by unfold maxLen; omega)
              clear c0 c1 c2
              go_wp2_with (at_builtin; first
                | (refine wpList_appC _ rfl _ _ 22 rfl wc.heap.size 25 iA _ 3 40 Try.underlying22 hiA hzA hsA hbA rfl (Nat.zero_lt_succ 2) (.slice (some ⟨wc.heap.size, 0, none⟩) 0 0) 0 [] rfl W0.out (.slice (some ⟨g2, 0, none⟩) q q) q (acs (O.take q)) rfl (C1.out.old ((Old.refl wc).alloc _)) ON1.out L1.out L2.out L0.out ?_; intro v1 W1 hown hgrow _; rw [Nat.zero_add, List.nil_append] at hown; obtain ⟨ob1, cp1, rfl⟩ := own_shape hown; have R1 := Lib.hid hown; have O1 := Lib.hid (((Old.refl wc).alloc (.cells #[] 25)).grown hgrow (fun j hj => by simp [Value.ownBlock] at hj; omega)); have c0 := (O1.out.cell (p := ⟨gl, ol + k * 3, none⟩) HGC.out).trans HXC.out.1; have c1 := (O1.out.cell (p := ⟨gl, ol + k * 3 + 1, none⟩) HGC.out).trans HXC.out.2.1; have c2 := (O1.out.cell (p := ⟨gl, ol + k * 3 + 2, none⟩) HGC.out).trans HXC.out.2.2; clear hown hgrow)
                | (refine wpList_appC _ rfl _ _ 22 rfl wc.heap.size 25 iA _ 3 40 Try.underlying22 hiA hzA hsA hbA rfl (Nat.zero_lt_succ 2) (.slice ob1 q cp1) q (acs (O.take q)) rfl (own_old R1.out ((Old.refl W1).alloc _)) (.slice (some ⟨W1.heap.size, 0, none⟩) 1 1) 1 (acs [(⟨⟨xr, xt, xs⟩, .slice ot0 mx ct0⟩ : Aw)]) rfl (ar_one_new (W := W1) (⟨⟨xr, xt, xs⟩, .slice ot0 mx ct0⟩ : Aw)) ON2.out L3.out L4.out (Nat.le_trans O1.out.size ((Old.refl W1).alloc _).size) ?_; intro v2 W2 hown hgrow _; obtain ⟨ob2, cp2, rfl⟩ := own_shape hown; have R2 := Lib.hid hown; have O2 := Lib.hid ((O1.out.alloc (.cells #[.int .i64 xr, .slice ot0 mx ct0, .int .i64 xs] 25)).grown hgrow (fun j hj => own_base R1.out j hj)); clear hown hgrow)
                | (refine wpList_appC _ rfl _ _ 22 rfl wc.heap.size 25 iA _ 3 40 Try.underlying22 hiA hzA hsA hbA rfl (Nat.zero_lt_succ 2) (.slice ob2 (q + 1) cp2) (q + 1) (acs (O.take q) ++ acs [(⟨⟨xr, xt, xs⟩, .slice ot0 mx ct0⟩ : Aw)]) rfl R2.out (.slice (some ⟨g2, 0, none⟩) 0 0) 0 (acs (O.drop q)) rfl (C2.out.old O2.out) ON3.out L5.out L6.out O2.out.size ?_; intro v3 W3 hown hgrow _; obtain ⟨ob3, cp3, rfl⟩ := own_shape hown; have R3 := Lib.hid hown; have O3 := Lib.hid (O2.out.grown hgrow (fun j hj => own_base R2.out j hj)); clear hown hgrow))
              go_roundg (n - (k + 1))
              case measure => have := HLT.out; omega
              case rel =>
                exact ⟨k + 1, q + 1, O.take q ++ (⟨⟨xr, xt, xs⟩, .slice ot0 mx ct0⟩ : Aw) :: O.drop q, ob3, cp3, by rw [show q + 1 + 0 = q + 1 by omega], by go_num, HLT.out, Nat.le_refl _, by omega, Lib.hid (fun h => absurd h (by omega)), Lib.hid (put_acts HX.out HS.out.2.1 HS.out.2.2.1 HS.out.2.2.2.1 HS.out.2.2.2.2.2 HSTOP.out hq (by omega) (own_low R3.out HI.out.2.size) (HI.out.2.trans O3.out))⟩
            · have C2 : Hid (CR wc (.slice (some ⟨g2, q * 3, none⟩) (m - q) (cb - q)) (m - q) 3 (acs (O.drop q))) := Lib.hid (by
                have := acs_drop O q ▸ HCR.rest hq
                simpa using this)
              clear HCR
              have O0 := Lib.hid ((Old.refl wc).alloc (.cells #[] 25))
              have W0 := Lib.hid (own_none (size := 3) (Nat.le_refl _) (MapKept.heap_alloc wc (.cells #[] 25)).1)
              have L0 := Lib.hid ((Old.refl wc).alloc (.cells #[] 25)).size
              have L1 := Lib.hid (show (0 + q) * 40 ≤ 140737488355328 by omega)
              have L2 := Lib.hid (show 0 + q ≤ maxLen by unfold maxLen; omega)
              have L3 := Lib.hid (show (q + 1) * 40 ≤ 140737488355328 by omega)
              have L4 := Lib.hid (show q + 1 ≤ maxLen by unfold maxLen; omega)
              have L5 := Lib.hid (show (q + 1 + (m - q)) * 40 ≤ 140737488355328 by omega)
              have L6 := Lib.hid (show q + 1 + (m - q) ≤ maxLen by unfold maxLen; omega)
              clear c0 c1 c2
              go_wp2_with (at_builtin; first
                | (refine wpList_appC _ rfl _ _ 22 rfl wc.heap.size 25 iA _ 3 40 Try.underlying22 hiA hzA hsA hbA rfl (Nat.zero_lt_succ 2) (.slice (some ⟨wc.heap.size, 0, none⟩) 0 0) 0 [] rfl W0.out (.slice (some ⟨g2, 0, none⟩) q cb) q (acs (O.take q)) rfl (C1.out.old ((Old.refl wc).alloc _)) ON1.out L1.out L2.out L0.out ?_; intro v1 W1 hown hgrow _; rw [Nat.zero_add, List.nil_append] at hown; obtain ⟨ob1, cp1, rfl⟩ := own_shape hown; have R1 := Lib.hid hown; have O1 := Lib.hid (((Old.refl wc).alloc (.cells #[] 25)).grown hgrow (fun j hj => by simp [Value.ownBlock] at hj; omega)); have c0 := (O1.out.cell (p := ⟨gl, ol + k * 3, none⟩) HGC.out).trans HXC.out.1; have c1 := (O1.out.cell (p := ⟨gl, ol + k * 3 + 1, none⟩) HGC.out).trans HXC.out.2.1; have c2 := (O1.out.cell (p := ⟨gl, ol + k * 3 + 2, none⟩) HGC.out).trans HXC.out.2.2; clear hown hgrow)
                | (refine wpList_appC _ rfl _ _ 22 rfl wc.heap.size 25 iA _ 3 40 Try.underlying22 hiA hzA hsA hbA rfl (Nat.zero_lt_succ 2) (.slice ob1 q cp1) q (acs (O.take q)) rfl (own_old R1.out ((Old.refl W1).alloc _)) (.slice (some ⟨W1.heap.size, 0, none⟩) 1 1) 1 (acs [(⟨⟨xr, xt, xs⟩, .slice ot0 mx ct0⟩ : Aw)]) rfl (ar_one_new (W := W1) (⟨⟨xr, xt, xs⟩, .slice ot0 mx ct0⟩ : Aw)) ON2.out L3.out L4.out (Nat.le_trans O1.out.size ((Old.refl W1).alloc _).size) ?_; intro v2 W2 hown hgrow _; obtain ⟨ob2, cp2, rfl⟩ := own_shape hown; have R2 := Lib.hid hown; have O2 := Lib.hid ((O1.out.alloc (.cells #[.int .i64 xr, .slice ot0 mx ct0, .int .i64 xs] 25)).grown hgrow (fun j hj => own_base R1.out j hj)); clear hown hgrow)
                | (refine wpList_appC _ rfl _ _ 22 rfl wc.heap.size 25 iA _ 3 40 Try.underlying22 hiA hzA hsA hbA rfl (Nat.zero_lt_succ 2) (.slice ob2 (q + 1) cp2) (q + 1) (acs (O.take q) ++ acs [(⟨⟨xr, xt, xs⟩, .slice ot0 mx ct0⟩ : Aw)]) rfl R2.out (.slice (some ⟨g2, q * 3, none⟩) (m - q) (cb - q)) (m - q) (acs (O.drop q)) rfl (C2.out.old O2.out) ON3.out L5.out L6.out O2.out.size ?_; intro v3 W3 hown hgrow _; obtain ⟨ob3, cp3, rfl⟩ := own_shape hown; have R3 := Lib.hid hown; have O3 := Lib.hid (O2.out.grown hgrow (fun j hj => own_base R2.out j hj)); clear hown hgrow))
              go_roundg (n - (k + 1))
              case measure => have := HLT.out; omega
              case rel =>
                exact ⟨k + 1, m + 1, O.take q ++ (⟨⟨xr, xt, xs⟩, .slice ot0 mx ct0⟩ : Aw) :: O.drop q, ob3, cp3, by rw [show q + 1 + (m - q) = m + 1 by omega], by go_num, HLT.out, Nat.le_refl _, by omega, Lib.hid (fun h => absurd h (by omega)), Lib.hid (put_acts HX.out HS.out.2.1 HS.out.2.2.1 HS.out.2.2.2.1 HS.out.2.2.2.2.2 HSTOP.out hq (by omega) (own_low R3.out HI.out.2.size) (HI.out.2.trans O3.out))⟩
    · have hlti : ¬ (k : Int) < (n : Int) := by omega
      have hkn : k = n := by omega
      have hp : O.Perm P := by
        have := HS.out.2.2.1
        rw [hkn, HN.out, List.take_length] at this
        exact this
      have hO : O.map (·.1) = ord s (P.map (·.1)) := ord_only (hp.map _) (List.pairwise_map.2 (HS.out.2.2.2.1.imp (fun h => h)))
      have hAR : AR wr (.slice ob m cb) O := ⟨by have := CR.owned HS.out.1; rw [← HS.out.2.1]; exact this, fun y hy => (HH.out.2 y (hp.mem_iff.1 hy)).old HS.out.2.2.2.2⟩
      have HV := Lib.hid (And.intro hAR (And.intro hO HS.out.2.2.2.2))
      clear HS hp hO hlt hk hAR
      go_wp2_with fail
      go_ret
      exact ⟨_, rfl, ⟨O, HV.out.1, HV.out.2.1⟩, HV.out.2.2⟩
end Go.Proofs.Ytdcfaniimhjghaa
