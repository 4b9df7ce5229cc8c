/- Layer eval: the law's own 'of' and 'known'. -/
import Derived.Test.YtmkmafkkpigfpaaGreatDoorKI
set_option maxHeartbeats 3200000
namespace Go.Proofs.YtmkmafkkpigfpaaGreatDoor.V
open Go.ChangeShapes Go.WideShapes Go.ChangeAt Go.RowKit Go.Lib
set_option linter.unusedVariables false
set_option linter.unusedSimpArgs false
set_option maxRecDepth 100000
abbrev nul : Vl := ⟨0, 0, ⟨#[]⟩⟩
abbrev bdA : List Bd := [⟨⟨#[97]⟩, nul⟩]
theorem BR.one (w : World) (b : Bd) : BR (w.alloc (.cells #[.string b.nm, .int .u8 b.v.k, .int .i64 b.v.n, .string b.v.s] 43)) (.slice (some ⟨w.heap.size, 0, none⟩) 1 1) [b] := by
  have h := Bk.new w #[.string b.nm, .int .u8 b.v.k, .int .i64 b.v.n, .string b.v.s] 43
  refine ⟨_, 1, rfl, Nat.le_refl _, by decide, fun j y hj => ?_⟩
  match j, hj with
  | 0, hj =>
    injection hj with hj
    subst hj
    exact ⟨_, 0, rfl, h.lt, h.c 0, h.c 1, h.c 2, h.c 3⟩
theorem abs_mem {T : List Nd} {y : Na} (h : y ∈ absT T) : ∃ x ∈ T, y.vn = x.vn ∧ y.ks.length = x.ks.length := by
  obtain ⟨i, hi⟩ := List.getElem?_of_mem h
  obtain ⟨x, hx, rfl⟩ := abs_at hi
  exact ⟨x, List.mem_of_getElem? hx, rfl, by simp⟩
theorem tree_value (w : World) {vt vv : Value} {T : List Nd} (self : Vl) (vars : List Bd) (hT : Tw w vt T) (hv : BR w vv vars) (he : En w) (hl : T.length ≤ 60) (hf : FewZ (absT T)) (hk : ∀ x ∈ absT T, x.ks.length ≤ 100000)
    (h1 : Vo T) (h2 : I64 self.n) (h3 : ∀ b ∈ vars, I64 b.v.n) : Calls Tryz.prog 11 #[vt, self.v, vv] w fun e w' => e = tl (valA (absT T) self vars) ∧ Old w w' :=
  value_any w self vars hT.tz hv he (by rw [abs_len]; omega) hk (fun y hy => by
    obtain ⟨x, hx, e, _⟩ := abs_mem hy
    rw [e]
    exact h1 x hx) h2 h3
theorem of_any (s : ByteArray) (w : World) (hs : s.size ≤ 60000) (hen : En w) {T : List Nd} {ln cl E : Int} (hR : readP s.data.toList = (T, ln, cl, E)) (hk : ∀ x ∈ absT T, x.ks.length ≤ 100000) (hv : Vo T) {Z : An} (hZ : valA (absT T) nul bdA = Z) : Calls Tryz.prog 16 #[.string s] w fun e w' => e = tl Z ∧ Old w w' := by
  have hz : s.data.toList.length = s.size := Array.length_toList
  obtain ⟨t1, t2⟩ := readP_small (by omega) hR
  have HO := hid ((Old.refl w).alloc (.cells #[.int .u8 0, .int .i64 0, .string ⟨#[]⟩] 26))
  have HT := hid (Three.new w (.int .u8 0) (.int .i64 0) (.string ⟨#[]⟩))
  have HR := hid (fun W => qread_tw s W (by omega) ⟨trivial⟩ hR)
  have HV := hid (fun (W : World) (vt : Value) (hW : Old w W) (ht : Tw W vt T) => show Calls Tryz.prog 11 #[vt, vl 0 0 ⟨#[]⟩, .slice (some ⟨W.heap.size, 0, none⟩) 1 1] (W.alloc (.cells #[.string ⟨#[97]⟩, .int .u8 0, .int .i64 0, .string ⟨#[]⟩] 43)) fun e w' => e = tl Z ∧ Old (W.alloc (.cells #[.string ⟨#[97]⟩, .int .u8 0, .int .i64 0, .string ⟨#[]⟩] 43)) w' from by
    have h := tree_value (W.alloc (.cells #[.string ⟨#[97]⟩, .int .u8 0, .int .i64 0, .string ⟨#[]⟩] 43)) nul bdA (ht.old ((Old.refl W).alloc _)) (BR.one W ⟨⟨#[97]⟩, nul⟩) (hen.old (hW.alloc _)) t1 t2 hk hv i0 (fun b hb => by
      rcases List.mem_singleton.1 hb with rfl
      exact i0)
    rw [hZ] at h
    exact h)
  obtain ⟨n, hn⟩ : ∃ n, n = T.length := ⟨_, rfl⟩
  rw [← hn] at HR
  clear hR hk hv hZ t1 t2 hz hs hen hn
  go_enter Tryz.func16, Tryz.ntmps16
  go_wp2_with (first
    | (go_at_call 7; (with_reducible refine (HR.out _).mono ?_); rintro e w1 ⟨oa, ca, rfl, t1, o1⟩; have o1' := (Old.refl w1).alloc (.cells #[.int .i64 ln, .int .i64 cl] 31); have T1 := hid (t1.out.old o1'); have O1 := hid (HO.out.trans (o1.trans o1')); have TT1 := hid (HT.out.old (o1.trans o1')); have HV1 := HV.out _ _ O1.out T1.out; rw [sz_alloc] at HV1; replace HV1 := hid HV1; clear o1 o1' t1)
    | (go_at_call 11; (with_reducible refine HV1.out.mono ?_); rintro e w2 ⟨rfl, o2⟩; have O2 := hid ((O1.out.alloc _).trans o2); have TT2 := hid (TT1.out.old (((Old.refl _).alloc _).trans o2)); clear o2; have c0 := TT2.out.c0; have c1 := TT2.out.c1; have c2 := TT2.out.c2; have f0 := TT2.out.f 0; have f1 := TT2.out.f 1; have f2 := TT2.out.f 2))
  have R := TT2.out.set (.int .u8 Z.v.k) (.int .i64 Z.v.n) (.string Z.v.s)
  exact bodyPost_ret (v := .tuple #[Z.v.v, .int .i64 Z.e]) (by simp [results, Tryz.results16, go_sem, R.c0, R.c1, R.c2]) rfl ⟨rfl, old3 O2.out (Nat.le_refl _) _ _ _⟩
theorem an_eq {a : An} {k n e : Int} {s : ByteArray} (h1 : a.v.k = k) (h2 : a.v.n = n) (h3 : a.v.s = s) (h4 : a.e = e) : a = ⟨⟨k, n, s⟩, e⟩ := by
  obtain ⟨⟨a1, a2, a3⟩, a4⟩ := a
  simp only at h1 h2 h3 h4
  rw [h1, h2, h3, h4]
theorem kf1 : ((absT (readP [49, 32, 47, 32, 48, 32, 61, 32, 49, 32, 111, 114, 32, 116, 114, 117, 101]).1).all fun x => decide (x.ks.length ≤ 100000)) = true := by kernel_rfl
theorem kn1 : ((readP [49, 32, 47, 32, 48, 32, 61, 32, 49, 32, 111, 114, 32, 116, 114, 117, 101]).1.all fun x => decide (I64 x.vn)) = true := by kernel_rfl
theorem kk1 : (valA (absT (readP [49, 32, 47, 32, 48, 32, 61, 32, 49, 32, 111, 114, 32, 116, 114, 117, 101]).1) nul bdA).v.k = 0 := by kernel_rfl
theorem km1 : (valA (absT (readP [49, 32, 47, 32, 48, 32, 61, 32, 49, 32, 111, 114, 32, 116, 114, 117, 101]).1) nul bdA).v.n = 0 := by kernel_rfl
theorem ks1 : (valA (absT (readP [49, 32, 47, 32, 48, 32, 61, 32, 49, 32, 111, 114, 32, 116, 114, 117, 101]).1) nul bdA).v.s = ⟨#[]⟩ := by kernel_rfl
theorem ke1 : (valA (absT (readP [49, 32, 47, 32, 48, 32, 61, 32, 49, 32, 111, 114, 32, 116, 114, 117, 101]).1) nul bdA).e = 10 := by kernel_rfl
theorem ko1 (w : World) (hen : En w) : Calls Tryz.prog 16 #[.string ⟨#[49, 32, 47, 32, 48, 32, 61, 32, 49, 32, 111, 114, 32, 116, 114, 117, 101]⟩] w fun e w' => e = .returned (.tuple #[vl 0 0 ⟨#[]⟩, .int .i64 10]) ∧ Old w w' :=
  of_any ⟨#[49, 32, 47, 32, 48, 32, 61, 32, 49, 32, 111, 114, 32, 116, 114, 117, 101]⟩ w (by decide) hen (T := (readP [49, 32, 47, 32, 48, 32, 61, 32, 49, 32, 111, 114, 32, 116, 114, 117, 101]).1) (ln := (readP [49, 32, 47, 32, 48, 32, 61, 32, 49, 32, 111, 114, 32, 116, 114, 117, 101]).2.1) (cl := (readP [49, 32, 47, 32, 48, 32, 61, 32, 49, 32, 111, 114, 32, 116, 114, 117, 101]).2.2.1) (E := (readP [49, 32, 47, 32, 48, 32, 61, 32, 49, 32, 111, 114, 32, 116, 114, 117, 101]).2.2.2) rfl
    (fun x hx => of_decide_eq_true (List.all_eq_true.1 kf1 x hx)) (fun x hx => of_decide_eq_true (List.all_eq_true.1 kn1 x hx)) (an_eq kk1 km1 ks1 ke1)
theorem kf2 : ((absT (readP [116, 114, 117, 101, 32, 111, 114, 32, 49, 32, 47, 32, 48, 32, 61, 32, 49]).1).all fun x => decide (x.ks.length ≤ 100000)) = true := by kernel_rfl
theorem kn2 : ((readP [116, 114, 117, 101, 32, 111, 114, 32, 49, 32, 47, 32, 48, 32, 61, 32, 49]).1.all fun x => decide (I64 x.vn)) = true := by kernel_rfl
theorem kk2 : (valA (absT (readP [116, 114, 117, 101, 32, 111, 114, 32, 49, 32, 47, 32, 48, 32, 61, 32, 49]).1) nul bdA).v.k = 4 := by kernel_rfl
theorem km2 : (valA (absT (readP [116, 114, 117, 101, 32, 111, 114, 32, 49, 32, 47, 32, 48, 32, 61, 32, 49]).1) nul bdA).v.n = 1 := by kernel_rfl
theorem ks2 : (valA (absT (readP [116, 114, 117, 101, 32, 111, 114, 32, 49, 32, 47, 32, 48, 32, 61, 32, 49]).1) nul bdA).v.s = ⟨#[]⟩ := by kernel_rfl
theorem ke2 : (valA (absT (readP [116, 114, 117, 101, 32, 111, 114, 32, 49, 32, 47, 32, 48, 32, 61, 32, 49]).1) nul bdA).e = 0 := by kernel_rfl
theorem ko2 (w : World) (hen : En w) : Calls Tryz.prog 16 #[.string ⟨#[116, 114, 117, 101, 32, 111, 114, 32, 49, 32, 47, 32, 48, 32, 61, 32, 49]⟩] w fun e w' => e = .returned (.tuple #[vl 4 1 ⟨#[]⟩, .int .i64 0]) ∧ Old w w' :=
  of_any ⟨#[116, 114, 117, 101, 32, 111, 114, 32, 49, 32, 47, 32, 48, 32, 61, 32, 49]⟩ w (by decide) hen (T := (readP [116, 114, 117, 101, 32, 111, 114, 32, 49, 32, 47, 32, 48, 32, 61, 32, 49]).1) (ln := (readP [116, 114, 117, 101, 32, 111, 114, 32, 49, 32, 47, 32, 48, 32, 61, 32, 49]).2.1) (cl := (readP [116, 114, 117, 101, 32, 111, 114, 32, 49, 32, 47, 32, 48, 32, 61, 32, 49]).2.2.1) (E := (readP [116, 114, 117, 101, 32, 111, 114, 32, 49, 32, 47, 32, 48, 32, 61, 32, 49]).2.2.2) rfl
    (fun x hx => of_decide_eq_true (List.all_eq_true.1 kf2 x hx)) (fun x hx => of_decide_eq_true (List.all_eq_true.1 kn2 x hx)) (an_eq kk2 km2 ks2 ke2)
theorem kf3 : ((absT (readP [110, 117, 108, 108, 32, 97, 110, 100, 32, 102, 97, 108, 115, 101]).1).all fun x => decide (x.ks.length ≤ 100000)) = true := by kernel_rfl
theorem kn3 : ((readP [110, 117, 108, 108, 32, 97, 110, 100, 32, 102, 97, 108, 115, 101]).1.all fun x => decide (I64 x.vn)) = true := by kernel_rfl
theorem kk3 : (valA (absT (readP [110, 117, 108, 108, 32, 97, 110, 100, 32, 102, 97, 108, 115, 101]).1) nul bdA).v.k = 4 := by kernel_rfl
theorem km3 : (valA (absT (readP [110, 117, 108, 108, 32, 97, 110, 100, 32, 102, 97, 108, 115, 101]).1) nul bdA).v.n = 0 := by kernel_rfl
theorem ks3 : (valA (absT (readP [110, 117, 108, 108, 32, 97, 110, 100, 32, 102, 97, 108, 115, 101]).1) nul bdA).v.s = ⟨#[]⟩ := by kernel_rfl
theorem ke3 : (valA (absT (readP [110, 117, 108, 108, 32, 97, 110, 100, 32, 102, 97, 108, 115, 101]).1) nul bdA).e = 0 := by kernel_rfl
theorem ko3 (w : World) (hen : En w) : Calls Tryz.prog 16 #[.string ⟨#[110, 117, 108, 108, 32, 97, 110, 100, 32, 102, 97, 108, 115, 101]⟩] w fun e w' => e = .returned (.tuple #[vl 4 0 ⟨#[]⟩, .int .i64 0]) ∧ Old w w' :=
  of_any ⟨#[110, 117, 108, 108, 32, 97, 110, 100, 32, 102, 97, 108, 115, 101]⟩ w (by decide) hen (T := (readP [110, 117, 108, 108, 32, 97, 110, 100, 32, 102, 97, 108, 115, 101]).1) (ln := (readP [110, 117, 108, 108, 32, 97, 110, 100, 32, 102, 97, 108, 115, 101]).2.1) (cl := (readP [110, 117, 108, 108, 32, 97, 110, 100, 32, 102, 97, 108, 115, 101]).2.2.1) (E := (readP [110, 117, 108, 108, 32, 97, 110, 100, 32, 102, 97, 108, 115, 101]).2.2.2) rfl
    (fun x hx => of_decide_eq_true (List.all_eq_true.1 kf3 x hx)) (fun x hx => of_decide_eq_true (List.all_eq_true.1 kn3 x hx)) (an_eq kk3 km3 ks3 ke3)
theorem kf4 : ((absT (readP [49, 32, 43, 32, 110, 117, 108, 108]).1).all fun x => decide (x.ks.length ≤ 100000)) = true := by kernel_rfl
theorem kn4 : ((readP [49, 32, 43, 32, 110, 117, 108, 108]).1.all fun x => decide (I64 x.vn)) = true := by kernel_rfl
theorem kk4 : (valA (absT (readP [49, 32, 43, 32, 110, 117, 108, 108]).1) nul bdA).v.k = 0 := by kernel_rfl
theorem km4 : (valA (absT (readP [49, 32, 43, 32, 110, 117, 108, 108]).1) nul bdA).v.n = 0 := by kernel_rfl
theorem ks4 : (valA (absT (readP [49, 32, 43, 32, 110, 117, 108, 108]).1) nul bdA).v.s = ⟨#[]⟩ := by kernel_rfl
theorem ke4 : (valA (absT (readP [49, 32, 43, 32, 110, 117, 108, 108]).1) nul bdA).e = 0 := by kernel_rfl
theorem ko4 (w : World) (hen : En w) : Calls Tryz.prog 16 #[.string ⟨#[49, 32, 43, 32, 110, 117, 108, 108]⟩] w fun e w' => e = .returned (.tuple #[vl 0 0 ⟨#[]⟩, .int .i64 0]) ∧ Old w w' :=
  of_any ⟨#[49, 32, 43, 32, 110, 117, 108, 108]⟩ w (by decide) hen (T := (readP [49, 32, 43, 32, 110, 117, 108, 108]).1) (ln := (readP [49, 32, 43, 32, 110, 117, 108, 108]).2.1) (cl := (readP [49, 32, 43, 32, 110, 117, 108, 108]).2.2.1) (E := (readP [49, 32, 43, 32, 110, 117, 108, 108]).2.2.2) rfl
    (fun x hx => of_decide_eq_true (List.all_eq_true.1 kf4 x hx)) (fun x hx => of_decide_eq_true (List.all_eq_true.1 kn4 x hx)) (an_eq kk4 km4 ks4 ke4)
theorem kf5 : ((absT (readP [63, 97, 32, 61, 32, 110, 117, 108, 108]).1).all fun x => decide (x.ks.length ≤ 100000)) = true := by kernel_rfl
theorem kn5 : ((readP [63, 97, 32, 61, 32, 110, 117, 108, 108]).1.all fun x => decide (I64 x.vn)) = true := by kernel_rfl
theorem kk5 : (valA (absT (readP [63, 97, 32, 61, 32, 110, 117, 108, 108]).1) nul bdA).v.k = 4 := by kernel_rfl
theorem km5 : (valA (absT (readP [63, 97, 32, 61, 32, 110, 117, 108, 108]).1) nul bdA).v.n = 1 := by kernel_rfl
theorem ks5 : (valA (absT (readP [63, 97, 32, 61, 32, 110, 117, 108, 108]).1) nul bdA).v.s = ⟨#[]⟩ := by kernel_rfl
theorem ke5 : (valA (absT (readP [63, 97, 32, 61, 32, 110, 117, 108, 108]).1) nul bdA).e = 0 := by kernel_rfl
theorem ko5 (w : World) (hen : En w) : Calls Tryz.prog 16 #[.string ⟨#[63, 97, 32, 61, 32, 110, 117, 108, 108]⟩] w fun e w' => e = .returned (.tuple #[vl 4 1 ⟨#[]⟩, .int .i64 0]) ∧ Old w w' :=
  of_any ⟨#[63, 97, 32, 61, 32, 110, 117, 108, 108]⟩ w (by decide) hen (T := (readP [63, 97, 32, 61, 32, 110, 117, 108, 108]).1) (ln := (readP [63, 97, 32, 61, 32, 110, 117, 108, 108]).2.1) (cl := (readP [63, 97, 32, 61, 32, 110, 117, 108, 108]).2.2.1) (E := (readP [63, 97, 32, 61, 32, 110, 117, 108, 108]).2.2.2) rfl
    (fun x hx => of_decide_eq_true (List.all_eq_true.1 kf5 x hx)) (fun x hx => of_decide_eq_true (List.all_eq_true.1 kn5 x hx)) (an_eq kk5 km5 ks5 ke5)
theorem kf6 : ((absT (readP [105, 102, 40, 110, 117, 108, 108, 44, 32, 49, 44, 32, 50, 41]).1).all fun x => decide (x.ks.length ≤ 100000)) = true := by kernel_rfl
theorem kn6 : ((readP [105, 102, 40, 110, 117, 108, 108, 44, 32, 49, 44, 32, 50, 41]).1.all fun x => decide (I64 x.vn)) = true := by kernel_rfl
theorem kk6 : (valA (absT (readP [105, 102, 40, 110, 117, 108, 108, 44, 32, 49, 44, 32, 50, 41]).1) nul bdA).v.k = 0 := by kernel_rfl
theorem km6 : (valA (absT (readP [105, 102, 40, 110, 117, 108, 108, 44, 32, 49, 44, 32, 50, 41]).1) nul bdA).v.n = 0 := by kernel_rfl
theorem ks6 : (valA (absT (readP [105, 102, 40, 110, 117, 108, 108, 44, 32, 49, 44, 32, 50, 41]).1) nul bdA).v.s = ⟨#[]⟩ := by kernel_rfl
theorem ke6 : (valA (absT (readP [105, 102, 40, 110, 117, 108, 108, 44, 32, 49, 44, 32, 50, 41]).1) nul bdA).e = 0 := by kernel_rfl
theorem ko6 (w : World) (hen : En w) : Calls Tryz.prog 16 #[.string ⟨#[105, 102, 40, 110, 117, 108, 108, 44, 32, 49, 44, 32, 50, 41]⟩] w fun e w' => e = .returned (.tuple #[vl 0 0 ⟨#[]⟩, .int .i64 0]) ∧ Old w w' :=
  of_any ⟨#[105, 102, 40, 110, 117, 108, 108, 44, 32, 49, 44, 32, 50, 41]⟩ w (by decide) hen (T := (readP [105, 102, 40, 110, 117, 108, 108, 44, 32, 49, 44, 32, 50, 41]).1) (ln := (readP [105, 102, 40, 110, 117, 108, 108, 44, 32, 49, 44, 32, 50, 41]).2.1) (cl := (readP [105, 102, 40, 110, 117, 108, 108, 44, 32, 49, 44, 32, 50, 41]).2.2.1) (E := (readP [105, 102, 40, 110, 117, 108, 108, 44, 32, 49, 44, 32, 50, 41]).2.2.2) rfl
    (fun x hx => of_decide_eq_true (List.all_eq_true.1 kf6 x hx)) (fun x hx => of_decide_eq_true (List.all_eq_true.1 kn6 x hx)) (an_eq kk6 km6 ks6 ke6)
theorem known_any (w : World) (hen : En w) : Calls Tryz.prog 8 #[] w fun e w' => e = .returned (.bool true) ∧ Old w w' := by
  have H1 := hid (fun W (h : Old w W) => ko1 W (hen.old h))
  have H2 := hid (fun W (h : Old w W) => ko2 W (hen.old h))
  have H3 := hid (fun W (h : Old w W) => ko3 W (hen.old h))
  have H4 := hid (fun W (h : Old w W) => ko4 W (hen.old h))
  have H5 := hid (fun W (h : Old w W) => ko5 W (hen.old h))
  have H6 := hid (fun W (h : Old w W) => ko6 W (hen.old h))
  have HO := hid (Old.refl w)
  clear hen
  go_enter Tryz.func8, Tryz.ntmps8
  go_wp2_with (first
    | (go_at_call 16; (with_reducible refine (H1.out _ HO.out).mono ?_); rintro e w1 ⟨rfl, o1⟩; have O1 := hid ((HO.out.trans o1).alloc (.cells #[.int .u8 0, .int .i64 0, .string ⟨#[]⟩] 26)); have B1 := hid (Three.new w1 (.int .u8 0) (.int .i64 0) (.string ⟨#[]⟩)); clear o1)
    | (go_at_call 16; (with_reducible refine (H2.out _ O1.out).mono ?_); rintro e w2 ⟨rfl, o2⟩; have O2 := hid ((O1.out.trans o2).alloc (.cells #[.int .u8 4, .int .i64 1, .string ⟨#[]⟩] 26)); replace B1 := hid (B1.out.old (o2.alloc (.cells #[.int .u8 4, .int .i64 1, .string ⟨#[]⟩] 26))); have B2 := hid (Three.new w2 (.int .u8 4) (.int .i64 1) (.string ⟨#[]⟩)); clear o2)
    | (go_at_call 16; (with_reducible refine (H3.out _ O2.out).mono ?_); rintro e w3 ⟨rfl, o3⟩; have O3 := hid ((O2.out.trans o3).alloc (.cells #[.int .u8 4, .int .i64 0, .string ⟨#[]⟩] 26)); replace B1 := hid (B1.out.old (o3.alloc (.cells #[.int .u8 4, .int .i64 0, .string ⟨#[]⟩] 26))); replace B2 := hid (B2.out.old (o3.alloc (.cells #[.int .u8 4, .int .i64 0, .string ⟨#[]⟩] 26))); have B3 := hid (Three.new w3 (.int .u8 4) (.int .i64 0) (.string ⟨#[]⟩)); clear o3)
    | (go_at_call 16; (with_reducible refine (H4.out _ O3.out).mono ?_); rintro e w4 ⟨rfl, o4⟩; have O4 := hid ((O3.out.trans o4).alloc (.cells #[.int .u8 0, .int .i64 0, .string ⟨#[]⟩] 26)); replace B1 := hid (B1.out.old (o4.alloc (.cells #[.int .u8 0, .int .i64 0, .string ⟨#[]⟩] 26))); replace B2 := hid (B2.out.old (o4.alloc (.cells #[.int .u8 0, .int .i64 0, .string ⟨#[]⟩] 26))); replace B3 := hid (B3.out.old (o4.alloc (.cells #[.int .u8 0, .int .i64 0, .string ⟨#[]⟩] 26))); have B4 := hid (Three.new w4 (.int .u8 0) (.int .i64 0) (.string ⟨#[]⟩)); clear o4)
    | (go_at_call 16; (with_reducible refine (H5.out _ O4.out).mono ?_); rintro e w5 ⟨rfl, o5⟩; have O5 := hid ((O4.out.trans o5).alloc (.cells #[.int .u8 4, .int .i64 1, .string ⟨#[]⟩] 26)); replace B1 := hid (B1.out.old (o5.alloc (.cells #[.int .u8 4, .int .i64 1, .string ⟨#[]⟩] 26))); replace B2 := hid (B2.out.old (o5.alloc (.cells #[.int .u8 4, .int .i64 1, .string ⟨#[]⟩] 26))); replace B3 := hid (B3.out.old (o5.alloc (.cells #[.int .u8 4, .int .i64 1, .string ⟨#[]⟩] 26))); replace B4 := hid (B4.out.old (o5.alloc (.cells #[.int .u8 4, .int .i64 1, .string ⟨#[]⟩] 26))); have B5 := hid (Three.new w5 (.int .u8 4) (.int .i64 1) (.string ⟨#[]⟩)); clear o5)
    | (go_at_call 16; (with_reducible refine (H6.out _ O5.out).mono ?_); rintro e w6 ⟨rfl, o6⟩; have O6 := hid ((O5.out.trans o6).alloc (.cells #[.int .u8 0, .int .i64 0, .string ⟨#[]⟩] 26)); replace B1 := hid (B1.out.old (o6.alloc (.cells #[.int .u8 0, .int .i64 0, .string ⟨#[]⟩] 26))); replace B2 := hid (B2.out.old (o6.alloc (.cells #[.int .u8 0, .int .i64 0, .string ⟨#[]⟩] 26))); replace B3 := hid (B3.out.old (o6.alloc (.cells #[.int .u8 0, .int .i64 0, .string ⟨#[]⟩] 26))); replace B4 := hid (B4.out.old (o6.alloc (.cells #[.int .u8 0, .int .i64 0, .string ⟨#[]⟩] 26))); replace B5 := hid (B5.out.old (o6.alloc (.cells #[.int .u8 0, .int .i64 0, .string ⟨#[]⟩] 26))); have B6 := hid (Three.new w6 (.int .u8 0) (.int .i64 0) (.string ⟨#[]⟩)); clear o6; have c10 := B1.out.c0; have c11 := B1.out.c1; have c12 := B1.out.c2; have c20 := B2.out.c0; have c21 := B2.out.c1; have c22 := B2.out.c2; have c30 := B3.out.c0; have c31 := B3.out.c1; have c32 := B3.out.c2; have c40 := B4.out.c0; have c41 := B4.out.c1; have c42 := B4.out.c2; have c50 := B5.out.c0; have c51 := B5.out.c1; have c52 := B5.out.c2))
  go_ret
  exact ⟨rfl, O6.out⟩
end Go.Proofs.YtmkmafkkpigfpaaGreatDoor.V
