/- TokensLists' walk. -/
import Derived.Test.YtfgdgnkihiokoaaCD
namespace Go.Proofs.Ytfgdgnkihiokoaa
open Go.ChangeShapes Go.WideShapes Go.ChangeAt Go.RowKit Go.Lib
set_option linter.unusedVariables false
set_option linter.unusedSimpArgs false
set_option maxRecDepth 100000
set_option maxHeartbeats 2000000

/-- What an arena tells, in any world that has grown. -/
structure Tell (W0 : World) (b : Bs) (L : List Tk) : Prop where
  get : ∀ (i : Int) W, I64 i → Old W0 W → Calls Try.prog 11 #[ptr b, .int .i64 i] W fun e W' => e = .returned (.tuple #[tv ((getT L i).getD noTk), .bool (getT L i).isSome]) ∧ Old W W'
  kids : ∀ (i : Int) W, I64 i → Old W0 W → Calls Try.prog 13 #[ptr b, .int .i64 i] W fun e W' => ∃ v, e = .returned v ∧ Ints W' W.heap.size v (sel (pk L) i) ∧ Old W W'
  at_ : ∀ (i : Int) W, I64 i → Old W0 W → Calls Try.prog 16 #[ptr b, .int .i64 i] W fun e W' => ∃ v, e = .returned v ∧ Ints W' W.heap.size v (sel (pn L) i) ∧ Old W W'
  with_ : ∀ (i : Int) W, I64 i → Old W0 W → Calls Try.prog 17 #[ptr b, .int .i64 i] W fun e W' => ∃ v, e = .returned v ∧ Ints W' W.heap.size v (sel (pf L) i) ∧ Old W W'
  tup : ∀ (i : Int) W, I64 i → Old W0 W → Calls Try.prog 14 #[ptr b, .int .i64 i] W fun e W' => ∃ v, e = .returned v ∧ Ints W' W.heap.size v (tuple L i) ∧ Old W W'
  len : ∀ W, Old W0 W → Calls Try.prog 9 #[ptr b] W fun e W' => e = .returned (.int .i64 (L.length : Int)) ∧ W = W'
theorem Ar.tell {W0 : World} {b : Bs} {A : Nat → Prop} {L : List Tk} {last cap : Nat} (h : Ar W0 b A L last cap) (hg : Good L last) (hlast : last < 1000000) (hL : L.length ≤ 900000) : Tell W0 b L where
  get := fun i W hi ho => get_any (h.old ho) hg.up hi
  kids := fun i W hi ho => kids_any (h.old ho) hi (by have := len_kids L i; omega)
  at_ := fun i W hi ho => at_any (h.old ho) hi (by have := len_at L i; omega)
  with_ := fun i W hi ho => with_any (h.old ho) hi (by have := len_with L i; omega)
  tup := fun i W hi ho => tuple_any (h.old ho) hg hlast hL hi
  len := fun W ho => (h.old ho).len

theorem in_one {l : List Int} (hu : l.Pairwise (· < ·)) (hlen : l.length < 1000000) {n : Int} (hn : n ∈ l) {W : World} {base : Nat} {v : Value} (h : Ints W base v l) :
    Calls Try.prog 19 #[v, .int .i64 n] W fun e W' => e = .returned (.int .i64 1) ∧ Old W W' := by
  have := in_any h.ir hu hlen n
  rw [cnt_one hu hn] at this
  exact this
theorem lists_any (l : List Ox) (v : Value) (w : World) (hl : OR w v l) : Calls Try.prog 5 #[v] w fun e w' => e = .returned (.bool true) ∧ Old w w' := by
  have hbu := fun (hn : l.length ≤ 1000) => built_any hl hn
  have hall := hl.all
  obtain ⟨oa, cp, rfl, _⟩ := hl
  by_cases h60 : 60 < l.length
  · have h60i : (60 : Int) < (l.length : Int) := by omega
    clear hbu hall
    go_enter Try.func5, Try.ntmps5
    go_wp2_with (go_at_call 7; (with_reducible refine (known_any _).mono ?_); rintro e w1 ⟨rfl, ho⟩; have HO := Lib.hid ho; clear ho)
    go_ret
    exact ⟨rfl, HO.out⟩
  · have hb := hbu (by omega)
    obtain ⟨hg, hlast, hlen⟩ := runS_facts l hall
    generalize runS l = S at *
    obtain ⟨L, last⟩ := S
    simp only at hg hlast hlen hb
    have HB := Lib.hid hb
    have HG := Lib.hid hg
    have hli : (l.length : Int) ≤ 60 := by omega
    have hla : (last : Int) < 100 := by omega
    have hla0 : (0 : Int) ≤ (last : Int) := by omega
    have HLA := Lib.hid (show last < 100 by omega)
    have HLL := Lib.hid (show L.length < 100 by omega)
    clear hbu hall h60 hb hg hlast hlen
    go_enter Try.func5, Try.ntmps5
    go_wp2_with (go_at_call 18; (with_reducible refine HB.out.mono ?_); rintro e w1 ⟨b, A, cap, rfl, h, hcap⟩; have HM := Lib.hid h; have HTE := Lib.hid (h.ar.tell HG.out (by have := HLA.out; omega) (by have := HLL.out; omega)); clear h hcap)
    go_loopw [5, 6, 7] (fun s5 s6 s7 wr => ∃ k : Nat, s5 = .int .i64 (thereN L (k : Int) : Int) ∧ s6 = .int .i64 (kidsN L (k : Int) : Int) ∧ s7 = .int .i64 (k : Int) ∧ k ≤ last + 1 ∧ Hid (Old w1 wr)) (fun s5 s6 s7 wr => last + 1 - (intOf s7).toNat)
    case atStart =>
      exact ⟨0, by rw [show ((0 : Nat) : Int) = 0 from rfl, thereN_zero HG.out]; rfl, by rw [show ((0 : Nat) : Int) = 0 from rfl, kidsN_zero]; rfl, rfl, Nat.zero_le _, Lib.hid (Old.refl w1)⟩
    case round =>
      obtain ⟨k, rfl, rfl, rfl, hk, HO⟩ := hrel
      by_cases hlt : k ≤ last
      · have hlti : (k : Int) ≤ (last : Int) := by omega
        have h0k : (0 : Int) ≤ (k : Int) := by omega
        have hk64 : I64 (k : Int) := by unfold I64; omega
        have HLT := Lib.hid hlt
        have hT := thereN_le L (k : Int)
        have hK := kidsN_le L (k : Int)
        have hKs := kidsN_step L h0k
        have hm := len_kids L (k : Int)
        have hkid := fun W ho => HTE.out.kids (k : Int) W hk64 ho
        have hcast : ((k + 1 : Nat) : Int) = (k : Int) + 1 := by omega
        rcases hgt : getT L (k : Int) with _ | t
        · have hget : ∀ W, Old w1 W → Calls Try.prog 11 #[ptr b, .int .i64 (k : Int)] W fun e W' => e = .returned (.tuple #[tv noTk, .bool false]) ∧ Old W W' := fun W ho => by
            have := HTE.out.get (k : Int) W hk64 ho
            rw [hgt] at this
            exact this
          have htup := fun W ho => HTE.out.tup (k : Int) W hk64 ho
          rw [tuple_no (getT_none hgt)] at htup
          have hsel := kids_none HG.out h0k hgt
          rw [hsel] at hkid hKs
          have hTn := thereN_none hgt
          have HGET := Lib.hid hget
          have HKID := Lib.hid hkid
          have HTUP := Lib.hid htup
          have HTN := Lib.hid hTn
          have HKS := Lib.hid hKs
          generalize thereN L (k : Int) = T at *
          generalize kidsN L (k : Int) = Q at *
          have hTi : (T : Int) < 100 := by have := HLL.out; omega
          have hQi : (Q : Int) < 100 := by have := HLL.out; omega
          have hT0 : (0 : Int) ≤ (T : Int) := by omega
          have hQ0 : (0 : Int) ≤ (Q : Int) := by omega
          have HC := Lib.hid hcast
          clear hget hkid htup hTn hKs hsel hgt hT hK hm hlt hk hk64 hcast
          go_wp2_with (first
            | (go_at_call 11; (with_reducible refine (HGET.out _ HO.out).mono ?_); rintro e w2 ⟨rfl, ho⟩; replace HO := Lib.hid ((HO.out.trans ho).alloc (.cells #[.int .i64 noTk.id, .int .i64 noTk.par, .int .i64 noTk.node, .int .i64 noTk.fact] 32)); clear ho)
            | (go_at_call 13; (with_reducible refine (HKID.out _ HO.out).mono ?_); rintro e w3 ⟨v3, rfl, hi, ho⟩; obtain ⟨oa3, cp3, e3⟩ := hi.shape; obtain rfl : v3 = .slice oa3 0 cp3 := e3; replace HO := Lib.hid (HO.out.trans ho); clear ho hi)
            | (go_at_call 14; (with_reducible refine (HTUP.out _ HO.out).mono ?_); rintro e w3 ⟨v3, rfl, hi, ho⟩; obtain ⟨oa3, cp3, e3⟩ := hi.shape; obtain rfl : v3 = .slice oa3 0 cp3 := e3; replace HO := Lib.hid (HO.out.trans ho); clear ho hi))
          refine ⟨⟨k + 1, by rw [HC.out, HTN.out], by rw [HC.out, HKS.out]; rfl, by simp, by have := HLT.out; omega, HO⟩, ?_⟩
          have e1 : (intOf (Value.int IntKind.i64 ((k : Int) + 1))).toNat = k + 1 := by show ((k : Int) + 1).toNat = k + 1; omega
          have e2 : (intOf (Value.int IntKind.i64 (k : Int))).toNat = k := by show ((k : Int)).toNat = k; omega
          have := HLT.out
          rw [e1, e2]
          omega
        · obtain ⟨htL, hid⟩ := getT_some hgt
          have h64 := HG.out.t64 (by have := HLA.out; omega) htL
          have hget : ∀ W, Old w1 W → Calls Try.prog 11 #[ptr b, .int .i64 (k : Int)] W fun e W' => e = .returned (.tuple #[tv t, .bool true]) ∧ Old W W' := fun W ho => by
            have := HTE.out.get (k : Int) W hk64 ho
            rw [hgt] at this
            exact this
          have hTn : thereN L ((k : Int) + 1) = thereN L (k : Int) + 1 := by rw [← hid]; exact thereN_some HG.out.up htL
          have hat := fun W ho => HTE.out.at_ t.node W h64.node ho
          have hkp := fun W ho => HTE.out.kids t.par W h64.par ho
          have hwi := fun W ho => HTE.out.with_ t.fact W h64.fact ho
          have lA : (sel (pn L) t.node).length < 1000000 := by have := len_at L t.node; have := HLL.out; omega
          have lK : (sel (pk L) t.par).length < 1000000 := by have := len_kids L t.par; have := HLL.out; omega
          have lW : (sel (pf L) t.fact).length < 1000000 := by have := len_with L t.fact; have := HLL.out; omega
          have HINA : Hid (∀ {W : World} {base : Nat} {v : Value}, Ints W base v (sel (pn L) t.node) → Calls Try.prog 19 #[v, .int .i64 (k : Int)] W fun e W' => e = .returned (.int .i64 1) ∧ Old W W') := Lib.hid (in_one (up_at HG.out.up _) lA (mem_at.2 ⟨t, htL, rfl, hid⟩))
          have HINK : Hid (∀ {W : World} {base : Nat} {v : Value}, Ints W base v (sel (pk L) t.par) → Calls Try.prog 19 #[v, .int .i64 (k : Int)] W fun e W' => e = .returned (.int .i64 1) ∧ Old W W') := Lib.hid (in_one (up_kids HG.out.up _) lK (mem_kids.2 ⟨t, htL, rfl, hid⟩))
          have HINW : Hid (t.fact ≠ 0 → ∀ {W : World} {base : Nat} {v : Value}, Ints W base v (sel (pf L) t.fact) → Calls Try.prog 19 #[v, .int .i64 (k : Int)] W fun e W' => e = .returned (.int .i64 1) ∧ Old W W') := Lib.hid (fun hf => in_one (up_with HG.out.up _) lW (mem_with.2 ⟨t, htL, hf, rfl, hid⟩))
          have HGET := Lib.hid hget
          have HKID := Lib.hid hkid
          have HKP := Lib.hid hkp
          have HAT := Lib.hid hat
          have HWI := Lib.hid hwi
          have HTN := Lib.hid hTn
          have HKS := Lib.hid hKs
          have hf0 : 0 ≤ t.fact := (HG.out.pos t htL).2.1
          generalize thereN L (k : Int) = T at *
          generalize kidsN L (k : Int) = Q at *
          generalize sel (pk L) (k : Int) = M at *
          have hTi : (T : Int) < 100 := by have := HLL.out; omega
          have hQi : (Q : Int) < 100 := by have := HLL.out; omega
          have hMi : (M.length : Int) < 100 := by have := HLL.out; omega
          have hT0 : (0 : Int) ≤ (T : Int) := by omega
          have hQ0 : (0 : Int) ≤ (Q : Int) := by omega
          have HC := Lib.hid hcast
          have hne : (t.id != (k : Int)) = false := by simp [hid]
          clear hget hkid hkp hat hwi lA lK lW hTn hKs hgt hT hK hm hlt hk hk64 hcast htL hid h64
          by_cases hk0 : k = 0
          · have hle0 : decide ((0 : Int) < (k : Int)) = false := by simp; omega
            have hle1 : decide (0 < k) = false := by simp; omega
            have HK0 := Lib.hid hk0
            clear hk0 h0k
            by_cases hfz : t.fact = 0
            · have hfb : decide ((0 : Int) < t.fact) = false := by simp; omega
              clear hfz hf0
              go_wp2_with (first
                | (go_at_call 11; (with_reducible refine (HGET.out _ HO.out).mono ?_); rintro e w2 ⟨rfl, ho⟩; replace HO := Lib.hid ((HO.out.trans ho).alloc (.cells #[.int .i64 t.id, .int .i64 t.par, .int .i64 t.node, .int .i64 t.fact] 32)); have HTB := Lib.hid (Tb.new w2 t); have q0 := HTB.out.cells.1; clear ho)
                | (go_at_call 13; first
                  | ((with_reducible refine (HKID.out _ HO.out).mono ?_); rintro e w3 ⟨v3, rfl, hi, ho⟩; obtain ⟨oa3, cp3, e3⟩ := hi.shape; obtain rfl : v3 = .slice oa3 M.length cp3 := e3; replace HO := Lib.hid (HO.out.trans ho); replace HTB := Lib.hid (HTB.out.old ho); have q0 := HTB.out.cells.1; have q1 := HTB.out.cells.2.1; have q2 := HTB.out.cells.2.2.1; have q3 := HTB.out.cells.2.2.2; clear ho hi)
                  | ((with_reducible refine (HKP.out _ HO.out).mono ?_); rintro e w3 ⟨v3, rfl, hi, ho⟩; have HR := Lib.hid hi; replace HO := Lib.hid (HO.out.trans ho); replace HTB := Lib.hid (HTB.out.old ho); clear ho hi))
                | (go_at_call 16; (with_reducible refine (HAT.out _ HO.out).mono ?_); rintro e w3 ⟨v3, rfl, hi, ho⟩; have HR := Lib.hid hi; replace HO := Lib.hid (HO.out.trans ho); replace HTB := Lib.hid (HTB.out.old ho); clear ho hi)
                | (go_at_call 17; (with_reducible refine (HWI.out _ HO.out).mono ?_); rintro e w3 ⟨v3, rfl, hi, ho⟩; have HR := Lib.hid hi; replace HO := Lib.hid (HO.out.trans ho); replace HTB := Lib.hid (HTB.out.old ho); clear ho hi)
                | (go_at_call 19; (first | (with_reducible refine (HINA.out HR.out).mono ?_) | (with_reducible refine (HINK.out HR.out).mono ?_) | (with_reducible refine (HINW.out HR.out).mono ?_)); rintro e w4 ⟨rfl, ho⟩; replace HO := Lib.hid (HO.out.trans ho); replace HTB := Lib.hid (HTB.out.old ho); have q1 := HTB.out.cells.2.1; have q3 := HTB.out.cells.2.2.2; clear ho HR))
              refine ⟨⟨k + 1, by rw [HC.out, HTN.out]; simp, by rw [HC.out, HKS.out]; simp, by simp, by have := HLT.out; omega, HO⟩, ?_⟩
              have e1 : (intOf (Value.int IntKind.i64 ((k : Int) + 1))).toNat = k + 1 := by show ((k : Int) + 1).toNat = k + 1; omega
              have e2 : (intOf (Value.int IntKind.i64 (k : Int))).toNat = k := by show ((k : Int)).toNat = k; omega
              have := HLT.out
              rw [e1, e2]
              omega
            · have hfb : decide ((0 : Int) < t.fact) = true := by simp; omega
              replace HINW : Hid (∀ {W : World} {base : Nat} {v : Value}, Ints W base v (sel (pf L) t.fact) → Calls Try.prog 19 #[v, .int .i64 (k : Int)] W fun e W' => e = .returned (.int .i64 1) ∧ Old W W') := Lib.hid (HINW.out hfz)
              have hfp : (0 : Int) < t.fact := by omega
              clear hfz hf0
              go_wp2_with (first
                | (go_at_call 11; (with_reducible refine (HGET.out _ HO.out).mono ?_); rintro e w2 ⟨rfl, ho⟩; replace HO := Lib.hid ((HO.out.trans ho).alloc (.cells #[.int .i64 t.id, .int .i64 t.par, .int .i64 t.node, .int .i64 t.fact] 32)); have HTB := Lib.hid (Tb.new w2 t); have q0 := HTB.out.cells.1; clear ho)
                | (go_at_call 13; first
                  | ((with_reducible refine (HKID.out _ HO.out).mono ?_); rintro e w3 ⟨v3, rfl, hi, ho⟩; obtain ⟨oa3, cp3, e3⟩ := hi.shape; obtain rfl : v3 = .slice oa3 M.length cp3 := e3; replace HO := Lib.hid (HO.out.trans ho); replace HTB := Lib.hid (HTB.out.old ho); have q0 := HTB.out.cells.1; have q1 := HTB.out.cells.2.1; have q2 := HTB.out.cells.2.2.1; have q3 := HTB.out.cells.2.2.2; clear ho hi)
                  | ((with_reducible refine (HKP.out _ HO.out).mono ?_); rintro e w3 ⟨v3, rfl, hi, ho⟩; have HR := Lib.hid hi; replace HO := Lib.hid (HO.out.trans ho); replace HTB := Lib.hid (HTB.out.old ho); clear ho hi))
                | (go_at_call 16; (with_reducible refine (HAT.out _ HO.out).mono ?_); rintro e w3 ⟨v3, rfl, hi, ho⟩; have HR := Lib.hid hi; replace HO := Lib.hid (HO.out.trans ho); replace HTB := Lib.hid (HTB.out.old ho); clear ho hi)
                | (go_at_call 17; (with_reducible refine (HWI.out _ HO.out).mono ?_); rintro e w3 ⟨v3, rfl, hi, ho⟩; have HR := Lib.hid hi; replace HO := Lib.hid (HO.out.trans ho); replace HTB := Lib.hid (HTB.out.old ho); clear ho hi)
                | (go_at_call 19; (first | (with_reducible refine (HINA.out HR.out).mono ?_) | (with_reducible refine (HINK.out HR.out).mono ?_) | (with_reducible refine (HINW.out HR.out).mono ?_)); rintro e w4 ⟨rfl, ho⟩; replace HO := Lib.hid (HO.out.trans ho); replace HTB := Lib.hid (HTB.out.old ho); have q1 := HTB.out.cells.2.1; have q3 := HTB.out.cells.2.2.2; clear ho HR))
              refine ⟨⟨k + 1, by rw [HC.out, HTN.out]; simp, by rw [HC.out, HKS.out]; simp, by simp, by have := HLT.out; omega, HO⟩, ?_⟩
              have e1 : (intOf (Value.int IntKind.i64 ((k : Int) + 1))).toNat = k + 1 := by show ((k : Int) + 1).toNat = k + 1; omega
              have e2 : (intOf (Value.int IntKind.i64 (k : Int))).toNat = k := by show ((k : Int)).toNat = k; omega
              have := HLT.out
              rw [e1, e2]
              omega
          · have hgt0 : (0 : Int) < (k : Int) := by omega
            have hgt1 : decide (0 < k) = true := by simp; omega
            have HK0 := Lib.hid hk0
            clear hk0
            by_cases hfz : t.fact = 0
            · have hfb : decide ((0 : Int) < t.fact) = false := by simp; omega
              clear hfz hf0
              go_wp2_with (first
                | (go_at_call 11; (with_reducible refine (HGET.out _ HO.out).mono ?_); rintro e w2 ⟨rfl, ho⟩; replace HO := Lib.hid ((HO.out.trans ho).alloc (.cells #[.int .i64 t.id, .int .i64 t.par, .int .i64 t.node, .int .i64 t.fact] 32)); have HTB := Lib.hid (Tb.new w2 t); have q0 := HTB.out.cells.1; clear ho)
                | (go_at_call 13; first
                  | ((with_reducible refine (HKID.out _ HO.out).mono ?_); rintro e w3 ⟨v3, rfl, hi, ho⟩; obtain ⟨oa3, cp3, e3⟩ := hi.shape; obtain rfl : v3 = .slice oa3 M.length cp3 := e3; replace HO := Lib.hid (HO.out.trans ho); replace HTB := Lib.hid (HTB.out.old ho); have q0 := HTB.out.cells.1; have q1 := HTB.out.cells.2.1; have q2 := HTB.out.cells.2.2.1; have q3 := HTB.out.cells.2.2.2; clear ho hi)
                  | ((with_reducible refine (HKP.out _ HO.out).mono ?_); rintro e w3 ⟨v3, rfl, hi, ho⟩; have HR := Lib.hid hi; replace HO := Lib.hid (HO.out.trans ho); replace HTB := Lib.hid (HTB.out.old ho); clear ho hi))
                | (go_at_call 16; (with_reducible refine (HAT.out _ HO.out).mono ?_); rintro e w3 ⟨v3, rfl, hi, ho⟩; have HR := Lib.hid hi; replace HO := Lib.hid (HO.out.trans ho); replace HTB := Lib.hid (HTB.out.old ho); clear ho hi)
                | (go_at_call 17; (with_reducible refine (HWI.out _ HO.out).mono ?_); rintro e w3 ⟨v3, rfl, hi, ho⟩; have HR := Lib.hid hi; replace HO := Lib.hid (HO.out.trans ho); replace HTB := Lib.hid (HTB.out.old ho); clear ho hi)
                | (go_at_call 19; (first | (with_reducible refine (HINA.out HR.out).mono ?_) | (with_reducible refine (HINK.out HR.out).mono ?_) | (with_reducible refine (HINW.out HR.out).mono ?_)); rintro e w4 ⟨rfl, ho⟩; replace HO := Lib.hid (HO.out.trans ho); replace HTB := Lib.hid (HTB.out.old ho); have q1 := HTB.out.cells.2.1; have q3 := HTB.out.cells.2.2.2; clear ho HR))
              refine ⟨⟨k + 1, by rw [HC.out, HTN.out]; simp, by rw [HC.out, HKS.out]; simp, by simp, by have := HLT.out; omega, HO⟩, ?_⟩
              have e1 : (intOf (Value.int IntKind.i64 ((k : Int) + 1))).toNat = k + 1 := by show ((k : Int) + 1).toNat = k + 1; omega
              have e2 : (intOf (Value.int IntKind.i64 (k : Int))).toNat = k := by show ((k : Int)).toNat = k; omega
              have := HLT.out
              rw [e1, e2]
              omega
            · have hfb : decide ((0 : Int) < t.fact) = true := by simp; omega
              replace HINW : Hid (∀ {W : World} {base : Nat} {v : Value}, Ints W base v (sel (pf L) t.fact) → Calls Try.prog 19 #[v, .int .i64 (k : Int)] W fun e W' => e = .returned (.int .i64 1) ∧ Old W W') := Lib.hid (HINW.out hfz)
              have hfp : (0 : Int) < t.fact := by omega
              clear hfz hf0
              go_wp2_with (first
                | (go_at_call 11; (with_reducible refine (HGET.out _ HO.out).mono ?_); rintro e w2 ⟨rfl, ho⟩; replace HO := Lib.hid ((HO.out.trans ho).alloc (.cells #[.int .i64 t.id, .int .i64 t.par, .int .i64 t.node, .int .i64 t.fact] 32)); have HTB := Lib.hid (Tb.new w2 t); have q0 := HTB.out.cells.1; clear ho)
                | (go_at_call 13; first
                  | ((with_reducible refine (HKID.out _ HO.out).mono ?_); rintro e w3 ⟨v3, rfl, hi, ho⟩; obtain ⟨oa3, cp3, e3⟩ := hi.shape; obtain rfl : v3 = .slice oa3 M.length cp3 := e3; replace HO := Lib.hid (HO.out.trans ho); replace HTB := Lib.hid (HTB.out.old ho); have q0 := HTB.out.cells.1; have q1 := HTB.out.cells.2.1; have q2 := HTB.out.cells.2.2.1; have q3 := HTB.out.cells.2.2.2; clear ho hi)
                  | ((with_reducible refine (HKP.out _ HO.out).mono ?_); rintro e w3 ⟨v3, rfl, hi, ho⟩; have HR := Lib.hid hi; replace HO := Lib.hid (HO.out.trans ho); replace HTB := Lib.hid (HTB.out.old ho); clear ho hi))
                | (go_at_call 16; (with_reducible refine (HAT.out _ HO.out).mono ?_); rintro e w3 ⟨v3, rfl, hi, ho⟩; have HR := Lib.hid hi; replace HO := Lib.hid (HO.out.trans ho); replace HTB := Lib.hid (HTB.out.old ho); clear ho hi)
                | (go_at_call 17; (with_reducible refine (HWI.out _ HO.out).mono ?_); rintro e w3 ⟨v3, rfl, hi, ho⟩; have HR := Lib.hid hi; replace HO := Lib.hid (HO.out.trans ho); replace HTB := Lib.hid (HTB.out.old ho); clear ho hi)
                | (go_at_call 19; (first | (with_reducible refine (HINA.out HR.out).mono ?_) | (with_reducible refine (HINK.out HR.out).mono ?_) | (with_reducible refine (HINW.out HR.out).mono ?_)); rintro e w4 ⟨rfl, ho⟩; replace HO := Lib.hid (HO.out.trans ho); replace HTB := Lib.hid (HTB.out.old ho); have q1 := HTB.out.cells.2.1; have q3 := HTB.out.cells.2.2.2; clear ho HR))
              refine ⟨⟨k + 1, by rw [HC.out, HTN.out]; simp, by rw [HC.out, HKS.out]; simp, by simp, by have := HLT.out; omega, HO⟩, ?_⟩
              have e1 : (intOf (Value.int IntKind.i64 ((k : Int) + 1))).toNat = k + 1 := by show ((k : Int) + 1).toNat = k + 1; omega
              have e2 : (intOf (Value.int IntKind.i64 (k : Int))).toNat = k := by show ((k : Int)).toNat = k; omega
              have := HLT.out
              rw [e1, e2]
              omega
      · obtain rfl : k = last + 1 := by omega
        have hcast : ((last + 1 : Nat) : Int) = (last : Int) + 1 := by omega
        have hQ := kidsN_end HG.out
        rw [hcast, thereN_end HG.out]
        generalize kidsN L ((last : Int) + 1) = Q at *
        have hwi := fun W ho => HTE.out.with_ 0 W (by decide) ho
        rw [with_zero] at hwi
        have HWI := Lib.hid hwi
        have hlen := HTE.out.len
        generalize L.length = Z at *
        have HLN := Lib.hid hlen
        clear hlen
        have hZi : (Z : Int) < 100 := by have := HLL.out; omega
        have hQi : (Q : Int) < 100 := by omega
        have hZ0 : (0 : Int) ≤ (Z : Int) := by omega
        have hQ0 : (0 : Int) ≤ (Q : Int) := by omega
        have hq : ((Q : Int) == (Z : Int) - 1) = true := by simp; omega
        have hz : ((Z : Int) == (Z : Int)) = true := by simp
        have hgt : (last : Int) < (last : Int) + 1 := by omega
        clear hQ hwi hlt hk hcast
        go_wp2_with (first
          | (go_at_call 9; (with_reducible refine (HLN.out _ HO.out).mono ?_); rintro e w3 ⟨rfl, rfl⟩)
          | (go_at_call 17; (with_reducible refine (HWI.out _ HO.out).mono ?_); rintro e w3 ⟨v3, rfl, hi, ho⟩; obtain ⟨oa3, cp3, e3⟩ := hi.shape; obtain rfl : v3 = .slice oa3 0 cp3 := e3; replace HO := Lib.hid (HO.out.trans ho); clear ho hi)
          | (go_at_call 7; (with_reducible refine (known_any _).mono ?_); rintro e w5 ⟨rfl, ho⟩; replace HO := Lib.hid (HO.out.trans ho); clear ho))
        go_ret
        exact ⟨rfl, HM.out.old.trans HO.out⟩
end Go.Proofs.Ytfgdgnkihiokoaa
