/- The sort's closure, its order; rows of activations with their vectors. -/
import Derived.Test.YtdcfaniimhjghaaOJ
import Derived.Test.YtdcfaniimhjghaaSF
import Derived.Shelf.SlSortCmp.NoneTotal
namespace Go.Proofs.Ytdcfaniimhjghaa
open Go.ChangeShapes Go.WideShapes Go.ChangeAt Go.RowKit Go.Lib Go.Sort Go.Shelf
set_option linter.unusedVariables false
set_option linter.unusedSimpArgs false
set_option maxRecDepth 100000
set_option maxHeartbeats 1600000

theorem swo_of {α : Type} {f : α → α → Int} (h : Cp f) : SWO (ltOf f) where
  irrefl x := by unfold ltOf; rw [h.self]; rfl
  trans x y z h1 h2 := by
    unfold ltOf at *
    simp only [decide_eq_true_eq] at *
    rcases Int.lt_or_le (f x z) 0 with h3 | h3
    · exact h3
    · have := h.anti x z
      have h4 := h.anti y z
      have h5 := h.trans y z x (by omega) (by omega)
      have := h.anti x y
      omega
  ntrans x y z h1 h2 := by
    unfold ltOf at *
    simp only [decide_eq_false_iff_not, Int.not_lt] at *
    have a1 := h.anti x y
    have a2 := h.anti y z
    have a3 := h.anti x z
    have := h.trans z y x (by omega) (by omega)
    omega

theorem stable_none (p : Option Addr) (cap : Nat) (fv : Value) (w : World) : Calls Try.prog 29 #[.slice p 0 cap, fv] w fun e w' => e = .returned (.tuple #[]) ∧ w' = w := by
  have h1 : Calls Try.prog 51 #[.slice p 0 cap, .int .i64 0, .int .i64 0, fv] w fun e w' => e = .returned (.tuple #[]) ∧ w' = w := AnyF.insertionSortCmpFunc_none Try.laysIns p cap fv w
  have h2 : Calls Try.prog 40 #[.slice p 0 cap, .int .i64 0, fv] w fun e w' => e = .returned (.tuple #[]) ∧ w' = w := by
    go_enter Try.func40, Try.ntmps40
    go_wp2
    go_loopg [7, 8] 0 (fun kx s7 s8 wr => s7 = .int .i64 0 ∧ s8 = .int .i64 20 ∧ wr = w)
    case atStart => exact ⟨rfl, rfl, rfl⟩
    case round =>
      obtain ⟨rfl, rfl, rfl⟩ := hrel
      go_wp2_with (first | (go_at_call 51; (with_reducible refine h1.mono ?_); rintro e w2 ⟨rfl, rfl⟩))
      go_loopg [6] 0 (fun kx s6 w3 => s6 = .int .i64 20 ∧ w3 = w2)
      case atStart => exact ⟨rfl, rfl⟩
      case round =>
        obtain ⟨rfl, rfl⟩ := hrel
        go_wp2_with fail
        go_end0
        exact ⟨rfl, rfl⟩
  go_enter Try.func29, Try.ntmps29
  go_wp2_with (first | (go_at_call 40; (with_reducible refine h2.mono ?_); rintro e w2 ⟨rfl, rfl⟩))
  go_end0
  exact ⟨rfl, rfl⟩

/-- The closure of the sort. -/
theorem clo30 {w : World} {s : Int} {lb : Nat} {lv : Value} (a b : Rw) (hlb : lb < w.heap.size) (hc : w.cell? ⟨lb, 0, none⟩ = some lv) (hl : LS w lv s) (ha : ROk w s a) (hb : ROk w s b) :
    Calls Try.prog 30 #[rv a, rv b, .pointer (some ⟨lb, 0, none⟩)] w fun e w' => e = .returned (.int .i64 (cmpA s a.1.1 b.1.1)) ∧ Gw w w' := by
  have hcon : ∀ W, Old w W → Calls Try.prog 25 #[lv, rv a, rv b] W fun e w' => e = .returned (.int .i64 (cmpA s a.1.1 b.1.1)) ∧ Gw W w' := fun W ho => compare_any a b (hl.old ho) (ha.old ho) (hb.old ho)
  obtain ⟨g, sb, cap, rfl, _⟩ := hl
  generalize cmpA s a.1.1 b.1.1 = R at hcon ⊢
  obtain ⟨⟨⟨r1, t1, s1⟩, v1⟩, u1⟩ := a
  obtain ⟨⟨⟨r2, t2, s2⟩, v2⟩, u2⟩ := b
  obtain ⟨oa, ca, oc, cc, rfl, rfl⟩ := ha.open
  obtain ⟨ob, cb, od, cd, rfl, rfl⟩ := hb.open
  clear ha hb
  unfold rv at hcon ⊢
  simp only at hcon ⊢
  generalize t1.length = n1 at *
  generalize t2.length = n2 at *
  generalize (vec s t1).length = n3 at *
  generalize (vec s t2).length = n4 at *
  have HC := Lib.hid hcon
  clear hcon
  go_enter Try.func30, Try.ntmps30
  go_wp2_with (first | (go_at_call 25; (with_reducible refine (HC.out _ (((Old.refl w).alloc _).alloc _)).mono ?_); rintro e w2 ⟨rfl, hgw⟩; have HG2 := Lib.hid hgw; clear hgw))
  go_ret
  exact ⟨rfl, (((Gw.refl w).alloc _).alloc _).trans HG2.out⟩

/-- The list of closures, new since a world of so many blocks. -/
def LSb (w : World) (base : Nat) (v : Value) (s : Int) : Prop :=
  ∃ g sb cap, v = .slice (some ⟨g, 0, none⟩) 4 cap ∧ base ≤ g ∧ base ≤ sb ∧ g < w.heap.size ∧ sb < w.heap.size ∧ w.cell? ⟨sb, 0, none⟩ = some (.int .u8 s) ∧ w.cell? ⟨g, 0, none⟩ = some (.func (.func 35) #[] #[]) ∧ w.cell? ⟨g, 1, none⟩ = some (.func (.func 36) #[] #[.pointer (some ⟨sb, 0, none⟩)]) ∧ w.cell? ⟨g, 2, none⟩ = some (.func (.func 38) #[] #[]) ∧ w.cell? ⟨g, 3, none⟩ = some (.func (.func 39) #[] #[])
theorem LSb.chg {S : Nat → Prop} {w w' : World} {base : Nat} {v : Value} {s : Int} (h : LSb w base v s) (hc : Chg S w w') (hs : ∀ k, base ≤ k → ¬ S k) : LSb w' base v s := by
  obtain ⟨g, sb, cap, rfl, b1, b2, h1, h2, h3, h4, h5, h6, h7⟩ := h
  have e : ∀ {k o : Nat}, base ≤ k → k < w.heap.size → w'.cell? ⟨k, o, none⟩ = w.cell? ⟨k, o, none⟩ := fun {k o} hk hk2 => World.cell?_of_block (w := w) (hc.block k hk2 (hs k hk))
  exact ⟨g, sb, cap, rfl, b1, b2, Nat.lt_of_lt_of_le h1 hc.size, Nat.lt_of_lt_of_le h2 hc.size, (e b2 h2).trans h3, (e b1 h1).trans h4, (e b1 h1).trans h5, (e b1 h1).trans h6, (e b1 h1).trans h7⟩
theorem LSb.ls {w : World} {base : Nat} {v : Value} {s : Int} (h : LSb w base v s) : LS w v s := by
  obtain ⟨g, sb, cap, rfl, b1, b2, h⟩ := h
  exact ⟨g, sb, cap, rfl, h⟩
theorem lsb_new (w : World) (s : Int) : LSb ((w.alloc (.cells #[.int .u8 s] 5)).alloc (.cells #[.func (.func 35) #[] #[], .func (.func 36) #[] #[.pointer (some ⟨w.heap.size, 0, none⟩)], .func (.func 38) #[] #[], .func (.func 39) #[] #[]] 53)) w.heap.size (.slice (some ⟨w.heap.size + 1, 0, none⟩) 4 4) s := by
  generalize hY : Obj.cells #[.func (.func 35) #[] #[], .func (.func 36) #[] #[.pointer (some ⟨w.heap.size, 0, none⟩)], .func (.func 38) #[] #[], .func (.func 39) #[] #[]] 53 = Y
  have h1 := (MapKept.heap_alloc (w.alloc (.cells #[.int .u8 s] 5)) Y).1
  rw [sz_alloc, ← hY] at h1
  have h0 := ((Old.refl (w.alloc (.cells #[.int .u8 s] 5))).alloc Y).block w.heap.size (by simp)
  rw [(MapKept.heap_alloc w (.cells #[.int .u8 s] 5)).1] at h0
  rw [hY] at h1
  generalize (w.alloc (.cells #[.int .u8 s] 5)).alloc Y = W at *
  rw [← hY] at h1
  exact ⟨w.heap.size + 1, w.heap.size, 4, rfl, Nat.le_succ _, Nat.le_refl _, blk_lt h1, blk_lt h0, by simp [World.cell?, h0], by simp [World.cell?, h1], by simp [World.cell?, h1], by simp [World.cell?, h1], by simp [World.cell?, h1]⟩
theorem comparisons_new (s : Int) (w : World) : Calls Try.prog 26 #[.int .u8 s] w fun e w' => ∃ v, e = .returned v ∧ LSb w' w.heap.size v s ∧ Old w w' := by
  have HL := Lib.hid (lsb_new w s)
  go_enter Try.func26, Try.ntmps26
  go_wp2
  go_ret
  exact ⟨_, rfl, HL.out, ((Old.refl w).alloc _).alloc _⟩

theorem row_chg {S : Nat → Prop} {w w' : World} {base n size : Nat} {e : TypeId} {v : Value} {cs : List Value} (h : w.ownsRow base e size v n cs) (hc : Chg S w w') (hs : ∀ k, v.ownBlock = some k → ¬ S k) : w'.ownsRow base e size v n cs := by
  refine ⟨h.1, ?_⟩
  rcases h.2 with h' | ⟨g, cap, cur, rfl, hb', hg, hc'⟩
  · exact Or.inl h'
  · exact Or.inr ⟨g, cap, cur, rfl, hb', (hc.block g (blk_lt hg) (hs g rfl)).trans hg, hc'⟩
/-- What the sort's rows hold. -/
def RT (w w0 : World) (blk : Nat) (s : Int) (r : Rw) : Prop := IR w r.1.2 r.1.1.tup ∧ Ints w0 (blk + 1) r.2 (vec s r.1.1.tup)
def encR (r : Rw) : List Value := [.int .i64 r.1.1.rule, r.1.2, .int .i64 r.1.1.sal, r.2]
theorem RT.ok {w w0 W : World} {blk : Nat} {s : Int} {r : Rw} (h : RT w w0 blk s r) (ho : Old w W) (hc : Chg (· = blk) w0 W) : ROk W s r :=
  ⟨h.1.old ho, Ints.ir (row_chg h.2 hc (fun k hk e => by have := own_base h.2 k hk; omega))⟩
theorem encR_one {w w0 : World} {blk : Nat} {s : Int} {r : Rw} (h : RT w w0 blk s r) : ∀ v ∈ encR r, v.oneCell' = true := by
  obtain ⟨oa, ca, e1⟩ := h.1.slice
  obtain ⟨oc, cc, e2⟩ := h.2.ir.slice
  intro v hv
  unfold encR at hv
  rw [e1, e2] at hv
  simp at hv
  rcases hv with rfl | rfl | rfl | rfl <;> rfl
theorem sortWorld_chg {α : Type} [Inhabited α] (enc : α → List Value) (k : Nat) (w : World) (g m : Nat) (d : Array α) (os : Array Obj) (hg : g < w.heap.size) : Chg (· = g) w (sortWorldK enc k w g 0 m d os) := by
  refine ⟨rfl, rfl, by simp [sortWorldK, grow, putRowK, putRow, mapBlock, Sort.ahead], fun j hj hne => ?_⟩
  have hgk : g ≠ j := fun e => hne e.symm
  unfold sortWorldK putRowK
  rw [heap_grow_old _ _ (by simpa [putRow, mapBlock, Sort.ahead] using hj)]
  simp [putRow, mapBlock, Sort.ahead, Array.getElem?_modify, hgk]
/-- The sort of the activations with their vectors. -/
theorem sortR_any {w w0 : World} {s : Int} {blk cap lb : Nat} {lv : Value} {R : List Rw} (hw : Old w w0) (hbw : w.heap.size ≤ blk) (hb : blk < w0.heap.size) (hlb : lb < w0.heap.size) (hbl : blk < lb) (hlc : w0.cell? ⟨lb, 0, none⟩ = some lv) (hls : LSb w0 (blk + 1) lv s)
    (hR : ∀ r ∈ R, RT w w0 blk s r) (hrow : ∀ j r, R[j]? = some r → ∀ q u, (encR r)[q]? = some u → w0.cell? ⟨blk, j * 4 + q, none⟩ = some u) (hfz : ∀ o, w0.frozen? ⟨blk, o, none⟩ = false) (hn : R.length ≤ 1000000) :
    Calls Try.prog 29 #[.slice (some ⟨blk, 0, none⟩) R.length cap, .func (.func 30) #[] #[.pointer (some ⟨lb, 0, none⟩)]] w0 fun e w' => e = .returned (.tuple #[]) ∧ ∃ R' : List Rw, Chg (· = blk) w0 w' ∧ R'.Perm R ∧ R'.map (·.1.1) = ord s (R.map (·.1.1)) ∧ (∀ j r, R'[j]? = some r → ∀ q u, (encR r)[q]? = some u → w'.cell? ⟨blk, j * 4 + q, none⟩ = some u) := by
  cases hR0 : R with
  | nil =>
    refine (stable_none _ _ _ _).mono ?_
    rintro e w' ⟨rfl, rfl⟩
    exact ⟨rfl, [], Chg.ofOld (Old.refl _), List.Perm.refl _, by simp [ord], fun j r h => by simp at h⟩
  | cons r0 R1 =>
    rw [← hR0]
    let α := {r : Rw // RT w w0 blk s r}
    have h0 : RT w w0 blk s r0 := hR r0 (by rw [hR0]; exact List.mem_cons_self ..)
    letI : Inhabited α := ⟨⟨r0, h0⟩⟩
    let enc : α → List Value := fun x => encR x.1
    let cf : α → α → Int := fun x y => cmpA s x.1.1.1 y.1.1.1
    let L : List α := R.attach.map fun r => ⟨r.1, hR r.1 r.2⟩
    have eL : L.map (·.1) = R := by
      show List.map _ (List.map _ R.attach) = R
      rw [List.map_map]
      exact List.attach_map_subtype_val R
    have hLl : L.length = R.length := by
      have := congrArg List.length eL
      rwa [List.length_map] at this
    let d0 : Array α := L.toArray
    have hcf : Cp cf := (cp_cmpA s).comap (fun x : α => x.1.1.1)
    have eg : ∀ args w, (callFunc 30 args).run Try.prog w = .ok (.enter 30 args) w := enters_of Try.func30 (by kernel_rfl) rfl
    have hcmp : CmpLays Try.prog 30 #[.pointer (some ⟨lb, 0, none⟩)] enc 4 cf blk 0 d0.size w0 := by
      intro m os dk hdk x y
      have hch := sortWorld_chg enc 4 w0 blk m dk os hb
      have ho : Old w (sortWorldK enc 4 w0 blk 0 m dk os) := hch.old hw (fun k hk => by omega)
      have hlb' : lb < (sortWorldK enc 4 w0 blk 0 m dk os).heap.size := Nat.lt_of_lt_of_le hlb hch.size
      have hcell : (sortWorldK enc 4 w0 blk 0 m dk os).cell? ⟨lb, 0, none⟩ = some lv := (World.cell?_of_block (w := w0) (hch.block lb hlb (by omega))).trans hlc
      exact clo30 x.1 y.1 hlb' hcell (hls.chg hch (fun k hk => by omega)).ls (x.2.ok ho hch) (y.2.ok ho hch)
    have hH : HoldsK enc 4 w0 blk 0 d0 := by
      intro j hj
      have hj' : j < L.length * 4 := by simpa [d0] using hj
      refine ⟨?_, hfz _⟩
      rw [get_flatK enc 4 d0 j (by simpa using hj)]
      have h4 : j / 4 < L.length := by omega
      have e1 : d0[j / 4]! = L[j / 4] := by simp [d0, h4]
      rw [e1]
      have e2 : R[j / 4]? = some (L[j / 4]).1 := by
        rw [← eL, List.getElem?_map, List.getElem?_eq_getElem h4]; rfl
      have e3 : (encR (L[j / 4]).1)[j % 4]? = some ((enc L[j / 4])[j % 4]!) := by
        have : j % 4 < (encR (L[j / 4]).1).length := by show j % 4 < 4; omega
        rw [List.getElem?_eq_getElem this, getElem!_pos (enc L[j / 4]) (j % 4) this]
      have := hrow _ _ e2 _ _ e3
      rw [show j / 4 * 4 + j % 4 = j by omega] at this
      rw [Nat.zero_add]
      exact this
    have hsz0 : d0.size = R.length := by simp [d0, hLl]
    have hc := stableSort_any 4 Try.isAgg48 Try.sizeOf48 enc cf 30 #[.pointer (some ⟨lb, 0, none⟩)] (swo_of hcf) blk 0 cap d0 w0 eg hcmp ⟨fun _ => rfl, fun x v hv => encR_one x.2 v hv, hH, hb⟩ (by rw [hsz0]; omega)
    rw [hsz0] at hc
    refine hc.mono ?_
    rintro e w' ⟨rfl, d', ⟨m, os, rfl⟩, hP, hS⟩
    have hds : d'.size = d0.size := hP.1
    have hperm : d'.toList.Perm L := by
      obtain ⟨hsz, _, hperm⟩ := hP
      have e1 : d'.extract 0 R.length = d' := by rw [← hsz0, ← hsz]; exact Array.extract_size
      have e2 : d0.extract 0 R.length = d0 := by rw [← hsz0]; exact Array.extract_size
      rw [e1, e2] at hperm
      simpa [d0] using hperm
    refine ⟨rfl, d'.toList.map (·.1), sortWorld_chg enc 4 w0 blk m d' os hb, by rw [← eL]; exact hperm.map _, ?_, ?_⟩
    · have hp2 : ((d'.toList.map (·.1)).map (·.1.1)).Perm (R.map (·.1.1)) := by
        rw [← eL]
        exact (hperm.map _).map _
      refine ord_only hp2 ?_
      rw [List.pairwise_iff_getElem]
      intro i j hi hj hij
      simp only [List.length_map, Array.length_toList] at hi hj
      have := hS i j (Nat.zero_le _) hij (by omega)
      rw [getElem!_pos d' j hj, getElem!_pos d' i hi] at this
      unfold ltOf at this
      have h9 : ¬ cf d'[j] d'[i] < 0 := of_decide_eq_false this
      have h10 := hcf.anti d'[i] d'[j]
      have h11 : cf d'[i] d'[j] ≤ 0 := by omega
      simpa using h11
    · intro j r hj q u hq
      have hjl : j < d'.size := by
        have := (List.getElem?_eq_some_iff.1 hj).1
        simpa using this
      have e1 : d'[j].1 = r := by
        rw [List.getElem?_map, Array.getElem?_toList, Array.getElem?_eq_getElem hjl] at hj
        exact Option.some.inj hj
      have hq4 : q < 4 := (List.getElem?_eq_some_iff.1 hq).1
      have hHo : HoldsK enc 4 (sortWorldK enc 4 w0 blk 0 m d' os) blk 0 d' := holdsK_sortWorldK_c enc 4 w0 blk 0 d0 d' m os hH hb hds
      have hcell := (HoldsK.cell hHo hjl hq4).1
      rw [Nat.zero_add, getElem!_pos d' j hjl] at hcell
      rw [hcell]
      have e3 : (enc d'[j])[q]? = some u := by show (encR d'[j].1)[q]? = some u; rw [e1]; exact hq
      have e4 : q < (enc d'[j]).length := hq4
      rw [List.getElem?_eq_getElem e4] at e3
      rw [getElem!_pos (enc d'[j]) q e4, ← Option.some.inj e3]
end Go.Proofs.Ytdcfaniimhjghaa
