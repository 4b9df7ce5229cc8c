/- Layer memory: what the calls of a round do to both memories. -/
import Derived.Test.YtfhbnkdibhmmcaaSI
namespace Go.Proofs.Ytfhbnkdibhmmcaa
open Go.ChangeShapes Go.WideShapes Go.ChangeAt Go.RowKit Go.Lib
set_option linter.unusedVariables false
set_option linter.unusedSimpArgs false
set_option maxRecDepth 100000

theorem does_call4 {P : Program} {f : FuncId} {x y z t : Operand} {u v s r : Value} {tys : Array TypeId} {o : Oper} {ρ : Operand → Value} {w : World} {K : Value → World → Prop} (ho : o.op = .call ⟨.value (.func f), #[x, y, z, t], tys⟩) (hf : ρ (.func f) = .func (.func f) #[] #[]) (hx : ρ x = u) (hy : ρ y = v) (hz : ρ z = s) (ht : ρ t = r)
    (he : (callFunc f #[u, v, s, r]).run P w = .ok (.enter f #[u, v, s, r]) w) (h : Calls P f #[u, v, s, r] w fun e w'' => ∃ v, e = .returned v ∧ K v w'') : Does P ρ o w K :=
  does_call ho hf (by simp [hx, hy, hz, ht]) he h
theorem new_lim (lim : Nat) (h1 : 1 ≤ lim) (h2 : lim ≤ 200) (w : World) : Calls Try.prog 10 #[.int .i64 (lim : Int)] w fun e w' => (∃ p b, e = .returned (.tuple #[.pointer (some ⟨p, 0, none⟩), .int .i64 0]) ∧ Mem w' p b lim 0 [] ∧ w.heap.size ≤ p ∧ w.heap.size ≤ b) ∧ Old w w' := by
  have h : Calls Try.prog 10 #[.int .i64 (lim : Int)] w fun e w' => e = .returned (.tuple #[.pointer (some ⟨w.heap.size + 1, 0, none⟩), .int .i64 0]) ∧ Mem w' (w.heap.size + 1) w.heap.size lim 0 [] ∧ Old w w' := new_any lim h1 h2 w
  refine h.mono ?_
  rintro e w' ⟨rfl, hm, ho⟩
  exact ⟨⟨_, _, rfl, hm, Nat.le_succ _, Nat.le_refl _⟩, ho⟩
theorem Ps.start {w w1 : World} {lim p b : Nat} (hm : Mem w1 p b lim 0 []) (ho : Old w w1) (hp : w.heap.size ≤ p) (hb : w.heap.size ≤ b) : Ps w lim p b w1.heap.size ⟨0, []⟩ (.slice none 0 0) (w1.alloc (.cells #[.int .i64 (lim : Int), .int .i64 0, .slice none 0 0] 32)) := by
  have hl := hm.lt
  refine ⟨ho.alloc _, hp, hb, ho.size, hm.old ((Old.refl _).alloc _), ⟨(MapKept.heap_alloc w1 _).1, by simp, ⟨none, 0, rfl, Nat.le_refl _, Nat.zero_le _, fun j x hj => by simp at hj⟩⟩, by omega⟩
theorem in_kk {w : World} {b n size : Nat} {e : TypeId} {v : Value} {xs : List Value} (h : w.ownsRow b e size v n xs) (hb : b < w.heap.size) : ∃ kk, b ≤ kk ∧ kk < w.heap.size ∧ ∀ k, v.ownBlock = some k → k = kk := by
  rcases h.2 with ⟨rfl, _⟩ | ⟨g, cap, cur, rfl, hg, hh, _⟩
  · exact ⟨b, Nat.le_refl _, hb, fun k e => by cases e⟩
  · exact ⟨g, hg, blk_lt hh, fun k e => by cases e; rfl⟩
theorem addR_at (lim : Nat) (s : St) (t : Int) (l : List Vl) : ∃ i f er, addR lim s t l = .returned (.tuple #[.int .i64 i, .bool f, .int .i64 er]) := by
  unfold addR
  split
  · split
    · exact ⟨_, _, _, rfl⟩
    · exact ⟨_, _, _, rfl⟩
  · exact ⟨_, _, _, rfl⟩
theorem add_m {w W : World} {gb : Nat} {x : Ox} {kk lim N p b q : Nat} {iv r u : Value} {s t' : St} {t : Int} {l : List Vl} {i : Int} {f : Bool} {er : Int} (h : Pm w kk lim N iv gb x p b q s t' r W) (hu : VR W u l) (h10 : l.length ≤ 10) (hl : s.last < 1000000) (ha : addR lim s t l = .returned (.tuple #[.int .i64 i, .bool f, .int .i64 er])) :
    Calls Try.prog 11 #[ap p, .int .i64 t, u] W fun e w' => e = .returned (.tuple #[.int .i64 i, .bool f, .int .i64 er]) ∧ Pm w kk lim N iv gb x p b q (addS lim s t l) t' r w' := by
  refine (addX h.mx h.kl hu h10 hl).mono ?_
  rintro e w' ⟨rfl, h1, h2⟩
  exact ⟨ha, h.m h1 h2⟩
theorem rem_m {w W : World} {gb : Nat} {x : Ox} {kk lim N p b q : Nat} {iv r : Value} {s t' : St} {id : Int} {X : Ft} {G : Bool} (h : Pm w kk lim N iv gb x p b q s t' r W) (hid : I64 id) (hX : (getOf s.L id).getD noFt = X) (hG : (getOf s.L id).isSome = G) :
    Calls Try.prog 13 #[ap p, .int .i64 id] W fun e w' => (∃ oa c, e = .returned (.tuple #[fv X.id X.t (.slice oa X.l.length c), .bool G]) ∧ VR w' (.slice oa X.l.length c) X.l) ∧ Pm w kk lim N iv gb x p b q (delS s id) t' r w' := by
  refine (removeX h.mx h.kl hid).mono ?_
  rintro e w' ⟨⟨u, rfl, hf⟩, h1, h2⟩
  rw [hX] at hf
  rw [hG]
  obtain ⟨v, rfl, hv⟩ := hf.vr
  obtain ⟨oa, c, rfl, _⟩ := _root_.id hv
  exact ⟨⟨oa, c, rfl, hv⟩, h.m h1 h2⟩
theorem rem_d {w W : World} {gb : Nat} {x : Ox} {kk lim N p b q : Nat} {iv r : Value} {s t' : St} {id : Int} {X : Ft} {G : Bool} (h : Pm w kk lim N iv gb x p b q s t' r W) (hn : t'.L.length ≤ 200) (hX : (getOf t'.L id).getD noFt = X) (hG : (getOf t'.L id).isSome = G) :
    Calls Try.prog 14 #[ap q, .int .i64 id] W fun e w' => (∃ oa c, e = .returned (.tuple #[fv X.id X.t (.slice oa X.l.length c), .bool G]) ∧ VR w' (.slice oa X.l.length c) X.l) ∧ (∃ r', Pm w kk lim N iv gb x p b q s (delS t' id) r' w') ∧ (∀ v l, VR W v l → VR w' v l) ∧ (∀ g x y z, Fb W g x y z → g ≠ q → Fb w' g x y z) := by
  have := remove_doc h.dx h.kl id hn
  rw [hX, hG] at this
  refine this.mono ?_
  rintro e w' ⟨h1, ⟨r', h2⟩, h3⟩
  exact ⟨h1, ⟨r', h.d h2 h3⟩, fun v l hv => hv.chg h3 (fun k o c e => h.dx.noU k o c e), fun g x y z hf hne => (h3.block g (blk_lt hf) hne).trans hf⟩
/-- Both memories, and a copy of the first one. -/
structure Pc (w : World) (kk lim N : Nat) (iv : Value) (gb : Nat) (x : Ox) (p b q : Nat) (s t : St) (r : Value) (p' b' : Nat) (s' : St) (W : World) : Prop where
  pm : Pm w kk lim N iv gb x p b q s t r W
  c : MemX kk W p' b' lim s'
  hp : w.heap.size ≤ p'
  hb : w.heap.size ≤ b'
  ne : p' ≠ p ∧ p' ≠ b ∧ p' ≠ q ∧ b' ≠ p ∧ b' ≠ b ∧ b' ≠ q ∧ p' ≠ gb ∧ b' ≠ gb
theorem copy_m {w W : World} {gb : Nat} {x : Ox} {kk lim N p b q : Nat} {iv r : Value} {s t : St} (h : Pm w kk lim N iv gb x p b q s t r W) :
    Calls Try.prog 16 #[ap p] W fun e w' => ∃ p' b', e = .returned (ap p') ∧ Pc w kk lim N iv gb x p b q s t r p' b' s w' := by
  have hl := h.mx.mem.lt
  have hq := blk_lt h.dx.obj
  have hk := h.kl
  have hg := blk_lt h.bx
  refine (copy_far h.mx.mem).mono ?_
  rintro e w' ⟨⟨p', b', rfl, hN, hp, hb⟩, ho⟩
  have hs := h.old.size
  refine ⟨p', b', rfl, h.on ho, MemX.next (E := []) (fun x hx => by simp at hx) (by omega) (by omega) h.kl hN, by omega, by omega, by omega⟩
theorem Pc.on {w W W' : World} {gb : Nat} {x : Ox} {kk lim N p b q p' b' : Nat} {iv r : Value} {s t s' : St} (h : Pc w kk lim N iv gb x p b q s t r p' b' s' W) (ho : Old W W') : Pc w kk lim N iv gb x p b q s t r p' b' s' W' :=
  ⟨h.pm.on ho, h.c.old ho, h.hp, h.hb, h.ne⟩
/-- What is done to the first one leaves the copy. -/
theorem rem_pm {w W : World} {gb : Nat} {x : Ox} {kk lim N p b q p' b' : Nat} {iv r : Value} {s t s' : St} {id : Int} (h : Pc w kk lim N iv gb x p b q s t r p' b' s' W) (hid : I64 id) :
    Calls Try.prog 13 #[ap p, .int .i64 id] W fun e w' => (∃ u f, e = .returned (.tuple #[u, .bool f])) ∧ Pc w kk lim N iv gb x p b q (delS s id) t r p' b' s' w' := by
  refine (removeX h.pm.mx h.pm.kl hid).mono ?_
  rintro e w' ⟨⟨u, rfl, hf⟩, h1, h2⟩
  have hn := h.ne
  exact ⟨⟨_, _, rfl⟩, h.pm.m h1 h2, h.c.chgN h2 (fun e => by omega) (fun e => by omega) (fun k o c e => h.pm.mx.mem.noU8 k o c e), h.hp, h.hb, h.ne⟩
theorem Pc.step {w W W' : World} {gb : Nat} {x : Ox} {kk lim N p b q p' b' : Nat} {iv r : Value} {s t s' s'' : St} (h : Pc w kk lim N iv gb x p b q s t r p' b' s' W) (h1 : MemX kk W' p' b' lim s'') (h2 : Chg (fun k => k = p' ∨ k = b') W W') : Pc w kk lim N iv gb x p b q s t r p' b' s'' W' := by
  have hn := h.ne
  have hc := h.c.ne
  refine ⟨h.pm.far h2 (fun k e => ?_) (fun k o c e => h.c.mem.noU8 k o c e) (fun k o a n c e => h.c.mem.noS k o a n c e), h1, h.hp, h.hb, h.ne⟩
  have h3 := h.hp
  have h4 := h.hb
  rcases e with rfl | rfl <;> omega
theorem rem_pc {w W : World} {gb : Nat} {x : Ox} {kk lim N p b q p' b' : Nat} {iv r : Value} {s t s' : St} {id : Int} (h : Pc w kk lim N iv gb x p b q s t r p' b' s' W) (hid : I64 id) :
    Calls Try.prog 13 #[ap p', .int .i64 id] W fun e w' => (∃ u f, e = .returned (.tuple #[u, .bool f])) ∧ Pc w kk lim N iv gb x p b q s t r p' b' (delS s' id) w' := by
  refine (removeX h.c h.pm.kl hid).mono ?_
  rintro e w' ⟨⟨u, rfl, hf⟩, h1, h2⟩
  exact ⟨⟨_, _, rfl⟩, h.step h1 h2⟩
theorem add_pc {w W : World} {gb : Nat} {x : Ox} {kk lim N p b q p' b' : Nat} {iv r u : Value} {s t s' : St} {t0 : Int} {l : List Vl} (h : Pc w kk lim N iv gb x p b q s t r p' b' s' W) (hu : VR W u l) (h10 : l.length ≤ 10) (hl : s'.last < 1000000) :
    Calls Try.prog 11 #[ap p', .int .i64 t0, u] W fun e w' => (∃ i f er, e = .returned (.tuple #[.int .i64 i, .bool f, .int .i64 er])) ∧ Pc w kk lim N iv gb x p b q s t r p' b' (addS lim s' t0 l) w' := by
  refine (addX h.c h.pm.kl hu h10 hl).mono ?_
  rintro e w' ⟨rfl, h1, h2⟩
  exact ⟨addR_at _ _ _ _, h.step h1 h2⟩
theorem copy_d {w W : World} {gb : Nat} {x : Ox} {kk lim N p b q p' b' : Nat} {iv r : Value} {s t s' : St} (h : Pc w kk lim N iv gb x p b q s t r p' b' s' W) (hn : t.L.length ≤ 200) :
    Calls Try.prog 17 #[ap q] W fun e w' => ∃ q' r', e = .returned (ap q') ∧ Pm w kk lim N iv gb x p' b' q' s' t r' w' := by
  have hl := h.c.mem.lt
  have hg := blk_lt h.pm.bx
  have hn' := h.ne
  refine (copy_doc h.pm.dx h.pm.kl hn).mono ?_
  rintro e w' ⟨⟨q', r', rfl, hq, hd⟩, ho⟩
  have hs := h.pm.old.size
  exact ⟨q', r', rfl, h.pm.old.trans ho, h.hp, h.hb, by omega, h.pm.hk, h.c.old ho, hd, by omega, Nat.lt_of_lt_of_le h.pm.kl ho.size, h.pm.inn.old ho, h.pm.bx.old ho, h.pm.vi.old ho, by omega⟩
theorem Pm.len {w W : World} {gb : Nat} {x : Ox} {kk lim N p b q : Nat} {iv r : Value} {s t : St} (h : Pm w kk lim N iv gb x p b q s t r W) : s.L.length ≤ 200 := by
  obtain ⟨E, h1, h2⟩ := h.mx.mem
  rw [h1, List.length_map]
  exact Nat.le_trans h2.room h2.lims
theorem Pm.ones {w W : World} {gb : Nat} {x : Ox} {kk lim N p b q : Nat} {iv r : Value} {s t : St} (h : Pm w kk lim N iv gb x p b q s t r W) : ∀ x ∈ s.L, 1 ≤ x.id := by
  obtain ⟨E, h1, h2⟩ := h.mx.mem
  rw [h1]
  exact h2.one

-- the questions at a round's end
theorem fi_m {W w2 : World} {p b lim last : Nat} {L : List Ft} {t : Int} {u : Value} {ls : List Vl} {F : Int} (h : Mem W p b lim last L) (hu : VR W u ls) (hF : idOf L t ls = F) (ho : Old W w2) : Calls Try.prog 21 #[ap p, .int .i64 t, u] w2 fun e w' => e = .returned (.int .i64 F) ∧ Old w2 w' := by
  have := find_any (h.old ho) t u ls (hu.old ho)
  rw [hF] at this
  exact this
theorem fi_d {k : Nat} {W w2 : World} {q lim : Nat} {s : St} {r : Value} {t : Int} {u : Value} {ls : List Vl} {F : Int} (h : Dx k W q lim s r) (hu : VR W u ls) (hF : idOf s.L t ls = F) (ho : Old W w2) : Calls Try.prog 22 #[ap q, .int .i64 t, u] w2 fun e w' => e = .returned (.int .i64 F) ∧ Old w2 w' := by
  have := find_doc (h.old ho) t u ls (hu.old ho)
  rw [hF] at this
  exact this
theorem lastO {W w2 : World} {p b lim last : Nat} {L : List Ft} (h : Mem W p b lim last L) (ho : Old W w2) : Calls Try.prog 25 #[ap p] w2 fun e w' => e = .returned (.int .i64 (last : Int)) ∧ Old w2 w' :=
  (last_any (h.old ho)).mono fun e w' h => ⟨h.1, h.2 ▸ Old.refl _⟩
theorem lenO {W w2 : World} {p b lim last n : Nat} {L : List Ft} (h : Mem W p b lim last L) (hn : n = L.length) (ho : Old W w2) : Calls Try.prog 24 #[ap p] w2 fun e w' => e = .returned (.int .i64 (n : Int)) ∧ Old w2 w' :=
  (len_any (h.old ho)).mono fun e w' h => ⟨by rw [hn]; exact h.1, h.2 ▸ Old.refl _⟩
/-- Told facts: their rows may be written over. -/
def NA (S : Nat → Prop) (W : World) (r : Value) (L : List Ft) : Prop :=
  ∃ oa c, r = .slice oa L.length c ∧ ∀ j x, L[j]? = some x → ∃ g o ua uc, oa = some ⟨g, o, none⟩ ∧ W.cell? ⟨g, o + j * 3 + 2, none⟩ = some (.slice ua x.l.length uc) ∧ NC S W (.slice ua x.l.length uc) x.l.length
theorem FR.na {W : World} {B : Nat} {r : Value} {L : List Ft} (h : FR W B r L) : NA (fun g => B ≤ g) W r L := by
  obtain ⟨V, rfl, h2, h3⟩ := h
  obtain ⟨oa, cap, rfl, h1, _, _, h4⟩ := CR.owned h2
  refine ⟨oa, cap, by rw [List.length_map], fun j x hj => ?_⟩
  rw [List.getElem?_map] at hj
  obtain ⟨y, hy, rfl⟩ : ∃ y, V[j]? = some y ∧ y.1 = x := by
    cases h : V[j]? with
    | none => rw [h] at hj; cases hj
    | some y => rw [h] at hj; exact ⟨y, rfl, by simpa using hj⟩
  obtain ⟨a0, a1, a2⟩ := fcells_at hy
  obtain ⟨g, o, rfl, hg, c2⟩ := h4 _ _ a2
  obtain ⟨hr, _⟩ := h3 y (List.mem_iff_getElem?.2 ⟨j, hy⟩)
  have hn := NC.own hr (S := fun g => B ≤ g) (fun k e => own_from hr k e)
  obtain ⟨ua, uc, e⟩ := own_shape hr
  rw [e] at c2 hn
  exact ⟨g, o, ua, uc, rfl, c2, hn⟩
theorem NA.old {S : Nat → Prop} {W W' : World} {r : Value} {L : List Ft} (h : NA S W r L) (ho : Old W W') : NA S W' r L := by
  obtain ⟨oa, c, rfl, h1⟩ := h
  refine ⟨oa, c, rfl, fun j x hj => ?_⟩
  obtain ⟨g, o, ua, uc, rfl, c2, hn⟩ := h1 j x hj
  exact ⟨g, o, ua, uc, rfl, (ho.cell (cell_lt c2)).trans c2, hn.old ho⟩
theorem told_m {W : World} {p b lim last : Nat} {L : List Ft} (h : Mem W p b lim last L) : Calls Try.prog 20 #[ap p] W fun e w' => (∃ oa c, e = .returned (.slice oa L.length c) ∧ FR w' W.heap.size (.slice oa L.length c) L) ∧ Old W w' := by
  refine (facts_any h).mono ?_
  rintro e w' ⟨⟨r, rfl, hr⟩, ho⟩
  obtain ⟨oa, c, rfl⟩ := hr.rf.shape
  exact ⟨⟨oa, c, rfl, hr⟩, ho⟩
theorem get_m {W : World} {p b lim last : Nat} {L : List Ft} {id : Int} {X : Ft} {G : Bool} (h : Mem W p b lim last L) (hid : I64 id) (hX : (getOf L id).getD noFt = X) (hG : (getOf L id).isSome = G) :
    Calls Try.prog 18 #[ap p, .int .i64 id] W fun e w' => (∃ oa c, e = .returned (.tuple #[fv X.id X.t (.slice oa X.l.length c), .bool G]) ∧ VR w' (.slice oa X.l.length c) X.l ∧ NC (fun g => W.heap.size ≤ g) w' (.slice oa X.l.length c) X.l.length) ∧ Old W w' := by
  have := get_any h id hid
  rw [hX, hG] at this
  refine this.mono ?_
  rintro e w' ⟨⟨u, rfl, v, rfl, hr, hs⟩, ho⟩
  obtain ⟨oa, c, rfl⟩ := own_shape hr
  exact ⟨⟨oa, c, rfl, (CR.owned hr).vr hs, NC.own hr (fun k e => own_from hr k e)⟩, ho⟩
theorem get_d {k : Nat} {W : World} {q lim : Nat} {s : St} {r : Value} {id : Int} {X : Ft} {G : Bool} (h : Dx k W q lim s r) (hX : (getOf s.L id).getD noFt = X) (hG : (getOf s.L id).isSome = G) :
    Calls Try.prog 19 #[ap q, .int .i64 id] W fun e w' => (∃ oa c, e = .returned (.tuple #[fv X.id X.t (.slice oa X.l.length c), .bool G]) ∧ VR w' (.slice oa X.l.length c) X.l) ∧ Old W w' := by
  have := get_doc h id
  rw [hX, hG] at this
  exact this
theorem NC.mono {S T : Nat → Prop} {w : World} {v : Value} {n : Nat} (h : NC S w v n) (hs : ∀ b, S b → T b) : NC T w v n := by
  obtain ⟨oa, c, rfl, h1⟩ := h
  refine ⟨oa, c, rfl, fun j hj => ?_⟩
  obtain ⟨g, o, rfl, hg, r⟩ := h1 j hj
  exact ⟨g, o, rfl, hs g hg, r⟩
theorem NA.mono {S T : Nat → Prop} {W : World} {r : Value} {L : List Ft} (h : NA S W r L) (hs : ∀ b, S b → T b) : NA T W r L := by
  obtain ⟨oa, c, rfl, h1⟩ := h
  refine ⟨oa, c, rfl, fun j x hj => ?_⟩
  obtain ⟨g, o, ua, uc, rfl, c2, hn⟩ := h1 j x hj
  exact ⟨g, o, ua, uc, rfl, c2, hn.mono hs⟩
theorem Mem.ten {W : World} {p b lim last : Nat} {L : List Ft} (h : Mem W p b lim last L) : ∀ x ∈ L, x.l.length ≤ 10 := by
  obtain ⟨E, rfl, h⟩ := h
  intro x hx
  obtain ⟨y, hy, rfl⟩ := List.mem_map.1 hx
  exact (h.rows y hy).2
theorem Mem.ten' {W : World} {p b lim last : Nat} {L : List Ft} {id : Int} {X : Ft} (h : Mem W p b lim last L) (hX : (getOf L id).getD noFt = X) : X.l.length ≤ 10 := by
  subst hX
  cases hg : getOf L id with
  | none => exact Nat.zero_le _
  | some y => exact h.ten y (List.mem_of_find?_eq_some hg)
theorem Mem.cap {W : World} {p b lim last : Nat} {L : List Ft} (h : Mem W p b lim last L) : L.length ≤ 200 := by
  obtain ⟨E, rfl, h⟩ := h
  rw [List.length_map]
  exact Nat.le_trans h.room h.lims
theorem Dx.list {k : Nat} {W : World} {q lim : Nat} {s : St} {r : Value} (h : Dx k W q lim s r) : ∃ od cd, r = .slice od s.L.length cd := by
  obtain ⟨oa, cap, e, _⟩ := h.rx
  exact ⟨oa, cap, e⟩

end Go.Proofs.Ytfhbnkdibhmmcaa
