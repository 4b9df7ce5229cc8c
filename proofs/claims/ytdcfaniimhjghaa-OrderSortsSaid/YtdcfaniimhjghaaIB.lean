/- Operations of a statement that draws its order, one by one. -/
import Derived.Test.YtdcfaniimhjghaaIA
namespace Go.Proofs.Ytdcfaniimhjghaa
open Go.ChangeShapes Go.WideShapes Go.ChangeAt Go.RowKit
set_option linter.unusedVariables false
set_option maxRecDepth 100000

section
variable {ρ : Operand → Value} {o : Oper} {w : World} {K : Value → World → Prop}

theorem does_value {P : Program} {v : Value} {w' : World} (he : (execOp ρ o).run P w = .ok (.value v) w') (h : K v w') : Does P ρ o w K := by
  unfold Does; rw [he]; exact h
theorem does_move {P : Program} {x : Operand} {u : Value} (ho : o.op = .move x) (hx : ρ x = u) (h : K u w) : Does P ρ o w K := by
  refine does_value (v := u) (w' := w) ?_ h
  unfold execOp; rw [ho, ← hx]; rfl
theorem does_assign {P : Program} {x : Operand} {u : Value} (ho : o.op = .assign x) (hx : ρ x = u) (h : K u w) : Does P ρ o w K := by
  refine does_value (v := u) (w' := w) ?_ h
  unfold execOp; rw [ho, ← hx]; rfl
theorem does_pick {P : Program} {c x y : Operand} {b : Bool} {u : Value} (ho : o.op = .pick c x y) (hc : ρ c = .bool b) (hx : (if b = true then ρ x else ρ y) = u) (h : K u w) : Does P ρ o w K := by
  refine does_value (v := u) (w' := w) ?_ h
  unfold execOp; rw [ho, ← hx]; simp only [hc]; cases b <;> rfl
theorem does_call {P : Program} {f : FuncId} {args : Array Operand} {tys : Array TypeId} {vs : Array Value} (ho : o.op = .call ⟨.value (.func f), args, tys⟩) (hf : ρ (.func f) = .func (.func f) #[] #[]) (ha : args.map ρ = vs)
    (he : (callFunc f vs).run P w = .ok (.enter f vs) w) (h : Calls P f vs w fun e w'' => ∃ v, e = .returned v ∧ K v w'') : Does P ρ o w K := by
  unfold Does
  have : (execOp ρ o).run P w = .ok (.enter f vs) w := by
    unfold execOp; rw [ho]; simp only [resolve, hf, ha]
    go_simp
  rw [this]
  exact h
theorem does_call0 {P : Program} {f : FuncId} {tys : Array TypeId} (ho : o.op = .call ⟨.value (.func f), #[], tys⟩) (hf : ρ (.func f) = .func (.func f) #[] #[])
    (he : (callFunc f #[]).run P w = .ok (.enter f #[]) w) (h : Calls P f #[] w fun e w'' => ∃ v, e = .returned v ∧ K v w'') : Does P ρ o w K :=
  does_call ho hf (by simp) he h
theorem does_call1 {P : Program} {f : FuncId} {x : Operand} {u : Value} {tys : Array TypeId} (ho : o.op = .call ⟨.value (.func f), #[x], tys⟩) (hf : ρ (.func f) = .func (.func f) #[] #[]) (hx : ρ x = u)
    (he : (callFunc f #[u]).run P w = .ok (.enter f #[u]) w) (h : Calls P f #[u] w fun e w'' => ∃ v, e = .returned v ∧ K v w'') : Does P ρ o w K :=
  does_call ho hf (by simp [hx]) he h
theorem does_call2 {P : Program} {f : FuncId} {x y : Operand} {u v : Value} {tys : Array TypeId} (ho : o.op = .call ⟨.value (.func f), #[x, y], tys⟩) (hf : ρ (.func f) = .func (.func f) #[] #[]) (hx : ρ x = u) (hy : ρ y = v)
    (he : (callFunc f #[u, v]).run P w = .ok (.enter f #[u, v]) w) (h : Calls P f #[u, v] w fun e w'' => ∃ v, e = .returned v ∧ K v w'') : Does P ρ o w K :=
  does_call ho hf (by simp [hx, hy]) he h
theorem does_call3 {P : Program} {f : FuncId} {x y z : Operand} {u v t : Value} {tys : Array TypeId} (ho : o.op = .call ⟨.value (.func f), #[x, y, z], tys⟩) (hf : ρ (.func f) = .func (.func f) #[] #[]) (hx : ρ x = u) (hy : ρ y = v) (hz : ρ z = t)
    (he : (callFunc f #[u, v, t]).run P w = .ok (.enter f #[u, v, t]) w) (h : Calls P f #[u, v, t] w fun e w'' => ∃ v, e = .returned v ∧ K v w'') : Does P ρ o w K :=
  does_call ho hf (by simp [hx, hy, hz]) he h
end
section
variable {P : Program} {ops : Array Oper} {Φ : Nat → Value → World → Prop} {R : World → World → Prop} {a0 : Act} {W : World} {i : Nat} {o : Oper}
theorem step_plain (hg : o.guard = none) (h : ∀ (ρ : Operand → Value) (w : World), R W w → Reads ops a0 ρ → Deps ops Φ ρ w o.after.toList → Does P ρ o w fun v w' => Φ i v w' ∧ R w w') : Step P ops Φ R a0 W i o := by
  intro ρ w hR hr hd
  refine ⟨fun _ => h ρ w hR hr hd, fun hn => absurd ?_ hn⟩
  unfold Want; rw [hg]; trivial
theorem step_guard {g : Nat} {b : Bool} (hg : o.guard = some (g, b)) (h : ∀ (ρ : Operand → Value) (w : World), R W w → Reads ops a0 ρ → Deps ops Φ ρ w o.after.toList → ρ (.tmp (dstOf ops g)) = .bool b ∧ Does P ρ o w fun v w' => Φ i v w' ∧ R w w') : Step P ops Φ R a0 W i o := by
  intro ρ w hR hr hd
  obtain ⟨h1, h2⟩ := h ρ w hR hr hd
  refine ⟨fun _ => h2, fun hn => absurd ?_ hn⟩
  unfold Want; rw [hg]; exact h1
end
/-- What is told of a value stays so over what is done behind. -/
structure Sp where
  says : Value → World → Prop
  mono : ∀ v x y, Old x y → says v x → says v y
def Sp.eq (u : Value) : Sp := ⟨fun v _ => v = u, fun _ _ _ _ h => h⟩
def Sp.any : Sp := ⟨fun _ _ => True, fun _ _ _ _ h => h⟩
/-- A table of such, one for each operation. -/
def spOf (l : List Sp) (i : Nat) : Value → World → Prop := (l.getD i Sp.any).says
theorem spOf_mono (l : List Sp) (i : Nat) (v : Value) (x y : World) (ho : Old x y) (h : spOf l i v x) : spOf l i v y := (l.getD i Sp.any).mono v x y ho h
theorem spOf_at {l : List Sp} {i : Nat} {s : Sp} (e : l[i]? = some s) (v : Value) (w : World) : spOf l i v w = s.says v w := by
  unfold spOf; rw [List.getD_eq_getElem?_getD, e]; rfl
theorem spOf_eq {l : List Sp} {i : Nat} {u v : Value} {w : World} (h : spOf l i v w) (e : l[i]? = some (.eq u)) : v = u := by
  rw [spOf_at e] at h; exact h
theorem in_eq {l : List Sp} {i : Nat} {u : Value} {w : World} (e : l[i]? = some (.eq u)) : spOf l i u w := by
  rw [spOf_at e]; rfl
/-- The frame behind the statement: where the mask says so a slot's new value. -/
def fresh : List Bool → List Value → Nat → Act → List Value
  | true :: m, _ :: l, k, a => a.eval (.tmp k) :: fresh m l (k + 1) a
  | false :: m, x :: l, k, a => x :: fresh m l (k + 1) a
  | _, _, _, _ => []
def okMask (ops : Array Oper) : List Bool → Nat → Bool
  | [], _ => true
  | b :: m, k => (b || ops.toList.all (fun o => o.dst != some k)) && okMask ops m (k + 1)
theorem same_fresh {ops : Array Oper} {a : Act} {l0 : List Value} {d : List Deferred} : ∀ (m : List Bool) (l : List Value) (k : Nat), m.length = l.length → okMask ops m k = true → l0.length = k + l.length → (∀ i, i < l.length → l[i]? = some ((⟨l0.toArray, d⟩ : Act).eval (.tmp (k + i)))) → Same ops ⟨l0.toArray, d⟩ a k (fresh m l k a)
  | [], [], k, _, _, hz, _ => by unfold fresh Same; simpa using hz
  | [], _ :: _, _, h, _, _, _ => by simp at h
  | _ :: _, [], _, h, _, _, _ => by simp at h
  | b :: m, x :: l, k, h, ho, hz, hl => by
    unfold okMask at ho
    rw [Bool.and_eq_true] at ho
    have h0 : x = (⟨l0.toArray, d⟩ : Act).eval (.tmp k) := by
      have := hl 0 (by simp)
      simpa using this
    have ih := same_fresh (ops := ops) (a := a) (l0 := l0) (d := d) m l (k + 1) (by simpa using h) ho.2 (by simp only [List.length_cons] at hz; omega) (fun i hi => by
      have := hl (i + 1) (by simp; omega)
      rw [show k + 1 + i = k + (i + 1) by omega]
      simpa using this)
    cases b with
    | true => exact ⟨Or.inl rfl, ih⟩
    | false => exact ⟨Or.inr ⟨h0, by simpa using ho.1⟩, ih⟩
theorem act_fresh {ops : Array Oper} {a : Act} {l : List Value} {d : List Deferred} (hS : Stay ops ⟨l.toArray, d⟩ a) (m : List Bool) (hm : m.length = l.length) (ho : okMask ops m 0 = true) : a = ⟨(fresh m l 0 a).toArray, d⟩ :=
  act_eq hS (same_fresh m l 0 hm ho (by omega) (fun i hi => by
    rw [Nat.zero_add]
    simp [Act.eval, hi]))

section
variable {P : Program} {ops : Array Oper} {Φ : Nat → Value → World → Prop} {R : World → World → Prop} {a0 : Act} {W : World} {i : Nat} {o : Oper}
theorem step_skip {g : Nat} {b : Bool} (hg : o.guard = some (g, b)) (h : ∀ (ρ : Operand → Value) (w : World), R W w → Reads ops a0 ρ → Deps ops Φ ρ w o.after.toList → ρ (.tmp (dstOf ops g)) = .bool (!b)) (hΦ : ∀ w, Φ i undef w) : Step P ops Φ R a0 W i o := by
  intro ρ w hR hr hd
  refine ⟨fun hw => absurd hw ?_, fun _ => hΦ w⟩
  unfold Want; rw [hg]
  show ¬ (ρ (.tmp (dstOf ops g)) = .bool b)
  rw [h ρ w hR hr hd]
  intro e
  cases b <;> cases e
end
end Go.Proofs.Ytdcfaniimhjghaa
