/- Layer lexer, plain: where a word ends, its kind; what stands between words. -/
import Derived.Test.YtgmjpcaennmgoaaGreatDoorLL
namespace Go.Proofs.YtgmjpcaennmgoaaGreatDoor
set_option linter.unusedVariables false
set_option maxRecDepth 100000

def sm (c : UInt8) : Bool := decide (97 ≤ c.toNat ∧ c.toNat ≤ 122)
def dgc (c : UInt8) : Bool := decide (48 ≤ c.toNat ∧ c.toNat ≤ 57)
def nm (c : UInt8) : Bool := sm c || dgc c
def hd (p : UInt8 → Bool) : List UInt8 → Bool
  | [] => false
  | c :: _ => p c
/-- A sign of two bytes. -/
def pair : List UInt8 → Bool
  | a :: b :: _ => (a == 60 && b == 61) || (a == 62 && b == 61) || (a == 60 && b == 62) || (a == 46 && b == 46)
  | _ => false
def sgn (c : UInt8) : Bool := [40, 41, 91, 93, 44, 58, 61, 60, 62, 43, 45, 42, 47].contains c
/-- The kind of the word that begins here; 0: none does. -/
def kindL : List UInt8 → Nat
  | [] => 0
  | c :: r => if sm c then 1 else if dgc c then 4 else if c = 34 then 5 else if c = 35 then 6
    else if c = 63 then (if hd sm r then 2 else 3) else if sgn c || pair (c :: r) then 7 else 0
/-- How many bytes are gone through, step by step. -/
def goL {σ : Type} (step : σ → List UInt8 → Option σ) : σ → List UInt8 → Nat
  | _, [] => 0
  | a, c :: r => match step a (c :: r) with
    | none => 0
    | some b => goL step b r + 1
theorem goL_nil {σ : Type} (step : σ → List UInt8 → Option σ) (a : σ) : goL step a [] = 0 := rfl
theorem goL_stop {σ : Type} {step : σ → List UInt8 → Option σ} {a : σ} {c : UInt8} {r : List UInt8} (h : step a (c :: r) = none) : goL step a (c :: r) = 0 := by
  rw [goL, h]
theorem goL_go {σ : Type} {step : σ → List UInt8 → Option σ} {a b : σ} {c : UInt8} {r : List UInt8} (h : step a (c :: r) = some b) : goL step a (c :: r) = goL step b r + 1 := by
  rw [goL, h]
theorem goL_le {σ : Type} (step : σ → List UInt8 → Option σ) : ∀ (a : σ) (l : List UInt8), goL step a l ≤ l.length
  | _, [] => Nat.le_refl _
  | a, c :: r => by
    rw [goL]
    split
    · exact Nat.zero_le _
    · next b h => rw [List.length_cons]; exact Nat.succ_le_succ (goL_le step b r)
/-- While a byte is so. -/
def runS (p : UInt8 → Bool) (a : Unit) : List UInt8 → Option Unit
  | [] => none
  | c :: _ => if p c then some () else none
/-- A number: a point once, with a digit behind it. -/
def numS (pt : Bool) : List UInt8 → Option Bool
  | [] => none
  | c :: r => if !pt && c == 46 && hd dgc r then some true else if dgc c then some pt else none
/-- A text in quotes: ended, a byte taken as it is. -/
def strS (a : Bool × Bool) : List UInt8 → Option (Bool × Bool)
  | [] => none
  | c :: _ => if a.1 then none else some (c == 34 && !a.2, c == 92 && !a.2)
/-- A sign: its second byte. -/
def sgnS (two : Bool) (a : Bool) : List UInt8 → Option Bool
  | [] => none
  | _ :: _ => if a && two then some false else none
/-- How many bytes of the word stand behind the first. -/
def endL (k : Nat) (l : List UInt8) : Nat :=
  if k = 1 ∨ k = 2 ∨ k = 6 then goL (runS nm) () l.tail
  else if k = 4 then goL numS false l.tail
  else if k = 5 then goL strS (false, false) l.tail
  else if k = 7 then goL (sgnS (pair l)) true l.tail
  else 0
/-- How long the word is that begins here. -/
def wlen (l : List UInt8) : Nat := endL (kindL l) l + 1
theorem wlen_le {l : List UInt8} (h : l ≠ []) : wlen l ≤ l.length := by
  cases l with
  | nil => exact absurd rfl h
  | cons c r =>
    unfold wlen endL
    have h1 := goL_le (runS nm) () (c :: r).tail
    have h2 := goL_le numS false (c :: r).tail
    have h3 := goL_le strS (false, false) (c :: r).tail
    have h4 := goL_le (sgnS (pair (c :: r))) true (c :: r).tail
    simp only [List.tail_cons, List.length_cons] at *
    split
    · omega
    split
    · omega
    split
    · omega
    split
    · omega
    · omega
/-- What stands between words: the rest, its line, its place in it. In a remark, or not. -/
def skipL : Bool → List UInt8 → Nat → Nat → List UInt8 × Nat × Nat
  | _, [], L, C => ([], L, C)
  | true, c :: r, L, C => if c = 10 then skipL false r (L + 1) 1 else skipL true r L (C + 1)
  | false, c :: r, L, C => if c = 32 then skipL false r L (C + 1) else if c = 10 then skipL false r (L + 1) 1
    else if c = 59 then skipL true r L (C + 1) else (c :: r, L, C)
def isName (l : List UInt8) : Bool := decide (l ≠ [] ∧ l.length ≤ 12) && hd sm l && l.all nm
end Go.Proofs.YtgmjpcaennmgoaaGreatDoor
