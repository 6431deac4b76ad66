/- Plain functions on numbers that say what the small functions of package vals come to. No program in sight. -/
import Derived.WalkKit
namespace Go.Proofs.Ytbdhmjojamoafaa

/-- What a value says: true, false, or nothing. -/
def cls (k n : Int) : Option Bool := if k = 2 then (if n = 1 then some true else if n = 0 then some false else none) else none
/-- The kind of the answer of a truth that is known, or is not. -/
def tk : Option Bool → Int | none => 1 | some _ => 2
def tn : Option Bool → Int | some true => 1 | _ => 0
def and3 : Option Bool → Option Bool → Option Bool
  | some false, _ => some false
  | _, some false => some false
  | some true, some true => some true
  | _, _ => none
def or3 : Option Bool → Option Bool → Option Bool
  | some true, _ => some true
  | _, some true => some true
  | some false, some false => some false
  | _, _ => none
def not3 : Option Bool → Option Bool
  | some b => some (!b)
  | none => none
theorem cls_t (t : Option Bool) : cls (tk t) (tn t) = t := by
  rcases t with _ | _ | _ <;> rfl
theorem cls_true (k n : Int) : (k == 2 && n == 1) = (cls k n == some true) := by
  unfold cls
  by_cases h : k = 2
  · by_cases h1 : n = 1
    · simp [h, h1]
    · by_cases h0 : n = 0 <;> simp [h, h1, h0]
  · simp [h]
theorem cls_false (k n : Int) : (k == 2 && n == 0) = (cls k n == some false) := by
  unfold cls
  by_cases h : k = 2
  · by_cases h1 : n = 1
    · simp [h, h1]
    · by_cases h0 : n = 0 <;> simp [h, h1, h0]
  · simp [h]

/-- What is wrong with a value: 0, if nothing is. -/
def wrongF (k n : Int) (s : ByteArray) : Int :=
  if k = 1 then 0
  else if k = 2 then (if n = 0 ∨ n = 1 then 0 else 3)
  else if k = 3 then (if -1000000000000000 ≤ n ∧ n ≤ 1000000000000000 then 0 else 3)
  else if k = 4 then (if s.size ≤ 60 then 0 else 4)
  else 1
/-- The order of two numbers. -/
def cmpI (a b : Int) : Int := if a < b then -1 else if b < a then 1 else 0
/-- The order of two texts. -/
def cmpS (a b : ByteArray) : Int := if Op.bytesLess a.toList b.toList then -1 else if a.toList == b.toList then 0 else 1
def cmpV (k n : Int) (s : ByteArray) (k' n' : Int) (s' : ByteArray) : Int :=
  if k ≠ k' then cmpI k k' else if k = 2 ∨ k = 3 then cmpI n n' else if k = 4 then cmpS s s' else 0
end Go.Proofs.Ytbdhmjojamoafaa
