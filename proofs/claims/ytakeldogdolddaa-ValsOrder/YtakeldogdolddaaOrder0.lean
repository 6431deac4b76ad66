/- How two bare values are compared; what Equal and Less come to, for the walk of tidelaw1.ValsOrder. -/
import Derived.Test.YtakeldogdolddaaW8
import Derived.Test.YtakeldogdolddaaW9
import Derived.Test.YtakeldogdolddaaW10
import Derived.Test.YtakeldogdolddaaOrd
import Derived.Test.YtakeldogdolddaaLaw
import Derived.Test.YtakeldogdolddaaExt
namespace Go.Proofs.Ytakeldogdolddaa
open Go.RowKit

/-- A value without the fields that its kind has not, as a value of the program. -/
def bareV (k n : Int) (s : ByteArray) : Value := .agg #[.int .i64 k, .int .i64 (bareN k n), .string (bareS k s)]
theorem bareV_any (k n : Int) (s : ByteArray) (w : World) :
    Calls Try.prog 12 #[.agg #[.int .i64 k, .int .i64 n, .string s]] w fun e w' => e = .returned (bareV k n s) ∧ Below w.heap.size w w' := bare_any k n s w
theorem eql_val (w : World) (k n k' n' : Int) (s s' : ByteArray) :
    (binOp .eql 23 (.agg #[.int .i64 k, .int .i64 n, .string s]) (.agg #[.int .i64 k', .int .i64 n', .string s'])).run Try.prog w = .ok (.bool (k == k' && (n == n' && s.toList == s'.toList))) w := by
  rw [run_eql_struct, run_equalIn_struct w 9999 23 _ _ (by kernel_rfl) (by kernel_rfl)]
  simp [Program.fieldsOf, Try.underlying23, go_sem]
  by_cases h1 : k = k' <;> by_cases h2 : n = n' <;> by_cases h3 : s.toList = s'.toList <;> simp [h1, h2, h3]
theorem cmpV_bare (k n k' n' : Int) (s s' : ByteArray) : (k == k' && (bareN k n == bareN k' n' && (bareS k s).toList == (bareS k' s').toList)) = (cmpV k n s k' n' s' == 0) := by
  by_cases e : k = k'
  · subst e
    by_cases h2 : k = 2 ∨ k = 3
    · have h4 : ¬ k = 4 := by omega
      have e : (cmpV k n s k n' s' == 0) = (n == n') := by
        have := cmpI_zero n n'
        have e1 : cmpV k n s k n' s' = cmpI n n' := by simp [cmpV, h2]
        rw [e1, Bool.eq_iff_iff]; simpa using this
      rw [e]
      simp [bareN, h2, bareS_no h4]
    · have h2' : ¬ k = 2 := fun h => h2 (.inl h)
      have h3' : ¬ k = 3 := fun h => h2 (.inr h)
      by_cases h4 : k = 4
      · subst h4
        have e : (cmpV 4 n s 4 n' s' == 0) = (s.toList == s'.toList) := by
          have := cmpS_zero s s'
          rw [cmpV_4, Bool.eq_iff_iff]; simpa using this
        rw [e]
        simp [bareN, bareS]
      · rw [cmpV_x h2' h3' h4, bareN_no h2' h3', bareN_no h2' h3', bareS_no h4, bareS_no h4]
        simp
  · have h := cmpI_zero k k'
    have e1 : cmpV k n s k' n' s' = cmpI k k' := cmpV_k e
    have e2 : (cmpI k k' == 0) = false := by
      have : ¬ cmpI k k' = 0 := fun q => e (h.1 q)
      simpa using this
    rw [e1, e2]
    simp [e]
theorem bareV_eql (w : World) (k n k' n' x : Int) (s s' : ByteArray) (h : cmpV k n s k' n' s' = x) :
    (binOp .eql 23 (bareV k n s) (bareV k' n' s')).run Try.prog w = .ok (.bool (x == 0)) w := by
  unfold bareV
  rw [eql_val, cmpV_bare, h]
theorem bareV_guard (w : World) (op : BinOp) (p q : Operand) (k n k' n' : Int) (s s' : ByteArray) :
    (eqGuard op 23 p q (bareV k n s) (bareV k' n' s')).run Try.prog w = .ok () w := by
  unfold bareV
  exact run_eqGuard_agg w op 23 p q _ _ (by kernel_rfl)
theorem equal_as (k n k' n' ke ne : Int) (s s' : ByteArray) (w : World) (h : tk (eqT k n s k' n' s') = ke) (h' : tn (eqT k n s k' n' s') = ne) :
    Calls Try.prog 16 #[.agg #[.int .i64 k, .int .i64 n, .string s], .agg #[.int .i64 k', .int .i64 n', .string s']] w fun e w' => e = .returned (.agg #[.int .i64 ke, .int .i64 ne, .string ⟨#[]⟩]) ∧ Below w.heap.size w w' := by
  subst h h'; exact equal_any k n k' n' s s' w
theorem less_as (k n k' n' ke ne : Int) (s s' : ByteArray) (w : World) (h : tk (ltT k n s k' n' s') = ke) (h' : tn (ltT k n s k' n' s') = ne) :
    Calls Try.prog 18 #[.agg #[.int .i64 k, .int .i64 n, .string s], .agg #[.int .i64 k', .int .i64 n', .string s']] w fun e w' => e = .returned (.agg #[.int .i64 ke, .int .i64 ne, .string ⟨#[]⟩]) ∧ Below w.heap.size w w' := by
  subst h h'; exact less_any k n k' n' s s' w
/-- A new variable of the region's own, as the world grows. -/
theorem Box.grow {W w1 : World} {b : Nat} {x y z : Value} (h : Box W b x y z) (hb : Below W.heap.size W w1) : Box w1 b x y z := h.next hb
theorem ad_ne {b o o' : Nat} (h : o ≠ o') : (⟨b, o, none⟩ : Addr) ≠ ⟨b, o', none⟩ := fun e => h (by injection e)
theorem ad_ne' {b b' o o' : Nat} (h : b ≠ b') : (⟨b, o, none⟩ : Addr) ≠ ⟨b', o', none⟩ := fun e => h (by injection e)
theorem Box.store {W : World} {b : Nat} {x y z x' y' z' : Value} (h : Box W b x y z) : Box (((W.setCell ⟨b, 0, none⟩ x').setCell ⟨b, 1, none⟩ y').setCell ⟨b, 2, none⟩ z') b x' y' z' := by
  have n01 : (⟨b, 0, none⟩ : Addr) ≠ ⟨b, 1, none⟩ := ad_ne (by omega)
  have n02 : (⟨b, 0, none⟩ : Addr) ≠ ⟨b, 2, none⟩ := ad_ne (by omega)
  have n12 : (⟨b, 1, none⟩ : Addr) ≠ ⟨b, 2, none⟩ := ad_ne (by omega)
  have k1 : (W.setCell ⟨b, 0, none⟩ x').cell? ⟨b, 1, none⟩ = some y := by rw [World.cell?_setCell_other _ _ _ _ n01, h.c1]
  have k2 : ((W.setCell ⟨b, 0, none⟩ x').setCell ⟨b, 1, none⟩ y').cell? ⟨b, 2, none⟩ = some z := by rw [World.cell?_setCell_other _ _ _ _ n12, World.cell?_setCell_other _ _ _ _ n02, h.c2]
  refine ⟨by simpa using h.lt, ?_, ?_, World.cell?_setCell_same _ _ _ k2, by simp [h.f0], by simp [h.f1], by simp [h.f2]⟩
  · rw [World.cell?_setCell_other _ _ _ _ (Ne.symm n02), World.cell?_setCell_other _ _ _ _ (Ne.symm n01)]
    exact World.cell?_setCell_same _ _ _ h.c0
  · rw [World.cell?_setCell_other _ _ _ _ (Ne.symm n12)]
    exact World.cell?_setCell_same _ _ _ k1
theorem Box.other {W : World} {b g : Nat} {x y z x' y' z' : Value} (h : Box W b x y z) (hne : g ≠ b) : Box (((W.setCell ⟨g, 0, none⟩ x').setCell ⟨g, 1, none⟩ y').setCell ⟨g, 2, none⟩ z') b x y z := by
  have q : ∀ o, (((W.setCell ⟨g, 0, none⟩ x').setCell ⟨g, 1, none⟩ y').setCell ⟨g, 2, none⟩ z').cell? ⟨b, o, none⟩ = W.cell? ⟨b, o, none⟩ := fun o => by
    rw [World.cell?_setCell_other _ _ _ _ (ad_ne' hne), World.cell?_setCell_other _ _ _ _ (ad_ne' hne), World.cell?_setCell_other _ _ _ _ (ad_ne' hne)]
  exact ⟨by simpa using h.lt, (q 0).trans h.c0, (q 1).trans h.c1, (q 2).trans h.c2, by simp [h.f0], by simp [h.f1], by simp [h.f2]⟩
end Go.Proofs.Ytakeldogdolddaa
