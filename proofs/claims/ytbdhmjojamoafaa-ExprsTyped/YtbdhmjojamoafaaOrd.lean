/- The order of values: plain facts on numbers and texts. No program in sight. -/
import Derived.Test.YtbdhmjojamoafaaPlain
import Derived.Laws.StructEq
namespace Go.Proofs.Ytbdhmjojamoafaa

theorem bl_irrefl : ∀ x : List UInt8, Op.bytesLess x x = false
  | [] => rfl
  | a :: x => by
    have := bl_irrefl x
    simp [Op.bytesLess, this, UInt8.lt_irrefl]
theorem bl_asymm : ∀ x y : List UInt8, Op.bytesLess x y = true → Op.bytesLess y x = false
  | [], [] => fun _ => rfl
  | [], _ :: _ => fun _ => rfl
  | _ :: _, [] => fun h => by simp [Op.bytesLess] at h
  | a :: x, b :: y => fun h => by
    simp only [Op.bytesLess, Bool.or_eq_true, decide_eq_true_eq, Bool.and_eq_true, beq_iff_eq] at h
    rcases h with h | ⟨rfl, h⟩
    · have h1 : ¬ b < a := UInt8.lt_asymm h
      have h2 : ¬ b = a := fun e => UInt8.lt_irrefl _ (e ▸ h)
      simp [Op.bytesLess, h1, h2]
    · simp [Op.bytesLess, bl_asymm x y h, UInt8.lt_irrefl]
theorem bl_total : ∀ x y : List UInt8, Op.bytesLess x y = false → ¬ x = y → Op.bytesLess y x = true
  | [], [] => fun _ h => absurd rfl h
  | [], _ :: _ => fun h _ => by simp [Op.bytesLess] at h
  | _ :: _, [] => fun _ _ => rfl
  | a :: x, b :: y => fun h hne => by
    simp only [Op.bytesLess, Bool.or_eq_false_iff, decide_eq_false_iff_not, Bool.and_eq_false_imp, beq_iff_eq] at h
    by_cases e : a = b
    · subst e
      have h2 := bl_total x y (h.2 rfl) (fun e => hne (by rw [e]))
      simp [Op.bytesLess, h2]
    · have : b < a := by
        rcases UInt8.lt_or_lt_of_ne e with h' | h'
        · exact absurd h' h.1
        · exact h'
      simp [Op.bytesLess, this]
theorem bl_trans : ∀ x y z : List UInt8, Op.bytesLess x y = true → Op.bytesLess y z = true → Op.bytesLess x z = true
  | _, [], _ => fun h _ => by cases ‹List UInt8› <;> simp [Op.bytesLess] at h
  | _, _ :: _, [] => fun _ h => by simp [Op.bytesLess] at h
  | [], _ :: _, _ :: _ => fun _ _ => rfl
  | a :: x, b :: y, c :: z => fun h k => by
    simp only [Op.bytesLess, Bool.or_eq_true, decide_eq_true_eq, Bool.and_eq_true, beq_iff_eq] at h k ⊢
    rcases h with h | ⟨rfl, h⟩
    · rcases k with k | ⟨rfl, k⟩
      · exact .inl (UInt8.lt_trans h k)
      · exact .inl h
    · rcases k with k | ⟨rfl, k⟩
      · exact .inl k
      · exact .inr ⟨rfl, bl_trans x y z h k⟩

theorem cmpI_neg (a b : Int) : cmpI a b = -cmpI b a := by unfold cmpI; split <;> split <;> (try split) <;> omega
theorem cmpI_zero (a b : Int) : cmpI a b = 0 ↔ a = b := by unfold cmpI; split <;> (try split) <;> omega
theorem cmpI_le (a b : Int) : cmpI a b ≤ 0 ↔ a ≤ b := by unfold cmpI; split <;> (try split) <;> omega
theorem cmpS_neg (a b : ByteArray) : cmpS a b = -cmpS b a := by
  unfold cmpS
  by_cases e : a.toList = b.toList
  · simp [e, bl_irrefl]
  · have e' : ¬ b.toList = a.toList := fun h => e h.symm
    cases h : Op.bytesLess a.toList b.toList
    · have := bl_total _ _ h e
      simp [this, e]
    · have := bl_asymm _ _ h
      simp [this, e']
theorem cmpS_zero (a b : ByteArray) : cmpS a b = 0 ↔ a.toList = b.toList := by
  unfold cmpS
  by_cases e : a.toList = b.toList
  · simp [e, bl_irrefl]
  · cases h : Op.bytesLess a.toList b.toList <;> simp [e]
theorem cmpS_le (a b c : ByteArray) (h : cmpS a b ≤ 0) (k : cmpS b c ≤ 0) : cmpS a c ≤ 0 := by
  unfold cmpS at *
  by_cases e : a.toList = b.toList
  · rw [e]; exact k
  by_cases e' : b.toList = c.toList
  · rw [← e']; exact h
  have h1 : Op.bytesLess a.toList b.toList = true := by
    cases h' : Op.bytesLess a.toList b.toList
    · simp [h', e] at h
    · rfl
  have k1 : Op.bytesLess b.toList c.toList = true := by
    cases h' : Op.bytesLess b.toList c.toList
    · simp [h', e'] at k
    · rfl
  simp [bl_trans _ _ _ h1 k1]

theorem cmpV_neg (k n k' n' : Int) (s s' : ByteArray) : cmpV k n s k' n' s' = -cmpV k' n' s' k n s := by
  unfold cmpV
  by_cases e : k = k'
  · subst e
    by_cases h : k = 2 ∨ k = 3
    · simp [h]; exact cmpI_neg _ _
    · by_cases h4 : k = 4
      · simp [h4]; exact cmpS_neg _ _
      · simp [h, h4]
  · have e' : ¬ k' = k := fun h => e h.symm
    simp [e, e']; exact cmpI_neg _ _
theorem cmpV_trans (k n k' n' k'' n'' : Int) (s s' s'' : ByteArray) (h : cmpV k n s k' n' s' ≤ 0) (j : cmpV k' n' s' k'' n'' s'' ≤ 0) : cmpV k n s k'' n'' s'' ≤ 0 := by
  unfold cmpV at *
  by_cases e : k = k'
  · subst e
    by_cases e' : k = k''
    · subst e'
      by_cases h2 : k = 2 ∨ k = 3
      · simp [h2] at h j ⊢
        rw [cmpI_le] at *
        omega
      · by_cases h4 : k = 4
        · simp [h4] at h j ⊢
          exact cmpS_le _ _ _ h j
        · simp [h2, h4]
    · simp [e'] at j ⊢
      exact j
  · by_cases e' : k' = k''
    · subst e'
      simp [e] at h ⊢
      exact h
    · simp [e] at h
      simp [e'] at j
      rw [cmpI_le] at h j
      have : ¬ k = k'' := by omega
      simp [this]
      rw [cmpI_le]
      omega
end Go.Proofs.Ytbdhmjojamoafaa
