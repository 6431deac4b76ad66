/- The walks of cmp.Compare and of vals.Compare. -/
import Derived.Test.YtbdhmjojamoafaaW3
namespace Go.Proofs.Ytbdhmjojamoafaa
open Go.RowKit

theorem cmpI_lt {a b : Int} (h : a < b) : cmpI a b = -1 := by simp [cmpI, h]
theorem cmpI_gt {a b : Int} (h : b < a) : cmpI a b = 1 := by
  have : ¬ a < b := by omega
  simp [cmpI, h, this]
theorem cmpI_eq (a : Int) : cmpI a a = 0 := by simp [cmpI]
set_option maxHeartbeats 400000 in
theorem cmpInt_any (a b : Int) (w : World) :
    Calls Try.prog 84 #[.int .i64 a, .int .i64 b] w fun e w' => e = .returned (.int .i64 (cmpI a b)) ∧ w' = w := by
  rcases Int.lt_trichotomy a b with h | h | h
  · go_enter Try.func84, Try.ntmps84
    go_wp2
    go_ret
    exact ⟨ret_int (cmpI_lt h).symm, rfl⟩
  · subst h
    go_enter Try.func84, Try.ntmps84
    go_wp2
    go_ret
    exact ⟨ret_int (cmpI_eq _).symm, rfl⟩
  · have h' : ¬ a < b := by omega
    go_enter Try.func84, Try.ntmps84
    go_wp2
    go_ret
    exact ⟨ret_int (cmpI_gt h).symm, rfl⟩
set_option maxHeartbeats 400000 in
theorem cmpInt64_any (a b : Int) (w : World) :
    Calls Try.prog 85 #[.int .i64 a, .int .i64 b] w fun e w' => e = .returned (.int .i64 (cmpI a b)) ∧ w' = w := by
  rcases Int.lt_trichotomy a b with h | h | h
  · go_enter Try.func85, Try.ntmps85
    go_wp2
    go_ret
    exact ⟨ret_int (cmpI_lt h).symm, rfl⟩
  · subst h
    go_enter Try.func85, Try.ntmps85
    go_wp2
    go_ret
    exact ⟨ret_int (cmpI_eq _).symm, rfl⟩
  · have h' : ¬ a < b := by omega
    go_enter Try.func85, Try.ntmps85
    go_wp2
    go_ret
    exact ⟨ret_int (cmpI_gt h).symm, rfl⟩
set_option maxHeartbeats 400000 in
theorem cmpStr_any (a b : ByteArray) (w : World) :
    Calls Try.prog 86 #[.string a, .string b] w fun e w' => e = .returned (.int .i64 (cmpS a b)) ∧ w' = w := by
  go_enter Try.func86, Try.ntmps86
  go_wp2
  · go_ret
    exact ⟨ret_int (by simp [cmpS, *]), rfl⟩
  · go_ret
    exact ⟨ret_int (by simp_all [cmpS]), rfl⟩
  · go_ret
    exact ⟨ret_int (by simp_all [cmpS]), rfl⟩


theorem cmpV_k {k k' n n' : Int} {s s' : ByteArray} (h : ¬ k = k') : cmpV k n s k' n' s' = cmpI k k' := by simp [cmpV, h]
theorem cmpV_2 {n n' : Int} {s s' : ByteArray} : cmpV 2 n s 2 n' s' = cmpI n n' := by simp [cmpV]
theorem cmpV_3 {n n' : Int} {s s' : ByteArray} : cmpV 3 n s 3 n' s' = cmpI n n' := by simp [cmpV]
theorem cmpV_4 {n n' : Int} {s s' : ByteArray} : cmpV 4 n s 4 n' s' = cmpS s s' := by simp [cmpV]
theorem cmpV_x {k n n' : Int} {s s' : ByteArray} (h2 : ¬ k = 2) (h3 : ¬ k = 3) (h4 : ¬ k = 4) : cmpV k n s k n' s' = 0 := by simp [cmpV, h2, h3, h4]

set_option maxHeartbeats 1000000 in
theorem compare_d (k n k' n' : Int) (s s' : ByteArray) (w : World) :
    Calls Try.prog 79 #[.agg #[.int .i64 k, .int .i64 n, .string s], .agg #[.int .i64 k', .int .i64 n', .string s']] w fun e w' => e = .returned (.int .i64 (cmpV k n s k' n' s')) ∧ Below w.heap.size w w' ∧ w.drawn ≤ w'.drawn := by
  by_cases hk : k = k'
  · subst hk
    by_cases h2 : k = 2
    · subst h2
      go_enter Try.func79, Try.ntmps79
      go_wp2_with fail
      refine (cmpInt64_any _ _ _).mono ?_
      rintro e w1 ⟨rfl, rfl⟩
      go_wp2_with fail
      go_ret
      exact ⟨ret_int cmpV_2.symm, ((Below.refl _ _).alloc (Nat.le_refl _) _).alloc (by simp) _, Nat.le_refl _⟩
    by_cases h3 : k = 3
    · subst h3
      go_enter Try.func79, Try.ntmps79
      go_wp2_with fail
      refine (cmpInt64_any _ _ _).mono ?_
      rintro e w1 ⟨rfl, rfl⟩
      go_wp2_with fail
      go_ret
      exact ⟨ret_int cmpV_3.symm, ((Below.refl _ _).alloc (Nat.le_refl _) _).alloc (by simp) _, Nat.le_refl _⟩
    by_cases h4 : k = 4
    · subst h4
      go_enter Try.func79, Try.ntmps79
      go_wp2_with fail
      refine (cmpStr_any _ _ _).mono ?_
      rintro e w1 ⟨rfl, rfl⟩
      go_wp2_with fail
      go_ret
      exact ⟨ret_int cmpV_4.symm, ((Below.refl _ _).alloc (Nat.le_refl _) _).alloc (by simp) _, Nat.le_refl _⟩
    have b2 : (k == 2) = false := by simpa using h2
    have b3 : (k == 3) = false := by simpa using h3
    have b4 : (k == 4) = false := by simpa using h4
    go_enter Try.func79, Try.ntmps79
    go_wp2_with fail
    go_ret
    exact ⟨ret_int (cmpV_x h2 h3 h4).symm, ((Below.refl _ _).alloc (Nat.le_refl _) _).alloc (by simp) _, Nat.le_refl _⟩
  · have bk : (k == k') = false := by simpa using hk
    have bk' : (k != k') = true := by simpa using hk
    go_enter Try.func79, Try.ntmps79
    go_wp2_with fail
    refine (cmpInt_any _ _ _).mono ?_
    rintro e w1 ⟨rfl, rfl⟩
    go_wp2_with fail
    go_ret
    exact ⟨ret_int (cmpV_k hk).symm, ((Below.refl _ _).alloc (Nat.le_refl _) _).alloc (by simp) _, Nat.le_refl _⟩
theorem compare_any (k n k' n' : Int) (s s' : ByteArray) (w : World) :
    Calls Try.prog 79 #[.agg #[.int .i64 k, .int .i64 n, .string s], .agg #[.int .i64 k', .int .i64 n', .string s']] w fun e w' => e = .returned (.int .i64 (cmpV k n s k' n' s')) ∧ Below w.heap.size w w' :=
  (compare_d k n k' n' s s' w).mono fun _ _ h => ⟨h.1, h.2.1⟩
end Go.Proofs.Ytbdhmjojamoafaa
