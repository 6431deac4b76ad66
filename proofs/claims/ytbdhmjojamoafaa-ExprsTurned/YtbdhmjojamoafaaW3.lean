/- The walks of vals.Wrong and of its fellow in the document's answer: what each answers of any value. -/
import Derived.Test.YtbdhmjojamoafaaW1
namespace Go.Proofs.Ytbdhmjojamoafaa
open Go.RowKit
theorem ret_int {k : IntKind} {a b : Int} (h : a = b) : Ending.returned (.int k a) = .returned (.int k b) := by rw [h]
theorem wrong_k1 (n : Int) (s : ByteArray) : wrongF 1 n s = 0 := by simp [wrongF]
theorem wrong_k20 (s : ByteArray) : wrongF 2 0 s = 0 := by simp [wrongF]
theorem wrong_k21 (s : ByteArray) : wrongF 2 1 s = 0 := by simp [wrongF]
theorem wrong_k2x (n : Int) (s : ByteArray) (h0 : ¬ n = 0) (h1 : ¬ n = 1) : wrongF 2 n s = 3 := by simp [wrongF, h0, h1]
theorem wrong_k3 (n : Int) (s : ByteArray) (h0 : ¬ n < -1000000000000000) (h1 : ¬ 1000000000000000 < n) : wrongF 3 n s = 0 := by
  have g0 : -1000000000000000 ≤ n := by omega
  have g1 : n ≤ 1000000000000000 := by omega
  simp [wrongF, g0, g1]
theorem wrong_k3l (n : Int) (s : ByteArray) (h0 : n < -1000000000000000) : wrongF 3 n s = 3 := by
  have g0 : ¬ -1000000000000000 ≤ n := by omega
  simp [wrongF, g0]
theorem wrong_k3g (n : Int) (s : ByteArray) (h0 : 1000000000000000 < n) : wrongF 3 n s = 3 := by
  have g0 : ¬ n ≤ 1000000000000000 := by omega
  simp [wrongF, g0]
theorem wrong_k4 (n : Int) (s : ByteArray) (h : s.size ≤ 60) : wrongF 4 n s = 0 := by simp [wrongF, h]
theorem wrong_k4g (n : Int) (s : ByteArray) (h : 60 < s.size) : wrongF 4 n s = 4 := by
  have g : ¬ s.size ≤ 60 := by omega
  simp [wrongF, g]
theorem wrong_kx (k n : Int) (s : ByteArray) (h1 : ¬ k = 1) (h2 : ¬ k = 2) (h3 : ¬ k = 3) (h4 : ¬ k = 4) : wrongF k n s = 1 := by simp [wrongF, h1, h2, h3, h4]

set_option maxHeartbeats 1000000 in
theorem wrong_any (k n : Int) (s : ByteArray) (w : World) :
    Calls Try.prog 26 #[.agg #[.int .i64 k, .int .i64 n, .string s]] w fun e w' => e = .returned (.int .i64 (wrongF k n s)) ∧ Below w.heap.size w w' := by
  by_cases h1 : k = 1
  · subst h1
    go_enter Try.func26, Try.ntmps26
    go_wp2
    go_ret
    exact ⟨ret_int (wrong_k1 _ _).symm, (Below.refl _ _).alloc (Nat.le_refl _) _⟩
  by_cases h2 : k = 2
  · subst h2
    by_cases n0 : n = 0
    · subst n0
      go_enter Try.func26, Try.ntmps26
      go_wp2
      go_ret
      exact ⟨ret_int (wrong_k20 _).symm, (Below.refl _ _).alloc (Nat.le_refl _) _⟩
    by_cases n1 : n = 1
    · subst n1
      go_enter Try.func26, Try.ntmps26
      go_wp2
      go_ret
      exact ⟨ret_int (wrong_k21 _).symm, (Below.refl _ _).alloc (Nat.le_refl _) _⟩
    have l : n < 0 ∨ 1 < n := by omega
    rcases l with l | l
    · have b0 : (n == 0) = false := by simpa using n0
      have b1 : (n == 1) = false := by simpa using n1
      have c0 : (n != 0) = true := by simpa using n0
      have c1 : (n != 1) = true := by simpa using n1
      go_enter Try.func26, Try.ntmps26
      go_wp2
      go_ret
      exact ⟨ret_int (wrong_k2x _ _ n0 n1).symm, (Below.refl _ _).alloc (Nat.le_refl _) _⟩
    · have b0 : (n == 0) = false := by simpa using n0
      have b1 : (n == 1) = false := by simpa using n1
      have c0 : (n != 0) = true := by simpa using n0
      have c1 : (n != 1) = true := by simpa using n1
      have l0 : ¬ n < 0 := by omega
      go_enter Try.func26, Try.ntmps26
      go_wp2
      go_ret
      exact ⟨ret_int (wrong_k2x _ _ n0 n1).symm, (Below.refl _ _).alloc (Nat.le_refl _) _⟩
  by_cases h3 : k = 3
  · subst h3
    by_cases n0 : n < -1000000000000000
    · have n0' : ¬ -1000000000000000 ≤ n := by omega
      go_enter Try.func26, Try.ntmps26
      go_wp2
      go_ret
      exact ⟨ret_int (wrong_k3l _ _ (by omega)).symm, (Below.refl _ _).alloc (Nat.le_refl _) _⟩
    by_cases n1 : 1000000000000000 < n
    · have n0' : -1000000000000000 ≤ n := by omega
      have n1' : ¬ n ≤ 1000000000000000 := by omega
      go_enter Try.func26, Try.ntmps26
      go_wp2
      go_ret
      exact ⟨ret_int (wrong_k3g _ _ (by omega)).symm, (Below.refl _ _).alloc (Nat.le_refl _) _⟩
    have n0' : -1000000000000000 ≤ n := by omega
    have n1' : n ≤ 1000000000000000 := by omega
    go_enter Try.func26, Try.ntmps26
    go_wp2
    go_ret
    exact ⟨ret_int (wrong_k3 _ _ (by omega) (by omega)).symm, (Below.refl _ _).alloc (Nat.le_refl _) _⟩
  by_cases h4 : k = 4
  · subst h4
    by_cases n0 : 60 < s.size
    · have n0' : 60 < (s.size : Int) := by omega
      go_enter Try.func26, Try.ntmps26
      go_wp2
      go_ret
      exact ⟨ret_int (wrong_k4g _ _ n0).symm, (Below.refl _ _).alloc (Nat.le_refl _) _⟩
    have n0' : ¬ 60 < (s.size : Int) := by omega
    go_enter Try.func26, Try.ntmps26
    go_wp2
    go_ret
    exact ⟨ret_int (wrong_k4 _ _ (by omega)).symm, (Below.refl _ _).alloc (Nat.le_refl _) _⟩
  have b1 : (k == 1) = false := by simpa using h1
  have b2 : (k == 2) = false := by simpa using h2
  have b3 : (k == 3) = false := by simpa using h3
  have b4 : (k == 4) = false := by simpa using h4
  have l : k < 1 ∨ 4 < k := by omega
  rcases l with l | l
  · go_enter Try.func26, Try.ntmps26
    go_wp2
    go_ret
    exact ⟨ret_int (wrong_kx _ _ _ h1 h2 h3 h4).symm, (Below.refl _ _).alloc (Nat.le_refl _) _⟩
  · have l0 : ¬ k < 1 := by omega
    go_enter Try.func26, Try.ntmps26
    go_wp2
    go_ret
    exact ⟨ret_int (wrong_kx _ _ _ h1 h2 h3 h4).symm, (Below.refl _ _).alloc (Nat.le_refl _) _⟩

set_option maxHeartbeats 1000000 in
theorem refWrong_any (k n : Int) (s : ByteArray) (w : World) :
    Calls Try.prog 16 #[.agg #[.int .i64 k, .int .i64 n, .string s]] w fun e w' => e = .returned (.int .i64 (wrongF k n s)) ∧ Below w.heap.size w w' := by
  by_cases h1 : k = 1
  · subst h1
    go_enter Try.func16, Try.ntmps16
    go_wp2
    go_ret
    exact ⟨ret_int (wrong_k1 _ _).symm, (Below.refl _ _).alloc (Nat.le_refl _) _⟩
  by_cases h2 : k = 2
  · subst h2
    by_cases n0 : n = 0
    · subst n0
      go_enter Try.func16, Try.ntmps16
      go_wp2
      go_ret
      exact ⟨ret_int (wrong_k20 _).symm, (Below.refl _ _).alloc (Nat.le_refl _) _⟩
    by_cases n1 : n = 1
    · subst n1
      go_enter Try.func16, Try.ntmps16
      go_wp2
      go_ret
      exact ⟨ret_int (wrong_k21 _).symm, (Below.refl _ _).alloc (Nat.le_refl _) _⟩
    have l : n < 0 ∨ 1 < n := by omega
    rcases l with l | l
    · have b0 : (n == 0) = false := by simpa using n0
      have b1 : (n == 1) = false := by simpa using n1
      have c0 : (n != 0) = true := by simpa using n0
      have c1 : (n != 1) = true := by simpa using n1
      go_enter Try.func16, Try.ntmps16
      go_wp2
      go_ret
      exact ⟨ret_int (wrong_k2x _ _ n0 n1).symm, (Below.refl _ _).alloc (Nat.le_refl _) _⟩
    · have b0 : (n == 0) = false := by simpa using n0
      have b1 : (n == 1) = false := by simpa using n1
      have c0 : (n != 0) = true := by simpa using n0
      have c1 : (n != 1) = true := by simpa using n1
      have l0 : ¬ n < 0 := by omega
      go_enter Try.func16, Try.ntmps16
      go_wp2
      go_ret
      exact ⟨ret_int (wrong_k2x _ _ n0 n1).symm, (Below.refl _ _).alloc (Nat.le_refl _) _⟩
  by_cases h3 : k = 3
  · subst h3
    by_cases n0 : n < -1000000000000000
    · have n0' : ¬ -1000000000000000 ≤ n := by omega
      go_enter Try.func16, Try.ntmps16
      go_wp2
      go_ret
      exact ⟨ret_int (wrong_k3l _ _ (by omega)).symm, (Below.refl _ _).alloc (Nat.le_refl _) _⟩
    by_cases n1 : 1000000000000000 < n
    · have n0' : -1000000000000000 ≤ n := by omega
      have n1' : ¬ n ≤ 1000000000000000 := by omega
      go_enter Try.func16, Try.ntmps16
      go_wp2
      go_ret
      exact ⟨ret_int (wrong_k3g _ _ (by omega)).symm, (Below.refl _ _).alloc (Nat.le_refl _) _⟩
    have n0' : -1000000000000000 ≤ n := by omega
    have n1' : n ≤ 1000000000000000 := by omega
    go_enter Try.func16, Try.ntmps16
    go_wp2
    go_ret
    exact ⟨ret_int (wrong_k3 _ _ (by omega) (by omega)).symm, (Below.refl _ _).alloc (Nat.le_refl _) _⟩
  by_cases h4 : k = 4
  · subst h4
    by_cases n0 : 60 < s.size
    · have n0' : 60 < (s.size : Int) := by omega
      go_enter Try.func16, Try.ntmps16
      go_wp2
      go_ret
      exact ⟨ret_int (wrong_k4g _ _ n0).symm, (Below.refl _ _).alloc (Nat.le_refl _) _⟩
    have n0' : ¬ 60 < (s.size : Int) := by omega
    go_enter Try.func16, Try.ntmps16
    go_wp2
    go_ret
    exact ⟨ret_int (wrong_k4 _ _ (by omega)).symm, (Below.refl _ _).alloc (Nat.le_refl _) _⟩
  have b1 : (k == 1) = false := by simpa using h1
  have b2 : (k == 2) = false := by simpa using h2
  have b3 : (k == 3) = false := by simpa using h3
  have b4 : (k == 4) = false := by simpa using h4
  have l : k < 1 ∨ 4 < k := by omega
  rcases l with l | l
  · go_enter Try.func16, Try.ntmps16
    go_wp2
    go_ret
    exact ⟨ret_int (wrong_kx _ _ _ h1 h2 h3 h4).symm, (Below.refl _ _).alloc (Nat.le_refl _) _⟩
  · have l0 : ¬ k < 1 := by omega
    go_enter Try.func16, Try.ntmps16
    go_wp2
    go_ret
    exact ⟨ret_int (wrong_kx _ _ _ h1 h2 h3 h4).symm, (Below.refl _ _).alloc (Nat.le_refl _) _⟩

end Go.Proofs.Ytbdhmjojamoafaa
