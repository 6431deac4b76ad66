/- The walks of vals.product and vals.Reckon. -/
import Derived.Test.YtbdhmjojamoafaaW6
namespace Go.Proofs.Ytbdhmjojamoafaa
open Go.RowKit

/-- A product whose one factor is more than the greatest number by the other one is too large; another one is not. -/
theorem mul_out (a b : Int) (h : (1000000000000000 / (a.natAbs : Int)) < (b.natAbs : Int)) (ha : a ≠ 0) : inB (a * b) = false := by
  apply inB_no
  have h1 : 1000000000000000 < (a.natAbs : Int) * (b.natAbs : Int) := by
    have p : 0 < (a.natAbs : Int) := by omega
    have := Int.lt_mul_of_ediv_lt p h
    rw [Int.mul_comm]; exact this
  have h2 : ((a * b).natAbs : Int) = (a.natAbs : Int) * (b.natAbs : Int) := by rw [Int.natAbs_mul]; exact Int.natCast_mul _ _
  rw [← h2] at h1
  omega
theorem mul_in (a b : Int) (h : (b.natAbs : Int) ≤ 1000000000000000 / (a.natAbs : Int)) (ha : a ≠ 0) : -1000000000000000 ≤ a * b ∧ a * b ≤ 1000000000000000 := by
  have h1 : (a.natAbs : Int) * (b.natAbs : Int) ≤ 1000000000000000 := by
    have p : 0 < (a.natAbs : Int) := by omega
    have := Int.mul_le_of_le_ediv p h
    rw [Int.mul_comm]; exact this
  have h2 : ((a * b).natAbs : Int) = (a.natAbs : Int) * (b.natAbs : Int) := by rw [Int.natAbs_mul]; exact Int.natCast_mul _ _
  rw [← h2] at h1
  omega

set_option maxHeartbeats 400000 in
theorem product_0 (b : Int) (w : World) :
    Calls Try.prog 89 #[.int .i64 0, .int .i64 b] w fun e w' => e = .returned (.agg #[.int .i64 (intK (0 * b)), .int .i64 (intN (0 * b)), .string ⟨#[]⟩]) ∧ Below w.heap.size w w' := by
  rw [Int.zero_mul]
  have R0 := Box.new w (.int .i64 0) (.int .i64 0) (.string ⟨#[]⟩) 24
  go_enter Try.func89, Try.ntmps89
  go_wp2_with fail
  refine (int_any _ _).mono ?_
  rintro e w1 ⟨rfl, hb1⟩
  have R1 := R0.next hb1
  have ⟨r0, r1, r2, r3, r4, r5, r6⟩ := R1
  go_wp2_with fail
  exact bodyPost_ret (v := .agg #[.int .i64 (intK 0), .int .i64 (intN 0), .string ⟨#[]⟩]) (by simp [results, Try.results89, go_sem, r1, r2, r3]) rfl ⟨rfl, below_set3 (below1 hb1) (Nat.le_refl _)⟩

set_option maxHeartbeats 400000 in
theorem product_out (a b : Int) (w : World) (a0 : -1000000000000000 ≤ a) (a1 : a ≤ 1000000000000000) (b0 : -1000000000000000 ≤ b) (b1 : b ≤ 1000000000000000) (ha : a ≠ 0) (h : (1000000000000000 / (a.natAbs : Int)) < (b.natAbs : Int)) :
    Calls Try.prog 89 #[.int .i64 a, .int .i64 b] w fun e w' => e = .returned (.agg #[.int .i64 1, .int .i64 0, .string ⟨#[]⟩]) ∧ Below w.heap.size w w' := by
  have R0 := Box.new w (.int .i64 0) (.int .i64 0) (.string ⟨#[]⟩) 24
  have bn : (a != 0) = true := by simpa using ha
  have p0 : 0 < (a.natAbs : Int) := by omega
  have p1 : (a.natAbs : Int) ≤ 1000000000000000 := by omega
  have q0 : 0 ≤ (b.natAbs : Int) := by omega
  have q1 : (b.natAbs : Int) ≤ 1000000000000000 := by omega
  go_enter Try.func89, Try.ntmps89
  go_wp2_with fail
  refine (size_any _ _ b0 b1).mono ?_
  rintro e w1 ⟨rfl, rfl⟩
  go_wp2_with fail
  refine (size_any _ _ a0 a1).mono ?_
  rintro e w1 ⟨rfl, rfl⟩
  generalize (a.natAbs : Int) = A at *
  generalize (b.natAbs : Int) = B at *
  go_wp2_with fail
  refine (null_any _).mono ?_
  rintro e w1 ⟨rfl, hb1⟩
  have R1 := R0.next hb1
  have ⟨r0, r1, r2, r3, r4, r5, r6⟩ := R1
  go_wp2_with fail
  exact bodyPost_ret (v := .agg #[.int .i64 1, .int .i64 0, .string ⟨#[]⟩]) (by simp [results, Try.results89, go_sem, r1, r2, r3]) rfl ⟨rfl, below_set3 (below1 hb1) (Nat.le_refl _)⟩

set_option maxHeartbeats 400000 in
theorem product_in (a b : Int) (w : World) (a0 : -1000000000000000 ≤ a) (a1 : a ≤ 1000000000000000) (b0 : -1000000000000000 ≤ b) (b1 : b ≤ 1000000000000000) (ha : a ≠ 0) (h : (b.natAbs : Int) ≤ (1000000000000000 / (a.natAbs : Int))) :
    Calls Try.prog 89 #[.int .i64 a, .int .i64 b] w fun e w' => e = .returned (.agg #[.int .i64 (intK (a * b)), .int .i64 (intN (a * b)), .string ⟨#[]⟩]) ∧ Below w.heap.size w w' := by
  have hm := mul_in a b h ha
  obtain ⟨m0, m1⟩ := hm
  have R0 := Box.new w (.int .i64 0) (.int .i64 0) (.string ⟨#[]⟩) 24
  have bn : (a != 0) = true := by simpa using ha
  have p0 : 0 < (a.natAbs : Int) := by omega
  have p1 : (a.natAbs : Int) ≤ 1000000000000000 := by omega
  have q0 : 0 ≤ (b.natAbs : Int) := by omega
  have q1 : (b.natAbs : Int) ≤ 1000000000000000 := by omega
  go_enter Try.func89, Try.ntmps89
  go_wp2_with fail
  refine (size_any _ _ b0 b1).mono ?_
  rintro e w1 ⟨rfl, rfl⟩
  go_wp2_with fail
  refine (size_any _ _ a0 a1).mono ?_
  rintro e w1 ⟨rfl, rfl⟩
  have ew : wrap64 (a * b) = a * b := by unfold wrap64; omega
  generalize (a.natAbs : Int) = A at *
  generalize (b.natAbs : Int) = B at *
  go_wp2_with fail
  refine (int_any _ _).mono ?_
  rintro e w1 ⟨rfl, hb1⟩
  have R1 := R0.next hb1
  have ⟨r0, r1, r2, r3, r4, r5, r6⟩ := R1
  go_wp2_with fail
  exact bodyPost_ret (v := .agg #[.int .i64 (intK (a * b)), .int .i64 (intN (a * b)), .string ⟨#[]⟩]) (by simp [results, Try.results89, go_sem, r1, r2, r3]) rfl ⟨rfl, below_set3 (below1 hb1) (Nat.le_refl _)⟩

theorem product_any (a b : Int) (w : World) (a0 : -1000000000000000 ≤ a) (a1 : a ≤ 1000000000000000) (b0 : -1000000000000000 ≤ b) (b1 : b ≤ 1000000000000000) :
    Calls Try.prog 89 #[.int .i64 a, .int .i64 b] w fun e w' => e = .returned (.agg #[.int .i64 (intK (a * b)), .int .i64 (intN (a * b)), .string ⟨#[]⟩]) ∧ Below w.heap.size w w' := by
  by_cases ha : a = 0
  · subst ha; exact product_0 b w
  by_cases h : (1000000000000000 / (a.natAbs : Int)) < (b.natAbs : Int)
  · have e := mul_out a b h ha
    have e1 : intK (a * b) = 1 := by simp [intK, e]
    have e2 : intN (a * b) = 0 := by simp [intN, e]
    rw [e1, e2]; exact product_out a b w a0 a1 b0 b1 ha h
  · exact product_in a b w a0 a1 b0 b1 ha (by omega)

set_option maxHeartbeats 400000 in
theorem reckon_x (c k n k' n' : Int) (s s' : ByteArray) (w : World) (h : numB k n = false) :
    Calls Try.prog 83 #[.int .i32 c, .agg #[.int .i64 k, .int .i64 n, .string s], .agg #[.int .i64 k', .int .i64 n', .string s']] w fun e w' => e = .returned (.agg #[.int .i64 (1), .int .i64 (0), .string ⟨#[]⟩]) ∧ Below w.heap.size w w' := by
  have A0 := ((Box.new w (.int .i64 k) (.int .i64 n) (.string s) 24).alloc (.cells #[.int .i64 k', .int .i64 n', .string s'] 24)).alloc (.cells #[.int .i64 0, .int .i64 0, .string ⟨#[]⟩] 24)
  have B0 := (Box.new (w.alloc (.cells #[.int .i64 k, .int .i64 n, .string s] 24)) (.int .i64 k') (.int .i64 n') (.string s') 24).alloc (.cells #[.int .i64 0, .int .i64 0, .string ⟨#[]⟩] 24)
  have R0 := Box.new ((w.alloc (.cells #[.int .i64 k, .int .i64 n, .string s] 24)).alloc (.cells #[.int .i64 k', .int .i64 n', .string s'] 24)) (.int .i64 0) (.int .i64 0) (.string ⟨#[]⟩) 24
  simp only [World.size_alloc] at B0 R0
  go_enter Try.func83, Try.ntmps83
  go_wp2_with fail
  refine (isNumber_any _ _ _ _).mono ?_
  rintro e w1 ⟨rfl, hb1⟩
  rw [h]
  have A1 := A0.next hb1
  have B1 := B0.next hb1
  have R1 := R0.next hb1
  have ⟨a0, a1, a2, a3, a4, a5, a6⟩ := A1
  have ⟨b0, b1, b2, b3, b4, b5, b6⟩ := B1
  have ⟨r0, r1, r2, r3, r4, r5, r6⟩ := R1
  go_wp2_with fail
  refine (null_any _).mono ?_
  rintro e w2 ⟨rfl, hb2⟩
  clear a0 a1 a2 a3 a4 a5 a6 b0 b1 b2 b3 b4 b5 b6 r0 r1 r2 r3 r4 r5 r6
  have A2 := A1.next hb2
  have B2 := B1.next hb2
  have R2 := R1.next hb2
  have ⟨a0, a1, a2, a3, a4, a5, a6⟩ := A2
  have ⟨b0, b1, b2, b3, b4, b5, b6⟩ := B2
  have ⟨r0, r1, r2, r3, r4, r5, r6⟩ := R2
  go_wp2_with fail
  have z1 := hb1.size
  have z2 := hb2.size
  simp at z1
  exact bodyPost_ret (v := .agg #[.int .i64 (1), .int .i64 (0), .string ⟨#[]⟩]) (by simp [results, Try.results83, go_sem, r1, r2, r3]) rfl ⟨rfl, below_set3 ((below3 hb1).trans (hb2.mono (by omega))) (by omega)⟩

set_option maxHeartbeats 400000 in
theorem reckon_y (c k n k' n' : Int) (s s' : ByteArray) (w : World) (h : numB k n = true) (h' : numB k' n' = false) :
    Calls Try.prog 83 #[.int .i32 c, .agg #[.int .i64 k, .int .i64 n, .string s], .agg #[.int .i64 k', .int .i64 n', .string s']] w fun e w' => e = .returned (.agg #[.int .i64 (1), .int .i64 (0), .string ⟨#[]⟩]) ∧ Below w.heap.size w w' := by
  have A0 := ((Box.new w (.int .i64 k) (.int .i64 n) (.string s) 24).alloc (.cells #[.int .i64 k', .int .i64 n', .string s'] 24)).alloc (.cells #[.int .i64 0, .int .i64 0, .string ⟨#[]⟩] 24)
  have B0 := (Box.new (w.alloc (.cells #[.int .i64 k, .int .i64 n, .string s] 24)) (.int .i64 k') (.int .i64 n') (.string s') 24).alloc (.cells #[.int .i64 0, .int .i64 0, .string ⟨#[]⟩] 24)
  have R0 := Box.new ((w.alloc (.cells #[.int .i64 k, .int .i64 n, .string s] 24)).alloc (.cells #[.int .i64 k', .int .i64 n', .string s'] 24)) (.int .i64 0) (.int .i64 0) (.string ⟨#[]⟩) 24
  simp only [World.size_alloc] at B0 R0
  go_enter Try.func83, Try.ntmps83
  go_wp2_with fail
  refine (isNumber_any _ _ _ _).mono ?_
  rintro e w1 ⟨rfl, hb1⟩
  rw [h]
  have A1 := A0.next hb1
  have B1 := B0.next hb1
  have R1 := R0.next hb1
  have ⟨a0, a1, a2, a3, a4, a5, a6⟩ := A1
  have ⟨b0, b1, b2, b3, b4, b5, b6⟩ := B1
  have ⟨r0, r1, r2, r3, r4, r5, r6⟩ := R1
  go_wp2_with fail
  refine (isNumber_any _ _ _ _).mono ?_
  rintro e w2 ⟨rfl, hb2⟩
  rw [h']
  clear a0 a1 a2 a3 a4 a5 a6 b0 b1 b2 b3 b4 b5 b6 r0 r1 r2 r3 r4 r5 r6
  have A2 := A1.next hb2
  have B2 := B1.next hb2
  have R2 := R1.next hb2
  have ⟨a0, a1, a2, a3, a4, a5, a6⟩ := A2
  have ⟨b0, b1, b2, b3, b4, b5, b6⟩ := B2
  have ⟨r0, r1, r2, r3, r4, r5, r6⟩ := R2
  go_wp2_with fail
  refine (null_any _).mono ?_
  rintro e w3 ⟨rfl, hb3⟩
  clear a0 a1 a2 a3 a4 a5 a6 b0 b1 b2 b3 b4 b5 b6 r0 r1 r2 r3 r4 r5 r6
  have A3 := A2.next hb3
  have B3 := B2.next hb3
  have R3 := R2.next hb3
  have ⟨a0, a1, a2, a3, a4, a5, a6⟩ := A3
  have ⟨b0, b1, b2, b3, b4, b5, b6⟩ := B3
  have ⟨r0, r1, r2, r3, r4, r5, r6⟩ := R3
  go_wp2_with fail
  have z1 := hb1.size
  have z2 := hb2.size
  have z3 := hb3.size
  simp at z1
  exact bodyPost_ret (v := .agg #[.int .i64 (1), .int .i64 (0), .string ⟨#[]⟩]) (by simp [results, Try.results83, go_sem, r1, r2, r3]) rfl ⟨rfl, below_set3 (((below3 hb1).trans (hb2.mono (by omega))).trans (hb3.mono (by omega))) (by omega)⟩

set_option maxHeartbeats 400000 in
theorem reckon_add (c k n k' n' : Int) (s s' : ByteArray) (w : World) (h : numB k n = true) (h' : numB k' n' = true) (q0 : -1000000000000000 ≤ n) (q1 : n ≤ 1000000000000000) (p0 : -1000000000000000 ≤ n') (p1 : n' ≤ 1000000000000000) (hc : c = 43) :
    Calls Try.prog 83 #[.int .i32 c, .agg #[.int .i64 k, .int .i64 n, .string s], .agg #[.int .i64 k', .int .i64 n', .string s']] w fun e w' => e = .returned (.agg #[.int .i64 (intK (n + n')), .int .i64 (intN (n + n')), .string ⟨#[]⟩]) ∧ Below w.heap.size w w' := by
  subst hc
  have A0 := ((Box.new w (.int .i64 k) (.int .i64 n) (.string s) 24).alloc (.cells #[.int .i64 k', .int .i64 n', .string s'] 24)).alloc (.cells #[.int .i64 0, .int .i64 0, .string ⟨#[]⟩] 24)
  have B0 := (Box.new (w.alloc (.cells #[.int .i64 k, .int .i64 n, .string s] 24)) (.int .i64 k') (.int .i64 n') (.string s') 24).alloc (.cells #[.int .i64 0, .int .i64 0, .string ⟨#[]⟩] 24)
  have R0 := Box.new ((w.alloc (.cells #[.int .i64 k, .int .i64 n, .string s] 24)).alloc (.cells #[.int .i64 k', .int .i64 n', .string s'] 24)) (.int .i64 0) (.int .i64 0) (.string ⟨#[]⟩) 24
  simp only [World.size_alloc] at B0 R0
  go_enter Try.func83, Try.ntmps83
  go_wp2_with fail
  refine (isNumber_any _ _ _ _).mono ?_
  rintro e w1 ⟨rfl, hb1⟩
  rw [h]
  have A1 := A0.next hb1
  have B1 := B0.next hb1
  have R1 := R0.next hb1
  have ⟨a0, a1, a2, a3, a4, a5, a6⟩ := A1
  have ⟨b0, b1, b2, b3, b4, b5, b6⟩ := B1
  have ⟨r0, r1, r2, r3, r4, r5, r6⟩ := R1
  go_wp2_with fail
  refine (isNumber_any _ _ _ _).mono ?_
  rintro e w2 ⟨rfl, hb2⟩
  rw [h']
  clear a0 a1 a2 a3 a4 a5 a6 b0 b1 b2 b3 b4 b5 b6 r0 r1 r2 r3 r4 r5 r6
  have A2 := A1.next hb2
  have B2 := B1.next hb2
  have R2 := R1.next hb2
  have ⟨a0, a1, a2, a3, a4, a5, a6⟩ := A2
  have ⟨b0, b1, b2, b3, b4, b5, b6⟩ := B2
  have ⟨r0, r1, r2, r3, r4, r5, r6⟩ := R2
  go_wp2_with fail
  refine (int_any _ _).mono ?_
  rintro e w3 ⟨rfl, hb3⟩
  clear a0 a1 a2 a3 a4 a5 a6 b0 b1 b2 b3 b4 b5 b6 r0 r1 r2 r3 r4 r5 r6
  have A3 := A2.next hb3
  have B3 := B2.next hb3
  have R3 := R2.next hb3
  have ⟨a0, a1, a2, a3, a4, a5, a6⟩ := A3
  have ⟨b0, b1, b2, b3, b4, b5, b6⟩ := B3
  have ⟨r0, r1, r2, r3, r4, r5, r6⟩ := R3
  go_wp2_with fail
  have z1 := hb1.size
  have z2 := hb2.size
  have z3 := hb3.size
  simp at z1
  exact bodyPost_ret (v := .agg #[.int .i64 (intK (n + n')), .int .i64 (intN (n + n')), .string ⟨#[]⟩]) (by simp [results, Try.results83, go_sem, r1, r2, r3]) rfl ⟨rfl, below_set3 (((below3 hb1).trans (hb2.mono (by omega))).trans (hb3.mono (by omega))) (by omega)⟩

set_option maxHeartbeats 400000 in
theorem reckon_sub (c k n k' n' : Int) (s s' : ByteArray) (w : World) (h : numB k n = true) (h' : numB k' n' = true) (q0 : -1000000000000000 ≤ n) (q1 : n ≤ 1000000000000000) (p0 : -1000000000000000 ≤ n') (p1 : n' ≤ 1000000000000000) (hc : c = 45) :
    Calls Try.prog 83 #[.int .i32 c, .agg #[.int .i64 k, .int .i64 n, .string s], .agg #[.int .i64 k', .int .i64 n', .string s']] w fun e w' => e = .returned (.agg #[.int .i64 (intK (n - n')), .int .i64 (intN (n - n')), .string ⟨#[]⟩]) ∧ Below w.heap.size w w' := by
  subst hc
  have A0 := ((Box.new w (.int .i64 k) (.int .i64 n) (.string s) 24).alloc (.cells #[.int .i64 k', .int .i64 n', .string s'] 24)).alloc (.cells #[.int .i64 0, .int .i64 0, .string ⟨#[]⟩] 24)
  have B0 := (Box.new (w.alloc (.cells #[.int .i64 k, .int .i64 n, .string s] 24)) (.int .i64 k') (.int .i64 n') (.string s') 24).alloc (.cells #[.int .i64 0, .int .i64 0, .string ⟨#[]⟩] 24)
  have R0 := Box.new ((w.alloc (.cells #[.int .i64 k, .int .i64 n, .string s] 24)).alloc (.cells #[.int .i64 k', .int .i64 n', .string s'] 24)) (.int .i64 0) (.int .i64 0) (.string ⟨#[]⟩) 24
  simp only [World.size_alloc] at B0 R0
  go_enter Try.func83, Try.ntmps83
  go_wp2_with fail
  refine (isNumber_any _ _ _ _).mono ?_
  rintro e w1 ⟨rfl, hb1⟩
  rw [h]
  have A1 := A0.next hb1
  have B1 := B0.next hb1
  have R1 := R0.next hb1
  have ⟨a0, a1, a2, a3, a4, a5, a6⟩ := A1
  have ⟨b0, b1, b2, b3, b4, b5, b6⟩ := B1
  have ⟨r0, r1, r2, r3, r4, r5, r6⟩ := R1
  go_wp2_with fail
  refine (isNumber_any _ _ _ _).mono ?_
  rintro e w2 ⟨rfl, hb2⟩
  rw [h']
  clear a0 a1 a2 a3 a4 a5 a6 b0 b1 b2 b3 b4 b5 b6 r0 r1 r2 r3 r4 r5 r6
  have A2 := A1.next hb2
  have B2 := B1.next hb2
  have R2 := R1.next hb2
  have ⟨a0, a1, a2, a3, a4, a5, a6⟩ := A2
  have ⟨b0, b1, b2, b3, b4, b5, b6⟩ := B2
  have ⟨r0, r1, r2, r3, r4, r5, r6⟩ := R2
  go_wp2_with fail
  refine (int_any _ _).mono ?_
  rintro e w3 ⟨rfl, hb3⟩
  clear a0 a1 a2 a3 a4 a5 a6 b0 b1 b2 b3 b4 b5 b6 r0 r1 r2 r3 r4 r5 r6
  have A3 := A2.next hb3
  have B3 := B2.next hb3
  have R3 := R2.next hb3
  have ⟨a0, a1, a2, a3, a4, a5, a6⟩ := A3
  have ⟨b0, b1, b2, b3, b4, b5, b6⟩ := B3
  have ⟨r0, r1, r2, r3, r4, r5, r6⟩ := R3
  go_wp2_with fail
  have z1 := hb1.size
  have z2 := hb2.size
  have z3 := hb3.size
  simp at z1
  exact bodyPost_ret (v := .agg #[.int .i64 (intK (n - n')), .int .i64 (intN (n - n')), .string ⟨#[]⟩]) (by simp [results, Try.results83, go_sem, r1, r2, r3]) rfl ⟨rfl, below_set3 (((below3 hb1).trans (hb2.mono (by omega))).trans (hb3.mono (by omega))) (by omega)⟩

set_option maxHeartbeats 400000 in
theorem reckon_mul (c k n k' n' : Int) (s s' : ByteArray) (w : World) (h : numB k n = true) (h' : numB k' n' = true) (q0 : -1000000000000000 ≤ n) (q1 : n ≤ 1000000000000000) (p0 : -1000000000000000 ≤ n') (p1 : n' ≤ 1000000000000000) (hc : c = 42) :
    Calls Try.prog 83 #[.int .i32 c, .agg #[.int .i64 k, .int .i64 n, .string s], .agg #[.int .i64 k', .int .i64 n', .string s']] w fun e w' => e = .returned (.agg #[.int .i64 (intK (n * n')), .int .i64 (intN (n * n')), .string ⟨#[]⟩]) ∧ Below w.heap.size w w' := by
  subst hc
  have A0 := ((Box.new w (.int .i64 k) (.int .i64 n) (.string s) 24).alloc (.cells #[.int .i64 k', .int .i64 n', .string s'] 24)).alloc (.cells #[.int .i64 0, .int .i64 0, .string ⟨#[]⟩] 24)
  have B0 := (Box.new (w.alloc (.cells #[.int .i64 k, .int .i64 n, .string s] 24)) (.int .i64 k') (.int .i64 n') (.string s') 24).alloc (.cells #[.int .i64 0, .int .i64 0, .string ⟨#[]⟩] 24)
  have R0 := Box.new ((w.alloc (.cells #[.int .i64 k, .int .i64 n, .string s] 24)).alloc (.cells #[.int .i64 k', .int .i64 n', .string s'] 24)) (.int .i64 0) (.int .i64 0) (.string ⟨#[]⟩) 24
  simp only [World.size_alloc] at B0 R0
  go_enter Try.func83, Try.ntmps83
  go_wp2_with fail
  refine (isNumber_any _ _ _ _).mono ?_
  rintro e w1 ⟨rfl, hb1⟩
  rw [h]
  have A1 := A0.next hb1
  have B1 := B0.next hb1
  have R1 := R0.next hb1
  have ⟨a0, a1, a2, a3, a4, a5, a6⟩ := A1
  have ⟨b0, b1, b2, b3, b4, b5, b6⟩ := B1
  have ⟨r0, r1, r2, r3, r4, r5, r6⟩ := R1
  go_wp2_with fail
  refine (isNumber_any _ _ _ _).mono ?_
  rintro e w2 ⟨rfl, hb2⟩
  rw [h']
  clear a0 a1 a2 a3 a4 a5 a6 b0 b1 b2 b3 b4 b5 b6 r0 r1 r2 r3 r4 r5 r6
  have A2 := A1.next hb2
  have B2 := B1.next hb2
  have R2 := R1.next hb2
  have ⟨a0, a1, a2, a3, a4, a5, a6⟩ := A2
  have ⟨b0, b1, b2, b3, b4, b5, b6⟩ := B2
  have ⟨r0, r1, r2, r3, r4, r5, r6⟩ := R2
  go_wp2_with fail
  refine (product_any _ _ _ q0 q1 p0 p1).mono ?_
  rintro e w3 ⟨rfl, hb3⟩
  clear a0 a1 a2 a3 a4 a5 a6 b0 b1 b2 b3 b4 b5 b6 r0 r1 r2 r3 r4 r5 r6
  have A3 := A2.next hb3
  have B3 := B2.next hb3
  have R3 := R2.next hb3
  have ⟨a0, a1, a2, a3, a4, a5, a6⟩ := A3
  have ⟨b0, b1, b2, b3, b4, b5, b6⟩ := B3
  have ⟨r0, r1, r2, r3, r4, r5, r6⟩ := R3
  go_wp2_with fail
  have z1 := hb1.size
  have z2 := hb2.size
  have z3 := hb3.size
  simp at z1
  exact bodyPost_ret (v := .agg #[.int .i64 (intK (n * n')), .int .i64 (intN (n * n')), .string ⟨#[]⟩]) (by simp [results, Try.results83, go_sem, r1, r2, r3]) rfl ⟨rfl, below_set3 (((below3 hb1).trans (hb2.mono (by omega))).trans (hb3.mono (by omega))) (by omega)⟩

set_option maxHeartbeats 400000 in
theorem reckon_z (c k n k' n' : Int) (s s' : ByteArray) (w : World) (h : numB k n = true) (h' : numB k' n' = true) (c1 : (c == 43) = false) (c2 : (c == 45) = false) (c3 : (c == 42) = false) :
    Calls Try.prog 83 #[.int .i32 c, .agg #[.int .i64 k, .int .i64 n, .string s], .agg #[.int .i64 k', .int .i64 n', .string s']] w fun e w' => e = .returned (.agg #[.int .i64 (1), .int .i64 (0), .string ⟨#[]⟩]) ∧ Below w.heap.size w w' := by
  have A0 := ((Box.new w (.int .i64 k) (.int .i64 n) (.string s) 24).alloc (.cells #[.int .i64 k', .int .i64 n', .string s'] 24)).alloc (.cells #[.int .i64 0, .int .i64 0, .string ⟨#[]⟩] 24)
  have B0 := (Box.new (w.alloc (.cells #[.int .i64 k, .int .i64 n, .string s] 24)) (.int .i64 k') (.int .i64 n') (.string s') 24).alloc (.cells #[.int .i64 0, .int .i64 0, .string ⟨#[]⟩] 24)
  have R0 := Box.new ((w.alloc (.cells #[.int .i64 k, .int .i64 n, .string s] 24)).alloc (.cells #[.int .i64 k', .int .i64 n', .string s'] 24)) (.int .i64 0) (.int .i64 0) (.string ⟨#[]⟩) 24
  simp only [World.size_alloc] at B0 R0
  go_enter Try.func83, Try.ntmps83
  go_wp2_with fail
  refine (isNumber_any _ _ _ _).mono ?_
  rintro e w1 ⟨rfl, hb1⟩
  rw [h]
  have A1 := A0.next hb1
  have B1 := B0.next hb1
  have R1 := R0.next hb1
  have ⟨a0, a1, a2, a3, a4, a5, a6⟩ := A1
  have ⟨b0, b1, b2, b3, b4, b5, b6⟩ := B1
  have ⟨r0, r1, r2, r3, r4, r5, r6⟩ := R1
  go_wp2_with fail
  refine (isNumber_any _ _ _ _).mono ?_
  rintro e w2 ⟨rfl, hb2⟩
  rw [h']
  clear a0 a1 a2 a3 a4 a5 a6 b0 b1 b2 b3 b4 b5 b6 r0 r1 r2 r3 r4 r5 r6
  have A2 := A1.next hb2
  have B2 := B1.next hb2
  have R2 := R1.next hb2
  have ⟨a0, a1, a2, a3, a4, a5, a6⟩ := A2
  have ⟨b0, b1, b2, b3, b4, b5, b6⟩ := B2
  have ⟨r0, r1, r2, r3, r4, r5, r6⟩ := R2
  go_wp2_with fail
  refine (null_any _).mono ?_
  rintro e w3 ⟨rfl, hb3⟩
  clear a0 a1 a2 a3 a4 a5 a6 b0 b1 b2 b3 b4 b5 b6 r0 r1 r2 r3 r4 r5 r6
  have A3 := A2.next hb3
  have B3 := B2.next hb3
  have R3 := R2.next hb3
  have ⟨a0, a1, a2, a3, a4, a5, a6⟩ := A3
  have ⟨b0, b1, b2, b3, b4, b5, b6⟩ := B3
  have ⟨r0, r1, r2, r3, r4, r5, r6⟩ := R3
  go_wp2_with fail
  have z1 := hb1.size
  have z2 := hb2.size
  have z3 := hb3.size
  simp at z1
  exact bodyPost_ret (v := .agg #[.int .i64 (1), .int .i64 (0), .string ⟨#[]⟩]) (by simp [results, Try.results83, go_sem, r1, r2, r3]) rfl ⟨rfl, below_set3 (((below3 hb1).trans (hb2.mono (by omega))).trans (hb3.mono (by omega))) (by omega)⟩

theorem reckon_any (c k n k' n' : Int) (s s' : ByteArray) (w : World) :
    Calls Try.prog 83 #[.int .i32 c, .agg #[.int .i64 k, .int .i64 n, .string s], .agg #[.int .i64 k', .int .i64 n', .string s']] w fun e w' => e = .returned (.agg #[.int .i64 (optK (recO c k n k' n')), .int .i64 (optN (recO c k n k' n')), .string ⟨#[]⟩]) ∧ Below w.heap.size w w' := by
  cases h : numB k n
  · have e : recO c k n k' n' = none := by simp [recO, h]
    rw [e]; exact reckon_x c k n k' n' s s' w h
  cases h' : numB k' n'
  · have e : recO c k n k' n' = none := by simp [recO, h, h']
    rw [e]; exact reckon_y c k n k' n' s s' w h h'
  have e : recO c k n k' n' = recT c n n' := by simp [recO, h, h']
  rw [e]
  have g : inB n = true := by unfold numB at h; simp at h; exact h.2
  have g' : inB n' = true := by unfold numB at h'; simp at h'; exact h'.2
  obtain ⟨q0, q1⟩ := inB_t g
  obtain ⟨p0, p1⟩ := inB_t g'
  by_cases c1 : c = 43
  · have e : recT c n n' = some (n + n') := by simp [recT, c1]
    rw [e]; exact reckon_add c k n k' n' s s' w h h' q0 q1 p0 p1 c1
  by_cases c2 : c = 45
  · have e : recT c n n' = some (n - n') := by simp [recT, c2]
    rw [e]; exact reckon_sub c k n k' n' s s' w h h' q0 q1 p0 p1 c2
  by_cases c3 : c = 42
  · have e : recT c n n' = some (n * n') := by simp [recT, c3]
    rw [e]; exact reckon_mul c k n k' n' s s' w h h' q0 q1 p0 p1 c3
  have e : recT c n n' = none := by simp [recT, c1, c2, c3]
  rw [e]; exact reckon_z c k n k' n' s s' w h h' (by simpa using c1) (by simpa using c2) (by simpa using c3)
end Go.Proofs.Ytbdhmjojamoafaa
