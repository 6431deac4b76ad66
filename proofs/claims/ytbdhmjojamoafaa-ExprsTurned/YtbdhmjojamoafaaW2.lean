/- The walks of vals.And, vals.Or, vals.Not: what each answers, by what its arguments say. -/
import Derived.Test.YtbdhmjojamoafaaW1
namespace Go.Proofs.Ytbdhmjojamoafaa
open Go.RowKit

set_option maxHeartbeats 400000 in
theorem and_f (k n k' n' : Int) (s s' : ByteArray) (w : World) (f1 : (cls k n == some false) = true) :
    Calls Try.prog 69 #[.agg #[.int .i64 k, .int .i64 n, .string s], .agg #[.int .i64 k', .int .i64 n', .string s']] w fun e w' => e = .returned (.agg #[.int .i64 2, .int .i64 0, .string ⟨#[]⟩]) ∧ Below w.heap.size w w' := by
  go_enter Try.func69, Try.ntmps69
  go_wp2_with fail
  have A0 := ((Box.new w (.int .i64 k) (.int .i64 n) (.string s) 24).alloc (.cells #[.int .i64 k', .int .i64 n', .string s'] 24)).alloc (.cells #[.int .i64 0, .int .i64 0, .string ⟨#[]⟩] 24)
  have B0 := (Box.new (w.alloc (.cells #[.int .i64 k, .int .i64 n, .string s] 24)) (.int .i64 k') (.int .i64 n') (.string s') 24).alloc (.cells #[.int .i64 0, .int .i64 0, .string ⟨#[]⟩] 24)
  have R0 := Box.new ((w.alloc (.cells #[.int .i64 k, .int .i64 n, .string s] 24)).alloc (.cells #[.int .i64 k', .int .i64 n', .string s'] 24)) (.int .i64 0) (.int .i64 0) (.string ⟨#[]⟩) 24
  simp only [World.size_alloc] at B0 R0
  refine (isFalse_any _ _ _ _).mono ?_
  rintro e w1 ⟨rfl, hb1⟩
  rw [f1]
  have A1 := A0.next hb1
  have B1 := B0.next hb1
  have R1 := R0.next hb1
  have ⟨a0, a1, a2, a3, a4, a5, a6⟩ := A1
  have ⟨b0, b1, b2, b3, b4, b5, b6⟩ := B1
  have ⟨r0, r1, r2, r3, r4, r5, r6⟩ := R1
  go_wp2_with fail
  refine (bool_false _).mono ?_
  rintro e w2 ⟨rfl, hb2⟩
  clear a0 a1 a2 a3 a4 a5 a6 b0 b1 b2 b3 b4 b5 b6 r0 r1 r2 r3 r4 r5 r6
  have A2 := A1.next hb2
  have B2 := B1.next hb2
  have R2 := R1.next hb2
  have ⟨a0, a1, a2, a3, a4, a5, a6⟩ := A2
  have ⟨b0, b1, b2, b3, b4, b5, b6⟩ := B2
  have ⟨r0, r1, r2, r3, r4, r5, r6⟩ := R2
  go_wp2_with fail
  have z1 := hb1.size
  have z2 := hb2.size
  simp at z1
  exact bodyPost_ret (v := .agg #[.int .i64 2, .int .i64 0, .string ⟨#[]⟩]) (by simp [results, Try.results69, go_sem, r1, r2, r3]) rfl ⟨rfl, below_set3 ((below3 hb1).trans (hb2.mono (by omega))) (by omega)⟩

set_option maxHeartbeats 400000 in
theorem and_xf (k n k' n' : Int) (s s' : ByteArray) (w : World) (f1 : (cls k n == some false) = false) (f2 : (cls k' n' == some false) = true) :
    Calls Try.prog 69 #[.agg #[.int .i64 k, .int .i64 n, .string s], .agg #[.int .i64 k', .int .i64 n', .string s']] w fun e w' => e = .returned (.agg #[.int .i64 2, .int .i64 0, .string ⟨#[]⟩]) ∧ Below w.heap.size w w' := by
  go_enter Try.func69, Try.ntmps69
  go_wp2_with fail
  have A0 := ((Box.new w (.int .i64 k) (.int .i64 n) (.string s) 24).alloc (.cells #[.int .i64 k', .int .i64 n', .string s'] 24)).alloc (.cells #[.int .i64 0, .int .i64 0, .string ⟨#[]⟩] 24)
  have B0 := (Box.new (w.alloc (.cells #[.int .i64 k, .int .i64 n, .string s] 24)) (.int .i64 k') (.int .i64 n') (.string s') 24).alloc (.cells #[.int .i64 0, .int .i64 0, .string ⟨#[]⟩] 24)
  have R0 := Box.new ((w.alloc (.cells #[.int .i64 k, .int .i64 n, .string s] 24)).alloc (.cells #[.int .i64 k', .int .i64 n', .string s'] 24)) (.int .i64 0) (.int .i64 0) (.string ⟨#[]⟩) 24
  simp only [World.size_alloc] at B0 R0
  refine (isFalse_any _ _ _ _).mono ?_
  rintro e w1 ⟨rfl, hb1⟩
  rw [f1]
  have A1 := A0.next hb1
  have B1 := B0.next hb1
  have R1 := R0.next hb1
  have ⟨a0, a1, a2, a3, a4, a5, a6⟩ := A1
  have ⟨b0, b1, b2, b3, b4, b5, b6⟩ := B1
  have ⟨r0, r1, r2, r3, r4, r5, r6⟩ := R1
  go_wp2_with fail
  refine (isFalse_any _ _ _ _).mono ?_
  rintro e w2 ⟨rfl, hb2⟩
  rw [f2]
  clear a0 a1 a2 a3 a4 a5 a6 b0 b1 b2 b3 b4 b5 b6 r0 r1 r2 r3 r4 r5 r6
  have A2 := A1.next hb2
  have B2 := B1.next hb2
  have R2 := R1.next hb2
  have ⟨a0, a1, a2, a3, a4, a5, a6⟩ := A2
  have ⟨b0, b1, b2, b3, b4, b5, b6⟩ := B2
  have ⟨r0, r1, r2, r3, r4, r5, r6⟩ := R2
  go_wp2_with fail
  refine (bool_false _).mono ?_
  rintro e w3 ⟨rfl, hb3⟩
  clear a0 a1 a2 a3 a4 a5 a6 b0 b1 b2 b3 b4 b5 b6 r0 r1 r2 r3 r4 r5 r6
  have A3 := A2.next hb3
  have B3 := B2.next hb3
  have R3 := R2.next hb3
  have ⟨a0, a1, a2, a3, a4, a5, a6⟩ := A3
  have ⟨b0, b1, b2, b3, b4, b5, b6⟩ := B3
  have ⟨r0, r1, r2, r3, r4, r5, r6⟩ := R3
  go_wp2_with fail
  have z1 := hb1.size
  have z2 := hb2.size
  have z3 := hb3.size
  simp at z1
  exact bodyPost_ret (v := .agg #[.int .i64 2, .int .i64 0, .string ⟨#[]⟩]) (by simp [results, Try.results69, go_sem, r1, r2, r3]) rfl ⟨rfl, below_set3 (((below3 hb1).trans (hb2.mono (by omega))).trans (hb3.mono (by omega))) (by omega)⟩

set_option maxHeartbeats 400000 in
theorem and_tt (k n k' n' : Int) (s s' : ByteArray) (w : World) (f1 : (cls k n == some false) = false) (f2 : (cls k' n' == some false) = false) (t1 : (cls k n == some true) = true) (t2 : (cls k' n' == some true) = true) :
    Calls Try.prog 69 #[.agg #[.int .i64 k, .int .i64 n, .string s], .agg #[.int .i64 k', .int .i64 n', .string s']] w fun e w' => e = .returned (.agg #[.int .i64 2, .int .i64 1, .string ⟨#[]⟩]) ∧ Below w.heap.size w w' := by
  go_enter Try.func69, Try.ntmps69
  go_wp2_with fail
  have A0 := ((Box.new w (.int .i64 k) (.int .i64 n) (.string s) 24).alloc (.cells #[.int .i64 k', .int .i64 n', .string s'] 24)).alloc (.cells #[.int .i64 0, .int .i64 0, .string ⟨#[]⟩] 24)
  have B0 := (Box.new (w.alloc (.cells #[.int .i64 k, .int .i64 n, .string s] 24)) (.int .i64 k') (.int .i64 n') (.string s') 24).alloc (.cells #[.int .i64 0, .int .i64 0, .string ⟨#[]⟩] 24)
  have R0 := Box.new ((w.alloc (.cells #[.int .i64 k, .int .i64 n, .string s] 24)).alloc (.cells #[.int .i64 k', .int .i64 n', .string s'] 24)) (.int .i64 0) (.int .i64 0) (.string ⟨#[]⟩) 24
  simp only [World.size_alloc] at B0 R0
  refine (isFalse_any _ _ _ _).mono ?_
  rintro e w1 ⟨rfl, hb1⟩
  rw [f1]
  have A1 := A0.next hb1
  have B1 := B0.next hb1
  have R1 := R0.next hb1
  have ⟨a0, a1, a2, a3, a4, a5, a6⟩ := A1
  have ⟨b0, b1, b2, b3, b4, b5, b6⟩ := B1
  have ⟨r0, r1, r2, r3, r4, r5, r6⟩ := R1
  go_wp2_with fail
  refine (isFalse_any _ _ _ _).mono ?_
  rintro e w2 ⟨rfl, hb2⟩
  rw [f2]
  clear a0 a1 a2 a3 a4 a5 a6 b0 b1 b2 b3 b4 b5 b6 r0 r1 r2 r3 r4 r5 r6
  have A2 := A1.next hb2
  have B2 := B1.next hb2
  have R2 := R1.next hb2
  have ⟨a0, a1, a2, a3, a4, a5, a6⟩ := A2
  have ⟨b0, b1, b2, b3, b4, b5, b6⟩ := B2
  have ⟨r0, r1, r2, r3, r4, r5, r6⟩ := R2
  go_wp2_with fail
  refine (true_any _ _ _ _).mono ?_
  rintro e w3 ⟨rfl, hb3⟩
  rw [t1]
  clear a0 a1 a2 a3 a4 a5 a6 b0 b1 b2 b3 b4 b5 b6 r0 r1 r2 r3 r4 r5 r6
  have A3 := A2.next hb3
  have B3 := B2.next hb3
  have R3 := R2.next hb3
  have ⟨a0, a1, a2, a3, a4, a5, a6⟩ := A3
  have ⟨b0, b1, b2, b3, b4, b5, b6⟩ := B3
  have ⟨r0, r1, r2, r3, r4, r5, r6⟩ := R3
  go_wp2_with fail
  refine (true_any _ _ _ _).mono ?_
  rintro e w4 ⟨rfl, hb4⟩
  rw [t2]
  clear a0 a1 a2 a3 a4 a5 a6 b0 b1 b2 b3 b4 b5 b6 r0 r1 r2 r3 r4 r5 r6
  have A4 := A3.next hb4
  have B4 := B3.next hb4
  have R4 := R3.next hb4
  have ⟨a0, a1, a2, a3, a4, a5, a6⟩ := A4
  have ⟨b0, b1, b2, b3, b4, b5, b6⟩ := B4
  have ⟨r0, r1, r2, r3, r4, r5, r6⟩ := R4
  go_wp2_with fail
  refine (bool_true _).mono ?_
  rintro e w5 ⟨rfl, hb5⟩
  clear a0 a1 a2 a3 a4 a5 a6 b0 b1 b2 b3 b4 b5 b6 r0 r1 r2 r3 r4 r5 r6
  have A5 := A4.next hb5
  have B5 := B4.next hb5
  have R5 := R4.next hb5
  have ⟨a0, a1, a2, a3, a4, a5, a6⟩ := A5
  have ⟨b0, b1, b2, b3, b4, b5, b6⟩ := B5
  have ⟨r0, r1, r2, r3, r4, r5, r6⟩ := R5
  go_wp2_with fail
  have z1 := hb1.size
  have z2 := hb2.size
  have z3 := hb3.size
  have z4 := hb4.size
  have z5 := hb5.size
  simp at z1
  exact bodyPost_ret (v := .agg #[.int .i64 2, .int .i64 1, .string ⟨#[]⟩]) (by simp [results, Try.results69, go_sem, r1, r2, r3]) rfl ⟨rfl, below_set3 (((((below3 hb1).trans (hb2.mono (by omega))).trans (hb3.mono (by omega))).trans (hb4.mono (by omega))).trans (hb5.mono (by omega))) (by omega)⟩

set_option maxHeartbeats 400000 in
theorem and_tx (k n k' n' : Int) (s s' : ByteArray) (w : World) (f1 : (cls k n == some false) = false) (f2 : (cls k' n' == some false) = false) (t1 : (cls k n == some true) = true) (t2 : (cls k' n' == some true) = false) :
    Calls Try.prog 69 #[.agg #[.int .i64 k, .int .i64 n, .string s], .agg #[.int .i64 k', .int .i64 n', .string s']] w fun e w' => e = .returned (.agg #[.int .i64 1, .int .i64 0, .string ⟨#[]⟩]) ∧ Below w.heap.size w w' := by
  go_enter Try.func69, Try.ntmps69
  go_wp2_with fail
  have A0 := ((Box.new w (.int .i64 k) (.int .i64 n) (.string s) 24).alloc (.cells #[.int .i64 k', .int .i64 n', .string s'] 24)).alloc (.cells #[.int .i64 0, .int .i64 0, .string ⟨#[]⟩] 24)
  have B0 := (Box.new (w.alloc (.cells #[.int .i64 k, .int .i64 n, .string s] 24)) (.int .i64 k') (.int .i64 n') (.string s') 24).alloc (.cells #[.int .i64 0, .int .i64 0, .string ⟨#[]⟩] 24)
  have R0 := Box.new ((w.alloc (.cells #[.int .i64 k, .int .i64 n, .string s] 24)).alloc (.cells #[.int .i64 k', .int .i64 n', .string s'] 24)) (.int .i64 0) (.int .i64 0) (.string ⟨#[]⟩) 24
  simp only [World.size_alloc] at B0 R0
  refine (isFalse_any _ _ _ _).mono ?_
  rintro e w1 ⟨rfl, hb1⟩
  rw [f1]
  have A1 := A0.next hb1
  have B1 := B0.next hb1
  have R1 := R0.next hb1
  have ⟨a0, a1, a2, a3, a4, a5, a6⟩ := A1
  have ⟨b0, b1, b2, b3, b4, b5, b6⟩ := B1
  have ⟨r0, r1, r2, r3, r4, r5, r6⟩ := R1
  go_wp2_with fail
  refine (isFalse_any _ _ _ _).mono ?_
  rintro e w2 ⟨rfl, hb2⟩
  rw [f2]
  clear a0 a1 a2 a3 a4 a5 a6 b0 b1 b2 b3 b4 b5 b6 r0 r1 r2 r3 r4 r5 r6
  have A2 := A1.next hb2
  have B2 := B1.next hb2
  have R2 := R1.next hb2
  have ⟨a0, a1, a2, a3, a4, a5, a6⟩ := A2
  have ⟨b0, b1, b2, b3, b4, b5, b6⟩ := B2
  have ⟨r0, r1, r2, r3, r4, r5, r6⟩ := R2
  go_wp2_with fail
  refine (true_any _ _ _ _).mono ?_
  rintro e w3 ⟨rfl, hb3⟩
  rw [t1]
  clear a0 a1 a2 a3 a4 a5 a6 b0 b1 b2 b3 b4 b5 b6 r0 r1 r2 r3 r4 r5 r6
  have A3 := A2.next hb3
  have B3 := B2.next hb3
  have R3 := R2.next hb3
  have ⟨a0, a1, a2, a3, a4, a5, a6⟩ := A3
  have ⟨b0, b1, b2, b3, b4, b5, b6⟩ := B3
  have ⟨r0, r1, r2, r3, r4, r5, r6⟩ := R3
  go_wp2_with fail
  refine (true_any _ _ _ _).mono ?_
  rintro e w4 ⟨rfl, hb4⟩
  rw [t2]
  clear a0 a1 a2 a3 a4 a5 a6 b0 b1 b2 b3 b4 b5 b6 r0 r1 r2 r3 r4 r5 r6
  have A4 := A3.next hb4
  have B4 := B3.next hb4
  have R4 := R3.next hb4
  have ⟨a0, a1, a2, a3, a4, a5, a6⟩ := A4
  have ⟨b0, b1, b2, b3, b4, b5, b6⟩ := B4
  have ⟨r0, r1, r2, r3, r4, r5, r6⟩ := R4
  go_wp2_with fail
  refine (null_any _).mono ?_
  rintro e w5 ⟨rfl, hb5⟩
  clear a0 a1 a2 a3 a4 a5 a6 b0 b1 b2 b3 b4 b5 b6 r0 r1 r2 r3 r4 r5 r6
  have A5 := A4.next hb5
  have B5 := B4.next hb5
  have R5 := R4.next hb5
  have ⟨a0, a1, a2, a3, a4, a5, a6⟩ := A5
  have ⟨b0, b1, b2, b3, b4, b5, b6⟩ := B5
  have ⟨r0, r1, r2, r3, r4, r5, r6⟩ := R5
  go_wp2_with fail
  have z1 := hb1.size
  have z2 := hb2.size
  have z3 := hb3.size
  have z4 := hb4.size
  have z5 := hb5.size
  simp at z1
  exact bodyPost_ret (v := .agg #[.int .i64 1, .int .i64 0, .string ⟨#[]⟩]) (by simp [results, Try.results69, go_sem, r1, r2, r3]) rfl ⟨rfl, below_set3 (((((below3 hb1).trans (hb2.mono (by omega))).trans (hb3.mono (by omega))).trans (hb4.mono (by omega))).trans (hb5.mono (by omega))) (by omega)⟩

set_option maxHeartbeats 400000 in
theorem and_xx (k n k' n' : Int) (s s' : ByteArray) (w : World) (f1 : (cls k n == some false) = false) (f2 : (cls k' n' == some false) = false) (t1 : (cls k n == some true) = false) :
    Calls Try.prog 69 #[.agg #[.int .i64 k, .int .i64 n, .string s], .agg #[.int .i64 k', .int .i64 n', .string s']] w fun e w' => e = .returned (.agg #[.int .i64 1, .int .i64 0, .string ⟨#[]⟩]) ∧ Below w.heap.size w w' := by
  go_enter Try.func69, Try.ntmps69
  go_wp2_with fail
  have A0 := ((Box.new w (.int .i64 k) (.int .i64 n) (.string s) 24).alloc (.cells #[.int .i64 k', .int .i64 n', .string s'] 24)).alloc (.cells #[.int .i64 0, .int .i64 0, .string ⟨#[]⟩] 24)
  have B0 := (Box.new (w.alloc (.cells #[.int .i64 k, .int .i64 n, .string s] 24)) (.int .i64 k') (.int .i64 n') (.string s') 24).alloc (.cells #[.int .i64 0, .int .i64 0, .string ⟨#[]⟩] 24)
  have R0 := Box.new ((w.alloc (.cells #[.int .i64 k, .int .i64 n, .string s] 24)).alloc (.cells #[.int .i64 k', .int .i64 n', .string s'] 24)) (.int .i64 0) (.int .i64 0) (.string ⟨#[]⟩) 24
  simp only [World.size_alloc] at B0 R0
  refine (isFalse_any _ _ _ _).mono ?_
  rintro e w1 ⟨rfl, hb1⟩
  rw [f1]
  have A1 := A0.next hb1
  have B1 := B0.next hb1
  have R1 := R0.next hb1
  have ⟨a0, a1, a2, a3, a4, a5, a6⟩ := A1
  have ⟨b0, b1, b2, b3, b4, b5, b6⟩ := B1
  have ⟨r0, r1, r2, r3, r4, r5, r6⟩ := R1
  go_wp2_with fail
  refine (isFalse_any _ _ _ _).mono ?_
  rintro e w2 ⟨rfl, hb2⟩
  rw [f2]
  clear a0 a1 a2 a3 a4 a5 a6 b0 b1 b2 b3 b4 b5 b6 r0 r1 r2 r3 r4 r5 r6
  have A2 := A1.next hb2
  have B2 := B1.next hb2
  have R2 := R1.next hb2
  have ⟨a0, a1, a2, a3, a4, a5, a6⟩ := A2
  have ⟨b0, b1, b2, b3, b4, b5, b6⟩ := B2
  have ⟨r0, r1, r2, r3, r4, r5, r6⟩ := R2
  go_wp2_with fail
  refine (true_any _ _ _ _).mono ?_
  rintro e w3 ⟨rfl, hb3⟩
  rw [t1]
  clear a0 a1 a2 a3 a4 a5 a6 b0 b1 b2 b3 b4 b5 b6 r0 r1 r2 r3 r4 r5 r6
  have A3 := A2.next hb3
  have B3 := B2.next hb3
  have R3 := R2.next hb3
  have ⟨a0, a1, a2, a3, a4, a5, a6⟩ := A3
  have ⟨b0, b1, b2, b3, b4, b5, b6⟩ := B3
  have ⟨r0, r1, r2, r3, r4, r5, r6⟩ := R3
  go_wp2_with fail
  refine (null_any _).mono ?_
  rintro e w4 ⟨rfl, hb4⟩
  clear a0 a1 a2 a3 a4 a5 a6 b0 b1 b2 b3 b4 b5 b6 r0 r1 r2 r3 r4 r5 r6
  have A4 := A3.next hb4
  have B4 := B3.next hb4
  have R4 := R3.next hb4
  have ⟨a0, a1, a2, a3, a4, a5, a6⟩ := A4
  have ⟨b0, b1, b2, b3, b4, b5, b6⟩ := B4
  have ⟨r0, r1, r2, r3, r4, r5, r6⟩ := R4
  go_wp2_with fail
  have z1 := hb1.size
  have z2 := hb2.size
  have z3 := hb3.size
  have z4 := hb4.size
  simp at z1
  exact bodyPost_ret (v := .agg #[.int .i64 1, .int .i64 0, .string ⟨#[]⟩]) (by simp [results, Try.results69, go_sem, r1, r2, r3]) rfl ⟨rfl, below_set3 ((((below3 hb1).trans (hb2.mono (by omega))).trans (hb3.mono (by omega))).trans (hb4.mono (by omega))) (by omega)⟩

set_option maxHeartbeats 400000 in
theorem or_t (k n k' n' : Int) (s s' : ByteArray) (w : World) (t1 : (cls k n == some true) = true) :
    Calls Try.prog 70 #[.agg #[.int .i64 k, .int .i64 n, .string s], .agg #[.int .i64 k', .int .i64 n', .string s']] w fun e w' => e = .returned (.agg #[.int .i64 2, .int .i64 1, .string ⟨#[]⟩]) ∧ Below w.heap.size w w' := by
  go_enter Try.func70, Try.ntmps70
  go_wp2_with fail
  have A0 := ((Box.new w (.int .i64 k) (.int .i64 n) (.string s) 24).alloc (.cells #[.int .i64 k', .int .i64 n', .string s'] 24)).alloc (.cells #[.int .i64 0, .int .i64 0, .string ⟨#[]⟩] 24)
  have B0 := (Box.new (w.alloc (.cells #[.int .i64 k, .int .i64 n, .string s] 24)) (.int .i64 k') (.int .i64 n') (.string s') 24).alloc (.cells #[.int .i64 0, .int .i64 0, .string ⟨#[]⟩] 24)
  have R0 := Box.new ((w.alloc (.cells #[.int .i64 k, .int .i64 n, .string s] 24)).alloc (.cells #[.int .i64 k', .int .i64 n', .string s'] 24)) (.int .i64 0) (.int .i64 0) (.string ⟨#[]⟩) 24
  simp only [World.size_alloc] at B0 R0
  refine (true_any _ _ _ _).mono ?_
  rintro e w1 ⟨rfl, hb1⟩
  rw [t1]
  have A1 := A0.next hb1
  have B1 := B0.next hb1
  have R1 := R0.next hb1
  have ⟨a0, a1, a2, a3, a4, a5, a6⟩ := A1
  have ⟨b0, b1, b2, b3, b4, b5, b6⟩ := B1
  have ⟨r0, r1, r2, r3, r4, r5, r6⟩ := R1
  go_wp2_with fail
  refine (bool_true _).mono ?_
  rintro e w2 ⟨rfl, hb2⟩
  clear a0 a1 a2 a3 a4 a5 a6 b0 b1 b2 b3 b4 b5 b6 r0 r1 r2 r3 r4 r5 r6
  have A2 := A1.next hb2
  have B2 := B1.next hb2
  have R2 := R1.next hb2
  have ⟨a0, a1, a2, a3, a4, a5, a6⟩ := A2
  have ⟨b0, b1, b2, b3, b4, b5, b6⟩ := B2
  have ⟨r0, r1, r2, r3, r4, r5, r6⟩ := R2
  go_wp2_with fail
  have z1 := hb1.size
  have z2 := hb2.size
  simp at z1
  exact bodyPost_ret (v := .agg #[.int .i64 2, .int .i64 1, .string ⟨#[]⟩]) (by simp [results, Try.results70, go_sem, r1, r2, r3]) rfl ⟨rfl, below_set3 ((below3 hb1).trans (hb2.mono (by omega))) (by omega)⟩

set_option maxHeartbeats 400000 in
theorem or_xt (k n k' n' : Int) (s s' : ByteArray) (w : World) (t1 : (cls k n == some true) = false) (t2 : (cls k' n' == some true) = true) :
    Calls Try.prog 70 #[.agg #[.int .i64 k, .int .i64 n, .string s], .agg #[.int .i64 k', .int .i64 n', .string s']] w fun e w' => e = .returned (.agg #[.int .i64 2, .int .i64 1, .string ⟨#[]⟩]) ∧ Below w.heap.size w w' := by
  go_enter Try.func70, Try.ntmps70
  go_wp2_with fail
  have A0 := ((Box.new w (.int .i64 k) (.int .i64 n) (.string s) 24).alloc (.cells #[.int .i64 k', .int .i64 n', .string s'] 24)).alloc (.cells #[.int .i64 0, .int .i64 0, .string ⟨#[]⟩] 24)
  have B0 := (Box.new (w.alloc (.cells #[.int .i64 k, .int .i64 n, .string s] 24)) (.int .i64 k') (.int .i64 n') (.string s') 24).alloc (.cells #[.int .i64 0, .int .i64 0, .string ⟨#[]⟩] 24)
  have R0 := Box.new ((w.alloc (.cells #[.int .i64 k, .int .i64 n, .string s] 24)).alloc (.cells #[.int .i64 k', .int .i64 n', .string s'] 24)) (.int .i64 0) (.int .i64 0) (.string ⟨#[]⟩) 24
  simp only [World.size_alloc] at B0 R0
  refine (true_any _ _ _ _).mono ?_
  rintro e w1 ⟨rfl, hb1⟩
  rw [t1]
  have A1 := A0.next hb1
  have B1 := B0.next hb1
  have R1 := R0.next hb1
  have ⟨a0, a1, a2, a3, a4, a5, a6⟩ := A1
  have ⟨b0, b1, b2, b3, b4, b5, b6⟩ := B1
  have ⟨r0, r1, r2, r3, r4, r5, r6⟩ := R1
  go_wp2_with fail
  refine (true_any _ _ _ _).mono ?_
  rintro e w2 ⟨rfl, hb2⟩
  rw [t2]
  clear a0 a1 a2 a3 a4 a5 a6 b0 b1 b2 b3 b4 b5 b6 r0 r1 r2 r3 r4 r5 r6
  have A2 := A1.next hb2
  have B2 := B1.next hb2
  have R2 := R1.next hb2
  have ⟨a0, a1, a2, a3, a4, a5, a6⟩ := A2
  have ⟨b0, b1, b2, b3, b4, b5, b6⟩ := B2
  have ⟨r0, r1, r2, r3, r4, r5, r6⟩ := R2
  go_wp2_with fail
  refine (bool_true _).mono ?_
  rintro e w3 ⟨rfl, hb3⟩
  clear a0 a1 a2 a3 a4 a5 a6 b0 b1 b2 b3 b4 b5 b6 r0 r1 r2 r3 r4 r5 r6
  have A3 := A2.next hb3
  have B3 := B2.next hb3
  have R3 := R2.next hb3
  have ⟨a0, a1, a2, a3, a4, a5, a6⟩ := A3
  have ⟨b0, b1, b2, b3, b4, b5, b6⟩ := B3
  have ⟨r0, r1, r2, r3, r4, r5, r6⟩ := R3
  go_wp2_with fail
  have z1 := hb1.size
  have z2 := hb2.size
  have z3 := hb3.size
  simp at z1
  exact bodyPost_ret (v := .agg #[.int .i64 2, .int .i64 1, .string ⟨#[]⟩]) (by simp [results, Try.results70, go_sem, r1, r2, r3]) rfl ⟨rfl, below_set3 (((below3 hb1).trans (hb2.mono (by omega))).trans (hb3.mono (by omega))) (by omega)⟩

set_option maxHeartbeats 400000 in
theorem or_ff (k n k' n' : Int) (s s' : ByteArray) (w : World) (t1 : (cls k n == some true) = false) (t2 : (cls k' n' == some true) = false) (f1 : (cls k n == some false) = true) (f2 : (cls k' n' == some false) = true) :
    Calls Try.prog 70 #[.agg #[.int .i64 k, .int .i64 n, .string s], .agg #[.int .i64 k', .int .i64 n', .string s']] w fun e w' => e = .returned (.agg #[.int .i64 2, .int .i64 0, .string ⟨#[]⟩]) ∧ Below w.heap.size w w' := by
  go_enter Try.func70, Try.ntmps70
  go_wp2_with fail
  have A0 := ((Box.new w (.int .i64 k) (.int .i64 n) (.string s) 24).alloc (.cells #[.int .i64 k', .int .i64 n', .string s'] 24)).alloc (.cells #[.int .i64 0, .int .i64 0, .string ⟨#[]⟩] 24)
  have B0 := (Box.new (w.alloc (.cells #[.int .i64 k, .int .i64 n, .string s] 24)) (.int .i64 k') (.int .i64 n') (.string s') 24).alloc (.cells #[.int .i64 0, .int .i64 0, .string ⟨#[]⟩] 24)
  have R0 := Box.new ((w.alloc (.cells #[.int .i64 k, .int .i64 n, .string s] 24)).alloc (.cells #[.int .i64 k', .int .i64 n', .string s'] 24)) (.int .i64 0) (.int .i64 0) (.string ⟨#[]⟩) 24
  simp only [World.size_alloc] at B0 R0
  refine (true_any _ _ _ _).mono ?_
  rintro e w1 ⟨rfl, hb1⟩
  rw [t1]
  have A1 := A0.next hb1
  have B1 := B0.next hb1
  have R1 := R0.next hb1
  have ⟨a0, a1, a2, a3, a4, a5, a6⟩ := A1
  have ⟨b0, b1, b2, b3, b4, b5, b6⟩ := B1
  have ⟨r0, r1, r2, r3, r4, r5, r6⟩ := R1
  go_wp2_with fail
  refine (true_any _ _ _ _).mono ?_
  rintro e w2 ⟨rfl, hb2⟩
  rw [t2]
  clear a0 a1 a2 a3 a4 a5 a6 b0 b1 b2 b3 b4 b5 b6 r0 r1 r2 r3 r4 r5 r6
  have A2 := A1.next hb2
  have B2 := B1.next hb2
  have R2 := R1.next hb2
  have ⟨a0, a1, a2, a3, a4, a5, a6⟩ := A2
  have ⟨b0, b1, b2, b3, b4, b5, b6⟩ := B2
  have ⟨r0, r1, r2, r3, r4, r5, r6⟩ := R2
  go_wp2_with fail
  refine (isFalse_any _ _ _ _).mono ?_
  rintro e w3 ⟨rfl, hb3⟩
  rw [f1]
  clear a0 a1 a2 a3 a4 a5 a6 b0 b1 b2 b3 b4 b5 b6 r0 r1 r2 r3 r4 r5 r6
  have A3 := A2.next hb3
  have B3 := B2.next hb3
  have R3 := R2.next hb3
  have ⟨a0, a1, a2, a3, a4, a5, a6⟩ := A3
  have ⟨b0, b1, b2, b3, b4, b5, b6⟩ := B3
  have ⟨r0, r1, r2, r3, r4, r5, r6⟩ := R3
  go_wp2_with fail
  refine (isFalse_any _ _ _ _).mono ?_
  rintro e w4 ⟨rfl, hb4⟩
  rw [f2]
  clear a0 a1 a2 a3 a4 a5 a6 b0 b1 b2 b3 b4 b5 b6 r0 r1 r2 r3 r4 r5 r6
  have A4 := A3.next hb4
  have B4 := B3.next hb4
  have R4 := R3.next hb4
  have ⟨a0, a1, a2, a3, a4, a5, a6⟩ := A4
  have ⟨b0, b1, b2, b3, b4, b5, b6⟩ := B4
  have ⟨r0, r1, r2, r3, r4, r5, r6⟩ := R4
  go_wp2_with fail
  refine (bool_false _).mono ?_
  rintro e w5 ⟨rfl, hb5⟩
  clear a0 a1 a2 a3 a4 a5 a6 b0 b1 b2 b3 b4 b5 b6 r0 r1 r2 r3 r4 r5 r6
  have A5 := A4.next hb5
  have B5 := B4.next hb5
  have R5 := R4.next hb5
  have ⟨a0, a1, a2, a3, a4, a5, a6⟩ := A5
  have ⟨b0, b1, b2, b3, b4, b5, b6⟩ := B5
  have ⟨r0, r1, r2, r3, r4, r5, r6⟩ := R5
  go_wp2_with fail
  have z1 := hb1.size
  have z2 := hb2.size
  have z3 := hb3.size
  have z4 := hb4.size
  have z5 := hb5.size
  simp at z1
  exact bodyPost_ret (v := .agg #[.int .i64 2, .int .i64 0, .string ⟨#[]⟩]) (by simp [results, Try.results70, go_sem, r1, r2, r3]) rfl ⟨rfl, below_set3 (((((below3 hb1).trans (hb2.mono (by omega))).trans (hb3.mono (by omega))).trans (hb4.mono (by omega))).trans (hb5.mono (by omega))) (by omega)⟩

set_option maxHeartbeats 400000 in
theorem or_fx (k n k' n' : Int) (s s' : ByteArray) (w : World) (t1 : (cls k n == some true) = false) (t2 : (cls k' n' == some true) = false) (f1 : (cls k n == some false) = true) (f2 : (cls k' n' == some false) = false) :
    Calls Try.prog 70 #[.agg #[.int .i64 k, .int .i64 n, .string s], .agg #[.int .i64 k', .int .i64 n', .string s']] w fun e w' => e = .returned (.agg #[.int .i64 1, .int .i64 0, .string ⟨#[]⟩]) ∧ Below w.heap.size w w' := by
  go_enter Try.func70, Try.ntmps70
  go_wp2_with fail
  have A0 := ((Box.new w (.int .i64 k) (.int .i64 n) (.string s) 24).alloc (.cells #[.int .i64 k', .int .i64 n', .string s'] 24)).alloc (.cells #[.int .i64 0, .int .i64 0, .string ⟨#[]⟩] 24)
  have B0 := (Box.new (w.alloc (.cells #[.int .i64 k, .int .i64 n, .string s] 24)) (.int .i64 k') (.int .i64 n') (.string s') 24).alloc (.cells #[.int .i64 0, .int .i64 0, .string ⟨#[]⟩] 24)
  have R0 := Box.new ((w.alloc (.cells #[.int .i64 k, .int .i64 n, .string s] 24)).alloc (.cells #[.int .i64 k', .int .i64 n', .string s'] 24)) (.int .i64 0) (.int .i64 0) (.string ⟨#[]⟩) 24
  simp only [World.size_alloc] at B0 R0
  refine (true_any _ _ _ _).mono ?_
  rintro e w1 ⟨rfl, hb1⟩
  rw [t1]
  have A1 := A0.next hb1
  have B1 := B0.next hb1
  have R1 := R0.next hb1
  have ⟨a0, a1, a2, a3, a4, a5, a6⟩ := A1
  have ⟨b0, b1, b2, b3, b4, b5, b6⟩ := B1
  have ⟨r0, r1, r2, r3, r4, r5, r6⟩ := R1
  go_wp2_with fail
  refine (true_any _ _ _ _).mono ?_
  rintro e w2 ⟨rfl, hb2⟩
  rw [t2]
  clear a0 a1 a2 a3 a4 a5 a6 b0 b1 b2 b3 b4 b5 b6 r0 r1 r2 r3 r4 r5 r6
  have A2 := A1.next hb2
  have B2 := B1.next hb2
  have R2 := R1.next hb2
  have ⟨a0, a1, a2, a3, a4, a5, a6⟩ := A2
  have ⟨b0, b1, b2, b3, b4, b5, b6⟩ := B2
  have ⟨r0, r1, r2, r3, r4, r5, r6⟩ := R2
  go_wp2_with fail
  refine (isFalse_any _ _ _ _).mono ?_
  rintro e w3 ⟨rfl, hb3⟩
  rw [f1]
  clear a0 a1 a2 a3 a4 a5 a6 b0 b1 b2 b3 b4 b5 b6 r0 r1 r2 r3 r4 r5 r6
  have A3 := A2.next hb3
  have B3 := B2.next hb3
  have R3 := R2.next hb3
  have ⟨a0, a1, a2, a3, a4, a5, a6⟩ := A3
  have ⟨b0, b1, b2, b3, b4, b5, b6⟩ := B3
  have ⟨r0, r1, r2, r3, r4, r5, r6⟩ := R3
  go_wp2_with fail
  refine (isFalse_any _ _ _ _).mono ?_
  rintro e w4 ⟨rfl, hb4⟩
  rw [f2]
  clear a0 a1 a2 a3 a4 a5 a6 b0 b1 b2 b3 b4 b5 b6 r0 r1 r2 r3 r4 r5 r6
  have A4 := A3.next hb4
  have B4 := B3.next hb4
  have R4 := R3.next hb4
  have ⟨a0, a1, a2, a3, a4, a5, a6⟩ := A4
  have ⟨b0, b1, b2, b3, b4, b5, b6⟩ := B4
  have ⟨r0, r1, r2, r3, r4, r5, r6⟩ := R4
  go_wp2_with fail
  refine (null_any _).mono ?_
  rintro e w5 ⟨rfl, hb5⟩
  clear a0 a1 a2 a3 a4 a5 a6 b0 b1 b2 b3 b4 b5 b6 r0 r1 r2 r3 r4 r5 r6
  have A5 := A4.next hb5
  have B5 := B4.next hb5
  have R5 := R4.next hb5
  have ⟨a0, a1, a2, a3, a4, a5, a6⟩ := A5
  have ⟨b0, b1, b2, b3, b4, b5, b6⟩ := B5
  have ⟨r0, r1, r2, r3, r4, r5, r6⟩ := R5
  go_wp2_with fail
  have z1 := hb1.size
  have z2 := hb2.size
  have z3 := hb3.size
  have z4 := hb4.size
  have z5 := hb5.size
  simp at z1
  exact bodyPost_ret (v := .agg #[.int .i64 1, .int .i64 0, .string ⟨#[]⟩]) (by simp [results, Try.results70, go_sem, r1, r2, r3]) rfl ⟨rfl, below_set3 (((((below3 hb1).trans (hb2.mono (by omega))).trans (hb3.mono (by omega))).trans (hb4.mono (by omega))).trans (hb5.mono (by omega))) (by omega)⟩

set_option maxHeartbeats 400000 in
theorem or_xx (k n k' n' : Int) (s s' : ByteArray) (w : World) (t1 : (cls k n == some true) = false) (t2 : (cls k' n' == some true) = false) (f1 : (cls k n == some false) = false) :
    Calls Try.prog 70 #[.agg #[.int .i64 k, .int .i64 n, .string s], .agg #[.int .i64 k', .int .i64 n', .string s']] w fun e w' => e = .returned (.agg #[.int .i64 1, .int .i64 0, .string ⟨#[]⟩]) ∧ Below w.heap.size w w' := by
  go_enter Try.func70, Try.ntmps70
  go_wp2_with fail
  have A0 := ((Box.new w (.int .i64 k) (.int .i64 n) (.string s) 24).alloc (.cells #[.int .i64 k', .int .i64 n', .string s'] 24)).alloc (.cells #[.int .i64 0, .int .i64 0, .string ⟨#[]⟩] 24)
  have B0 := (Box.new (w.alloc (.cells #[.int .i64 k, .int .i64 n, .string s] 24)) (.int .i64 k') (.int .i64 n') (.string s') 24).alloc (.cells #[.int .i64 0, .int .i64 0, .string ⟨#[]⟩] 24)
  have R0 := Box.new ((w.alloc (.cells #[.int .i64 k, .int .i64 n, .string s] 24)).alloc (.cells #[.int .i64 k', .int .i64 n', .string s'] 24)) (.int .i64 0) (.int .i64 0) (.string ⟨#[]⟩) 24
  simp only [World.size_alloc] at B0 R0
  refine (true_any _ _ _ _).mono ?_
  rintro e w1 ⟨rfl, hb1⟩
  rw [t1]
  have A1 := A0.next hb1
  have B1 := B0.next hb1
  have R1 := R0.next hb1
  have ⟨a0, a1, a2, a3, a4, a5, a6⟩ := A1
  have ⟨b0, b1, b2, b3, b4, b5, b6⟩ := B1
  have ⟨r0, r1, r2, r3, r4, r5, r6⟩ := R1
  go_wp2_with fail
  refine (true_any _ _ _ _).mono ?_
  rintro e w2 ⟨rfl, hb2⟩
  rw [t2]
  clear a0 a1 a2 a3 a4 a5 a6 b0 b1 b2 b3 b4 b5 b6 r0 r1 r2 r3 r4 r5 r6
  have A2 := A1.next hb2
  have B2 := B1.next hb2
  have R2 := R1.next hb2
  have ⟨a0, a1, a2, a3, a4, a5, a6⟩ := A2
  have ⟨b0, b1, b2, b3, b4, b5, b6⟩ := B2
  have ⟨r0, r1, r2, r3, r4, r5, r6⟩ := R2
  go_wp2_with fail
  refine (isFalse_any _ _ _ _).mono ?_
  rintro e w3 ⟨rfl, hb3⟩
  rw [f1]
  clear a0 a1 a2 a3 a4 a5 a6 b0 b1 b2 b3 b4 b5 b6 r0 r1 r2 r3 r4 r5 r6
  have A3 := A2.next hb3
  have B3 := B2.next hb3
  have R3 := R2.next hb3
  have ⟨a0, a1, a2, a3, a4, a5, a6⟩ := A3
  have ⟨b0, b1, b2, b3, b4, b5, b6⟩ := B3
  have ⟨r0, r1, r2, r3, r4, r5, r6⟩ := R3
  go_wp2_with fail
  refine (null_any _).mono ?_
  rintro e w4 ⟨rfl, hb4⟩
  clear a0 a1 a2 a3 a4 a5 a6 b0 b1 b2 b3 b4 b5 b6 r0 r1 r2 r3 r4 r5 r6
  have A4 := A3.next hb4
  have B4 := B3.next hb4
  have R4 := R3.next hb4
  have ⟨a0, a1, a2, a3, a4, a5, a6⟩ := A4
  have ⟨b0, b1, b2, b3, b4, b5, b6⟩ := B4
  have ⟨r0, r1, r2, r3, r4, r5, r6⟩ := R4
  go_wp2_with fail
  have z1 := hb1.size
  have z2 := hb2.size
  have z3 := hb3.size
  have z4 := hb4.size
  simp at z1
  exact bodyPost_ret (v := .agg #[.int .i64 1, .int .i64 0, .string ⟨#[]⟩]) (by simp [results, Try.results70, go_sem, r1, r2, r3]) rfl ⟨rfl, below_set3 ((((below3 hb1).trans (hb2.mono (by omega))).trans (hb3.mono (by omega))).trans (hb4.mono (by omega))) (by omega)⟩

set_option maxHeartbeats 400000 in
theorem not_t (k n : Int) (s : ByteArray) (w : World) (t1 : (cls k n == some true) = true) :
    Calls Try.prog 54 #[.agg #[.int .i64 k, .int .i64 n, .string s]] w fun e w' => e = .returned (.agg #[.int .i64 2, .int .i64 0, .string ⟨#[]⟩]) ∧ Below w.heap.size w w' := by
  go_enter Try.func54, Try.ntmps54
  go_wp2_with fail
  have A0 := ((Box.new w (.int .i64 k) (.int .i64 n) (.string s) 24).alloc (.cells #[.int .i64 0, .int .i64 0, .string ⟨#[]⟩] 24))
  have R0 := Box.new (w.alloc (.cells #[.int .i64 k, .int .i64 n, .string s] 24)) (.int .i64 0) (.int .i64 0) (.string ⟨#[]⟩) 24
  simp only [World.size_alloc] at R0
  refine (true_any _ _ _ _).mono ?_
  rintro e w1 ⟨rfl, hb1⟩
  rw [t1]
  have A1 := A0.next hb1
  have R1 := R0.next hb1
  have ⟨a0, a1, a2, a3, a4, a5, a6⟩ := A1
  have ⟨r0, r1, r2, r3, r4, r5, r6⟩ := R1
  go_wp2_with fail
  refine (bool_false _).mono ?_
  rintro e w2 ⟨rfl, hb2⟩
  clear a0 a1 a2 a3 a4 a5 a6 r0 r1 r2 r3 r4 r5 r6
  have A2 := A1.next hb2
  have R2 := R1.next hb2
  have ⟨a0, a1, a2, a3, a4, a5, a6⟩ := A2
  have ⟨r0, r1, r2, r3, r4, r5, r6⟩ := R2
  go_wp2_with fail
  have z1 := hb1.size
  have z2 := hb2.size
  simp at z1
  exact bodyPost_ret (v := .agg #[.int .i64 2, .int .i64 0, .string ⟨#[]⟩]) (by simp [results, Try.results54, go_sem, r1, r2, r3]) rfl ⟨rfl, below_set3 ((below2 hb1).trans (hb2.mono (by omega))) (by omega)⟩

set_option maxHeartbeats 400000 in
theorem not_f (k n : Int) (s : ByteArray) (w : World) (t1 : (cls k n == some true) = false) (f1 : (cls k n == some false) = true) :
    Calls Try.prog 54 #[.agg #[.int .i64 k, .int .i64 n, .string s]] w fun e w' => e = .returned (.agg #[.int .i64 2, .int .i64 1, .string ⟨#[]⟩]) ∧ Below w.heap.size w w' := by
  go_enter Try.func54, Try.ntmps54
  go_wp2_with fail
  have A0 := ((Box.new w (.int .i64 k) (.int .i64 n) (.string s) 24).alloc (.cells #[.int .i64 0, .int .i64 0, .string ⟨#[]⟩] 24))
  have R0 := Box.new (w.alloc (.cells #[.int .i64 k, .int .i64 n, .string s] 24)) (.int .i64 0) (.int .i64 0) (.string ⟨#[]⟩) 24
  simp only [World.size_alloc] at R0
  refine (true_any _ _ _ _).mono ?_
  rintro e w1 ⟨rfl, hb1⟩
  rw [t1]
  have A1 := A0.next hb1
  have R1 := R0.next hb1
  have ⟨a0, a1, a2, a3, a4, a5, a6⟩ := A1
  have ⟨r0, r1, r2, r3, r4, r5, r6⟩ := R1
  go_wp2_with fail
  refine (isFalse_any _ _ _ _).mono ?_
  rintro e w2 ⟨rfl, hb2⟩
  rw [f1]
  clear a0 a1 a2 a3 a4 a5 a6 r0 r1 r2 r3 r4 r5 r6
  have A2 := A1.next hb2
  have R2 := R1.next hb2
  have ⟨a0, a1, a2, a3, a4, a5, a6⟩ := A2
  have ⟨r0, r1, r2, r3, r4, r5, r6⟩ := R2
  go_wp2_with fail
  refine (bool_true _).mono ?_
  rintro e w3 ⟨rfl, hb3⟩
  clear a0 a1 a2 a3 a4 a5 a6 r0 r1 r2 r3 r4 r5 r6
  have A3 := A2.next hb3
  have R3 := R2.next hb3
  have ⟨a0, a1, a2, a3, a4, a5, a6⟩ := A3
  have ⟨r0, r1, r2, r3, r4, r5, r6⟩ := R3
  go_wp2_with fail
  have z1 := hb1.size
  have z2 := hb2.size
  have z3 := hb3.size
  simp at z1
  exact bodyPost_ret (v := .agg #[.int .i64 2, .int .i64 1, .string ⟨#[]⟩]) (by simp [results, Try.results54, go_sem, r1, r2, r3]) rfl ⟨rfl, below_set3 (((below2 hb1).trans (hb2.mono (by omega))).trans (hb3.mono (by omega))) (by omega)⟩

set_option maxHeartbeats 400000 in
theorem not_x (k n : Int) (s : ByteArray) (w : World) (t1 : (cls k n == some true) = false) (f1 : (cls k n == some false) = false) :
    Calls Try.prog 54 #[.agg #[.int .i64 k, .int .i64 n, .string s]] w fun e w' => e = .returned (.agg #[.int .i64 1, .int .i64 0, .string ⟨#[]⟩]) ∧ Below w.heap.size w w' := by
  go_enter Try.func54, Try.ntmps54
  go_wp2_with fail
  have A0 := ((Box.new w (.int .i64 k) (.int .i64 n) (.string s) 24).alloc (.cells #[.int .i64 0, .int .i64 0, .string ⟨#[]⟩] 24))
  have R0 := Box.new (w.alloc (.cells #[.int .i64 k, .int .i64 n, .string s] 24)) (.int .i64 0) (.int .i64 0) (.string ⟨#[]⟩) 24
  simp only [World.size_alloc] at R0
  refine (true_any _ _ _ _).mono ?_
  rintro e w1 ⟨rfl, hb1⟩
  rw [t1]
  have A1 := A0.next hb1
  have R1 := R0.next hb1
  have ⟨a0, a1, a2, a3, a4, a5, a6⟩ := A1
  have ⟨r0, r1, r2, r3, r4, r5, r6⟩ := R1
  go_wp2_with fail
  refine (isFalse_any _ _ _ _).mono ?_
  rintro e w2 ⟨rfl, hb2⟩
  rw [f1]
  clear a0 a1 a2 a3 a4 a5 a6 r0 r1 r2 r3 r4 r5 r6
  have A2 := A1.next hb2
  have R2 := R1.next hb2
  have ⟨a0, a1, a2, a3, a4, a5, a6⟩ := A2
  have ⟨r0, r1, r2, r3, r4, r5, r6⟩ := R2
  go_wp2_with fail
  refine (null_any _).mono ?_
  rintro e w3 ⟨rfl, hb3⟩
  clear a0 a1 a2 a3 a4 a5 a6 r0 r1 r2 r3 r4 r5 r6
  have A3 := A2.next hb3
  have R3 := R2.next hb3
  have ⟨a0, a1, a2, a3, a4, a5, a6⟩ := A3
  have ⟨r0, r1, r2, r3, r4, r5, r6⟩ := R3
  go_wp2_with fail
  have z1 := hb1.size
  have z2 := hb2.size
  have z3 := hb3.size
  simp at z1
  exact bodyPost_ret (v := .agg #[.int .i64 1, .int .i64 0, .string ⟨#[]⟩]) (by simp [results, Try.results54, go_sem, r1, r2, r3]) rfl ⟨rfl, below_set3 (((below2 hb1).trans (hb2.mono (by omega))).trans (hb3.mono (by omega))) (by omega)⟩

theorem and_any (k n k' n' : Int) (s s' : ByteArray) (w : World) :
    Calls Try.prog 69 #[.agg #[.int .i64 k, .int .i64 n, .string s], .agg #[.int .i64 k', .int .i64 n', .string s']] w fun e w' => e = .returned (.agg #[.int .i64 (tk (and3 (cls k n) (cls k' n'))), .int .i64 (tn (and3 (cls k n) (cls k' n'))), .string ⟨#[]⟩]) ∧ Below w.heap.size w w' := by
  rcases h1 : cls k n with _ | _ | _ <;> rcases h2 : cls k' n' with _ | _ | _
  · exact and_xx k n k' n' s s' w (by simp [h1]) (by simp [h2]) (by simp [h1])
  · exact and_xf k n k' n' s s' w (by simp [h1]) (by simp [h2])
  · exact and_xx k n k' n' s s' w (by simp [h1]) (by simp [h2]) (by simp [h1])
  · exact and_f k n k' n' s s' w (by simp [h1])
  · exact and_f k n k' n' s s' w (by simp [h1])
  · exact and_f k n k' n' s s' w (by simp [h1])
  · exact and_tx k n k' n' s s' w (by simp [h1]) (by simp [h2]) (by simp [h1]) (by simp [h2])
  · exact and_xf k n k' n' s s' w (by simp [h1]) (by simp [h2])
  · exact and_tt k n k' n' s s' w (by simp [h1]) (by simp [h2]) (by simp [h1]) (by simp [h2])
theorem or_any (k n k' n' : Int) (s s' : ByteArray) (w : World) :
    Calls Try.prog 70 #[.agg #[.int .i64 k, .int .i64 n, .string s], .agg #[.int .i64 k', .int .i64 n', .string s']] w fun e w' => e = .returned (.agg #[.int .i64 (tk (or3 (cls k n) (cls k' n'))), .int .i64 (tn (or3 (cls k n) (cls k' n'))), .string ⟨#[]⟩]) ∧ Below w.heap.size w w' := by
  rcases h1 : cls k n with _ | _ | _ <;> rcases h2 : cls k' n' with _ | _ | _
  · exact or_xx k n k' n' s s' w (by simp [h1]) (by simp [h2]) (by simp [h1])
  · exact or_xx k n k' n' s s' w (by simp [h1]) (by simp [h2]) (by simp [h1])
  · exact or_xt k n k' n' s s' w (by simp [h1]) (by simp [h2])
  · exact or_fx k n k' n' s s' w (by simp [h1]) (by simp [h2]) (by simp [h1]) (by simp [h2])
  · exact or_ff k n k' n' s s' w (by simp [h1]) (by simp [h2]) (by simp [h1]) (by simp [h2])
  · exact or_xt k n k' n' s s' w (by simp [h1]) (by simp [h2])
  · exact or_t k n k' n' s s' w (by simp [h1])
  · exact or_t k n k' n' s s' w (by simp [h1])
  · exact or_t k n k' n' s s' w (by simp [h1])
theorem not_any (k n : Int) (s : ByteArray) (w : World) :
    Calls Try.prog 54 #[.agg #[.int .i64 k, .int .i64 n, .string s]] w fun e w' => e = .returned (.agg #[.int .i64 (tk (not3 (cls k n))), .int .i64 (tn (not3 (cls k n))), .string ⟨#[]⟩]) ∧ Below w.heap.size w w' := by
  rcases h1 : cls k n with _ | _ | _
  · exact not_x k n s w (by simp [h1]) (by simp [h1])
  · exact not_f k n s w (by simp [h1]) (by simp [h1])
  · exact not_t k n s w (by simp [h1])
end Go.Proofs.Ytbdhmjojamoafaa
