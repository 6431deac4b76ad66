/- The walks of the document's answer, of right values: Equal, Less, And, Or, Not, Join; and of vals.Join. -/
import Derived.Test.YtbdhmjojamoafaaW11
namespace Go.Proofs.Ytbdhmjojamoafaa
open Go.RowKit
theorem cmpI_m1 (a b : Int) : (cmpI a b == -1) = decide (cmpI a b < 0) := by
  unfold cmpI; split
  · rfl
  · split <;> rfl
theorem cmpS_m1 (a b : ByteArray) : (cmpS a b == -1) = decide (cmpS a b < 0) := by
  unfold cmpS; split
  · rfl
  · split <;> rfl
theorem cmpV_m1 (k n k' n' : Int) (s s' : ByteArray) : (cmpV k n s k' n' s' == -1) = decide (cmpV k n s k' n' s' < 0) := by
  unfold cmpV
  split
  · exact cmpI_m1 _ _
  · split
    · exact cmpI_m1 _ _
    · split
      · exact cmpS_m1 _ _
      · rfl

set_option maxHeartbeats 400000 in
theorem refAnd_f (k n k' n' : Int) (s s' : ByteArray) (w : World) (q : Tru k n) (f1 : (cls k n == some false) = true) :
    Calls Try.prog 43 #[.agg #[.int .i64 k, .int .i64 n, .string s], .agg #[.int .i64 k', .int .i64 n', .string s']] w fun e w' => e = .returned (.agg #[.int .i64 2, .int .i64 0, .string ⟨#[]⟩]) ∧ Below w.heap.size w w' := by
  have A0 := ((Box.new w (.int .i64 k) (.int .i64 n) (.string s) 24).alloc (.cells #[.int .i64 k', .int .i64 n', .string s'] 24)).alloc (.cells #[.int .i64 0, .int .i64 0, .string ⟨#[]⟩] 24)
  have B0 := (Box.new (w.alloc (.cells #[.int .i64 k, .int .i64 n, .string s] 24)) (.int .i64 k') (.int .i64 n') (.string s') 24).alloc (.cells #[.int .i64 0, .int .i64 0, .string ⟨#[]⟩] 24)
  have R0 := Box.new ((w.alloc (.cells #[.int .i64 k, .int .i64 n, .string s] 24)).alloc (.cells #[.int .i64 k', .int .i64 n', .string s'] 24)) (.int .i64 0) (.int .i64 0) (.string ⟨#[]⟩) 24
  simp only [World.size_alloc] at B0 R0
  go_enter Try.func43, Try.ntmps43
  go_wp2_with fail
  refine (refIs_any _ _ _ _ _ q).mono ?_
  rintro e w1 ⟨rfl, hb1⟩
  rw [f1]
  have A1 := A0.next hb1
  have B1 := B0.next hb1
  have R1 := R0.next hb1
  have ⟨a0, a1, a2, a3, a4, a5, a6⟩ := A1
  have ⟨b0, b1, b2, b3, b4, b5, b6⟩ := B1
  have ⟨r0, r1, r2, r3, r4, r5, r6⟩ := R1
  go_wp2_with fail
  refine (refTruth_false _).mono ?_
  rintro e w2 ⟨rfl, hb2⟩
  clear a0 a1 a2 a3 a4 a5 a6 b0 b1 b2 b3 b4 b5 b6 r0 r1 r2 r3 r4 r5 r6
  have A2 := A1.next hb2
  have B2 := B1.next hb2
  have R2 := R1.next hb2
  have ⟨a0, a1, a2, a3, a4, a5, a6⟩ := A2
  have ⟨b0, b1, b2, b3, b4, b5, b6⟩ := B2
  have ⟨r0, r1, r2, r3, r4, r5, r6⟩ := R2
  go_wp2_with fail
  have z1 := hb1.size
  have z2 := hb2.size
  simp at z1
  exact bodyPost_ret (v := .agg #[.int .i64 2, .int .i64 0, .string ⟨#[]⟩]) (by simp [results, Try.results43, go_sem, r1, r2, r3]) rfl ⟨rfl, below_set3 ((below3 hb1).trans (hb2.mono (by omega))) (by omega)⟩

set_option maxHeartbeats 400000 in
theorem refAnd_xf (k n k' n' : Int) (s s' : ByteArray) (w : World) (q : Tru k n) (q' : Tru k' n') (f1 : (cls k n == some false) = false) (f2 : (cls k' n' == some false) = true) :
    Calls Try.prog 43 #[.agg #[.int .i64 k, .int .i64 n, .string s], .agg #[.int .i64 k', .int .i64 n', .string s']] w fun e w' => e = .returned (.agg #[.int .i64 2, .int .i64 0, .string ⟨#[]⟩]) ∧ Below w.heap.size w w' := by
  have A0 := ((Box.new w (.int .i64 k) (.int .i64 n) (.string s) 24).alloc (.cells #[.int .i64 k', .int .i64 n', .string s'] 24)).alloc (.cells #[.int .i64 0, .int .i64 0, .string ⟨#[]⟩] 24)
  have B0 := (Box.new (w.alloc (.cells #[.int .i64 k, .int .i64 n, .string s] 24)) (.int .i64 k') (.int .i64 n') (.string s') 24).alloc (.cells #[.int .i64 0, .int .i64 0, .string ⟨#[]⟩] 24)
  have R0 := Box.new ((w.alloc (.cells #[.int .i64 k, .int .i64 n, .string s] 24)).alloc (.cells #[.int .i64 k', .int .i64 n', .string s'] 24)) (.int .i64 0) (.int .i64 0) (.string ⟨#[]⟩) 24
  simp only [World.size_alloc] at B0 R0
  go_enter Try.func43, Try.ntmps43
  go_wp2_with fail
  refine (refIs_any _ _ _ _ _ q).mono ?_
  rintro e w1 ⟨rfl, hb1⟩
  rw [f1]
  have A1 := A0.next hb1
  have B1 := B0.next hb1
  have R1 := R0.next hb1
  have ⟨a0, a1, a2, a3, a4, a5, a6⟩ := A1
  have ⟨b0, b1, b2, b3, b4, b5, b6⟩ := B1
  have ⟨r0, r1, r2, r3, r4, r5, r6⟩ := R1
  go_wp2_with fail
  refine (refIs_any _ _ _ _ _ q').mono ?_
  rintro e w2 ⟨rfl, hb2⟩
  rw [f2]
  clear a0 a1 a2 a3 a4 a5 a6 b0 b1 b2 b3 b4 b5 b6 r0 r1 r2 r3 r4 r5 r6
  have A2 := A1.next hb2
  have B2 := B1.next hb2
  have R2 := R1.next hb2
  have ⟨a0, a1, a2, a3, a4, a5, a6⟩ := A2
  have ⟨b0, b1, b2, b3, b4, b5, b6⟩ := B2
  have ⟨r0, r1, r2, r3, r4, r5, r6⟩ := R2
  go_wp2_with fail
  refine (refTruth_false _).mono ?_
  rintro e w3 ⟨rfl, hb3⟩
  clear a0 a1 a2 a3 a4 a5 a6 b0 b1 b2 b3 b4 b5 b6 r0 r1 r2 r3 r4 r5 r6
  have A3 := A2.next hb3
  have B3 := B2.next hb3
  have R3 := R2.next hb3
  have ⟨a0, a1, a2, a3, a4, a5, a6⟩ := A3
  have ⟨b0, b1, b2, b3, b4, b5, b6⟩ := B3
  have ⟨r0, r1, r2, r3, r4, r5, r6⟩ := R3
  go_wp2_with fail
  have z1 := hb1.size
  have z2 := hb2.size
  have z3 := hb3.size
  simp at z1
  exact bodyPost_ret (v := .agg #[.int .i64 2, .int .i64 0, .string ⟨#[]⟩]) (by simp [results, Try.results43, go_sem, r1, r2, r3]) rfl ⟨rfl, below_set3 (((below3 hb1).trans (hb2.mono (by omega))).trans (hb3.mono (by omega))) (by omega)⟩

set_option maxHeartbeats 400000 in
theorem refAnd_tt (k n k' n' : Int) (s s' : ByteArray) (w : World) (q : Tru k n) (q' : Tru k' n') (f1 : (cls k n == some false) = false) (f2 : (cls k' n' == some false) = false) (t1 : (cls k n == some true) = true) (t2 : (cls k' n' == some true) = true) :
    Calls Try.prog 43 #[.agg #[.int .i64 k, .int .i64 n, .string s], .agg #[.int .i64 k', .int .i64 n', .string s']] w fun e w' => e = .returned (.agg #[.int .i64 2, .int .i64 1, .string ⟨#[]⟩]) ∧ Below w.heap.size w w' := by
  have A0 := ((Box.new w (.int .i64 k) (.int .i64 n) (.string s) 24).alloc (.cells #[.int .i64 k', .int .i64 n', .string s'] 24)).alloc (.cells #[.int .i64 0, .int .i64 0, .string ⟨#[]⟩] 24)
  have B0 := (Box.new (w.alloc (.cells #[.int .i64 k, .int .i64 n, .string s] 24)) (.int .i64 k') (.int .i64 n') (.string s') 24).alloc (.cells #[.int .i64 0, .int .i64 0, .string ⟨#[]⟩] 24)
  have R0 := Box.new ((w.alloc (.cells #[.int .i64 k, .int .i64 n, .string s] 24)).alloc (.cells #[.int .i64 k', .int .i64 n', .string s'] 24)) (.int .i64 0) (.int .i64 0) (.string ⟨#[]⟩) 24
  simp only [World.size_alloc] at B0 R0
  go_enter Try.func43, Try.ntmps43
  go_wp2_with fail
  refine (refIs_any _ _ _ _ _ q).mono ?_
  rintro e w1 ⟨rfl, hb1⟩
  rw [f1]
  have A1 := A0.next hb1
  have B1 := B0.next hb1
  have R1 := R0.next hb1
  have ⟨a0, a1, a2, a3, a4, a5, a6⟩ := A1
  have ⟨b0, b1, b2, b3, b4, b5, b6⟩ := B1
  have ⟨r0, r1, r2, r3, r4, r5, r6⟩ := R1
  go_wp2_with fail
  refine (refIs_any _ _ _ _ _ q').mono ?_
  rintro e w2 ⟨rfl, hb2⟩
  rw [f2]
  clear a0 a1 a2 a3 a4 a5 a6 b0 b1 b2 b3 b4 b5 b6 r0 r1 r2 r3 r4 r5 r6
  have A2 := A1.next hb2
  have B2 := B1.next hb2
  have R2 := R1.next hb2
  have ⟨a0, a1, a2, a3, a4, a5, a6⟩ := A2
  have ⟨b0, b1, b2, b3, b4, b5, b6⟩ := B2
  have ⟨r0, r1, r2, r3, r4, r5, r6⟩ := R2
  go_wp2_with fail
  refine (refIs_any _ _ _ _ _ q).mono ?_
  rintro e w3 ⟨rfl, hb3⟩
  rw [t1]
  clear a0 a1 a2 a3 a4 a5 a6 b0 b1 b2 b3 b4 b5 b6 r0 r1 r2 r3 r4 r5 r6
  have A3 := A2.next hb3
  have B3 := B2.next hb3
  have R3 := R2.next hb3
  have ⟨a0, a1, a2, a3, a4, a5, a6⟩ := A3
  have ⟨b0, b1, b2, b3, b4, b5, b6⟩ := B3
  have ⟨r0, r1, r2, r3, r4, r5, r6⟩ := R3
  go_wp2_with fail
  refine (refIs_any _ _ _ _ _ q').mono ?_
  rintro e w4 ⟨rfl, hb4⟩
  rw [t2]
  clear a0 a1 a2 a3 a4 a5 a6 b0 b1 b2 b3 b4 b5 b6 r0 r1 r2 r3 r4 r5 r6
  have A4 := A3.next hb4
  have B4 := B3.next hb4
  have R4 := R3.next hb4
  have ⟨a0, a1, a2, a3, a4, a5, a6⟩ := A4
  have ⟨b0, b1, b2, b3, b4, b5, b6⟩ := B4
  have ⟨r0, r1, r2, r3, r4, r5, r6⟩ := R4
  go_wp2_with fail
  refine (refTruth_true _).mono ?_
  rintro e w5 ⟨rfl, hb5⟩
  clear a0 a1 a2 a3 a4 a5 a6 b0 b1 b2 b3 b4 b5 b6 r0 r1 r2 r3 r4 r5 r6
  have A5 := A4.next hb5
  have B5 := B4.next hb5
  have R5 := R4.next hb5
  have ⟨a0, a1, a2, a3, a4, a5, a6⟩ := A5
  have ⟨b0, b1, b2, b3, b4, b5, b6⟩ := B5
  have ⟨r0, r1, r2, r3, r4, r5, r6⟩ := R5
  go_wp2_with fail
  have z1 := hb1.size
  have z2 := hb2.size
  have z3 := hb3.size
  have z4 := hb4.size
  have z5 := hb5.size
  simp at z1
  exact bodyPost_ret (v := .agg #[.int .i64 2, .int .i64 1, .string ⟨#[]⟩]) (by simp [results, Try.results43, go_sem, r1, r2, r3]) rfl ⟨rfl, below_set3 (((((below3 hb1).trans (hb2.mono (by omega))).trans (hb3.mono (by omega))).trans (hb4.mono (by omega))).trans (hb5.mono (by omega))) (by omega)⟩

set_option maxHeartbeats 400000 in
theorem refAnd_tx (k n k' n' : Int) (s s' : ByteArray) (w : World) (q : Tru k n) (q' : Tru k' n') (f1 : (cls k n == some false) = false) (f2 : (cls k' n' == some false) = false) (t1 : (cls k n == some true) = true) (t2 : (cls k' n' == some true) = false) :
    Calls Try.prog 43 #[.agg #[.int .i64 k, .int .i64 n, .string s], .agg #[.int .i64 k', .int .i64 n', .string s']] w fun e w' => e = .returned (.agg #[.int .i64 1, .int .i64 0, .string ⟨#[]⟩]) ∧ Below w.heap.size w w' := by
  have A0 := ((Box.new w (.int .i64 k) (.int .i64 n) (.string s) 24).alloc (.cells #[.int .i64 k', .int .i64 n', .string s'] 24)).alloc (.cells #[.int .i64 0, .int .i64 0, .string ⟨#[]⟩] 24)
  have B0 := (Box.new (w.alloc (.cells #[.int .i64 k, .int .i64 n, .string s] 24)) (.int .i64 k') (.int .i64 n') (.string s') 24).alloc (.cells #[.int .i64 0, .int .i64 0, .string ⟨#[]⟩] 24)
  have R0 := Box.new ((w.alloc (.cells #[.int .i64 k, .int .i64 n, .string s] 24)).alloc (.cells #[.int .i64 k', .int .i64 n', .string s'] 24)) (.int .i64 0) (.int .i64 0) (.string ⟨#[]⟩) 24
  simp only [World.size_alloc] at B0 R0
  go_enter Try.func43, Try.ntmps43
  go_wp2_with fail
  refine (refIs_any _ _ _ _ _ q).mono ?_
  rintro e w1 ⟨rfl, hb1⟩
  rw [f1]
  have A1 := A0.next hb1
  have B1 := B0.next hb1
  have R1 := R0.next hb1
  have ⟨a0, a1, a2, a3, a4, a5, a6⟩ := A1
  have ⟨b0, b1, b2, b3, b4, b5, b6⟩ := B1
  have ⟨r0, r1, r2, r3, r4, r5, r6⟩ := R1
  go_wp2_with fail
  refine (refIs_any _ _ _ _ _ q').mono ?_
  rintro e w2 ⟨rfl, hb2⟩
  rw [f2]
  clear a0 a1 a2 a3 a4 a5 a6 b0 b1 b2 b3 b4 b5 b6 r0 r1 r2 r3 r4 r5 r6
  have A2 := A1.next hb2
  have B2 := B1.next hb2
  have R2 := R1.next hb2
  have ⟨a0, a1, a2, a3, a4, a5, a6⟩ := A2
  have ⟨b0, b1, b2, b3, b4, b5, b6⟩ := B2
  have ⟨r0, r1, r2, r3, r4, r5, r6⟩ := R2
  go_wp2_with fail
  refine (refIs_any _ _ _ _ _ q).mono ?_
  rintro e w3 ⟨rfl, hb3⟩
  rw [t1]
  clear a0 a1 a2 a3 a4 a5 a6 b0 b1 b2 b3 b4 b5 b6 r0 r1 r2 r3 r4 r5 r6
  have A3 := A2.next hb3
  have B3 := B2.next hb3
  have R3 := R2.next hb3
  have ⟨a0, a1, a2, a3, a4, a5, a6⟩ := A3
  have ⟨b0, b1, b2, b3, b4, b5, b6⟩ := B3
  have ⟨r0, r1, r2, r3, r4, r5, r6⟩ := R3
  go_wp2_with fail
  refine (refIs_any _ _ _ _ _ q').mono ?_
  rintro e w4 ⟨rfl, hb4⟩
  rw [t2]
  clear a0 a1 a2 a3 a4 a5 a6 b0 b1 b2 b3 b4 b5 b6 r0 r1 r2 r3 r4 r5 r6
  have A4 := A3.next hb4
  have B4 := B3.next hb4
  have R4 := R3.next hb4
  have ⟨a0, a1, a2, a3, a4, a5, a6⟩ := A4
  have ⟨b0, b1, b2, b3, b4, b5, b6⟩ := B4
  have ⟨r0, r1, r2, r3, r4, r5, r6⟩ := R4
  go_wp2_with fail
  refine (refNull_any _).mono ?_
  rintro e w5 ⟨rfl, hb5⟩
  clear a0 a1 a2 a3 a4 a5 a6 b0 b1 b2 b3 b4 b5 b6 r0 r1 r2 r3 r4 r5 r6
  have A5 := A4.next hb5
  have B5 := B4.next hb5
  have R5 := R4.next hb5
  have ⟨a0, a1, a2, a3, a4, a5, a6⟩ := A5
  have ⟨b0, b1, b2, b3, b4, b5, b6⟩ := B5
  have ⟨r0, r1, r2, r3, r4, r5, r6⟩ := R5
  go_wp2_with fail
  have z1 := hb1.size
  have z2 := hb2.size
  have z3 := hb3.size
  have z4 := hb4.size
  have z5 := hb5.size
  simp at z1
  exact bodyPost_ret (v := .agg #[.int .i64 1, .int .i64 0, .string ⟨#[]⟩]) (by simp [results, Try.results43, go_sem, r1, r2, r3]) rfl ⟨rfl, below_set3 (((((below3 hb1).trans (hb2.mono (by omega))).trans (hb3.mono (by omega))).trans (hb4.mono (by omega))).trans (hb5.mono (by omega))) (by omega)⟩

set_option maxHeartbeats 400000 in
theorem refAnd_xx (k n k' n' : Int) (s s' : ByteArray) (w : World) (q : Tru k n) (q' : Tru k' n') (f1 : (cls k n == some false) = false) (f2 : (cls k' n' == some false) = false) (t1 : (cls k n == some true) = false) :
    Calls Try.prog 43 #[.agg #[.int .i64 k, .int .i64 n, .string s], .agg #[.int .i64 k', .int .i64 n', .string s']] w fun e w' => e = .returned (.agg #[.int .i64 1, .int .i64 0, .string ⟨#[]⟩]) ∧ Below w.heap.size w w' := by
  have A0 := ((Box.new w (.int .i64 k) (.int .i64 n) (.string s) 24).alloc (.cells #[.int .i64 k', .int .i64 n', .string s'] 24)).alloc (.cells #[.int .i64 0, .int .i64 0, .string ⟨#[]⟩] 24)
  have B0 := (Box.new (w.alloc (.cells #[.int .i64 k, .int .i64 n, .string s] 24)) (.int .i64 k') (.int .i64 n') (.string s') 24).alloc (.cells #[.int .i64 0, .int .i64 0, .string ⟨#[]⟩] 24)
  have R0 := Box.new ((w.alloc (.cells #[.int .i64 k, .int .i64 n, .string s] 24)).alloc (.cells #[.int .i64 k', .int .i64 n', .string s'] 24)) (.int .i64 0) (.int .i64 0) (.string ⟨#[]⟩) 24
  simp only [World.size_alloc] at B0 R0
  go_enter Try.func43, Try.ntmps43
  go_wp2_with fail
  refine (refIs_any _ _ _ _ _ q).mono ?_
  rintro e w1 ⟨rfl, hb1⟩
  rw [f1]
  have A1 := A0.next hb1
  have B1 := B0.next hb1
  have R1 := R0.next hb1
  have ⟨a0, a1, a2, a3, a4, a5, a6⟩ := A1
  have ⟨b0, b1, b2, b3, b4, b5, b6⟩ := B1
  have ⟨r0, r1, r2, r3, r4, r5, r6⟩ := R1
  go_wp2_with fail
  refine (refIs_any _ _ _ _ _ q').mono ?_
  rintro e w2 ⟨rfl, hb2⟩
  rw [f2]
  clear a0 a1 a2 a3 a4 a5 a6 b0 b1 b2 b3 b4 b5 b6 r0 r1 r2 r3 r4 r5 r6
  have A2 := A1.next hb2
  have B2 := B1.next hb2
  have R2 := R1.next hb2
  have ⟨a0, a1, a2, a3, a4, a5, a6⟩ := A2
  have ⟨b0, b1, b2, b3, b4, b5, b6⟩ := B2
  have ⟨r0, r1, r2, r3, r4, r5, r6⟩ := R2
  go_wp2_with fail
  refine (refIs_any _ _ _ _ _ q).mono ?_
  rintro e w3 ⟨rfl, hb3⟩
  rw [t1]
  clear a0 a1 a2 a3 a4 a5 a6 b0 b1 b2 b3 b4 b5 b6 r0 r1 r2 r3 r4 r5 r6
  have A3 := A2.next hb3
  have B3 := B2.next hb3
  have R3 := R2.next hb3
  have ⟨a0, a1, a2, a3, a4, a5, a6⟩ := A3
  have ⟨b0, b1, b2, b3, b4, b5, b6⟩ := B3
  have ⟨r0, r1, r2, r3, r4, r5, r6⟩ := R3
  go_wp2_with fail
  refine (refNull_any _).mono ?_
  rintro e w4 ⟨rfl, hb4⟩
  clear a0 a1 a2 a3 a4 a5 a6 b0 b1 b2 b3 b4 b5 b6 r0 r1 r2 r3 r4 r5 r6
  have A4 := A3.next hb4
  have B4 := B3.next hb4
  have R4 := R3.next hb4
  have ⟨a0, a1, a2, a3, a4, a5, a6⟩ := A4
  have ⟨b0, b1, b2, b3, b4, b5, b6⟩ := B4
  have ⟨r0, r1, r2, r3, r4, r5, r6⟩ := R4
  go_wp2_with fail
  have z1 := hb1.size
  have z2 := hb2.size
  have z3 := hb3.size
  have z4 := hb4.size
  simp at z1
  exact bodyPost_ret (v := .agg #[.int .i64 1, .int .i64 0, .string ⟨#[]⟩]) (by simp [results, Try.results43, go_sem, r1, r2, r3]) rfl ⟨rfl, below_set3 ((((below3 hb1).trans (hb2.mono (by omega))).trans (hb3.mono (by omega))).trans (hb4.mono (by omega))) (by omega)⟩

set_option maxHeartbeats 400000 in
theorem refOr_t (k n k' n' : Int) (s s' : ByteArray) (w : World) (q : Tru k n) (t1 : (cls k n == some true) = true) :
    Calls Try.prog 44 #[.agg #[.int .i64 k, .int .i64 n, .string s], .agg #[.int .i64 k', .int .i64 n', .string s']] w fun e w' => e = .returned (.agg #[.int .i64 2, .int .i64 1, .string ⟨#[]⟩]) ∧ Below w.heap.size w w' := by
  have A0 := ((Box.new w (.int .i64 k) (.int .i64 n) (.string s) 24).alloc (.cells #[.int .i64 k', .int .i64 n', .string s'] 24)).alloc (.cells #[.int .i64 0, .int .i64 0, .string ⟨#[]⟩] 24)
  have B0 := (Box.new (w.alloc (.cells #[.int .i64 k, .int .i64 n, .string s] 24)) (.int .i64 k') (.int .i64 n') (.string s') 24).alloc (.cells #[.int .i64 0, .int .i64 0, .string ⟨#[]⟩] 24)
  have R0 := Box.new ((w.alloc (.cells #[.int .i64 k, .int .i64 n, .string s] 24)).alloc (.cells #[.int .i64 k', .int .i64 n', .string s'] 24)) (.int .i64 0) (.int .i64 0) (.string ⟨#[]⟩) 24
  simp only [World.size_alloc] at B0 R0
  go_enter Try.func44, Try.ntmps44
  go_wp2_with fail
  refine (refIs_any _ _ _ _ _ q).mono ?_
  rintro e w1 ⟨rfl, hb1⟩
  rw [t1]
  have A1 := A0.next hb1
  have B1 := B0.next hb1
  have R1 := R0.next hb1
  have ⟨a0, a1, a2, a3, a4, a5, a6⟩ := A1
  have ⟨b0, b1, b2, b3, b4, b5, b6⟩ := B1
  have ⟨r0, r1, r2, r3, r4, r5, r6⟩ := R1
  go_wp2_with fail
  refine (refTruth_true _).mono ?_
  rintro e w2 ⟨rfl, hb2⟩
  clear a0 a1 a2 a3 a4 a5 a6 b0 b1 b2 b3 b4 b5 b6 r0 r1 r2 r3 r4 r5 r6
  have A2 := A1.next hb2
  have B2 := B1.next hb2
  have R2 := R1.next hb2
  have ⟨a0, a1, a2, a3, a4, a5, a6⟩ := A2
  have ⟨b0, b1, b2, b3, b4, b5, b6⟩ := B2
  have ⟨r0, r1, r2, r3, r4, r5, r6⟩ := R2
  go_wp2_with fail
  have z1 := hb1.size
  have z2 := hb2.size
  simp at z1
  exact bodyPost_ret (v := .agg #[.int .i64 2, .int .i64 1, .string ⟨#[]⟩]) (by simp [results, Try.results44, go_sem, r1, r2, r3]) rfl ⟨rfl, below_set3 ((below3 hb1).trans (hb2.mono (by omega))) (by omega)⟩

set_option maxHeartbeats 400000 in
theorem refOr_xt (k n k' n' : Int) (s s' : ByteArray) (w : World) (q : Tru k n) (q' : Tru k' n') (t1 : (cls k n == some true) = false) (t2 : (cls k' n' == some true) = true) :
    Calls Try.prog 44 #[.agg #[.int .i64 k, .int .i64 n, .string s], .agg #[.int .i64 k', .int .i64 n', .string s']] w fun e w' => e = .returned (.agg #[.int .i64 2, .int .i64 1, .string ⟨#[]⟩]) ∧ Below w.heap.size w w' := by
  have A0 := ((Box.new w (.int .i64 k) (.int .i64 n) (.string s) 24).alloc (.cells #[.int .i64 k', .int .i64 n', .string s'] 24)).alloc (.cells #[.int .i64 0, .int .i64 0, .string ⟨#[]⟩] 24)
  have B0 := (Box.new (w.alloc (.cells #[.int .i64 k, .int .i64 n, .string s] 24)) (.int .i64 k') (.int .i64 n') (.string s') 24).alloc (.cells #[.int .i64 0, .int .i64 0, .string ⟨#[]⟩] 24)
  have R0 := Box.new ((w.alloc (.cells #[.int .i64 k, .int .i64 n, .string s] 24)).alloc (.cells #[.int .i64 k', .int .i64 n', .string s'] 24)) (.int .i64 0) (.int .i64 0) (.string ⟨#[]⟩) 24
  simp only [World.size_alloc] at B0 R0
  go_enter Try.func44, Try.ntmps44
  go_wp2_with fail
  refine (refIs_any _ _ _ _ _ q).mono ?_
  rintro e w1 ⟨rfl, hb1⟩
  rw [t1]
  have A1 := A0.next hb1
  have B1 := B0.next hb1
  have R1 := R0.next hb1
  have ⟨a0, a1, a2, a3, a4, a5, a6⟩ := A1
  have ⟨b0, b1, b2, b3, b4, b5, b6⟩ := B1
  have ⟨r0, r1, r2, r3, r4, r5, r6⟩ := R1
  go_wp2_with fail
  refine (refIs_any _ _ _ _ _ q').mono ?_
  rintro e w2 ⟨rfl, hb2⟩
  rw [t2]
  clear a0 a1 a2 a3 a4 a5 a6 b0 b1 b2 b3 b4 b5 b6 r0 r1 r2 r3 r4 r5 r6
  have A2 := A1.next hb2
  have B2 := B1.next hb2
  have R2 := R1.next hb2
  have ⟨a0, a1, a2, a3, a4, a5, a6⟩ := A2
  have ⟨b0, b1, b2, b3, b4, b5, b6⟩ := B2
  have ⟨r0, r1, r2, r3, r4, r5, r6⟩ := R2
  go_wp2_with fail
  refine (refTruth_true _).mono ?_
  rintro e w3 ⟨rfl, hb3⟩
  clear a0 a1 a2 a3 a4 a5 a6 b0 b1 b2 b3 b4 b5 b6 r0 r1 r2 r3 r4 r5 r6
  have A3 := A2.next hb3
  have B3 := B2.next hb3
  have R3 := R2.next hb3
  have ⟨a0, a1, a2, a3, a4, a5, a6⟩ := A3
  have ⟨b0, b1, b2, b3, b4, b5, b6⟩ := B3
  have ⟨r0, r1, r2, r3, r4, r5, r6⟩ := R3
  go_wp2_with fail
  have z1 := hb1.size
  have z2 := hb2.size
  have z3 := hb3.size
  simp at z1
  exact bodyPost_ret (v := .agg #[.int .i64 2, .int .i64 1, .string ⟨#[]⟩]) (by simp [results, Try.results44, go_sem, r1, r2, r3]) rfl ⟨rfl, below_set3 (((below3 hb1).trans (hb2.mono (by omega))).trans (hb3.mono (by omega))) (by omega)⟩

set_option maxHeartbeats 400000 in
theorem refOr_ff (k n k' n' : Int) (s s' : ByteArray) (w : World) (q : Tru k n) (q' : Tru k' n') (t1 : (cls k n == some true) = false) (t2 : (cls k' n' == some true) = false) (f1 : (cls k n == some false) = true) (f2 : (cls k' n' == some false) = true) :
    Calls Try.prog 44 #[.agg #[.int .i64 k, .int .i64 n, .string s], .agg #[.int .i64 k', .int .i64 n', .string s']] w fun e w' => e = .returned (.agg #[.int .i64 2, .int .i64 0, .string ⟨#[]⟩]) ∧ Below w.heap.size w w' := by
  have A0 := ((Box.new w (.int .i64 k) (.int .i64 n) (.string s) 24).alloc (.cells #[.int .i64 k', .int .i64 n', .string s'] 24)).alloc (.cells #[.int .i64 0, .int .i64 0, .string ⟨#[]⟩] 24)
  have B0 := (Box.new (w.alloc (.cells #[.int .i64 k, .int .i64 n, .string s] 24)) (.int .i64 k') (.int .i64 n') (.string s') 24).alloc (.cells #[.int .i64 0, .int .i64 0, .string ⟨#[]⟩] 24)
  have R0 := Box.new ((w.alloc (.cells #[.int .i64 k, .int .i64 n, .string s] 24)).alloc (.cells #[.int .i64 k', .int .i64 n', .string s'] 24)) (.int .i64 0) (.int .i64 0) (.string ⟨#[]⟩) 24
  simp only [World.size_alloc] at B0 R0
  go_enter Try.func44, Try.ntmps44
  go_wp2_with fail
  refine (refIs_any _ _ _ _ _ q).mono ?_
  rintro e w1 ⟨rfl, hb1⟩
  rw [t1]
  have A1 := A0.next hb1
  have B1 := B0.next hb1
  have R1 := R0.next hb1
  have ⟨a0, a1, a2, a3, a4, a5, a6⟩ := A1
  have ⟨b0, b1, b2, b3, b4, b5, b6⟩ := B1
  have ⟨r0, r1, r2, r3, r4, r5, r6⟩ := R1
  go_wp2_with fail
  refine (refIs_any _ _ _ _ _ q').mono ?_
  rintro e w2 ⟨rfl, hb2⟩
  rw [t2]
  clear a0 a1 a2 a3 a4 a5 a6 b0 b1 b2 b3 b4 b5 b6 r0 r1 r2 r3 r4 r5 r6
  have A2 := A1.next hb2
  have B2 := B1.next hb2
  have R2 := R1.next hb2
  have ⟨a0, a1, a2, a3, a4, a5, a6⟩ := A2
  have ⟨b0, b1, b2, b3, b4, b5, b6⟩ := B2
  have ⟨r0, r1, r2, r3, r4, r5, r6⟩ := R2
  go_wp2_with fail
  refine (refIs_any _ _ _ _ _ q).mono ?_
  rintro e w3 ⟨rfl, hb3⟩
  rw [f1]
  clear a0 a1 a2 a3 a4 a5 a6 b0 b1 b2 b3 b4 b5 b6 r0 r1 r2 r3 r4 r5 r6
  have A3 := A2.next hb3
  have B3 := B2.next hb3
  have R3 := R2.next hb3
  have ⟨a0, a1, a2, a3, a4, a5, a6⟩ := A3
  have ⟨b0, b1, b2, b3, b4, b5, b6⟩ := B3
  have ⟨r0, r1, r2, r3, r4, r5, r6⟩ := R3
  go_wp2_with fail
  refine (refIs_any _ _ _ _ _ q').mono ?_
  rintro e w4 ⟨rfl, hb4⟩
  rw [f2]
  clear a0 a1 a2 a3 a4 a5 a6 b0 b1 b2 b3 b4 b5 b6 r0 r1 r2 r3 r4 r5 r6
  have A4 := A3.next hb4
  have B4 := B3.next hb4
  have R4 := R3.next hb4
  have ⟨a0, a1, a2, a3, a4, a5, a6⟩ := A4
  have ⟨b0, b1, b2, b3, b4, b5, b6⟩ := B4
  have ⟨r0, r1, r2, r3, r4, r5, r6⟩ := R4
  go_wp2_with fail
  refine (refTruth_false _).mono ?_
  rintro e w5 ⟨rfl, hb5⟩
  clear a0 a1 a2 a3 a4 a5 a6 b0 b1 b2 b3 b4 b5 b6 r0 r1 r2 r3 r4 r5 r6
  have A5 := A4.next hb5
  have B5 := B4.next hb5
  have R5 := R4.next hb5
  have ⟨a0, a1, a2, a3, a4, a5, a6⟩ := A5
  have ⟨b0, b1, b2, b3, b4, b5, b6⟩ := B5
  have ⟨r0, r1, r2, r3, r4, r5, r6⟩ := R5
  go_wp2_with fail
  have z1 := hb1.size
  have z2 := hb2.size
  have z3 := hb3.size
  have z4 := hb4.size
  have z5 := hb5.size
  simp at z1
  exact bodyPost_ret (v := .agg #[.int .i64 2, .int .i64 0, .string ⟨#[]⟩]) (by simp [results, Try.results44, go_sem, r1, r2, r3]) rfl ⟨rfl, below_set3 (((((below3 hb1).trans (hb2.mono (by omega))).trans (hb3.mono (by omega))).trans (hb4.mono (by omega))).trans (hb5.mono (by omega))) (by omega)⟩

set_option maxHeartbeats 400000 in
theorem refOr_fx (k n k' n' : Int) (s s' : ByteArray) (w : World) (q : Tru k n) (q' : Tru k' n') (t1 : (cls k n == some true) = false) (t2 : (cls k' n' == some true) = false) (f1 : (cls k n == some false) = true) (f2 : (cls k' n' == some false) = false) :
    Calls Try.prog 44 #[.agg #[.int .i64 k, .int .i64 n, .string s], .agg #[.int .i64 k', .int .i64 n', .string s']] w fun e w' => e = .returned (.agg #[.int .i64 1, .int .i64 0, .string ⟨#[]⟩]) ∧ Below w.heap.size w w' := by
  have A0 := ((Box.new w (.int .i64 k) (.int .i64 n) (.string s) 24).alloc (.cells #[.int .i64 k', .int .i64 n', .string s'] 24)).alloc (.cells #[.int .i64 0, .int .i64 0, .string ⟨#[]⟩] 24)
  have B0 := (Box.new (w.alloc (.cells #[.int .i64 k, .int .i64 n, .string s] 24)) (.int .i64 k') (.int .i64 n') (.string s') 24).alloc (.cells #[.int .i64 0, .int .i64 0, .string ⟨#[]⟩] 24)
  have R0 := Box.new ((w.alloc (.cells #[.int .i64 k, .int .i64 n, .string s] 24)).alloc (.cells #[.int .i64 k', .int .i64 n', .string s'] 24)) (.int .i64 0) (.int .i64 0) (.string ⟨#[]⟩) 24
  simp only [World.size_alloc] at B0 R0
  go_enter Try.func44, Try.ntmps44
  go_wp2_with fail
  refine (refIs_any _ _ _ _ _ q).mono ?_
  rintro e w1 ⟨rfl, hb1⟩
  rw [t1]
  have A1 := A0.next hb1
  have B1 := B0.next hb1
  have R1 := R0.next hb1
  have ⟨a0, a1, a2, a3, a4, a5, a6⟩ := A1
  have ⟨b0, b1, b2, b3, b4, b5, b6⟩ := B1
  have ⟨r0, r1, r2, r3, r4, r5, r6⟩ := R1
  go_wp2_with fail
  refine (refIs_any _ _ _ _ _ q').mono ?_
  rintro e w2 ⟨rfl, hb2⟩
  rw [t2]
  clear a0 a1 a2 a3 a4 a5 a6 b0 b1 b2 b3 b4 b5 b6 r0 r1 r2 r3 r4 r5 r6
  have A2 := A1.next hb2
  have B2 := B1.next hb2
  have R2 := R1.next hb2
  have ⟨a0, a1, a2, a3, a4, a5, a6⟩ := A2
  have ⟨b0, b1, b2, b3, b4, b5, b6⟩ := B2
  have ⟨r0, r1, r2, r3, r4, r5, r6⟩ := R2
  go_wp2_with fail
  refine (refIs_any _ _ _ _ _ q).mono ?_
  rintro e w3 ⟨rfl, hb3⟩
  rw [f1]
  clear a0 a1 a2 a3 a4 a5 a6 b0 b1 b2 b3 b4 b5 b6 r0 r1 r2 r3 r4 r5 r6
  have A3 := A2.next hb3
  have B3 := B2.next hb3
  have R3 := R2.next hb3
  have ⟨a0, a1, a2, a3, a4, a5, a6⟩ := A3
  have ⟨b0, b1, b2, b3, b4, b5, b6⟩ := B3
  have ⟨r0, r1, r2, r3, r4, r5, r6⟩ := R3
  go_wp2_with fail
  refine (refIs_any _ _ _ _ _ q').mono ?_
  rintro e w4 ⟨rfl, hb4⟩
  rw [f2]
  clear a0 a1 a2 a3 a4 a5 a6 b0 b1 b2 b3 b4 b5 b6 r0 r1 r2 r3 r4 r5 r6
  have A4 := A3.next hb4
  have B4 := B3.next hb4
  have R4 := R3.next hb4
  have ⟨a0, a1, a2, a3, a4, a5, a6⟩ := A4
  have ⟨b0, b1, b2, b3, b4, b5, b6⟩ := B4
  have ⟨r0, r1, r2, r3, r4, r5, r6⟩ := R4
  go_wp2_with fail
  refine (refNull_any _).mono ?_
  rintro e w5 ⟨rfl, hb5⟩
  clear a0 a1 a2 a3 a4 a5 a6 b0 b1 b2 b3 b4 b5 b6 r0 r1 r2 r3 r4 r5 r6
  have A5 := A4.next hb5
  have B5 := B4.next hb5
  have R5 := R4.next hb5
  have ⟨a0, a1, a2, a3, a4, a5, a6⟩ := A5
  have ⟨b0, b1, b2, b3, b4, b5, b6⟩ := B5
  have ⟨r0, r1, r2, r3, r4, r5, r6⟩ := R5
  go_wp2_with fail
  have z1 := hb1.size
  have z2 := hb2.size
  have z3 := hb3.size
  have z4 := hb4.size
  have z5 := hb5.size
  simp at z1
  exact bodyPost_ret (v := .agg #[.int .i64 1, .int .i64 0, .string ⟨#[]⟩]) (by simp [results, Try.results44, go_sem, r1, r2, r3]) rfl ⟨rfl, below_set3 (((((below3 hb1).trans (hb2.mono (by omega))).trans (hb3.mono (by omega))).trans (hb4.mono (by omega))).trans (hb5.mono (by omega))) (by omega)⟩

set_option maxHeartbeats 400000 in
theorem refOr_xx (k n k' n' : Int) (s s' : ByteArray) (w : World) (q : Tru k n) (q' : Tru k' n') (t1 : (cls k n == some true) = false) (t2 : (cls k' n' == some true) = false) (f1 : (cls k n == some false) = false) :
    Calls Try.prog 44 #[.agg #[.int .i64 k, .int .i64 n, .string s], .agg #[.int .i64 k', .int .i64 n', .string s']] w fun e w' => e = .returned (.agg #[.int .i64 1, .int .i64 0, .string ⟨#[]⟩]) ∧ Below w.heap.size w w' := by
  have A0 := ((Box.new w (.int .i64 k) (.int .i64 n) (.string s) 24).alloc (.cells #[.int .i64 k', .int .i64 n', .string s'] 24)).alloc (.cells #[.int .i64 0, .int .i64 0, .string ⟨#[]⟩] 24)
  have B0 := (Box.new (w.alloc (.cells #[.int .i64 k, .int .i64 n, .string s] 24)) (.int .i64 k') (.int .i64 n') (.string s') 24).alloc (.cells #[.int .i64 0, .int .i64 0, .string ⟨#[]⟩] 24)
  have R0 := Box.new ((w.alloc (.cells #[.int .i64 k, .int .i64 n, .string s] 24)).alloc (.cells #[.int .i64 k', .int .i64 n', .string s'] 24)) (.int .i64 0) (.int .i64 0) (.string ⟨#[]⟩) 24
  simp only [World.size_alloc] at B0 R0
  go_enter Try.func44, Try.ntmps44
  go_wp2_with fail
  refine (refIs_any _ _ _ _ _ q).mono ?_
  rintro e w1 ⟨rfl, hb1⟩
  rw [t1]
  have A1 := A0.next hb1
  have B1 := B0.next hb1
  have R1 := R0.next hb1
  have ⟨a0, a1, a2, a3, a4, a5, a6⟩ := A1
  have ⟨b0, b1, b2, b3, b4, b5, b6⟩ := B1
  have ⟨r0, r1, r2, r3, r4, r5, r6⟩ := R1
  go_wp2_with fail
  refine (refIs_any _ _ _ _ _ q').mono ?_
  rintro e w2 ⟨rfl, hb2⟩
  rw [t2]
  clear a0 a1 a2 a3 a4 a5 a6 b0 b1 b2 b3 b4 b5 b6 r0 r1 r2 r3 r4 r5 r6
  have A2 := A1.next hb2
  have B2 := B1.next hb2
  have R2 := R1.next hb2
  have ⟨a0, a1, a2, a3, a4, a5, a6⟩ := A2
  have ⟨b0, b1, b2, b3, b4, b5, b6⟩ := B2
  have ⟨r0, r1, r2, r3, r4, r5, r6⟩ := R2
  go_wp2_with fail
  refine (refIs_any _ _ _ _ _ q).mono ?_
  rintro e w3 ⟨rfl, hb3⟩
  rw [f1]
  clear a0 a1 a2 a3 a4 a5 a6 b0 b1 b2 b3 b4 b5 b6 r0 r1 r2 r3 r4 r5 r6
  have A3 := A2.next hb3
  have B3 := B2.next hb3
  have R3 := R2.next hb3
  have ⟨a0, a1, a2, a3, a4, a5, a6⟩ := A3
  have ⟨b0, b1, b2, b3, b4, b5, b6⟩ := B3
  have ⟨r0, r1, r2, r3, r4, r5, r6⟩ := R3
  go_wp2_with fail
  refine (refNull_any _).mono ?_
  rintro e w4 ⟨rfl, hb4⟩
  clear a0 a1 a2 a3 a4 a5 a6 b0 b1 b2 b3 b4 b5 b6 r0 r1 r2 r3 r4 r5 r6
  have A4 := A3.next hb4
  have B4 := B3.next hb4
  have R4 := R3.next hb4
  have ⟨a0, a1, a2, a3, a4, a5, a6⟩ := A4
  have ⟨b0, b1, b2, b3, b4, b5, b6⟩ := B4
  have ⟨r0, r1, r2, r3, r4, r5, r6⟩ := R4
  go_wp2_with fail
  have z1 := hb1.size
  have z2 := hb2.size
  have z3 := hb3.size
  have z4 := hb4.size
  simp at z1
  exact bodyPost_ret (v := .agg #[.int .i64 1, .int .i64 0, .string ⟨#[]⟩]) (by simp [results, Try.results44, go_sem, r1, r2, r3]) rfl ⟨rfl, below_set3 ((((below3 hb1).trans (hb2.mono (by omega))).trans (hb3.mono (by omega))).trans (hb4.mono (by omega))) (by omega)⟩

set_option maxHeartbeats 400000 in
theorem refNot_x (k n : Int) (s : ByteArray) (w : World) (h' : (k != 2) = true) :
    Calls Try.prog 40 #[.agg #[.int .i64 k, .int .i64 n, .string s]] w fun e w' => e = .returned (.agg #[.int .i64 1, .int .i64 0, .string ⟨#[]⟩]) ∧ Below w.heap.size w w' := by
  have A0 := (Box.new w (.int .i64 k) (.int .i64 n) (.string s) 24).alloc (.cells #[.int .i64 0, .int .i64 0, .string ⟨#[]⟩] 24)
  have R0 := Box.new (w.alloc (.cells #[.int .i64 k, .int .i64 n, .string s] 24)) (.int .i64 0) (.int .i64 0) (.string ⟨#[]⟩) 24
  simp only [World.size_alloc] at R0
  go_enter Try.func40, Try.ntmps40
  go_wp2_with fail
  refine (refNull_any _).mono ?_
  rintro e w1 ⟨rfl, hb1⟩
  have A1 := A0.next hb1
  have R1 := R0.next hb1
  have ⟨a0, a1, a2, a3, a4, a5, a6⟩ := A1
  have ⟨r0, r1, r2, r3, r4, r5, r6⟩ := R1
  go_wp2_with fail
  have z1 := hb1.size
  simp at z1
  exact bodyPost_ret (v := .agg #[.int .i64 1, .int .i64 0, .string ⟨#[]⟩]) (by simp [results, Try.results40, go_sem, r1, r2, r3]) rfl ⟨rfl, below_set3 (below2 hb1) (by omega)⟩

set_option maxHeartbeats 400000 in
theorem refNot_b (k n : Int) (s : ByteArray) (w : World) (q : Tru k n) (h : k = 2) (b : Bool) (hb : (cls 2 n == some false) = b) :
    Calls Try.prog 40 #[.agg #[.int .i64 k, .int .i64 n, .string s]] w fun e w' => e = .returned (.agg #[.int .i64 2, .int .i64 (tn (some b)), .string ⟨#[]⟩]) ∧ Below w.heap.size w w' := by
  subst h
  have A0 := (Box.new w (.int .i64 2) (.int .i64 n) (.string s) 24).alloc (.cells #[.int .i64 0, .int .i64 0, .string ⟨#[]⟩] 24)
  have R0 := Box.new (w.alloc (.cells #[.int .i64 2, .int .i64 n, .string s] 24)) (.int .i64 0) (.int .i64 0) (.string ⟨#[]⟩) 24
  simp only [World.size_alloc] at R0
  go_enter Try.func40, Try.ntmps40
  go_wp2_with fail
  refine (refIs_any _ _ _ _ _ q).mono ?_
  rintro e w1 ⟨rfl, hb1⟩
  rw [hb]
  have A1 := A0.next hb1
  have R1 := R0.next hb1
  have ⟨a0, a1, a2, a3, a4, a5, a6⟩ := A1
  have ⟨r0, r1, r2, r3, r4, r5, r6⟩ := R1
  go_wp2_with fail
  refine (refTruth_any b _).mono ?_
  rintro e w2 ⟨rfl, hb2⟩
  clear a0 a1 a2 a3 a4 a5 a6 r0 r1 r2 r3 r4 r5 r6
  have A2 := A1.next hb2
  have R2 := R1.next hb2
  have ⟨a0, a1, a2, a3, a4, a5, a6⟩ := A2
  have ⟨r0, r1, r2, r3, r4, r5, r6⟩ := R2
  go_wp2_with fail
  have z1 := hb1.size
  have z2 := hb2.size
  simp at z1
  exact bodyPost_ret (v := .agg #[.int .i64 2, .int .i64 (tn (some b)), .string ⟨#[]⟩]) (by simp [results, Try.results40, go_sem, r1, r2, r3]) rfl ⟨rfl, below_set3 ((below2 hb1).trans (hb2.mono (by omega))) (by omega)⟩

theorem refAnd_any (k n k' n' : Int) (s s' : ByteArray) (w : World) (q : Tru k n) (q' : Tru k' n') :
    Calls Try.prog 43 #[.agg #[.int .i64 k, .int .i64 n, .string s], .agg #[.int .i64 k', .int .i64 n', .string s']] w fun e w' => e = .returned (.agg #[.int .i64 (tk (and3 (cls k n) (cls k' n'))), .int .i64 (tn (and3 (cls k n) (cls k' n'))), .string ⟨#[]⟩]) ∧ Below w.heap.size w w' := by
  rcases h1 : cls k n with _ | _ | _ <;> rcases h2 : cls k' n' with _ | _ | _
  · exact refAnd_xx k n k' n' s s' w q q' (by simp [h1]) (by simp [h2]) (by simp [h1])
  · exact refAnd_xf k n k' n' s s' w q q' (by simp [h1]) (by simp [h2])
  · exact refAnd_xx k n k' n' s s' w q q' (by simp [h1]) (by simp [h2]) (by simp [h1])
  · exact refAnd_f k n k' n' s s' w q (by simp [h1])
  · exact refAnd_f k n k' n' s s' w q (by simp [h1])
  · exact refAnd_f k n k' n' s s' w q (by simp [h1])
  · exact refAnd_tx k n k' n' s s' w q q' (by simp [h1]) (by simp [h2]) (by simp [h1]) (by simp [h2])
  · exact refAnd_xf k n k' n' s s' w q q' (by simp [h1]) (by simp [h2])
  · exact refAnd_tt k n k' n' s s' w q q' (by simp [h1]) (by simp [h2]) (by simp [h1]) (by simp [h2])
theorem refOr_any (k n k' n' : Int) (s s' : ByteArray) (w : World) (q : Tru k n) (q' : Tru k' n') :
    Calls Try.prog 44 #[.agg #[.int .i64 k, .int .i64 n, .string s], .agg #[.int .i64 k', .int .i64 n', .string s']] w fun e w' => e = .returned (.agg #[.int .i64 (tk (or3 (cls k n) (cls k' n'))), .int .i64 (tn (or3 (cls k n) (cls k' n'))), .string ⟨#[]⟩]) ∧ Below w.heap.size w w' := by
  rcases h1 : cls k n with _ | _ | _ <;> rcases h2 : cls k' n' with _ | _ | _
  · exact refOr_xx k n k' n' s s' w q q' (by simp [h1]) (by simp [h2]) (by simp [h1])
  · exact refOr_xx k n k' n' s s' w q q' (by simp [h1]) (by simp [h2]) (by simp [h1])
  · exact refOr_xt k n k' n' s s' w q q' (by simp [h1]) (by simp [h2])
  · exact refOr_fx k n k' n' s s' w q q' (by simp [h1]) (by simp [h2]) (by simp [h1]) (by simp [h2])
  · exact refOr_ff k n k' n' s s' w q q' (by simp [h1]) (by simp [h2]) (by simp [h1]) (by simp [h2])
  · exact refOr_xt k n k' n' s s' w q q' (by simp [h1]) (by simp [h2])
  · exact refOr_t k n k' n' s s' w q (by simp [h1])
  · exact refOr_t k n k' n' s s' w q (by simp [h1])
  · exact refOr_t k n k' n' s s' w q (by simp [h1])
theorem refNot_any (k n : Int) (s : ByteArray) (w : World) (q : Tru k n) :
    Calls Try.prog 40 #[.agg #[.int .i64 k, .int .i64 n, .string s]] w fun e w' => e = .returned (.agg #[.int .i64 (tk (not3 (cls k n))), .int .i64 (tn (not3 (cls k n))), .string ⟨#[]⟩]) ∧ Below w.heap.size w w' := by
  by_cases h : k = 2
  · subst h
    rcases q rfl with rfl | rfl
    · exact refNot_b 2 0 s w q rfl true rfl
    · exact refNot_b 2 1 s w q rfl false rfl
  · rw [cls_kx h]
    exact refNot_x k n s w (by simpa using h)

def joinB (k : Int) (s : ByteArray) (k' : Int) (s' : ByteArray) : Bool := k == 4 && (k' == 4 && decide (s.size + s'.size ≤ 60))
def joinK (k : Int) (s : ByteArray) (k' : Int) (s' : ByteArray) : Int := if joinB k s k' s' then 4 else 1
def joinS (k : Int) (s : ByteArray) (k' : Int) (s' : ByteArray) : ByteArray := if joinB k s k' s' then s ++ s' else ⟨#[]⟩

set_option maxHeartbeats 400000 in
theorem join_x (k n k' n' : Int) (s s' : ByteArray) (w : World) (h' : (k != 4) = true) :
    Calls Try.prog 76 #[.agg #[.int .i64 k, .int .i64 n, .string s], .agg #[.int .i64 k', .int .i64 n', .string s']] w fun e w' => e = .returned (.agg #[.int .i64 1, .int .i64 0, .string ⟨#[]⟩]) ∧ Below w.heap.size w w' := by
  have A0 := ((Box.new w (.int .i64 k) (.int .i64 n) (.string s) 24).alloc (.cells #[.int .i64 k', .int .i64 n', .string s'] 24)).alloc (.cells #[.int .i64 0, .int .i64 0, .string ⟨#[]⟩] 24)
  have B0 := (Box.new (w.alloc (.cells #[.int .i64 k, .int .i64 n, .string s] 24)) (.int .i64 k') (.int .i64 n') (.string s') 24).alloc (.cells #[.int .i64 0, .int .i64 0, .string ⟨#[]⟩] 24)
  have R0 := Box.new ((w.alloc (.cells #[.int .i64 k, .int .i64 n, .string s] 24)).alloc (.cells #[.int .i64 k', .int .i64 n', .string s'] 24)) (.int .i64 0) (.int .i64 0) (.string ⟨#[]⟩) 24
  simp only [World.size_alloc] at B0 R0
  go_enter Try.func76, Try.ntmps76
  go_wp2_with fail
  refine (null_any _).mono ?_
  rintro e w1 ⟨rfl, hb1⟩
  have A1 := A0.next hb1
  have B1 := B0.next hb1
  have R1 := R0.next hb1
  have ⟨a0, a1, a2, a3, a4, a5, a6⟩ := A1
  have ⟨b0, b1, b2, b3, b4, b5, b6⟩ := B1
  have ⟨r0, r1, r2, r3, r4, r5, r6⟩ := R1
  go_wp2_with fail
  have z1 := hb1.size
  simp at z1
  exact bodyPost_ret (v := .agg #[.int .i64 1, .int .i64 0, .string ⟨#[]⟩]) (by simp [results, Try.results76, go_sem, r1, r2, r3]) rfl ⟨rfl, below_set3 (below3 hb1) (by omega)⟩

set_option maxHeartbeats 400000 in
theorem join_y (k n k' n' : Int) (s s' : ByteArray) (w : World) (e : k = 4) (h' : (k' != 4) = true) :
    Calls Try.prog 76 #[.agg #[.int .i64 k, .int .i64 n, .string s], .agg #[.int .i64 k', .int .i64 n', .string s']] w fun e w' => e = .returned (.agg #[.int .i64 1, .int .i64 0, .string ⟨#[]⟩]) ∧ Below w.heap.size w w' := by
  subst e
  have A0 := ((Box.new w (.int .i64 4) (.int .i64 n) (.string s) 24).alloc (.cells #[.int .i64 k', .int .i64 n', .string s'] 24)).alloc (.cells #[.int .i64 0, .int .i64 0, .string ⟨#[]⟩] 24)
  have B0 := (Box.new (w.alloc (.cells #[.int .i64 4, .int .i64 n, .string s] 24)) (.int .i64 k') (.int .i64 n') (.string s') 24).alloc (.cells #[.int .i64 0, .int .i64 0, .string ⟨#[]⟩] 24)
  have R0 := Box.new ((w.alloc (.cells #[.int .i64 4, .int .i64 n, .string s] 24)).alloc (.cells #[.int .i64 k', .int .i64 n', .string s'] 24)) (.int .i64 0) (.int .i64 0) (.string ⟨#[]⟩) 24
  simp only [World.size_alloc] at B0 R0
  go_enter Try.func76, Try.ntmps76
  go_wp2_with fail
  refine (null_any _).mono ?_
  rintro e w1 ⟨rfl, hb1⟩
  have A1 := A0.next hb1
  have B1 := B0.next hb1
  have R1 := R0.next hb1
  have ⟨a0, a1, a2, a3, a4, a5, a6⟩ := A1
  have ⟨b0, b1, b2, b3, b4, b5, b6⟩ := B1
  have ⟨r0, r1, r2, r3, r4, r5, r6⟩ := R1
  go_wp2_with fail
  have z1 := hb1.size
  simp at z1
  exact bodyPost_ret (v := .agg #[.int .i64 1, .int .i64 0, .string ⟨#[]⟩]) (by simp [results, Try.results76, go_sem, r1, r2, r3]) rfl ⟨rfl, below_set3 (below3 hb1) (by omega)⟩

set_option maxHeartbeats 400000 in
theorem join_z (k n k' n' : Int) (s s' : ByteArray) (w : World) (e : k = 4) (e' : k' = 4) (z1 : s.size ≤ 60) (z2 : s'.size ≤ 60) (h : 60 < s.size + s'.size) :
    Calls Try.prog 76 #[.agg #[.int .i64 k, .int .i64 n, .string s], .agg #[.int .i64 k', .int .i64 n', .string s']] w fun e w' => e = .returned (.agg #[.int .i64 1, .int .i64 0, .string ⟨#[]⟩]) ∧ Below w.heap.size w w' := by
  subst e
  subst e'
  have y1 : (s.size : Int) ≤ 60 := by omega
  have y2 : (s'.size : Int) ≤ 60 := by omega
  have y3 : 60 < (s.size : Int) + (s'.size : Int) := by omega
  have y4 : ¬ ((s.size : Int) + (s'.size : Int) ≤ 60) := by omega
  have A0 := ((Box.new w (.int .i64 4) (.int .i64 n) (.string s) 24).alloc (.cells #[.int .i64 4, .int .i64 n', .string s'] 24)).alloc (.cells #[.int .i64 0, .int .i64 0, .string ⟨#[]⟩] 24)
  have B0 := (Box.new (w.alloc (.cells #[.int .i64 4, .int .i64 n, .string s] 24)) (.int .i64 4) (.int .i64 n') (.string s') 24).alloc (.cells #[.int .i64 0, .int .i64 0, .string ⟨#[]⟩] 24)
  have R0 := Box.new ((w.alloc (.cells #[.int .i64 4, .int .i64 n, .string s] 24)).alloc (.cells #[.int .i64 4, .int .i64 n', .string s'] 24)) (.int .i64 0) (.int .i64 0) (.string ⟨#[]⟩) 24
  simp only [World.size_alloc] at B0 R0
  go_enter Try.func76, Try.ntmps76
  go_wp2_with fail
  refine (null_any _).mono ?_
  rintro e w1 ⟨rfl, hb1⟩
  have A1 := A0.next hb1
  have B1 := B0.next hb1
  have R1 := R0.next hb1
  have ⟨a0, a1, a2, a3, a4, a5, a6⟩ := A1
  have ⟨b0, b1, b2, b3, b4, b5, b6⟩ := B1
  have ⟨r0, r1, r2, r3, r4, r5, r6⟩ := R1
  go_wp2_with fail
  have z1 := hb1.size
  simp at z1
  exact bodyPost_ret (v := .agg #[.int .i64 1, .int .i64 0, .string ⟨#[]⟩]) (by simp [results, Try.results76, go_sem, r1, r2, r3]) rfl ⟨rfl, below_set3 (below3 hb1) (by omega)⟩

set_option maxHeartbeats 400000 in
theorem join_j (k n k' n' : Int) (s s' : ByteArray) (w : World) (e : k = 4) (e' : k' = 4) (z1 : s.size ≤ 60) (z2 : s'.size ≤ 60) (h : s.size + s'.size ≤ 60) :
    Calls Try.prog 76 #[.agg #[.int .i64 k, .int .i64 n, .string s], .agg #[.int .i64 k', .int .i64 n', .string s']] w fun e w' => e = .returned (.agg #[.int .i64 4, .int .i64 0, .string (s ++ s')]) ∧ Below w.heap.size w w' := by
  subst e
  subst e'
  have y1 : (s.size : Int) ≤ 60 := by omega
  have y2 : (s'.size : Int) ≤ 60 := by omega
  have y3 : ¬ 60 < (s.size : Int) + (s'.size : Int) := by omega
  have y4 : (s.size : Int) + (s'.size : Int) ≤ 60 := by omega
  go_enter Try.func76, Try.ntmps76
  go_wp2_with fail
  exact bodyPost_ret (v := .agg #[.int .i64 4, .int .i64 0, .string (s ++ s')]) (by simp [results, Try.results76, go_sem]) rfl ⟨rfl, (((Below.refl _ _).alloc (Nat.le_refl _) _).alloc (by simp) _).alloc (by simp; omega) _⟩

theorem join_any (k n k' n' : Int) (s s' : ByteArray) (w : World) (z : k = 4 → s.size ≤ 60) (z' : k' = 4 → s'.size ≤ 60) :
    Calls Try.prog 76 #[.agg #[.int .i64 k, .int .i64 n, .string s], .agg #[.int .i64 k', .int .i64 n', .string s']] w fun e w' => e = .returned (.agg #[.int .i64 (joinK k s k' s'), .int .i64 0, .string (joinS k s k' s')]) ∧ Below w.heap.size w w' := by
  by_cases h : k = 4
  · by_cases h' : k' = 4
    · by_cases hs : s.size + s'.size ≤ 60
      · have e : joinB k s k' s' = true := by simp [joinB, h, h', hs]
        have e1 : joinK k s k' s' = 4 := by simp [joinK, e]
        have e2 : joinS k s k' s' = s ++ s' := by simp [joinS, e]
        rw [e1, e2]; exact join_j k n k' n' s s' w h h' (z h) (z' h') hs
      · have e : joinB k s k' s' = false := by simp [joinB, hs]
        have e1 : joinK k s k' s' = 1 := by simp [joinK, e]
        have e2 : joinS k s k' s' = ⟨#[]⟩ := by simp [joinS, e]
        rw [e1, e2]; exact join_z k n k' n' s s' w h h' (z h) (z' h') (by omega)
    · have e : joinB k s k' s' = false := by simp [joinB, h']
      have e1 : joinK k s k' s' = 1 := by simp [joinK, e]
      have e2 : joinS k s k' s' = ⟨#[]⟩ := by simp [joinS, e]
      rw [e1, e2]; exact join_y k n k' n' s s' w h (by simpa using h')
  · have e : joinB k s k' s' = false := by simp [joinB, h]
    have e1 : joinK k s k' s' = 1 := by simp [joinK, e]
    have e2 : joinS k s k' s' = ⟨#[]⟩ := by simp [joinS, e]
    rw [e1, e2]; exact join_x k n k' n' s s' w (by simpa using h)

set_option maxHeartbeats 400000 in
theorem refJoin_x (k n k' n' : Int) (s s' : ByteArray) (w : World) (h : (k == 4) = false) :
    Calls Try.prog 46 #[.agg #[.int .i64 k, .int .i64 n, .string s], .agg #[.int .i64 k', .int .i64 n', .string s']] w fun e w' => e = .returned (.agg #[.int .i64 1, .int .i64 0, .string ⟨#[]⟩]) ∧ Below w.heap.size w w' := by
  have A0 := ((Box.new w (.int .i64 k) (.int .i64 n) (.string s) 24).alloc (.cells #[.int .i64 k', .int .i64 n', .string s'] 24)).alloc (.cells #[.int .i64 0, .int .i64 0, .string ⟨#[]⟩] 24)
  have B0 := (Box.new (w.alloc (.cells #[.int .i64 k, .int .i64 n, .string s] 24)) (.int .i64 k') (.int .i64 n') (.string s') 24).alloc (.cells #[.int .i64 0, .int .i64 0, .string ⟨#[]⟩] 24)
  have R0 := Box.new ((w.alloc (.cells #[.int .i64 k, .int .i64 n, .string s] 24)).alloc (.cells #[.int .i64 k', .int .i64 n', .string s'] 24)) (.int .i64 0) (.int .i64 0) (.string ⟨#[]⟩) 24
  simp only [World.size_alloc] at B0 R0
  go_enter Try.func46, Try.ntmps46
  go_wp2_with fail
  refine (refNull_any _).mono ?_
  rintro e w1 ⟨rfl, hb1⟩
  have A1 := A0.next hb1
  have B1 := B0.next hb1
  have R1 := R0.next hb1
  have ⟨a0, a1, a2, a3, a4, a5, a6⟩ := A1
  have ⟨b0, b1, b2, b3, b4, b5, b6⟩ := B1
  have ⟨r0, r1, r2, r3, r4, r5, r6⟩ := R1
  go_wp2_with fail
  have z1 := hb1.size
  simp at z1
  exact bodyPost_ret (v := .agg #[.int .i64 1, .int .i64 0, .string ⟨#[]⟩]) (by simp [results, Try.results46, go_sem, r1, r2, r3]) rfl ⟨rfl, below_set3 (below3 hb1) (by omega)⟩

set_option maxHeartbeats 400000 in
theorem refJoin_y (k n k' n' : Int) (s s' : ByteArray) (w : World) (e : k = 4) (h : (k' == 4) = false) :
    Calls Try.prog 46 #[.agg #[.int .i64 k, .int .i64 n, .string s], .agg #[.int .i64 k', .int .i64 n', .string s']] w fun e w' => e = .returned (.agg #[.int .i64 1, .int .i64 0, .string ⟨#[]⟩]) ∧ Below w.heap.size w w' := by
  subst e
  have A0 := ((Box.new w (.int .i64 4) (.int .i64 n) (.string s) 24).alloc (.cells #[.int .i64 k', .int .i64 n', .string s'] 24)).alloc (.cells #[.int .i64 0, .int .i64 0, .string ⟨#[]⟩] 24)
  have B0 := (Box.new (w.alloc (.cells #[.int .i64 4, .int .i64 n, .string s] 24)) (.int .i64 k') (.int .i64 n') (.string s') 24).alloc (.cells #[.int .i64 0, .int .i64 0, .string ⟨#[]⟩] 24)
  have R0 := Box.new ((w.alloc (.cells #[.int .i64 4, .int .i64 n, .string s] 24)).alloc (.cells #[.int .i64 k', .int .i64 n', .string s'] 24)) (.int .i64 0) (.int .i64 0) (.string ⟨#[]⟩) 24
  simp only [World.size_alloc] at B0 R0
  go_enter Try.func46, Try.ntmps46
  go_wp2_with fail
  refine (refNull_any _).mono ?_
  rintro e w1 ⟨rfl, hb1⟩
  have A1 := A0.next hb1
  have B1 := B0.next hb1
  have R1 := R0.next hb1
  have ⟨a0, a1, a2, a3, a4, a5, a6⟩ := A1
  have ⟨b0, b1, b2, b3, b4, b5, b6⟩ := B1
  have ⟨r0, r1, r2, r3, r4, r5, r6⟩ := R1
  go_wp2_with fail
  have z1 := hb1.size
  simp at z1
  exact bodyPost_ret (v := .agg #[.int .i64 1, .int .i64 0, .string ⟨#[]⟩]) (by simp [results, Try.results46, go_sem, r1, r2, r3]) rfl ⟨rfl, below_set3 (below3 hb1) (by omega)⟩

set_option maxHeartbeats 400000 in
theorem refJoin_z (k n k' n' : Int) (s s' : ByteArray) (w : World) (e : k = 4) (e' : k' = 4) (z1 : s.size ≤ 60) (z2 : s'.size ≤ 60) (h : 60 < s.size + s'.size) :
    Calls Try.prog 46 #[.agg #[.int .i64 k, .int .i64 n, .string s], .agg #[.int .i64 k', .int .i64 n', .string s']] w fun e w' => e = .returned (.agg #[.int .i64 1, .int .i64 0, .string ⟨#[]⟩]) ∧ Below w.heap.size w w' := by
  subst e
  subst e'
  have y1 : (s.size : Int) ≤ 60 := by omega
  have y2 : (s'.size : Int) ≤ 60 := by omega
  have y3 : 60 < (s.size : Int) + (s'.size : Int) := by omega
  have y4 : ¬ ((s.size : Int) + (s'.size : Int) ≤ 60) := by omega
  have A0 := ((Box.new w (.int .i64 4) (.int .i64 n) (.string s) 24).alloc (.cells #[.int .i64 4, .int .i64 n', .string s'] 24)).alloc (.cells #[.int .i64 0, .int .i64 0, .string ⟨#[]⟩] 24)
  have B0 := (Box.new (w.alloc (.cells #[.int .i64 4, .int .i64 n, .string s] 24)) (.int .i64 4) (.int .i64 n') (.string s') 24).alloc (.cells #[.int .i64 0, .int .i64 0, .string ⟨#[]⟩] 24)
  have R0 := Box.new ((w.alloc (.cells #[.int .i64 4, .int .i64 n, .string s] 24)).alloc (.cells #[.int .i64 4, .int .i64 n', .string s'] 24)) (.int .i64 0) (.int .i64 0) (.string ⟨#[]⟩) 24
  simp only [World.size_alloc] at B0 R0
  go_enter Try.func46, Try.ntmps46
  go_wp2_with fail
  refine (refNull_any _).mono ?_
  rintro e w1 ⟨rfl, hb1⟩
  have A1 := A0.next hb1
  have B1 := B0.next hb1
  have R1 := R0.next hb1
  have ⟨a0, a1, a2, a3, a4, a5, a6⟩ := A1
  have ⟨b0, b1, b2, b3, b4, b5, b6⟩ := B1
  have ⟨r0, r1, r2, r3, r4, r5, r6⟩ := R1
  go_wp2_with fail
  have z1 := hb1.size
  simp at z1
  exact bodyPost_ret (v := .agg #[.int .i64 1, .int .i64 0, .string ⟨#[]⟩]) (by simp [results, Try.results46, go_sem, r1, r2, r3]) rfl ⟨rfl, below_set3 (below3 hb1) (by omega)⟩

set_option maxHeartbeats 400000 in
theorem refJoin_j (k n k' n' : Int) (s s' : ByteArray) (w : World) (e : k = 4) (e' : k' = 4) (z1 : s.size ≤ 60) (z2 : s'.size ≤ 60) (h : s.size + s'.size ≤ 60) :
    Calls Try.prog 46 #[.agg #[.int .i64 k, .int .i64 n, .string s], .agg #[.int .i64 k', .int .i64 n', .string s']] w fun e w' => e = .returned (.agg #[.int .i64 4, .int .i64 0, .string (s ++ s')]) ∧ Below w.heap.size w w' := by
  subst e
  subst e'
  have y1 : (s.size : Int) ≤ 60 := by omega
  have y2 : (s'.size : Int) ≤ 60 := by omega
  have y3 : ¬ 60 < (s.size : Int) + (s'.size : Int) := by omega
  have y4 : (s.size : Int) + (s'.size : Int) ≤ 60 := by omega
  go_enter Try.func46, Try.ntmps46
  go_wp2_with fail
  exact bodyPost_ret (v := .agg #[.int .i64 4, .int .i64 0, .string (s ++ s')]) (by simp [results, Try.results46, go_sem]) rfl ⟨rfl, (((Below.refl _ _).alloc (Nat.le_refl _) _).alloc (by simp) _).alloc (by simp; omega) _⟩

theorem refJoin_any (k n k' n' : Int) (s s' : ByteArray) (w : World) (z : k = 4 → s.size ≤ 60) (z' : k' = 4 → s'.size ≤ 60) :
    Calls Try.prog 46 #[.agg #[.int .i64 k, .int .i64 n, .string s], .agg #[.int .i64 k', .int .i64 n', .string s']] w fun e w' => e = .returned (.agg #[.int .i64 (joinK k s k' s'), .int .i64 0, .string (joinS k s k' s')]) ∧ Below w.heap.size w w' := by
  by_cases h : k = 4
  · by_cases h' : k' = 4
    · by_cases hs : s.size + s'.size ≤ 60
      · have e : joinB k s k' s' = true := by simp [joinB, h, h', hs]
        have e1 : joinK k s k' s' = 4 := by simp [joinK, e]
        have e2 : joinS k s k' s' = s ++ s' := by simp [joinS, e]
        rw [e1, e2]; exact refJoin_j k n k' n' s s' w h h' (z h) (z' h') hs
      · have e : joinB k s k' s' = false := by simp [joinB, hs]
        have e1 : joinK k s k' s' = 1 := by simp [joinK, e]
        have e2 : joinS k s k' s' = ⟨#[]⟩ := by simp [joinS, e]
        rw [e1, e2]; exact refJoin_z k n k' n' s s' w h h' (z h) (z' h') (by omega)
    · have e : joinB k s k' s' = false := by simp [joinB, h']
      have e1 : joinK k s k' s' = 1 := by simp [joinK, e]
      have e2 : joinS k s k' s' = ⟨#[]⟩ := by simp [joinS, e]
      rw [e1, e2]; exact refJoin_y k n k' n' s s' w h (by simpa using h')
  · have e : joinB k s k' s' = false := by simp [joinB, h]
    have e1 : joinK k s k' s' = 1 := by simp [joinK, e]
    have e2 : joinS k s k' s' = ⟨#[]⟩ := by simp [joinS, e]
    rw [e1, e2]; exact refJoin_x k n k' n' s s' w (by simpa using h)

end Go.Proofs.Ytbdhmjojamoafaa
