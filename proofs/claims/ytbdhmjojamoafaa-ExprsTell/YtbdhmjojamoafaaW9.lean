/- The walks of vals.canTell, vals.Equal, vals.Less. -/
import Derived.Test.YtbdhmjojamoafaaW5
namespace Go.Proofs.Ytbdhmjojamoafaa
open Go.RowKit

def tellB (k k' : Int) : Bool := k == k' && k != 1
def eqT (k n : Int) (s : ByteArray) (k' n' : Int) (s' : ByteArray) : Option Bool := if tellB k k' then some (cmpV k n s k' n' s' == 0) else none
def ltT (k n : Int) (s : ByteArray) (k' n' : Int) (s' : ByteArray) : Option Bool := if tellB k k' then some (decide (cmpV k n s k' n' s' < 0)) else none

set_option maxHeartbeats 400000 in
theorem canTell_any (k n k' n' : Int) (s s' : ByteArray) (w : World) :
    Calls Try.prog 78 #[.agg #[.int .i64 k, .int .i64 n, .string s], .agg #[.int .i64 k', .int .i64 n', .string s']] w fun e w' => e = .returned (.bool (tellB k k')) ∧ Below w.heap.size w w' := by
  by_cases h : k = k'
  · subst h
    by_cases h1 : k = 1
    · subst h1
      go_enter Try.func78, Try.ntmps78
      go_wp2
      go_ret
      exact ⟨ret_bool (by simp [tellB]), ((Below.refl _ _).alloc (Nat.le_refl _) _).alloc (by simp) _⟩
    · have b1 : (k != 1) = true := by simpa using h1
      go_enter Try.func78, Try.ntmps78
      go_wp2
      go_ret
      exact ⟨ret_bool (by simp [tellB, h1]), ((Below.refl _ _).alloc (Nat.le_refl _) _).alloc (by simp) _⟩
  · have b1 : (k == k') = false := by simpa using h
    go_enter Try.func78, Try.ntmps78
    go_wp2
    go_ret
    exact ⟨ret_bool (by simp [tellB, h]), ((Below.refl _ _).alloc (Nat.le_refl _) _).alloc (by simp) _⟩

set_option maxHeartbeats 400000 in
theorem equal_x (k n k' n' : Int) (s s' : ByteArray) (w : World) (h : tellB k k' = false) :
    Calls Try.prog 71 #[.agg #[.int .i64 k, .int .i64 n, .string s], .agg #[.int .i64 k', .int .i64 n', .string s']] w fun e w' => e = .returned (.agg #[.int .i64 1, .int .i64 0, .string ⟨#[]⟩]) ∧ Below w.heap.size w w' := by
  have A0 := ((Box.new w (.int .i64 k) (.int .i64 n) (.string s) 24).alloc (.cells #[.int .i64 k', .int .i64 n', .string s'] 24)).alloc (.cells #[.int .i64 0, .int .i64 0, .string ⟨#[]⟩] 24)
  have B0 := (Box.new (w.alloc (.cells #[.int .i64 k, .int .i64 n, .string s] 24)) (.int .i64 k') (.int .i64 n') (.string s') 24).alloc (.cells #[.int .i64 0, .int .i64 0, .string ⟨#[]⟩] 24)
  have R0 := Box.new ((w.alloc (.cells #[.int .i64 k, .int .i64 n, .string s] 24)).alloc (.cells #[.int .i64 k', .int .i64 n', .string s'] 24)) (.int .i64 0) (.int .i64 0) (.string ⟨#[]⟩) 24
  simp only [World.size_alloc] at B0 R0
  go_enter Try.func71, Try.ntmps71
  go_wp2_with fail
  refine (canTell_any _ _ _ _ _ _ _).mono ?_
  rintro e w1 ⟨rfl, hb1⟩
  rw [h]
  have A1 := A0.next hb1
  have B1 := B0.next hb1
  have R1 := R0.next hb1
  have ⟨a0, a1, a2, a3, a4, a5, a6⟩ := A1
  have ⟨b0, b1, b2, b3, b4, b5, b6⟩ := B1
  have ⟨r0, r1, r2, r3, r4, r5, r6⟩ := R1
  go_wp2_with fail
  refine (null_any _).mono ?_
  rintro e w2 ⟨rfl, hb2⟩
  clear a0 a1 a2 a3 a4 a5 a6 b0 b1 b2 b3 b4 b5 b6 r0 r1 r2 r3 r4 r5 r6
  have A2 := A1.next hb2
  have B2 := B1.next hb2
  have R2 := R1.next hb2
  have ⟨a0, a1, a2, a3, a4, a5, a6⟩ := A2
  have ⟨b0, b1, b2, b3, b4, b5, b6⟩ := B2
  have ⟨r0, r1, r2, r3, r4, r5, r6⟩ := R2
  go_wp2_with fail
  have z1 := hb1.size
  have z2 := hb2.size
  simp at z1
  exact bodyPost_ret (v := .agg #[.int .i64 1, .int .i64 0, .string ⟨#[]⟩]) (by simp [results, Try.results71, go_sem, r1, r2, r3]) rfl ⟨rfl, below_set3 ((below3 hb1).trans (hb2.mono (by omega))) (by omega)⟩

set_option maxHeartbeats 400000 in
theorem equal_b (k n k' n' : Int) (s s' : ByteArray) (w : World) (h : tellB k k' = true) (b : Bool) (hb : (cmpV k n s k' n' s' == 0) = b) :
    Calls Try.prog 71 #[.agg #[.int .i64 k, .int .i64 n, .string s], .agg #[.int .i64 k', .int .i64 n', .string s']] w fun e w' => e = .returned (.agg #[.int .i64 2, .int .i64 (tn (some b)), .string ⟨#[]⟩]) ∧ Below w.heap.size w w' := by
  have A0 := ((Box.new w (.int .i64 k) (.int .i64 n) (.string s) 24).alloc (.cells #[.int .i64 k', .int .i64 n', .string s'] 24)).alloc (.cells #[.int .i64 0, .int .i64 0, .string ⟨#[]⟩] 24)
  have B0 := (Box.new (w.alloc (.cells #[.int .i64 k, .int .i64 n, .string s] 24)) (.int .i64 k') (.int .i64 n') (.string s') 24).alloc (.cells #[.int .i64 0, .int .i64 0, .string ⟨#[]⟩] 24)
  have R0 := Box.new ((w.alloc (.cells #[.int .i64 k, .int .i64 n, .string s] 24)).alloc (.cells #[.int .i64 k', .int .i64 n', .string s'] 24)) (.int .i64 0) (.int .i64 0) (.string ⟨#[]⟩) 24
  simp only [World.size_alloc] at B0 R0
  go_enter Try.func71, Try.ntmps71
  go_wp2_with fail
  refine (canTell_any _ _ _ _ _ _ _).mono ?_
  rintro e w1 ⟨rfl, hb1⟩
  rw [h]
  have A1 := A0.next hb1
  have B1 := B0.next hb1
  have R1 := R0.next hb1
  have ⟨a0, a1, a2, a3, a4, a5, a6⟩ := A1
  have ⟨b0, b1, b2, b3, b4, b5, b6⟩ := B1
  have ⟨r0, r1, r2, r3, r4, r5, r6⟩ := R1
  go_wp2_with fail
  refine (compare_any _ _ _ _ _ _ _).mono ?_
  rintro e w2 ⟨rfl, hb2⟩
  clear a0 a1 a2 a3 a4 a5 a6 b0 b1 b2 b3 b4 b5 b6 r0 r1 r2 r3 r4 r5 r6
  have A2 := A1.next hb2
  have B2 := B1.next hb2
  have R2 := R1.next hb2
  have ⟨a0, a1, a2, a3, a4, a5, a6⟩ := A2
  have ⟨b0, b1, b2, b3, b4, b5, b6⟩ := B2
  have ⟨r0, r1, r2, r3, r4, r5, r6⟩ := R2
  go_wp2_with fail
  refine (bool_any b _).mono ?_
  rintro e w3 ⟨rfl, hb3⟩
  clear a0 a1 a2 a3 a4 a5 a6 b0 b1 b2 b3 b4 b5 b6 r0 r1 r2 r3 r4 r5 r6
  have A3 := A2.next hb3
  have B3 := B2.next hb3
  have R3 := R2.next hb3
  have ⟨a0, a1, a2, a3, a4, a5, a6⟩ := A3
  have ⟨b0, b1, b2, b3, b4, b5, b6⟩ := B3
  have ⟨r0, r1, r2, r3, r4, r5, r6⟩ := R3
  go_wp2_with fail
  have z1 := hb1.size
  have z2 := hb2.size
  have z3 := hb3.size
  simp at z1
  exact bodyPost_ret (v := .agg #[.int .i64 2, .int .i64 (tn (some b)), .string ⟨#[]⟩]) (by simp [results, Try.results71, go_sem, r1, r2, r3]) rfl ⟨rfl, below_set3 (((below3 hb1).trans (hb2.mono (by omega))).trans (hb3.mono (by omega))) (by omega)⟩

set_option maxHeartbeats 400000 in
theorem less_x (k n k' n' : Int) (s s' : ByteArray) (w : World) (h : tellB k k' = false) :
    Calls Try.prog 73 #[.agg #[.int .i64 k, .int .i64 n, .string s], .agg #[.int .i64 k', .int .i64 n', .string s']] w fun e w' => e = .returned (.agg #[.int .i64 1, .int .i64 0, .string ⟨#[]⟩]) ∧ Below w.heap.size w w' := by
  have A0 := ((Box.new w (.int .i64 k) (.int .i64 n) (.string s) 24).alloc (.cells #[.int .i64 k', .int .i64 n', .string s'] 24)).alloc (.cells #[.int .i64 0, .int .i64 0, .string ⟨#[]⟩] 24)
  have B0 := (Box.new (w.alloc (.cells #[.int .i64 k, .int .i64 n, .string s] 24)) (.int .i64 k') (.int .i64 n') (.string s') 24).alloc (.cells #[.int .i64 0, .int .i64 0, .string ⟨#[]⟩] 24)
  have R0 := Box.new ((w.alloc (.cells #[.int .i64 k, .int .i64 n, .string s] 24)).alloc (.cells #[.int .i64 k', .int .i64 n', .string s'] 24)) (.int .i64 0) (.int .i64 0) (.string ⟨#[]⟩) 24
  simp only [World.size_alloc] at B0 R0
  go_enter Try.func73, Try.ntmps73
  go_wp2_with fail
  refine (canTell_any _ _ _ _ _ _ _).mono ?_
  rintro e w1 ⟨rfl, hb1⟩
  rw [h]
  have A1 := A0.next hb1
  have B1 := B0.next hb1
  have R1 := R0.next hb1
  have ⟨a0, a1, a2, a3, a4, a5, a6⟩ := A1
  have ⟨b0, b1, b2, b3, b4, b5, b6⟩ := B1
  have ⟨r0, r1, r2, r3, r4, r5, r6⟩ := R1
  go_wp2_with fail
  refine (null_any _).mono ?_
  rintro e w2 ⟨rfl, hb2⟩
  clear a0 a1 a2 a3 a4 a5 a6 b0 b1 b2 b3 b4 b5 b6 r0 r1 r2 r3 r4 r5 r6
  have A2 := A1.next hb2
  have B2 := B1.next hb2
  have R2 := R1.next hb2
  have ⟨a0, a1, a2, a3, a4, a5, a6⟩ := A2
  have ⟨b0, b1, b2, b3, b4, b5, b6⟩ := B2
  have ⟨r0, r1, r2, r3, r4, r5, r6⟩ := R2
  go_wp2_with fail
  have z1 := hb1.size
  have z2 := hb2.size
  simp at z1
  exact bodyPost_ret (v := .agg #[.int .i64 1, .int .i64 0, .string ⟨#[]⟩]) (by simp [results, Try.results73, go_sem, r1, r2, r3]) rfl ⟨rfl, below_set3 ((below3 hb1).trans (hb2.mono (by omega))) (by omega)⟩

set_option maxHeartbeats 400000 in
theorem less_b (k n k' n' : Int) (s s' : ByteArray) (w : World) (h : tellB k k' = true) (b : Bool) (hb : decide (cmpV k n s k' n' s' < 0) = b) :
    Calls Try.prog 73 #[.agg #[.int .i64 k, .int .i64 n, .string s], .agg #[.int .i64 k', .int .i64 n', .string s']] w fun e w' => e = .returned (.agg #[.int .i64 2, .int .i64 (tn (some b)), .string ⟨#[]⟩]) ∧ Below w.heap.size w w' := by
  have A0 := ((Box.new w (.int .i64 k) (.int .i64 n) (.string s) 24).alloc (.cells #[.int .i64 k', .int .i64 n', .string s'] 24)).alloc (.cells #[.int .i64 0, .int .i64 0, .string ⟨#[]⟩] 24)
  have B0 := (Box.new (w.alloc (.cells #[.int .i64 k, .int .i64 n, .string s] 24)) (.int .i64 k') (.int .i64 n') (.string s') 24).alloc (.cells #[.int .i64 0, .int .i64 0, .string ⟨#[]⟩] 24)
  have R0 := Box.new ((w.alloc (.cells #[.int .i64 k, .int .i64 n, .string s] 24)).alloc (.cells #[.int .i64 k', .int .i64 n', .string s'] 24)) (.int .i64 0) (.int .i64 0) (.string ⟨#[]⟩) 24
  simp only [World.size_alloc] at B0 R0
  go_enter Try.func73, Try.ntmps73
  go_wp2_with fail
  refine (canTell_any _ _ _ _ _ _ _).mono ?_
  rintro e w1 ⟨rfl, hb1⟩
  rw [h]
  have A1 := A0.next hb1
  have B1 := B0.next hb1
  have R1 := R0.next hb1
  have ⟨a0, a1, a2, a3, a4, a5, a6⟩ := A1
  have ⟨b0, b1, b2, b3, b4, b5, b6⟩ := B1
  have ⟨r0, r1, r2, r3, r4, r5, r6⟩ := R1
  go_wp2_with fail
  refine (compare_any _ _ _ _ _ _ _).mono ?_
  rintro e w2 ⟨rfl, hb2⟩
  clear a0 a1 a2 a3 a4 a5 a6 b0 b1 b2 b3 b4 b5 b6 r0 r1 r2 r3 r4 r5 r6
  have A2 := A1.next hb2
  have B2 := B1.next hb2
  have R2 := R1.next hb2
  have ⟨a0, a1, a2, a3, a4, a5, a6⟩ := A2
  have ⟨b0, b1, b2, b3, b4, b5, b6⟩ := B2
  have ⟨r0, r1, r2, r3, r4, r5, r6⟩ := R2
  go_wp2_with fail
  refine (bool_any b _).mono ?_
  rintro e w3 ⟨rfl, hb3⟩
  clear a0 a1 a2 a3 a4 a5 a6 b0 b1 b2 b3 b4 b5 b6 r0 r1 r2 r3 r4 r5 r6
  have A3 := A2.next hb3
  have B3 := B2.next hb3
  have R3 := R2.next hb3
  have ⟨a0, a1, a2, a3, a4, a5, a6⟩ := A3
  have ⟨b0, b1, b2, b3, b4, b5, b6⟩ := B3
  have ⟨r0, r1, r2, r3, r4, r5, r6⟩ := R3
  go_wp2_with fail
  have z1 := hb1.size
  have z2 := hb2.size
  have z3 := hb3.size
  simp at z1
  exact bodyPost_ret (v := .agg #[.int .i64 2, .int .i64 (tn (some b)), .string ⟨#[]⟩]) (by simp [results, Try.results73, go_sem, r1, r2, r3]) rfl ⟨rfl, below_set3 (((below3 hb1).trans (hb2.mono (by omega))).trans (hb3.mono (by omega))) (by omega)⟩

theorem equal_any (k n k' n' : Int) (s s' : ByteArray) (w : World) :
    Calls Try.prog 71 #[.agg #[.int .i64 k, .int .i64 n, .string s], .agg #[.int .i64 k', .int .i64 n', .string s']] w fun e w' => e = .returned (.agg #[.int .i64 (tk (eqT k n s k' n' s')), .int .i64 (tn (eqT k n s k' n' s')), .string ⟨#[]⟩]) ∧ Below w.heap.size w w' := by
  cases h : tellB k k'
  · have e : eqT k n s k' n' s' = none := by simp [eqT, h]
    rw [e]; exact equal_x k n k' n' s s' w h
  · have e : eqT k n s k' n' s' = some (cmpV k n s k' n' s' == 0) := by simp [eqT, h]
    rw [e]; exact equal_b k n k' n' s s' w h _ rfl
theorem less_any (k n k' n' : Int) (s s' : ByteArray) (w : World) :
    Calls Try.prog 73 #[.agg #[.int .i64 k, .int .i64 n, .string s], .agg #[.int .i64 k', .int .i64 n', .string s']] w fun e w' => e = .returned (.agg #[.int .i64 (tk (ltT k n s k' n' s')), .int .i64 (tn (ltT k n s k' n' s')), .string ⟨#[]⟩]) ∧ Below w.heap.size w w' := by
  cases h : tellB k k'
  · have e : ltT k n s k' n' s' = none := by simp [ltT, h]
    rw [e]; exact less_x k n k' n' s s' w h
  · have e : ltT k n s k' n' s' = some (decide (cmpV k n s k' n' s' < 0)) := by simp [ltT, h]
    rw [e]; exact less_b k n k' n' s s' w h _ rfl
end Go.Proofs.Ytbdhmjojamoafaa
