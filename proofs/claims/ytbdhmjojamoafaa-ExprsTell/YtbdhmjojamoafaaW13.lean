/- The walk of the document's answer, of right values: Reckon. -/
import Derived.Test.YtbdhmjojamoafaaW12
import Derived.Test.YtbdhmjojamoafaaW7
import Derived.Test.YtbdhmjojamoafaaPast
namespace Go.Proofs.Ytbdhmjojamoafaa
open Go.RowKit

theorem quo_neg (A : Int) (h : 0 < A) : wrap64 (-Int.tdiv 1000000000000000 A) = -(1000000000000000 / A) := by
  have e : Int.tdiv 1000000000000000 A = 1000000000000000 / A := Int.tdiv_eq_ediv_of_nonneg (by omega)
  have h1 : 0 ≤ 1000000000000000 / A := Int.ediv_nonneg (by omega) (by omega)
  have h2 : 1000000000000000 / A ≤ 1000000000000000 := Int.ediv_le_self _ (by omega)
  rw [e]
  generalize 1000000000000000 / A = D at *
  unfold wrap64
  omega

set_option maxHeartbeats 400000 in
theorem refAbs_any (n : Int) (w : World) (h0 : -1000000000000000 ≤ n) (h1 : n ≤ 1000000000000000) :
    Calls Try.prog 61 #[.int .i64 n] w fun e w' => e = .returned (.int .i64 (n.natAbs : Int)) ∧ w' = w := by
  by_cases h : n < 0
  · go_enter Try.func61, Try.ntmps61
    go_wp2
    go_ret
    exact ⟨ret_int (by omega), rfl⟩
  · go_enter Try.func61, Try.ntmps61
    go_wp2
    go_ret
    exact ⟨ret_int (by omega), rfl⟩

set_option maxHeartbeats 1000000 in
theorem refRec_add_in (c n n' : Int) (s s' : ByteArray) (w : World) (h1 : ¬ 1000000000000000 < n + n') (h2 : ¬ n + n' < -1000000000000000) (hc : c = 43) :
    Calls Try.prog 45 #[.int .i32 c, .agg #[.int .i64 3, .int .i64 n, .string s], .agg #[.int .i64 3, .int .i64 n', .string s']] w fun e w' => e = .returned (.agg #[.int .i64 3, .int .i64 (n + n'), .string ⟨#[]⟩]) ∧ Below w.heap.size w w' := by
  subst hc
  have A0 := ((Box.new w (.int .i64 3) (.int .i64 n) (.string s) 24).alloc (.cells #[.int .i64 3, .int .i64 n', .string s'] 24)).alloc (.cells #[.int .i64 0, .int .i64 0, .string ⟨#[]⟩] 24)
  have B0 := (Box.new (w.alloc (.cells #[.int .i64 3, .int .i64 n, .string s] 24)) (.int .i64 3) (.int .i64 n') (.string s') 24).alloc (.cells #[.int .i64 0, .int .i64 0, .string ⟨#[]⟩] 24)
  have R0 := Box.new ((w.alloc (.cells #[.int .i64 3, .int .i64 n, .string s] 24)).alloc (.cells #[.int .i64 3, .int .i64 n', .string s'] 24)) (.int .i64 0) (.int .i64 0) (.string ⟨#[]⟩) 24
  have Z0 : Below w.heap.size w (((w.alloc (.cells #[.int .i64 3, .int .i64 n, .string s] 24)).alloc (.cells #[.int .i64 3, .int .i64 n', .string s'] 24)).alloc (.cells #[.int .i64 0, .int .i64 0, .string ⟨#[]⟩] 24)) := (((Below.refl _ _).alloc (Nat.le_refl _) _).alloc (by simp) _).alloc (by simp; omega) _
  simp only [World.size_alloc] at B0 R0
  go_enter Try.func45, Try.ntmps45
  go_wp2_with fail
  generalize (((w.alloc (.cells #[.int .i64 3, .int .i64 n, .string s] 24)).alloc (.cells #[.int .i64 3, .int .i64 n', .string s'] 24)).alloc (.cells #[.int .i64 0, .int .i64 0, .string ⟨#[]⟩] 24)) = W at *
  haveI : Nonempty (Past W) := ⟨⟨W, Below.refl _ _⟩⟩
  have x1 := past_cell A0.c1
  have y1 := past_cell B0.c1
  refine wp_region_past (by kernel_rfl) (by kernel_rfl) ?_
  repeat (go_big_quiet_step (fail))
  refine wpQuiet_nil ?_
  rintro _ ⟨⟨w1, hb1⟩, rfl⟩
  have R1 := R0.next hb1
  have Z1 := chain Z0 hb1
  clear A0 B0 R0 Z0 x1 y1 hb1
  have ⟨r0, r1, r2, r3, r4, r5, r6⟩ := R1
  go_wp2_with fail
  exact bodyPost_ret (v := .agg #[.int .i64 3, .int .i64 (n + n'), .string ⟨#[]⟩]) (by simp [results, Try.results45, go_sem, r1, r2, r3]) rfl ⟨rfl, below_set3 Z1 (by omega)⟩

set_option maxHeartbeats 1000000 in
theorem refRec_add_gt (c n n' : Int) (s s' : ByteArray) (w : World) (b : n + n' ≤ 4000000000000000) (h1 : 1000000000000000 < n + n') (hc : c = 43) :
    Calls Try.prog 45 #[.int .i32 c, .agg #[.int .i64 3, .int .i64 n, .string s], .agg #[.int .i64 3, .int .i64 n', .string s']] w fun e w' => e = .returned (.agg #[.int .i64 1, .int .i64 0, .string ⟨#[]⟩]) ∧ Below w.heap.size w w' := by
  subst hc
  have A0 := ((Box.new w (.int .i64 3) (.int .i64 n) (.string s) 24).alloc (.cells #[.int .i64 3, .int .i64 n', .string s'] 24)).alloc (.cells #[.int .i64 0, .int .i64 0, .string ⟨#[]⟩] 24)
  have B0 := (Box.new (w.alloc (.cells #[.int .i64 3, .int .i64 n, .string s] 24)) (.int .i64 3) (.int .i64 n') (.string s') 24).alloc (.cells #[.int .i64 0, .int .i64 0, .string ⟨#[]⟩] 24)
  have R0 := Box.new ((w.alloc (.cells #[.int .i64 3, .int .i64 n, .string s] 24)).alloc (.cells #[.int .i64 3, .int .i64 n', .string s'] 24)) (.int .i64 0) (.int .i64 0) (.string ⟨#[]⟩) 24
  have Z0 : Below w.heap.size w (((w.alloc (.cells #[.int .i64 3, .int .i64 n, .string s] 24)).alloc (.cells #[.int .i64 3, .int .i64 n', .string s'] 24)).alloc (.cells #[.int .i64 0, .int .i64 0, .string ⟨#[]⟩] 24)) := (((Below.refl _ _).alloc (Nat.le_refl _) _).alloc (by simp) _).alloc (by simp; omega) _
  simp only [World.size_alloc] at B0 R0
  go_enter Try.func45, Try.ntmps45
  go_wp2_with fail
  generalize (((w.alloc (.cells #[.int .i64 3, .int .i64 n, .string s] 24)).alloc (.cells #[.int .i64 3, .int .i64 n', .string s'] 24)).alloc (.cells #[.int .i64 0, .int .i64 0, .string ⟨#[]⟩] 24)) = W at *
  haveI : Nonempty (Past W) := ⟨⟨W, Below.refl _ _⟩⟩
  have x1 := past_cell A0.c1
  have y1 := past_cell B0.c1
  refine wp_region_past (by kernel_rfl) (by kernel_rfl) ?_
  repeat (go_big_quiet_step (fail))
  refine wpQuiet_nil ?_
  rintro _ ⟨⟨w1, hb1⟩, rfl⟩
  have R1 := R0.next hb1
  have Z1 := chain Z0 hb1
  clear A0 B0 R0 Z0 x1 y1 hb1
  have ⟨r0, r1, r2, r3, r4, r5, r6⟩ := R1
  go_wp2_with fail
  refine (refNull_any _).mono ?_
  rintro e w2 ⟨rfl, hb2⟩
  have R2 := R1.next hb2
  have Z2 := chain Z1 hb2
  clear r0 r1 r2 r3 r4 r5 r6
  have ⟨r0, r1, r2, r3, r4, r5, r6⟩ := R2
  go_wp2_with fail
  exact bodyPost_ret (v := .agg #[.int .i64 1, .int .i64 0, .string ⟨#[]⟩]) (by simp [results, Try.results45, go_sem, r1, r2, r3]) rfl ⟨rfl, below_set3 Z2 (by omega)⟩

set_option maxHeartbeats 1000000 in
theorem refRec_add_lt (c n n' : Int) (s s' : ByteArray) (w : World) (b : -4000000000000000 ≤ n + n') (h1 : ¬ 1000000000000000 < n + n') (h2 : n + n' < -1000000000000000) (hc : c = 43) :
    Calls Try.prog 45 #[.int .i32 c, .agg #[.int .i64 3, .int .i64 n, .string s], .agg #[.int .i64 3, .int .i64 n', .string s']] w fun e w' => e = .returned (.agg #[.int .i64 1, .int .i64 0, .string ⟨#[]⟩]) ∧ Below w.heap.size w w' := by
  subst hc
  have A0 := ((Box.new w (.int .i64 3) (.int .i64 n) (.string s) 24).alloc (.cells #[.int .i64 3, .int .i64 n', .string s'] 24)).alloc (.cells #[.int .i64 0, .int .i64 0, .string ⟨#[]⟩] 24)
  have B0 := (Box.new (w.alloc (.cells #[.int .i64 3, .int .i64 n, .string s] 24)) (.int .i64 3) (.int .i64 n') (.string s') 24).alloc (.cells #[.int .i64 0, .int .i64 0, .string ⟨#[]⟩] 24)
  have R0 := Box.new ((w.alloc (.cells #[.int .i64 3, .int .i64 n, .string s] 24)).alloc (.cells #[.int .i64 3, .int .i64 n', .string s'] 24)) (.int .i64 0) (.int .i64 0) (.string ⟨#[]⟩) 24
  have Z0 : Below w.heap.size w (((w.alloc (.cells #[.int .i64 3, .int .i64 n, .string s] 24)).alloc (.cells #[.int .i64 3, .int .i64 n', .string s'] 24)).alloc (.cells #[.int .i64 0, .int .i64 0, .string ⟨#[]⟩] 24)) := (((Below.refl _ _).alloc (Nat.le_refl _) _).alloc (by simp) _).alloc (by simp; omega) _
  simp only [World.size_alloc] at B0 R0
  go_enter Try.func45, Try.ntmps45
  go_wp2_with fail
  generalize (((w.alloc (.cells #[.int .i64 3, .int .i64 n, .string s] 24)).alloc (.cells #[.int .i64 3, .int .i64 n', .string s'] 24)).alloc (.cells #[.int .i64 0, .int .i64 0, .string ⟨#[]⟩] 24)) = W at *
  haveI : Nonempty (Past W) := ⟨⟨W, Below.refl _ _⟩⟩
  have x1 := past_cell A0.c1
  have y1 := past_cell B0.c1
  refine wp_region_past (by kernel_rfl) (by kernel_rfl) ?_
  repeat (go_big_quiet_step (fail))
  refine wpQuiet_nil ?_
  rintro _ ⟨⟨w1, hb1⟩, rfl⟩
  have R1 := R0.next hb1
  have Z1 := chain Z0 hb1
  clear A0 B0 R0 Z0 x1 y1 hb1
  have ⟨r0, r1, r2, r3, r4, r5, r6⟩ := R1
  go_wp2_with fail
  refine (refNull_any _).mono ?_
  rintro e w2 ⟨rfl, hb2⟩
  have R2 := R1.next hb2
  have Z2 := chain Z1 hb2
  clear r0 r1 r2 r3 r4 r5 r6
  have ⟨r0, r1, r2, r3, r4, r5, r6⟩ := R2
  go_wp2_with fail
  exact bodyPost_ret (v := .agg #[.int .i64 1, .int .i64 0, .string ⟨#[]⟩]) (by simp [results, Try.results45, go_sem, r1, r2, r3]) rfl ⟨rfl, below_set3 Z2 (by omega)⟩

set_option maxHeartbeats 1000000 in
theorem refRec_sub_in (c n n' : Int) (s s' : ByteArray) (w : World) (h1 : ¬ 1000000000000000 < n - n') (h2 : ¬ n - n' < -1000000000000000) (hc : c = 45) :
    Calls Try.prog 45 #[.int .i32 c, .agg #[.int .i64 3, .int .i64 n, .string s], .agg #[.int .i64 3, .int .i64 n', .string s']] w fun e w' => e = .returned (.agg #[.int .i64 3, .int .i64 (n - n'), .string ⟨#[]⟩]) ∧ Below w.heap.size w w' := by
  subst hc
  have A0 := ((Box.new w (.int .i64 3) (.int .i64 n) (.string s) 24).alloc (.cells #[.int .i64 3, .int .i64 n', .string s'] 24)).alloc (.cells #[.int .i64 0, .int .i64 0, .string ⟨#[]⟩] 24)
  have B0 := (Box.new (w.alloc (.cells #[.int .i64 3, .int .i64 n, .string s] 24)) (.int .i64 3) (.int .i64 n') (.string s') 24).alloc (.cells #[.int .i64 0, .int .i64 0, .string ⟨#[]⟩] 24)
  have R0 := Box.new ((w.alloc (.cells #[.int .i64 3, .int .i64 n, .string s] 24)).alloc (.cells #[.int .i64 3, .int .i64 n', .string s'] 24)) (.int .i64 0) (.int .i64 0) (.string ⟨#[]⟩) 24
  have Z0 : Below w.heap.size w (((w.alloc (.cells #[.int .i64 3, .int .i64 n, .string s] 24)).alloc (.cells #[.int .i64 3, .int .i64 n', .string s'] 24)).alloc (.cells #[.int .i64 0, .int .i64 0, .string ⟨#[]⟩] 24)) := (((Below.refl _ _).alloc (Nat.le_refl _) _).alloc (by simp) _).alloc (by simp; omega) _
  simp only [World.size_alloc] at B0 R0
  go_enter Try.func45, Try.ntmps45
  go_wp2_with fail
  generalize (((w.alloc (.cells #[.int .i64 3, .int .i64 n, .string s] 24)).alloc (.cells #[.int .i64 3, .int .i64 n', .string s'] 24)).alloc (.cells #[.int .i64 0, .int .i64 0, .string ⟨#[]⟩] 24)) = W at *
  haveI : Nonempty (Past W) := ⟨⟨W, Below.refl _ _⟩⟩
  have x1 := past_cell A0.c1
  have y1 := past_cell B0.c1
  refine wp_region_past (by kernel_rfl) (by kernel_rfl) ?_
  repeat (go_big_quiet_step (fail))
  refine wpQuiet_nil ?_
  rintro _ ⟨⟨w1, hb1⟩, rfl⟩
  have R1 := R0.next hb1
  have Z1 := chain Z0 hb1
  clear A0 B0 R0 Z0 x1 y1 hb1
  have ⟨r0, r1, r2, r3, r4, r5, r6⟩ := R1
  go_wp2_with fail
  exact bodyPost_ret (v := .agg #[.int .i64 3, .int .i64 (n - n'), .string ⟨#[]⟩]) (by simp [results, Try.results45, go_sem, r1, r2, r3]) rfl ⟨rfl, below_set3 Z1 (by omega)⟩

set_option maxHeartbeats 1000000 in
theorem refRec_sub_gt (c n n' : Int) (s s' : ByteArray) (w : World) (b : n - n' ≤ 4000000000000000) (h1 : 1000000000000000 < n - n') (hc : c = 45) :
    Calls Try.prog 45 #[.int .i32 c, .agg #[.int .i64 3, .int .i64 n, .string s], .agg #[.int .i64 3, .int .i64 n', .string s']] w fun e w' => e = .returned (.agg #[.int .i64 1, .int .i64 0, .string ⟨#[]⟩]) ∧ Below w.heap.size w w' := by
  subst hc
  have A0 := ((Box.new w (.int .i64 3) (.int .i64 n) (.string s) 24).alloc (.cells #[.int .i64 3, .int .i64 n', .string s'] 24)).alloc (.cells #[.int .i64 0, .int .i64 0, .string ⟨#[]⟩] 24)
  have B0 := (Box.new (w.alloc (.cells #[.int .i64 3, .int .i64 n, .string s] 24)) (.int .i64 3) (.int .i64 n') (.string s') 24).alloc (.cells #[.int .i64 0, .int .i64 0, .string ⟨#[]⟩] 24)
  have R0 := Box.new ((w.alloc (.cells #[.int .i64 3, .int .i64 n, .string s] 24)).alloc (.cells #[.int .i64 3, .int .i64 n', .string s'] 24)) (.int .i64 0) (.int .i64 0) (.string ⟨#[]⟩) 24
  have Z0 : Below w.heap.size w (((w.alloc (.cells #[.int .i64 3, .int .i64 n, .string s] 24)).alloc (.cells #[.int .i64 3, .int .i64 n', .string s'] 24)).alloc (.cells #[.int .i64 0, .int .i64 0, .string ⟨#[]⟩] 24)) := (((Below.refl _ _).alloc (Nat.le_refl _) _).alloc (by simp) _).alloc (by simp; omega) _
  simp only [World.size_alloc] at B0 R0
  go_enter Try.func45, Try.ntmps45
  go_wp2_with fail
  generalize (((w.alloc (.cells #[.int .i64 3, .int .i64 n, .string s] 24)).alloc (.cells #[.int .i64 3, .int .i64 n', .string s'] 24)).alloc (.cells #[.int .i64 0, .int .i64 0, .string ⟨#[]⟩] 24)) = W at *
  haveI : Nonempty (Past W) := ⟨⟨W, Below.refl _ _⟩⟩
  have x1 := past_cell A0.c1
  have y1 := past_cell B0.c1
  refine wp_region_past (by kernel_rfl) (by kernel_rfl) ?_
  repeat (go_big_quiet_step (fail))
  refine wpQuiet_nil ?_
  rintro _ ⟨⟨w1, hb1⟩, rfl⟩
  have R1 := R0.next hb1
  have Z1 := chain Z0 hb1
  clear A0 B0 R0 Z0 x1 y1 hb1
  have ⟨r0, r1, r2, r3, r4, r5, r6⟩ := R1
  go_wp2_with fail
  refine (refNull_any _).mono ?_
  rintro e w2 ⟨rfl, hb2⟩
  have R2 := R1.next hb2
  have Z2 := chain Z1 hb2
  clear r0 r1 r2 r3 r4 r5 r6
  have ⟨r0, r1, r2, r3, r4, r5, r6⟩ := R2
  go_wp2_with fail
  exact bodyPost_ret (v := .agg #[.int .i64 1, .int .i64 0, .string ⟨#[]⟩]) (by simp [results, Try.results45, go_sem, r1, r2, r3]) rfl ⟨rfl, below_set3 Z2 (by omega)⟩

set_option maxHeartbeats 1000000 in
theorem refRec_sub_lt (c n n' : Int) (s s' : ByteArray) (w : World) (b : -4000000000000000 ≤ n - n') (h1 : ¬ 1000000000000000 < n - n') (h2 : n - n' < -1000000000000000) (hc : c = 45) :
    Calls Try.prog 45 #[.int .i32 c, .agg #[.int .i64 3, .int .i64 n, .string s], .agg #[.int .i64 3, .int .i64 n', .string s']] w fun e w' => e = .returned (.agg #[.int .i64 1, .int .i64 0, .string ⟨#[]⟩]) ∧ Below w.heap.size w w' := by
  subst hc
  have A0 := ((Box.new w (.int .i64 3) (.int .i64 n) (.string s) 24).alloc (.cells #[.int .i64 3, .int .i64 n', .string s'] 24)).alloc (.cells #[.int .i64 0, .int .i64 0, .string ⟨#[]⟩] 24)
  have B0 := (Box.new (w.alloc (.cells #[.int .i64 3, .int .i64 n, .string s] 24)) (.int .i64 3) (.int .i64 n') (.string s') 24).alloc (.cells #[.int .i64 0, .int .i64 0, .string ⟨#[]⟩] 24)
  have R0 := Box.new ((w.alloc (.cells #[.int .i64 3, .int .i64 n, .string s] 24)).alloc (.cells #[.int .i64 3, .int .i64 n', .string s'] 24)) (.int .i64 0) (.int .i64 0) (.string ⟨#[]⟩) 24
  have Z0 : Below w.heap.size w (((w.alloc (.cells #[.int .i64 3, .int .i64 n, .string s] 24)).alloc (.cells #[.int .i64 3, .int .i64 n', .string s'] 24)).alloc (.cells #[.int .i64 0, .int .i64 0, .string ⟨#[]⟩] 24)) := (((Below.refl _ _).alloc (Nat.le_refl _) _).alloc (by simp) _).alloc (by simp; omega) _
  simp only [World.size_alloc] at B0 R0
  go_enter Try.func45, Try.ntmps45
  go_wp2_with fail
  generalize (((w.alloc (.cells #[.int .i64 3, .int .i64 n, .string s] 24)).alloc (.cells #[.int .i64 3, .int .i64 n', .string s'] 24)).alloc (.cells #[.int .i64 0, .int .i64 0, .string ⟨#[]⟩] 24)) = W at *
  haveI : Nonempty (Past W) := ⟨⟨W, Below.refl _ _⟩⟩
  have x1 := past_cell A0.c1
  have y1 := past_cell B0.c1
  refine wp_region_past (by kernel_rfl) (by kernel_rfl) ?_
  repeat (go_big_quiet_step (fail))
  refine wpQuiet_nil ?_
  rintro _ ⟨⟨w1, hb1⟩, rfl⟩
  have R1 := R0.next hb1
  have Z1 := chain Z0 hb1
  clear A0 B0 R0 Z0 x1 y1 hb1
  have ⟨r0, r1, r2, r3, r4, r5, r6⟩ := R1
  go_wp2_with fail
  refine (refNull_any _).mono ?_
  rintro e w2 ⟨rfl, hb2⟩
  have R2 := R1.next hb2
  have Z2 := chain Z1 hb2
  clear r0 r1 r2 r3 r4 r5 r6
  have ⟨r0, r1, r2, r3, r4, r5, r6⟩ := R2
  go_wp2_with fail
  exact bodyPost_ret (v := .agg #[.int .i64 1, .int .i64 0, .string ⟨#[]⟩]) (by simp [results, Try.results45, go_sem, r1, r2, r3]) rfl ⟨rfl, below_set3 Z2 (by omega)⟩

set_option maxHeartbeats 1000000 in
theorem refRec_z (c n n' : Int) (s s' : ByteArray) (w : World) (c1 : (c == 43) = false) (c2 : (c == 45) = false) (c3 : (c == 42) = false) :
    Calls Try.prog 45 #[.int .i32 c, .agg #[.int .i64 3, .int .i64 n, .string s], .agg #[.int .i64 3, .int .i64 n', .string s']] w fun e w' => e = .returned (.agg #[.int .i64 1, .int .i64 0, .string ⟨#[]⟩]) ∧ Below w.heap.size w w' := by
  have A0 := ((Box.new w (.int .i64 3) (.int .i64 n) (.string s) 24).alloc (.cells #[.int .i64 3, .int .i64 n', .string s'] 24)).alloc (.cells #[.int .i64 0, .int .i64 0, .string ⟨#[]⟩] 24)
  have B0 := (Box.new (w.alloc (.cells #[.int .i64 3, .int .i64 n, .string s] 24)) (.int .i64 3) (.int .i64 n') (.string s') 24).alloc (.cells #[.int .i64 0, .int .i64 0, .string ⟨#[]⟩] 24)
  have R0 := Box.new ((w.alloc (.cells #[.int .i64 3, .int .i64 n, .string s] 24)).alloc (.cells #[.int .i64 3, .int .i64 n', .string s'] 24)) (.int .i64 0) (.int .i64 0) (.string ⟨#[]⟩) 24
  have Z0 : Below w.heap.size w (((w.alloc (.cells #[.int .i64 3, .int .i64 n, .string s] 24)).alloc (.cells #[.int .i64 3, .int .i64 n', .string s'] 24)).alloc (.cells #[.int .i64 0, .int .i64 0, .string ⟨#[]⟩] 24)) := (((Below.refl _ _).alloc (Nat.le_refl _) _).alloc (by simp) _).alloc (by simp; omega) _
  simp only [World.size_alloc] at B0 R0
  go_enter Try.func45, Try.ntmps45
  go_wp2_with fail
  generalize (((w.alloc (.cells #[.int .i64 3, .int .i64 n, .string s] 24)).alloc (.cells #[.int .i64 3, .int .i64 n', .string s'] 24)).alloc (.cells #[.int .i64 0, .int .i64 0, .string ⟨#[]⟩] 24)) = W at *
  haveI : Nonempty (Past W) := ⟨⟨W, Below.refl _ _⟩⟩
  have x1 := past_cell A0.c1
  have y1 := past_cell B0.c1
  refine wp_region_past (by kernel_rfl) (by kernel_rfl) ?_
  repeat (go_big_quiet_step (fail))
  refine wpQuiet_nil ?_
  rintro _ ⟨⟨w1, hb1⟩, rfl⟩
  have R1 := R0.next hb1
  have Z1 := chain Z0 hb1
  clear A0 B0 R0 Z0 x1 y1 hb1
  have ⟨r0, r1, r2, r3, r4, r5, r6⟩ := R1
  go_wp2_with fail
  refine (refNull_any _).mono ?_
  rintro e w2 ⟨rfl, hb2⟩
  have R2 := R1.next hb2
  have Z2 := chain Z1 hb2
  clear r0 r1 r2 r3 r4 r5 r6
  have ⟨r0, r1, r2, r3, r4, r5, r6⟩ := R2
  go_wp2_with fail
  exact bodyPost_ret (v := .agg #[.int .i64 1, .int .i64 0, .string ⟨#[]⟩]) (by simp [results, Try.results45, go_sem, r1, r2, r3]) rfl ⟨rfl, below_set3 Z2 (by omega)⟩

set_option maxHeartbeats 1000000 in
theorem refRec_mul_gt (c n n' : Int) (s s' : ByteArray) (w : World) (p0 : -1000000000000000 ≤ n') (p1 : n' ≤ 1000000000000000) (hn : n' ≠ 0) (h : 1000000000000000 / (n'.natAbs : Int) < n) (hc : c = 42) :
    Calls Try.prog 45 #[.int .i32 c, .agg #[.int .i64 3, .int .i64 n, .string s], .agg #[.int .i64 3, .int .i64 n', .string s']] w fun e w' => e = .returned (.agg #[.int .i64 1, .int .i64 0, .string ⟨#[]⟩]) ∧ Below w.heap.size w w' := by
  subst hc
  have bn : (n' != 0) = true := by simpa using hn
  have g0 : 0 < (n'.natAbs : Int) := by omega
  have g1 : (n'.natAbs : Int) ≤ 1000000000000000 := by omega
  have A0 := ((Box.new w (.int .i64 3) (.int .i64 n) (.string s) 24).alloc (.cells #[.int .i64 3, .int .i64 n', .string s'] 24)).alloc (.cells #[.int .i64 0, .int .i64 0, .string ⟨#[]⟩] 24)
  have B0 := (Box.new (w.alloc (.cells #[.int .i64 3, .int .i64 n, .string s] 24)) (.int .i64 3) (.int .i64 n') (.string s') 24).alloc (.cells #[.int .i64 0, .int .i64 0, .string ⟨#[]⟩] 24)
  have R0 := Box.new ((w.alloc (.cells #[.int .i64 3, .int .i64 n, .string s] 24)).alloc (.cells #[.int .i64 3, .int .i64 n', .string s'] 24)) (.int .i64 0) (.int .i64 0) (.string ⟨#[]⟩) 24
  have Z0 : Below w.heap.size w (((w.alloc (.cells #[.int .i64 3, .int .i64 n, .string s] 24)).alloc (.cells #[.int .i64 3, .int .i64 n', .string s'] 24)).alloc (.cells #[.int .i64 0, .int .i64 0, .string ⟨#[]⟩] 24)) := (((Below.refl _ _).alloc (Nat.le_refl _) _).alloc (by simp) _).alloc (by simp; omega) _
  simp only [World.size_alloc] at B0 R0
  go_enter Try.func45, Try.ntmps45
  go_wp2_with fail
  generalize (((w.alloc (.cells #[.int .i64 3, .int .i64 n, .string s] 24)).alloc (.cells #[.int .i64 3, .int .i64 n', .string s'] 24)).alloc (.cells #[.int .i64 0, .int .i64 0, .string ⟨#[]⟩] 24)) = W at *
  haveI : Nonempty (Past W) := ⟨⟨W, Below.refl _ _⟩⟩
  have x1 := past_cell A0.c1
  have y1 := past_cell B0.c1
  refine wp_region_past (by kernel_rfl) (by kernel_rfl) ?_
  repeat (go_big_quiet_step (fail))
  refine wpQuiet_nil ?_
  rintro _ ⟨⟨w1, hb1⟩, rfl⟩
  have R1 := R0.next hb1
  have Z1 := chain Z0 hb1
  clear A0 B0 R0 Z0 x1 y1 hb1
  have ⟨r0, r1, r2, r3, r4, r5, r6⟩ := R1
  go_wp2_with fail
  refine (refAbs_any _ _ p0 p1).mono ?_
  rintro e wx ⟨rfl, rfl⟩
  go_wp2_with fail
  refine (refNull_any _).mono ?_
  rintro e w2 ⟨rfl, hb2⟩
  have R2 := R1.next hb2
  have Z2 := chain Z1 hb2
  clear r0 r1 r2 r3 r4 r5 r6
  have ⟨r0, r1, r2, r3, r4, r5, r6⟩ := R2
  go_wp2_with fail
  exact bodyPost_ret (v := .agg #[.int .i64 1, .int .i64 0, .string ⟨#[]⟩]) (by simp [results, Try.results45, go_sem, r1, r2, r3]) rfl ⟨rfl, below_set3 Z2 (by omega)⟩

set_option maxHeartbeats 1000000 in
theorem refRec_mul_lt (c n n' : Int) (s s' : ByteArray) (w : World) (p0 : -1000000000000000 ≤ n') (p1 : n' ≤ 1000000000000000) (hn : n' ≠ 0) (h : ¬ 1000000000000000 / (n'.natAbs : Int) < n) (h' : n < -(1000000000000000 / (n'.natAbs : Int))) (hc : c = 42) :
    Calls Try.prog 45 #[.int .i32 c, .agg #[.int .i64 3, .int .i64 n, .string s], .agg #[.int .i64 3, .int .i64 n', .string s']] w fun e w' => e = .returned (.agg #[.int .i64 1, .int .i64 0, .string ⟨#[]⟩]) ∧ Below w.heap.size w w' := by
  subst hc
  have bn : (n' != 0) = true := by simpa using hn
  have g0 : 0 < (n'.natAbs : Int) := by omega
  have g1 : (n'.natAbs : Int) ≤ 1000000000000000 := by omega
  have hq := quo_neg (n'.natAbs : Int) g0
  have A0 := ((Box.new w (.int .i64 3) (.int .i64 n) (.string s) 24).alloc (.cells #[.int .i64 3, .int .i64 n', .string s'] 24)).alloc (.cells #[.int .i64 0, .int .i64 0, .string ⟨#[]⟩] 24)
  have B0 := (Box.new (w.alloc (.cells #[.int .i64 3, .int .i64 n, .string s] 24)) (.int .i64 3) (.int .i64 n') (.string s') 24).alloc (.cells #[.int .i64 0, .int .i64 0, .string ⟨#[]⟩] 24)
  have R0 := Box.new ((w.alloc (.cells #[.int .i64 3, .int .i64 n, .string s] 24)).alloc (.cells #[.int .i64 3, .int .i64 n', .string s'] 24)) (.int .i64 0) (.int .i64 0) (.string ⟨#[]⟩) 24
  have Z0 : Below w.heap.size w (((w.alloc (.cells #[.int .i64 3, .int .i64 n, .string s] 24)).alloc (.cells #[.int .i64 3, .int .i64 n', .string s'] 24)).alloc (.cells #[.int .i64 0, .int .i64 0, .string ⟨#[]⟩] 24)) := (((Below.refl _ _).alloc (Nat.le_refl _) _).alloc (by simp) _).alloc (by simp; omega) _
  simp only [World.size_alloc] at B0 R0
  go_enter Try.func45, Try.ntmps45
  go_wp2_with fail
  generalize (((w.alloc (.cells #[.int .i64 3, .int .i64 n, .string s] 24)).alloc (.cells #[.int .i64 3, .int .i64 n', .string s'] 24)).alloc (.cells #[.int .i64 0, .int .i64 0, .string ⟨#[]⟩] 24)) = W at *
  haveI : Nonempty (Past W) := ⟨⟨W, Below.refl _ _⟩⟩
  have x1 := past_cell A0.c1
  have y1 := past_cell B0.c1
  refine wp_region_past (by kernel_rfl) (by kernel_rfl) ?_
  repeat (go_big_quiet_step (fail))
  refine wpQuiet_nil ?_
  rintro _ ⟨⟨w1, hb1⟩, rfl⟩
  have R1 := R0.next hb1
  have Z1 := chain Z0 hb1
  clear A0 B0 R0 Z0 x1 y1 hb1
  have ⟨r0, r1, r2, r3, r4, r5, r6⟩ := R1
  go_wp2_with fail
  refine (refAbs_any _ _ p0 p1).mono ?_
  rintro e wx ⟨rfl, rfl⟩
  go_wp2_with fail
  refine (refAbs_any _ _ p0 p1).mono ?_
  rintro e wx ⟨rfl, rfl⟩
  go_wp2_with fail
  refine (refNull_any _).mono ?_
  rintro e w2 ⟨rfl, hb2⟩
  have R2 := R1.next hb2
  have Z2 := chain Z1 hb2
  clear r0 r1 r2 r3 r4 r5 r6
  have ⟨r0, r1, r2, r3, r4, r5, r6⟩ := R2
  go_wp2_with fail
  exact bodyPost_ret (v := .agg #[.int .i64 1, .int .i64 0, .string ⟨#[]⟩]) (by simp [results, Try.results45, go_sem, r1, r2, r3]) rfl ⟨rfl, below_set3 Z2 (by omega)⟩

set_option maxHeartbeats 1000000 in
theorem refRec_mul_in (c n n' : Int) (s s' : ByteArray) (w : World) (p0 : -1000000000000000 ≤ n') (p1 : n' ≤ 1000000000000000) (hn : n' ≠ 0) (h : ¬ 1000000000000000 / (n'.natAbs : Int) < n) (h' : ¬ n < -(1000000000000000 / (n'.natAbs : Int))) (m1 : ¬ 1000000000000000 < n * n') (m2 : ¬ n * n' < -1000000000000000) (hc : c = 42) :
    Calls Try.prog 45 #[.int .i32 c, .agg #[.int .i64 3, .int .i64 n, .string s], .agg #[.int .i64 3, .int .i64 n', .string s']] w fun e w' => e = .returned (.agg #[.int .i64 3, .int .i64 (n * n'), .string ⟨#[]⟩]) ∧ Below w.heap.size w w' := by
  subst hc
  have bn : (n' != 0) = true := by simpa using hn
  have g0 : 0 < (n'.natAbs : Int) := by omega
  have g1 : (n'.natAbs : Int) ≤ 1000000000000000 := by omega
  have hq := quo_neg (n'.natAbs : Int) g0
  have A0 := ((Box.new w (.int .i64 3) (.int .i64 n) (.string s) 24).alloc (.cells #[.int .i64 3, .int .i64 n', .string s'] 24)).alloc (.cells #[.int .i64 0, .int .i64 0, .string ⟨#[]⟩] 24)
  have B0 := (Box.new (w.alloc (.cells #[.int .i64 3, .int .i64 n, .string s] 24)) (.int .i64 3) (.int .i64 n') (.string s') 24).alloc (.cells #[.int .i64 0, .int .i64 0, .string ⟨#[]⟩] 24)
  have R0 := Box.new ((w.alloc (.cells #[.int .i64 3, .int .i64 n, .string s] 24)).alloc (.cells #[.int .i64 3, .int .i64 n', .string s'] 24)) (.int .i64 0) (.int .i64 0) (.string ⟨#[]⟩) 24
  have Z0 : Below w.heap.size w (((w.alloc (.cells #[.int .i64 3, .int .i64 n, .string s] 24)).alloc (.cells #[.int .i64 3, .int .i64 n', .string s'] 24)).alloc (.cells #[.int .i64 0, .int .i64 0, .string ⟨#[]⟩] 24)) := (((Below.refl _ _).alloc (Nat.le_refl _) _).alloc (by simp) _).alloc (by simp; omega) _
  simp only [World.size_alloc] at B0 R0
  go_enter Try.func45, Try.ntmps45
  go_wp2_with fail
  generalize (((w.alloc (.cells #[.int .i64 3, .int .i64 n, .string s] 24)).alloc (.cells #[.int .i64 3, .int .i64 n', .string s'] 24)).alloc (.cells #[.int .i64 0, .int .i64 0, .string ⟨#[]⟩] 24)) = W at *
  haveI : Nonempty (Past W) := ⟨⟨W, Below.refl _ _⟩⟩
  have x1 := past_cell A0.c1
  have y1 := past_cell B0.c1
  refine wp_region_past (by kernel_rfl) (by kernel_rfl) ?_
  repeat (go_big_quiet_step (fail))
  refine wpQuiet_nil ?_
  rintro _ ⟨⟨w1, hb1⟩, rfl⟩
  have R1 := R0.next hb1
  have Z1 := chain Z0 hb1
  clear A0 B0 R0 Z0 x1 y1 hb1
  have ⟨r0, r1, r2, r3, r4, r5, r6⟩ := R1
  go_wp2_with fail
  refine (refAbs_any _ _ p0 p1).mono ?_
  rintro e wx ⟨rfl, rfl⟩
  go_wp2_with fail
  refine (refAbs_any _ _ p0 p1).mono ?_
  rintro e wx ⟨rfl, rfl⟩
  go_wp2_with fail
  exact bodyPost_ret (v := .agg #[.int .i64 3, .int .i64 (n * n'), .string ⟨#[]⟩]) (by simp [results, Try.results45, go_sem, r1, r2, r3]) rfl ⟨rfl, below_set3 Z1 (by omega)⟩

set_option maxHeartbeats 1000000 in
theorem refRec_mul_0 (c n : Int) (s s' : ByteArray) (w : World) (hc : c = 42) :
    Calls Try.prog 45 #[.int .i32 c, .agg #[.int .i64 3, .int .i64 n, .string s], .agg #[.int .i64 3, .int .i64 0, .string s']] w fun e w' => e = .returned (.agg #[.int .i64 3, .int .i64 0, .string ⟨#[]⟩]) ∧ Below w.heap.size w w' := by
  subst hc
  have A0 := ((Box.new w (.int .i64 3) (.int .i64 n) (.string s) 24).alloc (.cells #[.int .i64 3, .int .i64 0, .string s'] 24)).alloc (.cells #[.int .i64 0, .int .i64 0, .string ⟨#[]⟩] 24)
  have B0 := (Box.new (w.alloc (.cells #[.int .i64 3, .int .i64 n, .string s] 24)) (.int .i64 3) (.int .i64 0) (.string s') 24).alloc (.cells #[.int .i64 0, .int .i64 0, .string ⟨#[]⟩] 24)
  have R0 := Box.new ((w.alloc (.cells #[.int .i64 3, .int .i64 n, .string s] 24)).alloc (.cells #[.int .i64 3, .int .i64 0, .string s'] 24)) (.int .i64 0) (.int .i64 0) (.string ⟨#[]⟩) 24
  have Z0 : Below w.heap.size w (((w.alloc (.cells #[.int .i64 3, .int .i64 n, .string s] 24)).alloc (.cells #[.int .i64 3, .int .i64 0, .string s'] 24)).alloc (.cells #[.int .i64 0, .int .i64 0, .string ⟨#[]⟩] 24)) := (((Below.refl _ _).alloc (Nat.le_refl _) _).alloc (by simp) _).alloc (by simp; omega) _
  simp only [World.size_alloc] at B0 R0
  go_enter Try.func45, Try.ntmps45
  go_wp2_with fail
  generalize (((w.alloc (.cells #[.int .i64 3, .int .i64 n, .string s] 24)).alloc (.cells #[.int .i64 3, .int .i64 0, .string s'] 24)).alloc (.cells #[.int .i64 0, .int .i64 0, .string ⟨#[]⟩] 24)) = W at *
  haveI : Nonempty (Past W) := ⟨⟨W, Below.refl _ _⟩⟩
  have x1 := past_cell A0.c1
  have y1 := past_cell B0.c1
  refine wp_region_past (by kernel_rfl) (by kernel_rfl) ?_
  repeat (go_big_quiet_step (fail))
  refine wpQuiet_nil ?_
  rintro _ ⟨⟨w1, hb1⟩, rfl⟩
  have R1 := R0.next hb1
  have Z1 := chain Z0 hb1
  clear A0 B0 R0 Z0 x1 y1 hb1
  have ⟨r0, r1, r2, r3, r4, r5, r6⟩ := R1
  go_wp2_with fail
  exact bodyPost_ret (v := .agg #[.int .i64 3, .int .i64 0, .string ⟨#[]⟩]) (by simp [results, Try.results45, go_sem, r1, r2, r3]) rfl ⟨rfl, below_set3 Z1 (by omega)⟩

theorem refReckon_x (c k n k' n' : Int) (s s' : ByteArray) (w : World) (h : (k != 3) = true) :
    Calls Try.prog 45 #[.int .i32 c, .agg #[.int .i64 k, .int .i64 n, .string s], .agg #[.int .i64 k', .int .i64 n', .string s']] w fun e w' => e = .returned (.agg #[.int .i64 1, .int .i64 0, .string ⟨#[]⟩]) ∧ Below w.heap.size w w' := by
  have R0 := Box.new ((w.alloc (.cells #[.int .i64 k, .int .i64 n, .string s] 24)).alloc (.cells #[.int .i64 k', .int .i64 n', .string s'] 24)) (.int .i64 0) (.int .i64 0) (.string ⟨#[]⟩) 24
  simp only [World.size_alloc] at R0
  go_enter Try.func45, Try.ntmps45
  go_wp2_with fail
  refine (refNull_any _).mono ?_
  rintro e w1 ⟨rfl, hb1⟩
  have ⟨r0, r1, r2, r3, r4, r5, r6⟩ := R0.next hb1
  go_wp2_with fail
  exact bodyPost_ret (v := .agg #[.int .i64 1, .int .i64 0, .string ⟨#[]⟩]) (by simp [results, Try.results45, go_sem, r1, r2, r3]) rfl ⟨rfl, below_set3 (below3 hb1) (by omega)⟩
theorem refReckon_y (c n k' n' : Int) (s s' : ByteArray) (w : World) (h : (k' != 3) = true) :
    Calls Try.prog 45 #[.int .i32 c, .agg #[.int .i64 3, .int .i64 n, .string s], .agg #[.int .i64 k', .int .i64 n', .string s']] w fun e w' => e = .returned (.agg #[.int .i64 1, .int .i64 0, .string ⟨#[]⟩]) ∧ Below w.heap.size w w' := by
  have R0 := Box.new ((w.alloc (.cells #[.int .i64 3, .int .i64 n, .string s] 24)).alloc (.cells #[.int .i64 k', .int .i64 n', .string s'] 24)) (.int .i64 0) (.int .i64 0) (.string ⟨#[]⟩) 24
  simp only [World.size_alloc] at R0
  go_enter Try.func45, Try.ntmps45
  go_wp2_with fail
  refine (refNull_any _).mono ?_
  rintro e w1 ⟨rfl, hb1⟩
  have ⟨r0, r1, r2, r3, r4, r5, r6⟩ := R0.next hb1
  go_wp2_with fail
  exact bodyPost_ret (v := .agg #[.int .i64 1, .int .i64 0, .string ⟨#[]⟩]) (by simp [results, Try.results45, go_sem, r1, r2, r3]) rfl ⟨rfl, below_set3 (below3 hb1) (by omega)⟩

theorem abs_lt_cases (n n' : Int) (hn : n' ≠ 0) (h : ¬ 1000000000000000 / (n'.natAbs : Int) < n) (h' : ¬ n < -(1000000000000000 / (n'.natAbs : Int))) : -1000000000000000 ≤ n * n' ∧ n * n' ≤ 1000000000000000 := by
  have := mul_in n' n (by omega) hn
  rwa [Int.mul_comm]
theorem refReckon_any (c k n k' n' : Int) (s s' : ByteArray) (w : World) (q : k = 3 → -1000000000000000 ≤ n ∧ n ≤ 1000000000000000) (q' : k' = 3 → -1000000000000000 ≤ n' ∧ n' ≤ 1000000000000000) :
    Calls Try.prog 45 #[.int .i32 c, .agg #[.int .i64 k, .int .i64 n, .string s], .agg #[.int .i64 k', .int .i64 n', .string s']] w fun e w' => e = .returned (.agg #[.int .i64 (optK (recO c k n k' n')), .int .i64 (optN (recO c k n k' n')), .string ⟨#[]⟩]) ∧ Below w.heap.size w w' := by
  by_cases hk : k = 3
  · subst hk
    by_cases hk' : k' = 3
    · subst hk'
      obtain ⟨q0, q1⟩ := q rfl
      obtain ⟨p0, p1⟩ := q' rfl
      have e : recO c 3 n 3 n' = recT c n n' := by simp [recO, numB, inB_mk q0 q1, inB_mk p0 p1]
      rw [e]
      by_cases c1 : c = 43
      · have e : recT c n n' = some (n + n') := by simp [recT, c1]
        rw [e]
        by_cases h1 : 1000000000000000 < n + n'
        · have i := inB_no (n := n + n') (.inr h1)
          simp only [optK, optN, intK, intN, i]
          exact refRec_add_gt c n n' s s' w (by omega) h1 c1
        by_cases h2 : n + n' < -1000000000000000
        · have i := inB_no (n := n + n') (.inl h2)
          simp only [optK, optN, intK, intN, i]
          exact refRec_add_lt c n n' s s' w (by omega) h1 h2 c1
        · have i := inB_mk (n := n + n') (by omega) (by omega)
          simp only [optK, optN, intK, intN, i]
          exact refRec_add_in c n n' s s' w h1 h2 c1
      by_cases c2 : c = 45
      · have e : recT c n n' = some (n - n') := by simp [recT, c2]
        rw [e]
        by_cases h1 : 1000000000000000 < n - n'
        · have i := inB_no (n := n - n') (.inr h1)
          simp only [optK, optN, intK, intN, i]
          exact refRec_sub_gt c n n' s s' w (by omega) h1 c2
        by_cases h2 : n - n' < -1000000000000000
        · have i := inB_no (n := n - n') (.inl h2)
          simp only [optK, optN, intK, intN, i]
          exact refRec_sub_lt c n n' s s' w (by omega) h1 h2 c2
        · have i := inB_mk (n := n - n') (by omega) (by omega)
          simp only [optK, optN, intK, intN, i]
          exact refRec_sub_in c n n' s s' w h1 h2 c2
      by_cases c3 : c = 42
      · have e : recT c n n' = some (n * n') := by simp [recT, c3]
        rw [e]
        by_cases hn : n' = 0
        · have e0 : n * n' = 0 := by rw [hn, Int.mul_zero]
          have i := inB_mk (n := 0) (by omega) (by omega)
          rw [e0]
          simp only [optK, optN, intK, intN, i]
          rw [hn]
          exact refRec_mul_0 c n s s' w c3
        by_cases h1 : 1000000000000000 / (n'.natAbs : Int) < n
        · have i : inB (n * n') = false := by rw [Int.mul_comm]; exact mul_out n' n (by omega) hn
          simp only [optK, optN, intK, intN, i]
          exact refRec_mul_gt c n n' s s' w p0 p1 hn h1 c3
        by_cases h2 : n < -(1000000000000000 / (n'.natAbs : Int))
        · have i : inB (n * n') = false := by rw [Int.mul_comm]; exact mul_out n' n (by omega) hn
          simp only [optK, optN, intK, intN, i]
          exact refRec_mul_lt c n n' s s' w p0 p1 hn h1 h2 c3
        · obtain ⟨m1, m2⟩ := abs_lt_cases n n' hn h1 h2
          have i := inB_mk m1 m2
          simp only [optK, optN, intK, intN, i]
          exact refRec_mul_in c n n' s s' w p0 p1 hn h1 h2 (by omega) (by omega) c3
      have e : recT c n n' = none := by simp [recT, c1, c2, c3]
      rw [e]; exact refRec_z c n n' s s' w (by simpa using c1) (by simpa using c2) (by simpa using c3)
    · have e : recO c 3 n k' n' = none := by simp [recO, numB, hk']
      rw [e]; exact refReckon_y c n k' n' s s' w (by simpa using hk')
  · have e : recO c k n k' n' = none := by simp [recO, numB, hk]
    rw [e]; exact refReckon_x c k n k' n' s s' w (by simpa using hk)
end Go.Proofs.Ytbdhmjojamoafaa
