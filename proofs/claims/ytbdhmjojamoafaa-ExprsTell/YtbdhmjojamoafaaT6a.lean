/- Of: or, and what is reckoned. -/
import Derived.Test.YtbdhmjojamoafaaT5
namespace Go.Proofs.Ytbdhmjojamoafaa
open Go.RowKit

set_option maxRecDepth 100000 in
set_option maxHeartbeats 4000000 in
theorem of_5 (v : Vl) (c : Int) (b off cap : Nat) (ra : Option Addr) (rn rcap : Nat) (w : World) (u0 : Vl) (k0 : KidOf b (off) ra rn rcap u0 w) (g0 : wrongP u0 = 0) (u1 : Vl) (k1 : KidOf b (off + 6) ra rn rcap u1 w) (g1 : wrongP u1 = 0) (m0 m1 : Bool) (e0 : (u0.1 != 1) = m0) (e1 : (u1.1 != 1) = m1) :
    Calls Try.prog 28 #[exV 5 v c (some ⟨b, off, none⟩) 2 cap, .slice ra rn rcap] w fun e w' => e = .returned (agV (orP u0 u1)) ∧ Below w.heap.size w w' := by
  have F := ow_facts w 5 v c (some ⟨b, off, none⟩) 2 cap
  replace k0 := k0.next F.low
  replace k1 := k1.next F.low
  unfold ow at F k0 k1
  obtain ⟨x0, ai0, ci0, S0, l0, con0⟩ := k0
  obtain ⟨a0, a1, a2, a3, a4, a5⟩ := S0
  replace con0 := con0 _ (Below.refl _ _)
  go_enter Try.func28, Try.ntmps28
  go_wp2_with fail
  refine con0.mono ?_
  clear con0
  rintro e w4 ⟨rfl, hb⟩
  clear a0 a1 a2 a3 a4 a5
  generalize (w.alloc (.cells #[.int .i64 5, .int .i64 v.1, .int .i64 v.2.1, .string v.2.2, .int .i64 c, .slice (some ⟨b, off, none⟩) 2 cap] 27)).alloc (.cells #[.int .i64 0, .int .i64 0, .string ⟨#[]⟩] 24) = w3 at *
  obtain ⟨S, R, hA, lt0⟩ := F
  replace S := S.next hb (by omega)
  replace R := R.next hb
  replace hA := chain hA hb
  replace lt0 := Nat.lt_of_lt_of_le lt0 hb.size
  replace k1 := k1.next hb
  clear hb
  have hal : Below w4.heap.size w4 (w4.alloc (.cells #[.int .i64 u0.1, .int .i64 u0.2.1, .string u0.2.2] 24)) := (Below.refl _ _).alloc (Nat.le_refl _) _
  have BA := Box.new w4 (.int .i64 u0.1) (.int .i64 u0.2.1) (.string u0.2.2) 24
  replace S := S.next hal (by omega)
  replace R := R.next hal
  replace hA := chain hA hal
  replace lt0 := Nat.lt_of_lt_of_le lt0 hal.size
  replace k1 := k1.next hal
  obtain ⟨x1, ai1, ci1, S1, l1, con1⟩ := k1
  obtain ⟨a0, a1, a2, a3, a4, a5⟩ := S1
  replace con1 := con1 _ (Below.refl _ _)
  have ⟨s0, s1, s2, s3, s4, s5⟩ := S
  simp only [Nat.zero_add] at s1 s2 s3 s4 s5
  have ⟨q0, q1, q2, q3, q4, q5, q6⟩ := BA
  go_wp2_with fail
  clear s0 s1 s2 s3 s4 s5
  clear a0 a1 a2 a3 a4 a5
  clear q0 q1 q2 q3 q4 q5 q6
  refine (con1).mono ?_
  rintro e w6 ⟨rfl, hb⟩
  replace S := S.next hb (by omega)
  replace hA := chain hA hb
  replace lt0 := Nat.lt_of_lt_of_le lt0 hb.size
  replace R := R.next hb
  replace BA := BA.next hb
  clear con1
  have hal2 : Below w6.heap.size w6 (w6.alloc (.cells #[.int .i64 u1.1, .int .i64 u1.2.1, .string u1.2.2] 24)) := (Below.refl _ _).alloc (Nat.le_refl _) _
  have BB := Box.new w6 (.int .i64 u1.1) (.int .i64 u1.2.1) (.string u1.2.2) 24
  replace S := S.next hal2 (by omega)
  replace R := R.next hal2
  replace BA := BA.next hal2
  replace hA := chain hA hal2
  replace lt0 := Nat.lt_of_lt_of_le lt0 hal2.size
  obtain ⟨w1', w4'⟩ := wrong_kind g0
  have n0 : (u0.1 != 1) = m0 := e0
  have n1 : (u1.1 != 1) = m1 := e1
  cases m0 <;> cases m1
  all_goals
    have ⟨s0, s1, s2, s3, s4, s5⟩ := S
    simp only [Nat.zero_add] at s1 s2 s3 s4 s5
    have ⟨q0, q1, q2, q3, q4, q5, q6⟩ := BA
    have ⟨r0, r1, r2, r3, r4, r5, r6⟩ := BB
    go_wp2_with fail
    refine (refOrder_any _ _ _ _ _ _ _ w1' w4').mono ?_
    rintro e w8 ⟨rfl, hb8⟩
    have S8 := S.next hb8 (by omega)
    have R8 := R.next hb8
    have BA8 := BA.next hb8
    have BB8 := BB.next hb8
    have hA8 := chain hA hb8
    have lt8 := Nat.lt_of_lt_of_le lt0 hb8.size
    generalize cmpV u0.1 u0.2.1 u0.2.2 u1.1 u1.2.1 u1.2.2 = oo at *
    clear s0 s1 s2 s3 s4 s5 q0 q1 q2 q3 q4 q5 q6 r0 r1 r2 r3 r4 r5 r6
    have ⟨s0, s1, s2, s3, s4, s5⟩ := S8
    simp only [Nat.zero_add] at s1 s2 s3 s4 s5
    have ⟨q0, q1, q2, q3, q4, q5, q6⟩ := BA8
    have ⟨r0, r1, r2, r3, r4, r5, r6⟩ := BB8
    go_wp2_with fail
    refine (refOr_any _ _ _ _ _ _ _ (wrong_tru g0) (wrong_tru g1)).mono ?_
    rintro e w9 ⟨rfl, hb9⟩
    have hA9 := chain hA8 hb9
    have ⟨b0, b1, b2, b3, b4, b5, b6⟩ := R8.next hb9
    have lt9 := Nat.lt_of_lt_of_le lt8 hb9.size
    clear s0 s1 s2 s3 s4 s5 q0 q1 q2 q3 q4 q5 q6 r0 r1 r2 r3 r4 r5 r6
    go_wp2_with fail
    exact bodyPost_ret (v := .agg #[.int .i64 (tk (or3 (cls u0.1 u0.2.1) (cls u1.1 u1.2.1))), .int .i64 (tn (or3 (cls u0.1 u0.2.1) (cls u1.1 u1.2.1))), .string ⟨#[]⟩]) (by simp [results, Try.results28, go_sem, b1, b2, b3]) rfl ⟨rfl, below_set3 hA9 (by omega)⟩

set_option maxRecDepth 100000 in
set_option maxHeartbeats 4000000 in
theorem of_12 (v : Vl) (c : Int) (b off cap : Nat) (ra : Option Addr) (rn rcap : Nat) (w : World) (u0 : Vl) (k0 : KidOf b (off) ra rn rcap u0 w) (g0 : wrongP u0 = 0) (u1 : Vl) (k1 : KidOf b (off + 6) ra rn rcap u1 w) (g1 : wrongP u1 = 0) (m0 m1 : Bool) (e0 : (u0.1 != 1) = m0) (e1 : (u1.1 != 1) = m1) :
    Calls Try.prog 28 #[exV 12 v c (some ⟨b, off, none⟩) 2 cap, .slice ra rn rcap] w fun e w' => e = .returned (agV (recP 43 u0 u1)) ∧ Below w.heap.size w w' := by
  have F := ow_facts w 12 v c (some ⟨b, off, none⟩) 2 cap
  replace k0 := k0.next F.low
  replace k1 := k1.next F.low
  unfold ow at F k0 k1
  obtain ⟨x0, ai0, ci0, S0, l0, con0⟩ := k0
  obtain ⟨a0, a1, a2, a3, a4, a5⟩ := S0
  replace con0 := con0 _ (Below.refl _ _)
  go_enter Try.func28, Try.ntmps28
  go_wp2_with fail
  refine con0.mono ?_
  clear con0
  rintro e w4 ⟨rfl, hb⟩
  clear a0 a1 a2 a3 a4 a5
  generalize (w.alloc (.cells #[.int .i64 12, .int .i64 v.1, .int .i64 v.2.1, .string v.2.2, .int .i64 c, .slice (some ⟨b, off, none⟩) 2 cap] 27)).alloc (.cells #[.int .i64 0, .int .i64 0, .string ⟨#[]⟩] 24) = w3 at *
  obtain ⟨S, R, hA, lt0⟩ := F
  replace S := S.next hb (by omega)
  replace R := R.next hb
  replace hA := chain hA hb
  replace lt0 := Nat.lt_of_lt_of_le lt0 hb.size
  replace k1 := k1.next hb
  clear hb
  have hal : Below w4.heap.size w4 (w4.alloc (.cells #[.int .i64 u0.1, .int .i64 u0.2.1, .string u0.2.2] 24)) := (Below.refl _ _).alloc (Nat.le_refl _) _
  have BA := Box.new w4 (.int .i64 u0.1) (.int .i64 u0.2.1) (.string u0.2.2) 24
  replace S := S.next hal (by omega)
  replace R := R.next hal
  replace hA := chain hA hal
  replace lt0 := Nat.lt_of_lt_of_le lt0 hal.size
  replace k1 := k1.next hal
  obtain ⟨x1, ai1, ci1, S1, l1, con1⟩ := k1
  obtain ⟨a0, a1, a2, a3, a4, a5⟩ := S1
  replace con1 := con1 _ (Below.refl _ _)
  have ⟨s0, s1, s2, s3, s4, s5⟩ := S
  simp only [Nat.zero_add] at s1 s2 s3 s4 s5
  have ⟨q0, q1, q2, q3, q4, q5, q6⟩ := BA
  go_wp2_with fail
  clear s0 s1 s2 s3 s4 s5
  clear a0 a1 a2 a3 a4 a5
  clear q0 q1 q2 q3 q4 q5 q6
  refine (con1).mono ?_
  rintro e w6 ⟨rfl, hb⟩
  replace S := S.next hb (by omega)
  replace hA := chain hA hb
  replace lt0 := Nat.lt_of_lt_of_le lt0 hb.size
  replace R := R.next hb
  replace BA := BA.next hb
  clear con1
  have hal2 : Below w6.heap.size w6 (w6.alloc (.cells #[.int .i64 u1.1, .int .i64 u1.2.1, .string u1.2.2] 24)) := (Below.refl _ _).alloc (Nat.le_refl _) _
  have BB := Box.new w6 (.int .i64 u1.1) (.int .i64 u1.2.1) (.string u1.2.2) 24
  replace S := S.next hal2 (by omega)
  replace R := R.next hal2
  replace BA := BA.next hal2
  replace hA := chain hA hal2
  replace lt0 := Nat.lt_of_lt_of_le lt0 hal2.size
  obtain ⟨w1', w4'⟩ := wrong_kind g0
  have n0 : (u0.1 != 1) = m0 := e0
  have n1 : (u1.1 != 1) = m1 := e1
  cases m0 <;> cases m1
  all_goals
    have ⟨s0, s1, s2, s3, s4, s5⟩ := S
    simp only [Nat.zero_add] at s1 s2 s3 s4 s5
    have ⟨q0, q1, q2, q3, q4, q5, q6⟩ := BA
    have ⟨r0, r1, r2, r3, r4, r5, r6⟩ := BB
    go_wp2_with fail
    refine (refOrder_any _ _ _ _ _ _ _ w1' w4').mono ?_
    rintro e w8 ⟨rfl, hb8⟩
    have S8 := S.next hb8 (by omega)
    have R8 := R.next hb8
    have BA8 := BA.next hb8
    have BB8 := BB.next hb8
    have hA8 := chain hA hb8
    have lt8 := Nat.lt_of_lt_of_le lt0 hb8.size
    generalize cmpV u0.1 u0.2.1 u0.2.2 u1.1 u1.2.1 u1.2.2 = oo at *
    clear s0 s1 s2 s3 s4 s5 q0 q1 q2 q3 q4 q5 q6 r0 r1 r2 r3 r4 r5 r6
    have ⟨s0, s1, s2, s3, s4, s5⟩ := S8
    simp only [Nat.zero_add] at s1 s2 s3 s4 s5
    have ⟨q0, q1, q2, q3, q4, q5, q6⟩ := BA8
    have ⟨r0, r1, r2, r3, r4, r5, r6⟩ := BB8
    go_wp2_with fail
    refine (refReckon_any 43 _ _ _ _ _ _ _ (wrong_num g0) (wrong_num g1)).mono ?_
    rintro e w9 ⟨rfl, hb9⟩
    have hA9 := chain hA8 hb9
    have ⟨b0, b1, b2, b3, b4, b5, b6⟩ := R8.next hb9
    have lt9 := Nat.lt_of_lt_of_le lt8 hb9.size
    clear s0 s1 s2 s3 s4 s5 q0 q1 q2 q3 q4 q5 q6 r0 r1 r2 r3 r4 r5 r6
    go_wp2_with fail
    exact bodyPost_ret (v := .agg #[.int .i64 (optK (recO 43 u0.1 u0.2.1 u1.1 u1.2.1)), .int .i64 (optN (recO 43 u0.1 u0.2.1 u1.1 u1.2.1)), .string ⟨#[]⟩]) (by simp [results, Try.results28, go_sem, b1, b2, b3]) rfl ⟨rfl, below_set3 hA9 (by omega)⟩

set_option maxRecDepth 100000 in
set_option maxHeartbeats 4000000 in
theorem of_13 (v : Vl) (c : Int) (b off cap : Nat) (ra : Option Addr) (rn rcap : Nat) (w : World) (u0 : Vl) (k0 : KidOf b (off) ra rn rcap u0 w) (g0 : wrongP u0 = 0) (u1 : Vl) (k1 : KidOf b (off + 6) ra rn rcap u1 w) (g1 : wrongP u1 = 0) (m0 m1 : Bool) (e0 : (u0.1 != 1) = m0) (e1 : (u1.1 != 1) = m1) :
    Calls Try.prog 28 #[exV 13 v c (some ⟨b, off, none⟩) 2 cap, .slice ra rn rcap] w fun e w' => e = .returned (agV (recP 45 u0 u1)) ∧ Below w.heap.size w w' := by
  have F := ow_facts w 13 v c (some ⟨b, off, none⟩) 2 cap
  replace k0 := k0.next F.low
  replace k1 := k1.next F.low
  unfold ow at F k0 k1
  obtain ⟨x0, ai0, ci0, S0, l0, con0⟩ := k0
  obtain ⟨a0, a1, a2, a3, a4, a5⟩ := S0
  replace con0 := con0 _ (Below.refl _ _)
  go_enter Try.func28, Try.ntmps28
  go_wp2_with fail
  refine con0.mono ?_
  clear con0
  rintro e w4 ⟨rfl, hb⟩
  clear a0 a1 a2 a3 a4 a5
  generalize (w.alloc (.cells #[.int .i64 13, .int .i64 v.1, .int .i64 v.2.1, .string v.2.2, .int .i64 c, .slice (some ⟨b, off, none⟩) 2 cap] 27)).alloc (.cells #[.int .i64 0, .int .i64 0, .string ⟨#[]⟩] 24) = w3 at *
  obtain ⟨S, R, hA, lt0⟩ := F
  replace S := S.next hb (by omega)
  replace R := R.next hb
  replace hA := chain hA hb
  replace lt0 := Nat.lt_of_lt_of_le lt0 hb.size
  replace k1 := k1.next hb
  clear hb
  have hal : Below w4.heap.size w4 (w4.alloc (.cells #[.int .i64 u0.1, .int .i64 u0.2.1, .string u0.2.2] 24)) := (Below.refl _ _).alloc (Nat.le_refl _) _
  have BA := Box.new w4 (.int .i64 u0.1) (.int .i64 u0.2.1) (.string u0.2.2) 24
  replace S := S.next hal (by omega)
  replace R := R.next hal
  replace hA := chain hA hal
  replace lt0 := Nat.lt_of_lt_of_le lt0 hal.size
  replace k1 := k1.next hal
  obtain ⟨x1, ai1, ci1, S1, l1, con1⟩ := k1
  obtain ⟨a0, a1, a2, a3, a4, a5⟩ := S1
  replace con1 := con1 _ (Below.refl _ _)
  have ⟨s0, s1, s2, s3, s4, s5⟩ := S
  simp only [Nat.zero_add] at s1 s2 s3 s4 s5
  have ⟨q0, q1, q2, q3, q4, q5, q6⟩ := BA
  go_wp2_with fail
  clear s0 s1 s2 s3 s4 s5
  clear a0 a1 a2 a3 a4 a5
  clear q0 q1 q2 q3 q4 q5 q6
  refine (con1).mono ?_
  rintro e w6 ⟨rfl, hb⟩
  replace S := S.next hb (by omega)
  replace hA := chain hA hb
  replace lt0 := Nat.lt_of_lt_of_le lt0 hb.size
  replace R := R.next hb
  replace BA := BA.next hb
  clear con1
  have hal2 : Below w6.heap.size w6 (w6.alloc (.cells #[.int .i64 u1.1, .int .i64 u1.2.1, .string u1.2.2] 24)) := (Below.refl _ _).alloc (Nat.le_refl _) _
  have BB := Box.new w6 (.int .i64 u1.1) (.int .i64 u1.2.1) (.string u1.2.2) 24
  replace S := S.next hal2 (by omega)
  replace R := R.next hal2
  replace BA := BA.next hal2
  replace hA := chain hA hal2
  replace lt0 := Nat.lt_of_lt_of_le lt0 hal2.size
  obtain ⟨w1', w4'⟩ := wrong_kind g0
  have n0 : (u0.1 != 1) = m0 := e0
  have n1 : (u1.1 != 1) = m1 := e1
  cases m0 <;> cases m1
  all_goals
    have ⟨s0, s1, s2, s3, s4, s5⟩ := S
    simp only [Nat.zero_add] at s1 s2 s3 s4 s5
    have ⟨q0, q1, q2, q3, q4, q5, q6⟩ := BA
    have ⟨r0, r1, r2, r3, r4, r5, r6⟩ := BB
    go_wp2_with fail
    refine (refOrder_any _ _ _ _ _ _ _ w1' w4').mono ?_
    rintro e w8 ⟨rfl, hb8⟩
    have S8 := S.next hb8 (by omega)
    have R8 := R.next hb8
    have BA8 := BA.next hb8
    have BB8 := BB.next hb8
    have hA8 := chain hA hb8
    have lt8 := Nat.lt_of_lt_of_le lt0 hb8.size
    generalize cmpV u0.1 u0.2.1 u0.2.2 u1.1 u1.2.1 u1.2.2 = oo at *
    clear s0 s1 s2 s3 s4 s5 q0 q1 q2 q3 q4 q5 q6 r0 r1 r2 r3 r4 r5 r6
    have ⟨s0, s1, s2, s3, s4, s5⟩ := S8
    simp only [Nat.zero_add] at s1 s2 s3 s4 s5
    have ⟨q0, q1, q2, q3, q4, q5, q6⟩ := BA8
    have ⟨r0, r1, r2, r3, r4, r5, r6⟩ := BB8
    go_wp2_with fail
    refine (refReckon_any 45 _ _ _ _ _ _ _ (wrong_num g0) (wrong_num g1)).mono ?_
    rintro e w9 ⟨rfl, hb9⟩
    have hA9 := chain hA8 hb9
    have ⟨b0, b1, b2, b3, b4, b5, b6⟩ := R8.next hb9
    have lt9 := Nat.lt_of_lt_of_le lt8 hb9.size
    clear s0 s1 s2 s3 s4 s5 q0 q1 q2 q3 q4 q5 q6 r0 r1 r2 r3 r4 r5 r6
    go_wp2_with fail
    exact bodyPost_ret (v := .agg #[.int .i64 (optK (recO 45 u0.1 u0.2.1 u1.1 u1.2.1)), .int .i64 (optN (recO 45 u0.1 u0.2.1 u1.1 u1.2.1)), .string ⟨#[]⟩]) (by simp [results, Try.results28, go_sem, b1, b2, b3]) rfl ⟨rfl, below_set3 hA9 (by omega)⟩
end Go.Proofs.Ytbdhmjojamoafaa
