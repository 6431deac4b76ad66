/- Together: T6b, T7a, T7b, T7c, T8, RP, R1, R2, R3. -/
import Derived.Test.YtfojonhblblbjaaGreatUB10
import Derived.Test.YtfojonhblblbjaaGreatUB7
import Derived.Test.YtfojonhblblbjaaGreatUB5
import Derived.Test.YtfojonhblblbjaaGreatUB6
/- Of: products, texts; values and columns. -/
namespace Go.Proofs.YtfojonhblblbjaaGreat
open Go.RowKit

set_option maxRecDepth 100000 in
set_option maxRecDepth 100000 in
set_option maxHeartbeats 4000000 in
theorem of_14 (v : Vl) (c : Int) (b off cap : Nat) (ra : Option Addr) (rn rcap : Nat) (w : World) (u0 : Vl) (k0 : KidOf b (off) ra rn rcap u0 w) (g0 : wrongP u0 = 0) (u1 : Vl) (k1 : KidOf b (off + 6) ra rn rcap u1 w) (g1 : wrongP u1 = 0) (m0 m1 : Bool) (e0 : (u0.1 != 1) = m0) (e1 : (u1.1 != 1) = m1) :
  Calls Tryz.prog 77 #[exV 14 v c (some ⟨b, off, none⟩) 2 cap, .slice ra rn rcap] w fun e w' => e = .returned (agV (recP 42 u0 u1)) ∧ Below w.heap.size w w' := by
 have F := ow_facts w 14 v c (some ⟨b, off, none⟩) 2 cap
 replace k0 := k0.next F.low
 replace k1 := k1.next F.low
 unfold ow at F k0 k1
 obtain ⟨x0, ai0, ci0, S0, l0, con0⟩ := k0
 obtain ⟨a0, a1, a2, a3, a4, a5⟩ := S0
 replace con0 := con0 _ (Below.refl _ _)
 go_enter Tryz.func77, Tryz.ntmps77
 go_wp2_with fail
 refine con0.mono ?_
 clear con0
 rintro e w4 ⟨rfl, hb⟩
 clear a0 a1 a2 a3 a4 a5
 generalize (w.alloc (.cells #[.int .i64 14, .int .i64 v.1, .int .i64 v.2.1, .string v.2.2, .int .i64 c, .slice (some ⟨b, off, none⟩) 2 cap] 27)).alloc (.cells #[.int .i64 0, .int .i64 0, .string ⟨#[]⟩] 24) = w3 at *
 obtain ⟨S, R, hA, lt0⟩ := F
 replace S := S.next hb (by omega)
 replace R := R.next hb
 replace hA := chain hA hb
 replace lt0 := Nat.lt_of_lt_of_le lt0 hb.size
 replace k1 := k1.next hb
 clear hb
 have hal : Below w4.heap.size w4 (w4.alloc (.cells #[.int .i64 u0.1, .int .i64 u0.2.1, .string u0.2.2] 24)) := (Below.refl _ _).alloc (Nat.le_refl _) _
 have BA := Box.new w4 (.int .i64 u0.1) (.int .i64 u0.2.1) (.string u0.2.2) 24
 replace S := S.next hal (by omega)
 replace R := R.next hal
 replace hA := chain hA hal
 replace lt0 := Nat.lt_of_lt_of_le lt0 hal.size
 replace k1 := k1.next hal
 obtain ⟨x1, ai1, ci1, S1, l1, con1⟩ := k1
 obtain ⟨a0, a1, a2, a3, a4, a5⟩ := S1
 replace con1 := con1 _ (Below.refl _ _)
 have ⟨s0, s1, s2, s3, s4, s5⟩ := S
 simp only [Nat.zero_add] at s1 s2 s3 s4 s5
 have ⟨q0, q1, q2, q3, q4, q5, q6⟩ := BA
 go_wp2_with fail
 clear s0 s1 s2 s3 s4 s5
 clear a0 a1 a2 a3 a4 a5
 clear q0 q1 q2 q3 q4 q5 q6
 refine (con1).mono ?_
 rintro e w6 ⟨rfl, hb⟩
 replace S := S.next hb (by omega)
 replace hA := chain hA hb
 replace lt0 := Nat.lt_of_lt_of_le lt0 hb.size
 replace R := R.next hb
 replace BA := BA.next hb
 clear con1
 have hal2 : Below w6.heap.size w6 (w6.alloc (.cells #[.int .i64 u1.1, .int .i64 u1.2.1, .string u1.2.2] 24)) := (Below.refl _ _).alloc (Nat.le_refl _) _
 have BB := Box.new w6 (.int .i64 u1.1) (.int .i64 u1.2.1) (.string u1.2.2) 24
 replace S := S.next hal2 (by omega)
 replace R := R.next hal2
 replace BA := BA.next hal2
 replace hA := chain hA hal2
 replace lt0 := Nat.lt_of_lt_of_le lt0 hal2.size
 obtain ⟨w1', w4'⟩ := wrong_kind g0
 have n0 : (u0.1 != 1) = m0 := e0
 have n1 : (u1.1 != 1) = m1 := e1
 cases m0 <;> cases m1
 all_goals
  have ⟨s0, s1, s2, s3, s4, s5⟩ := S
  simp only [Nat.zero_add] at s1 s2 s3 s4 s5
  have ⟨q0, q1, q2, q3, q4, q5, q6⟩ := BA
  have ⟨r0, r1, r2, r3, r4, r5, r6⟩ := BB
  go_wp2_with fail
  refine (refOrder_any _ _ _ _ _ _ _ w1' w4').mono ?_
  rintro e w8 ⟨rfl, hb8⟩
  have S8 := S.next hb8 (by omega)
  have R8 := R.next hb8
  have BA8 := BA.next hb8
  have BB8 := BB.next hb8
  have hA8 := chain hA hb8
  have lt8 := Nat.lt_of_lt_of_le lt0 hb8.size
  generalize cmpV u0.1 u0.2.1 u0.2.2 u1.1 u1.2.1 u1.2.2 = oo at *
  clear s0 s1 s2 s3 s4 s5 q0 q1 q2 q3 q4 q5 q6 r0 r1 r2 r3 r4 r5 r6
  have ⟨s0, s1, s2, s3, s4, s5⟩ := S8
  simp only [Nat.zero_add] at s1 s2 s3 s4 s5
  have ⟨q0, q1, q2, q3, q4, q5, q6⟩ := BA8
  have ⟨r0, r1, r2, r3, r4, r5, r6⟩ := BB8
  go_wp2_with fail
  refine (refReckon_any 42 _ _ _ _ _ _ _ (wrong_num g0) (wrong_num g1)).mono ?_
  rintro e w9 ⟨rfl, hb9⟩
  have hA9 := chain hA8 hb9
  have ⟨b0, b1, b2, b3, b4, b5, b6⟩ := R8.next hb9
  have lt9 := Nat.lt_of_lt_of_le lt8 hb9.size
  clear s0 s1 s2 s3 s4 s5 q0 q1 q2 q3 q4 q5 q6 r0 r1 r2 r3 r4 r5 r6
  go_wp2_with fail
  exact bodyPost_ret (v := .agg #[.int .i64 (optK (recO 42 u0.1 u0.2.1 u1.1 u1.2.1)), .int .i64 (optN (recO 42 u0.1 u0.2.1 u1.1 u1.2.1)), .string ⟨#[]⟩]) (by simp [results, Tryz.results77, go_sem, b1, b2, b3]) rfl ⟨rfl, below_set3 hA9 (by omega)⟩

set_option maxRecDepth 100000 in
set_option maxRecDepth 100000 in
set_option maxHeartbeats 4000000 in
theorem of_15 (v : Vl) (c : Int) (b off cap : Nat) (ra : Option Addr) (rn rcap : Nat) (w : World) (u0 : Vl) (k0 : KidOf b (off) ra rn rcap u0 w) (g0 : wrongP u0 = 0) (u1 : Vl) (k1 : KidOf b (off + 6) ra rn rcap u1 w) (g1 : wrongP u1 = 0) (m0 m1 : Bool) (e0 : (u0.1 != 1) = m0) (e1 : (u1.1 != 1) = m1) :
  Calls Tryz.prog 77 #[exV 15 v c (some ⟨b, off, none⟩) 2 cap, .slice ra rn rcap] w fun e w' => e = .returned (agV (joinP u0 u1)) ∧ Below w.heap.size w w' := by
 have F := ow_facts w 15 v c (some ⟨b, off, none⟩) 2 cap
 replace k0 := k0.next F.low
 replace k1 := k1.next F.low
 unfold ow at F k0 k1
 obtain ⟨x0, ai0, ci0, S0, l0, con0⟩ := k0
 obtain ⟨a0, a1, a2, a3, a4, a5⟩ := S0
 replace con0 := con0 _ (Below.refl _ _)
 go_enter Tryz.func77, Tryz.ntmps77
 go_wp2_with fail
 refine con0.mono ?_
 clear con0
 rintro e w4 ⟨rfl, hb⟩
 clear a0 a1 a2 a3 a4 a5
 generalize (w.alloc (.cells #[.int .i64 15, .int .i64 v.1, .int .i64 v.2.1, .string v.2.2, .int .i64 c, .slice (some ⟨b, off, none⟩) 2 cap] 27)).alloc (.cells #[.int .i64 0, .int .i64 0, .string ⟨#[]⟩] 24) = w3 at *
 obtain ⟨S, R, hA, lt0⟩ := F
 replace S := S.next hb (by omega)
 replace R := R.next hb
 replace hA := chain hA hb
 replace lt0 := Nat.lt_of_lt_of_le lt0 hb.size
 replace k1 := k1.next hb
 clear hb
 have hal : Below w4.heap.size w4 (w4.alloc (.cells #[.int .i64 u0.1, .int .i64 u0.2.1, .string u0.2.2] 24)) := (Below.refl _ _).alloc (Nat.le_refl _) _
 have BA := Box.new w4 (.int .i64 u0.1) (.int .i64 u0.2.1) (.string u0.2.2) 24
 replace S := S.next hal (by omega)
 replace R := R.next hal
 replace hA := chain hA hal
 replace lt0 := Nat.lt_of_lt_of_le lt0 hal.size
 replace k1 := k1.next hal
 obtain ⟨x1, ai1, ci1, S1, l1, con1⟩ := k1
 obtain ⟨a0, a1, a2, a3, a4, a5⟩ := S1
 replace con1 := con1 _ (Below.refl _ _)
 have ⟨s0, s1, s2, s3, s4, s5⟩ := S
 simp only [Nat.zero_add] at s1 s2 s3 s4 s5
 have ⟨q0, q1, q2, q3, q4, q5, q6⟩ := BA
 go_wp2_with fail
 clear s0 s1 s2 s3 s4 s5
 clear a0 a1 a2 a3 a4 a5
 clear q0 q1 q2 q3 q4 q5 q6
 refine (con1).mono ?_
 rintro e w6 ⟨rfl, hb⟩
 replace S := S.next hb (by omega)
 replace hA := chain hA hb
 replace lt0 := Nat.lt_of_lt_of_le lt0 hb.size
 replace R := R.next hb
 replace BA := BA.next hb
 clear con1
 have hal2 : Below w6.heap.size w6 (w6.alloc (.cells #[.int .i64 u1.1, .int .i64 u1.2.1, .string u1.2.2] 24)) := (Below.refl _ _).alloc (Nat.le_refl _) _
 have BB := Box.new w6 (.int .i64 u1.1) (.int .i64 u1.2.1) (.string u1.2.2) 24
 replace S := S.next hal2 (by omega)
 replace R := R.next hal2
 replace BA := BA.next hal2
 replace hA := chain hA hal2
 replace lt0 := Nat.lt_of_lt_of_le lt0 hal2.size
 obtain ⟨w1', w4'⟩ := wrong_kind g0
 have n0 : (u0.1 != 1) = m0 := e0
 have n1 : (u1.1 != 1) = m1 := e1
 cases m0 <;> cases m1
 all_goals
  have ⟨s0, s1, s2, s3, s4, s5⟩ := S
  simp only [Nat.zero_add] at s1 s2 s3 s4 s5
  have ⟨q0, q1, q2, q3, q4, q5, q6⟩ := BA
  have ⟨r0, r1, r2, r3, r4, r5, r6⟩ := BB
  go_wp2_with fail
  refine (refOrder_any _ _ _ _ _ _ _ w1' w4').mono ?_
  rintro e w8 ⟨rfl, hb8⟩
  have S8 := S.next hb8 (by omega)
  have R8 := R.next hb8
  have BA8 := BA.next hb8
  have BB8 := BB.next hb8
  have hA8 := chain hA hb8
  have lt8 := Nat.lt_of_lt_of_le lt0 hb8.size
  generalize cmpV u0.1 u0.2.1 u0.2.2 u1.1 u1.2.1 u1.2.2 = oo at *
  clear s0 s1 s2 s3 s4 s5 q0 q1 q2 q3 q4 q5 q6 r0 r1 r2 r3 r4 r5 r6
  have ⟨s0, s1, s2, s3, s4, s5⟩ := S8
  simp only [Nat.zero_add] at s1 s2 s3 s4 s5
  have ⟨q0, q1, q2, q3, q4, q5, q6⟩ := BA8
  have ⟨r0, r1, r2, r3, r4, r5, r6⟩ := BB8
  go_wp2_with fail
  refine (refJoin_any _ _ _ _ _ _ _ (wrong_text g0) (wrong_text g1)).mono ?_
  rintro e w9 ⟨rfl, hb9⟩
  have hA9 := chain hA8 hb9
  have ⟨b0, b1, b2, b3, b4, b5, b6⟩ := R8.next hb9
  have lt9 := Nat.lt_of_lt_of_le lt8 hb9.size
  clear s0 s1 s2 s3 s4 s5 q0 q1 q2 q3 q4 q5 q6 r0 r1 r2 r3 r4 r5 r6
  go_wp2_with fail
  exact bodyPost_ret (v := .agg #[.int .i64 (joinK u0.1 u0.2.2 u1.1 u1.2.2), .int .i64 0, .string (joinS u0.1 u0.2.2 u1.1 u1.2.2)]) (by simp [results, Tryz.results77, go_sem, b1, b2, b3]) rfl ⟨rfl, below_set3 hA9 (by omega)⟩

set_option maxRecDepth 100000 in
set_option maxRecDepth 100000 in
set_option maxHeartbeats 1000000 in
theorem of_1 (v : Vl) (c : Int) (a : Option Addr) (n cap : Nat) (ra : Option Addr) (rn rcap : Nat) (w : World) :
  Calls Tryz.prog 77 #[exV 1 v c a n cap, .slice ra rn rcap] w fun e w' => e = .returned (agV (bareP v)) ∧ Below w.heap.size w w' := by
 have F := ow_facts w 1 v c a n cap
 unfold ow at F
 go_enter Tryz.func77, Tryz.ntmps77
 go_wp2_with fail
 generalize (w.alloc (.cells #[.int .i64 1, .int .i64 v.1, .int .i64 v.2.1, .string v.2.2, .int .i64 c, .slice a n cap] 27)).alloc (.cells #[.int .i64 0, .int .i64 0, .string ⟨#[]⟩] 24) = w3 at *
 obtain ⟨S, R, hA, lt0⟩ := F
 refine (refBare_any _ _ _ _).mono ?_
 rintro e w4 ⟨rfl, hb⟩
 have hA := chain hA hb
 have ⟨b0, b1, b2, b3, b4, b5, b6⟩ := R.next hb
 clear S
 go_wp2_with fail
 exact bodyPost_ret (v := .agg #[.int .i64 v.1, .int .i64 (bareN v.1 v.2.1), .string (bareS v.1 v.2.2)]) (by simp [results, Tryz.results77, go_sem, b1, b2, b3]) rfl ⟨rfl, below_set3 hA (by omega)⟩
set_option maxRecDepth 100000 in
set_option maxRecDepth 100000 in
set_option maxHeartbeats 1000000 in
theorem of_2 (v : Vl) (c : Int) (a : Option Addr) (n cap : Nat) (ra : Option Addr) (rcap : Nat) (w : World) (row : List Vl) (j : Nat) (hj : j < row.length) (hc : c = j) (hs : SlAt w ra row) :
  Calls Tryz.prog 77 #[exV 2 v c a n cap, .slice ra row.length rcap] w fun e w' => e = .returned (agV (bareP row[j])) ∧ Below w.heap.size w w' := by
 subst hc
 have F := ow_facts w 2 v j a n cap
 obtain ⟨b, off, rfl, hbl, r0, r1, r2⟩ := (hs.next F.low).elem hj
 generalize row[j] = u at *
 unfold ow at F r0 r1 r2
 go_enter Tryz.func77, Tryz.ntmps77
 go_wp2_with fail
 generalize (w.alloc (.cells #[.int .i64 2, .int .i64 v.1, .int .i64 v.2.1, .string v.2.2, .int .i64 j, .slice a n cap] 27)).alloc (.cells #[.int .i64 0, .int .i64 0, .string ⟨#[]⟩] 24) = w3 at *
 obtain ⟨S, R, hA, lt0⟩ := F
 refine (refBare_any _ _ _ _).mono ?_
 rintro e w4 ⟨rfl, hb⟩
 have hA := chain hA hb
 have ⟨b0, b1, b2, b3, b4, b5, b6⟩ := R.next hb
 clear S r0 r1 r2
 go_wp2_with fail
 exact bodyPost_ret (v := .agg #[.int .i64 u.1, .int .i64 (bareN u.1 u.2.1), .string (bareS u.1 u.2.2)]) (by simp [results, Tryz.results77, go_sem, b1, b2, b3]) rfl ⟨rfl, below_set3 hA (by omega)⟩
end Go.Proofs.YtfojonhblblbjaaGreat
/- Of: comparisons. -/
namespace Go.Proofs.YtfojonhblblbjaaGreat
open Go.RowKit

set_option maxRecDepth 100000 in
set_option maxRecDepth 100000 in
set_option maxHeartbeats 4000000 in
theorem of_6 (v : Vl) (c : Int) (b off cap : Nat) (ra : Option Addr) (rn rcap : Nat) (w : World) (u0 : Vl) (k0 : KidOf b (off) ra rn rcap u0 w) (g0 : wrongP u0 = 0) (u1 : Vl) (k1 : KidOf b (off + 6) ra rn rcap u1 w) (_g1 : wrongP u1 = 0) (m0 m1 : Bool) (e0 : (u0.1 != 1) = m0) (e1 : (u1.1 != 1) = m1) (hk : (m0 && m1) = true → twoP 6 u0 u1 = tri (some ((cmpV u0.1 u0.2.1 u0.2.2 u1.1 u1.2.1 u1.2.2) == 0))) (hn : (m0 && m1) = false → twoP 6 u0 u1 = tri none) :
  Calls Tryz.prog 77 #[exV 6 v c (some ⟨b, off, none⟩) 2 cap, .slice ra rn rcap] w fun e w' => e = .returned (agV (twoP 6 u0 u1)) ∧ Below w.heap.size w w' := by
 have HK : Hid _ := hk
 have HN : Hid _ := hn
 clear hk hn
 have F := ow_facts w 6 v c (some ⟨b, off, none⟩) 2 cap
 replace k0 := k0.next F.low
 replace k1 := k1.next F.low
 unfold ow at F k0 k1
 obtain ⟨x0, ai0, ci0, S0, l0, con0⟩ := k0
 obtain ⟨a0, a1, a2, a3, a4, a5⟩ := S0
 replace con0 := con0 _ (Below.refl _ _)
 go_enter Tryz.func77, Tryz.ntmps77
 go_wp2_with fail
 refine con0.mono ?_
 clear con0
 rintro e w4 ⟨rfl, hb⟩
 clear a0 a1 a2 a3 a4 a5
 generalize (w.alloc (.cells #[.int .i64 6, .int .i64 v.1, .int .i64 v.2.1, .string v.2.2, .int .i64 c, .slice (some ⟨b, off, none⟩) 2 cap] 27)).alloc (.cells #[.int .i64 0, .int .i64 0, .string ⟨#[]⟩] 24) = w3 at *
 obtain ⟨S, R, hA, lt0⟩ := F
 replace S := S.next hb (by omega)
 replace R := R.next hb
 replace hA := chain hA hb
 replace lt0 := Nat.lt_of_lt_of_le lt0 hb.size
 replace k1 := k1.next hb
 clear hb
 have hal : Below w4.heap.size w4 (w4.alloc (.cells #[.int .i64 u0.1, .int .i64 u0.2.1, .string u0.2.2] 24)) := (Below.refl _ _).alloc (Nat.le_refl _) _
 have BA := Box.new w4 (.int .i64 u0.1) (.int .i64 u0.2.1) (.string u0.2.2) 24
 replace S := S.next hal (by omega)
 replace R := R.next hal
 replace hA := chain hA hal
 replace lt0 := Nat.lt_of_lt_of_le lt0 hal.size
 replace k1 := k1.next hal
 obtain ⟨x1, ai1, ci1, S1, l1, con1⟩ := k1
 obtain ⟨a0, a1, a2, a3, a4, a5⟩ := S1
 replace con1 := con1 _ (Below.refl _ _)
 have ⟨s0, s1, s2, s3, s4, s5⟩ := S
 simp only [Nat.zero_add] at s1 s2 s3 s4 s5
 have ⟨q0, q1, q2, q3, q4, q5, q6⟩ := BA
 go_wp2_with fail
 clear s0 s1 s2 s3 s4 s5
 clear a0 a1 a2 a3 a4 a5
 clear q0 q1 q2 q3 q4 q5 q6
 refine (con1).mono ?_
 rintro e w6 ⟨rfl, hb⟩
 replace S := S.next hb (by omega)
 replace hA := chain hA hb
 replace lt0 := Nat.lt_of_lt_of_le lt0 hb.size
 replace R := R.next hb
 replace BA := BA.next hb
 clear con1
 have hal2 : Below w6.heap.size w6 (w6.alloc (.cells #[.int .i64 u1.1, .int .i64 u1.2.1, .string u1.2.2] 24)) := (Below.refl _ _).alloc (Nat.le_refl _) _
 have BB := Box.new w6 (.int .i64 u1.1) (.int .i64 u1.2.1) (.string u1.2.2) 24
 replace S := S.next hal2 (by omega)
 replace R := R.next hal2
 replace BA := BA.next hal2
 replace hA := chain hA hal2
 replace lt0 := Nat.lt_of_lt_of_le lt0 hal2.size
 obtain ⟨w1', w4'⟩ := wrong_kind g0
 have n0 : (u0.1 != 1) = m0 := e0
 have n1 : (u1.1 != 1) = m1 := e1
 cases m0 <;> cases m1
 all_goals
  have ⟨s0, s1, s2, s3, s4, s5⟩ := S
  simp only [Nat.zero_add] at s1 s2 s3 s4 s5
  have ⟨q0, q1, q2, q3, q4, q5, q6⟩ := BA
  have ⟨r0, r1, r2, r3, r4, r5, r6⟩ := BB
  go_wp2_with fail
  refine (refOrder_any _ _ _ _ _ _ _ w1' w4').mono ?_
  rintro e w8 ⟨rfl, hb8⟩
  have S8 := S.next hb8 (by omega)
  have R8 := R.next hb8
  have BA8 := BA.next hb8
  have BB8 := BB.next hb8
  have hA8 := chain hA hb8
  have lt8 := Nat.lt_of_lt_of_le lt0 hb8.size
  have lz8 : w.heap.size < w8.heap.size := by omega
  generalize cmpV u0.1 u0.2.1 u0.2.2 u1.1 u1.2.1 u1.2.2 = oo at *
  clear s0 s1 s2 s3 s4 s5 q0 q1 q2 q3 q4 q5 q6 r0 r1 r2 r3 r4 r5 r6
  have ⟨s0, s1, s2, s3, s4, s5⟩ := S8
  simp only [Nat.zero_add] at s1 s2 s3 s4 s5
  have ⟨q0, q1, q2, q3, q4, q5, q6⟩ := BA8
  have ⟨r0, r1, r2, r3, r4, r5, r6⟩ := BB8
  go_wp2_with fail
 ·refine (refNull_any _).mono ?_
  rintro e w9 ⟨rfl, hb9⟩
  have hA9 := chain hA8 hb9
  have ⟨b0, b1, b2, b3, b4, b5, b6⟩ := R8.next hb9
  have lt9 := Nat.lt_of_lt_of_le lt8 hb9.size
  clear s0 s1 s2 s3 s4 s5 q0 q1 q2 q3 q4 q5 q6 r0 r1 r2 r3 r4 r5 r6
  go_wp2_with fail
  exact bodyPost_ret (v := .agg #[.int .i64 1, .int .i64 0, .string ⟨#[]⟩]) (by simp [results, Tryz.results77, go_sem, b1, b2, b3]) rfl ⟨by rw [HN.out rfl]; rfl, below_set3 hA9 (by omega)⟩
 ·refine (refNull_any _).mono ?_
  rintro e w9 ⟨rfl, hb9⟩
  have hA9 := chain hA8 hb9
  have ⟨b0, b1, b2, b3, b4, b5, b6⟩ := R8.next hb9
  have lt9 := Nat.lt_of_lt_of_le lt8 hb9.size
  clear s0 s1 s2 s3 s4 s5 q0 q1 q2 q3 q4 q5 q6 r0 r1 r2 r3 r4 r5 r6
  go_wp2_with fail
  exact bodyPost_ret (v := .agg #[.int .i64 1, .int .i64 0, .string ⟨#[]⟩]) (by simp [results, Tryz.results77, go_sem, b1, b2, b3]) rfl ⟨by rw [HN.out rfl]; rfl, below_set3 hA9 (by omega)⟩
 ·refine (refNull_any _).mono ?_
  rintro e w9 ⟨rfl, hb9⟩
  have hA9 := chain hA8 hb9
  have ⟨b0, b1, b2, b3, b4, b5, b6⟩ := R8.next hb9
  have lt9 := Nat.lt_of_lt_of_le lt8 hb9.size
  clear s0 s1 s2 s3 s4 s5 q0 q1 q2 q3 q4 q5 q6 r0 r1 r2 r3 r4 r5 r6
  go_wp2_with fail
  exact bodyPost_ret (v := .agg #[.int .i64 1, .int .i64 0, .string ⟨#[]⟩]) (by simp [results, Tryz.results77, go_sem, b1, b2, b3]) rfl ⟨by rw [HN.out rfl]; rfl, below_set3 hA9 (by omega)⟩
 ·refine (refTruth_any _ _).mono ?_
  rintro e w9 ⟨rfl, hb9⟩
  have hA9 := (hA8.alloc hA8.size _).trans (hb9.mono (Nat.le_trans hA8.size (by simp)))
  have R9 := (R8.alloc _).next hb9
  have ⟨b0, b1, b2, b3, b4, b5, b6⟩ := R9
  clear s0 s1 s2 s3 s4 s5 q0 q1 q2 q3 q4 q5 q6 r0 r1 r2 r3 r4 r5 r6
  go_wp2_with fail
  exact bodyPost_ret (v := .agg #[.int .i64 2, .int .i64 (tn (some (oo == 0))), .string ⟨#[]⟩]) (by simp [results, Tryz.results77, go_sem, b1, b2, b3]) rfl ⟨by rw [HK.out rfl]; rfl, below_set3 hA9 (by omega)⟩

set_option maxRecDepth 100000 in
set_option maxRecDepth 100000 in
set_option maxHeartbeats 4000000 in
theorem of_7 (v : Vl) (c : Int) (b off cap : Nat) (ra : Option Addr) (rn rcap : Nat) (w : World) (u0 : Vl) (k0 : KidOf b (off) ra rn rcap u0 w) (g0 : wrongP u0 = 0) (u1 : Vl) (k1 : KidOf b (off + 6) ra rn rcap u1 w) (_g1 : wrongP u1 = 0) (m0 m1 : Bool) (e0 : (u0.1 != 1) = m0) (e1 : (u1.1 != 1) = m1) (hk : (m0 && m1) = true → twoP 7 u0 u1 = tri (some ((cmpV u0.1 u0.2.1 u0.2.2 u1.1 u1.2.1 u1.2.2) != 0))) (hn : (m0 && m1) = false → twoP 7 u0 u1 = tri none) :
  Calls Tryz.prog 77 #[exV 7 v c (some ⟨b, off, none⟩) 2 cap, .slice ra rn rcap] w fun e w' => e = .returned (agV (twoP 7 u0 u1)) ∧ Below w.heap.size w w' := by
 have HK : Hid _ := hk
 have HN : Hid _ := hn
 clear hk hn
 have F := ow_facts w 7 v c (some ⟨b, off, none⟩) 2 cap
 replace k0 := k0.next F.low
 replace k1 := k1.next F.low
 unfold ow at F k0 k1
 obtain ⟨x0, ai0, ci0, S0, l0, con0⟩ := k0
 obtain ⟨a0, a1, a2, a3, a4, a5⟩ := S0
 replace con0 := con0 _ (Below.refl _ _)
 go_enter Tryz.func77, Tryz.ntmps77
 go_wp2_with fail
 refine con0.mono ?_
 clear con0
 rintro e w4 ⟨rfl, hb⟩
 clear a0 a1 a2 a3 a4 a5
 generalize (w.alloc (.cells #[.int .i64 7, .int .i64 v.1, .int .i64 v.2.1, .string v.2.2, .int .i64 c, .slice (some ⟨b, off, none⟩) 2 cap] 27)).alloc (.cells #[.int .i64 0, .int .i64 0, .string ⟨#[]⟩] 24) = w3 at *
 obtain ⟨S, R, hA, lt0⟩ := F
 replace S := S.next hb (by omega)
 replace R := R.next hb
 replace hA := chain hA hb
 replace lt0 := Nat.lt_of_lt_of_le lt0 hb.size
 replace k1 := k1.next hb
 clear hb
 have hal : Below w4.heap.size w4 (w4.alloc (.cells #[.int .i64 u0.1, .int .i64 u0.2.1, .string u0.2.2] 24)) := (Below.refl _ _).alloc (Nat.le_refl _) _
 have BA := Box.new w4 (.int .i64 u0.1) (.int .i64 u0.2.1) (.string u0.2.2) 24
 replace S := S.next hal (by omega)
 replace R := R.next hal
 replace hA := chain hA hal
 replace lt0 := Nat.lt_of_lt_of_le lt0 hal.size
 replace k1 := k1.next hal
 obtain ⟨x1, ai1, ci1, S1, l1, con1⟩ := k1
 obtain ⟨a0, a1, a2, a3, a4, a5⟩ := S1
 replace con1 := con1 _ (Below.refl _ _)
 have ⟨s0, s1, s2, s3, s4, s5⟩ := S
 simp only [Nat.zero_add] at s1 s2 s3 s4 s5
 have ⟨q0, q1, q2, q3, q4, q5, q6⟩ := BA
 go_wp2_with fail
 clear s0 s1 s2 s3 s4 s5
 clear a0 a1 a2 a3 a4 a5
 clear q0 q1 q2 q3 q4 q5 q6
 refine (con1).mono ?_
 rintro e w6 ⟨rfl, hb⟩
 replace S := S.next hb (by omega)
 replace hA := chain hA hb
 replace lt0 := Nat.lt_of_lt_of_le lt0 hb.size
 replace R := R.next hb
 replace BA := BA.next hb
 clear con1
 have hal2 : Below w6.heap.size w6 (w6.alloc (.cells #[.int .i64 u1.1, .int .i64 u1.2.1, .string u1.2.2] 24)) := (Below.refl _ _).alloc (Nat.le_refl _) _
 have BB := Box.new w6 (.int .i64 u1.1) (.int .i64 u1.2.1) (.string u1.2.2) 24
 replace S := S.next hal2 (by omega)
 replace R := R.next hal2
 replace BA := BA.next hal2
 replace hA := chain hA hal2
 replace lt0 := Nat.lt_of_lt_of_le lt0 hal2.size
 obtain ⟨w1', w4'⟩ := wrong_kind g0
 have n0 : (u0.1 != 1) = m0 := e0
 have n1 : (u1.1 != 1) = m1 := e1
 cases m0 <;> cases m1
 all_goals
  have ⟨s0, s1, s2, s3, s4, s5⟩ := S
  simp only [Nat.zero_add] at s1 s2 s3 s4 s5
  have ⟨q0, q1, q2, q3, q4, q5, q6⟩ := BA
  have ⟨r0, r1, r2, r3, r4, r5, r6⟩ := BB
  go_wp2_with fail
  refine (refOrder_any _ _ _ _ _ _ _ w1' w4').mono ?_
  rintro e w8 ⟨rfl, hb8⟩
  have S8 := S.next hb8 (by omega)
  have R8 := R.next hb8
  have BA8 := BA.next hb8
  have BB8 := BB.next hb8
  have hA8 := chain hA hb8
  have lt8 := Nat.lt_of_lt_of_le lt0 hb8.size
  have lz8 : w.heap.size < w8.heap.size := by omega
  generalize cmpV u0.1 u0.2.1 u0.2.2 u1.1 u1.2.1 u1.2.2 = oo at *
  clear s0 s1 s2 s3 s4 s5 q0 q1 q2 q3 q4 q5 q6 r0 r1 r2 r3 r4 r5 r6
  have ⟨s0, s1, s2, s3, s4, s5⟩ := S8
  simp only [Nat.zero_add] at s1 s2 s3 s4 s5
  have ⟨q0, q1, q2, q3, q4, q5, q6⟩ := BA8
  have ⟨r0, r1, r2, r3, r4, r5, r6⟩ := BB8
  go_wp2_with fail
 ·refine (refNull_any _).mono ?_
  rintro e w9 ⟨rfl, hb9⟩
  have hA9 := chain hA8 hb9
  have ⟨b0, b1, b2, b3, b4, b5, b6⟩ := R8.next hb9
  have lt9 := Nat.lt_of_lt_of_le lt8 hb9.size
  clear s0 s1 s2 s3 s4 s5 q0 q1 q2 q3 q4 q5 q6 r0 r1 r2 r3 r4 r5 r6
  go_wp2_with fail
  exact bodyPost_ret (v := .agg #[.int .i64 1, .int .i64 0, .string ⟨#[]⟩]) (by simp [results, Tryz.results77, go_sem, b1, b2, b3]) rfl ⟨by rw [HN.out rfl]; rfl, below_set3 hA9 (by omega)⟩
 ·refine (refNull_any _).mono ?_
  rintro e w9 ⟨rfl, hb9⟩
  have hA9 := chain hA8 hb9
  have ⟨b0, b1, b2, b3, b4, b5, b6⟩ := R8.next hb9
  have lt9 := Nat.lt_of_lt_of_le lt8 hb9.size
  clear s0 s1 s2 s3 s4 s5 q0 q1 q2 q3 q4 q5 q6 r0 r1 r2 r3 r4 r5 r6
  go_wp2_with fail
  exact bodyPost_ret (v := .agg #[.int .i64 1, .int .i64 0, .string ⟨#[]⟩]) (by simp [results, Tryz.results77, go_sem, b1, b2, b3]) rfl ⟨by rw [HN.out rfl]; rfl, below_set3 hA9 (by omega)⟩
 ·refine (refNull_any _).mono ?_
  rintro e w9 ⟨rfl, hb9⟩
  have hA9 := chain hA8 hb9
  have ⟨b0, b1, b2, b3, b4, b5, b6⟩ := R8.next hb9
  have lt9 := Nat.lt_of_lt_of_le lt8 hb9.size
  clear s0 s1 s2 s3 s4 s5 q0 q1 q2 q3 q4 q5 q6 r0 r1 r2 r3 r4 r5 r6
  go_wp2_with fail
  exact bodyPost_ret (v := .agg #[.int .i64 1, .int .i64 0, .string ⟨#[]⟩]) (by simp [results, Tryz.results77, go_sem, b1, b2, b3]) rfl ⟨by rw [HN.out rfl]; rfl, below_set3 hA9 (by omega)⟩
 ·refine (refTruth_any _ _).mono ?_
  rintro e w9 ⟨rfl, hb9⟩
  have hA9 := (hA8.alloc hA8.size _).trans (hb9.mono (Nat.le_trans hA8.size (by simp)))
  have R9 := (R8.alloc _).next hb9
  have ⟨b0, b1, b2, b3, b4, b5, b6⟩ := R9
  clear s0 s1 s2 s3 s4 s5 q0 q1 q2 q3 q4 q5 q6 r0 r1 r2 r3 r4 r5 r6
  go_wp2_with fail
  exact bodyPost_ret (v := .agg #[.int .i64 2, .int .i64 (tn (some (oo != 0))), .string ⟨#[]⟩]) (by simp [results, Tryz.results77, go_sem, b1, b2, b3]) rfl ⟨by rw [HK.out rfl]; rfl, below_set3 hA9 (by omega)⟩
end Go.Proofs.YtfojonhblblbjaaGreat
/- Of: comparisons. -/
namespace Go.Proofs.YtfojonhblblbjaaGreat
open Go.RowKit

set_option maxRecDepth 100000 in
set_option maxRecDepth 100000 in
set_option maxHeartbeats 4000000 in
theorem of_8 (v : Vl) (c : Int) (b off cap : Nat) (ra : Option Addr) (rn rcap : Nat) (w : World) (u0 : Vl) (k0 : KidOf b (off) ra rn rcap u0 w) (g0 : wrongP u0 = 0) (u1 : Vl) (k1 : KidOf b (off + 6) ra rn rcap u1 w) (_g1 : wrongP u1 = 0) (m0 m1 : Bool) (e0 : (u0.1 != 1) = m0) (e1 : (u1.1 != 1) = m1) (hk : (m0 && m1) = true → twoP 8 u0 u1 = tri (some (decide ((cmpV u0.1 u0.2.1 u0.2.2 u1.1 u1.2.1 u1.2.2) < 0)))) (hn : (m0 && m1) = false → twoP 8 u0 u1 = tri none) :
  Calls Tryz.prog 77 #[exV 8 v c (some ⟨b, off, none⟩) 2 cap, .slice ra rn rcap] w fun e w' => e = .returned (agV (twoP 8 u0 u1)) ∧ Below w.heap.size w w' := by
 have HK : Hid _ := hk
 have HN : Hid _ := hn
 clear hk hn
 have F := ow_facts w 8 v c (some ⟨b, off, none⟩) 2 cap
 replace k0 := k0.next F.low
 replace k1 := k1.next F.low
 unfold ow at F k0 k1
 obtain ⟨x0, ai0, ci0, S0, l0, con0⟩ := k0
 obtain ⟨a0, a1, a2, a3, a4, a5⟩ := S0
 replace con0 := con0 _ (Below.refl _ _)
 go_enter Tryz.func77, Tryz.ntmps77
 go_wp2_with fail
 refine con0.mono ?_
 clear con0
 rintro e w4 ⟨rfl, hb⟩
 clear a0 a1 a2 a3 a4 a5
 generalize (w.alloc (.cells #[.int .i64 8, .int .i64 v.1, .int .i64 v.2.1, .string v.2.2, .int .i64 c, .slice (some ⟨b, off, none⟩) 2 cap] 27)).alloc (.cells #[.int .i64 0, .int .i64 0, .string ⟨#[]⟩] 24) = w3 at *
 obtain ⟨S, R, hA, lt0⟩ := F
 replace S := S.next hb (by omega)
 replace R := R.next hb
 replace hA := chain hA hb
 replace lt0 := Nat.lt_of_lt_of_le lt0 hb.size
 replace k1 := k1.next hb
 clear hb
 have hal : Below w4.heap.size w4 (w4.alloc (.cells #[.int .i64 u0.1, .int .i64 u0.2.1, .string u0.2.2] 24)) := (Below.refl _ _).alloc (Nat.le_refl _) _
 have BA := Box.new w4 (.int .i64 u0.1) (.int .i64 u0.2.1) (.string u0.2.2) 24
 replace S := S.next hal (by omega)
 replace R := R.next hal
 replace hA := chain hA hal
 replace lt0 := Nat.lt_of_lt_of_le lt0 hal.size
 replace k1 := k1.next hal
 obtain ⟨x1, ai1, ci1, S1, l1, con1⟩ := k1
 obtain ⟨a0, a1, a2, a3, a4, a5⟩ := S1
 replace con1 := con1 _ (Below.refl _ _)
 have ⟨s0, s1, s2, s3, s4, s5⟩ := S
 simp only [Nat.zero_add] at s1 s2 s3 s4 s5
 have ⟨q0, q1, q2, q3, q4, q5, q6⟩ := BA
 go_wp2_with fail
 clear s0 s1 s2 s3 s4 s5
 clear a0 a1 a2 a3 a4 a5
 clear q0 q1 q2 q3 q4 q5 q6
 refine (con1).mono ?_
 rintro e w6 ⟨rfl, hb⟩
 replace S := S.next hb (by omega)
 replace hA := chain hA hb
 replace lt0 := Nat.lt_of_lt_of_le lt0 hb.size
 replace R := R.next hb
 replace BA := BA.next hb
 clear con1
 have hal2 : Below w6.heap.size w6 (w6.alloc (.cells #[.int .i64 u1.1, .int .i64 u1.2.1, .string u1.2.2] 24)) := (Below.refl _ _).alloc (Nat.le_refl _) _
 have BB := Box.new w6 (.int .i64 u1.1) (.int .i64 u1.2.1) (.string u1.2.2) 24
 replace S := S.next hal2 (by omega)
 replace R := R.next hal2
 replace BA := BA.next hal2
 replace hA := chain hA hal2
 replace lt0 := Nat.lt_of_lt_of_le lt0 hal2.size
 obtain ⟨w1', w4'⟩ := wrong_kind g0
 have n0 : (u0.1 != 1) = m0 := e0
 have n1 : (u1.1 != 1) = m1 := e1
 cases m0 <;> cases m1
 all_goals
  have ⟨s0, s1, s2, s3, s4, s5⟩ := S
  simp only [Nat.zero_add] at s1 s2 s3 s4 s5
  have ⟨q0, q1, q2, q3, q4, q5, q6⟩ := BA
  have ⟨r0, r1, r2, r3, r4, r5, r6⟩ := BB
  go_wp2_with fail
  refine (refOrder_any _ _ _ _ _ _ _ w1' w4').mono ?_
  rintro e w8 ⟨rfl, hb8⟩
  have S8 := S.next hb8 (by omega)
  have R8 := R.next hb8
  have BA8 := BA.next hb8
  have BB8 := BB.next hb8
  have hA8 := chain hA hb8
  have lt8 := Nat.lt_of_lt_of_le lt0 hb8.size
  have lz8 : w.heap.size < w8.heap.size := by omega
  generalize cmpV u0.1 u0.2.1 u0.2.2 u1.1 u1.2.1 u1.2.2 = oo at *
  clear s0 s1 s2 s3 s4 s5 q0 q1 q2 q3 q4 q5 q6 r0 r1 r2 r3 r4 r5 r6
  have ⟨s0, s1, s2, s3, s4, s5⟩ := S8
  simp only [Nat.zero_add] at s1 s2 s3 s4 s5
  have ⟨q0, q1, q2, q3, q4, q5, q6⟩ := BA8
  have ⟨r0, r1, r2, r3, r4, r5, r6⟩ := BB8
  go_wp2_with fail
 ·refine (refNull_any _).mono ?_
  rintro e w9 ⟨rfl, hb9⟩
  have hA9 := chain hA8 hb9
  have ⟨b0, b1, b2, b3, b4, b5, b6⟩ := R8.next hb9
  have lt9 := Nat.lt_of_lt_of_le lt8 hb9.size
  clear s0 s1 s2 s3 s4 s5 q0 q1 q2 q3 q4 q5 q6 r0 r1 r2 r3 r4 r5 r6
  go_wp2_with fail
  exact bodyPost_ret (v := .agg #[.int .i64 1, .int .i64 0, .string ⟨#[]⟩]) (by simp [results, Tryz.results77, go_sem, b1, b2, b3]) rfl ⟨by rw [HN.out rfl]; rfl, below_set3 hA9 (by omega)⟩
 ·refine (refNull_any _).mono ?_
  rintro e w9 ⟨rfl, hb9⟩
  have hA9 := chain hA8 hb9
  have ⟨b0, b1, b2, b3, b4, b5, b6⟩ := R8.next hb9
  have lt9 := Nat.lt_of_lt_of_le lt8 hb9.size
  clear s0 s1 s2 s3 s4 s5 q0 q1 q2 q3 q4 q5 q6 r0 r1 r2 r3 r4 r5 r6
  go_wp2_with fail
  exact bodyPost_ret (v := .agg #[.int .i64 1, .int .i64 0, .string ⟨#[]⟩]) (by simp [results, Tryz.results77, go_sem, b1, b2, b3]) rfl ⟨by rw [HN.out rfl]; rfl, below_set3 hA9 (by omega)⟩
 ·refine (refNull_any _).mono ?_
  rintro e w9 ⟨rfl, hb9⟩
  have hA9 := chain hA8 hb9
  have ⟨b0, b1, b2, b3, b4, b5, b6⟩ := R8.next hb9
  have lt9 := Nat.lt_of_lt_of_le lt8 hb9.size
  clear s0 s1 s2 s3 s4 s5 q0 q1 q2 q3 q4 q5 q6 r0 r1 r2 r3 r4 r5 r6
  go_wp2_with fail
  exact bodyPost_ret (v := .agg #[.int .i64 1, .int .i64 0, .string ⟨#[]⟩]) (by simp [results, Tryz.results77, go_sem, b1, b2, b3]) rfl ⟨by rw [HN.out rfl]; rfl, below_set3 hA9 (by omega)⟩
 ·refine (refTruth_any _ _).mono ?_
  rintro e w9 ⟨rfl, hb9⟩
  have hA9 := (hA8.alloc hA8.size _).trans (hb9.mono (Nat.le_trans hA8.size (by simp)))
  have R9 := (R8.alloc _).next hb9
  have ⟨b0, b1, b2, b3, b4, b5, b6⟩ := R9
  clear s0 s1 s2 s3 s4 s5 q0 q1 q2 q3 q4 q5 q6 r0 r1 r2 r3 r4 r5 r6
  go_wp2_with fail
  exact bodyPost_ret (v := .agg #[.int .i64 2, .int .i64 (tn (some (decide (oo < 0)))), .string ⟨#[]⟩]) (by simp [results, Tryz.results77, go_sem, b1, b2, b3]) rfl ⟨by rw [HK.out rfl]; rfl, below_set3 hA9 (by omega)⟩

set_option maxRecDepth 100000 in
set_option maxRecDepth 100000 in
set_option maxHeartbeats 4000000 in
theorem of_9 (v : Vl) (c : Int) (b off cap : Nat) (ra : Option Addr) (rn rcap : Nat) (w : World) (u0 : Vl) (k0 : KidOf b (off) ra rn rcap u0 w) (g0 : wrongP u0 = 0) (u1 : Vl) (k1 : KidOf b (off + 6) ra rn rcap u1 w) (_g1 : wrongP u1 = 0) (m0 m1 : Bool) (e0 : (u0.1 != 1) = m0) (e1 : (u1.1 != 1) = m1) (hk : (m0 && m1) = true → twoP 9 u0 u1 = tri (some (decide ((cmpV u0.1 u0.2.1 u0.2.2 u1.1 u1.2.1 u1.2.2) ≤ 0)))) (hn : (m0 && m1) = false → twoP 9 u0 u1 = tri none) :
  Calls Tryz.prog 77 #[exV 9 v c (some ⟨b, off, none⟩) 2 cap, .slice ra rn rcap] w fun e w' => e = .returned (agV (twoP 9 u0 u1)) ∧ Below w.heap.size w w' := by
 have HK : Hid _ := hk
 have HN : Hid _ := hn
 clear hk hn
 have F := ow_facts w 9 v c (some ⟨b, off, none⟩) 2 cap
 replace k0 := k0.next F.low
 replace k1 := k1.next F.low
 unfold ow at F k0 k1
 obtain ⟨x0, ai0, ci0, S0, l0, con0⟩ := k0
 obtain ⟨a0, a1, a2, a3, a4, a5⟩ := S0
 replace con0 := con0 _ (Below.refl _ _)
 go_enter Tryz.func77, Tryz.ntmps77
 go_wp2_with fail
 refine con0.mono ?_
 clear con0
 rintro e w4 ⟨rfl, hb⟩
 clear a0 a1 a2 a3 a4 a5
 generalize (w.alloc (.cells #[.int .i64 9, .int .i64 v.1, .int .i64 v.2.1, .string v.2.2, .int .i64 c, .slice (some ⟨b, off, none⟩) 2 cap] 27)).alloc (.cells #[.int .i64 0, .int .i64 0, .string ⟨#[]⟩] 24) = w3 at *
 obtain ⟨S, R, hA, lt0⟩ := F
 replace S := S.next hb (by omega)
 replace R := R.next hb
 replace hA := chain hA hb
 replace lt0 := Nat.lt_of_lt_of_le lt0 hb.size
 replace k1 := k1.next hb
 clear hb
 have hal : Below w4.heap.size w4 (w4.alloc (.cells #[.int .i64 u0.1, .int .i64 u0.2.1, .string u0.2.2] 24)) := (Below.refl _ _).alloc (Nat.le_refl _) _
 have BA := Box.new w4 (.int .i64 u0.1) (.int .i64 u0.2.1) (.string u0.2.2) 24
 replace S := S.next hal (by omega)
 replace R := R.next hal
 replace hA := chain hA hal
 replace lt0 := Nat.lt_of_lt_of_le lt0 hal.size
 replace k1 := k1.next hal
 obtain ⟨x1, ai1, ci1, S1, l1, con1⟩ := k1
 obtain ⟨a0, a1, a2, a3, a4, a5⟩ := S1
 replace con1 := con1 _ (Below.refl _ _)
 have ⟨s0, s1, s2, s3, s4, s5⟩ := S
 simp only [Nat.zero_add] at s1 s2 s3 s4 s5
 have ⟨q0, q1, q2, q3, q4, q5, q6⟩ := BA
 go_wp2_with fail
 clear s0 s1 s2 s3 s4 s5
 clear a0 a1 a2 a3 a4 a5
 clear q0 q1 q2 q3 q4 q5 q6
 refine (con1).mono ?_
 rintro e w6 ⟨rfl, hb⟩
 replace S := S.next hb (by omega)
 replace hA := chain hA hb
 replace lt0 := Nat.lt_of_lt_of_le lt0 hb.size
 replace R := R.next hb
 replace BA := BA.next hb
 clear con1
 have hal2 : Below w6.heap.size w6 (w6.alloc (.cells #[.int .i64 u1.1, .int .i64 u1.2.1, .string u1.2.2] 24)) := (Below.refl _ _).alloc (Nat.le_refl _) _
 have BB := Box.new w6 (.int .i64 u1.1) (.int .i64 u1.2.1) (.string u1.2.2) 24
 replace S := S.next hal2 (by omega)
 replace R := R.next hal2
 replace BA := BA.next hal2
 replace hA := chain hA hal2
 replace lt0 := Nat.lt_of_lt_of_le lt0 hal2.size
 obtain ⟨w1', w4'⟩ := wrong_kind g0
 have n0 : (u0.1 != 1) = m0 := e0
 have n1 : (u1.1 != 1) = m1 := e1
 cases m0 <;> cases m1
 all_goals
  have ⟨s0, s1, s2, s3, s4, s5⟩ := S
  simp only [Nat.zero_add] at s1 s2 s3 s4 s5
  have ⟨q0, q1, q2, q3, q4, q5, q6⟩ := BA
  have ⟨r0, r1, r2, r3, r4, r5, r6⟩ := BB
  go_wp2_with fail
  refine (refOrder_any _ _ _ _ _ _ _ w1' w4').mono ?_
  rintro e w8 ⟨rfl, hb8⟩
  have S8 := S.next hb8 (by omega)
  have R8 := R.next hb8
  have BA8 := BA.next hb8
  have BB8 := BB.next hb8
  have hA8 := chain hA hb8
  have lt8 := Nat.lt_of_lt_of_le lt0 hb8.size
  have lz8 : w.heap.size < w8.heap.size := by omega
  generalize cmpV u0.1 u0.2.1 u0.2.2 u1.1 u1.2.1 u1.2.2 = oo at *
  clear s0 s1 s2 s3 s4 s5 q0 q1 q2 q3 q4 q5 q6 r0 r1 r2 r3 r4 r5 r6
  have ⟨s0, s1, s2, s3, s4, s5⟩ := S8
  simp only [Nat.zero_add] at s1 s2 s3 s4 s5
  have ⟨q0, q1, q2, q3, q4, q5, q6⟩ := BA8
  have ⟨r0, r1, r2, r3, r4, r5, r6⟩ := BB8
  go_wp2_with fail
 ·refine (refNull_any _).mono ?_
  rintro e w9 ⟨rfl, hb9⟩
  have hA9 := chain hA8 hb9
  have ⟨b0, b1, b2, b3, b4, b5, b6⟩ := R8.next hb9
  have lt9 := Nat.lt_of_lt_of_le lt8 hb9.size
  clear s0 s1 s2 s3 s4 s5 q0 q1 q2 q3 q4 q5 q6 r0 r1 r2 r3 r4 r5 r6
  go_wp2_with fail
  exact bodyPost_ret (v := .agg #[.int .i64 1, .int .i64 0, .string ⟨#[]⟩]) (by simp [results, Tryz.results77, go_sem, b1, b2, b3]) rfl ⟨by rw [HN.out rfl]; rfl, below_set3 hA9 (by omega)⟩
 ·refine (refNull_any _).mono ?_
  rintro e w9 ⟨rfl, hb9⟩
  have hA9 := chain hA8 hb9
  have ⟨b0, b1, b2, b3, b4, b5, b6⟩ := R8.next hb9
  have lt9 := Nat.lt_of_lt_of_le lt8 hb9.size
  clear s0 s1 s2 s3 s4 s5 q0 q1 q2 q3 q4 q5 q6 r0 r1 r2 r3 r4 r5 r6
  go_wp2_with fail
  exact bodyPost_ret (v := .agg #[.int .i64 1, .int .i64 0, .string ⟨#[]⟩]) (by simp [results, Tryz.results77, go_sem, b1, b2, b3]) rfl ⟨by rw [HN.out rfl]; rfl, below_set3 hA9 (by omega)⟩
 ·refine (refNull_any _).mono ?_
  rintro e w9 ⟨rfl, hb9⟩
  have hA9 := chain hA8 hb9
  have ⟨b0, b1, b2, b3, b4, b5, b6⟩ := R8.next hb9
  have lt9 := Nat.lt_of_lt_of_le lt8 hb9.size
  clear s0 s1 s2 s3 s4 s5 q0 q1 q2 q3 q4 q5 q6 r0 r1 r2 r3 r4 r5 r6
  go_wp2_with fail
  exact bodyPost_ret (v := .agg #[.int .i64 1, .int .i64 0, .string ⟨#[]⟩]) (by simp [results, Tryz.results77, go_sem, b1, b2, b3]) rfl ⟨by rw [HN.out rfl]; rfl, below_set3 hA9 (by omega)⟩
 ·refine (refTruth_any _ _).mono ?_
  rintro e w9 ⟨rfl, hb9⟩
  have hA9 := (hA8.alloc hA8.size _).trans (hb9.mono (Nat.le_trans hA8.size (by simp)))
  have R9 := (R8.alloc _).next hb9
  have ⟨b0, b1, b2, b3, b4, b5, b6⟩ := R9
  clear s0 s1 s2 s3 s4 s5 q0 q1 q2 q3 q4 q5 q6 r0 r1 r2 r3 r4 r5 r6
  go_wp2_with fail
  exact bodyPost_ret (v := .agg #[.int .i64 2, .int .i64 (tn (some (decide (oo ≤ 0)))), .string ⟨#[]⟩]) (by simp [results, Tryz.results77, go_sem, b1, b2, b3]) rfl ⟨by rw [HK.out rfl]; rfl, below_set3 hA9 (by omega)⟩
end Go.Proofs.YtfojonhblblbjaaGreat
/- Of: comparisons. -/
namespace Go.Proofs.YtfojonhblblbjaaGreat
open Go.RowKit

set_option maxRecDepth 100000 in
set_option maxRecDepth 100000 in
set_option maxHeartbeats 4000000 in
theorem of_10 (v : Vl) (c : Int) (b off cap : Nat) (ra : Option Addr) (rn rcap : Nat) (w : World) (u0 : Vl) (k0 : KidOf b (off) ra rn rcap u0 w) (g0 : wrongP u0 = 0) (u1 : Vl) (k1 : KidOf b (off + 6) ra rn rcap u1 w) (_g1 : wrongP u1 = 0) (m0 m1 : Bool) (e0 : (u0.1 != 1) = m0) (e1 : (u1.1 != 1) = m1) (hk : (m0 && m1) = true → twoP 10 u0 u1 = tri (some (decide (0 < (cmpV u0.1 u0.2.1 u0.2.2 u1.1 u1.2.1 u1.2.2))))) (hn : (m0 && m1) = false → twoP 10 u0 u1 = tri none) :
  Calls Tryz.prog 77 #[exV 10 v c (some ⟨b, off, none⟩) 2 cap, .slice ra rn rcap] w fun e w' => e = .returned (agV (twoP 10 u0 u1)) ∧ Below w.heap.size w w' := by
 have HK : Hid _ := hk
 have HN : Hid _ := hn
 clear hk hn
 have F := ow_facts w 10 v c (some ⟨b, off, none⟩) 2 cap
 replace k0 := k0.next F.low
 replace k1 := k1.next F.low
 unfold ow at F k0 k1
 obtain ⟨x0, ai0, ci0, S0, l0, con0⟩ := k0
 obtain ⟨a0, a1, a2, a3, a4, a5⟩ := S0
 replace con0 := con0 _ (Below.refl _ _)
 go_enter Tryz.func77, Tryz.ntmps77
 go_wp2_with fail
 refine con0.mono ?_
 clear con0
 rintro e w4 ⟨rfl, hb⟩
 clear a0 a1 a2 a3 a4 a5
 generalize (w.alloc (.cells #[.int .i64 10, .int .i64 v.1, .int .i64 v.2.1, .string v.2.2, .int .i64 c, .slice (some ⟨b, off, none⟩) 2 cap] 27)).alloc (.cells #[.int .i64 0, .int .i64 0, .string ⟨#[]⟩] 24) = w3 at *
 obtain ⟨S, R, hA, lt0⟩ := F
 replace S := S.next hb (by omega)
 replace R := R.next hb
 replace hA := chain hA hb
 replace lt0 := Nat.lt_of_lt_of_le lt0 hb.size
 replace k1 := k1.next hb
 clear hb
 have hal : Below w4.heap.size w4 (w4.alloc (.cells #[.int .i64 u0.1, .int .i64 u0.2.1, .string u0.2.2] 24)) := (Below.refl _ _).alloc (Nat.le_refl _) _
 have BA := Box.new w4 (.int .i64 u0.1) (.int .i64 u0.2.1) (.string u0.2.2) 24
 replace S := S.next hal (by omega)
 replace R := R.next hal
 replace hA := chain hA hal
 replace lt0 := Nat.lt_of_lt_of_le lt0 hal.size
 replace k1 := k1.next hal
 obtain ⟨x1, ai1, ci1, S1, l1, con1⟩ := k1
 obtain ⟨a0, a1, a2, a3, a4, a5⟩ := S1
 replace con1 := con1 _ (Below.refl _ _)
 have ⟨s0, s1, s2, s3, s4, s5⟩ := S
 simp only [Nat.zero_add] at s1 s2 s3 s4 s5
 have ⟨q0, q1, q2, q3, q4, q5, q6⟩ := BA
 go_wp2_with fail
 clear s0 s1 s2 s3 s4 s5
 clear a0 a1 a2 a3 a4 a5
 clear q0 q1 q2 q3 q4 q5 q6
 refine (con1).mono ?_
 rintro e w6 ⟨rfl, hb⟩
 replace S := S.next hb (by omega)
 replace hA := chain hA hb
 replace lt0 := Nat.lt_of_lt_of_le lt0 hb.size
 replace R := R.next hb
 replace BA := BA.next hb
 clear con1
 have hal2 : Below w6.heap.size w6 (w6.alloc (.cells #[.int .i64 u1.1, .int .i64 u1.2.1, .string u1.2.2] 24)) := (Below.refl _ _).alloc (Nat.le_refl _) _
 have BB := Box.new w6 (.int .i64 u1.1) (.int .i64 u1.2.1) (.string u1.2.2) 24
 replace S := S.next hal2 (by omega)
 replace R := R.next hal2
 replace BA := BA.next hal2
 replace hA := chain hA hal2
 replace lt0 := Nat.lt_of_lt_of_le lt0 hal2.size
 obtain ⟨w1', w4'⟩ := wrong_kind g0
 have n0 : (u0.1 != 1) = m0 := e0
 have n1 : (u1.1 != 1) = m1 := e1
 cases m0 <;> cases m1
 all_goals
  have ⟨s0, s1, s2, s3, s4, s5⟩ := S
  simp only [Nat.zero_add] at s1 s2 s3 s4 s5
  have ⟨q0, q1, q2, q3, q4, q5, q6⟩ := BA
  have ⟨r0, r1, r2, r3, r4, r5, r6⟩ := BB
  go_wp2_with fail
  refine (refOrder_any _ _ _ _ _ _ _ w1' w4').mono ?_
  rintro e w8 ⟨rfl, hb8⟩
  have S8 := S.next hb8 (by omega)
  have R8 := R.next hb8
  have BA8 := BA.next hb8
  have BB8 := BB.next hb8
  have hA8 := chain hA hb8
  have lt8 := Nat.lt_of_lt_of_le lt0 hb8.size
  have lz8 : w.heap.size < w8.heap.size := by omega
  generalize cmpV u0.1 u0.2.1 u0.2.2 u1.1 u1.2.1 u1.2.2 = oo at *
  clear s0 s1 s2 s3 s4 s5 q0 q1 q2 q3 q4 q5 q6 r0 r1 r2 r3 r4 r5 r6
  have ⟨s0, s1, s2, s3, s4, s5⟩ := S8
  simp only [Nat.zero_add] at s1 s2 s3 s4 s5
  have ⟨q0, q1, q2, q3, q4, q5, q6⟩ := BA8
  have ⟨r0, r1, r2, r3, r4, r5, r6⟩ := BB8
  go_wp2_with fail
 ·refine (refNull_any _).mono ?_
  rintro e w9 ⟨rfl, hb9⟩
  have hA9 := chain hA8 hb9
  have ⟨b0, b1, b2, b3, b4, b5, b6⟩ := R8.next hb9
  have lt9 := Nat.lt_of_lt_of_le lt8 hb9.size
  clear s0 s1 s2 s3 s4 s5 q0 q1 q2 q3 q4 q5 q6 r0 r1 r2 r3 r4 r5 r6
  go_wp2_with fail
  exact bodyPost_ret (v := .agg #[.int .i64 1, .int .i64 0, .string ⟨#[]⟩]) (by simp [results, Tryz.results77, go_sem, b1, b2, b3]) rfl ⟨by rw [HN.out rfl]; rfl, below_set3 hA9 (by omega)⟩
 ·refine (refNull_any _).mono ?_
  rintro e w9 ⟨rfl, hb9⟩
  have hA9 := chain hA8 hb9
  have ⟨b0, b1, b2, b3, b4, b5, b6⟩ := R8.next hb9
  have lt9 := Nat.lt_of_lt_of_le lt8 hb9.size
  clear s0 s1 s2 s3 s4 s5 q0 q1 q2 q3 q4 q5 q6 r0 r1 r2 r3 r4 r5 r6
  go_wp2_with fail
  exact bodyPost_ret (v := .agg #[.int .i64 1, .int .i64 0, .string ⟨#[]⟩]) (by simp [results, Tryz.results77, go_sem, b1, b2, b3]) rfl ⟨by rw [HN.out rfl]; rfl, below_set3 hA9 (by omega)⟩
 ·refine (refNull_any _).mono ?_
  rintro e w9 ⟨rfl, hb9⟩
  have hA9 := chain hA8 hb9
  have ⟨b0, b1, b2, b3, b4, b5, b6⟩ := R8.next hb9
  have lt9 := Nat.lt_of_lt_of_le lt8 hb9.size
  clear s0 s1 s2 s3 s4 s5 q0 q1 q2 q3 q4 q5 q6 r0 r1 r2 r3 r4 r5 r6
  go_wp2_with fail
  exact bodyPost_ret (v := .agg #[.int .i64 1, .int .i64 0, .string ⟨#[]⟩]) (by simp [results, Tryz.results77, go_sem, b1, b2, b3]) rfl ⟨by rw [HN.out rfl]; rfl, below_set3 hA9 (by omega)⟩
 ·refine (refTruth_any _ _).mono ?_
  rintro e w9 ⟨rfl, hb9⟩
  have hA9 := (hA8.alloc hA8.size _).trans (hb9.mono (Nat.le_trans hA8.size (by simp)))
  have R9 := (R8.alloc _).next hb9
  have ⟨b0, b1, b2, b3, b4, b5, b6⟩ := R9
  clear s0 s1 s2 s3 s4 s5 q0 q1 q2 q3 q4 q5 q6 r0 r1 r2 r3 r4 r5 r6
  go_wp2_with fail
  exact bodyPost_ret (v := .agg #[.int .i64 2, .int .i64 (tn (some (decide (0 < oo)))), .string ⟨#[]⟩]) (by simp [results, Tryz.results77, go_sem, b1, b2, b3]) rfl ⟨by rw [HK.out rfl]; rfl, below_set3 hA9 (by omega)⟩

set_option maxRecDepth 100000 in
set_option maxRecDepth 100000 in
set_option maxHeartbeats 4000000 in
theorem of_11 (v : Vl) (c : Int) (b off cap : Nat) (ra : Option Addr) (rn rcap : Nat) (w : World) (u0 : Vl) (k0 : KidOf b (off) ra rn rcap u0 w) (g0 : wrongP u0 = 0) (u1 : Vl) (k1 : KidOf b (off + 6) ra rn rcap u1 w) (_g1 : wrongP u1 = 0) (m0 m1 : Bool) (e0 : (u0.1 != 1) = m0) (e1 : (u1.1 != 1) = m1) (hk : (m0 && m1) = true → twoP 11 u0 u1 = tri (some (decide (0 ≤ (cmpV u0.1 u0.2.1 u0.2.2 u1.1 u1.2.1 u1.2.2))))) (hn : (m0 && m1) = false → twoP 11 u0 u1 = tri none) :
  Calls Tryz.prog 77 #[exV 11 v c (some ⟨b, off, none⟩) 2 cap, .slice ra rn rcap] w fun e w' => e = .returned (agV (twoP 11 u0 u1)) ∧ Below w.heap.size w w' := by
 have HK : Hid _ := hk
 have HN : Hid _ := hn
 clear hk hn
 have F := ow_facts w 11 v c (some ⟨b, off, none⟩) 2 cap
 replace k0 := k0.next F.low
 replace k1 := k1.next F.low
 unfold ow at F k0 k1
 obtain ⟨x0, ai0, ci0, S0, l0, con0⟩ := k0
 obtain ⟨a0, a1, a2, a3, a4, a5⟩ := S0
 replace con0 := con0 _ (Below.refl _ _)
 go_enter Tryz.func77, Tryz.ntmps77
 go_wp2_with fail
 refine con0.mono ?_
 clear con0
 rintro e w4 ⟨rfl, hb⟩
 clear a0 a1 a2 a3 a4 a5
 generalize (w.alloc (.cells #[.int .i64 11, .int .i64 v.1, .int .i64 v.2.1, .string v.2.2, .int .i64 c, .slice (some ⟨b, off, none⟩) 2 cap] 27)).alloc (.cells #[.int .i64 0, .int .i64 0, .string ⟨#[]⟩] 24) = w3 at *
 obtain ⟨S, R, hA, lt0⟩ := F
 replace S := S.next hb (by omega)
 replace R := R.next hb
 replace hA := chain hA hb
 replace lt0 := Nat.lt_of_lt_of_le lt0 hb.size
 replace k1 := k1.next hb
 clear hb
 have hal : Below w4.heap.size w4 (w4.alloc (.cells #[.int .i64 u0.1, .int .i64 u0.2.1, .string u0.2.2] 24)) := (Below.refl _ _).alloc (Nat.le_refl _) _
 have BA := Box.new w4 (.int .i64 u0.1) (.int .i64 u0.2.1) (.string u0.2.2) 24
 replace S := S.next hal (by omega)
 replace R := R.next hal
 replace hA := chain hA hal
 replace lt0 := Nat.lt_of_lt_of_le lt0 hal.size
 replace k1 := k1.next hal
 obtain ⟨x1, ai1, ci1, S1, l1, con1⟩ := k1
 obtain ⟨a0, a1, a2, a3, a4, a5⟩ := S1
 replace con1 := con1 _ (Below.refl _ _)
 have ⟨s0, s1, s2, s3, s4, s5⟩ := S
 simp only [Nat.zero_add] at s1 s2 s3 s4 s5
 have ⟨q0, q1, q2, q3, q4, q5, q6⟩ := BA
 go_wp2_with fail
 clear s0 s1 s2 s3 s4 s5
 clear a0 a1 a2 a3 a4 a5
 clear q0 q1 q2 q3 q4 q5 q6
 refine (con1).mono ?_
 rintro e w6 ⟨rfl, hb⟩
 replace S := S.next hb (by omega)
 replace hA := chain hA hb
 replace lt0 := Nat.lt_of_lt_of_le lt0 hb.size
 replace R := R.next hb
 replace BA := BA.next hb
 clear con1
 have hal2 : Below w6.heap.size w6 (w6.alloc (.cells #[.int .i64 u1.1, .int .i64 u1.2.1, .string u1.2.2] 24)) := (Below.refl _ _).alloc (Nat.le_refl _) _
 have BB := Box.new w6 (.int .i64 u1.1) (.int .i64 u1.2.1) (.string u1.2.2) 24
 replace S := S.next hal2 (by omega)
 replace R := R.next hal2
 replace BA := BA.next hal2
 replace hA := chain hA hal2
 replace lt0 := Nat.lt_of_lt_of_le lt0 hal2.size
 obtain ⟨w1', w4'⟩ := wrong_kind g0
 have n0 : (u0.1 != 1) = m0 := e0
 have n1 : (u1.1 != 1) = m1 := e1
 cases m0 <;> cases m1
 all_goals
  have ⟨s0, s1, s2, s3, s4, s5⟩ := S
  simp only [Nat.zero_add] at s1 s2 s3 s4 s5
  have ⟨q0, q1, q2, q3, q4, q5, q6⟩ := BA
  have ⟨r0, r1, r2, r3, r4, r5, r6⟩ := BB
  go_wp2_with fail
  refine (refOrder_any _ _ _ _ _ _ _ w1' w4').mono ?_
  rintro e w8 ⟨rfl, hb8⟩
  have S8 := S.next hb8 (by omega)
  have R8 := R.next hb8
  have BA8 := BA.next hb8
  have BB8 := BB.next hb8
  have hA8 := chain hA hb8
  have lt8 := Nat.lt_of_lt_of_le lt0 hb8.size
  have lz8 : w.heap.size < w8.heap.size := by omega
  generalize cmpV u0.1 u0.2.1 u0.2.2 u1.1 u1.2.1 u1.2.2 = oo at *
  clear s0 s1 s2 s3 s4 s5 q0 q1 q2 q3 q4 q5 q6 r0 r1 r2 r3 r4 r5 r6
  have ⟨s0, s1, s2, s3, s4, s5⟩ := S8
  simp only [Nat.zero_add] at s1 s2 s3 s4 s5
  have ⟨q0, q1, q2, q3, q4, q5, q6⟩ := BA8
  have ⟨r0, r1, r2, r3, r4, r5, r6⟩ := BB8
  go_wp2_with fail
 ·refine (refNull_any _).mono ?_
  rintro e w9 ⟨rfl, hb9⟩
  have hA9 := chain hA8 hb9
  have ⟨b0, b1, b2, b3, b4, b5, b6⟩ := R8.next hb9
  have lt9 := Nat.lt_of_lt_of_le lt8 hb9.size
  clear s0 s1 s2 s3 s4 s5 q0 q1 q2 q3 q4 q5 q6 r0 r1 r2 r3 r4 r5 r6
  go_wp2_with fail
  exact bodyPost_ret (v := .agg #[.int .i64 1, .int .i64 0, .string ⟨#[]⟩]) (by simp [results, Tryz.results77, go_sem, b1, b2, b3]) rfl ⟨by rw [HN.out rfl]; rfl, below_set3 hA9 (by omega)⟩
 ·refine (refNull_any _).mono ?_
  rintro e w9 ⟨rfl, hb9⟩
  have hA9 := chain hA8 hb9
  have ⟨b0, b1, b2, b3, b4, b5, b6⟩ := R8.next hb9
  have lt9 := Nat.lt_of_lt_of_le lt8 hb9.size
  clear s0 s1 s2 s3 s4 s5 q0 q1 q2 q3 q4 q5 q6 r0 r1 r2 r3 r4 r5 r6
  go_wp2_with fail
  exact bodyPost_ret (v := .agg #[.int .i64 1, .int .i64 0, .string ⟨#[]⟩]) (by simp [results, Tryz.results77, go_sem, b1, b2, b3]) rfl ⟨by rw [HN.out rfl]; rfl, below_set3 hA9 (by omega)⟩
 ·refine (refNull_any _).mono ?_
  rintro e w9 ⟨rfl, hb9⟩
  have hA9 := chain hA8 hb9
  have ⟨b0, b1, b2, b3, b4, b5, b6⟩ := R8.next hb9
  have lt9 := Nat.lt_of_lt_of_le lt8 hb9.size
  clear s0 s1 s2 s3 s4 s5 q0 q1 q2 q3 q4 q5 q6 r0 r1 r2 r3 r4 r5 r6
  go_wp2_with fail
  exact bodyPost_ret (v := .agg #[.int .i64 1, .int .i64 0, .string ⟨#[]⟩]) (by simp [results, Tryz.results77, go_sem, b1, b2, b3]) rfl ⟨by rw [HN.out rfl]; rfl, below_set3 hA9 (by omega)⟩
 ·refine (refTruth_any _ _).mono ?_
  rintro e w9 ⟨rfl, hb9⟩
  have hA9 := (hA8.alloc hA8.size _).trans (hb9.mono (Nat.le_trans hA8.size (by simp)))
  have R9 := (R8.alloc _).next hb9
  have ⟨b0, b1, b2, b3, b4, b5, b6⟩ := R9
  clear s0 s1 s2 s3 s4 s5 q0 q1 q2 q3 q4 q5 q6 r0 r1 r2 r3 r4 r5 r6
  go_wp2_with fail
  exact bodyPost_ret (v := .agg #[.int .i64 2, .int .i64 (tn (some (decide (0 ≤ oo)))), .string ⟨#[]⟩]) (by simp [results, Tryz.results77, go_sem, b1, b2, b3]) rfl ⟨by rw [HK.out rfl]; rfl, below_set3 hA9 (by omega)⟩
end Go.Proofs.YtfojonhblblbjaaGreat
/- The walk of the document's Of, whole. -/
namespace Go.Proofs.YtfojonhblblbjaaGreat
open Go.RowKit

theorem cmp_null {k : Int} (h : 6 ≤ k) (h' : k ≤ 11) {a b : Vl} (hn : ((a.1 != 1) && (b.1 != 1)) = false) : twoP k a b = tri none := by
 have t1 : tellB a.1 b.1 = false := by
  unfold tellB
  by_cases q : a.1 = 1
  ·simp [q]
  ·have q' : b.1 = 1 := by
    have : (a.1 != 1) = true := by simpa using q
    rw [this, Bool.true_and] at hn
    simpa using hn
   have : ¬ a.1 = b.1 := by omega
   simp [this]
 have t2 : tellB b.1 a.1 = false := by
  unfold tellB
  by_cases q : b.1 = 1
  ·simp [q]
  ·have q' : a.1 = 1 := by
    have : (b.1 != 1) = true := by simpa using q
    rw [this, Bool.and_true] at hn
    simpa using hn
   have : ¬ b.1 = a.1 := by omega
   simp [this]
 have e1 : eqP a b = tri none := by simp [eqP, eqT, t1]
 have e2 : ltP a b = tri none := by simp [ltP, ltT, t1]
 have e3 : ltP b a = tri none := by simp [ltP, ltT, t2]
 obtain rfl | rfl | rfl | rfl | rfl | rfl : k = 6 ∨ k = 7 ∨ k = 8 ∨ k = 9 ∨ k = 10 ∨ k = 11 := by omega
 ·exact e1
 ·show notP (eqP a b) = _; rw [e1]; rfl
 ·exact e2
 ·show notP (ltP b a) = _; rw [e3]; rfl
 ·exact e3
 ·show notP (ltP a b) = _; rw [e2]; rfl
section
variable {a b : Vl} (hk : ((a.1 != 1) && (b.1 != 1)) = true) (he : a.1 = b.1)
include hk he
theorem cmp_tell : tellB a.1 b.1 = true ∧ tellB b.1 a.1 = true := by
 have h : ¬ a.1 = 1 := by
  rw [Bool.and_eq_true] at hk
  simpa using hk.1
 have h' : ¬ b.1 = 1 := by omega
 unfold tellB
 constructor
 ·rw [he]; simp [h']
 ·rw [he]; simp [h']
theorem cmp_6 : twoP 6 a b = tri (some (cmpV a.1 a.2.1 a.2.2 b.1 b.2.1 b.2.2 == 0)) := by
 show eqP a b = _
 simp [eqP, eqT, (cmp_tell hk he).1]
theorem cmp_7 : twoP 7 a b = tri (some (cmpV a.1 a.2.1 a.2.2 b.1 b.2.1 b.2.2 != 0)) := by
 have : twoP 7 a b = notP (twoP 6 a b) := rfl
 rw [this, cmp_6 hk he]
 cases h : (cmpV a.1 a.2.1 a.2.2 b.1 b.2.1 b.2.2 == 0) <;> simp [bne, h] <;> rfl
theorem cmp_8 : twoP 8 a b = tri (some (decide (cmpV a.1 a.2.1 a.2.2 b.1 b.2.1 b.2.2 < 0))) := by
 show ltP a b = _
 simp [ltP, ltT, (cmp_tell hk he).1]
theorem cmp_10 : twoP 10 a b = tri (some (decide (0 < cmpV a.1 a.2.1 a.2.2 b.1 b.2.1 b.2.2))) := by
 show ltP b a = _
 have e := cmpV_neg b.1 b.2.1 a.1 a.2.1 b.2.2 a.2.2
 have : decide (cmpV b.1 b.2.1 b.2.2 a.1 a.2.1 a.2.2 < 0) = decide (0 < cmpV a.1 a.2.1 a.2.2 b.1 b.2.1 b.2.2) := by
  rw [e]
  exact decide_eq_decide.mpr (by omega)
 simp only [ltP, ltT, (cmp_tell hk he).2, if_true, this]
theorem cmp_9 : twoP 9 a b = tri (some (decide (cmpV a.1 a.2.1 a.2.2 b.1 b.2.1 b.2.2 ≤ 0))) := by
 have : twoP 9 a b = notP (twoP 10 a b) := rfl
 rw [this, cmp_10 hk he]
 generalize cmpV a.1 a.2.1 a.2.2 b.1 b.2.1 b.2.2 = m
 by_cases h : 0 < m
 ·rw [decide_eq_true h, decide_eq_false (show ¬ m ≤ 0 by omega)]; rfl
 ·rw [decide_eq_false h, decide_eq_true (show m ≤ 0 by omega)]; rfl
theorem cmp_11 : twoP 11 a b = tri (some (decide (0 ≤ cmpV a.1 a.2.1 a.2.2 b.1 b.2.1 b.2.2))) := by
 have : twoP 11 a b = notP (twoP 8 a b) := rfl
 rw [this, cmp_8 hk he]
 generalize cmpV a.1 a.2.1 a.2.2 b.1 b.2.1 b.2.2 = m
 by_cases h : m < 0
 ·rw [decide_eq_true h, decide_eq_false (show ¬ 0 ≤ m by omega)]; rfl
 ·rw [decide_eq_false h, decide_eq_true (show 0 ≤ m by omega)]; rfl
end

theorem of_any {cols : List Int} {row : List Vl} (hf : FitP cols row) : ∀ x t, typP cols x = some t → OfAt row x := by
 refine Ex.ind fun k v c ks ih t ht => ?_
 obtain ⟨h1, h18, hl, ts, hts, hn⟩ := typP_node ht
 intro B a cap ra rcap w hk hB hs
 simp only [Ex.k, Ex.v, Ex.c, Ex.ks] at hk ⊢
 rw [valX]
 unfold nodeV
 by_cases k1 : k = 1
 ·subst k1
  rw [if_pos rfl]
  exact of_1 v c a ks.length cap ra row.length rcap w
 rw [if_neg k1]
 by_cases k2 : k = 2
 ·subst k2
  rw [if_pos rfl]
  unfold nodeT at hn
  rw [if_neg (by decide), if_pos rfl] at hn
  obtain ⟨q0, q1, _⟩ := colT_ok hn
  have hlen := hf.len
  have e : row.getD c.toNat vl0 = row[c.toNat]'(by omega) := by simp [List.getD, show c.toNat < row.length by omega]
  rw [e]
  exact of_2 v c a ks.length cap ra rcap w row c.toNat (by omega) (by omega) hs
 rw [if_neg k2]
 have hpos : 0 < ks.length := by
  rw [hl]; unfold kidsN; rw [if_neg (by omega)]
  repeat' split
  all_goals omega
 obtain ⟨b, off, _, _, rfl, _, _, _⟩ := hk.elem hpos
 have kid : ∀ (i : Nat) (hi : i < ks.length) (o : Nat), o = off + i * 6 → KidOf b o ra row.length rcap (valX row ks[i]) w := by
  rintro i hi o rfl
  obtain ⟨b', off', ai, ci, e, hlt, S, K⟩ := hk.elem hi
  simp only [Option.some.injEq, Addr.mk.injEq, and_true] at e
  obtain ⟨rfl, rfl⟩ := e
  exact ⟨ks[i], ai, ci, S, by omega, fun W hW => ih _ (List.getElem_mem _) _ (typsP_at hts i hi) B ai ci ra rcap W (KsAt.next hW hB K) (Nat.le_trans hB hW.size) (hs.next hW)⟩
 have rgt : ∀ (i : Nat) (hi : i < ks.length), Of (ts.getD i 0) (valX row ks[i]) := fun i hi => valX_of hf _ _ (typsP_at hts i hi)
 by_cases k3 : k = 3
 ·subst k3
  rw [if_pos rfl]
  have l1 : ks.length = 1 := hl
  have K0 := kid 0 (by omega) off (by omega)
  have R0 := rgt 0 (by omega)
  rw [vals_at row ks 0 (by omega)]
  clear kid rgt
  generalize valX row ks[0] = u0 at *
  rw [l1]
  exact of_3 v c b off cap ra row.length rcap w u0 K0 R0.1
 rw [if_neg k3]
 by_cases k16 : k = 16
 ·subst k16
  rw [if_pos rfl]
  have l1 : ks.length = 1 := hl
  have K0 := kid 0 (by omega) off (by omega)
  have R0 := rgt 0 (by omega)
  rw [vals_at row ks 0 (by omega)]
  clear kid rgt
  generalize valX row ks[0] = u0 at *
  rw [l1]
  exact of_16 v c b off cap ra row.length rcap w u0 K0 R0.1
 rw [if_neg k16]
 by_cases k17 : k = 17
 ·subst k17
  rw [if_pos rfl]
  have l3 : ks.length = 3 := hl
  have K0 := kid 0 (by omega) off (by omega)
  have K1 := kid 1 (by omega) (off + 6) (by omega)
  have K2 := kid 2 (by omega) (off + 12) (by omega)
  have R0 := rgt 0 (by omega)
  have R1 := rgt 1 (by omega)
  have R2 := rgt 2 (by omega)
  rw [vals_at row ks 0 (by omega), vals_at row ks 1 (by omega), vals_at row ks 2 (by omega)]
  clear kid rgt
  generalize valX row ks[0] = u0 at *
  generalize valX row ks[1] = u1 at *
  generalize valX row ks[2] = u2 at *
  rw [l3]
  by_cases q : (clsP u0 == some true) = true
  ·rw [if_pos q]
   exact of_17t v c b off cap ra row.length rcap w u0 K0 R0.1 u1 K1 R1.1 q
  ·rw [if_neg q]
   exact of_17f v c b off cap ra row.length rcap w u0 K0 R0.1 u2 K2 R2.1 (Bool.eq_false_iff.mpr q)
 rw [if_neg k17]
 have l2 : ks.length = 2 := by rw [hl]; unfold kidsN; rw [if_neg (by omega), if_neg (by omega), if_neg k17]
 have K0 := kid 0 (by omega) off (by omega)
 have K1 := kid 1 (by omega) (off + 6) (by omega)
 have R0 := rgt 0 (by omega)
 have R1 := rgt 1 (by omega)
 rw [vals_at row ks 0 (by omega), vals_at row ks 1 (by omega)]
 have eqk : 6 ≤ k → k ≤ 11 → ((valX row ks[0]).1 != 1 && (valX row ks[1]).1 != 1) = true → (valX row ks[0]).1 = (valX row ks[1]).1 := by
  intro h6 h11 hh
  rw [Bool.and_eq_true] at hh
  have n0 : ¬ (valX row ks[0]).1 = 1 := by simpa using hh.1
  have n1 : ¬ (valX row ks[1]).1 = 1 := by simpa using hh.2
  unfold nodeT at hn
  rw [if_neg k1, if_neg k2] at hn
  have hn := resT_ok hn
  unfold kidsT at hn
  rw [if_neg (by omega), if_pos ⟨h6, h11⟩] at hn
  rcases ht' : tog (ts.getD 0 0) (ts.getD 1 0) with _ | u
  ·rw [ht'] at hn; simp at hn
  ·have a1 := (of_tog1 ht' R0).2
   have a2 := (of_tog2 ht' R1).2
   omega
 clear kid rgt
 generalize valX row ks[0] = u0 at *
 generalize valX row ks[1] = u1 at *
 rw [l2]
 by_cases k18 : k = 18
 ·subst k18
  have e : twoP 18 u0 u1 = coalP u0 u1 := rfl
  rw [e]
  unfold coalP
  by_cases q : u0.1 = 1
  ·rw [if_pos q]
   exact of_18n v c b off cap ra row.length rcap w u0 K0 R0.1 u1 K1 R1.1 (by simpa using q)
  ·rw [if_neg q]
   exact of_18k v c b off cap ra row.length rcap w u0 K0 R0.1 (by simpa using q)
 obtain rfl | rfl | rfl | rfl | rfl | rfl | rfl | rfl | rfl | rfl | rfl | rfl : k = 4 ∨ k = 5 ∨ k = 12 ∨ k = 13 ∨ k = 14 ∨ k = 15 ∨ k = 6 ∨ k = 7 ∨ k = 8 ∨ k = 9 ∨ k = 10 ∨ k = 11 := by omega
 ·exact of_4 v c b off cap ra row.length rcap w u0 K0 R0.1 u1 K1 R1.1 _ _ rfl rfl
 ·exact of_5 v c b off cap ra row.length rcap w u0 K0 R0.1 u1 K1 R1.1 _ _ rfl rfl
 ·exact of_12 v c b off cap ra row.length rcap w u0 K0 R0.1 u1 K1 R1.1 _ _ rfl rfl
 ·exact of_13 v c b off cap ra row.length rcap w u0 K0 R0.1 u1 K1 R1.1 _ _ rfl rfl
 ·exact of_14 v c b off cap ra row.length rcap w u0 K0 R0.1 u1 K1 R1.1 _ _ rfl rfl
 ·exact of_15 v c b off cap ra row.length rcap w u0 K0 R0.1 u1 K1 R1.1 _ _ rfl rfl
 ·exact of_6 v c b off cap ra row.length rcap w u0 K0 R0.1 u1 K1 R1.1 _ _ rfl rfl (fun h => cmp_6 h (eqk (by decide) (by decide) h)) (fun h => cmp_null (by decide) (by decide) h)
 ·exact of_7 v c b off cap ra row.length rcap w u0 K0 R0.1 u1 K1 R1.1 _ _ rfl rfl (fun h => cmp_7 h (eqk (by decide) (by decide) h)) (fun h => cmp_null (by decide) (by decide) h)
 ·exact of_8 v c b off cap ra row.length rcap w u0 K0 R0.1 u1 K1 R1.1 _ _ rfl rfl (fun h => cmp_8 h (eqk (by decide) (by decide) h)) (fun h => cmp_null (by decide) (by decide) h)
 ·exact of_9 v c b off cap ra row.length rcap w u0 K0 R0.1 u1 K1 R1.1 _ _ rfl rfl (fun h => cmp_9 h (eqk (by decide) (by decide) h)) (fun h => cmp_null (by decide) (by decide) h)
 ·exact of_10 v c b off cap ra row.length rcap w u0 K0 R0.1 u1 K1 R1.1 _ _ rfl rfl (fun h => cmp_10 h (eqk (by decide) (by decide) h)) (fun h => cmp_null (by decide) (by decide) h)
 ·exact of_11 v c b off cap ra row.length rcap w u0 K0 R0.1 u1 K1 R1.1 _ _ rfl rfl (fun h => cmp_11 h (eqk (by decide) (by decide) h)) (fun h => cmp_null (by decide) (by decide) h)
end Go.Proofs.YtfojonhblblbjaaGreat
/- An append to a slice of the call's own, of whatever other slice. -/
namespace Go.Proofs.YtfojonhblblbjaaGreat
open Go.RowKit Go.Lib Go.Shelf
/-- An append to a slice of the call's own, of whatever other slice. -/
theorem wpList_append_opt {P : Program} {w : World} {ops : Array Oper} {rest : List Oper} {o : Oper} {a : Act} {Q : Exit → Act → World → Prop} (hgd : o.guard = none) (s x : Operand) (t : TypeId)
  (ho : o.op = .call { callee := .builtin .append, args := #[s, x], argTypes := #[t, t] })
  (base : Nat) (e : TypeId) (i : TypeInfo) (z : Value) (size bytes : Nat) (ht : P.underlying t = some (.slice e)) (hi : P.info? e = some i) (hz : i.zero = some z)
  (hsize : i.size = size) (hby : i.bytes = bytes) (hzs : z.cells.size = size) (hsz : 0 < size)
  (v : Value) (n : Nat) (xs : List Value) (hs : a.eval s = v) (hown : w.ownsRow base e size v n xs)
  (ao : Option Addr) (m c : Nat) (news : List Value) (hx : a.eval x = .slice ao m c) (hn0 : ao = none → m = 0 ∧ c = 0) (hl : news.length = m * size) (hnews : ∀ ad, ao = some ad → ∀ j u, news[j]? = some u → w.cell? (ad.add j) = some u) (h1 : ∀ u ∈ news, u.oneCell' = true)
  (h63 : n + m ≤ maxLen) (hbytes : (n + m) * bytes ≤ 140737488355328) (hbase : base ≤ w.heap.size)
  (h : ∀ v' w', w'.ownsRow base e size v' (n + m) (xs ++ news) → w.grownBy w' v.ownBlock → wpList P ops Q rest (a.put o.dst v') w') : wpList P ops Q (o :: rest) a w := by
 cases ao with
 | none =>
  obtain ⟨rfl, rfl⟩ := hn0 rfl
  have e0 : news = [] := List.eq_nil_of_length_eq_zero (by simpa using hl)
  subst e0
  refine wpList_append_own_none hgd s x t ho base e i size ht hi v n xs hs hown hx ?_
  exact h v w (by simpa using hown) ⟨rfl, rfl, rfl, Nat.le_refl _, fun _ _ _ => rfl⟩
 | some ad => exact wpList_append_own w hgd s x t ho base e i z size bytes ht hi hz hsize hby hzs hsz v n xs hs hown ad m c news hx hl (hnews ad rfl) h1 h63 hbytes hbase fun v' w' g1 g2 _ => h v' w' g1 g2
end Go.Proofs.YtfojonhblblbjaaGreat
/- For the document's answer: rows of old and of new memory in a slice of the call's own; the walk of its Bare. -/
namespace Go.Proofs.YtfojonhblblbjaaGreat
open Go.RowKit Go.Lib Go.Shelf

/-- A row's values lie below B, or in a block of values. -/
def Safe (B : Nat) (W : World) (a : Option Addr) (r : List Vl) : Prop := r = [] ∨ TyAt W a ∨ ∀ b off, a = some ⟨b, off, none⟩ → b < B
theorem Safe.next {B : Nat} {W w1 : World} {a : Option Addr} {r : List Vl} (h : Safe B W a r) (hb : Below W.heap.size W w1) : Safe B w1 a r := by
 rcases h with h | h | h
 ·exact .inl h
 ·exact .inr (.inl (h.next hb))
 ·exact .inr (.inr h)
theorem sl_grownM {W w1 : World} {B n : Nat} {v : Value} {xs : List Value} {a : Option Addr} {r : List Vl} (h : SlAt W a r) (hs : Safe B W a r) (ho : W.ownsRow B 53 2 v n xs) (hg : W.grownBy w1 v.ownBlock) : SlAt w1 a r ∧ Safe B w1 a r := by
 rcases hs with hs | hs | hs
 ·subst hs; exact ⟨⟨by simp, .inl rfl⟩, .inl rfl⟩
 ·have := sl_grown h hs ho hg
  exact ⟨this.1, .inr (.inl this.2)⟩
 ·refine ⟨⟨h.1, ?_⟩, .inr (.inr hs)⟩
  rcases h.2 with h | ⟨b, off, e, hr, hlt⟩
  ·exact .inl h
  ·refine .inr ⟨b, off, e, fun i hi => ?_, Nat.lt_of_lt_of_le hlt hg.size⟩
   have k : w1.heap[b]? = W.heap[b]? := hg.block b hlt fun e' => by
    have := (ho.lt b e'.symm).1
    have := hs b off e
    omega
   obtain ⟨c0, c1, c2⟩ := hr i hi
   exact ⟨(World.cell?_of_block (a := ⟨b, _, none⟩) k).trans c0, (World.cell?_of_block (a := ⟨b, _, none⟩) k).trans c1, (World.cell?_of_block (a := ⟨b, _, none⟩) k).trans c2⟩
def EncM (B : Nat) (W : World) (xs : List Value) (l : List Zp) : Prop :=
 xs.length = l.length * 2 ∧ ∀ (i : Nat) (h : i < l.length), ∃ a cap, xs[i * 2]? = some (.slice a l[i].1.length cap) ∧ xs[i * 2 + 1]? = some (.int .i64 l[i].2) ∧ SlAt W a l[i].1 ∧ Safe B W a l[i].1
theorem EncM.next {B : Nat} {W w1 : World} {xs : List Value} {l : List Zp} (h : EncM B W xs l) (hb : Below W.heap.size W w1) : EncM B w1 xs l :=
 ⟨h.1, fun i hi => by
  obtain ⟨a, cap, h1, h2, h3, h4⟩ := h.2 i hi
  exact ⟨a, cap, h1, h2, h3.next hb, h4.next hb⟩⟩
theorem EncM.append {B : Nat} {W : World} {xs ys : List Value} {l t : List Zp} (h : EncM B W xs l) (k : EncM B W ys t) : EncM B W (xs ++ ys) (l ++ t) := by
 have lx := h.1
 have ly := k.1
 refine ⟨by simp [lx, ly]; omega, fun i hi => ?_⟩
 by_cases hi' : i < l.length
 ·obtain ⟨a', c', h1, h2, h3⟩ := h.2 i hi'
  rw [List.getElem_append_left hi']
  refine ⟨a', c', ?_, ?_, h3⟩
  ·rw [List.getElem?_append_left (by omega), h1]
  ·rw [List.getElem?_append_left (by omega), h2]
 ·have hi2 : i - l.length < t.length := by simp at hi; omega
  obtain ⟨a', c', h1, h2, h3⟩ := k.2 (i - l.length) hi2
  rw [List.getElem_append_right (by omega)]
  refine ⟨a', c', ?_, ?_, h3⟩
  ·rw [List.getElem?_append_right (by omega), ← h1]; congr 1; omega
  ·rw [List.getElem?_append_right (by omega), ← h2]; congr 1; omega
theorem encM_of {w W : World} {xs : List Value} {l : List Zp} (h : EncB w xs l) (hb : Below w.heap.size w W) : EncM w.heap.size W xs l :=
 ⟨h.1, fun i hi => by
  obtain ⟨a, cap, h1, h2, h3⟩ := h.2 i hi
  refine ⟨a, cap, h1, h2, h3.next hb, ?_⟩
  rcases h3.2 with h | ⟨b, off, e, _, hlt⟩
  ·exact .inl h
  ·refine .inr (.inr fun b' off' e' => ?_)
   rw [e] at e'
   injection e' with e'
   injection e' with e' _ _
   omega⟩
/-- A slice of the call's own holds these rows. -/
def OwnM (B : Nat) (W : World) (v : Value) (l : List Zp) : Prop := ∃ xs, W.ownsRow B 53 2 v l.length xs ∧ EncM B W xs l
theorem OwnM.next {B : Nat} {W w1 : World} {v : Value} {l : List Zp} (h : OwnM B W v l) (hb : Below W.heap.size W w1) : OwnM B w1 v l := by
 obtain ⟨xs, h1, h2⟩ := h
 exact ⟨xs, own_next h1 hb, h2.next hb⟩
theorem ownM_push {B n : Nat} {W w1 : World} {v v' : Value} {xs ys : List Value} {l t : List Zp} (ho : W.ownsRow B 53 2 v n xs) (he : EncM B W xs l) (hk : EncM B W ys t) (ho' : w1.ownsRow B 53 2 v' (l ++ t).length (xs ++ ys)) (hg : W.grownBy w1 v.ownBlock) : OwnM B w1 v' (l ++ t) := by
 refine ⟨_, ho', ?_⟩
 have h := he.append hk
 exact ⟨h.1, fun i hi => by
  obtain ⟨a, cap, h1, h2, h3, h4⟩ := h.2 i hi
  have g := sl_grownM h3 h4 ho hg
  exact ⟨a, cap, h1, h2, g.1, g.2⟩⟩
/-- How a slice may lie: nil has no room; there is room for what there is. -/
structure Lie (a : Option Addr) (cap n : Nat) : Prop where
 nil : a = none → cap = 0
 room : n ≤ cap
 max : cap ≤ maxLen
theorem OwnM.zs {B : Nat} {W : World} {v : Value} {l : List Zp} (h : OwnM B W v l) : ∃ a cap, v = .slice a l.length cap ∧ ZsAt W a l ∧ Lie a cap l.length := by
 obtain ⟨xs, h1, h2⟩ := h
 have h1' := h1
 obtain ⟨hx, h1 | ⟨g, cap, cur, e, hg, hh, hn, hc, hs, ht⟩⟩ := h1
 ·obtain ⟨rfl, h0⟩ := h1
  have : l = [] := List.eq_nil_of_length_eq_zero h0
  subst this
  exact ⟨none, 0, rfl, ⟨Nat.zero_le _, .inl rfl⟩, fun _ => rfl, by simp, Nat.zero_le _⟩
 ·subst e
  refine ⟨_, cap, rfl, ⟨Nat.le_trans hn hc, .inr ⟨g, 0, rfl, ?_, ?_⟩⟩, fun e => (by cases e), hn, hc⟩
  ·exact (h1'.lt g rfl).2
  ·intro i hi
   obtain ⟨a, cp, e0, e1, e2, e3⟩ := h2.2 i hi
   refine ⟨?_, a, cp, ?_, e2⟩
   ·rw [h1'.cellAt _ (by omega), ← e1]; congr 1; omega
   ·rw [h1'.cellAt _ (by omega), ← e0]; congr 1; omega

theorem own_shapeE {W : World} {base e size n : Nat} {v : Value} {xs : List Value} (h : W.ownsRow base e size v n xs) : ∃ a c, v = .slice a n c := by
 obtain ⟨_, ⟨rfl, h0⟩ | ⟨g, c1, cur, rfl, _⟩⟩ := h
 ·exact ⟨none, 0, by rw [h0]⟩
 ·exact ⟨_, c1, rfl⟩
/-- Cells that hold bare values. -/
def EncV (xs : List Value) (l : List Vl) : Prop := xs.length = l.length * 3 ∧ ∀ (i : Nat) (h : i < l.length), xs[i * 3]? = some (.int .i64 l[i].1) ∧ xs[i * 3 + 1]? = some (.int .i64 l[i].2.1) ∧ xs[i * 3 + 2]? = some (.string l[i].2.2)
theorem EncV.push {xs : List Value} {l : List Vl} (h : EncV xs l) (v : Vl) : EncV (xs ++ [.int .i64 v.1, .int .i64 v.2.1, .string v.2.2]) (l ++ [v]) := by
 have lx := h.1
 refine ⟨by simp [lx]; omega, fun i hi => ?_⟩
 by_cases hi' : i < l.length
 ·obtain ⟨h0, h1, h2⟩ := h.2 i hi'
  rw [List.getElem_append_left hi']
  refine ⟨?_, ?_, ?_⟩
  ·rw [List.getElem?_append_left (by omega), h0]
  ·rw [List.getElem?_append_left (by omega), h1]
  ·rw [List.getElem?_append_left (by omega), h2]
 ·have : i = l.length := by simp at hi; omega
  subst this
  simp only [List.getElem_concat_length]
  refine ⟨?_, ?_, ?_⟩
  ·rw [List.getElem?_append_right (by omega)]; simp [lx]
  ·rw [List.getElem?_append_right (by omega)]; simp [lx]
  ·rw [List.getElem?_append_right (by omega)]; simp [lx]
theorem own_valsR {W : World} {B n : Nat} {v : Value} {xs : List Value} {l : List Vl} (ho : W.ownsRow B 24 3 v n xs) (hn : n = l.length) (he : EncV xs l) : ∃ a cap, v = .slice a l.length cap ∧ SlAt W a l ∧ TyAt W a := by
 subst hn
 have ho' := ho
 obtain ⟨hx, h1 | ⟨g, cap, cur, e, hg, hh, hn, hc, hs, ht⟩⟩ := ho
 ·obtain ⟨rfl, h0⟩ := h1
  have : l = [] := List.eq_nil_of_length_eq_zero h0
  subst this
  exact ⟨none, 0, rfl, ⟨Nat.zero_le _, .inl rfl⟩, fun b off e => by cases e⟩
 ·subst e
  refine ⟨_, cap, rfl, ⟨Nat.le_trans hn hc, .inr ⟨g, 0, rfl, ?_, (ho'.lt g rfl).2⟩⟩, ?_⟩
  ·intro i hi
   obtain ⟨e0, e1, e2⟩ := he.2 i hi
   refine ⟨?_, ?_, ?_⟩
   ·rw [ho'.cellAt _ (by omega), ← e0]; congr 1; omega
   ·rw [ho'.cellAt _ (by omega), ← e1]; congr 1; omega
   ·rw [ho'.cellAt _ (by omega), ← e2]; congr 1; omega
  ·intro b off e
   injection e with e
   injection e with e _ _
   subst e
   exact ⟨_, _, hh⟩
theorem news3 {W : World} {B : Nat} (hB : W.heap.size = B) (u0 u1 u2 : Value) : ∀ j u, [u0, u1, u2][j]? = some u → (W.alloc (.cells #[u0, u1, u2] 24)).cell? ((⟨B, 0, none⟩ : Addr).add j) = some u := by
 subst hB
 intro j u hj
 match j, hj with
 | 0, hj => simp at hj; subst hj; simp [Addr.add]
 | 1, hj => simp at hj; subst hj; simp [Addr.add]
 | 2, hj => simp at hj; subst hj; simp [Addr.add]
theorem one3 (x y : Int) (s : ByteArray) : ∀ u ∈ [Value.int .i64 x, .int .i64 y, .string s], u.oneCell' = true := by
 intro u hu; simp at hu; rcases hu with rfl | rfl | rfl <;> rfl

set_option maxRecDepth 100000 in
set_option maxHeartbeats 2000000 in
theorem refBareRow_at (a : Option Addr) (cap : Nat) (l : List Vl) (w : World) (h : SlAt w a l) (h8 : l.length ≤ 8) :
  Calls Tryz.prog 78 #[.slice a l.length cap] w fun e w' => (∃ a' c', e = .returned (.slice a' l.length c') ∧ SlAt w' a' (bareL l) ∧ TyAt w' a') ∧ Below w.heap.size w w' := by
 obtain ⟨i0, hi, hj0, hj1, hj2⟩ := info_parts Tryz.info49
 go_enter Tryz.func78, Tryz.ntmps78
 go_wp2_with fail
 go_loopw [3, 8] (fun v i wr => ∃ k : Nat, k ≤ l.length ∧ i = .int .i64 k ∧ (∃ xs, wr.ownsRow w.heap.size 24 3 v k xs ∧ EncV xs (bareL (l.take k))) ∧ Below w.heap.size w wr) (fun _ i _ => l.length - (intOf i).toNat)
 case atStart => exact ⟨0, Nat.zero_le _, rfl, ⟨[], World.ownsRow_nil _ _ _ _, rfl, fun i hi => by simp [bareL] at hi⟩, Below.refl _ _⟩
 case round =>
  obtain ⟨k, hk, rfl, ⟨xs, ho, he⟩, hb⟩ := hrel
  have hz := hb.size
  by_cases hlt : k < l.length
  ·obtain ⟨b, off, rfl, hbl, c0, c1, c2⟩ := (h.next hb).elem hlt
   obtain ⟨a3, c3, rfl⟩ := own_shapeE ho
   go_wp2_with fail
   refine (refBare_any _ _ _ _).mono ?_
   rintro e w1 ⟨rfl, hb1⟩
   have hb1' := chain2 hb hb1
   have hz1 := hb1'.size
   have ho1 := own_next (own_next ho ((Below.refl _ _).alloc (Nat.le_refl _) _)) hb1
   have stp : Hid (bareL (l.take (k + 1)) = bareL (l.take k) ++ [bareP l[k]]) := by
    show List.map bareP (l.take (k + 1)) = List.map bareP (l.take k) ++ [bareP l[k]]
    rw [List.take_succ_eq_append_getElem hlt, List.map_append]; rfl
   clear ho
   go_wp2_with (at_builtin; refine wpList_append_own _ rfl _ _ 51 rfl w.heap.size 24 i0 _ 3 32 Tryz.underlying51 hi hj0 hj1 hj2 rfl (by decide) _ _ _ rfl (ho1.alloc _) ⟨w1.heap.size, 0, none⟩ 1 1 [.int .i64 l[k].1, .int .i64 (bareN l[k].1 l[k].2.1), .string (bareS l[k].1 l[k].2.2)] rfl rfl (news3 rfl _ _ _) (one3 _ _ _) (by unfold maxLen; omega) (by omega) (by simp; omega) ?_)
   intro v' w2 ho2 hg2 _
   have hb2 : Below w.heap.size w w2 := (hb1'.alloc hz1 _).grown hg2 (by simp; omega) (fun q hq => ((ho1.alloc (.cells #[.int .i64 l[k].1, .int .i64 (bareN l[k].1 l[k].2.1), .string (bareS l[k].1 l[k].2.2)] 24)).lt q hq).1)
   clear hg2 ho1
   go_wp2_with fail
   go_roundw
   case rel => exact ⟨k + 1, by omega, by go_num, ⟨_, ho2, by rw [stp.out]; exact he.push (bareP l[k])⟩, hb2⟩
   case measure => simp [intOf]; omega
  ·have e : k = l.length := by omega
   subst e
   rw [List.take_length] at he
   obtain ⟨a3, c3, e3, s3, t3⟩ := own_valsR ho (bareL_length l).symm he
   rw [bareL_length] at e3
   subst e3
   go_wp2_with fail
   go_ret
   exact ⟨⟨a3, c3, rfl, s3, t3⟩, hb⟩
end Go.Proofs.YtfojonhblblbjaaGreat
/- The walk of the document's Put. -/
namespace Go.Proofs.YtfojonhblblbjaaGreat
open Go.RowKit Go.Lib Go.Shelf

def midL (r : List Vl) (x : Int) : List Zp := if x = 0 then [] else [(bareL r, x)]
theorem putL_end (r : List Vl) (x : Int) : ∀ z : List Zp, (∀ y ∈ z, cmpL y.1 r < 0) → putL z r x = z ++ midL r x
 | [], _ => rfl
 | y :: t, h => by
  rw [putL, if_pos (h y (by simp)), putL_end r x t (fun u hu => h u (by simp [hu]))]; rfl
theorem putL_skip (r : List Vl) (x : Int) (t : List Zp) : ∀ z : List Zp, (∀ y ∈ z, cmpL y.1 r < 0) → putL (z ++ t) r x = z ++ putL t r x
 | [], _ => rfl
 | y :: u, h => by
  rw [List.cons_append, putL, if_pos (h y (by simp)), putL_skip r x t u (fun v hv => h v (by simp [hv]))]; rfl
theorem take_lt {z : List Zp} {r : List Vl} {k : Nat} (h : ∀ t (ht : t < z.length), t < k → cmpL z[t].1 r < 0) : ∀ y ∈ z.take k, cmpL y.1 r < 0 := by
 intro y hy
 obtain ⟨t, ht, rfl⟩ := List.getElem_of_mem hy
 rw [List.length_take] at ht
 rw [List.getElem_take]
 exact h t (by omega) (by omega)
theorem putL_all {z : List Zp} {r : List Vl} {k : Nat} (x : Int) (hk : k = z.length) (h : ∀ t (ht : t < z.length), t < k → cmpL z[t].1 r < 0) : putL z r x = z.take k ++ midL r x ++ z.drop k := by
 subst hk
 have := take_lt h
 rw [List.take_length] at this
 rw [putL_end r x z this, List.take_length, List.drop_length, List.append_nil]
theorem putL_same {z : List Zp} {r : List Vl} {k : Nat} (x : Int) (hk : k < z.length) (h : ∀ t (ht : t < z.length), t < k → cmpL z[t].1 r < 0) (hc : cmpL z[k].1 r = 0) : putL z r x = z.take k ++ midL r (x + z[k].2) ++ z.drop (k + 1) := by
 have e : z = z.take k ++ z[k] :: z.drop (k + 1) := by rw [← List.drop_eq_getElem_cons hk, List.take_append_drop]
 have := putL_skip r x (z[k] :: z.drop (k + 1)) (z.take k) (take_lt h)
 rw [← e] at this
 rw [this, putL, if_neg (by omega), if_pos hc, List.append_assoc]
 congr 1
 unfold midL
 split <;> rfl
theorem putL_new {z : List Zp} {r : List Vl} {k : Nat} (x : Int) (hk : k < z.length) (h : ∀ t (ht : t < z.length), t < k → cmpL z[t].1 r < 0) (hc : 0 < cmpL z[k].1 r) : putL z r x = z.take k ++ midL r x ++ z.drop k := by
 have e : z = z.take k ++ z[k] :: z.drop (k + 1) := by rw [← List.drop_eq_getElem_cons hk, List.take_append_drop]
 have := putL_skip r x (z[k] :: z.drop (k + 1)) (z.take k) (take_lt h)
 rw [← e] at this
 rw [this, putL, if_neg (by omega), if_neg (by omega), List.append_assoc, List.drop_eq_getElem_cons hk]
 congr 1
 unfold midL
 split <;> rfl

theorem ZsAt.take {W : World} {a : Option Addr} {z : List Zp} (h : ZsAt W a z) (k : Nat) : ZsAt W a (z.take k) := by
 obtain ⟨h0, rfl | ⟨b, off, e, hlt, hr⟩⟩ := h
 ·exact ⟨by simp, .inl (by simp)⟩
 ·refine ⟨by rw [List.length_take]; omega, .inr ⟨b, off, e, hlt, fun i hi => ?_⟩⟩
  rw [List.length_take] at hi
  rw [List.getElem_take]
  exact hr i (by omega)
theorem ZsAt.drop {W : World} {b off : Nat} {z : List Zp} (h : ZsAt W (some ⟨b, off, none⟩) z) (k : Nat) : ZsAt W (some ⟨b, off + k * 2, none⟩) (z.drop k) := by
 obtain ⟨h0, rfl | ⟨b', off', e, hlt, hr⟩⟩ := h
 ·exact ⟨by simp, .inl (by simp)⟩
 ·injection e with e
  injection e with e1 e2 _
  subst e1 e2
  refine ⟨by rw [List.length_drop]; omega, .inr ⟨b, off + k * 2, rfl, hlt, fun i hi => ?_⟩⟩
  rw [List.length_drop] at hi
  rw [List.getElem_drop]
  have := hr (k + i) (by omega)
  rw [show off + (k + i) * 2 = off + k * 2 + i * 2 by omega] at this
  exact this

theorem ownM_pushN {B n N : Nat} {W w1 : World} {v v' : Value} {xs ys : List Value} {l t : List Zp} (ho : W.ownsRow B 53 2 v n xs) (he : EncM B W xs l) (hk : EncM B W ys t) (ho' : w1.ownsRow B 53 2 v' N (xs ++ ys)) (hN : N = (l ++ t).length) (hg : W.grownBy w1 v.ownBlock) : OwnM B w1 v' (l ++ t) := ownM_push ho he hk (hN ▸ ho') hg
theorem encM_new {B : Nat} {W : World} {a : Option Addr} {cap n : Nat} {r : List Vl} {x : Int} (hn : n = r.length) (hs : SlAt W a r) (ht : TyAt W a) : EncM B W [.slice a n cap, .int .i64 x] [(r, x)] := by
 subst hn
 refine ⟨rfl, fun i hi => ?_⟩
 have : i = 0 := by simp at hi; omega
 subst this
 exact ⟨a, cap, rfl, rfl, hs, .inr (.inl ht)⟩

set_option maxRecDepth 100000 in
set_option maxHeartbeats 4000000 in
theorem put_nil (a : Option Addr) (cap : Nat) (b : Option Addr) (cb : Nat) (r : List Vl) (x : Int) (w : World) (hn : a = none → cap = 0) (hmax : cap ≤ 9223372036854775807) (h' : SlAt w b r) (h8 : r.length ≤ 8) (hx : -400000000000000000 ≤ x ∧ x ≤ 400000000000000000) :
  Calls Tryz.prog 38 #[.slice a 0 cap, .slice b r.length cb, .int .i64 x] w fun e w' => ∃ v, e = .returned v ∧ OwnM w.heap.size w' v (putL [] r x) ∧ Below w.heap.size w w' := by
 obtain ⟨i0, hi, hj0, hj1, hj2⟩ := info_parts Tryz.info42
 rcases a with _ | ad
 ·have hc0 : cap = 0 := hn rfl
  subst hc0
  clear hn hmax
  have hbA : Below w.heap.size w (w.alloc (.cells #[] 53)) := (Below.refl _ _).alloc (Nat.le_refl _) _
  have O2 : OwnM w.heap.size (w.alloc (.cells #[] 53)) (.slice (some ⟨w.heap.size, 0, none⟩) 0 0) [] := ⟨[], World.ownsRow_made w #[] 0 (Nat.le_refl _) (Nat.zero_le _) (by simp), rfl, fun i hi => by simp at hi⟩
  by_cases hx0 : x = 0
  ·subst hx0
   go_enter Tryz.func38, Tryz.ntmps38
   go_wp2_with fail
   refine wp_loop_rounds 1 ?_
   rw [rounds_succ]
   go_wp2_with fail
   go_ret
   exact ⟨_, rfl, by simpa [putL] using O2, hbA⟩
  ·have bx : (x != 0) = true := by simp [hx0]
   have HM : Hid (putL [] r x = [] ++ [(bareL r, x)] ++ []) := by show _ = _; simp [putL, hx0]
   have hlT : ([] : List Zp).length = 0 := rfl
   clear hx0
   go_enter Tryz.func38, Tryz.ntmps38
   go_wp2_with fail
   refine wp_loop_rounds 1 ?_
   rw [rounds_succ]
   go_wp2_with fail
   refine (refBareRow_at _ _ _ _ (h'.next hbA) h8).mono ?_
   rintro e w5 ⟨⟨ab, cbb, rfl, sb, tb⟩, hb5⟩
   have hb5' := chain1 hbA hb5
   have hz5 := hb5'.size
   obtain ⟨xm, hom, hem⟩ := O2.next hb5
   have bN : Below w5.heap.size w5 (w5.alloc (.cells #[.slice ab r.length cbb, .int .i64 (x)] 53)) := (Below.refl _ _).alloc (Nat.le_refl _) _
   have hemN := hem.next bN
   have newN : EncM w.heap.size (w5.alloc (.cells #[.slice ab r.length cbb, .int .i64 (x)] 53)) [.slice ab r.length cbb, .int .i64 (x)] [(bareL r, x)] := encM_new (bareL_length r).symm (sb.next bN) (tb.next bN)
   go_wp2_with (at_builtin; refine wpList_append_own _ rfl (.tmp 55) (.tmp 60) 28 rfl w.heap.size 53 i0 _ 2 32 Tryz.underlying28 hi hj0 hj1 hj2 rfl (by decide) _ _ _ rfl (hom.alloc _) ⟨w5.heap.size, 0, none⟩ 1 1 [.slice ab r.length cbb, .int .i64 (x)] rfl rfl (news2 rfl _ _) (one2 _ _ _ _) (by unfold maxLen; omega) (by omega) (by simp; omega) ?_)
   intro v6 w6 ho6 hg6 _
   have hb6 : Below w.heap.size w w6 := (hb5'.alloc hz5 _).grown hg6 (by simp; omega) (fun q hq => ((hom.alloc (.cells #[.slice ab r.length cbb, .int .i64 (x)] 53)).lt q hq).1)
   have O6 : OwnM w.heap.size w6 v6 (([] : List Zp) ++ [(bareL r, x)]) := ownM_pushN (hom.alloc _) hemN newN ho6 (by simp [hlT]) hg6
   have hl6 : (([] : List Zp) ++ [(bareL r, x)]).length = 0 + 1 := by rw [List.length_append, hlT]; rfl
   obtain ⟨a6, c6, rfl⟩ := own_shape ho6
   clear ho6 hg6 hom hem hemN newN sb tb
   obtain ⟨xo, ho, he⟩ := O6
   go_wp2_with (at_builtin; refine wpList_append_opt rfl (.tmp 62) (.tmp 65) 28 rfl w.heap.size 53 i0 _ 2 32 Tryz.underlying28 hi hj0 hj1 hj2 rfl (by decide) _ _ _ rfl ho _ _ _ [] rfl (fun _ => ⟨rfl, rfl⟩) (by simp) (fun ad e j u hj => by simp at hj) (by simp) (by unfold maxLen; simp) (by simp) hb6.size ?_)
   intro v9 w9 ho9 hg9
   have hb9 : Below w.heap.size w w9 := hb6.grown hg9 hb6.size (fun q hq => (ho.lt q hq).1)
   have R : OwnM w.heap.size w9 v9 ([] ++ [(bareL r, x)] ++ []) := ownM_pushN (ys := []) ho he ⟨rfl, fun i hi => by simp at hi⟩ (by rw [List.append_nil]; simpa using ho9) (by simp) hg9
   obtain ⟨a9, c9, rfl⟩ := own_shape ho9
   clear ho9 hg9 ho he
   go_wp2_with fail
   go_ret
   exact ⟨_, rfl, by rw [HM.out]; exact R, hb9⟩
 ·clear hn
  by_cases hcp : cap = 0
  ·subst hcp
   have hbA : Below w.heap.size w (w.alloc (.cells #[] 53)) := (Below.refl _ _).alloc (Nat.le_refl _) _
   have O2 : OwnM w.heap.size (w.alloc (.cells #[] 53)) (.slice (some ⟨w.heap.size, 0, none⟩) 0 0) [] := ⟨[], World.ownsRow_made w #[] 0 (Nat.le_refl _) (Nat.zero_le _) (by simp), rfl, fun i hi => by simp at hi⟩
   by_cases hx0 : x = 0
   ·subst hx0
    go_enter Tryz.func38, Tryz.ntmps38
    go_wp2_with fail
    refine wp_loop_rounds 1 ?_
    rw [rounds_succ]
    go_wp2_with fail
    go_ret
    exact ⟨_, rfl, by simpa [putL] using O2, hbA⟩
   ·have bx : (x != 0) = true := by simp [hx0]
    have HM : Hid (putL [] r x = [] ++ [(bareL r, x)] ++ []) := by show _ = _; simp [putL, hx0]
    have hlT : ([] : List Zp).length = 0 := rfl
    clear hx0
    go_enter Tryz.func38, Tryz.ntmps38
    go_wp2_with fail
    refine wp_loop_rounds 1 ?_
    rw [rounds_succ]
    go_wp2_with fail
    refine (refBareRow_at _ _ _ _ (h'.next hbA) h8).mono ?_
    rintro e w5 ⟨⟨ab, cbb, rfl, sb, tb⟩, hb5⟩
    have hb5' := chain1 hbA hb5
    have hz5 := hb5'.size
    obtain ⟨xm, hom, hem⟩ := O2.next hb5
    have bN : Below w5.heap.size w5 (w5.alloc (.cells #[.slice ab r.length cbb, .int .i64 (x)] 53)) := (Below.refl _ _).alloc (Nat.le_refl _) _
    have hemN := hem.next bN
    have newN : EncM w.heap.size (w5.alloc (.cells #[.slice ab r.length cbb, .int .i64 (x)] 53)) [.slice ab r.length cbb, .int .i64 (x)] [(bareL r, x)] := encM_new (bareL_length r).symm (sb.next bN) (tb.next bN)
    go_wp2_with (at_builtin; refine wpList_append_own _ rfl (.tmp 55) (.tmp 60) 28 rfl w.heap.size 53 i0 _ 2 32 Tryz.underlying28 hi hj0 hj1 hj2 rfl (by decide) _ _ _ rfl (hom.alloc _) ⟨w5.heap.size, 0, none⟩ 1 1 [.slice ab r.length cbb, .int .i64 (x)] rfl rfl (news2 rfl _ _) (one2 _ _ _ _) (by unfold maxLen; omega) (by omega) (by simp; omega) ?_)
    intro v6 w6 ho6 hg6 _
    have hb6 : Below w.heap.size w w6 := (hb5'.alloc hz5 _).grown hg6 (by simp; omega) (fun q hq => ((hom.alloc (.cells #[.slice ab r.length cbb, .int .i64 (x)] 53)).lt q hq).1)
    have O6 : OwnM w.heap.size w6 v6 (([] : List Zp) ++ [(bareL r, x)]) := ownM_pushN (hom.alloc _) hemN newN ho6 (by simp [hlT]) hg6
    have hl6 : (([] : List Zp) ++ [(bareL r, x)]).length = 0 + 1 := by rw [List.length_append, hlT]; rfl
    obtain ⟨a6, c6, rfl⟩ := own_shape ho6
    clear ho6 hg6 hom hem hemN newN sb tb
    obtain ⟨xo, ho, he⟩ := O6
    go_wp2_with (at_builtin; refine wpList_append_opt rfl (.tmp 62) (.tmp 65) 28 rfl w.heap.size 53 i0 _ 2 32 Tryz.underlying28 hi hj0 hj1 hj2 rfl (by decide) _ _ _ rfl ho _ _ _ [] rfl (by intro e; cases e) (by simp) (fun ad e j u hj => by simp at hj) (by simp) (by unfold maxLen; simp) (by simp) hb6.size ?_)
    intro v9 w9 ho9 hg9
    have hb9 : Below w.heap.size w w9 := hb6.grown hg9 hb6.size (fun q hq => (ho.lt q hq).1)
    have R : OwnM w.heap.size w9 v9 ([] ++ [(bareL r, x)] ++ []) := ownM_pushN (ys := []) ho he ⟨rfl, fun i hi => by simp at hi⟩ (by rw [List.append_nil]; simpa using ho9) (by simp) hg9
    obtain ⟨a9, c9, rfl⟩ := own_shape ho9
    clear ho9 hg9 ho he
    go_wp2_with fail
    go_ret
    exact ⟨_, rfl, by rw [HM.out]; exact R, hb9⟩
  ·have hcp' : 0 < cap := by omega
   have hbA : Below w.heap.size w (w.alloc (.cells #[] 53)) := (Below.refl _ _).alloc (Nat.le_refl _) _
   have O2 : OwnM w.heap.size (w.alloc (.cells #[] 53)) (.slice (some ⟨w.heap.size, 0, none⟩) 0 0) [] := ⟨[], World.ownsRow_made w #[] 0 (Nat.le_refl _) (Nat.zero_le _) (by simp), rfl, fun i hi => by simp at hi⟩
   by_cases hx0 : x = 0
   ·subst hx0
    go_enter Tryz.func38, Tryz.ntmps38
    go_wp2_with fail
    refine wp_loop_rounds 1 ?_
    rw [rounds_succ]
    go_wp2_with fail
    go_ret
    exact ⟨_, rfl, by simpa [putL] using O2, hbA⟩
   ·have bx : (x != 0) = true := by simp [hx0]
    have HM : Hid (putL [] r x = [] ++ [(bareL r, x)] ++ []) := by show _ = _; simp [putL, hx0]
    have hlT : ([] : List Zp).length = 0 := rfl
    clear hx0
    go_enter Tryz.func38, Tryz.ntmps38
    go_wp2_with fail
    refine wp_loop_rounds 1 ?_
    rw [rounds_succ]
    go_wp2_with fail
    refine (refBareRow_at _ _ _ _ (h'.next hbA) h8).mono ?_
    rintro e w5 ⟨⟨ab, cbb, rfl, sb, tb⟩, hb5⟩
    have hb5' := chain1 hbA hb5
    have hz5 := hb5'.size
    obtain ⟨xm, hom, hem⟩ := O2.next hb5
    have bN : Below w5.heap.size w5 (w5.alloc (.cells #[.slice ab r.length cbb, .int .i64 (x)] 53)) := (Below.refl _ _).alloc (Nat.le_refl _) _
    have hemN := hem.next bN
    have newN : EncM w.heap.size (w5.alloc (.cells #[.slice ab r.length cbb, .int .i64 (x)] 53)) [.slice ab r.length cbb, .int .i64 (x)] [(bareL r, x)] := encM_new (bareL_length r).symm (sb.next bN) (tb.next bN)
    go_wp2_with (at_builtin; refine wpList_append_own _ rfl (.tmp 55) (.tmp 60) 28 rfl w.heap.size 53 i0 _ 2 32 Tryz.underlying28 hi hj0 hj1 hj2 rfl (by decide) _ _ _ rfl (hom.alloc _) ⟨w5.heap.size, 0, none⟩ 1 1 [.slice ab r.length cbb, .int .i64 (x)] rfl rfl (news2 rfl _ _) (one2 _ _ _ _) (by unfold maxLen; omega) (by omega) (by simp; omega) ?_)
    intro v6 w6 ho6 hg6 _
    have hb6 : Below w.heap.size w w6 := (hb5'.alloc hz5 _).grown hg6 (by simp; omega) (fun q hq => ((hom.alloc (.cells #[.slice ab r.length cbb, .int .i64 (x)] 53)).lt q hq).1)
    have O6 : OwnM w.heap.size w6 v6 (([] : List Zp) ++ [(bareL r, x)]) := ownM_pushN (hom.alloc _) hemN newN ho6 (by simp [hlT]) hg6
    have hl6 : (([] : List Zp) ++ [(bareL r, x)]).length = 0 + 1 := by rw [List.length_append, hlT]; rfl
    obtain ⟨a6, c6, rfl⟩ := own_shape ho6
    clear ho6 hg6 hom hem hemN newN sb tb
    obtain ⟨xo, ho, he⟩ := O6
    go_wp2_with (at_builtin; refine wpList_append_opt rfl (.tmp 62) (.tmp 65) 28 rfl w.heap.size 53 i0 _ 2 32 Tryz.underlying28 hi hj0 hj1 hj2 rfl (by decide) _ _ _ rfl ho _ _ _ [] rfl (by intro e; cases e) (by simp) (fun ad e j u hj => by simp at hj) (by simp) (by unfold maxLen; simp) (by simp) hb6.size ?_)
    intro v9 w9 ho9 hg9
    have hb9 : Below w.heap.size w w9 := hb6.grown hg9 hb6.size (fun q hq => (ho.lt q hq).1)
    have R : OwnM w.heap.size w9 v9 ([] ++ [(bareL r, x)] ++ []) := ownM_pushN (ys := []) ho he ⟨rfl, fun i hi => by simp at hi⟩ (by rw [List.append_nil]; simpa using ho9) (by simp) hg9
    obtain ⟨a9, c9, rfl⟩ := own_shape ho9
    clear ho9 hg9 ho he
    go_wp2_with fail
    go_ret
    exact ⟨_, rfl, by rw [HM.out]; exact R, hb9⟩

set_option maxRecDepth 100000 in
set_option maxHeartbeats 8000000 in
theorem put_at (a : Option Addr) (cap : Nat) (z : List Zp) (b : Option Addr) (cb : Nat) (r : List Vl) (x : Int) (w : World) (h : ZsAt w a z) (hL : Lie a cap z.length) (h' : SlAt w b r) (h8 : r.length ≤ 8) (hz : z.length ≤ 200000)
  (hr : ∀ y ∈ z, rightB y.1 = true) (hw : ∀ y ∈ z, -400000000000000000 ≤ y.2 ∧ y.2 ≤ 400000000000000000) (hx : -400000000000000000 ≤ x ∧ x ≤ 400000000000000000) :
  Calls Tryz.prog 38 #[.slice a z.length cap, .slice b r.length cb, .int .i64 x] w fun e w' => ∃ v, e = .returned v ∧ OwnM w.heap.size w' v (putL z r x) ∧ Below w.heap.size w w' := by
 by_cases hz0 : z = []
 ·subst hz0
  exact put_nil a cap b cb r x w hL.nil (by have := hL.max; unfold maxLen at this; omega) h' h8 hx
 have hpos : 0 < z.length := List.length_pos_iff.2 hz0
 clear hz0
 obtain ⟨i0, hi, hj0, hj1, hj2⟩ := info_parts Tryz.info42
 have HRt : Hid (∀ y ∈ z, rightB y.1 = true) := hr
 clear hr
 go_enter Tryz.func38, Tryz.ntmps38
 go_wp2_with fail
 go_loopw [7] (fun i wr => ∃ k : Nat, k ≤ z.length ∧ i = .int .i64 k ∧ Hid (∀ t (ht : t < z.length), t < k → cmpL z[t].1 r < 0) ∧ Below w.heap.size w wr) (fun i _ => z.length - (intOf i).toNat)
 case atStart => exact ⟨0, Nat.zero_le _, rfl, fun t _ ht => absurd ht (Nat.not_lt_zero _), Below.refl _ _⟩
 case round =>
  obtain ⟨k, hk, rfl, HC, hb⟩ := hrel
  have hzz := hb.size
  have hcap := hL.room
  have hmax := hL.max
  unfold maxLen at hmax
  by_cases hlt : k < z.length
  ·have i1 : (0 : Int) ≤ (k : Int) := by omega
   have i2 : (k : Int) < (z.length : Int) := by omega
   obtain ⟨bz, off, rfl, hbl, c1, ar, cr, c0, sr⟩ := (h.next hb).elem hlt
   have hR1 : Hid (rightB z[k].1 = true) := HRt.out _ (List.getElem_mem hlt)
   by_cases hc : cmpL z[k].1 r < 0
   ·go_wp2_with fail
    refine (refRows_at _ _ _ _ _ _ _ sr (h'.next hb) hR1.out).mono ?_
    rintro e w1 ⟨rfl, hb1⟩
    go_wp2_with fail
    go_roundw
    case rel => exact ⟨k + 1, by omega, by go_num, fun t ht htk => by
     by_cases e : t = k
     ·subst e; exact hc
     ·exact HC.out t ht (by omega), chain1 hb hb1⟩
    case measure => simp [intOf]; omega
   ·go_wp2_with fail
    refine (refRows_at _ _ _ _ _ _ _ sr (h'.next hb) hR1.out).mono ?_
    rintro e w1 ⟨rfl, hb1⟩
    have hb1' := chain1 hb hb1
    have hz1 := hb1'.size
    obtain ⟨nT, eT, oT, eT0, cT⟩ := src_of (h.take k)
    have hlT : (z.take k).length = k := by rw [List.length_take]; omega
    have eTl := eT.1
    rw [hlT] at eTl
    go_wp2_with (at_builtin; refine wpList_append_opt rfl (.tmp 25) (.tmp 28) 28 rfl w.heap.size 53 i0 _ 2 32 Tryz.underlying28 hi hj0 hj1 hj2 rfl (by decide) _ _ _ rfl (World.ownsRow_made w1 #[] 0 hz1 (Nat.zero_le _) (by simp)) _ k cap nT rfl (by intro e; cases e) eTl (fun ad e j u hj => Lib.cell?_alloc_some _ ((hb1'.cell (World.block_lt_of_cell? _ _ (cT ad e j u hj))).trans (cT ad e j u hj))) oT (by unfold maxLen; omega) (by omega) (by simp; omega) ?_)
    intro v2 w2 ho2 hg2
    have hb2 : Below w.heap.size w w2 := (hb1'.alloc hz1 _).grown hg2 (by simp; omega) (fun q hq => by simp [Value.ownBlock] at hq; omega)
    have hb12 : Below w1.heap.size w1 w2 := ((Below.refl _ _).alloc (Nat.le_refl _) _).grown hg2 (by simp) (fun q hq => by simp [Value.ownBlock] at hq; omega)
    have O2 : OwnM w.heap.size w2 v2 (z.take k) := ⟨nT, by rw [hlT]; simpa using ho2, encM_of eT hb2⟩
    obtain ⟨a2, c2, rfl⟩ := own_shape ho2
    clear ho2 hg2 eT oT eT0 cT eTl
    have d0 := (hb12.cell (p := ⟨bz, _, none⟩) (Nat.lt_of_lt_of_le hbl hb1.size)).trans ((hb1.cell (p := ⟨bz, _, none⟩) hbl).trans c0)
    have d1 := (hb12.cell (p := ⟨bz, _, none⟩) (Nat.lt_of_lt_of_le hbl hb1.size)).trans ((hb1.cell (p := ⟨bz, _, none⟩) hbl).trans c1)
    have hbl2 := Nat.lt_of_lt_of_le (Nat.lt_of_lt_of_le hbl hb1.size) hb12.size
    have sr2 := (sr.next hb1).next hb12
    clear c0 c1 sr
    by_cases h0 : cmpL z[k].1 r = 0
    ·have HP : Hid (putL z r x = z.take k ++ midL r (x + z[k].2) ++ z.drop (k + 1)) := putL_same x hlt HC.out h0
     have b0 : (cmpL z[k].1 r == 0) = true := by simpa using h0
     have hwk := hw z[k] (List.getElem_mem hlt)
     clear h0 hc
     go_wp2_with fail
     refine (refRows_at _ _ _ _ _ _ _ sr2 (h'.next hb2) hR1.out).mono ?_
     rintro e w3 ⟨rfl, hb3⟩
     have d3 := (hb3.cell (p := ⟨bz, _, none⟩) hbl2).trans d1
     have hb3' := chain1 hb2 hb3
     have O3 := O2.next hb3
     clear d0 d1 O2
     by_cases hx0 : x + z[k].2 = 0
     ·have HM : Hid (putL z r x = z.take k ++ z.drop (k + 1)) := by
       show _ = _
       rw [HP.out]
       simp only [midL, hx0, if_true, List.append_nil]
      have bx : ((x + z[k].2) != 0) = false := by simp [hx0]
      obtain ⟨nD, eD, oD, eD0, cD⟩ := src_of (h.drop (k + 1))
      have eDl := eD.1
      have hlD : (z.drop (k + 1)).length = z.length - (k + 1) := List.length_drop
      rw [hlD] at eDl
      by_cases hcc : k + 1 < cap
      ·have hcc1 : ((cap : Int) - ((k + 1 : Nat) : Int) = 0) = False := by simp; omega
       have hcc2 : ¬ cap = k + 1 := by omega
       have hcc3 : ¬ cap - (k + 1) = 0 := by omega
       obtain ⟨xo, ho, he⟩ := O3
       go_wp2_with (at_builtin; refine wpList_append_opt rfl (.tmp 62) (.tmp 65) 28 rfl w.heap.size 53 i0 _ 2 32 Tryz.underlying28 hi hj0 hj1 hj2 rfl (by decide) _ _ _ rfl ho _ _ _ nD rfl (by intro e; cases e) (by omega) (fun ad e j u hj => by injection e with e; subst e; exact (hb3'.cell (World.block_lt_of_cell? _ _ (cD _ rfl j u hj))).trans (cD _ rfl j u hj)) oD (by unfold maxLen; omega) (by omega) hb3'.size ?_)
       intro v9 w9 ho9 hg9
       have hb9 : Below w.heap.size w w9 := hb3'.grown hg9 hb3'.size (fun q hq => (ho.lt q hq).1)
       have R : OwnM w.heap.size w9 v9 (z.take k ++ z.drop (k + 1)) := ownM_pushN ho he (encM_of eD hb3') ho9 (by first | (rw [List.length_append]; omega) | (rw [List.length_append, List.length_append, List.length_singleton]; omega)) hg9
       obtain ⟨a9, c9, rfl⟩ := own_shape ho9
       clear ho9 hg9 ho he
       go_wp2_with fail
       go_ret
       exact ⟨_, rfl, by rw [HM.out]; exact R, hb9⟩
      ·have hcc1 : cap = k + 1 := by omega
       have hcc2 : cap - (k + 1) = 0 := by omega
       have hcc3 : z.length - (k + 1) = 0 := by omega
       have ND0 : Hid (nD = []) := List.eq_nil_of_length_eq_zero (by omega)
       obtain ⟨xo, ho, he⟩ := O3
       go_wp2_with (at_builtin; refine wpList_append_opt rfl (.tmp 62) (.tmp 65) 28 rfl w.heap.size 53 i0 _ 2 32 Tryz.underlying28 hi hj0 hj1 hj2 rfl (by decide) _ _ _ rfl ho _ _ _ nD rfl (by intro e; cases e) (by omega) (fun ad e j u hj => by rw [ND0.out] at hj; simp at hj) oD (by unfold maxLen; omega) (by omega) hb3'.size ?_)
       intro v9 w9 ho9 hg9
       have hb9 : Below w.heap.size w w9 := hb3'.grown hg9 hb3'.size (fun q hq => (ho.lt q hq).1)
       have R : OwnM w.heap.size w9 v9 (z.take k ++ z.drop (k + 1)) := ownM_pushN ho he (encM_of eD hb3') ho9 (by first | (rw [List.length_append]; omega) | (rw [List.length_append, List.length_append, List.length_singleton]; omega)) hg9
       obtain ⟨a9, c9, rfl⟩ := own_shape ho9
       clear ho9 hg9 ho he
       go_wp2_with fail
       go_ret
       exact ⟨_, rfl, by rw [HM.out]; exact R, hb9⟩
     ·have HM : Hid (putL z r x = z.take k ++ [(bareL r, x + z[k].2)] ++ z.drop (k + 1)) := by
       show _ = _
       rw [HP.out]
       simp only [midL, hx0, if_false]
      have bx : ((x + z[k].2) != 0) = true := by simp [hx0]
      clear hx0
      go_wp2_with fail
      refine (refBareRow_at _ _ _ _ (h'.next hb3') h8).mono ?_
      rintro e w5 ⟨⟨ab, cbb, rfl, sb, tb⟩, hb5⟩
      have hb5' := chain1 hb3' hb5
      have hz5 := hb5'.size
      obtain ⟨xm, hom, hem⟩ := O3.next hb5
      have bN : Below w5.heap.size w5 (w5.alloc (.cells #[.slice ab r.length cbb, .int .i64 (x + z[k].2)] 53)) := (Below.refl _ _).alloc (Nat.le_refl _) _
      have hemN := hem.next bN
      have newN : EncM w.heap.size (w5.alloc (.cells #[.slice ab r.length cbb, .int .i64 (x + z[k].2)] 53)) [.slice ab r.length cbb, .int .i64 (x + z[k].2)] [(bareL r, x + z[k].2)] := encM_new (bareL_length r).symm (sb.next bN) (tb.next bN)
      go_wp2_with (at_builtin; refine wpList_append_own _ rfl (.tmp 55) (.tmp 60) 28 rfl w.heap.size 53 i0 _ 2 32 Tryz.underlying28 hi hj0 hj1 hj2 rfl (by decide) _ _ _ rfl (hom.alloc _) ⟨w5.heap.size, 0, none⟩ 1 1 [.slice ab r.length cbb, .int .i64 (x + z[k].2)] rfl rfl (news2 rfl _ _) (one2 _ _ _ _) (by unfold maxLen; omega) (by omega) (by simp; omega) ?_)
      intro v6 w6 ho6 hg6 _
      try rw [hlT] at ho6
      have hb6 : Below w.heap.size w w6 := (hb5'.alloc hz5 _).grown hg6 (by simp; omega) (fun q hq => ((hom.alloc (.cells #[.slice ab r.length cbb, .int .i64 (x + z[k].2)] 53)).lt q hq).1)
      have O6 : OwnM w.heap.size w6 v6 (z.take k ++ [(bareL r, x + z[k].2)]) := ownM_pushN (hom.alloc _) hemN newN ho6 (by simp [hlT]) hg6
      have hl6 : (z.take k ++ [(bareL r, x + z[k].2)]).length = k + 1 := by rw [List.length_append, hlT]; rfl
      obtain ⟨a6, c6, rfl⟩ := own_shape ho6
      clear ho6 hg6 hom hem hemN newN sb tb
      obtain ⟨nD, eD, oD, eD0, cD⟩ := src_of (h.drop (k + 1))
      have eDl := eD.1
      have hlD : (z.drop (k + 1)).length = z.length - (k + 1) := List.length_drop
      rw [hlD] at eDl
      by_cases hcc : k + 1 < cap
      ·have hcc1 : ((cap : Int) - ((k + 1 : Nat) : Int) = 0) = False := by simp; omega
       have hcc2 : ¬ cap = k + 1 := by omega
       have hcc3 : ¬ cap - (k + 1) = 0 := by omega
       obtain ⟨xo, ho, he⟩ := O6
       go_wp2_with (at_builtin; refine wpList_append_opt rfl (.tmp 62) (.tmp 65) 28 rfl w.heap.size 53 i0 _ 2 32 Tryz.underlying28 hi hj0 hj1 hj2 rfl (by decide) _ _ _ rfl ho _ _ _ nD rfl (by intro e; cases e) (by omega) (fun ad e j u hj => by injection e with e; subst e; exact (hb6.cell (World.block_lt_of_cell? _ _ (cD _ rfl j u hj))).trans (cD _ rfl j u hj)) oD (by unfold maxLen; omega) (by omega) hb6.size ?_)
       intro v9 w9 ho9 hg9
       have hb9 : Below w.heap.size w w9 := hb6.grown hg9 hb6.size (fun q hq => (ho.lt q hq).1)
       have R : OwnM w.heap.size w9 v9 (z.take k ++ [(bareL r, x + z[k].2)] ++ z.drop (k + 1)) := ownM_pushN ho he (encM_of eD hb6) ho9 (by first | (rw [List.length_append]; omega) | (rw [List.length_append, List.length_append, List.length_singleton]; omega)) hg9
       obtain ⟨a9, c9, rfl⟩ := own_shape ho9
       clear ho9 hg9 ho he
       go_wp2_with fail
       go_ret
       exact ⟨_, rfl, by rw [HM.out]; exact R, hb9⟩
      ·have hcc1 : cap = k + 1 := by omega
       have hcc2 : cap - (k + 1) = 0 := by omega
       have hcc3 : z.length - (k + 1) = 0 := by omega
       have ND0 : Hid (nD = []) := List.eq_nil_of_length_eq_zero (by omega)
       obtain ⟨xo, ho, he⟩ := O6
       go_wp2_with (at_builtin; refine wpList_append_opt rfl (.tmp 62) (.tmp 65) 28 rfl w.heap.size 53 i0 _ 2 32 Tryz.underlying28 hi hj0 hj1 hj2 rfl (by decide) _ _ _ rfl ho _ _ _ nD rfl (by intro e; cases e) (by omega) (fun ad e j u hj => by rw [ND0.out] at hj; simp at hj) oD (by unfold maxLen; omega) (by omega) hb6.size ?_)
       intro v9 w9 ho9 hg9
       have hb9 : Below w.heap.size w w9 := hb6.grown hg9 hb6.size (fun q hq => (ho.lt q hq).1)
       have R : OwnM w.heap.size w9 v9 (z.take k ++ [(bareL r, x + z[k].2)] ++ z.drop (k + 1)) := ownM_pushN ho he (encM_of eD hb6) ho9 (by first | (rw [List.length_append]; omega) | (rw [List.length_append, List.length_append, List.length_singleton]; omega)) hg9
       obtain ⟨a9, c9, rfl⟩ := own_shape ho9
       clear ho9 hg9 ho he
       go_wp2_with fail
       go_ret
       exact ⟨_, rfl, by rw [HM.out]; exact R, hb9⟩
    ·have HP : Hid (putL z r x = z.take k ++ midL r x ++ z.drop k) := putL_new x hlt HC.out (by omega)
     have b0 : (cmpL z[k].1 r == 0) = false := by simpa using h0
     clear h0
     go_wp2_with fail
     refine (refRows_at _ _ _ _ _ _ _ sr2 (h'.next hb2) hR1.out).mono ?_
     rintro e w3 ⟨rfl, hb3⟩
     have hb3' := chain1 hb2 hb3
     have O3 := O2.next hb3
     clear d0 d1 O2
     by_cases hx0 : x = 0
     ·have HM : Hid (putL z r x = z.take k ++ z.drop (k)) := by
       show _ = _
       rw [HP.out]
       simp only [midL, hx0, if_true, List.append_nil]
      have bx : ((x) != 0) = false := by simp [hx0]
      obtain ⟨nD, eD, oD, eD0, cD⟩ := src_of (h.drop (k))
      have eDl := eD.1
      have hlD : (z.drop (k)).length = z.length - (k) := List.length_drop
      rw [hlD] at eDl
      by_cases hcc : k < cap
      ·have hcc1 : ((cap : Int) - ((k : Nat) : Int) = 0) = False := by simp; omega
       have hcc2 : ¬ cap = k := by omega
       have hcc3 : ¬ cap - (k) = 0 := by omega
       obtain ⟨xo, ho, he⟩ := O3
       go_wp2_with (at_builtin; refine wpList_append_opt rfl (.tmp 62) (.tmp 65) 28 rfl w.heap.size 53 i0 _ 2 32 Tryz.underlying28 hi hj0 hj1 hj2 rfl (by decide) _ _ _ rfl ho _ _ _ nD rfl (by intro e; cases e) (by omega) (fun ad e j u hj => by injection e with e; subst e; exact (hb3'.cell (World.block_lt_of_cell? _ _ (cD _ rfl j u hj))).trans (cD _ rfl j u hj)) oD (by unfold maxLen; omega) (by omega) hb3'.size ?_)
       intro v9 w9 ho9 hg9
       have hb9 : Below w.heap.size w w9 := hb3'.grown hg9 hb3'.size (fun q hq => (ho.lt q hq).1)
       have R : OwnM w.heap.size w9 v9 (z.take k ++ z.drop (k)) := ownM_pushN ho he (encM_of eD hb3') ho9 (by first | (rw [List.length_append]; omega) | (rw [List.length_append, List.length_append, List.length_singleton]; omega)) hg9
       obtain ⟨a9, c9, rfl⟩ := own_shape ho9
       clear ho9 hg9 ho he
       go_wp2_with fail
       go_ret
       exact ⟨_, rfl, by rw [HM.out]; exact R, hb9⟩
      ·have hcc1 : cap = k := by omega
       have hcc2 : cap - (k) = 0 := by omega
       have hcc3 : z.length - (k) = 0 := by omega
       have ND0 : Hid (nD = []) := List.eq_nil_of_length_eq_zero (by omega)
       obtain ⟨xo, ho, he⟩ := O3
       go_wp2_with (at_builtin; refine wpList_append_opt rfl (.tmp 62) (.tmp 65) 28 rfl w.heap.size 53 i0 _ 2 32 Tryz.underlying28 hi hj0 hj1 hj2 rfl (by decide) _ _ _ rfl ho _ _ _ nD rfl (by intro e; cases e) (by omega) (fun ad e j u hj => by rw [ND0.out] at hj; simp at hj) oD (by unfold maxLen; omega) (by omega) hb3'.size ?_)
       intro v9 w9 ho9 hg9
       have hb9 : Below w.heap.size w w9 := hb3'.grown hg9 hb3'.size (fun q hq => (ho.lt q hq).1)
       have R : OwnM w.heap.size w9 v9 (z.take k ++ z.drop (k)) := ownM_pushN ho he (encM_of eD hb3') ho9 (by first | (rw [List.length_append]; omega) | (rw [List.length_append, List.length_append, List.length_singleton]; omega)) hg9
       obtain ⟨a9, c9, rfl⟩ := own_shape ho9
       clear ho9 hg9 ho he
       go_wp2_with fail
       go_ret
       exact ⟨_, rfl, by rw [HM.out]; exact R, hb9⟩
     ·have HM : Hid (putL z r x = z.take k ++ [(bareL r, x)] ++ z.drop (k)) := by
       show _ = _
       rw [HP.out]
       simp only [midL, hx0, if_false]
      have bx : ((x) != 0) = true := by simp [hx0]
      clear hx0
      go_wp2_with fail
      refine (refBareRow_at _ _ _ _ (h'.next hb3') h8).mono ?_
      rintro e w5 ⟨⟨ab, cbb, rfl, sb, tb⟩, hb5⟩
      have hb5' := chain1 hb3' hb5
      have hz5 := hb5'.size
      obtain ⟨xm, hom, hem⟩ := O3.next hb5
      have bN : Below w5.heap.size w5 (w5.alloc (.cells #[.slice ab r.length cbb, .int .i64 (x)] 53)) := (Below.refl _ _).alloc (Nat.le_refl _) _
      have hemN := hem.next bN
      have newN : EncM w.heap.size (w5.alloc (.cells #[.slice ab r.length cbb, .int .i64 (x)] 53)) [.slice ab r.length cbb, .int .i64 (x)] [(bareL r, x)] := encM_new (bareL_length r).symm (sb.next bN) (tb.next bN)
      go_wp2_with (at_builtin; refine wpList_append_own _ rfl (.tmp 55) (.tmp 60) 28 rfl w.heap.size 53 i0 _ 2 32 Tryz.underlying28 hi hj0 hj1 hj2 rfl (by decide) _ _ _ rfl (hom.alloc _) ⟨w5.heap.size, 0, none⟩ 1 1 [.slice ab r.length cbb, .int .i64 (x)] rfl rfl (news2 rfl _ _) (one2 _ _ _ _) (by unfold maxLen; omega) (by omega) (by simp; omega) ?_)
      intro v6 w6 ho6 hg6 _
      try rw [hlT] at ho6
      have hb6 : Below w.heap.size w w6 := (hb5'.alloc hz5 _).grown hg6 (by simp; omega) (fun q hq => ((hom.alloc (.cells #[.slice ab r.length cbb, .int .i64 (x)] 53)).lt q hq).1)
      have O6 : OwnM w.heap.size w6 v6 (z.take k ++ [(bareL r, x)]) := ownM_pushN (hom.alloc _) hemN newN ho6 (by simp [hlT]) hg6
      have hl6 : (z.take k ++ [(bareL r, x)]).length = k + 1 := by rw [List.length_append, hlT]; rfl
      obtain ⟨a6, c6, rfl⟩ := own_shape ho6
      clear ho6 hg6 hom hem hemN newN sb tb
      obtain ⟨nD, eD, oD, eD0, cD⟩ := src_of (h.drop (k))
      have eDl := eD.1
      have hlD : (z.drop (k)).length = z.length - (k) := List.length_drop
      rw [hlD] at eDl
      by_cases hcc : k < cap
      ·have hcc1 : ((cap : Int) - ((k : Nat) : Int) = 0) = False := by simp; omega
       have hcc2 : ¬ cap = k := by omega
       have hcc3 : ¬ cap - (k) = 0 := by omega
       obtain ⟨xo, ho, he⟩ := O6
       go_wp2_with (at_builtin; refine wpList_append_opt rfl (.tmp 62) (.tmp 65) 28 rfl w.heap.size 53 i0 _ 2 32 Tryz.underlying28 hi hj0 hj1 hj2 rfl (by decide) _ _ _ rfl ho _ _ _ nD rfl (by intro e; cases e) (by omega) (fun ad e j u hj => by injection e with e; subst e; exact (hb6.cell (World.block_lt_of_cell? _ _ (cD _ rfl j u hj))).trans (cD _ rfl j u hj)) oD (by unfold maxLen; omega) (by omega) hb6.size ?_)
       intro v9 w9 ho9 hg9
       have hb9 : Below w.heap.size w w9 := hb6.grown hg9 hb6.size (fun q hq => (ho.lt q hq).1)
       have R : OwnM w.heap.size w9 v9 (z.take k ++ [(bareL r, x)] ++ z.drop (k)) := ownM_pushN ho he (encM_of eD hb6) ho9 (by first | (rw [List.length_append]; omega) | (rw [List.length_append, List.length_append, List.length_singleton]; omega)) hg9
       obtain ⟨a9, c9, rfl⟩ := own_shape ho9
       clear ho9 hg9 ho he
       go_wp2_with fail
       go_ret
       exact ⟨_, rfl, by rw [HM.out]; exact R, hb9⟩
      ·have hcc1 : cap = k := by omega
       have hcc2 : cap - (k) = 0 := by omega
       have hcc3 : z.length - (k) = 0 := by omega
       have ND0 : Hid (nD = []) := List.eq_nil_of_length_eq_zero (by omega)
       obtain ⟨xo, ho, he⟩ := O6
       go_wp2_with (at_builtin; refine wpList_append_opt rfl (.tmp 62) (.tmp 65) 28 rfl w.heap.size 53 i0 _ 2 32 Tryz.underlying28 hi hj0 hj1 hj2 rfl (by decide) _ _ _ rfl ho _ _ _ nD rfl (by intro e; cases e) (by omega) (fun ad e j u hj => by rw [ND0.out] at hj; simp at hj) oD (by unfold maxLen; omega) (by omega) hb6.size ?_)
       intro v9 w9 ho9 hg9
       have hb9 : Below w.heap.size w w9 := hb6.grown hg9 hb6.size (fun q hq => (ho.lt q hq).1)
       have R : OwnM w.heap.size w9 v9 (z.take k ++ [(bareL r, x)] ++ z.drop (k)) := ownM_pushN ho he (encM_of eD hb6) ho9 (by first | (rw [List.length_append]; omega) | (rw [List.length_append, List.length_append, List.length_singleton]; omega)) hg9
       obtain ⟨a9, c9, rfl⟩ := own_shape ho9
       clear ho9 hg9 ho he
       go_wp2_with fail
       go_ret
       exact ⟨_, rfl, by rw [HM.out]; exact R, hb9⟩
  ·have hke : k = z.length := by omega
   obtain ⟨bz, off, rfl, hbl, -⟩ := (h.next hb).elem hpos
   have HP : Hid (putL z r x = z.take k ++ midL r x ++ z.drop k) := putL_all x hke HC.out
   clear hke
   have hb1 : Below wr.heap.size wr wr := Below.refl _ _
   have hb1' := chain1 hb hb1
   have hz1 := hb1'.size
   obtain ⟨nT, eT, oT, eT0, cT⟩ := src_of (h.take k)
   have hlT : (z.take k).length = k := by rw [List.length_take]; omega
   have eTl := eT.1
   rw [hlT] at eTl
   go_wp2_with (at_builtin; refine wpList_append_opt rfl (.tmp 25) (.tmp 28) 28 rfl w.heap.size 53 i0 _ 2 32 Tryz.underlying28 hi hj0 hj1 hj2 rfl (by decide) _ _ _ rfl (World.ownsRow_made wr #[] 0 hz1 (Nat.zero_le _) (by simp)) _ k cap nT rfl (by intro e; cases e) eTl (fun ad e j u hj => Lib.cell?_alloc_some _ ((hb1'.cell (World.block_lt_of_cell? _ _ (cT ad e j u hj))).trans (cT ad e j u hj))) oT (by unfold maxLen; omega) (by omega) (by simp; omega) ?_)
   intro v2 w2 ho2 hg2
   have hb2 : Below w.heap.size w w2 := (hb1'.alloc hz1 _).grown hg2 (by simp; omega) (fun q hq => by simp [Value.ownBlock] at hq; omega)
   have hb12 : Below wr.heap.size wr w2 := ((Below.refl _ _).alloc (Nat.le_refl _) _).grown hg2 (by simp) (fun q hq => by simp [Value.ownBlock] at hq; omega)
   have O2 : OwnM w.heap.size w2 v2 (z.take k) := ⟨nT, by rw [hlT]; simpa using ho2, encM_of eT hb2⟩
   obtain ⟨a2, c2, rfl⟩ := own_shape ho2
   clear ho2 hg2 eT oT eT0 cT eTl
   by_cases hx0 : x = 0
   ·have HM : Hid (putL z r x = z.take k ++ z.drop (k)) := by
     show _ = _
     rw [HP.out]
     simp only [midL, hx0, if_true, List.append_nil]
    have bx : ((x) != 0) = false := by simp [hx0]
    obtain ⟨nD, eD, oD, eD0, cD⟩ := src_of (h.drop (k))
    have eDl := eD.1
    have hlD : (z.drop (k)).length = z.length - (k) := List.length_drop
    rw [hlD] at eDl
    by_cases hcc : k < cap
    ·have hcc1 : ((cap : Int) - ((k : Nat) : Int) = 0) = False := by simp; omega
     have hcc2 : ¬ cap = k := by omega
     have hcc3 : ¬ cap - (k) = 0 := by omega
     obtain ⟨xo, ho, he⟩ := O2
     go_wp2_with (at_builtin; refine wpList_append_opt rfl (.tmp 62) (.tmp 65) 28 rfl w.heap.size 53 i0 _ 2 32 Tryz.underlying28 hi hj0 hj1 hj2 rfl (by decide) _ _ _ rfl ho _ _ _ nD rfl (by intro e; cases e) (by omega) (fun ad e j u hj => by injection e with e; subst e; exact (hb2.cell (World.block_lt_of_cell? _ _ (cD _ rfl j u hj))).trans (cD _ rfl j u hj)) oD (by unfold maxLen; omega) (by omega) hb2.size ?_)
     intro v9 w9 ho9 hg9
     have hb9 : Below w.heap.size w w9 := hb2.grown hg9 hb2.size (fun q hq => (ho.lt q hq).1)
     have R : OwnM w.heap.size w9 v9 (z.take k ++ z.drop (k)) := ownM_pushN ho he (encM_of eD hb2) ho9 (by first | (rw [List.length_append]; omega) | (rw [List.length_append, List.length_append, List.length_singleton]; omega)) hg9
     obtain ⟨a9, c9, rfl⟩ := own_shape ho9
     clear ho9 hg9 ho he
     go_wp2_with fail
     go_ret
     exact ⟨_, rfl, by rw [HM.out]; exact R, hb9⟩
    ·have hcc1 : cap = k := by omega
     have hcc2 : cap - (k) = 0 := by omega
     have hcc3 : z.length - (k) = 0 := by omega
     have ND0 : Hid (nD = []) := List.eq_nil_of_length_eq_zero (by omega)
     obtain ⟨xo, ho, he⟩ := O2
     go_wp2_with (at_builtin; refine wpList_append_opt rfl (.tmp 62) (.tmp 65) 28 rfl w.heap.size 53 i0 _ 2 32 Tryz.underlying28 hi hj0 hj1 hj2 rfl (by decide) _ _ _ rfl ho _ _ _ nD rfl (by intro e; cases e) (by omega) (fun ad e j u hj => by rw [ND0.out] at hj; simp at hj) oD (by unfold maxLen; omega) (by omega) hb2.size ?_)
     intro v9 w9 ho9 hg9
     have hb9 : Below w.heap.size w w9 := hb2.grown hg9 hb2.size (fun q hq => (ho.lt q hq).1)
     have R : OwnM w.heap.size w9 v9 (z.take k ++ z.drop (k)) := ownM_pushN ho he (encM_of eD hb2) ho9 (by first | (rw [List.length_append]; omega) | (rw [List.length_append, List.length_append, List.length_singleton]; omega)) hg9
     obtain ⟨a9, c9, rfl⟩ := own_shape ho9
     clear ho9 hg9 ho he
     go_wp2_with fail
     go_ret
     exact ⟨_, rfl, by rw [HM.out]; exact R, hb9⟩
   ·have HM : Hid (putL z r x = z.take k ++ [(bareL r, x)] ++ z.drop (k)) := by
     show _ = _
     rw [HP.out]
     simp only [midL, hx0, if_false]
    have bx : ((x) != 0) = true := by simp [hx0]
    clear hx0
    go_wp2_with fail
    refine (refBareRow_at _ _ _ _ (h'.next hb2) h8).mono ?_
    rintro e w5 ⟨⟨ab, cbb, rfl, sb, tb⟩, hb5⟩
    have hb5' := chain1 hb2 hb5
    have hz5 := hb5'.size
    obtain ⟨xm, hom, hem⟩ := O2.next hb5
    have bN : Below w5.heap.size w5 (w5.alloc (.cells #[.slice ab r.length cbb, .int .i64 (x)] 53)) := (Below.refl _ _).alloc (Nat.le_refl _) _
    have hemN := hem.next bN
    have newN : EncM w.heap.size (w5.alloc (.cells #[.slice ab r.length cbb, .int .i64 (x)] 53)) [.slice ab r.length cbb, .int .i64 (x)] [(bareL r, x)] := encM_new (bareL_length r).symm (sb.next bN) (tb.next bN)
    go_wp2_with (at_builtin; refine wpList_append_own _ rfl (.tmp 55) (.tmp 60) 28 rfl w.heap.size 53 i0 _ 2 32 Tryz.underlying28 hi hj0 hj1 hj2 rfl (by decide) _ _ _ rfl (hom.alloc _) ⟨w5.heap.size, 0, none⟩ 1 1 [.slice ab r.length cbb, .int .i64 (x)] rfl rfl (news2 rfl _ _) (one2 _ _ _ _) (by unfold maxLen; omega) (by omega) (by simp; omega) ?_)
    intro v6 w6 ho6 hg6 _
    try rw [hlT] at ho6
    have hb6 : Below w.heap.size w w6 := (hb5'.alloc hz5 _).grown hg6 (by simp; omega) (fun q hq => ((hom.alloc (.cells #[.slice ab r.length cbb, .int .i64 (x)] 53)).lt q hq).1)
    have O6 : OwnM w.heap.size w6 v6 (z.take k ++ [(bareL r, x)]) := ownM_pushN (hom.alloc _) hemN newN ho6 (by simp [hlT]) hg6
    have hl6 : (z.take k ++ [(bareL r, x)]).length = k + 1 := by rw [List.length_append, hlT]; rfl
    obtain ⟨a6, c6, rfl⟩ := own_shape ho6
    clear ho6 hg6 hom hem hemN newN sb tb
    obtain ⟨nD, eD, oD, eD0, cD⟩ := src_of (h.drop (k))
    have eDl := eD.1
    have hlD : (z.drop (k)).length = z.length - (k) := List.length_drop
    rw [hlD] at eDl
    by_cases hcc : k < cap
    ·have hcc1 : ((cap : Int) - ((k : Nat) : Int) = 0) = False := by simp; omega
     have hcc2 : ¬ cap = k := by omega
     have hcc3 : ¬ cap - (k) = 0 := by omega
     obtain ⟨xo, ho, he⟩ := O6
     go_wp2_with (at_builtin; refine wpList_append_opt rfl (.tmp 62) (.tmp 65) 28 rfl w.heap.size 53 i0 _ 2 32 Tryz.underlying28 hi hj0 hj1 hj2 rfl (by decide) _ _ _ rfl ho _ _ _ nD rfl (by intro e; cases e) (by omega) (fun ad e j u hj => by injection e with e; subst e; exact (hb6.cell (World.block_lt_of_cell? _ _ (cD _ rfl j u hj))).trans (cD _ rfl j u hj)) oD (by unfold maxLen; omega) (by omega) hb6.size ?_)
     intro v9 w9 ho9 hg9
     have hb9 : Below w.heap.size w w9 := hb6.grown hg9 hb6.size (fun q hq => (ho.lt q hq).1)
     have R : OwnM w.heap.size w9 v9 (z.take k ++ [(bareL r, x)] ++ z.drop (k)) := ownM_pushN ho he (encM_of eD hb6) ho9 (by first | (rw [List.length_append]; omega) | (rw [List.length_append, List.length_append, List.length_singleton]; omega)) hg9
     obtain ⟨a9, c9, rfl⟩ := own_shape ho9
     clear ho9 hg9 ho he
     go_wp2_with fail
     go_ret
     exact ⟨_, rfl, by rw [HM.out]; exact R, hb9⟩
    ·have hcc1 : cap = k := by omega
     have hcc2 : cap - (k) = 0 := by omega
     have hcc3 : z.length - (k) = 0 := by omega
     have ND0 : Hid (nD = []) := List.eq_nil_of_length_eq_zero (by omega)
     obtain ⟨xo, ho, he⟩ := O6
     go_wp2_with (at_builtin; refine wpList_append_opt rfl (.tmp 62) (.tmp 65) 28 rfl w.heap.size 53 i0 _ 2 32 Tryz.underlying28 hi hj0 hj1 hj2 rfl (by decide) _ _ _ rfl ho _ _ _ nD rfl (by intro e; cases e) (by omega) (fun ad e j u hj => by rw [ND0.out] at hj; simp at hj) oD (by unfold maxLen; omega) (by omega) hb6.size ?_)
     intro v9 w9 ho9 hg9
     have hb9 : Below w.heap.size w w9 := hb6.grown hg9 hb6.size (fun q hq => (ho.lt q hq).1)
     have R : OwnM w.heap.size w9 v9 (z.take k ++ [(bareL r, x)] ++ z.drop (k)) := ownM_pushN ho he (encM_of eD hb6) ho9 (by first | (rw [List.length_append]; omega) | (rw [List.length_append, List.length_append, List.length_singleton]; omega)) hg9
     obtain ⟨a9, c9, rfl⟩ := own_shape ho9
     clear ho9 hg9 ho he
     go_wp2_with fail
     go_ret
     exact ⟨_, rfl, by rw [HM.out]; exact R, hb9⟩
end Go.Proofs.YtfojonhblblbjaaGreat
/- The walks of the document's Wrong, Fit, Sum, Of and Weight. -/
namespace Go.Proofs.YtfojonhblblbjaaGreat
open Go.RowKit Go.Lib Go.Shelf

set_option maxRecDepth 100000 in
set_option maxHeartbeats 4000000 in
theorem refWrongZ_at (a : Option Addr) (cap : Nat) (l : List Zp) (w : World) (h : ZsAt w a l) :
  Calls Tryz.prog 74 #[.slice a l.length cap] w fun e w' => e = .returned (.int .i64 (wrongZ l)) ∧ Below w.heap.size w w' := by
 have hl := h.1
 unfold maxLen at hl
 by_cases h8 : 400 < l.length
 ·have e : wrongZ l = 5 := by simp [wrongZ, h8]
  rw [e]
  clear e
  go_enter Tryz.func74, Tryz.ntmps74
  go_wp2_with fail
  go_ret
  exact ⟨rfl, Below.refl _ _⟩
 ·have e : wrongZ l = goW none l := by simp [wrongZ, h8]
  rw [e]
  clear e
  go_enter Tryz.func74, Tryz.ntmps74
  go_wp2_with fail
  go_loopw [10] (fun i w1 => ∃ k : Nat, k ≤ l.length ∧ i = .int .i64 k ∧ Hid (goW none l = goW (prevOf l k) (l.drop k)) ∧ Hid (∀ t (ht : t < l.length), t < k → wrongRowF l[t].1 = 0) ∧ Below w.heap.size w w1) (fun i _ => l.length - (intOf i).toNat)
  case atStart => exact ⟨0, Nat.zero_le _, rfl, rfl, fun t _ ht => absurd ht (Nat.not_lt_zero _), Below.refl _ _⟩
  case round =>
   obtain ⟨k, hk, rfl, HC, HA, hb⟩ := hrel
   by_cases hlt : k < l.length
   ·have i0 : (0 : Int) ≤ (k : Int) := by omega
    have i4 : (k : Int) < (l.length : Int) := by omega
    obtain ⟨b, off, rfl, hbl, c1, ar, cr, c0, sr⟩ := (h.next hb).elem hlt
    have HZ : Hid (ZsAt w (some ⟨b, off, none⟩) l) := h
    clear h
    by_cases hw : wrongRowF l[k].1 = 0
    ·have Hw : Hid (wrongRowF l[k].1 = 0) := hw
     clear hw
     go_wp2_with fail
     refine (refRow_at _ _ _ _ sr).mono ?_
     rintro e w1 ⟨rfl, hb1⟩
     rw [Hw.out]
     have hb1' := chain1 hb hb1
     have e1 := (hb1.cell (p := ⟨b, _, none⟩) hbl).trans c1
     have e0 := (hb1.cell (p := ⟨b, _, none⟩) hbl).trans c0
     by_cases h0 : l[k].2 = 0
     ·have HN : Hid (goW none l = 3) := HC.out.trans (goW_zero l k hlt Hw.out (.inl h0))
      go_wp2_with fail
      go_ret
      exact ⟨ret_int HN.out.symm, hb1'⟩
     ·have g0 : (l[k].2 == 0) = false := by simpa using h0
      cases h1 : inW l[k].2
      ·have HN : Hid (goW none l = 3) := HC.out.trans (goW_zero l k hlt Hw.out (.inr h1))
       have H1 : Hid (inW l[k].2 = false) := h1
       clear h1
       go_wp2_with fail
       refine (refBig_any _ _).mono ?_
       rintro e w2 ⟨rfl, rfl⟩
       rw [H1.out]
       go_wp2_with fail
       go_ret
       exact ⟨ret_int HN.out.symm, hb1'⟩
      ·have H1 : Hid (inW l[k].2 = true) := h1
       clear h1
       by_cases hp : 0 < k
       ·obtain ⟨b', off', hh, hbl', ⟨d1, ap, cp, d0, sp⟩, -⟩ := (HZ.out.next hb1').elem2 (j := k - 1) (k := k) (by omega) hlt
        simp only [Option.some.injEq, Addr.mk.injEq] at hh
        obtain ⟨rfl, rfl, -⟩ := hh
        have sr1 := sr.next hb1
        have j0 : (0 : Int) < (k : Int) := by omega
        have j1 : (0 : Int) ≤ (k : Int) - 1 := by omega
        have j2 : (k : Int) - 1 < (l.length : Int) := by omega
        have j3 : ((k : Int) - 1).toNat = k - 1 := by omega
        have p0 := past_cell d0
        have p1 := past_cell e0
        have HR : Hid (rightB (l[k - 1]'(by omega)).1 = true) := ((wrongRowF_zero _).1 (HA.out (k - 1) (by omega) (by omega))).2
        haveI : Nonempty (Past w1) := ⟨⟨w1, Below.refl _ _⟩⟩
        have hbd := cmpL_bd (l[k - 1]'(by omega)).1 l[k].1
        by_cases hc : 0 ≤ cmpL (l[k - 1]'(by omega)).1 l[k].1
        ·have HN : Hid (goW none l = 2) := HC.out.trans (goW_form l k hlt Hw.out h0 H1.out hp hc)
         have hcm : (cmpL (l[k - 1]'(by omega)).1 l[k].1 != -1) = true := by simp; omega
         clear hbd hc
         go_wp2_with fail
         refine (refBig_any _ _).mono ?_
         rintro e w2 ⟨rfl, rfl⟩
         rw [H1.out]
         go_wp2_with fail
         refine wp_region_past (by kernel_rfl) (by kernel_rfl) ?_
         repeat (go_big_quiet_step (first | (go_at_call 44; exact in_past (refRows_at _ _ _ _ _ _ _ (sp.next (Past.ok _)) (sr1.next (Past.ok _)) HR.out))))
         refine wpQuiet_nil ?_
         rintro w3 ⟨⟨v3, hb3⟩, h3⟩
         obtain rfl : w3 = v3 := h3
         go_wp2_with fail
         go_ret
         exact ⟨ret_int HN.out.symm, chain1 hb1' hb3⟩
        ·have HN : Hid (goW none l = goW (prevOf l (k + 1)) (l.drop (k + 1))) := HC.out.trans (goW_next l k hlt Hw.out h0 H1.out (fun _ => hc))
         have hcm : cmpL (l[k - 1]'(by omega)).1 l[k].1 = -1 := by omega
         clear hbd hc
         go_wp2_with fail
         refine (refBig_any _ _).mono ?_
         rintro e w2 ⟨rfl, rfl⟩
         rw [H1.out]
         go_wp2_with fail
         refine wp_region_past (by kernel_rfl) (by kernel_rfl) ?_
         repeat (go_big_quiet_step (first | (go_at_call 44; exact in_past (refRows_at _ _ _ _ _ _ _ (sp.next (Past.ok _)) (sr1.next (Past.ok _)) HR.out))))
         refine wpQuiet_nil ?_
         rintro w3 ⟨⟨v3, hb3⟩, h3⟩
         obtain rfl : w3 = v3 := h3
         go_wp2_with fail
         go_roundw
         case rel => exact ⟨k + 1, by omega, by go_num, HN.out, fun t ht htk => by
          by_cases e : t = k
          ·subst e; exact Hw.out
          ·exact HA.out t ht (by omega), chain1 hb1' hb3⟩
         case measure => simp [intOf]; omega
       ·have k0 : k = 0 := by omega
        subst k0
        have HN : Hid (goW none l = goW (prevOf l (0 + 1)) (l.drop (0 + 1))) := HC.out.trans (goW_next l 0 hlt Hw.out h0 H1.out (fun h => absurd h hp))
        haveI : Nonempty (Past w1) := ⟨⟨w1, Below.refl _ _⟩⟩
        go_wp2_with fail
        refine (refBig_any _ _).mono ?_
        rintro e w2 ⟨rfl, rfl⟩
        rw [H1.out]
        go_wp2_with fail
        refine wp_region_past (by kernel_rfl) (by kernel_rfl) ?_
        repeat (go_big_quiet_step (fail))
        refine wpQuiet_nil ?_
        rintro w3 ⟨⟨v3, hb3⟩, h3⟩
        obtain rfl : w3 = v3 := h3
        go_wp2_with fail
        go_roundw
        case rel => exact ⟨0 + 1, by omega, by go_num, HN.out, fun t ht htk => by
         have : t = 0 := by omega
         subst this; exact Hw.out, chain1 hb1' hb3⟩
        case measure => simp [intOf]; omega
    ·have Hw : Hid (¬ wrongRowF l[k].1 = 0) := hw
     have hne : (wrongRowF l[k].1 != 0) = true := by simpa using hw
     have HN : Hid (goW none l = wrongRowF l[k].1) := HC.out.trans (goW_row l k hlt hw)
     clear hw
     go_wp2_with fail
     refine (refRow_at _ _ _ _ sr).mono ?_
     rintro e w1 ⟨rfl, hb1⟩
     go_wp2_with fail
     go_ret
     exact ⟨ret_int HN.out.symm, chain1 hb hb1⟩
   ·go_wp2_with fail
    go_ret
    exact ⟨ret_int (by rw [HC.out, goW_end l k (by omega)]), hb⟩

theorem canon_snoc (l : List Zp) (x : Zp) : canon (l ++ [x]) = putL (canon l) x.1 x.2 := by simp [canon]
end Go.Proofs.YtfojonhblblbjaaGreat
