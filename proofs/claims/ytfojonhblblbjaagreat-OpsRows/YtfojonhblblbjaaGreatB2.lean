/- Together: W6, W7, W12, X1, Y8, Y9, X2. -/
import Derived.Shelf.Abstract
import Derived.Test.YtfojonhblblbjaaGreatB0
import Derived.Test.YtfojonhblblbjaaGreatB1
/- The walks of vals.Int, vals.product, vals.Reckon: what each answers. -/
namespace Go.Proofs.YtfojonhblblbjaaGreat
open Go.RowKit

def inB (n : Int) : Bool := decide (-1000000000000000 ≤ n) && decide (n ≤ 1000000000000000)
theorem inB_t {n : Int} (h : inB n = true) : -1000000000000000 ≤ n ∧ n ≤ 1000000000000000 := by simpa [inB] using h
theorem inB_f {n : Int} (h : inB n = false) : n < -1000000000000000 ∨ 1000000000000000 < n := by
  unfold inB at h
  by_cases a : -1000000000000000 ≤ n
  · by_cases b : n ≤ 1000000000000000
    · simp [a, b] at h
    · right; omega
  · left; omega
theorem inB_mk {n : Int} (h0 : -1000000000000000 ≤ n) (h1 : n ≤ 1000000000000000) : inB n = true := by simp [inB, h0, h1]
theorem inB_no {n : Int} (h : n < -1000000000000000 ∨ 1000000000000000 < n) : inB n = false := by
  cases e : inB n
  · rfl
  · have := inB_t e; omega
def intK (n : Int) : Int := if inB n then 3 else 1
def intN (n : Int) : Int := if inB n then n else 0
def numB (k n : Int) : Bool := k == 3 && inB n
def recT (c n n' : Int) : Option Int := if c = 43 then some (n + n') else if c = 45 then some (n - n') else if c = 42 then some (n * n') else none
def optK : Option Int → Int | some x => intK x | none => 1
def optN : Option Int → Int | some x => intN x | none => 0
def recO (c k n k' n' : Int) : Option Int := if numB k n && numB k' n' then recT c n n' else none

set_option maxHeartbeats 400000 in
theorem inRange_any (n : Int) (w : World) :
    Calls Tryz.prog 136 #[.int .i64 n] w fun e w' => e = .returned (.bool (inB n)) ∧ w' = w := by
  by_cases h0 : -1000000000000000 ≤ n
  · go_enter Tryz.func136, Tryz.ntmps136
    go_wp2
    go_ret
    exact ⟨ret_bool (by simp [inB, h0]), rfl⟩
  · have hd : decide (-1000000000000000 ≤ n) = false := by simpa using h0
    have e : inB n = false := by simp only [inB, hd, Bool.false_and]
    go_enter Tryz.func136, Tryz.ntmps136
    go_wp2
    go_ret
    exact ⟨rfl, rfl⟩

set_option maxHeartbeats 400000 in
theorem int_in (n : Int) (w : World) (h : inB n = true) :
    Calls Tryz.prog 164 #[.int .i64 n] w fun e w' => e = .returned (.agg #[.int .i64 3, .int .i64 n, .string ⟨#[]⟩]) ∧ Below w.heap.size w w' := by
  go_enter Tryz.func164, Tryz.ntmps164
  go_wp2_with fail
  refine (inRange_any _ _).mono ?_
  rintro e w1 ⟨rfl, rfl⟩
  rw [h]
  go_wp2_with fail
  exact bodyPost_ret (v := .agg #[.int .i64 3, .int .i64 n, .string ⟨#[]⟩]) (by simp [results, Tryz.results164, go_sem]) rfl ⟨rfl, (Below.refl _ _).alloc (Nat.le_refl _) _⟩

set_option maxHeartbeats 400000 in
theorem int_out (n : Int) (w : World) (h : inB n = false) :
    Calls Tryz.prog 164 #[.int .i64 n] w fun e w' => e = .returned (.agg #[.int .i64 1, .int .i64 0, .string ⟨#[]⟩]) ∧ Below w.heap.size w w' := by
  go_enter Tryz.func164, Tryz.ntmps164
  go_wp2_with fail
  refine (inRange_any _ _).mono ?_
  rintro e w1 ⟨rfl, rfl⟩
  rw [h]
  have R0 := Box.new w (.int .i64 0) (.int .i64 0) (.string ⟨#[]⟩) 24
  go_wp2_with fail
  refine (null_any _).mono ?_
  rintro e w1 ⟨rfl, hb1⟩
  have R1 := R0.next hb1
  have ⟨r0, r1, r2, r3, r4, r5, r6⟩ := R1
  go_wp2_with fail
  exact bodyPost_ret (v := .agg #[.int .i64 1, .int .i64 0, .string ⟨#[]⟩]) (by simp [results, Tryz.results164, go_sem, r1, r2, r3]) rfl ⟨rfl, below_set3 (below1 hb1) (Nat.le_refl _)⟩

theorem int_any (n : Int) (w : World) :
    Calls Tryz.prog 164 #[.int .i64 n] w fun e w' => e = .returned (.agg #[.int .i64 (intK n), .int .i64 (intN n), .string ⟨#[]⟩]) ∧ Below w.heap.size w w' := by
  cases h : inB n
  · have e1 : intK n = 1 := by simp [intK, h]
    have e2 : intN n = 0 := by simp [intN, h]
    rw [e1, e2]; exact int_out n w h
  · have e1 : intK n = 3 := by simp [intK, h]
    have e2 : intN n = n := by simp [intN, h]
    rw [e1, e2]; exact int_in n w h

set_option maxHeartbeats 400000 in
theorem size_any (n : Int) (w : World) (h0 : -1000000000000000 ≤ n) (h1 : n ≤ 1000000000000000) :
    Calls Tryz.prog 216 #[.int .i64 n] w fun e w' => e = .returned (.int .i64 (n.natAbs : Int)) ∧ w' = w := by
  by_cases h : n < 0
  · go_enter Tryz.func216, Tryz.ntmps216
    go_wp2
    go_ret
    exact ⟨ret_int (by omega), rfl⟩
  · go_enter Tryz.func216, Tryz.ntmps216
    go_wp2
    go_ret
    exact ⟨ret_int (by omega), rfl⟩

set_option maxHeartbeats 400000 in
theorem isNumber_any (k n : Int) (s : ByteArray) (w : World) :
    Calls Tryz.prog 213 #[.agg #[.int .i64 k, .int .i64 n, .string s]] w fun e w' => e = .returned (.bool (numB k n)) ∧ Below w.heap.size w w' := by
  by_cases hk : k = 3
  · subst hk
    have e0 : (wrongF 3 n s == 0) = numB 3 n := by
      cases h : inB n
      · have := inB_f h
        have e : wrongF 3 n s = 3 := by
          rcases this with t | t
          · exact wrong_k3l n s t
          · exact wrong_k3g n s t
        simp [numB, h, e]
      · have := inB_t h
        have e : wrongF 3 n s = 0 := wrong_k3 n s (by omega) (by omega)
        simp [numB, h, e]
    have E0 : Hid ((wrongF 3 n s == 0) = numB 3 n) := e0
    clear e0
    go_enter Tryz.func213, Tryz.ntmps213
    go_wp2_with fail
    refine (wrong_any _ _ _ _).mono ?_
    rintro e w1 ⟨rfl, hb1⟩
    go_wp2_with fail
    go_ret
    exact ⟨ret_bool E0.out, below1 hb1⟩
  · have b3 : (k == 3) = false := by simpa using hk
    go_enter Tryz.func213, Tryz.ntmps213
    go_wp2_with fail
    go_ret
    exact ⟨ret_bool (by simp [numB, b3]), (Below.refl _ _).alloc (Nat.le_refl _) _⟩

end Go.Proofs.YtfojonhblblbjaaGreat
/- The walks of vals.product and vals.Reckon. -/
namespace Go.Proofs.YtfojonhblblbjaaGreat
open Go.RowKit

/-- A product whose one factor is more than the greatest number by the other one is too large; another one is not. -/
theorem mul_out (a b : Int) (h : (1000000000000000 / (a.natAbs : Int)) < (b.natAbs : Int)) (ha : a ≠ 0) : inB (a * b) = false := by
  apply inB_no
  have h1 : 1000000000000000 < (a.natAbs : Int) * (b.natAbs : Int) := by
    have p : 0 < (a.natAbs : Int) := by omega
    have := Int.lt_mul_of_ediv_lt p h
    rw [Int.mul_comm]; exact this
  have h2 : ((a * b).natAbs : Int) = (a.natAbs : Int) * (b.natAbs : Int) := by rw [Int.natAbs_mul]; exact Int.natCast_mul _ _
  rw [← h2] at h1
  omega
theorem mul_in (a b : Int) (h : (b.natAbs : Int) ≤ 1000000000000000 / (a.natAbs : Int)) (ha : a ≠ 0) : -1000000000000000 ≤ a * b ∧ a * b ≤ 1000000000000000 := by
  have h1 : (a.natAbs : Int) * (b.natAbs : Int) ≤ 1000000000000000 := by
    have p : 0 < (a.natAbs : Int) := by omega
    have := Int.mul_le_of_le_ediv p h
    rw [Int.mul_comm]; exact this
  have h2 : ((a * b).natAbs : Int) = (a.natAbs : Int) * (b.natAbs : Int) := by rw [Int.natAbs_mul]; exact Int.natCast_mul _ _
  rw [← h2] at h1
  omega

set_option maxHeartbeats 400000 in
theorem product_0 (b : Int) (w : World) :
    Calls Tryz.prog 214 #[.int .i64 0, .int .i64 b] w fun e w' => e = .returned (.agg #[.int .i64 (intK (0 * b)), .int .i64 (intN (0 * b)), .string ⟨#[]⟩]) ∧ Below w.heap.size w w' := by
  rw [Int.zero_mul]
  have R0 := Box.new w (.int .i64 0) (.int .i64 0) (.string ⟨#[]⟩) 24
  go_enter Tryz.func214, Tryz.ntmps214
  go_wp2_with fail
  refine (int_any _ _).mono ?_
  rintro e w1 ⟨rfl, hb1⟩
  have R1 := R0.next hb1
  have ⟨r0, r1, r2, r3, r4, r5, r6⟩ := R1
  go_wp2_with fail
  exact bodyPost_ret (v := .agg #[.int .i64 (intK 0), .int .i64 (intN 0), .string ⟨#[]⟩]) (by simp [results, Tryz.results214, go_sem, r1, r2, r3]) rfl ⟨rfl, below_set3 (below1 hb1) (Nat.le_refl _)⟩

set_option maxHeartbeats 400000 in
theorem product_out (a b : Int) (w : World) (a0 : -1000000000000000 ≤ a) (a1 : a ≤ 1000000000000000) (b0 : -1000000000000000 ≤ b) (b1 : b ≤ 1000000000000000) (ha : a ≠ 0) (h : (1000000000000000 / (a.natAbs : Int)) < (b.natAbs : Int)) :
    Calls Tryz.prog 214 #[.int .i64 a, .int .i64 b] w fun e w' => e = .returned (.agg #[.int .i64 1, .int .i64 0, .string ⟨#[]⟩]) ∧ Below w.heap.size w w' := by
  have R0 := Box.new w (.int .i64 0) (.int .i64 0) (.string ⟨#[]⟩) 24
  have bn : (a != 0) = true := by simpa using ha
  have p0 : 0 < (a.natAbs : Int) := by omega
  have p1 : (a.natAbs : Int) ≤ 1000000000000000 := by omega
  have q0 : 0 ≤ (b.natAbs : Int) := by omega
  have q1 : (b.natAbs : Int) ≤ 1000000000000000 := by omega
  go_enter Tryz.func214, Tryz.ntmps214
  go_wp2_with fail
  refine (size_any _ _ b0 b1).mono ?_
  rintro e w1 ⟨rfl, rfl⟩
  go_wp2_with fail
  refine (size_any _ _ a0 a1).mono ?_
  rintro e w1 ⟨rfl, rfl⟩
  generalize (a.natAbs : Int) = A at *
  generalize (b.natAbs : Int) = B at *
  go_wp2_with fail
  refine (null_any _).mono ?_
  rintro e w1 ⟨rfl, hb1⟩
  have R1 := R0.next hb1
  have ⟨r0, r1, r2, r3, r4, r5, r6⟩ := R1
  go_wp2_with fail
  exact bodyPost_ret (v := .agg #[.int .i64 1, .int .i64 0, .string ⟨#[]⟩]) (by simp [results, Tryz.results214, go_sem, r1, r2, r3]) rfl ⟨rfl, below_set3 (below1 hb1) (Nat.le_refl _)⟩

set_option maxHeartbeats 400000 in
theorem product_in (a b : Int) (w : World) (a0 : -1000000000000000 ≤ a) (a1 : a ≤ 1000000000000000) (b0 : -1000000000000000 ≤ b) (b1 : b ≤ 1000000000000000) (ha : a ≠ 0) (h : (b.natAbs : Int) ≤ (1000000000000000 / (a.natAbs : Int))) :
    Calls Tryz.prog 214 #[.int .i64 a, .int .i64 b] w fun e w' => e = .returned (.agg #[.int .i64 (intK (a * b)), .int .i64 (intN (a * b)), .string ⟨#[]⟩]) ∧ Below w.heap.size w w' := by
  have hm := mul_in a b h ha
  obtain ⟨m0, m1⟩ := hm
  have R0 := Box.new w (.int .i64 0) (.int .i64 0) (.string ⟨#[]⟩) 24
  have bn : (a != 0) = true := by simpa using ha
  have p0 : 0 < (a.natAbs : Int) := by omega
  have p1 : (a.natAbs : Int) ≤ 1000000000000000 := by omega
  have q0 : 0 ≤ (b.natAbs : Int) := by omega
  have q1 : (b.natAbs : Int) ≤ 1000000000000000 := by omega
  go_enter Tryz.func214, Tryz.ntmps214
  go_wp2_with fail
  refine (size_any _ _ b0 b1).mono ?_
  rintro e w1 ⟨rfl, rfl⟩
  go_wp2_with fail
  refine (size_any _ _ a0 a1).mono ?_
  rintro e w1 ⟨rfl, rfl⟩
  have ew : wrap64 (a * b) = a * b := by unfold wrap64; omega
  generalize (a.natAbs : Int) = A at *
  generalize (b.natAbs : Int) = B at *
  go_wp2_with fail
  refine (int_any _ _).mono ?_
  rintro e w1 ⟨rfl, hb1⟩
  have R1 := R0.next hb1
  have ⟨r0, r1, r2, r3, r4, r5, r6⟩ := R1
  go_wp2_with fail
  exact bodyPost_ret (v := .agg #[.int .i64 (intK (a * b)), .int .i64 (intN (a * b)), .string ⟨#[]⟩]) (by simp [results, Tryz.results214, go_sem, r1, r2, r3]) rfl ⟨rfl, below_set3 (below1 hb1) (Nat.le_refl _)⟩

theorem product_any (a b : Int) (w : World) (a0 : -1000000000000000 ≤ a) (a1 : a ≤ 1000000000000000) (b0 : -1000000000000000 ≤ b) (b1 : b ≤ 1000000000000000) :
    Calls Tryz.prog 214 #[.int .i64 a, .int .i64 b] w fun e w' => e = .returned (.agg #[.int .i64 (intK (a * b)), .int .i64 (intN (a * b)), .string ⟨#[]⟩]) ∧ Below w.heap.size w w' := by
  by_cases ha : a = 0
  · subst ha; exact product_0 b w
  by_cases h : (1000000000000000 / (a.natAbs : Int)) < (b.natAbs : Int)
  · have e := mul_out a b h ha
    have e1 : intK (a * b) = 1 := by simp [intK, e]
    have e2 : intN (a * b) = 0 := by simp [intN, e]
    rw [e1, e2]; exact product_out a b w a0 a1 b0 b1 ha h
  · exact product_in a b w a0 a1 b0 b1 ha (by omega)

set_option maxHeartbeats 400000 in
theorem reckon_x (c k n k' n' : Int) (s s' : ByteArray) (w : World) (h : numB k n = false) :
    Calls Tryz.prog 206 #[.int .i32 c, .agg #[.int .i64 k, .int .i64 n, .string s], .agg #[.int .i64 k', .int .i64 n', .string s']] w fun e w' => e = .returned (.agg #[.int .i64 (1), .int .i64 (0), .string ⟨#[]⟩]) ∧ Below w.heap.size w w' := by
  have A0 := ((Box.new w (.int .i64 k) (.int .i64 n) (.string s) 24).alloc (.cells #[.int .i64 k', .int .i64 n', .string s'] 24)).alloc (.cells #[.int .i64 0, .int .i64 0, .string ⟨#[]⟩] 24)
  have B0 := (Box.new (w.alloc (.cells #[.int .i64 k, .int .i64 n, .string s] 24)) (.int .i64 k') (.int .i64 n') (.string s') 24).alloc (.cells #[.int .i64 0, .int .i64 0, .string ⟨#[]⟩] 24)
  have R0 := Box.new ((w.alloc (.cells #[.int .i64 k, .int .i64 n, .string s] 24)).alloc (.cells #[.int .i64 k', .int .i64 n', .string s'] 24)) (.int .i64 0) (.int .i64 0) (.string ⟨#[]⟩) 24
  simp only [World.size_alloc] at B0 R0
  go_enter Tryz.func206, Tryz.ntmps206
  go_wp2_with fail
  refine (isNumber_any _ _ _ _).mono ?_
  rintro e w1 ⟨rfl, hb1⟩
  rw [h]
  have A1 := A0.next hb1
  have B1 := B0.next hb1
  have R1 := R0.next hb1
  have ⟨a0, a1, a2, a3, a4, a5, a6⟩ := A1
  have ⟨b0, b1, b2, b3, b4, b5, b6⟩ := B1
  have ⟨r0, r1, r2, r3, r4, r5, r6⟩ := R1
  go_wp2_with fail
  refine (null_any _).mono ?_
  rintro e w2 ⟨rfl, hb2⟩
  clear a0 a1 a2 a3 a4 a5 a6 b0 b1 b2 b3 b4 b5 b6 r0 r1 r2 r3 r4 r5 r6
  have A2 := A1.next hb2
  have B2 := B1.next hb2
  have R2 := R1.next hb2
  have ⟨a0, a1, a2, a3, a4, a5, a6⟩ := A2
  have ⟨b0, b1, b2, b3, b4, b5, b6⟩ := B2
  have ⟨r0, r1, r2, r3, r4, r5, r6⟩ := R2
  go_wp2_with fail
  have z1 := hb1.size
  have z2 := hb2.size
  simp at z1
  exact bodyPost_ret (v := .agg #[.int .i64 (1), .int .i64 (0), .string ⟨#[]⟩]) (by simp [results, Tryz.results206, go_sem, r1, r2, r3]) rfl ⟨rfl, below_set3 ((below3 hb1).trans (hb2.mono (by omega))) (by omega)⟩

set_option maxHeartbeats 400000 in
theorem reckon_y (c k n k' n' : Int) (s s' : ByteArray) (w : World) (h : numB k n = true) (h' : numB k' n' = false) :
    Calls Tryz.prog 206 #[.int .i32 c, .agg #[.int .i64 k, .int .i64 n, .string s], .agg #[.int .i64 k', .int .i64 n', .string s']] w fun e w' => e = .returned (.agg #[.int .i64 (1), .int .i64 (0), .string ⟨#[]⟩]) ∧ Below w.heap.size w w' := by
  have A0 := ((Box.new w (.int .i64 k) (.int .i64 n) (.string s) 24).alloc (.cells #[.int .i64 k', .int .i64 n', .string s'] 24)).alloc (.cells #[.int .i64 0, .int .i64 0, .string ⟨#[]⟩] 24)
  have B0 := (Box.new (w.alloc (.cells #[.int .i64 k, .int .i64 n, .string s] 24)) (.int .i64 k') (.int .i64 n') (.string s') 24).alloc (.cells #[.int .i64 0, .int .i64 0, .string ⟨#[]⟩] 24)
  have R0 := Box.new ((w.alloc (.cells #[.int .i64 k, .int .i64 n, .string s] 24)).alloc (.cells #[.int .i64 k', .int .i64 n', .string s'] 24)) (.int .i64 0) (.int .i64 0) (.string ⟨#[]⟩) 24
  simp only [World.size_alloc] at B0 R0
  go_enter Tryz.func206, Tryz.ntmps206
  go_wp2_with fail
  refine (isNumber_any _ _ _ _).mono ?_
  rintro e w1 ⟨rfl, hb1⟩
  rw [h]
  have A1 := A0.next hb1
  have B1 := B0.next hb1
  have R1 := R0.next hb1
  have ⟨a0, a1, a2, a3, a4, a5, a6⟩ := A1
  have ⟨b0, b1, b2, b3, b4, b5, b6⟩ := B1
  have ⟨r0, r1, r2, r3, r4, r5, r6⟩ := R1
  go_wp2_with fail
  refine (isNumber_any _ _ _ _).mono ?_
  rintro e w2 ⟨rfl, hb2⟩
  rw [h']
  clear a0 a1 a2 a3 a4 a5 a6 b0 b1 b2 b3 b4 b5 b6 r0 r1 r2 r3 r4 r5 r6
  have A2 := A1.next hb2
  have B2 := B1.next hb2
  have R2 := R1.next hb2
  have ⟨a0, a1, a2, a3, a4, a5, a6⟩ := A2
  have ⟨b0, b1, b2, b3, b4, b5, b6⟩ := B2
  have ⟨r0, r1, r2, r3, r4, r5, r6⟩ := R2
  go_wp2_with fail
  refine (null_any _).mono ?_
  rintro e w3 ⟨rfl, hb3⟩
  clear a0 a1 a2 a3 a4 a5 a6 b0 b1 b2 b3 b4 b5 b6 r0 r1 r2 r3 r4 r5 r6
  have A3 := A2.next hb3
  have B3 := B2.next hb3
  have R3 := R2.next hb3
  have ⟨a0, a1, a2, a3, a4, a5, a6⟩ := A3
  have ⟨b0, b1, b2, b3, b4, b5, b6⟩ := B3
  have ⟨r0, r1, r2, r3, r4, r5, r6⟩ := R3
  go_wp2_with fail
  have z1 := hb1.size
  have z2 := hb2.size
  have z3 := hb3.size
  simp at z1
  exact bodyPost_ret (v := .agg #[.int .i64 (1), .int .i64 (0), .string ⟨#[]⟩]) (by simp [results, Tryz.results206, go_sem, r1, r2, r3]) rfl ⟨rfl, below_set3 (((below3 hb1).trans (hb2.mono (by omega))).trans (hb3.mono (by omega))) (by omega)⟩

set_option maxHeartbeats 400000 in
theorem reckon_add (c k n k' n' : Int) (s s' : ByteArray) (w : World) (h : numB k n = true) (h' : numB k' n' = true) (q0 : -1000000000000000 ≤ n) (q1 : n ≤ 1000000000000000) (p0 : -1000000000000000 ≤ n') (p1 : n' ≤ 1000000000000000) (hc : c = 43) :
    Calls Tryz.prog 206 #[.int .i32 c, .agg #[.int .i64 k, .int .i64 n, .string s], .agg #[.int .i64 k', .int .i64 n', .string s']] w fun e w' => e = .returned (.agg #[.int .i64 (intK (n + n')), .int .i64 (intN (n + n')), .string ⟨#[]⟩]) ∧ Below w.heap.size w w' := by
  subst hc
  have A0 := ((Box.new w (.int .i64 k) (.int .i64 n) (.string s) 24).alloc (.cells #[.int .i64 k', .int .i64 n', .string s'] 24)).alloc (.cells #[.int .i64 0, .int .i64 0, .string ⟨#[]⟩] 24)
  have B0 := (Box.new (w.alloc (.cells #[.int .i64 k, .int .i64 n, .string s] 24)) (.int .i64 k') (.int .i64 n') (.string s') 24).alloc (.cells #[.int .i64 0, .int .i64 0, .string ⟨#[]⟩] 24)
  have R0 := Box.new ((w.alloc (.cells #[.int .i64 k, .int .i64 n, .string s] 24)).alloc (.cells #[.int .i64 k', .int .i64 n', .string s'] 24)) (.int .i64 0) (.int .i64 0) (.string ⟨#[]⟩) 24
  simp only [World.size_alloc] at B0 R0
  go_enter Tryz.func206, Tryz.ntmps206
  go_wp2_with fail
  refine (isNumber_any _ _ _ _).mono ?_
  rintro e w1 ⟨rfl, hb1⟩
  rw [h]
  have A1 := A0.next hb1
  have B1 := B0.next hb1
  have R1 := R0.next hb1
  have ⟨a0, a1, a2, a3, a4, a5, a6⟩ := A1
  have ⟨b0, b1, b2, b3, b4, b5, b6⟩ := B1
  have ⟨r0, r1, r2, r3, r4, r5, r6⟩ := R1
  go_wp2_with fail
  refine (isNumber_any _ _ _ _).mono ?_
  rintro e w2 ⟨rfl, hb2⟩
  rw [h']
  clear a0 a1 a2 a3 a4 a5 a6 b0 b1 b2 b3 b4 b5 b6 r0 r1 r2 r3 r4 r5 r6
  have A2 := A1.next hb2
  have B2 := B1.next hb2
  have R2 := R1.next hb2
  have ⟨a0, a1, a2, a3, a4, a5, a6⟩ := A2
  have ⟨b0, b1, b2, b3, b4, b5, b6⟩ := B2
  have ⟨r0, r1, r2, r3, r4, r5, r6⟩ := R2
  go_wp2_with fail
  refine (int_any _ _).mono ?_
  rintro e w3 ⟨rfl, hb3⟩
  clear a0 a1 a2 a3 a4 a5 a6 b0 b1 b2 b3 b4 b5 b6 r0 r1 r2 r3 r4 r5 r6
  have A3 := A2.next hb3
  have B3 := B2.next hb3
  have R3 := R2.next hb3
  have ⟨a0, a1, a2, a3, a4, a5, a6⟩ := A3
  have ⟨b0, b1, b2, b3, b4, b5, b6⟩ := B3
  have ⟨r0, r1, r2, r3, r4, r5, r6⟩ := R3
  go_wp2_with fail
  have z1 := hb1.size
  have z2 := hb2.size
  have z3 := hb3.size
  simp at z1
  exact bodyPost_ret (v := .agg #[.int .i64 (intK (n + n')), .int .i64 (intN (n + n')), .string ⟨#[]⟩]) (by simp [results, Tryz.results206, go_sem, r1, r2, r3]) rfl ⟨rfl, below_set3 (((below3 hb1).trans (hb2.mono (by omega))).trans (hb3.mono (by omega))) (by omega)⟩

set_option maxHeartbeats 400000 in
theorem reckon_sub (c k n k' n' : Int) (s s' : ByteArray) (w : World) (h : numB k n = true) (h' : numB k' n' = true) (q0 : -1000000000000000 ≤ n) (q1 : n ≤ 1000000000000000) (p0 : -1000000000000000 ≤ n') (p1 : n' ≤ 1000000000000000) (hc : c = 45) :
    Calls Tryz.prog 206 #[.int .i32 c, .agg #[.int .i64 k, .int .i64 n, .string s], .agg #[.int .i64 k', .int .i64 n', .string s']] w fun e w' => e = .returned (.agg #[.int .i64 (intK (n - n')), .int .i64 (intN (n - n')), .string ⟨#[]⟩]) ∧ Below w.heap.size w w' := by
  subst hc
  have A0 := ((Box.new w (.int .i64 k) (.int .i64 n) (.string s) 24).alloc (.cells #[.int .i64 k', .int .i64 n', .string s'] 24)).alloc (.cells #[.int .i64 0, .int .i64 0, .string ⟨#[]⟩] 24)
  have B0 := (Box.new (w.alloc (.cells #[.int .i64 k, .int .i64 n, .string s] 24)) (.int .i64 k') (.int .i64 n') (.string s') 24).alloc (.cells #[.int .i64 0, .int .i64 0, .string ⟨#[]⟩] 24)
  have R0 := Box.new ((w.alloc (.cells #[.int .i64 k, .int .i64 n, .string s] 24)).alloc (.cells #[.int .i64 k', .int .i64 n', .string s'] 24)) (.int .i64 0) (.int .i64 0) (.string ⟨#[]⟩) 24
  simp only [World.size_alloc] at B0 R0
  go_enter Tryz.func206, Tryz.ntmps206
  go_wp2_with fail
  refine (isNumber_any _ _ _ _).mono ?_
  rintro e w1 ⟨rfl, hb1⟩
  rw [h]
  have A1 := A0.next hb1
  have B1 := B0.next hb1
  have R1 := R0.next hb1
  have ⟨a0, a1, a2, a3, a4, a5, a6⟩ := A1
  have ⟨b0, b1, b2, b3, b4, b5, b6⟩ := B1
  have ⟨r0, r1, r2, r3, r4, r5, r6⟩ := R1
  go_wp2_with fail
  refine (isNumber_any _ _ _ _).mono ?_
  rintro e w2 ⟨rfl, hb2⟩
  rw [h']
  clear a0 a1 a2 a3 a4 a5 a6 b0 b1 b2 b3 b4 b5 b6 r0 r1 r2 r3 r4 r5 r6
  have A2 := A1.next hb2
  have B2 := B1.next hb2
  have R2 := R1.next hb2
  have ⟨a0, a1, a2, a3, a4, a5, a6⟩ := A2
  have ⟨b0, b1, b2, b3, b4, b5, b6⟩ := B2
  have ⟨r0, r1, r2, r3, r4, r5, r6⟩ := R2
  go_wp2_with fail
  refine (int_any _ _).mono ?_
  rintro e w3 ⟨rfl, hb3⟩
  clear a0 a1 a2 a3 a4 a5 a6 b0 b1 b2 b3 b4 b5 b6 r0 r1 r2 r3 r4 r5 r6
  have A3 := A2.next hb3
  have B3 := B2.next hb3
  have R3 := R2.next hb3
  have ⟨a0, a1, a2, a3, a4, a5, a6⟩ := A3
  have ⟨b0, b1, b2, b3, b4, b5, b6⟩ := B3
  have ⟨r0, r1, r2, r3, r4, r5, r6⟩ := R3
  go_wp2_with fail
  have z1 := hb1.size
  have z2 := hb2.size
  have z3 := hb3.size
  simp at z1
  exact bodyPost_ret (v := .agg #[.int .i64 (intK (n - n')), .int .i64 (intN (n - n')), .string ⟨#[]⟩]) (by simp [results, Tryz.results206, go_sem, r1, r2, r3]) rfl ⟨rfl, below_set3 (((below3 hb1).trans (hb2.mono (by omega))).trans (hb3.mono (by omega))) (by omega)⟩

set_option maxHeartbeats 400000 in
theorem reckon_mul (c k n k' n' : Int) (s s' : ByteArray) (w : World) (h : numB k n = true) (h' : numB k' n' = true) (q0 : -1000000000000000 ≤ n) (q1 : n ≤ 1000000000000000) (p0 : -1000000000000000 ≤ n') (p1 : n' ≤ 1000000000000000) (hc : c = 42) :
    Calls Tryz.prog 206 #[.int .i32 c, .agg #[.int .i64 k, .int .i64 n, .string s], .agg #[.int .i64 k', .int .i64 n', .string s']] w fun e w' => e = .returned (.agg #[.int .i64 (intK (n * n')), .int .i64 (intN (n * n')), .string ⟨#[]⟩]) ∧ Below w.heap.size w w' := by
  subst hc
  have A0 := ((Box.new w (.int .i64 k) (.int .i64 n) (.string s) 24).alloc (.cells #[.int .i64 k', .int .i64 n', .string s'] 24)).alloc (.cells #[.int .i64 0, .int .i64 0, .string ⟨#[]⟩] 24)
  have B0 := (Box.new (w.alloc (.cells #[.int .i64 k, .int .i64 n, .string s] 24)) (.int .i64 k') (.int .i64 n') (.string s') 24).alloc (.cells #[.int .i64 0, .int .i64 0, .string ⟨#[]⟩] 24)
  have R0 := Box.new ((w.alloc (.cells #[.int .i64 k, .int .i64 n, .string s] 24)).alloc (.cells #[.int .i64 k', .int .i64 n', .string s'] 24)) (.int .i64 0) (.int .i64 0) (.string ⟨#[]⟩) 24
  simp only [World.size_alloc] at B0 R0
  go_enter Tryz.func206, Tryz.ntmps206
  go_wp2_with fail
  refine (isNumber_any _ _ _ _).mono ?_
  rintro e w1 ⟨rfl, hb1⟩
  rw [h]
  have A1 := A0.next hb1
  have B1 := B0.next hb1
  have R1 := R0.next hb1
  have ⟨a0, a1, a2, a3, a4, a5, a6⟩ := A1
  have ⟨b0, b1, b2, b3, b4, b5, b6⟩ := B1
  have ⟨r0, r1, r2, r3, r4, r5, r6⟩ := R1
  go_wp2_with fail
  refine (isNumber_any _ _ _ _).mono ?_
  rintro e w2 ⟨rfl, hb2⟩
  rw [h']
  clear a0 a1 a2 a3 a4 a5 a6 b0 b1 b2 b3 b4 b5 b6 r0 r1 r2 r3 r4 r5 r6
  have A2 := A1.next hb2
  have B2 := B1.next hb2
  have R2 := R1.next hb2
  have ⟨a0, a1, a2, a3, a4, a5, a6⟩ := A2
  have ⟨b0, b1, b2, b3, b4, b5, b6⟩ := B2
  have ⟨r0, r1, r2, r3, r4, r5, r6⟩ := R2
  go_wp2_with fail
  refine (product_any _ _ _ q0 q1 p0 p1).mono ?_
  rintro e w3 ⟨rfl, hb3⟩
  clear a0 a1 a2 a3 a4 a5 a6 b0 b1 b2 b3 b4 b5 b6 r0 r1 r2 r3 r4 r5 r6
  have A3 := A2.next hb3
  have B3 := B2.next hb3
  have R3 := R2.next hb3
  have ⟨a0, a1, a2, a3, a4, a5, a6⟩ := A3
  have ⟨b0, b1, b2, b3, b4, b5, b6⟩ := B3
  have ⟨r0, r1, r2, r3, r4, r5, r6⟩ := R3
  go_wp2_with fail
  have z1 := hb1.size
  have z2 := hb2.size
  have z3 := hb3.size
  simp at z1
  exact bodyPost_ret (v := .agg #[.int .i64 (intK (n * n')), .int .i64 (intN (n * n')), .string ⟨#[]⟩]) (by simp [results, Tryz.results206, go_sem, r1, r2, r3]) rfl ⟨rfl, below_set3 (((below3 hb1).trans (hb2.mono (by omega))).trans (hb3.mono (by omega))) (by omega)⟩

set_option maxHeartbeats 400000 in
theorem reckon_z (c k n k' n' : Int) (s s' : ByteArray) (w : World) (h : numB k n = true) (h' : numB k' n' = true) (c1 : (c == 43) = false) (c2 : (c == 45) = false) (c3 : (c == 42) = false) :
    Calls Tryz.prog 206 #[.int .i32 c, .agg #[.int .i64 k, .int .i64 n, .string s], .agg #[.int .i64 k', .int .i64 n', .string s']] w fun e w' => e = .returned (.agg #[.int .i64 (1), .int .i64 (0), .string ⟨#[]⟩]) ∧ Below w.heap.size w w' := by
  have A0 := ((Box.new w (.int .i64 k) (.int .i64 n) (.string s) 24).alloc (.cells #[.int .i64 k', .int .i64 n', .string s'] 24)).alloc (.cells #[.int .i64 0, .int .i64 0, .string ⟨#[]⟩] 24)
  have B0 := (Box.new (w.alloc (.cells #[.int .i64 k, .int .i64 n, .string s] 24)) (.int .i64 k') (.int .i64 n') (.string s') 24).alloc (.cells #[.int .i64 0, .int .i64 0, .string ⟨#[]⟩] 24)
  have R0 := Box.new ((w.alloc (.cells #[.int .i64 k, .int .i64 n, .string s] 24)).alloc (.cells #[.int .i64 k', .int .i64 n', .string s'] 24)) (.int .i64 0) (.int .i64 0) (.string ⟨#[]⟩) 24
  simp only [World.size_alloc] at B0 R0
  go_enter Tryz.func206, Tryz.ntmps206
  go_wp2_with fail
  refine (isNumber_any _ _ _ _).mono ?_
  rintro e w1 ⟨rfl, hb1⟩
  rw [h]
  have A1 := A0.next hb1
  have B1 := B0.next hb1
  have R1 := R0.next hb1
  have ⟨a0, a1, a2, a3, a4, a5, a6⟩ := A1
  have ⟨b0, b1, b2, b3, b4, b5, b6⟩ := B1
  have ⟨r0, r1, r2, r3, r4, r5, r6⟩ := R1
  go_wp2_with fail
  refine (isNumber_any _ _ _ _).mono ?_
  rintro e w2 ⟨rfl, hb2⟩
  rw [h']
  clear a0 a1 a2 a3 a4 a5 a6 b0 b1 b2 b3 b4 b5 b6 r0 r1 r2 r3 r4 r5 r6
  have A2 := A1.next hb2
  have B2 := B1.next hb2
  have R2 := R1.next hb2
  have ⟨a0, a1, a2, a3, a4, a5, a6⟩ := A2
  have ⟨b0, b1, b2, b3, b4, b5, b6⟩ := B2
  have ⟨r0, r1, r2, r3, r4, r5, r6⟩ := R2
  go_wp2_with fail
  refine (null_any _).mono ?_
  rintro e w3 ⟨rfl, hb3⟩
  clear a0 a1 a2 a3 a4 a5 a6 b0 b1 b2 b3 b4 b5 b6 r0 r1 r2 r3 r4 r5 r6
  have A3 := A2.next hb3
  have B3 := B2.next hb3
  have R3 := R2.next hb3
  have ⟨a0, a1, a2, a3, a4, a5, a6⟩ := A3
  have ⟨b0, b1, b2, b3, b4, b5, b6⟩ := B3
  have ⟨r0, r1, r2, r3, r4, r5, r6⟩ := R3
  go_wp2_with fail
  have z1 := hb1.size
  have z2 := hb2.size
  have z3 := hb3.size
  simp at z1
  exact bodyPost_ret (v := .agg #[.int .i64 (1), .int .i64 (0), .string ⟨#[]⟩]) (by simp [results, Tryz.results206, go_sem, r1, r2, r3]) rfl ⟨rfl, below_set3 (((below3 hb1).trans (hb2.mono (by omega))).trans (hb3.mono (by omega))) (by omega)⟩

theorem reckon_any (c k n k' n' : Int) (s s' : ByteArray) (w : World) :
    Calls Tryz.prog 206 #[.int .i32 c, .agg #[.int .i64 k, .int .i64 n, .string s], .agg #[.int .i64 k', .int .i64 n', .string s']] w fun e w' => e = .returned (.agg #[.int .i64 (optK (recO c k n k' n')), .int .i64 (optN (recO c k n k' n')), .string ⟨#[]⟩]) ∧ Below w.heap.size w w' := by
  cases h : numB k n
  · have e : recO c k n k' n' = none := by simp [recO, h]
    rw [e]; exact reckon_x c k n k' n' s s' w h
  cases h' : numB k' n'
  · have e : recO c k n k' n' = none := by simp [recO, h, h']
    rw [e]; exact reckon_y c k n k' n' s s' w h h'
  have e : recO c k n k' n' = recT c n n' := by simp [recO, h, h']
  rw [e]
  have g : inB n = true := by unfold numB at h; simp at h; exact h.2
  have g' : inB n' = true := by unfold numB at h'; simp at h'; exact h'.2
  obtain ⟨q0, q1⟩ := inB_t g
  obtain ⟨p0, p1⟩ := inB_t g'
  by_cases c1 : c = 43
  · have e : recT c n n' = some (n + n') := by simp [recT, c1]
    rw [e]; exact reckon_add c k n k' n' s s' w h h' q0 q1 p0 p1 c1
  by_cases c2 : c = 45
  · have e : recT c n n' = some (n - n') := by simp [recT, c2]
    rw [e]; exact reckon_sub c k n k' n' s s' w h h' q0 q1 p0 p1 c2
  by_cases c3 : c = 42
  · have e : recT c n n' = some (n * n') := by simp [recT, c3]
    rw [e]; exact reckon_mul c k n k' n' s s' w h h' q0 q1 p0 p1 c3
  have e : recT c n n' = none := by simp [recT, c1, c2, c3]
  rw [e]; exact reckon_z c k n k' n' s s' w h h' (by simpa using c1) (by simpa using c2) (by simpa using c3)
end Go.Proofs.YtfojonhblblbjaaGreat
/- The walks of the document's answer, of right values: Equal, Less, And, Or, Not, Join; and of vals.Join. -/
namespace Go.Proofs.YtfojonhblblbjaaGreat
open Go.RowKit
theorem cmpI_m1 (a b : Int) : (cmpI a b == -1) = decide (cmpI a b < 0) := by
  unfold cmpI; split
  · rfl
  · split <;> rfl
theorem cmpS_m1 (a b : ByteArray) : (cmpS a b == -1) = decide (cmpS a b < 0) := by
  unfold cmpS; split
  · rfl
  · split <;> rfl
theorem cmpV_m1 (k n k' n' : Int) (s s' : ByteArray) : (cmpV k n s k' n' s' == -1) = decide (cmpV k n s k' n' s' < 0) := by
  unfold cmpV
  split
  · exact cmpI_m1 _ _
  · split
    · exact cmpI_m1 _ _
    · split
      · exact cmpS_m1 _ _
      · rfl

set_option maxHeartbeats 400000 in
theorem refAnd_f (k n k' n' : Int) (s s' : ByteArray) (w : World) (q : Tru k n) (f1 : (cls k n == some false) = true) :
    Calls Tryz.prog 116 #[.agg #[.int .i64 k, .int .i64 n, .string s], .agg #[.int .i64 k', .int .i64 n', .string s']] w fun e w' => e = .returned (.agg #[.int .i64 2, .int .i64 0, .string ⟨#[]⟩]) ∧ Below w.heap.size w w' := by
  have A0 := ((Box.new w (.int .i64 k) (.int .i64 n) (.string s) 24).alloc (.cells #[.int .i64 k', .int .i64 n', .string s'] 24)).alloc (.cells #[.int .i64 0, .int .i64 0, .string ⟨#[]⟩] 24)
  have B0 := (Box.new (w.alloc (.cells #[.int .i64 k, .int .i64 n, .string s] 24)) (.int .i64 k') (.int .i64 n') (.string s') 24).alloc (.cells #[.int .i64 0, .int .i64 0, .string ⟨#[]⟩] 24)
  have R0 := Box.new ((w.alloc (.cells #[.int .i64 k, .int .i64 n, .string s] 24)).alloc (.cells #[.int .i64 k', .int .i64 n', .string s'] 24)) (.int .i64 0) (.int .i64 0) (.string ⟨#[]⟩) 24
  simp only [World.size_alloc] at B0 R0
  go_enter Tryz.func116, Tryz.ntmps116
  go_wp2_with fail
  refine (refIs_any _ _ _ _ _ q).mono ?_
  rintro e w1 ⟨rfl, hb1⟩
  rw [f1]
  have A1 := A0.next hb1
  have B1 := B0.next hb1
  have R1 := R0.next hb1
  have ⟨a0, a1, a2, a3, a4, a5, a6⟩ := A1
  have ⟨b0, b1, b2, b3, b4, b5, b6⟩ := B1
  have ⟨r0, r1, r2, r3, r4, r5, r6⟩ := R1
  go_wp2_with fail
  refine (refTruth_false _).mono ?_
  rintro e w2 ⟨rfl, hb2⟩
  clear a0 a1 a2 a3 a4 a5 a6 b0 b1 b2 b3 b4 b5 b6 r0 r1 r2 r3 r4 r5 r6
  have A2 := A1.next hb2
  have B2 := B1.next hb2
  have R2 := R1.next hb2
  have ⟨a0, a1, a2, a3, a4, a5, a6⟩ := A2
  have ⟨b0, b1, b2, b3, b4, b5, b6⟩ := B2
  have ⟨r0, r1, r2, r3, r4, r5, r6⟩ := R2
  go_wp2_with fail
  have z1 := hb1.size
  have z2 := hb2.size
  simp at z1
  exact bodyPost_ret (v := .agg #[.int .i64 2, .int .i64 0, .string ⟨#[]⟩]) (by simp [results, Tryz.results116, go_sem, r1, r2, r3]) rfl ⟨rfl, below_set3 ((below3 hb1).trans (hb2.mono (by omega))) (by omega)⟩

set_option maxHeartbeats 400000 in
theorem refAnd_xf (k n k' n' : Int) (s s' : ByteArray) (w : World) (q : Tru k n) (q' : Tru k' n') (f1 : (cls k n == some false) = false) (f2 : (cls k' n' == some false) = true) :
    Calls Tryz.prog 116 #[.agg #[.int .i64 k, .int .i64 n, .string s], .agg #[.int .i64 k', .int .i64 n', .string s']] w fun e w' => e = .returned (.agg #[.int .i64 2, .int .i64 0, .string ⟨#[]⟩]) ∧ Below w.heap.size w w' := by
  have A0 := ((Box.new w (.int .i64 k) (.int .i64 n) (.string s) 24).alloc (.cells #[.int .i64 k', .int .i64 n', .string s'] 24)).alloc (.cells #[.int .i64 0, .int .i64 0, .string ⟨#[]⟩] 24)
  have B0 := (Box.new (w.alloc (.cells #[.int .i64 k, .int .i64 n, .string s] 24)) (.int .i64 k') (.int .i64 n') (.string s') 24).alloc (.cells #[.int .i64 0, .int .i64 0, .string ⟨#[]⟩] 24)
  have R0 := Box.new ((w.alloc (.cells #[.int .i64 k, .int .i64 n, .string s] 24)).alloc (.cells #[.int .i64 k', .int .i64 n', .string s'] 24)) (.int .i64 0) (.int .i64 0) (.string ⟨#[]⟩) 24
  simp only [World.size_alloc] at B0 R0
  go_enter Tryz.func116, Tryz.ntmps116
  go_wp2_with fail
  refine (refIs_any _ _ _ _ _ q).mono ?_
  rintro e w1 ⟨rfl, hb1⟩
  rw [f1]
  have A1 := A0.next hb1
  have B1 := B0.next hb1
  have R1 := R0.next hb1
  have ⟨a0, a1, a2, a3, a4, a5, a6⟩ := A1
  have ⟨b0, b1, b2, b3, b4, b5, b6⟩ := B1
  have ⟨r0, r1, r2, r3, r4, r5, r6⟩ := R1
  go_wp2_with fail
  refine (refIs_any _ _ _ _ _ q').mono ?_
  rintro e w2 ⟨rfl, hb2⟩
  rw [f2]
  clear a0 a1 a2 a3 a4 a5 a6 b0 b1 b2 b3 b4 b5 b6 r0 r1 r2 r3 r4 r5 r6
  have A2 := A1.next hb2
  have B2 := B1.next hb2
  have R2 := R1.next hb2
  have ⟨a0, a1, a2, a3, a4, a5, a6⟩ := A2
  have ⟨b0, b1, b2, b3, b4, b5, b6⟩ := B2
  have ⟨r0, r1, r2, r3, r4, r5, r6⟩ := R2
  go_wp2_with fail
  refine (refTruth_false _).mono ?_
  rintro e w3 ⟨rfl, hb3⟩
  clear a0 a1 a2 a3 a4 a5 a6 b0 b1 b2 b3 b4 b5 b6 r0 r1 r2 r3 r4 r5 r6
  have A3 := A2.next hb3
  have B3 := B2.next hb3
  have R3 := R2.next hb3
  have ⟨a0, a1, a2, a3, a4, a5, a6⟩ := A3
  have ⟨b0, b1, b2, b3, b4, b5, b6⟩ := B3
  have ⟨r0, r1, r2, r3, r4, r5, r6⟩ := R3
  go_wp2_with fail
  have z1 := hb1.size
  have z2 := hb2.size
  have z3 := hb3.size
  simp at z1
  exact bodyPost_ret (v := .agg #[.int .i64 2, .int .i64 0, .string ⟨#[]⟩]) (by simp [results, Tryz.results116, go_sem, r1, r2, r3]) rfl ⟨rfl, below_set3 (((below3 hb1).trans (hb2.mono (by omega))).trans (hb3.mono (by omega))) (by omega)⟩

set_option maxHeartbeats 400000 in
theorem refAnd_tt (k n k' n' : Int) (s s' : ByteArray) (w : World) (q : Tru k n) (q' : Tru k' n') (f1 : (cls k n == some false) = false) (f2 : (cls k' n' == some false) = false) (t1 : (cls k n == some true) = true) (t2 : (cls k' n' == some true) = true) :
    Calls Tryz.prog 116 #[.agg #[.int .i64 k, .int .i64 n, .string s], .agg #[.int .i64 k', .int .i64 n', .string s']] w fun e w' => e = .returned (.agg #[.int .i64 2, .int .i64 1, .string ⟨#[]⟩]) ∧ Below w.heap.size w w' := by
  have A0 := ((Box.new w (.int .i64 k) (.int .i64 n) (.string s) 24).alloc (.cells #[.int .i64 k', .int .i64 n', .string s'] 24)).alloc (.cells #[.int .i64 0, .int .i64 0, .string ⟨#[]⟩] 24)
  have B0 := (Box.new (w.alloc (.cells #[.int .i64 k, .int .i64 n, .string s] 24)) (.int .i64 k') (.int .i64 n') (.string s') 24).alloc (.cells #[.int .i64 0, .int .i64 0, .string ⟨#[]⟩] 24)
  have R0 := Box.new ((w.alloc (.cells #[.int .i64 k, .int .i64 n, .string s] 24)).alloc (.cells #[.int .i64 k', .int .i64 n', .string s'] 24)) (.int .i64 0) (.int .i64 0) (.string ⟨#[]⟩) 24
  simp only [World.size_alloc] at B0 R0
  go_enter Tryz.func116, Tryz.ntmps116
  go_wp2_with fail
  refine (refIs_any _ _ _ _ _ q).mono ?_
  rintro e w1 ⟨rfl, hb1⟩
  rw [f1]
  have A1 := A0.next hb1
  have B1 := B0.next hb1
  have R1 := R0.next hb1
  have ⟨a0, a1, a2, a3, a4, a5, a6⟩ := A1
  have ⟨b0, b1, b2, b3, b4, b5, b6⟩ := B1
  have ⟨r0, r1, r2, r3, r4, r5, r6⟩ := R1
  go_wp2_with fail
  refine (refIs_any _ _ _ _ _ q').mono ?_
  rintro e w2 ⟨rfl, hb2⟩
  rw [f2]
  clear a0 a1 a2 a3 a4 a5 a6 b0 b1 b2 b3 b4 b5 b6 r0 r1 r2 r3 r4 r5 r6
  have A2 := A1.next hb2
  have B2 := B1.next hb2
  have R2 := R1.next hb2
  have ⟨a0, a1, a2, a3, a4, a5, a6⟩ := A2
  have ⟨b0, b1, b2, b3, b4, b5, b6⟩ := B2
  have ⟨r0, r1, r2, r3, r4, r5, r6⟩ := R2
  go_wp2_with fail
  refine (refIs_any _ _ _ _ _ q).mono ?_
  rintro e w3 ⟨rfl, hb3⟩
  rw [t1]
  clear a0 a1 a2 a3 a4 a5 a6 b0 b1 b2 b3 b4 b5 b6 r0 r1 r2 r3 r4 r5 r6
  have A3 := A2.next hb3
  have B3 := B2.next hb3
  have R3 := R2.next hb3
  have ⟨a0, a1, a2, a3, a4, a5, a6⟩ := A3
  have ⟨b0, b1, b2, b3, b4, b5, b6⟩ := B3
  have ⟨r0, r1, r2, r3, r4, r5, r6⟩ := R3
  go_wp2_with fail
  refine (refIs_any _ _ _ _ _ q').mono ?_
  rintro e w4 ⟨rfl, hb4⟩
  rw [t2]
  clear a0 a1 a2 a3 a4 a5 a6 b0 b1 b2 b3 b4 b5 b6 r0 r1 r2 r3 r4 r5 r6
  have A4 := A3.next hb4
  have B4 := B3.next hb4
  have R4 := R3.next hb4
  have ⟨a0, a1, a2, a3, a4, a5, a6⟩ := A4
  have ⟨b0, b1, b2, b3, b4, b5, b6⟩ := B4
  have ⟨r0, r1, r2, r3, r4, r5, r6⟩ := R4
  go_wp2_with fail
  refine (refTruth_true _).mono ?_
  rintro e w5 ⟨rfl, hb5⟩
  clear a0 a1 a2 a3 a4 a5 a6 b0 b1 b2 b3 b4 b5 b6 r0 r1 r2 r3 r4 r5 r6
  have A5 := A4.next hb5
  have B5 := B4.next hb5
  have R5 := R4.next hb5
  have ⟨a0, a1, a2, a3, a4, a5, a6⟩ := A5
  have ⟨b0, b1, b2, b3, b4, b5, b6⟩ := B5
  have ⟨r0, r1, r2, r3, r4, r5, r6⟩ := R5
  go_wp2_with fail
  have z1 := hb1.size
  have z2 := hb2.size
  have z3 := hb3.size
  have z4 := hb4.size
  have z5 := hb5.size
  simp at z1
  exact bodyPost_ret (v := .agg #[.int .i64 2, .int .i64 1, .string ⟨#[]⟩]) (by simp [results, Tryz.results116, go_sem, r1, r2, r3]) rfl ⟨rfl, below_set3 (((((below3 hb1).trans (hb2.mono (by omega))).trans (hb3.mono (by omega))).trans (hb4.mono (by omega))).trans (hb5.mono (by omega))) (by omega)⟩

set_option maxHeartbeats 400000 in
theorem refAnd_tx (k n k' n' : Int) (s s' : ByteArray) (w : World) (q : Tru k n) (q' : Tru k' n') (f1 : (cls k n == some false) = false) (f2 : (cls k' n' == some false) = false) (t1 : (cls k n == some true) = true) (t2 : (cls k' n' == some true) = false) :
    Calls Tryz.prog 116 #[.agg #[.int .i64 k, .int .i64 n, .string s], .agg #[.int .i64 k', .int .i64 n', .string s']] w fun e w' => e = .returned (.agg #[.int .i64 1, .int .i64 0, .string ⟨#[]⟩]) ∧ Below w.heap.size w w' := by
  have A0 := ((Box.new w (.int .i64 k) (.int .i64 n) (.string s) 24).alloc (.cells #[.int .i64 k', .int .i64 n', .string s'] 24)).alloc (.cells #[.int .i64 0, .int .i64 0, .string ⟨#[]⟩] 24)
  have B0 := (Box.new (w.alloc (.cells #[.int .i64 k, .int .i64 n, .string s] 24)) (.int .i64 k') (.int .i64 n') (.string s') 24).alloc (.cells #[.int .i64 0, .int .i64 0, .string ⟨#[]⟩] 24)
  have R0 := Box.new ((w.alloc (.cells #[.int .i64 k, .int .i64 n, .string s] 24)).alloc (.cells #[.int .i64 k', .int .i64 n', .string s'] 24)) (.int .i64 0) (.int .i64 0) (.string ⟨#[]⟩) 24
  simp only [World.size_alloc] at B0 R0
  go_enter Tryz.func116, Tryz.ntmps116
  go_wp2_with fail
  refine (refIs_any _ _ _ _ _ q).mono ?_
  rintro e w1 ⟨rfl, hb1⟩
  rw [f1]
  have A1 := A0.next hb1
  have B1 := B0.next hb1
  have R1 := R0.next hb1
  have ⟨a0, a1, a2, a3, a4, a5, a6⟩ := A1
  have ⟨b0, b1, b2, b3, b4, b5, b6⟩ := B1
  have ⟨r0, r1, r2, r3, r4, r5, r6⟩ := R1
  go_wp2_with fail
  refine (refIs_any _ _ _ _ _ q').mono ?_
  rintro e w2 ⟨rfl, hb2⟩
  rw [f2]
  clear a0 a1 a2 a3 a4 a5 a6 b0 b1 b2 b3 b4 b5 b6 r0 r1 r2 r3 r4 r5 r6
  have A2 := A1.next hb2
  have B2 := B1.next hb2
  have R2 := R1.next hb2
  have ⟨a0, a1, a2, a3, a4, a5, a6⟩ := A2
  have ⟨b0, b1, b2, b3, b4, b5, b6⟩ := B2
  have ⟨r0, r1, r2, r3, r4, r5, r6⟩ := R2
  go_wp2_with fail
  refine (refIs_any _ _ _ _ _ q).mono ?_
  rintro e w3 ⟨rfl, hb3⟩
  rw [t1]
  clear a0 a1 a2 a3 a4 a5 a6 b0 b1 b2 b3 b4 b5 b6 r0 r1 r2 r3 r4 r5 r6
  have A3 := A2.next hb3
  have B3 := B2.next hb3
  have R3 := R2.next hb3
  have ⟨a0, a1, a2, a3, a4, a5, a6⟩ := A3
  have ⟨b0, b1, b2, b3, b4, b5, b6⟩ := B3
  have ⟨r0, r1, r2, r3, r4, r5, r6⟩ := R3
  go_wp2_with fail
  refine (refIs_any _ _ _ _ _ q').mono ?_
  rintro e w4 ⟨rfl, hb4⟩
  rw [t2]
  clear a0 a1 a2 a3 a4 a5 a6 b0 b1 b2 b3 b4 b5 b6 r0 r1 r2 r3 r4 r5 r6
  have A4 := A3.next hb4
  have B4 := B3.next hb4
  have R4 := R3.next hb4
  have ⟨a0, a1, a2, a3, a4, a5, a6⟩ := A4
  have ⟨b0, b1, b2, b3, b4, b5, b6⟩ := B4
  have ⟨r0, r1, r2, r3, r4, r5, r6⟩ := R4
  go_wp2_with fail
  refine (refNull_any _).mono ?_
  rintro e w5 ⟨rfl, hb5⟩
  clear a0 a1 a2 a3 a4 a5 a6 b0 b1 b2 b3 b4 b5 b6 r0 r1 r2 r3 r4 r5 r6
  have A5 := A4.next hb5
  have B5 := B4.next hb5
  have R5 := R4.next hb5
  have ⟨a0, a1, a2, a3, a4, a5, a6⟩ := A5
  have ⟨b0, b1, b2, b3, b4, b5, b6⟩ := B5
  have ⟨r0, r1, r2, r3, r4, r5, r6⟩ := R5
  go_wp2_with fail
  have z1 := hb1.size
  have z2 := hb2.size
  have z3 := hb3.size
  have z4 := hb4.size
  have z5 := hb5.size
  simp at z1
  exact bodyPost_ret (v := .agg #[.int .i64 1, .int .i64 0, .string ⟨#[]⟩]) (by simp [results, Tryz.results116, go_sem, r1, r2, r3]) rfl ⟨rfl, below_set3 (((((below3 hb1).trans (hb2.mono (by omega))).trans (hb3.mono (by omega))).trans (hb4.mono (by omega))).trans (hb5.mono (by omega))) (by omega)⟩

set_option maxHeartbeats 400000 in
theorem refAnd_xx (k n k' n' : Int) (s s' : ByteArray) (w : World) (q : Tru k n) (q' : Tru k' n') (f1 : (cls k n == some false) = false) (f2 : (cls k' n' == some false) = false) (t1 : (cls k n == some true) = false) :
    Calls Tryz.prog 116 #[.agg #[.int .i64 k, .int .i64 n, .string s], .agg #[.int .i64 k', .int .i64 n', .string s']] w fun e w' => e = .returned (.agg #[.int .i64 1, .int .i64 0, .string ⟨#[]⟩]) ∧ Below w.heap.size w w' := by
  have A0 := ((Box.new w (.int .i64 k) (.int .i64 n) (.string s) 24).alloc (.cells #[.int .i64 k', .int .i64 n', .string s'] 24)).alloc (.cells #[.int .i64 0, .int .i64 0, .string ⟨#[]⟩] 24)
  have B0 := (Box.new (w.alloc (.cells #[.int .i64 k, .int .i64 n, .string s] 24)) (.int .i64 k') (.int .i64 n') (.string s') 24).alloc (.cells #[.int .i64 0, .int .i64 0, .string ⟨#[]⟩] 24)
  have R0 := Box.new ((w.alloc (.cells #[.int .i64 k, .int .i64 n, .string s] 24)).alloc (.cells #[.int .i64 k', .int .i64 n', .string s'] 24)) (.int .i64 0) (.int .i64 0) (.string ⟨#[]⟩) 24
  simp only [World.size_alloc] at B0 R0
  go_enter Tryz.func116, Tryz.ntmps116
  go_wp2_with fail
  refine (refIs_any _ _ _ _ _ q).mono ?_
  rintro e w1 ⟨rfl, hb1⟩
  rw [f1]
  have A1 := A0.next hb1
  have B1 := B0.next hb1
  have R1 := R0.next hb1
  have ⟨a0, a1, a2, a3, a4, a5, a6⟩ := A1
  have ⟨b0, b1, b2, b3, b4, b5, b6⟩ := B1
  have ⟨r0, r1, r2, r3, r4, r5, r6⟩ := R1
  go_wp2_with fail
  refine (refIs_any _ _ _ _ _ q').mono ?_
  rintro e w2 ⟨rfl, hb2⟩
  rw [f2]
  clear a0 a1 a2 a3 a4 a5 a6 b0 b1 b2 b3 b4 b5 b6 r0 r1 r2 r3 r4 r5 r6
  have A2 := A1.next hb2
  have B2 := B1.next hb2
  have R2 := R1.next hb2
  have ⟨a0, a1, a2, a3, a4, a5, a6⟩ := A2
  have ⟨b0, b1, b2, b3, b4, b5, b6⟩ := B2
  have ⟨r0, r1, r2, r3, r4, r5, r6⟩ := R2
  go_wp2_with fail
  refine (refIs_any _ _ _ _ _ q).mono ?_
  rintro e w3 ⟨rfl, hb3⟩
  rw [t1]
  clear a0 a1 a2 a3 a4 a5 a6 b0 b1 b2 b3 b4 b5 b6 r0 r1 r2 r3 r4 r5 r6
  have A3 := A2.next hb3
  have B3 := B2.next hb3
  have R3 := R2.next hb3
  have ⟨a0, a1, a2, a3, a4, a5, a6⟩ := A3
  have ⟨b0, b1, b2, b3, b4, b5, b6⟩ := B3
  have ⟨r0, r1, r2, r3, r4, r5, r6⟩ := R3
  go_wp2_with fail
  refine (refNull_any _).mono ?_
  rintro e w4 ⟨rfl, hb4⟩
  clear a0 a1 a2 a3 a4 a5 a6 b0 b1 b2 b3 b4 b5 b6 r0 r1 r2 r3 r4 r5 r6
  have A4 := A3.next hb4
  have B4 := B3.next hb4
  have R4 := R3.next hb4
  have ⟨a0, a1, a2, a3, a4, a5, a6⟩ := A4
  have ⟨b0, b1, b2, b3, b4, b5, b6⟩ := B4
  have ⟨r0, r1, r2, r3, r4, r5, r6⟩ := R4
  go_wp2_with fail
  have z1 := hb1.size
  have z2 := hb2.size
  have z3 := hb3.size
  have z4 := hb4.size
  simp at z1
  exact bodyPost_ret (v := .agg #[.int .i64 1, .int .i64 0, .string ⟨#[]⟩]) (by simp [results, Tryz.results116, go_sem, r1, r2, r3]) rfl ⟨rfl, below_set3 ((((below3 hb1).trans (hb2.mono (by omega))).trans (hb3.mono (by omega))).trans (hb4.mono (by omega))) (by omega)⟩

set_option maxHeartbeats 400000 in
theorem refOr_t (k n k' n' : Int) (s s' : ByteArray) (w : World) (q : Tru k n) (t1 : (cls k n == some true) = true) :
    Calls Tryz.prog 117 #[.agg #[.int .i64 k, .int .i64 n, .string s], .agg #[.int .i64 k', .int .i64 n', .string s']] w fun e w' => e = .returned (.agg #[.int .i64 2, .int .i64 1, .string ⟨#[]⟩]) ∧ Below w.heap.size w w' := by
  have A0 := ((Box.new w (.int .i64 k) (.int .i64 n) (.string s) 24).alloc (.cells #[.int .i64 k', .int .i64 n', .string s'] 24)).alloc (.cells #[.int .i64 0, .int .i64 0, .string ⟨#[]⟩] 24)
  have B0 := (Box.new (w.alloc (.cells #[.int .i64 k, .int .i64 n, .string s] 24)) (.int .i64 k') (.int .i64 n') (.string s') 24).alloc (.cells #[.int .i64 0, .int .i64 0, .string ⟨#[]⟩] 24)
  have R0 := Box.new ((w.alloc (.cells #[.int .i64 k, .int .i64 n, .string s] 24)).alloc (.cells #[.int .i64 k', .int .i64 n', .string s'] 24)) (.int .i64 0) (.int .i64 0) (.string ⟨#[]⟩) 24
  simp only [World.size_alloc] at B0 R0
  go_enter Tryz.func117, Tryz.ntmps117
  go_wp2_with fail
  refine (refIs_any _ _ _ _ _ q).mono ?_
  rintro e w1 ⟨rfl, hb1⟩
  rw [t1]
  have A1 := A0.next hb1
  have B1 := B0.next hb1
  have R1 := R0.next hb1
  have ⟨a0, a1, a2, a3, a4, a5, a6⟩ := A1
  have ⟨b0, b1, b2, b3, b4, b5, b6⟩ := B1
  have ⟨r0, r1, r2, r3, r4, r5, r6⟩ := R1
  go_wp2_with fail
  refine (refTruth_true _).mono ?_
  rintro e w2 ⟨rfl, hb2⟩
  clear a0 a1 a2 a3 a4 a5 a6 b0 b1 b2 b3 b4 b5 b6 r0 r1 r2 r3 r4 r5 r6
  have A2 := A1.next hb2
  have B2 := B1.next hb2
  have R2 := R1.next hb2
  have ⟨a0, a1, a2, a3, a4, a5, a6⟩ := A2
  have ⟨b0, b1, b2, b3, b4, b5, b6⟩ := B2
  have ⟨r0, r1, r2, r3, r4, r5, r6⟩ := R2
  go_wp2_with fail
  have z1 := hb1.size
  have z2 := hb2.size
  simp at z1
  exact bodyPost_ret (v := .agg #[.int .i64 2, .int .i64 1, .string ⟨#[]⟩]) (by simp [results, Tryz.results117, go_sem, r1, r2, r3]) rfl ⟨rfl, below_set3 ((below3 hb1).trans (hb2.mono (by omega))) (by omega)⟩

set_option maxHeartbeats 400000 in
theorem refOr_xt (k n k' n' : Int) (s s' : ByteArray) (w : World) (q : Tru k n) (q' : Tru k' n') (t1 : (cls k n == some true) = false) (t2 : (cls k' n' == some true) = true) :
    Calls Tryz.prog 117 #[.agg #[.int .i64 k, .int .i64 n, .string s], .agg #[.int .i64 k', .int .i64 n', .string s']] w fun e w' => e = .returned (.agg #[.int .i64 2, .int .i64 1, .string ⟨#[]⟩]) ∧ Below w.heap.size w w' := by
  have A0 := ((Box.new w (.int .i64 k) (.int .i64 n) (.string s) 24).alloc (.cells #[.int .i64 k', .int .i64 n', .string s'] 24)).alloc (.cells #[.int .i64 0, .int .i64 0, .string ⟨#[]⟩] 24)
  have B0 := (Box.new (w.alloc (.cells #[.int .i64 k, .int .i64 n, .string s] 24)) (.int .i64 k') (.int .i64 n') (.string s') 24).alloc (.cells #[.int .i64 0, .int .i64 0, .string ⟨#[]⟩] 24)
  have R0 := Box.new ((w.alloc (.cells #[.int .i64 k, .int .i64 n, .string s] 24)).alloc (.cells #[.int .i64 k', .int .i64 n', .string s'] 24)) (.int .i64 0) (.int .i64 0) (.string ⟨#[]⟩) 24
  simp only [World.size_alloc] at B0 R0
  go_enter Tryz.func117, Tryz.ntmps117
  go_wp2_with fail
  refine (refIs_any _ _ _ _ _ q).mono ?_
  rintro e w1 ⟨rfl, hb1⟩
  rw [t1]
  have A1 := A0.next hb1
  have B1 := B0.next hb1
  have R1 := R0.next hb1
  have ⟨a0, a1, a2, a3, a4, a5, a6⟩ := A1
  have ⟨b0, b1, b2, b3, b4, b5, b6⟩ := B1
  have ⟨r0, r1, r2, r3, r4, r5, r6⟩ := R1
  go_wp2_with fail
  refine (refIs_any _ _ _ _ _ q').mono ?_
  rintro e w2 ⟨rfl, hb2⟩
  rw [t2]
  clear a0 a1 a2 a3 a4 a5 a6 b0 b1 b2 b3 b4 b5 b6 r0 r1 r2 r3 r4 r5 r6
  have A2 := A1.next hb2
  have B2 := B1.next hb2
  have R2 := R1.next hb2
  have ⟨a0, a1, a2, a3, a4, a5, a6⟩ := A2
  have ⟨b0, b1, b2, b3, b4, b5, b6⟩ := B2
  have ⟨r0, r1, r2, r3, r4, r5, r6⟩ := R2
  go_wp2_with fail
  refine (refTruth_true _).mono ?_
  rintro e w3 ⟨rfl, hb3⟩
  clear a0 a1 a2 a3 a4 a5 a6 b0 b1 b2 b3 b4 b5 b6 r0 r1 r2 r3 r4 r5 r6
  have A3 := A2.next hb3
  have B3 := B2.next hb3
  have R3 := R2.next hb3
  have ⟨a0, a1, a2, a3, a4, a5, a6⟩ := A3
  have ⟨b0, b1, b2, b3, b4, b5, b6⟩ := B3
  have ⟨r0, r1, r2, r3, r4, r5, r6⟩ := R3
  go_wp2_with fail
  have z1 := hb1.size
  have z2 := hb2.size
  have z3 := hb3.size
  simp at z1
  exact bodyPost_ret (v := .agg #[.int .i64 2, .int .i64 1, .string ⟨#[]⟩]) (by simp [results, Tryz.results117, go_sem, r1, r2, r3]) rfl ⟨rfl, below_set3 (((below3 hb1).trans (hb2.mono (by omega))).trans (hb3.mono (by omega))) (by omega)⟩

set_option maxHeartbeats 400000 in
theorem refOr_ff (k n k' n' : Int) (s s' : ByteArray) (w : World) (q : Tru k n) (q' : Tru k' n') (t1 : (cls k n == some true) = false) (t2 : (cls k' n' == some true) = false) (f1 : (cls k n == some false) = true) (f2 : (cls k' n' == some false) = true) :
    Calls Tryz.prog 117 #[.agg #[.int .i64 k, .int .i64 n, .string s], .agg #[.int .i64 k', .int .i64 n', .string s']] w fun e w' => e = .returned (.agg #[.int .i64 2, .int .i64 0, .string ⟨#[]⟩]) ∧ Below w.heap.size w w' := by
  have A0 := ((Box.new w (.int .i64 k) (.int .i64 n) (.string s) 24).alloc (.cells #[.int .i64 k', .int .i64 n', .string s'] 24)).alloc (.cells #[.int .i64 0, .int .i64 0, .string ⟨#[]⟩] 24)
  have B0 := (Box.new (w.alloc (.cells #[.int .i64 k, .int .i64 n, .string s] 24)) (.int .i64 k') (.int .i64 n') (.string s') 24).alloc (.cells #[.int .i64 0, .int .i64 0, .string ⟨#[]⟩] 24)
  have R0 := Box.new ((w.alloc (.cells #[.int .i64 k, .int .i64 n, .string s] 24)).alloc (.cells #[.int .i64 k', .int .i64 n', .string s'] 24)) (.int .i64 0) (.int .i64 0) (.string ⟨#[]⟩) 24
  simp only [World.size_alloc] at B0 R0
  go_enter Tryz.func117, Tryz.ntmps117
  go_wp2_with fail
  refine (refIs_any _ _ _ _ _ q).mono ?_
  rintro e w1 ⟨rfl, hb1⟩
  rw [t1]
  have A1 := A0.next hb1
  have B1 := B0.next hb1
  have R1 := R0.next hb1
  have ⟨a0, a1, a2, a3, a4, a5, a6⟩ := A1
  have ⟨b0, b1, b2, b3, b4, b5, b6⟩ := B1
  have ⟨r0, r1, r2, r3, r4, r5, r6⟩ := R1
  go_wp2_with fail
  refine (refIs_any _ _ _ _ _ q').mono ?_
  rintro e w2 ⟨rfl, hb2⟩
  rw [t2]
  clear a0 a1 a2 a3 a4 a5 a6 b0 b1 b2 b3 b4 b5 b6 r0 r1 r2 r3 r4 r5 r6
  have A2 := A1.next hb2
  have B2 := B1.next hb2
  have R2 := R1.next hb2
  have ⟨a0, a1, a2, a3, a4, a5, a6⟩ := A2
  have ⟨b0, b1, b2, b3, b4, b5, b6⟩ := B2
  have ⟨r0, r1, r2, r3, r4, r5, r6⟩ := R2
  go_wp2_with fail
  refine (refIs_any _ _ _ _ _ q).mono ?_
  rintro e w3 ⟨rfl, hb3⟩
  rw [f1]
  clear a0 a1 a2 a3 a4 a5 a6 b0 b1 b2 b3 b4 b5 b6 r0 r1 r2 r3 r4 r5 r6
  have A3 := A2.next hb3
  have B3 := B2.next hb3
  have R3 := R2.next hb3
  have ⟨a0, a1, a2, a3, a4, a5, a6⟩ := A3
  have ⟨b0, b1, b2, b3, b4, b5, b6⟩ := B3
  have ⟨r0, r1, r2, r3, r4, r5, r6⟩ := R3
  go_wp2_with fail
  refine (refIs_any _ _ _ _ _ q').mono ?_
  rintro e w4 ⟨rfl, hb4⟩
  rw [f2]
  clear a0 a1 a2 a3 a4 a5 a6 b0 b1 b2 b3 b4 b5 b6 r0 r1 r2 r3 r4 r5 r6
  have A4 := A3.next hb4
  have B4 := B3.next hb4
  have R4 := R3.next hb4
  have ⟨a0, a1, a2, a3, a4, a5, a6⟩ := A4
  have ⟨b0, b1, b2, b3, b4, b5, b6⟩ := B4
  have ⟨r0, r1, r2, r3, r4, r5, r6⟩ := R4
  go_wp2_with fail
  refine (refTruth_false _).mono ?_
  rintro e w5 ⟨rfl, hb5⟩
  clear a0 a1 a2 a3 a4 a5 a6 b0 b1 b2 b3 b4 b5 b6 r0 r1 r2 r3 r4 r5 r6
  have A5 := A4.next hb5
  have B5 := B4.next hb5
  have R5 := R4.next hb5
  have ⟨a0, a1, a2, a3, a4, a5, a6⟩ := A5
  have ⟨b0, b1, b2, b3, b4, b5, b6⟩ := B5
  have ⟨r0, r1, r2, r3, r4, r5, r6⟩ := R5
  go_wp2_with fail
  have z1 := hb1.size
  have z2 := hb2.size
  have z3 := hb3.size
  have z4 := hb4.size
  have z5 := hb5.size
  simp at z1
  exact bodyPost_ret (v := .agg #[.int .i64 2, .int .i64 0, .string ⟨#[]⟩]) (by simp [results, Tryz.results117, go_sem, r1, r2, r3]) rfl ⟨rfl, below_set3 (((((below3 hb1).trans (hb2.mono (by omega))).trans (hb3.mono (by omega))).trans (hb4.mono (by omega))).trans (hb5.mono (by omega))) (by omega)⟩

set_option maxHeartbeats 400000 in
theorem refOr_fx (k n k' n' : Int) (s s' : ByteArray) (w : World) (q : Tru k n) (q' : Tru k' n') (t1 : (cls k n == some true) = false) (t2 : (cls k' n' == some true) = false) (f1 : (cls k n == some false) = true) (f2 : (cls k' n' == some false) = false) :
    Calls Tryz.prog 117 #[.agg #[.int .i64 k, .int .i64 n, .string s], .agg #[.int .i64 k', .int .i64 n', .string s']] w fun e w' => e = .returned (.agg #[.int .i64 1, .int .i64 0, .string ⟨#[]⟩]) ∧ Below w.heap.size w w' := by
  have A0 := ((Box.new w (.int .i64 k) (.int .i64 n) (.string s) 24).alloc (.cells #[.int .i64 k', .int .i64 n', .string s'] 24)).alloc (.cells #[.int .i64 0, .int .i64 0, .string ⟨#[]⟩] 24)
  have B0 := (Box.new (w.alloc (.cells #[.int .i64 k, .int .i64 n, .string s] 24)) (.int .i64 k') (.int .i64 n') (.string s') 24).alloc (.cells #[.int .i64 0, .int .i64 0, .string ⟨#[]⟩] 24)
  have R0 := Box.new ((w.alloc (.cells #[.int .i64 k, .int .i64 n, .string s] 24)).alloc (.cells #[.int .i64 k', .int .i64 n', .string s'] 24)) (.int .i64 0) (.int .i64 0) (.string ⟨#[]⟩) 24
  simp only [World.size_alloc] at B0 R0
  go_enter Tryz.func117, Tryz.ntmps117
  go_wp2_with fail
  refine (refIs_any _ _ _ _ _ q).mono ?_
  rintro e w1 ⟨rfl, hb1⟩
  rw [t1]
  have A1 := A0.next hb1
  have B1 := B0.next hb1
  have R1 := R0.next hb1
  have ⟨a0, a1, a2, a3, a4, a5, a6⟩ := A1
  have ⟨b0, b1, b2, b3, b4, b5, b6⟩ := B1
  have ⟨r0, r1, r2, r3, r4, r5, r6⟩ := R1
  go_wp2_with fail
  refine (refIs_any _ _ _ _ _ q').mono ?_
  rintro e w2 ⟨rfl, hb2⟩
  rw [t2]
  clear a0 a1 a2 a3 a4 a5 a6 b0 b1 b2 b3 b4 b5 b6 r0 r1 r2 r3 r4 r5 r6
  have A2 := A1.next hb2
  have B2 := B1.next hb2
  have R2 := R1.next hb2
  have ⟨a0, a1, a2, a3, a4, a5, a6⟩ := A2
  have ⟨b0, b1, b2, b3, b4, b5, b6⟩ := B2
  have ⟨r0, r1, r2, r3, r4, r5, r6⟩ := R2
  go_wp2_with fail
  refine (refIs_any _ _ _ _ _ q).mono ?_
  rintro e w3 ⟨rfl, hb3⟩
  rw [f1]
  clear a0 a1 a2 a3 a4 a5 a6 b0 b1 b2 b3 b4 b5 b6 r0 r1 r2 r3 r4 r5 r6
  have A3 := A2.next hb3
  have B3 := B2.next hb3
  have R3 := R2.next hb3
  have ⟨a0, a1, a2, a3, a4, a5, a6⟩ := A3
  have ⟨b0, b1, b2, b3, b4, b5, b6⟩ := B3
  have ⟨r0, r1, r2, r3, r4, r5, r6⟩ := R3
  go_wp2_with fail
  refine (refIs_any _ _ _ _ _ q').mono ?_
  rintro e w4 ⟨rfl, hb4⟩
  rw [f2]
  clear a0 a1 a2 a3 a4 a5 a6 b0 b1 b2 b3 b4 b5 b6 r0 r1 r2 r3 r4 r5 r6
  have A4 := A3.next hb4
  have B4 := B3.next hb4
  have R4 := R3.next hb4
  have ⟨a0, a1, a2, a3, a4, a5, a6⟩ := A4
  have ⟨b0, b1, b2, b3, b4, b5, b6⟩ := B4
  have ⟨r0, r1, r2, r3, r4, r5, r6⟩ := R4
  go_wp2_with fail
  refine (refNull_any _).mono ?_
  rintro e w5 ⟨rfl, hb5⟩
  clear a0 a1 a2 a3 a4 a5 a6 b0 b1 b2 b3 b4 b5 b6 r0 r1 r2 r3 r4 r5 r6
  have A5 := A4.next hb5
  have B5 := B4.next hb5
  have R5 := R4.next hb5
  have ⟨a0, a1, a2, a3, a4, a5, a6⟩ := A5
  have ⟨b0, b1, b2, b3, b4, b5, b6⟩ := B5
  have ⟨r0, r1, r2, r3, r4, r5, r6⟩ := R5
  go_wp2_with fail
  have z1 := hb1.size
  have z2 := hb2.size
  have z3 := hb3.size
  have z4 := hb4.size
  have z5 := hb5.size
  simp at z1
  exact bodyPost_ret (v := .agg #[.int .i64 1, .int .i64 0, .string ⟨#[]⟩]) (by simp [results, Tryz.results117, go_sem, r1, r2, r3]) rfl ⟨rfl, below_set3 (((((below3 hb1).trans (hb2.mono (by omega))).trans (hb3.mono (by omega))).trans (hb4.mono (by omega))).trans (hb5.mono (by omega))) (by omega)⟩

set_option maxHeartbeats 400000 in
theorem refOr_xx (k n k' n' : Int) (s s' : ByteArray) (w : World) (q : Tru k n) (q' : Tru k' n') (t1 : (cls k n == some true) = false) (t2 : (cls k' n' == some true) = false) (f1 : (cls k n == some false) = false) :
    Calls Tryz.prog 117 #[.agg #[.int .i64 k, .int .i64 n, .string s], .agg #[.int .i64 k', .int .i64 n', .string s']] w fun e w' => e = .returned (.agg #[.int .i64 1, .int .i64 0, .string ⟨#[]⟩]) ∧ Below w.heap.size w w' := by
  have A0 := ((Box.new w (.int .i64 k) (.int .i64 n) (.string s) 24).alloc (.cells #[.int .i64 k', .int .i64 n', .string s'] 24)).alloc (.cells #[.int .i64 0, .int .i64 0, .string ⟨#[]⟩] 24)
  have B0 := (Box.new (w.alloc (.cells #[.int .i64 k, .int .i64 n, .string s] 24)) (.int .i64 k') (.int .i64 n') (.string s') 24).alloc (.cells #[.int .i64 0, .int .i64 0, .string ⟨#[]⟩] 24)
  have R0 := Box.new ((w.alloc (.cells #[.int .i64 k, .int .i64 n, .string s] 24)).alloc (.cells #[.int .i64 k', .int .i64 n', .string s'] 24)) (.int .i64 0) (.int .i64 0) (.string ⟨#[]⟩) 24
  simp only [World.size_alloc] at B0 R0
  go_enter Tryz.func117, Tryz.ntmps117
  go_wp2_with fail
  refine (refIs_any _ _ _ _ _ q).mono ?_
  rintro e w1 ⟨rfl, hb1⟩
  rw [t1]
  have A1 := A0.next hb1
  have B1 := B0.next hb1
  have R1 := R0.next hb1
  have ⟨a0, a1, a2, a3, a4, a5, a6⟩ := A1
  have ⟨b0, b1, b2, b3, b4, b5, b6⟩ := B1
  have ⟨r0, r1, r2, r3, r4, r5, r6⟩ := R1
  go_wp2_with fail
  refine (refIs_any _ _ _ _ _ q').mono ?_
  rintro e w2 ⟨rfl, hb2⟩
  rw [t2]
  clear a0 a1 a2 a3 a4 a5 a6 b0 b1 b2 b3 b4 b5 b6 r0 r1 r2 r3 r4 r5 r6
  have A2 := A1.next hb2
  have B2 := B1.next hb2
  have R2 := R1.next hb2
  have ⟨a0, a1, a2, a3, a4, a5, a6⟩ := A2
  have ⟨b0, b1, b2, b3, b4, b5, b6⟩ := B2
  have ⟨r0, r1, r2, r3, r4, r5, r6⟩ := R2
  go_wp2_with fail
  refine (refIs_any _ _ _ _ _ q).mono ?_
  rintro e w3 ⟨rfl, hb3⟩
  rw [f1]
  clear a0 a1 a2 a3 a4 a5 a6 b0 b1 b2 b3 b4 b5 b6 r0 r1 r2 r3 r4 r5 r6
  have A3 := A2.next hb3
  have B3 := B2.next hb3
  have R3 := R2.next hb3
  have ⟨a0, a1, a2, a3, a4, a5, a6⟩ := A3
  have ⟨b0, b1, b2, b3, b4, b5, b6⟩ := B3
  have ⟨r0, r1, r2, r3, r4, r5, r6⟩ := R3
  go_wp2_with fail
  refine (refNull_any _).mono ?_
  rintro e w4 ⟨rfl, hb4⟩
  clear a0 a1 a2 a3 a4 a5 a6 b0 b1 b2 b3 b4 b5 b6 r0 r1 r2 r3 r4 r5 r6
  have A4 := A3.next hb4
  have B4 := B3.next hb4
  have R4 := R3.next hb4
  have ⟨a0, a1, a2, a3, a4, a5, a6⟩ := A4
  have ⟨b0, b1, b2, b3, b4, b5, b6⟩ := B4
  have ⟨r0, r1, r2, r3, r4, r5, r6⟩ := R4
  go_wp2_with fail
  have z1 := hb1.size
  have z2 := hb2.size
  have z3 := hb3.size
  have z4 := hb4.size
  simp at z1
  exact bodyPost_ret (v := .agg #[.int .i64 1, .int .i64 0, .string ⟨#[]⟩]) (by simp [results, Tryz.results117, go_sem, r1, r2, r3]) rfl ⟨rfl, below_set3 ((((below3 hb1).trans (hb2.mono (by omega))).trans (hb3.mono (by omega))).trans (hb4.mono (by omega))) (by omega)⟩

set_option maxHeartbeats 400000 in
theorem refNot_x (k n : Int) (s : ByteArray) (w : World) (h' : (k != 2) = true) :
    Calls Tryz.prog 114 #[.agg #[.int .i64 k, .int .i64 n, .string s]] w fun e w' => e = .returned (.agg #[.int .i64 1, .int .i64 0, .string ⟨#[]⟩]) ∧ Below w.heap.size w w' := by
  have A0 := (Box.new w (.int .i64 k) (.int .i64 n) (.string s) 24).alloc (.cells #[.int .i64 0, .int .i64 0, .string ⟨#[]⟩] 24)
  have R0 := Box.new (w.alloc (.cells #[.int .i64 k, .int .i64 n, .string s] 24)) (.int .i64 0) (.int .i64 0) (.string ⟨#[]⟩) 24
  simp only [World.size_alloc] at R0
  go_enter Tryz.func114, Tryz.ntmps114
  go_wp2_with fail
  refine (refNull_any _).mono ?_
  rintro e w1 ⟨rfl, hb1⟩
  have A1 := A0.next hb1
  have R1 := R0.next hb1
  have ⟨a0, a1, a2, a3, a4, a5, a6⟩ := A1
  have ⟨r0, r1, r2, r3, r4, r5, r6⟩ := R1
  go_wp2_with fail
  have z1 := hb1.size
  simp at z1
  exact bodyPost_ret (v := .agg #[.int .i64 1, .int .i64 0, .string ⟨#[]⟩]) (by simp [results, Tryz.results114, go_sem, r1, r2, r3]) rfl ⟨rfl, below_set3 (below2 hb1) (by omega)⟩

set_option maxHeartbeats 400000 in
theorem refNot_b (k n : Int) (s : ByteArray) (w : World) (q : Tru k n) (h : k = 2) (b : Bool) (hb : (cls 2 n == some false) = b) :
    Calls Tryz.prog 114 #[.agg #[.int .i64 k, .int .i64 n, .string s]] w fun e w' => e = .returned (.agg #[.int .i64 2, .int .i64 (tn (some b)), .string ⟨#[]⟩]) ∧ Below w.heap.size w w' := by
  subst h
  have A0 := (Box.new w (.int .i64 2) (.int .i64 n) (.string s) 24).alloc (.cells #[.int .i64 0, .int .i64 0, .string ⟨#[]⟩] 24)
  have R0 := Box.new (w.alloc (.cells #[.int .i64 2, .int .i64 n, .string s] 24)) (.int .i64 0) (.int .i64 0) (.string ⟨#[]⟩) 24
  simp only [World.size_alloc] at R0
  go_enter Tryz.func114, Tryz.ntmps114
  go_wp2_with fail
  refine (refIs_any _ _ _ _ _ q).mono ?_
  rintro e w1 ⟨rfl, hb1⟩
  rw [hb]
  have A1 := A0.next hb1
  have R1 := R0.next hb1
  have ⟨a0, a1, a2, a3, a4, a5, a6⟩ := A1
  have ⟨r0, r1, r2, r3, r4, r5, r6⟩ := R1
  go_wp2_with fail
  refine (refTruth_any b _).mono ?_
  rintro e w2 ⟨rfl, hb2⟩
  clear a0 a1 a2 a3 a4 a5 a6 r0 r1 r2 r3 r4 r5 r6
  have A2 := A1.next hb2
  have R2 := R1.next hb2
  have ⟨a0, a1, a2, a3, a4, a5, a6⟩ := A2
  have ⟨r0, r1, r2, r3, r4, r5, r6⟩ := R2
  go_wp2_with fail
  have z1 := hb1.size
  have z2 := hb2.size
  simp at z1
  exact bodyPost_ret (v := .agg #[.int .i64 2, .int .i64 (tn (some b)), .string ⟨#[]⟩]) (by simp [results, Tryz.results114, go_sem, r1, r2, r3]) rfl ⟨rfl, below_set3 ((below2 hb1).trans (hb2.mono (by omega))) (by omega)⟩

theorem refAnd_any (k n k' n' : Int) (s s' : ByteArray) (w : World) (q : Tru k n) (q' : Tru k' n') :
    Calls Tryz.prog 116 #[.agg #[.int .i64 k, .int .i64 n, .string s], .agg #[.int .i64 k', .int .i64 n', .string s']] w fun e w' => e = .returned (.agg #[.int .i64 (tk (and3 (cls k n) (cls k' n'))), .int .i64 (tn (and3 (cls k n) (cls k' n'))), .string ⟨#[]⟩]) ∧ Below w.heap.size w w' := by
  rcases h1 : cls k n with _ | _ | _ <;> rcases h2 : cls k' n' with _ | _ | _
  · exact refAnd_xx k n k' n' s s' w q q' (by simp [h1]) (by simp [h2]) (by simp [h1])
  · exact refAnd_xf k n k' n' s s' w q q' (by simp [h1]) (by simp [h2])
  · exact refAnd_xx k n k' n' s s' w q q' (by simp [h1]) (by simp [h2]) (by simp [h1])
  · exact refAnd_f k n k' n' s s' w q (by simp [h1])
  · exact refAnd_f k n k' n' s s' w q (by simp [h1])
  · exact refAnd_f k n k' n' s s' w q (by simp [h1])
  · exact refAnd_tx k n k' n' s s' w q q' (by simp [h1]) (by simp [h2]) (by simp [h1]) (by simp [h2])
  · exact refAnd_xf k n k' n' s s' w q q' (by simp [h1]) (by simp [h2])
  · exact refAnd_tt k n k' n' s s' w q q' (by simp [h1]) (by simp [h2]) (by simp [h1]) (by simp [h2])
theorem refOr_any (k n k' n' : Int) (s s' : ByteArray) (w : World) (q : Tru k n) (q' : Tru k' n') :
    Calls Tryz.prog 117 #[.agg #[.int .i64 k, .int .i64 n, .string s], .agg #[.int .i64 k', .int .i64 n', .string s']] w fun e w' => e = .returned (.agg #[.int .i64 (tk (or3 (cls k n) (cls k' n'))), .int .i64 (tn (or3 (cls k n) (cls k' n'))), .string ⟨#[]⟩]) ∧ Below w.heap.size w w' := by
  rcases h1 : cls k n with _ | _ | _ <;> rcases h2 : cls k' n' with _ | _ | _
  · exact refOr_xx k n k' n' s s' w q q' (by simp [h1]) (by simp [h2]) (by simp [h1])
  · exact refOr_xx k n k' n' s s' w q q' (by simp [h1]) (by simp [h2]) (by simp [h1])
  · exact refOr_xt k n k' n' s s' w q q' (by simp [h1]) (by simp [h2])
  · exact refOr_fx k n k' n' s s' w q q' (by simp [h1]) (by simp [h2]) (by simp [h1]) (by simp [h2])
  · exact refOr_ff k n k' n' s s' w q q' (by simp [h1]) (by simp [h2]) (by simp [h1]) (by simp [h2])
  · exact refOr_xt k n k' n' s s' w q q' (by simp [h1]) (by simp [h2])
  · exact refOr_t k n k' n' s s' w q (by simp [h1])
  · exact refOr_t k n k' n' s s' w q (by simp [h1])
  · exact refOr_t k n k' n' s s' w q (by simp [h1])
theorem refNot_any (k n : Int) (s : ByteArray) (w : World) (q : Tru k n) :
    Calls Tryz.prog 114 #[.agg #[.int .i64 k, .int .i64 n, .string s]] w fun e w' => e = .returned (.agg #[.int .i64 (tk (not3 (cls k n))), .int .i64 (tn (not3 (cls k n))), .string ⟨#[]⟩]) ∧ Below w.heap.size w w' := by
  by_cases h : k = 2
  · subst h
    rcases q rfl with rfl | rfl
    · exact refNot_b 2 0 s w q rfl true rfl
    · exact refNot_b 2 1 s w q rfl false rfl
  · rw [cls_kx h]
    exact refNot_x k n s w (by simpa using h)

def joinB (k : Int) (s : ByteArray) (k' : Int) (s' : ByteArray) : Bool := k == 4 && (k' == 4 && decide (s.size + s'.size ≤ 60))
def joinK (k : Int) (s : ByteArray) (k' : Int) (s' : ByteArray) : Int := if joinB k s k' s' then 4 else 1
def joinS (k : Int) (s : ByteArray) (k' : Int) (s' : ByteArray) : ByteArray := if joinB k s k' s' then s ++ s' else ⟨#[]⟩

set_option maxHeartbeats 400000 in
theorem join_x (k n k' n' : Int) (s s' : ByteArray) (w : World) (h' : (k != 4) = true) :
    Calls Tryz.prog 183 #[.agg #[.int .i64 k, .int .i64 n, .string s], .agg #[.int .i64 k', .int .i64 n', .string s']] w fun e w' => e = .returned (.agg #[.int .i64 1, .int .i64 0, .string ⟨#[]⟩]) ∧ Below w.heap.size w w' := by
  have A0 := ((Box.new w (.int .i64 k) (.int .i64 n) (.string s) 24).alloc (.cells #[.int .i64 k', .int .i64 n', .string s'] 24)).alloc (.cells #[.int .i64 0, .int .i64 0, .string ⟨#[]⟩] 24)
  have B0 := (Box.new (w.alloc (.cells #[.int .i64 k, .int .i64 n, .string s] 24)) (.int .i64 k') (.int .i64 n') (.string s') 24).alloc (.cells #[.int .i64 0, .int .i64 0, .string ⟨#[]⟩] 24)
  have R0 := Box.new ((w.alloc (.cells #[.int .i64 k, .int .i64 n, .string s] 24)).alloc (.cells #[.int .i64 k', .int .i64 n', .string s'] 24)) (.int .i64 0) (.int .i64 0) (.string ⟨#[]⟩) 24
  simp only [World.size_alloc] at B0 R0
  go_enter Tryz.func183, Tryz.ntmps183
  go_wp2_with fail
  refine (null_any _).mono ?_
  rintro e w1 ⟨rfl, hb1⟩
  have A1 := A0.next hb1
  have B1 := B0.next hb1
  have R1 := R0.next hb1
  have ⟨a0, a1, a2, a3, a4, a5, a6⟩ := A1
  have ⟨b0, b1, b2, b3, b4, b5, b6⟩ := B1
  have ⟨r0, r1, r2, r3, r4, r5, r6⟩ := R1
  go_wp2_with fail
  have z1 := hb1.size
  simp at z1
  exact bodyPost_ret (v := .agg #[.int .i64 1, .int .i64 0, .string ⟨#[]⟩]) (by simp [results, Tryz.results183, go_sem, r1, r2, r3]) rfl ⟨rfl, below_set3 (below3 hb1) (by omega)⟩

set_option maxHeartbeats 400000 in
theorem join_y (k n k' n' : Int) (s s' : ByteArray) (w : World) (e : k = 4) (h' : (k' != 4) = true) :
    Calls Tryz.prog 183 #[.agg #[.int .i64 k, .int .i64 n, .string s], .agg #[.int .i64 k', .int .i64 n', .string s']] w fun e w' => e = .returned (.agg #[.int .i64 1, .int .i64 0, .string ⟨#[]⟩]) ∧ Below w.heap.size w w' := by
  subst e
  have A0 := ((Box.new w (.int .i64 4) (.int .i64 n) (.string s) 24).alloc (.cells #[.int .i64 k', .int .i64 n', .string s'] 24)).alloc (.cells #[.int .i64 0, .int .i64 0, .string ⟨#[]⟩] 24)
  have B0 := (Box.new (w.alloc (.cells #[.int .i64 4, .int .i64 n, .string s] 24)) (.int .i64 k') (.int .i64 n') (.string s') 24).alloc (.cells #[.int .i64 0, .int .i64 0, .string ⟨#[]⟩] 24)
  have R0 := Box.new ((w.alloc (.cells #[.int .i64 4, .int .i64 n, .string s] 24)).alloc (.cells #[.int .i64 k', .int .i64 n', .string s'] 24)) (.int .i64 0) (.int .i64 0) (.string ⟨#[]⟩) 24
  simp only [World.size_alloc] at B0 R0
  go_enter Tryz.func183, Tryz.ntmps183
  go_wp2_with fail
  refine (null_any _).mono ?_
  rintro e w1 ⟨rfl, hb1⟩
  have A1 := A0.next hb1
  have B1 := B0.next hb1
  have R1 := R0.next hb1
  have ⟨a0, a1, a2, a3, a4, a5, a6⟩ := A1
  have ⟨b0, b1, b2, b3, b4, b5, b6⟩ := B1
  have ⟨r0, r1, r2, r3, r4, r5, r6⟩ := R1
  go_wp2_with fail
  have z1 := hb1.size
  simp at z1
  exact bodyPost_ret (v := .agg #[.int .i64 1, .int .i64 0, .string ⟨#[]⟩]) (by simp [results, Tryz.results183, go_sem, r1, r2, r3]) rfl ⟨rfl, below_set3 (below3 hb1) (by omega)⟩

set_option maxHeartbeats 400000 in
theorem join_z (k n k' n' : Int) (s s' : ByteArray) (w : World) (e : k = 4) (e' : k' = 4) (z1 : s.size ≤ 60) (z2 : s'.size ≤ 60) (h : 60 < s.size + s'.size) :
    Calls Tryz.prog 183 #[.agg #[.int .i64 k, .int .i64 n, .string s], .agg #[.int .i64 k', .int .i64 n', .string s']] w fun e w' => e = .returned (.agg #[.int .i64 1, .int .i64 0, .string ⟨#[]⟩]) ∧ Below w.heap.size w w' := by
  subst e
  subst e'
  have y1 : (s.size : Int) ≤ 60 := by omega
  have y2 : (s'.size : Int) ≤ 60 := by omega
  have y3 : 60 < (s.size : Int) + (s'.size : Int) := by omega
  have y4 : ¬ ((s.size : Int) + (s'.size : Int) ≤ 60) := by omega
  have A0 := ((Box.new w (.int .i64 4) (.int .i64 n) (.string s) 24).alloc (.cells #[.int .i64 4, .int .i64 n', .string s'] 24)).alloc (.cells #[.int .i64 0, .int .i64 0, .string ⟨#[]⟩] 24)
  have B0 := (Box.new (w.alloc (.cells #[.int .i64 4, .int .i64 n, .string s] 24)) (.int .i64 4) (.int .i64 n') (.string s') 24).alloc (.cells #[.int .i64 0, .int .i64 0, .string ⟨#[]⟩] 24)
  have R0 := Box.new ((w.alloc (.cells #[.int .i64 4, .int .i64 n, .string s] 24)).alloc (.cells #[.int .i64 4, .int .i64 n', .string s'] 24)) (.int .i64 0) (.int .i64 0) (.string ⟨#[]⟩) 24
  simp only [World.size_alloc] at B0 R0
  go_enter Tryz.func183, Tryz.ntmps183
  go_wp2_with fail
  refine (null_any _).mono ?_
  rintro e w1 ⟨rfl, hb1⟩
  have A1 := A0.next hb1
  have B1 := B0.next hb1
  have R1 := R0.next hb1
  have ⟨a0, a1, a2, a3, a4, a5, a6⟩ := A1
  have ⟨b0, b1, b2, b3, b4, b5, b6⟩ := B1
  have ⟨r0, r1, r2, r3, r4, r5, r6⟩ := R1
  go_wp2_with fail
  have z1 := hb1.size
  simp at z1
  exact bodyPost_ret (v := .agg #[.int .i64 1, .int .i64 0, .string ⟨#[]⟩]) (by simp [results, Tryz.results183, go_sem, r1, r2, r3]) rfl ⟨rfl, below_set3 (below3 hb1) (by omega)⟩

set_option maxHeartbeats 400000 in
theorem join_j (k n k' n' : Int) (s s' : ByteArray) (w : World) (e : k = 4) (e' : k' = 4) (z1 : s.size ≤ 60) (z2 : s'.size ≤ 60) (h : s.size + s'.size ≤ 60) :
    Calls Tryz.prog 183 #[.agg #[.int .i64 k, .int .i64 n, .string s], .agg #[.int .i64 k', .int .i64 n', .string s']] w fun e w' => e = .returned (.agg #[.int .i64 4, .int .i64 0, .string (s ++ s')]) ∧ Below w.heap.size w w' := by
  subst e
  subst e'
  have y1 : (s.size : Int) ≤ 60 := by omega
  have y2 : (s'.size : Int) ≤ 60 := by omega
  have y3 : ¬ 60 < (s.size : Int) + (s'.size : Int) := by omega
  have y4 : (s.size : Int) + (s'.size : Int) ≤ 60 := by omega
  go_enter Tryz.func183, Tryz.ntmps183
  go_wp2_with fail
  exact bodyPost_ret (v := .agg #[.int .i64 4, .int .i64 0, .string (s ++ s')]) (by simp [results, Tryz.results183, go_sem]) rfl ⟨rfl, (((Below.refl _ _).alloc (Nat.le_refl _) _).alloc (by simp) _).alloc (by simp; omega) _⟩

theorem join_any (k n k' n' : Int) (s s' : ByteArray) (w : World) (z : k = 4 → s.size ≤ 60) (z' : k' = 4 → s'.size ≤ 60) :
    Calls Tryz.prog 183 #[.agg #[.int .i64 k, .int .i64 n, .string s], .agg #[.int .i64 k', .int .i64 n', .string s']] w fun e w' => e = .returned (.agg #[.int .i64 (joinK k s k' s'), .int .i64 0, .string (joinS k s k' s')]) ∧ Below w.heap.size w w' := by
  by_cases h : k = 4
  · by_cases h' : k' = 4
    · by_cases hs : s.size + s'.size ≤ 60
      · have e : joinB k s k' s' = true := by simp [joinB, h, h', hs]
        have e1 : joinK k s k' s' = 4 := by simp [joinK, e]
        have e2 : joinS k s k' s' = s ++ s' := by simp [joinS, e]
        rw [e1, e2]; exact join_j k n k' n' s s' w h h' (z h) (z' h') hs
      · have e : joinB k s k' s' = false := by simp [joinB, hs]
        have e1 : joinK k s k' s' = 1 := by simp [joinK, e]
        have e2 : joinS k s k' s' = ⟨#[]⟩ := by simp [joinS, e]
        rw [e1, e2]; exact join_z k n k' n' s s' w h h' (z h) (z' h') (by omega)
    · have e : joinB k s k' s' = false := by simp [joinB, h']
      have e1 : joinK k s k' s' = 1 := by simp [joinK, e]
      have e2 : joinS k s k' s' = ⟨#[]⟩ := by simp [joinS, e]
      rw [e1, e2]; exact join_y k n k' n' s s' w h (by simpa using h')
  · have e : joinB k s k' s' = false := by simp [joinB, h]
    have e1 : joinK k s k' s' = 1 := by simp [joinK, e]
    have e2 : joinS k s k' s' = ⟨#[]⟩ := by simp [joinS, e]
    rw [e1, e2]; exact join_x k n k' n' s s' w (by simpa using h)

set_option maxHeartbeats 400000 in
theorem refJoin_x (k n k' n' : Int) (s s' : ByteArray) (w : World) (h : (k == 4) = false) :
    Calls Tryz.prog 119 #[.agg #[.int .i64 k, .int .i64 n, .string s], .agg #[.int .i64 k', .int .i64 n', .string s']] w fun e w' => e = .returned (.agg #[.int .i64 1, .int .i64 0, .string ⟨#[]⟩]) ∧ Below w.heap.size w w' := by
  have A0 := ((Box.new w (.int .i64 k) (.int .i64 n) (.string s) 24).alloc (.cells #[.int .i64 k', .int .i64 n', .string s'] 24)).alloc (.cells #[.int .i64 0, .int .i64 0, .string ⟨#[]⟩] 24)
  have B0 := (Box.new (w.alloc (.cells #[.int .i64 k, .int .i64 n, .string s] 24)) (.int .i64 k') (.int .i64 n') (.string s') 24).alloc (.cells #[.int .i64 0, .int .i64 0, .string ⟨#[]⟩] 24)
  have R0 := Box.new ((w.alloc (.cells #[.int .i64 k, .int .i64 n, .string s] 24)).alloc (.cells #[.int .i64 k', .int .i64 n', .string s'] 24)) (.int .i64 0) (.int .i64 0) (.string ⟨#[]⟩) 24
  simp only [World.size_alloc] at B0 R0
  go_enter Tryz.func119, Tryz.ntmps119
  go_wp2_with fail
  refine (refNull_any _).mono ?_
  rintro e w1 ⟨rfl, hb1⟩
  have A1 := A0.next hb1
  have B1 := B0.next hb1
  have R1 := R0.next hb1
  have ⟨a0, a1, a2, a3, a4, a5, a6⟩ := A1
  have ⟨b0, b1, b2, b3, b4, b5, b6⟩ := B1
  have ⟨r0, r1, r2, r3, r4, r5, r6⟩ := R1
  go_wp2_with fail
  have z1 := hb1.size
  simp at z1
  exact bodyPost_ret (v := .agg #[.int .i64 1, .int .i64 0, .string ⟨#[]⟩]) (by simp [results, Tryz.results119, go_sem, r1, r2, r3]) rfl ⟨rfl, below_set3 (below3 hb1) (by omega)⟩

set_option maxHeartbeats 400000 in
theorem refJoin_y (k n k' n' : Int) (s s' : ByteArray) (w : World) (e : k = 4) (h : (k' == 4) = false) :
    Calls Tryz.prog 119 #[.agg #[.int .i64 k, .int .i64 n, .string s], .agg #[.int .i64 k', .int .i64 n', .string s']] w fun e w' => e = .returned (.agg #[.int .i64 1, .int .i64 0, .string ⟨#[]⟩]) ∧ Below w.heap.size w w' := by
  subst e
  have A0 := ((Box.new w (.int .i64 4) (.int .i64 n) (.string s) 24).alloc (.cells #[.int .i64 k', .int .i64 n', .string s'] 24)).alloc (.cells #[.int .i64 0, .int .i64 0, .string ⟨#[]⟩] 24)
  have B0 := (Box.new (w.alloc (.cells #[.int .i64 4, .int .i64 n, .string s] 24)) (.int .i64 k') (.int .i64 n') (.string s') 24).alloc (.cells #[.int .i64 0, .int .i64 0, .string ⟨#[]⟩] 24)
  have R0 := Box.new ((w.alloc (.cells #[.int .i64 4, .int .i64 n, .string s] 24)).alloc (.cells #[.int .i64 k', .int .i64 n', .string s'] 24)) (.int .i64 0) (.int .i64 0) (.string ⟨#[]⟩) 24
  simp only [World.size_alloc] at B0 R0
  go_enter Tryz.func119, Tryz.ntmps119
  go_wp2_with fail
  refine (refNull_any _).mono ?_
  rintro e w1 ⟨rfl, hb1⟩
  have A1 := A0.next hb1
  have B1 := B0.next hb1
  have R1 := R0.next hb1
  have ⟨a0, a1, a2, a3, a4, a5, a6⟩ := A1
  have ⟨b0, b1, b2, b3, b4, b5, b6⟩ := B1
  have ⟨r0, r1, r2, r3, r4, r5, r6⟩ := R1
  go_wp2_with fail
  have z1 := hb1.size
  simp at z1
  exact bodyPost_ret (v := .agg #[.int .i64 1, .int .i64 0, .string ⟨#[]⟩]) (by simp [results, Tryz.results119, go_sem, r1, r2, r3]) rfl ⟨rfl, below_set3 (below3 hb1) (by omega)⟩

set_option maxHeartbeats 400000 in
theorem refJoin_z (k n k' n' : Int) (s s' : ByteArray) (w : World) (e : k = 4) (e' : k' = 4) (z1 : s.size ≤ 60) (z2 : s'.size ≤ 60) (h : 60 < s.size + s'.size) :
    Calls Tryz.prog 119 #[.agg #[.int .i64 k, .int .i64 n, .string s], .agg #[.int .i64 k', .int .i64 n', .string s']] w fun e w' => e = .returned (.agg #[.int .i64 1, .int .i64 0, .string ⟨#[]⟩]) ∧ Below w.heap.size w w' := by
  subst e
  subst e'
  have y1 : (s.size : Int) ≤ 60 := by omega
  have y2 : (s'.size : Int) ≤ 60 := by omega
  have y3 : 60 < (s.size : Int) + (s'.size : Int) := by omega
  have y4 : ¬ ((s.size : Int) + (s'.size : Int) ≤ 60) := by omega
  have A0 := ((Box.new w (.int .i64 4) (.int .i64 n) (.string s) 24).alloc (.cells #[.int .i64 4, .int .i64 n', .string s'] 24)).alloc (.cells #[.int .i64 0, .int .i64 0, .string ⟨#[]⟩] 24)
  have B0 := (Box.new (w.alloc (.cells #[.int .i64 4, .int .i64 n, .string s] 24)) (.int .i64 4) (.int .i64 n') (.string s') 24).alloc (.cells #[.int .i64 0, .int .i64 0, .string ⟨#[]⟩] 24)
  have R0 := Box.new ((w.alloc (.cells #[.int .i64 4, .int .i64 n, .string s] 24)).alloc (.cells #[.int .i64 4, .int .i64 n', .string s'] 24)) (.int .i64 0) (.int .i64 0) (.string ⟨#[]⟩) 24
  simp only [World.size_alloc] at B0 R0
  go_enter Tryz.func119, Tryz.ntmps119
  go_wp2_with fail
  refine (refNull_any _).mono ?_
  rintro e w1 ⟨rfl, hb1⟩
  have A1 := A0.next hb1
  have B1 := B0.next hb1
  have R1 := R0.next hb1
  have ⟨a0, a1, a2, a3, a4, a5, a6⟩ := A1
  have ⟨b0, b1, b2, b3, b4, b5, b6⟩ := B1
  have ⟨r0, r1, r2, r3, r4, r5, r6⟩ := R1
  go_wp2_with fail
  have z1 := hb1.size
  simp at z1
  exact bodyPost_ret (v := .agg #[.int .i64 1, .int .i64 0, .string ⟨#[]⟩]) (by simp [results, Tryz.results119, go_sem, r1, r2, r3]) rfl ⟨rfl, below_set3 (below3 hb1) (by omega)⟩

set_option maxHeartbeats 400000 in
theorem refJoin_j (k n k' n' : Int) (s s' : ByteArray) (w : World) (e : k = 4) (e' : k' = 4) (z1 : s.size ≤ 60) (z2 : s'.size ≤ 60) (h : s.size + s'.size ≤ 60) :
    Calls Tryz.prog 119 #[.agg #[.int .i64 k, .int .i64 n, .string s], .agg #[.int .i64 k', .int .i64 n', .string s']] w fun e w' => e = .returned (.agg #[.int .i64 4, .int .i64 0, .string (s ++ s')]) ∧ Below w.heap.size w w' := by
  subst e
  subst e'
  have y1 : (s.size : Int) ≤ 60 := by omega
  have y2 : (s'.size : Int) ≤ 60 := by omega
  have y3 : ¬ 60 < (s.size : Int) + (s'.size : Int) := by omega
  have y4 : (s.size : Int) + (s'.size : Int) ≤ 60 := by omega
  go_enter Tryz.func119, Tryz.ntmps119
  go_wp2_with fail
  exact bodyPost_ret (v := .agg #[.int .i64 4, .int .i64 0, .string (s ++ s')]) (by simp [results, Tryz.results119, go_sem]) rfl ⟨rfl, (((Below.refl _ _).alloc (Nat.le_refl _) _).alloc (by simp) _).alloc (by simp; omega) _⟩

theorem refJoin_any (k n k' n' : Int) (s s' : ByteArray) (w : World) (z : k = 4 → s.size ≤ 60) (z' : k' = 4 → s'.size ≤ 60) :
    Calls Tryz.prog 119 #[.agg #[.int .i64 k, .int .i64 n, .string s], .agg #[.int .i64 k', .int .i64 n', .string s']] w fun e w' => e = .returned (.agg #[.int .i64 (joinK k s k' s'), .int .i64 0, .string (joinS k s k' s')]) ∧ Below w.heap.size w w' := by
  by_cases h : k = 4
  · by_cases h' : k' = 4
    · by_cases hs : s.size + s'.size ≤ 60
      · have e : joinB k s k' s' = true := by simp [joinB, h, h', hs]
        have e1 : joinK k s k' s' = 4 := by simp [joinK, e]
        have e2 : joinS k s k' s' = s ++ s' := by simp [joinS, e]
        rw [e1, e2]; exact refJoin_j k n k' n' s s' w h h' (z h) (z' h') hs
      · have e : joinB k s k' s' = false := by simp [joinB, hs]
        have e1 : joinK k s k' s' = 1 := by simp [joinK, e]
        have e2 : joinS k s k' s' = ⟨#[]⟩ := by simp [joinS, e]
        rw [e1, e2]; exact refJoin_z k n k' n' s s' w h h' (z h) (z' h') (by omega)
    · have e : joinB k s k' s' = false := by simp [joinB, h']
      have e1 : joinK k s k' s' = 1 := by simp [joinK, e]
      have e2 : joinS k s k' s' = ⟨#[]⟩ := by simp [joinS, e]
      rw [e1, e2]; exact refJoin_y k n k' n' s s' w h (by simpa using h')
  · have e : joinB k s k' s' = false := by simp [joinB, h]
    have e1 : joinK k s k' s' = 1 := by simp [joinK, e]
    have e2 : joinS k s k' s' = ⟨#[]⟩ := by simp [joinS, e]
    rw [e1, e2]; exact refJoin_x k n k' n' s s' w (by simpa using h)

end Go.Proofs.YtfojonhblblbjaaGreat
/- What expressions come to. No program in sight. -/
namespace Go.Proofs.YtfojonhblblbjaaGreat

def tri (o : Option Bool) : Vl := (tk o, tn o, ⟨#[]⟩)
def clsP (v : Vl) : Option Bool := cls v.1 v.2.1
def andP (a b : Vl) : Vl := tri (and3 (clsP a) (clsP b))
def orP (a b : Vl) : Vl := tri (or3 (clsP a) (clsP b))
def notP (a : Vl) : Vl := tri (not3 (clsP a))
def eqP (a b : Vl) : Vl := tri (eqT a.1 a.2.1 a.2.2 b.1 b.2.1 b.2.2)
def ltP (a b : Vl) : Vl := tri (ltT a.1 a.2.1 a.2.2 b.1 b.2.1 b.2.2)
def recP (c : Int) (a b : Vl) : Vl := (optK (recO c a.1 a.2.1 b.1 b.2.1), optN (recO c a.1 a.2.1 b.1 b.2.1), ⟨#[]⟩)
def joinP (a b : Vl) : Vl := (joinK a.1 a.2.2 b.1 b.2.2, 0, joinS a.1 a.2.2 b.1 b.2.2)
def coalP (a b : Vl) : Vl := if a.1 = 1 then b else a
def vl0 : Vl := (0, 0, ⟨#[]⟩)
/-- What a kind of two kids makes of what they come to. -/
def twoP (k : Int) (a b : Vl) : Vl :=
  if k = 4 then andP a b else if k = 5 then orP a b else if k = 6 then eqP a b else if k = 7 then notP (eqP a b)
  else if k = 8 then ltP a b else if k = 11 then notP (ltP a b) else if k = 10 then ltP b a else if k = 9 then notP (ltP b a)
  else if k = 12 then recP 43 a b else if k = 13 then recP 45 a b else if k = 14 then recP 42 a b else if k = 15 then joinP a b else coalP a b
def nodeV (row : List Vl) (k : Int) (v : Vl) (c : Int) (us : List Vl) : Vl :=
  if k = 1 then bareP v else if k = 2 then bareP (row.getD c.toNat vl0) else if k = 3 then notP (us.getD 0 vl0)
  else if k = 16 then tri (some ((us.getD 0 vl0).1 == 1))
  else if k = 17 then (if clsP (us.getD 0 vl0) == some true then us.getD 1 vl0 else us.getD 2 vl0)
  else twoP k (us.getD 0 vl0) (us.getD 1 vl0)
mutual
def valX (row : List Vl) : Ex → Vl | .mk k v c ks => nodeV row k v c (valsX row ks)
def valsX (row : List Vl) : List Ex → List Vl | [] => [] | x :: r => valX row x :: valsX row r
end
theorem valsX_map (row : List Vl) : ∀ ks, valsX row ks = ks.map (valX row)
  | [] => rfl
  | x :: r => by rw [valsX, valsX_map row r]; rfl

/-! Right values. -/
theorem wrong_tri (o : Option Bool) : wrongP (tri o) = 0 := by rcases o with _ | _ | _ <;> rfl
theorem kind_tri (o : Option Bool) : (tri o).1 = 1 ∨ (tri o).1 = 2 := by rcases o with _ | _ <;> simp [tri, tk]
theorem wrong_bareX (v : Vl) : wrongP (bareP v) = wrongP v := by
  obtain ⟨k, n, s⟩ := v
  unfold wrongP bareP wrongF bareN bareS
  by_cases h1 : k = 1
  · simp [h1]
  by_cases h2 : k = 2
  · simp [h2]
  by_cases h3 : k = 3
  · simp [h3]
  by_cases h4 : k = 4
  · simp [h4]
  simp [h1, h2, h3, h4]
theorem wrong_rec (c : Int) (a b : Vl) : wrongP (recP c a b) = 0 ∧ ((recP c a b).1 = 1 ∨ (recP c a b).1 = 3) := by
  unfold recP wrongP
  rcases recO c a.1 a.2.1 b.1 b.2.1 with _ | x
  · simp [optK, wrongF]
  · by_cases h : inB x = true
    · have h' := h
      simp only [inB, Bool.and_eq_true, decide_eq_true_eq] at h'
      simp [optK, optN, intK, intN, h, wrongF, h']
    · simp [optK, intK, h, wrongF]
theorem wrong_join (a b : Vl) : wrongP (joinP a b) = 0 ∧ ((joinP a b).1 = 1 ∨ (joinP a b).1 = 4) := by
  unfold joinP wrongP joinK joinS
  by_cases h : joinB a.1 a.2.2 b.1 b.2.2 = true
  · have h' := h
    simp only [joinB, Bool.and_eq_true, decide_eq_true_eq] at h'
    simp [h, wrongF, h']
  · simp [h, wrongF]
theorem wrong_kind {v : Vl} (h : wrongP v = 0) : 1 ≤ v.1 ∧ v.1 ≤ 4 := by
  obtain ⟨k, n, s⟩ := v
  unfold wrongP wrongF at h
  simp only at h ⊢
  by_cases h1 : k = 1
  · omega
  by_cases h2 : k = 2
  · omega
  by_cases h3 : k = 3
  · omega
  by_cases h4 : k = 4
  · omega
  simp [h1, h2, h3, h4] at h
theorem two_cmp {k : Int} (h : 6 ≤ k) (h' : k ≤ 11) (a b : Vl) : ∃ o, twoP k a b = tri o := by
  obtain rfl | rfl | rfl | rfl | rfl | rfl : k = 6 ∨ k = 7 ∨ k = 8 ∨ k = 9 ∨ k = 10 ∨ k = 11 := by omega
  all_goals exact ⟨_, rfl⟩
theorem two_rec {k : Int} (h : 12 ≤ k) (h' : k ≤ 14) (a b : Vl) : ∃ c, twoP k a b = recP c a b := by
  obtain rfl | rfl | rfl : k = 12 ∨ k = 13 ∨ k = 14 := by omega
  all_goals exact ⟨_, rfl⟩
theorem two_coal {k : Int} (h : k < 4 ∨ 15 < k) (a b : Vl) : twoP k a b = coalP a b := by
  unfold twoP
  rw [if_neg (by omega), if_neg (by omega), if_neg (by omega), if_neg (by omega), if_neg (by omega), if_neg (by omega), if_neg (by omega), if_neg (by omega), if_neg (by omega), if_neg (by omega), if_neg (by omega), if_neg (by omega)]
theorem two_cases (k : Int) (a b : Vl) : (∃ o, twoP k a b = tri o) ∨ (∃ c, twoP k a b = recP c a b) ∨ twoP k a b = joinP a b ∨ twoP k a b = coalP a b := by
  by_cases h4 : k = 4
  · subst h4; exact .inl ⟨_, rfl⟩
  by_cases h5 : k = 5
  · subst h5; exact .inl ⟨_, rfl⟩
  by_cases h6 : 6 ≤ k ∧ k ≤ 11
  · exact .inl (two_cmp h6.1 h6.2 a b)
  by_cases h12 : 12 ≤ k ∧ k ≤ 14
  · exact .inr (.inl (two_rec h12.1 h12.2 a b))
  by_cases h15 : k = 15
  · subst h15; exact .inr (.inr (.inl rfl))
  · exact .inr (.inr (.inr (two_coal (by omega) a b)))
theorem wrong_two (k : Int) {a b : Vl} (ha : wrongP a = 0) (hb : wrongP b = 0) : wrongP (twoP k a b) = 0 := by
  rcases two_cases k a b with ⟨o, e⟩ | ⟨c, e⟩ | e | e <;> rw [e]
  · exact wrong_tri _
  · exact (wrong_rec _ _ _).1
  · exact (wrong_join _ _).1
  · unfold coalP; split <;> assumption

/-! Rows that fit. -/
def fitsG : List Int → List Vl → Int
  | c :: cs, v :: vs => if wrongP v ≠ 0 then wrongP v else if v.1 ≠ 1 ∧ v.1 ≠ c then 9 else fitsG cs vs
  | _, _ => 0
def fitsL (cols : List Int) (row : List Vl) : Int := if row.length ≠ cols.length then 8 else fitsG cols row
theorem fitsG_ok : ∀ (cols : List Int) (row : List Vl), row.length = cols.length → (fitsG cols row = 0 ↔ ∀ i (h : i < row.length), wrongP row[i] = 0 ∧ (row[i].1 = 1 ∨ row[i].1 = cols.getD i 0))
  | [], [], _ => by simp [fitsG]
  | [], _ :: _, h => by simp at h
  | _ :: _, [], h => by simp at h
  | c :: cs, v :: vs, h => by
    have ih := fitsG_ok cs vs (by simpa using h)
    rw [fitsG]
    by_cases h1 : wrongP v = 0
    · rw [if_neg (by simp [h1])]
      by_cases h2 : v.1 ≠ 1 ∧ v.1 ≠ c
      · rw [if_pos h2]
        simp only [show ¬ (9 : Int) = 0 by decide, false_iff]
        intro hh
        have := (hh 0 (by simp)).2
        simp at this
        omega
      · rw [if_neg h2, ih]
        constructor
        · intro hh i hi
          match i, hi with
          | 0, _ =>
            refine ⟨h1, ?_⟩
            simp
            omega
          | i + 1, hi =>
            have := hh i (by simpa using hi)
            simpa using this
        · intro hh i hi
          have := hh (i + 1) (by simpa using hi)
          simpa using this
    · rw [if_pos h1]
      constructor
      · intro hh; exact absurd hh h1
      · intro hh; exact absurd (hh 0 (by simp)).1 h1
structure FitP (cols : List Int) (row : List Vl) : Prop where
  len : row.length = cols.length
  one : ∀ i (h : i < row.length), wrongP row[i] = 0 ∧ (row[i].1 = 1 ∨ row[i].1 = cols.getD i 0)
theorem fitsL_ok (cols : List Int) (row : List Vl) : fitsL cols row = 0 ↔ FitP cols row := by
  unfold fitsL
  by_cases h : row.length = cols.length
  · rw [if_neg (by simp [h]), fitsG_ok cols row h]
    exact ⟨fun k => ⟨h, k⟩, fun k => k.2⟩
  · rw [if_pos h]
    simp only [show ¬ (8 : Int) = 0 by decide, false_iff]
    exact fun k => h k.1

/-! What has a type goes not wrong. -/
theorem tog_some {a b t : Int} (h : tog a b = some t) : (a = 1 ∧ t = b) ∨ (b = 1 ∧ t = a) ∨ (a = t ∧ b = t) := by
  unfold tog at h
  split at h
  · rename_i h1; rcases h1 with h1 | h1
    · right; right; simp at h; omega
    · right; left; simp at h; omega
  · split at h
    · left; simp at h; omega
    · simp at h
theorem allO_some {t u : Int} {ts : List Int} (h : allO t ts = some u) : u = t := by
  unfold allO at h
  split at h
  · simpa using h.symm
  · simp at h
def inT (t : Int) : Prop := 1 ≤ t ∧ t ≤ 4
theorem tog_in {a b t : Int} (h : tog a b = some t) (ha : inT a) (hb : inT b) : inT t := by
  rcases tog_some h with ⟨_, rfl⟩ | ⟨_, rfl⟩ | ⟨rfl, _⟩ <;> assumption
theorem typsP_len {cols : List Int} : ∀ {ks : List Ex} {ts : List Int}, typsP cols ks = some ts → ts.length = ks.length
  | [], ts, h => by simp [typsP] at h; simp [h]
  | x :: r, ts, h => by
    rw [typsP, Option.bind_eq_some_iff] at h
    obtain ⟨t, _, h⟩ := h
    rw [Option.map_eq_some_iff] at h
    obtain ⟨us, h, rfl⟩ := h
    simp [typsP_len h]
theorem typsP_at {cols : List Int} : ∀ {ks : List Ex} {ts : List Int}, typsP cols ks = some ts → ∀ (i : Nat) (h : i < ks.length), typP cols ks[i] = some (ts.getD i 0)
  | [], ts, _ => by intro i h; simp at h
  | x :: r, ts, h => by
    rw [typsP, Option.bind_eq_some_iff] at h
    obtain ⟨t, h0, h⟩ := h
    rw [Option.map_eq_some_iff] at h
    obtain ⟨us, h, rfl⟩ := h
    intro i hi
    match i, hi with
    | 0, _ => simpa using h0
    | i + 1, hi => simpa using typsP_at h i (by simpa using hi)
/-- What a typed node is. -/
theorem typP_node {cols : List Int} {k : Int} {v : Vl} {c : Int} {ks : List Ex} {t : Int} (h : typP cols (.mk k v c ks) = some t) :
    1 ≤ k ∧ k ≤ 18 ∧ ks.length = kidsN k ∧ ∃ ts, typsP cols ks = some ts ∧ nodeT cols k v c ts = (t, 0) := by
  rw [typP] at h
  split at h
  · simp at h
  · rename_i hk
    rw [Option.bind_eq_some_iff] at h
    obtain ⟨ts, h1, h2⟩ := h
    split at h2
    · rename_i h3
      refine ⟨by omega, by omega, by omega, ts, h1, ?_⟩
      simp at h2
      exact Prod.ext h2 h3
    · simp at h2
theorem litT_ok {v : Vl} {t : Int} (h : litT v = (t, 0)) : wrongP v = 0 ∧ v.1 = t := by
  unfold litT at h
  split at h
  · rename_i hw; simp at h; exact ⟨hw, h⟩
  · rename_i hw; simp at h; exact absurd h.2 hw
theorem colT_ok {cols : List Int} {c t : Int} (h : colT cols c = (t, 0)) : 0 ≤ c ∧ c.toNat < cols.length ∧ cols.getD c.toNat 0 = t := by
  unfold colT at h
  split at h
  · simp at h
  · rename_i hc
    simp only [Prod.mk.injEq, and_true] at h
    exact ⟨by omega, by omega, h⟩
theorem resT_ok {o : Option Int} {t : Int} (h : resT o = (t, 0)) : o = some t := by
  cases o with
  | none => simp [resT] at h
  | some u => simp [resT] at h; rw [h]
theorem kidsT_in {k : Int} {ts : List Int} {t : Int} (h : kidsT k ts = some t) (hin : ∀ i, i < ts.length → inT (ts.getD i 0)) (hk : 3 ≤ k) (hk' : k ≤ 18) (hl : ts.length = kidsN k) : inT t := by
  have two : 6 ≤ k → k ≠ 16 → 2 ≤ ts.length := by
    intro h6 h16; rw [hl]; unfold kidsN
    rw [if_neg (by omega), if_neg (by omega)]
    split <;> omega
  unfold kidsT at h
  split at h
  · rw [allO_some h]; (unfold inT; omega)
  split at h
  · split at h <;> simp at h; rw [← h]; (unfold inT; omega)
  split at h
  · rw [allO_some h]; (unfold inT; omega)
  split at h
  · rw [allO_some h]; (unfold inT; omega)
  split at h
  · simp at h; rw [← h]; (unfold inT; omega)
  split at h
  · rename_i h17
    have h3 : ts.length = 3 := by rw [hl]; subst h17; rfl
    split at h
    · exact tog_in h (hin 1 (by omega)) (hin 2 (by omega))
    · simp at h
  · exact tog_in h (hin 0 (by have := two (by omega) (by omega); omega)) (hin 1 (by have := two (by omega) (by omega); omega))
theorem typP_in {cols : List Int} (hc : ∀ i, i < cols.length → inT (cols.getD i 0)) : ∀ x t, typP cols x = some t → inT t := by
  refine Ex.ind fun k v c ks ih t h => ?_
  obtain ⟨h1, h18, hl, ts, hts, hn⟩ := typP_node h
  unfold nodeT at hn
  split at hn
  · obtain ⟨q1, q2⟩ := litT_ok hn
    rw [← q2]
    exact wrong_kind q1
  split at hn
  · obtain ⟨q0, q1, q2⟩ := colT_ok hn
    rw [← q2]
    exact hc _ q1
  · have hlen := typsP_len hts
    refine kidsT_in (resT_ok hn) (fun i hi => ?_) (by omega) h18 (by omega)
    exact ih ks[i] (List.getElem_mem _) _ (typsP_at hts i (by omega))

/-- One value of a type, or not known; and right. -/
def Of (t : Int) (u : Vl) : Prop := wrongP u = 0 ∧ (u.1 = 1 ∨ u.1 = t)
theorem of_tri (o : Option Bool) : Of 2 (tri o) := ⟨wrong_tri o, kind_tri o⟩
theorem of_tog1 {a b t : Int} {u : Vl} (h : tog a b = some t) (hu : Of a u) : Of t u := by
  refine ⟨hu.1, ?_⟩
  rcases tog_some h with ⟨q, rfl⟩ | ⟨_, rfl⟩ | ⟨rfl, _⟩
  · left; rcases hu.2 with e | e <;> omega
  · exact hu.2
  · exact hu.2
theorem of_tog2 {a b t : Int} {u : Vl} (h : tog a b = some t) (hu : Of b u) : Of t u := by
  refine ⟨hu.1, ?_⟩
  rcases tog_some h with ⟨_, rfl⟩ | ⟨q, rfl⟩ | ⟨_, rfl⟩
  · exact hu.2
  · left; rcases hu.2 with e | e <;> omega
  · exact hu.2
theorem valX_of {cols : List Int} {row : List Vl} (hf : FitP cols row) : ∀ x t, typP cols x = some t → Of t (valX row x) := by
  refine Ex.ind fun k v c ks ih t h => ?_
  obtain ⟨h1, h18, hl, ts, hts, hn⟩ := typP_node h
  have hlen := typsP_len hts
  have hkid : ∀ i (hi : i < ks.length), Of (ts.getD i 0) ((valsX row ks).getD i vl0) := by
    intro i hi
    have := ih ks[i] (List.getElem_mem _) _ (typsP_at hts i hi)
    rw [valsX_map]
    simpa [List.getD, hi] using this
  rw [valX]
  generalize valsX row ks = us at hkid
  unfold nodeT at hn
  unfold nodeV
  split at hn
  · rename_i hk
    rw [if_pos hk]
    obtain ⟨q1, q2⟩ := litT_ok hn
    exact ⟨(wrong_bareX v).trans q1, .inr q2⟩
  rename_i hk1
  rw [if_neg hk1]
  split at hn
  · rename_i hk
    rw [if_pos hk]
    obtain ⟨q0, q1, q2⟩ := colT_ok hn
    have hl' := hf.len
    have := hf.one c.toNat (by omega)
    rw [q2] at this
    have e : row.getD c.toNat vl0 = row[c.toNat]'(by omega) := by simp [List.getD, show c.toNat < row.length by omega]
    rw [e]
    exact ⟨(wrong_bareX _).trans this.1, this.2⟩
  rename_i hk2
  rw [if_neg hk2]
  have hn := resT_ok hn
  unfold kidsT at hn
  have l2 : k ≠ 3 → k ≠ 16 → k ≠ 17 → ks.length = 2 := by
    intro h3 h16 h17
    rw [hl]; unfold kidsN
    rw [if_neg (by omega), if_neg (by omega), if_neg h17]
  by_cases hk3 : k = 3
  · rw [if_pos hk3]
    rw [if_pos (by omega)] at hn
    rw [allO_some hn]
    exact of_tri _
  rw [if_neg hk3]
  by_cases hk16 : k = 16
  · rw [if_pos hk16]
    subst hk16
    simp at hn
    rw [← hn]
    exact of_tri _
  rw [if_neg hk16]
  by_cases hk17 : k = 17
  · rw [if_pos hk17]
    subst hk17
    have l3 : ks.length = 3 := hl
    simp only [show ¬ ((17 : Int) = 3 ∨ (17 : Int) = 4 ∨ (17 : Int) = 5) by decide, show ¬ (6 ≤ (17 : Int) ∧ (17 : Int) ≤ 11) by decide, show ¬ ((17 : Int) = 12 ∨ (17 : Int) = 13 ∨ (17 : Int) = 14) by decide, show ¬ (17 : Int) = 15 by decide, show ¬ (17 : Int) = 16 by decide, if_false, if_true] at hn
    split at hn
    · split
      · exact of_tog1 hn (hkid 1 (by omega))
      · exact of_tog2 hn (hkid 2 (by omega))
    · simp at hn
  rw [if_neg hk17]
  have l2 := l2 hk3 hk16 hk17
  have k0 := hkid 0 (by omega)
  have k1 := hkid 1 (by omega)
  by_cases b4 : k = 4
  · rw [if_pos (by omega)] at hn; rw [allO_some hn, b4]; exact of_tri _
  by_cases b5 : k = 5
  · rw [if_pos (by omega)] at hn; rw [allO_some hn, b5]; exact of_tri _
  rw [if_neg (by omega)] at hn
  by_cases b6 : 6 ≤ k ∧ k ≤ 11
  · rw [if_pos b6] at hn
    have ht : t = 2 := by
      split at hn <;> simp at hn; exact hn.symm
    subst ht
    obtain ⟨o, e⟩ := two_cmp b6.1 b6.2 (us.getD 0 vl0) (us.getD 1 vl0)
    rw [e]
    exact of_tri _
  rw [if_neg b6] at hn
  by_cases b12 : k = 12 ∨ k = 13 ∨ k = 14
  · rw [if_pos b12] at hn
    have ht := allO_some hn
    subst ht
    obtain ⟨o, e⟩ := two_rec (by omega) (by omega) (us.getD 0 vl0) (us.getD 1 vl0) (k := k)
    rw [e]
    exact wrong_rec _ _ _
  rw [if_neg b12] at hn
  by_cases b15 : k = 15
  · rw [if_pos b15] at hn
    have ht := allO_some hn
    subst ht
    rw [b15]
    exact wrong_join _ _
  rw [if_neg b15, if_neg hk16, if_neg hk17] at hn
  rw [two_coal (by omega)]
  unfold coalP
  split
  · exact of_tog2 hn k1
  · exact of_tog1 hn k0
end Go.Proofs.YtfojonhblblbjaaGreat
/- What two values are made to: And, Or, .. as function values; denied, turned, reckoned, firstKnown, ofTwo. -/
namespace Go.Proofs.YtfojonhblblbjaaGreat
open Go.RowKit

theorem wrong_text {v : Vl} (h : wrongP v = 0) : v.1 = 4 → v.2.2.size ≤ 60 := by
  obtain ⟨k, n, s⟩ := v
  intro e
  simp only at e
  subst e
  unfold wrongP wrongF at h
  simp at h
  exact h
theorem wrong_num {v : Vl} (h : wrongP v = 0) : v.1 = 3 → -1000000000000000 ≤ v.2.1 ∧ v.2.1 ≤ 1000000000000000 := by
  obtain ⟨k, n, s⟩ := v
  intro e
  simp only at e
  subst e
  unfold wrongP wrongF at h
  simp at h
  exact h
theorem wrong_tru {v : Vl} (h : wrongP v = 0) : Tru v.1 v.2.1 := by
  obtain ⟨k, n, s⟩ := v
  intro e
  simp only at e
  subst e
  unfold wrongP wrongF at h
  simp at h
  show n = 0 ∨ n = 1
  omega

/-- All blocks from lo on are as they were. -/
def Since (lo : Nat) (w W : World) : Prop := w.heap.size ≤ W.heap.size ∧ ∀ k, lo ≤ k → k < w.heap.size → W.heap[k]? = w.heap[k]?
theorem Since.refl (lo : Nat) (w : World) : Since lo w w := ⟨Nat.le_refl _, fun _ _ _ => rfl⟩
theorem Since.trans {lo : Nat} {a b c : World} (h : Since lo a b) (k : Since lo b c) : Since lo a c :=
  ⟨Nat.le_trans h.1 k.1, fun i hi hl => (k.2 i hi (Nat.lt_of_lt_of_le hl h.1)).trans (h.2 i hi hl)⟩
theorem Since.of {lo : Nat} {w W : World} (h : Below w.heap.size w W) : Since lo w W := ⟨h.size, fun k _ hk => h.block k hk⟩
theorem Since.up {lo lo' : Nat} {w W : World} (h : Since lo w W) (hl : lo ≤ lo') : Since lo' w W := ⟨h.1, fun k hk => h.2 k (Nat.le_trans hl hk)⟩
theorem Since.cell {lo : Nat} {w W : World} (h : Since lo w W) {p : Addr} (h1 : lo ≤ p.block) (h2 : p.block < w.heap.size) : W.cell? p = w.cell? p := World.cell?_of_block (w := w) (h.2 p.block h1 h2)
theorem Since.set {lo : Nat} {w W : World} (h : Since lo w W) (g o : Nat) (u : Value) (hg : g < lo) : Since lo w (W.setCell ⟨g, o, none⟩ u) :=
  ⟨by simpa using h.1, fun k hk hl => (Below.heap_setCell W ⟨g, o, none⟩ u k (by show k ≠ g; omega)).trans (h.2 k hk hl)⟩
/-- A function value makes f of two right values, as long as all from lo on is as it was. -/
def Fn2 (lo : Nat) (u : Value) (f : Vl → Vl → Vl) (w : World) : Prop :=
  ∃ g cb, u = .func (.func g) #[] cb ∧ (∀ args w, (callFunc g args).run Tryz.prog w = .ok (.enter g args) w) ∧
    ∀ (p q : Vl) (W : World), wrongP p = 0 → wrongP q = 0 → Since lo w W → Calls Tryz.prog g (#[agV p, agV q] ++ cb) W fun e w' => e = .returned (agV (f p q)) ∧ Below W.heap.size W w'
theorem Fn2.next {lo : Nat} {u : Value} {f : Vl → Vl → Vl} {w w1 : World} (h : Fn2 lo u f w) (hb : Since lo w w1) : Fn2 lo u f w1 := by
  obtain ⟨g, cb, e, eg, hd⟩ := h
  exact ⟨g, cb, e, eg, fun p q W hp hq hW => hd p q W hp hq (hb.trans hW)⟩

theorem fn_and (lo : Nat) (w : World) : Fn2 lo (.func (.func 176) #[] #[]) andP w :=
  ⟨176, #[], rfl, enters_of Tryz.func176 (by kernel_rfl) rfl, fun p q W _ _ _ => by rw [Array.append_empty]; exact and_any p.1 p.2.1 q.1 q.2.1 p.2.2 q.2.2 W⟩
theorem fn_or (lo : Nat) (w : World) : Fn2 lo (.func (.func 177) #[] #[]) orP w :=
  ⟨177, #[], rfl, enters_of Tryz.func177 (by kernel_rfl) rfl, fun p q W _ _ _ => by rw [Array.append_empty]; exact or_any p.1 p.2.1 q.1 q.2.1 p.2.2 q.2.2 W⟩
theorem fn_eq (lo : Nat) (w : World) : Fn2 lo (.func (.func 178) #[] #[]) eqP w :=
  ⟨178, #[], rfl, enters_of Tryz.func178 (by kernel_rfl) rfl, fun p q W _ _ _ => by rw [Array.append_empty]; exact equal_any p.1 p.2.1 q.1 q.2.1 p.2.2 q.2.2 W⟩
theorem fn_lt (lo : Nat) (w : World) : Fn2 lo (.func (.func 180) #[] #[]) ltP w :=
  ⟨180, #[], rfl, enters_of Tryz.func180 (by kernel_rfl) rfl, fun p q W _ _ _ => by rw [Array.append_empty]; exact less_any p.1 p.2.1 q.1 q.2.1 p.2.2 q.2.2 W⟩
theorem fn_join (lo : Nat) (w : World) : Fn2 lo (.func (.func 183) #[] #[]) joinP w :=
  ⟨183, #[], rfl, enters_of Tryz.func183 (by kernel_rfl) rfl, fun p q W hp hq _ => by rw [Array.append_empty]; exact join_any p.1 p.2.1 q.1 q.2.1 p.2.2 q.2.2 W (wrong_text hp) (wrong_text hq)⟩

set_option maxHeartbeats 800000 in
theorem first_at (p q : Vl) (w : World) : Calls Tryz.prog 184 #[agV p, agV q] w fun e w' => e = .returned (agV (coalP p q)) ∧ Below w.heap.size w w' := by
  obtain ⟨k, n, s⟩ := p
  obtain ⟨k', n', s'⟩ := q
  by_cases h : k = 1
  · subst h
    have e : coalP (1, n, s) (k', n', s') = (k', n', s') := rfl
    rw [e]
    go_enter Tryz.func184, Tryz.ntmps184
    go_wp2_with fail
    have A0 := ((Box.new w (.int .i64 1) (.int .i64 n) (.string s) 24).alloc (.cells #[.int .i64 k', .int .i64 n', .string s'] 24)).alloc (.cells #[.int .i64 0, .int .i64 0, .string ⟨#[]⟩] 24)
    have B0 := (Box.new (w.alloc (.cells #[.int .i64 1, .int .i64 n, .string s] 24)) (.int .i64 k') (.int .i64 n') (.string s') 24).alloc (.cells #[.int .i64 0, .int .i64 0, .string ⟨#[]⟩] 24)
    have R0 := Box.new ((w.alloc (.cells #[.int .i64 1, .int .i64 n, .string s] 24)).alloc (.cells #[.int .i64 k', .int .i64 n', .string s'] 24)) (.int .i64 0) (.int .i64 0) (.string ⟨#[]⟩) 24
    simp only [World.size_alloc] at B0 R0
    refine (isNull_at _ _ _ _).mono ?_
    rintro e w1 ⟨rfl, hb1⟩
    have ⟨b0, b1, b2, b3, b4, b5, b6⟩ := B0.next hb1
    have ⟨r0, r1, r2, r3, r4, r5, r6⟩ := R0.next hb1
    have z1 := hb1.size
    simp at z1
    go_wp2_with fail
    exact bodyPost_ret (v := .agg #[.int .i64 k', .int .i64 n', .string s']) (by simp [results, Tryz.results184, go_sem, r1, r2, r3]) rfl ⟨rfl, below_set3 (below3 hb1) (by omega)⟩
  · have e : coalP (k, n, s) (k', n', s') = (k, n, s) := by simp [coalP, h]
    rw [e]
    have q1 : (k == 1) = false := by simpa using h
    go_enter Tryz.func184, Tryz.ntmps184
    go_wp2_with fail
    have A0 := ((Box.new w (.int .i64 k) (.int .i64 n) (.string s) 24).alloc (.cells #[.int .i64 k', .int .i64 n', .string s'] 24)).alloc (.cells #[.int .i64 0, .int .i64 0, .string ⟨#[]⟩] 24)
    have R0 := Box.new ((w.alloc (.cells #[.int .i64 k, .int .i64 n, .string s] 24)).alloc (.cells #[.int .i64 k', .int .i64 n', .string s'] 24)) (.int .i64 0) (.int .i64 0) (.string ⟨#[]⟩) 24
    simp only [World.size_alloc] at R0
    refine (isNull_at _ _ _ _).mono ?_
    rintro e w1 ⟨rfl, hb1⟩
    rw [q1]
    have ⟨b0, b1, b2, b3, b4, b5, b6⟩ := A0.next hb1
    have ⟨r0, r1, r2, r3, r4, r5, r6⟩ := R0.next hb1
    have z1 := hb1.size
    simp at z1
    go_wp2_with fail
    exact bodyPost_ret (v := .agg #[.int .i64 k, .int .i64 n, .string s]) (by simp [results, Tryz.results184, go_sem, r1, r2, r3]) rfl ⟨rfl, below_set3 (below3 hb1) (by omega)⟩
theorem fn_coal (lo : Nat) (w : World) : Fn2 lo (.func (.func 184) #[] #[]) coalP w :=
  ⟨184, #[], rfl, enters_of Tryz.func184 (by kernel_rfl) rfl, fun p q W _ _ _ => by rw [Array.append_empty]; exact first_at p q W⟩
end Go.Proofs.YtfojonhblblbjaaGreat
/- denied, turned, reckoned as function values. -/
namespace Go.Proofs.YtfojonhblblbjaaGreat
open Go.RowKit

set_option maxHeartbeats 1000000 in
theorem denied1_at (g : Nat) (cb : Array Value) (f : Vl → Vl → Vl) (b : Nat) (p q : Vl) (W : World) (hb : b < W.heap.size) (hc : W.cell? ⟨b, 0, none⟩ = some (.func (.func g) #[] cb))
    (eg : ∀ args w, (callFunc g args).run Tryz.prog w = .ok (.enter g args) w) (hd : ∀ W', Below W.heap.size W W' → Calls Tryz.prog g (#[agV p, agV q] ++ cb) W' fun e w' => e = .returned (agV (f p q)) ∧ Below W'.heap.size W' w') :
    Calls Tryz.prog 203 #[agV p, agV q, .pointer (some ⟨b, 0, none⟩)] W fun e w' => e = .returned (agV (notP (f p q))) ∧ Below W.heap.size W w' := by
  have e : notP (f p q) = (tk (not3 (cls (f p q).1 (f p q).2.1)), tn (not3 (cls (f p q).1 (f p q).2.1)), ⟨#[]⟩) := rfl
  rw [e]
  clear e
  generalize f p q = r at *
  have con := hd _ (below3 (Below.refl _ (((W.alloc (.cells #[.int .i64 p.1, .int .i64 p.2.1, .string p.2.2] 24)).alloc (.cells #[.int .i64 q.1, .int .i64 q.2.1, .string q.2.2] 24)).alloc (.cells #[.int .i64 0, .int .i64 0, .string ⟨#[]⟩] 24))))
  have A0 := ((Box.new W (.int .i64 p.1) (.int .i64 p.2.1) (.string p.2.2) 24).alloc (.cells #[.int .i64 q.1, .int .i64 q.2.1, .string q.2.2] 24)).alloc (.cells #[.int .i64 0, .int .i64 0, .string ⟨#[]⟩] 24)
  have B0 := (Box.new (W.alloc (.cells #[.int .i64 p.1, .int .i64 p.2.1, .string p.2.2] 24)) (.int .i64 q.1) (.int .i64 q.2.1) (.string q.2.2) 24).alloc (.cells #[.int .i64 0, .int .i64 0, .string ⟨#[]⟩] 24)
  have R0 := Box.new ((W.alloc (.cells #[.int .i64 p.1, .int .i64 p.2.1, .string p.2.2] 24)).alloc (.cells #[.int .i64 q.1, .int .i64 q.2.1, .string q.2.2] 24)) (.int .i64 0) (.int .i64 0) (.string ⟨#[]⟩) 24
  have hA : Below W.heap.size W (((W.alloc (.cells #[.int .i64 p.1, .int .i64 p.2.1, .string p.2.2] 24)).alloc (.cells #[.int .i64 q.1, .int .i64 q.2.1, .string q.2.2] 24)).alloc (.cells #[.int .i64 0, .int .i64 0, .string ⟨#[]⟩] 24)) := below3 (Below.refl _ _)
  have c3 := (hA.cell (p := ⟨b, 0, none⟩) hb).trans hc
  simp only [World.size_alloc] at B0 R0
  clear hd A0 B0
  go_enter Tryz.func203, Tryz.ntmps203
  go_wp2_with (go_at_fn g; refine con.mono ?_)
  rintro e w1 ⟨rfl, hb1⟩
  have R1 := R0.next hb1
  have hb1' := chain hA hb1
  have z1 := hb1.size
  simp at z1
  go_wp2_with fail
  refine (not_any _ _ _ _).mono ?_
  rintro e w2 ⟨rfl, hb2⟩
  have ⟨r0, r1, r2, r3, r4, r5, r6⟩ := R1.next hb2
  have hb2' := chain hb1' hb2
  clear con R0 R1
  go_wp2_with fail
  exact bodyPost_ret (v := .agg #[.int .i64 (tk (not3 (cls r.1 r.2.1))), .int .i64 (tn (not3 (cls r.1 r.2.1))), .string ⟨#[]⟩]) (by simp [results, Tryz.results203, go_sem, r1, r2, r3]) rfl ⟨rfl, below_set3 hb2' (by omega)⟩

set_option maxHeartbeats 1000000 in
theorem turned1_at (g : Nat) (cb : Array Value) (f : Vl → Vl → Vl) (b : Nat) (p q : Vl) (W : World) (hb : b < W.heap.size) (hc : W.cell? ⟨b, 0, none⟩ = some (.func (.func g) #[] cb))
    (eg : ∀ args w, (callFunc g args).run Tryz.prog w = .ok (.enter g args) w) (hd : ∀ W', Below W.heap.size W W' → Calls Tryz.prog g (#[agV q, agV p] ++ cb) W' fun e w' => e = .returned (agV (f q p)) ∧ Below W'.heap.size W' w') :
    Calls Tryz.prog 204 #[agV p, agV q, .pointer (some ⟨b, 0, none⟩)] W fun e w' => e = .returned (agV (f q p)) ∧ Below W.heap.size W w' := by
  generalize f q p = r at *
  have con := hd _ (below3 (Below.refl _ (((W.alloc (.cells #[.int .i64 p.1, .int .i64 p.2.1, .string p.2.2] 24)).alloc (.cells #[.int .i64 q.1, .int .i64 q.2.1, .string q.2.2] 24)).alloc (.cells #[.int .i64 0, .int .i64 0, .string ⟨#[]⟩] 24))))
  have A0 := ((Box.new W (.int .i64 p.1) (.int .i64 p.2.1) (.string p.2.2) 24).alloc (.cells #[.int .i64 q.1, .int .i64 q.2.1, .string q.2.2] 24)).alloc (.cells #[.int .i64 0, .int .i64 0, .string ⟨#[]⟩] 24)
  have B0 := (Box.new (W.alloc (.cells #[.int .i64 p.1, .int .i64 p.2.1, .string p.2.2] 24)) (.int .i64 q.1) (.int .i64 q.2.1) (.string q.2.2) 24).alloc (.cells #[.int .i64 0, .int .i64 0, .string ⟨#[]⟩] 24)
  have R0 := Box.new ((W.alloc (.cells #[.int .i64 p.1, .int .i64 p.2.1, .string p.2.2] 24)).alloc (.cells #[.int .i64 q.1, .int .i64 q.2.1, .string q.2.2] 24)) (.int .i64 0) (.int .i64 0) (.string ⟨#[]⟩) 24
  have hA : Below W.heap.size W (((W.alloc (.cells #[.int .i64 p.1, .int .i64 p.2.1, .string p.2.2] 24)).alloc (.cells #[.int .i64 q.1, .int .i64 q.2.1, .string q.2.2] 24)).alloc (.cells #[.int .i64 0, .int .i64 0, .string ⟨#[]⟩] 24)) := below3 (Below.refl _ _)
  have c3 := (hA.cell (p := ⟨b, 0, none⟩) hb).trans hc
  simp only [World.size_alloc] at B0 R0
  clear hd A0 B0
  go_enter Tryz.func204, Tryz.ntmps204
  go_wp2_with (go_at_fn g; refine con.mono ?_)
  rintro e w1 ⟨rfl, hb1⟩
  have ⟨r0, r1, r2, r3, r4, r5, r6⟩ := R0.next hb1
  have hb1' := chain hA hb1
  have z1 := hb1.size
  simp at z1
  clear con R0
  go_wp2_with fail
  exact bodyPost_ret (v := agV r) (by simp [results, Tryz.results204, go_sem, r1, r2, r3]) rfl ⟨rfl, below_set3 hb1' (by omega)⟩

set_option maxHeartbeats 1000000 in
theorem reckoned1_at (c : Int) (b : Nat) (p q : Vl) (W : World) (hb : b < W.heap.size) (hc : W.cell? ⟨b, 0, none⟩ = some (.int .i32 c)) :
    Calls Tryz.prog 205 #[agV p, agV q, .pointer (some ⟨b, 0, none⟩)] W fun e w' => e = .returned (agV (recP c p q)) ∧ Below W.heap.size W w' := by
  have e : recP c p q = (optK (recO c p.1 p.2.1 q.1 q.2.1), optN (recO c p.1 p.2.1 q.1 q.2.1), ⟨#[]⟩) := rfl
  rw [e]
  clear e
  have A0 := ((Box.new W (.int .i64 p.1) (.int .i64 p.2.1) (.string p.2.2) 24).alloc (.cells #[.int .i64 q.1, .int .i64 q.2.1, .string q.2.2] 24)).alloc (.cells #[.int .i64 0, .int .i64 0, .string ⟨#[]⟩] 24)
  have B0 := (Box.new (W.alloc (.cells #[.int .i64 p.1, .int .i64 p.2.1, .string p.2.2] 24)) (.int .i64 q.1) (.int .i64 q.2.1) (.string q.2.2) 24).alloc (.cells #[.int .i64 0, .int .i64 0, .string ⟨#[]⟩] 24)
  have R0 := Box.new ((W.alloc (.cells #[.int .i64 p.1, .int .i64 p.2.1, .string p.2.2] 24)).alloc (.cells #[.int .i64 q.1, .int .i64 q.2.1, .string q.2.2] 24)) (.int .i64 0) (.int .i64 0) (.string ⟨#[]⟩) 24
  have hA : Below W.heap.size W (((W.alloc (.cells #[.int .i64 p.1, .int .i64 p.2.1, .string p.2.2] 24)).alloc (.cells #[.int .i64 q.1, .int .i64 q.2.1, .string q.2.2] 24)).alloc (.cells #[.int .i64 0, .int .i64 0, .string ⟨#[]⟩] 24)) := below3 (Below.refl _ _)
  have c3 := (hA.cell (p := ⟨b, 0, none⟩) hb).trans hc
  simp only [World.size_alloc] at B0 R0
  clear A0 B0
  go_enter Tryz.func205, Tryz.ntmps205
  go_wp2_with fail
  refine (reckon_any _ _ _ _ _ _ _ _).mono ?_
  rintro e w1 ⟨rfl, hb1⟩
  have ⟨r0, r1, r2, r3, r4, r5, r6⟩ := R0.next hb1
  have hb1' := chain hA hb1
  have z1 := hb1.size
  simp at z1
  clear R0
  go_wp2_with fail
  exact bodyPost_ret (v := .agg #[.int .i64 (optK (recO c p.1 p.2.1 q.1 q.2.1)), .int .i64 (optN (recO c p.1 p.2.1 q.1 q.2.1)), .string ⟨#[]⟩]) (by simp [results, Tryz.results205, go_sem, r1, r2, r3]) rfl ⟨rfl, below_set3 hb1' (by omega)⟩

theorem denied_at (u : Value) (f : Vl → Vl → Vl) (w : World) (lo : Nat) (hlo : lo ≤ w.heap.size) (h : Fn2 lo u f w) :
    Calls Tryz.prog 179 #[u] w fun e w' => ∃ v, e = .returned v ∧ Fn2 lo v (fun a b => notP (f a b)) w' ∧ Below w.heap.size w w' := by
  obtain ⟨g, cb, rfl, eg, hd⟩ := h
  have hal : Below w.heap.size w (w.alloc (.cells #[.func (.func g) #[] cb] 169)) := (Below.refl _ _).alloc (Nat.le_refl _) _
  have hF : Fn2 lo (.func (.func 203) #[] #[.pointer (some ⟨w.heap.size, 0, none⟩)]) (fun a b => notP (f a b)) (w.alloc (.cells #[.func (.func g) #[] cb] 169)) :=
    ⟨203, _, rfl, enters_of Tryz.func203 (by kernel_rfl) rfl, fun p q W hp hq hW =>
      denied1_at g cb f w.heap.size p q W (Nat.lt_of_lt_of_le (by simp) hW.1) ((hW.cell (p := ⟨w.heap.size, 0, none⟩) hlo (by simp)).trans (by simp)) eg (fun W' hW' => hd p q W' hp hq (((Since.of hal).trans hW).trans (Since.of hW')))⟩
  clear hd
  go_enter Tryz.func179, Tryz.ntmps179
  go_wp2_with fail
  go_ret
  exact ⟨_, rfl, hF, hal⟩
theorem turned_at (u : Value) (f : Vl → Vl → Vl) (w : World) (lo : Nat) (hlo : lo ≤ w.heap.size) (h : Fn2 lo u f w) :
    Calls Tryz.prog 181 #[u] w fun e w' => ∃ v, e = .returned v ∧ Fn2 lo v (fun a b => f b a) w' ∧ Below w.heap.size w w' := by
  obtain ⟨g, cb, rfl, eg, hd⟩ := h
  have hal : Below w.heap.size w (w.alloc (.cells #[.func (.func g) #[] cb] 169)) := (Below.refl _ _).alloc (Nat.le_refl _) _
  have hF : Fn2 lo (.func (.func 204) #[] #[.pointer (some ⟨w.heap.size, 0, none⟩)]) (fun a b => f b a) (w.alloc (.cells #[.func (.func g) #[] cb] 169)) :=
    ⟨204, _, rfl, enters_of Tryz.func204 (by kernel_rfl) rfl, fun p q W hp hq hW =>
      turned1_at g cb f w.heap.size p q W (Nat.lt_of_lt_of_le (by simp) hW.1) ((hW.cell (p := ⟨w.heap.size, 0, none⟩) hlo (by simp)).trans (by simp)) eg (fun W' hW' => hd q p W' hq hp (((Since.of hal).trans hW).trans (Since.of hW')))⟩
  clear hd
  go_enter Tryz.func181, Tryz.ntmps181
  go_wp2_with fail
  go_ret
  exact ⟨_, rfl, hF, hal⟩
theorem reckoned_at (c : Int) (w : World) (lo : Nat) (hlo : lo ≤ w.heap.size) :
    Calls Tryz.prog 182 #[.int .i32 c] w fun e w' => ∃ v, e = .returned v ∧ Fn2 lo v (recP c) w' ∧ Below w.heap.size w w' := by
  have hal : Below w.heap.size w (w.alloc (.cells #[.int .i32 c] 21)) := (Below.refl _ _).alloc (Nat.le_refl _) _
  have hF : Fn2 lo (.func (.func 205) #[] #[.pointer (some ⟨w.heap.size, 0, none⟩)]) (recP c) (w.alloc (.cells #[.int .i32 c] 21)) :=
    ⟨205, _, rfl, enters_of Tryz.func205 (by kernel_rfl) rfl, fun p q W hp hq hW =>
      reckoned1_at c w.heap.size p q W (Nat.lt_of_lt_of_le (by simp) hW.1) ((hW.cell (p := ⟨w.heap.size, 0, none⟩) hlo (by simp)).trans (by simp))⟩
  go_enter Tryz.func182, Tryz.ntmps182
  go_wp2_with fail
  go_ret
  exact ⟨_, rfl, hF, hal⟩

def OfTwo (k : Int) : Prop := ∀ w : World, Calls Tryz.prog 145 #[.int .i64 k] w fun e w' => ∃ u, e = .returned u ∧ Fn2 w.heap.size u (twoP k) w' ∧ Below w.heap.size w w'
theorem ofTwo_4 : OfTwo 4 := by
  intro w
  go_enter Tryz.func145, Tryz.ntmps145
  go_wp2_with fail
  go_ret
  exact ⟨_, rfl, fn_and _ w, Below.refl _ _⟩
theorem ofTwo_5 : OfTwo 5 := by
  intro w
  go_enter Tryz.func145, Tryz.ntmps145
  go_wp2_with fail
  go_ret
  exact ⟨_, rfl, fn_or _ w, Below.refl _ _⟩
theorem ofTwo_6 : OfTwo 6 := by
  intro w
  go_enter Tryz.func145, Tryz.ntmps145
  go_wp2_with fail
  go_ret
  exact ⟨_, rfl, fn_eq _ w, Below.refl _ _⟩
theorem ofTwo_8 : OfTwo 8 := by
  intro w
  go_enter Tryz.func145, Tryz.ntmps145
  go_wp2_with fail
  go_ret
  exact ⟨_, rfl, fn_lt _ w, Below.refl _ _⟩
theorem ofTwo_15 : OfTwo 15 := by
  intro w
  go_enter Tryz.func145, Tryz.ntmps145
  go_wp2_with fail
  go_ret
  exact ⟨_, rfl, fn_join _ w, Below.refl _ _⟩
theorem ofTwo_18 : OfTwo 18 := by
  intro w
  go_enter Tryz.func145, Tryz.ntmps145
  go_wp2_with fail
  go_ret
  exact ⟨_, rfl, fn_coal _ w, Below.refl _ _⟩
theorem ofTwo_7 : OfTwo 7 := by
  intro w
  go_enter Tryz.func145, Tryz.ntmps145
  go_wp2_with fail
  refine (denied_at _ _ w _ (Nat.le_refl _) (fn_eq _ w)).mono ?_
  rintro e w1 ⟨v, rfl, hF, hb1⟩
  go_wp2_with fail
  go_ret
  exact ⟨_, rfl, hF, hb1⟩
theorem ofTwo_11 : OfTwo 11 := by
  intro w
  go_enter Tryz.func145, Tryz.ntmps145
  go_wp2_with fail
  refine (denied_at _ _ w _ (Nat.le_refl _) (fn_lt _ w)).mono ?_
  rintro e w1 ⟨v, rfl, hF, hb1⟩
  go_wp2_with fail
  go_ret
  exact ⟨_, rfl, hF, hb1⟩
theorem ofTwo_10 : OfTwo 10 := by
  intro w
  go_enter Tryz.func145, Tryz.ntmps145
  go_wp2_with fail
  refine (turned_at _ _ w _ (Nat.le_refl _) (fn_lt _ w)).mono ?_
  rintro e w1 ⟨v, rfl, hF, hb1⟩
  go_wp2_with fail
  go_ret
  exact ⟨_, rfl, hF, hb1⟩
theorem ofTwo_12 : OfTwo 12 := by
  intro w
  go_enter Tryz.func145, Tryz.ntmps145
  go_wp2_with fail
  refine (reckoned_at 43 w _ (Nat.le_refl _)).mono ?_
  rintro e w1 ⟨v, rfl, hF, hb1⟩
  go_wp2_with fail
  go_ret
  exact ⟨_, rfl, hF, hb1⟩
theorem ofTwo_13 : OfTwo 13 := by
  intro w
  go_enter Tryz.func145, Tryz.ntmps145
  go_wp2_with fail
  refine (reckoned_at 45 w _ (Nat.le_refl _)).mono ?_
  rintro e w1 ⟨v, rfl, hF, hb1⟩
  go_wp2_with fail
  go_ret
  exact ⟨_, rfl, hF, hb1⟩
theorem ofTwo_14 : OfTwo 14 := by
  intro w
  go_enter Tryz.func145, Tryz.ntmps145
  go_wp2_with fail
  refine (reckoned_at 42 w _ (Nat.le_refl _)).mono ?_
  rintro e w1 ⟨v, rfl, hF, hb1⟩
  go_wp2_with fail
  go_ret
  exact ⟨_, rfl, hF, hb1⟩
theorem ofTwo_9 : OfTwo 9 := by
  intro w
  go_enter Tryz.func145, Tryz.ntmps145
  go_wp2_with fail
  refine (turned_at _ _ w _ (Nat.le_refl _) (fn_lt _ w)).mono ?_
  rintro e w1 ⟨v, rfl, hF, hb1⟩
  go_wp2_with fail
  refine (denied_at _ _ w1 _ hb1.size hF).mono ?_
  rintro e w2 ⟨v2, rfl, hF2, hb2⟩
  go_wp2_with fail
  go_ret
  exact ⟨_, rfl, hF2, chain hb1 hb2⟩
theorem ofTwo_at (k : Int) (h4 : 4 ≤ k) (h18 : k ≤ 15 ∨ k = 18) : OfTwo k := by
  obtain rfl | rfl | rfl | rfl | rfl | rfl | rfl | rfl | rfl | rfl | rfl | rfl | rfl : k = 4 ∨ k = 5 ∨ k = 6 ∨ k = 7 ∨ k = 8 ∨ k = 9 ∨ k = 10 ∨ k = 11 ∨ k = 12 ∨ k = 13 ∨ k = 14 ∨ k = 15 ∨ k = 18 := by omega
  · exact ofTwo_4
  · exact ofTwo_5
  · exact ofTwo_6
  · exact ofTwo_7
  · exact ofTwo_8
  · exact ofTwo_9
  · exact ofTwo_10
  · exact ofTwo_11
  · exact ofTwo_12
  · exact ofTwo_13
  · exact ofTwo_14
  · exact ofTwo_15
  · exact ofTwo_18
end Go.Proofs.YtfojonhblblbjaaGreat
/- The statements of expressions as plain facts. No program in sight. -/
namespace Go.Proofs.YtfojonhblblbjaaGreat

/-! The whole answers. -/
def colsB (cols : List Int) : Bool := cols.all fun c => decide (1 ≤ c) && decide (c ≤ 4)
def typeTop (cols : List Int) (x : Ex) : Int × Int :=
  if 16 < cols.length then (0, 5) else if colsB cols = false then (0, 1) else if (typeX cols x 0 1).2.1 = 0 then ((typeX cols x 0 1).1, 0) else (0, (typeX cols x 0 1).2.1)
def evalX (cols : List Int) (x : Ex) (row : List Vl) : Vl × Int :=
  if (typeTop cols x).2 ≠ 0 then (vl0, (typeTop cols x).2) else if fitsL cols row ≠ 0 then (vl0, fitsL cols row) else (valX row x, 0)
/-- What Type says yes to. -/
structure GoodX (cols : List Int) (x : Ex) (t : Int) : Prop where
  few : cols.length ≤ 16
  fit : colsB cols = true
  ty : typP cols x = some t
  size : sizeX x ≤ 200
  deep : deepX x ≤ 20
theorem typeTop_ok (cols : List Int) (x : Ex) : (typeTop cols x).2 = 0 ↔ GoodX cols x (typeTop cols x).1 := by
  unfold typeTop
  by_cases h1 : 16 < cols.length
  · rw [if_pos h1]
    simp only [show ¬ (5 : Int) = 0 by decide, false_iff]
    exact fun h => absurd h.few (by omega)
  rw [if_neg h1]
  by_cases h2 : colsB cols = false
  · rw [if_pos h2]
    simp only [show ¬ (1 : Int) = 0 by decide, false_iff]
    exact fun h => absurd h.fit (by simp [h2])
  rw [if_neg h2]
  by_cases h3 : (typeX cols x 0 1).2.1 = 0
  · rw [if_pos h3]
    simp only [true_iff]
    obtain ⟨q1, q2, q3, q4⟩ := (typeX_ok cols x 0 1 (typeX cols x 0 1).1 (typeX cols x 0 1).2.2).1 (Prod.ext rfl (Prod.ext h3 rfl))
    exact ⟨by omega, by simpa using h2, q1, by omega, by omega⟩
  · rw [if_neg h3]
    simp only [h3, false_iff]
    intro h
    have := (typeX_ok cols x 0 1 0 (0 + sizeX x)).2 ⟨h.ty, rfl, by have := h.size; omega, by have := h.deep; omega⟩
    rw [this] at h3
    simp at h3
theorem GoodX.top {cols : List Int} {x : Ex} {t : Int} (h : GoodX cols x t) : typeTop cols x = (t, 0) := by
  have := (typeX_ok cols x 0 1 t (0 + sizeX x)).2 ⟨h.ty, rfl, by have := h.size; omega, by have := h.deep; omega⟩
  unfold typeTop
  rw [if_neg (by have := h.few; omega), if_neg (by simp [h.fit]), this]
  simp
theorem GoodX.eval {cols : List Int} {x : Ex} {t : Int} (h : GoodX cols x t) (row : List Vl) : evalX cols x row = if fitsL cols row ≠ 0 then (vl0, fitsL cols row) else (valX row x, 0) := by
  unfold evalX
  rw [h.top]
  simp
theorem evalX_ok {cols : List Int} {x : Ex} {row : List Vl} (h : (evalX cols x row).2 = 0) : GoodX cols x (typeTop cols x).1 ∧ FitP cols row ∧ evalX cols x row = (valX row x, 0) := by
  unfold evalX at h ⊢
  by_cases h1 : (typeTop cols x).2 = 0
  · rw [if_neg (by simp [h1])] at h ⊢
    by_cases h2 : fitsL cols row = 0
    · rw [if_neg (by simp [h2])]
      exact ⟨(typeTop_ok cols x).1 h1, (fitsL_ok cols row).1 h2, rfl⟩
    · rw [if_pos h2] at h
      exact absurd h h2
  · rw [if_pos h1] at h
    exact absurd h h1
theorem colsB_at {cols : List Int} (h : colsB cols = true) : ∀ i, i < cols.length → inT (cols.getD i 0) := by
  intro i hi
  unfold colsB at h
  rw [List.all_eq_true] at h
  have := h cols[i] (List.getElem_mem _)
  simp only [Bool.and_eq_true, decide_eq_true_eq] at this
  simpa [List.getD, hi, inT] using this

/-! WHAT IS WELL TYPED GOES NOT WRONG. -/
theorem typed_fact (cols : List Int) (x : Ex) (row : List Vl) :
    ((typeTop cols x).2 ≠ 0 → evalX cols x row = (vl0, (typeTop cols x).2)) ∧
    ((typeTop cols x).2 = 0 → (evalX cols x row).2 ≠ 0 → (evalX cols x row).1 = vl0) ∧
    ((evalX cols x row).2 = 0 → Of (typeTop cols x).1 (evalX cols x row).1) := by
  refine ⟨fun h => ?_, fun h hw => ?_, fun h => ?_⟩
  · unfold evalX; rw [if_pos h]
  · unfold evalX at hw ⊢
    rw [if_neg (by simp [h])] at hw ⊢
    by_cases h2 : fitsL cols row = 0
    · rw [if_neg (by simp [h2])] at hw
      simp at hw
    · rw [if_pos h2]
  · obtain ⟨g, f, e⟩ := evalX_ok h
    rw [e]
    exact valX_of f x _ g.ty

/-! Nodes that are put round others. -/
def mk1 (k : Int) (x : Ex) : Ex := .mk k vl0 0 [x]
def mk2 (k : Int) (x y : Ex) : Ex := .mk k vl0 0 [x, y]
def mk3 (k : Int) (x y z : Ex) : Ex := .mk k vl0 0 [x, y, z]
theorem size_mk1 (k : Int) (x : Ex) : sizeX (mk1 k x) = 1 + sizeX x := by simp [mk1, sizeX, sizesX]
theorem size_mk2 (k : Int) (x y : Ex) : sizeX (mk2 k x y) = 1 + sizeX x + sizeX y := by simp [mk2, sizeX, sizesX]; omega
theorem size_mk3 (k : Int) (x y z : Ex) : sizeX (mk3 k x y z) = 1 + sizeX x + sizeX y + sizeX z := by simp [mk3, sizeX, sizesX]; omega
theorem deep_mk1 (k : Int) (x : Ex) : deepX (mk1 k x) = 1 + deepX x := by simp [mk1, deepX, deepsX]
theorem deep_mk2 (k : Int) (x y : Ex) : deepX (mk2 k x y) = 1 + max (deepX x) (deepX y) := by simp [mk2, deepX, deepsX]
theorem deep_mk3 (k : Int) (x y z : Ex) : deepX (mk3 k x y z) = 1 + max (deepX x) (max (deepX y) (deepX z)) := by simp [mk3, deepX, deepsX]
theorem nodeT_kids {k : Int} (h : 3 ≤ k) (cols : List Int) (v : Vl) (c : Int) (ts : List Int) : nodeT cols k v c ts = resT (kidsT k ts) := by
  unfold nodeT
  rw [if_neg (by omega), if_neg (by omega)]
theorem typP_mk1 {cols : List Int} {k : Int} {x : Ex} {t : Int} (hk : k = 3 ∨ k = 16) : typP cols (mk1 k x) = some t ↔ ∃ tx, typP cols x = some tx ∧ kidsT k [tx] = some t := by
  have e : kidsN k = 1 := by rcases hk with rfl | rfl <;> rfl
  unfold mk1
  rw [typP, if_neg (by simp [e]; omega)]
  simp only [typsP, Option.map_some, Option.bind_eq_some_iff, Option.some.injEq]
  constructor
  · rintro ⟨ts, ⟨tx, h, rfl⟩, h2⟩
    refine ⟨tx, h, ?_⟩
    rw [nodeT_kids (by omega)] at h2
    cases hq : kidsT k [tx] with
    | none => rw [hq] at h2; simp [resT] at h2
    | some u => rw [hq] at h2; simpa [resT] using h2
  · rintro ⟨tx, h, h2⟩
    refine ⟨_, ⟨tx, h, rfl⟩, ?_⟩
    rw [nodeT_kids (by omega), h2]
    simp [resT]
theorem typP_mk2 {cols : List Int} {k : Int} {x y : Ex} {t : Int} (hk : 4 ≤ k) (hk' : k ≤ 15 ∨ k = 18) : typP cols (mk2 k x y) = some t ↔ ∃ tx ty, typP cols x = some tx ∧ typP cols y = some ty ∧ kidsT k [tx, ty] = some t := by
  have e : kidsN k = 2 := by unfold kidsN; rw [if_neg (by omega), if_neg (by omega), if_neg (by omega)]
  unfold mk2
  rw [typP, if_neg (by simp [e]; omega)]
  simp only [typsP, Option.map_some, Option.bind_eq_some_iff, Option.map_eq_some_iff]
  constructor
  · rintro ⟨ts, ⟨tx, h, us, ⟨ty, h', e'⟩, rfl⟩, h2⟩
    simp only [Option.some.injEq] at e'
    subst e'
    refine ⟨tx, ty, h, h', ?_⟩
    rw [nodeT_kids (by omega)] at h2
    cases hq : kidsT k [tx, ty] with
    | none => rw [hq] at h2; simp [resT] at h2
    | some u => rw [hq] at h2; simpa [resT] using h2
  · rintro ⟨tx, ty, h, h', h2⟩
    refine ⟨_, ⟨tx, h, _, ⟨ty, h', rfl⟩, rfl⟩, ?_⟩
    rw [nodeT_kids (by omega), h2]
    simp [resT]
theorem typP_mk3 {cols : List Int} {x y z : Ex} {t : Int} : typP cols (mk3 17 x y z) = some t → ∃ tx ty tz, typP cols x = some tx ∧ typP cols y = some ty ∧ typP cols z = some tz := by
  unfold mk3
  intro h
  obtain ⟨_, _, _, ts, h, _⟩ := typP_node h
  simp only [typsP, Option.map_some, Option.bind_eq_some_iff, Option.map_eq_some_iff] at h
  obtain ⟨tx, h, us, ⟨ty, h', us', ⟨tz, h'', _⟩, _⟩, _⟩ := h
  exact ⟨tx, ty, tz, h, h', h''⟩
theorem kidsT_cmp {k a b : Int} (h : 6 ≤ k) (h' : k ≤ 11) : kidsT k [a, b] = if (tog a b).isSome then some 2 else none := by
  unfold kidsT
  rw [if_neg (by omega), if_pos ⟨h, h'⟩]
  rfl
theorem val_mk1 (row : List Vl) (x : Ex) : valX row (mk1 3 x) = notP (valX row x) := by
  rw [mk1, valX, valsX, valsX]; rfl
theorem val_mk1n (row : List Vl) (x : Ex) : valX row (mk1 16 x) = tri (some ((valX row x).1 == 1)) := by
  rw [mk1, valX, valsX, valsX]; rfl
theorem val_mk2 (row : List Vl) {k : Int} (hk : 4 ≤ k) (hk' : k ≤ 15 ∨ k = 18) (x y : Ex) : valX row (mk2 k x y) = twoP k (valX row x) (valX row y) := by
  rw [mk2, valX, valsX, valsX, valsX]
  unfold nodeV
  rw [if_neg (by omega), if_neg (by omega), if_neg (by omega), if_neg (by omega), if_neg (by omega)]
  rfl
theorem val_mk3 (row : List Vl) (x y z : Ex) : valX row (mk3 17 x y z) = if clsP (valX row x) == some true then valX row y else valX row z := by
  rw [mk3, valX, valsX, valsX, valsX, valsX]; rfl

/-! COMPARISONS ARE EACH OTHER TURNED. -/
def askP (cols : List Int) (row : List Vl) (z : Ex) : Vl := if (evalX cols z row).2 ≠ 0 then (-1, 0, ⟨#[]⟩) else (evalX cols z row).1
theorem ask_good {cols : List Int} {z : Ex} {t : Int} (h : GoodX cols z t) (row : List Vl) : askP cols row z = if fitsL cols row ≠ 0 then (-1, 0, ⟨#[]⟩) else valX row z := by
  unfold askP
  rw [h.eval]
  by_cases h2 : fitsL cols row = 0
  · rw [h2]; rfl
  · rw [if_pos h2, if_pos h2, if_pos h2]
theorem not_not (o : Option Bool) : notP (notP (tri o)) = tri o := by rcases o with _ | _ | _ <;> rfl
theorem le_or (a b : Vl) : notP (ltP b a) = orP (ltP a b) (eqP a b) := by
  unfold ltP eqP ltT eqT
  have ht : tellB b.1 a.1 = tellB a.1 b.1 := by
    unfold tellB
    by_cases h : a.1 = b.1
    · simp [h]
    · have e1 : (a.1 == b.1) = false := by simpa using h
      have e2 : (b.1 == a.1) = false := by simpa using fun e : b.1 = a.1 => h e.symm
      rw [e1, e2]
      rfl
  rw [ht]
  cases h : tellB a.1 b.1
  · rfl
  · rw [if_pos rfl, if_pos rfl, if_pos rfl]
    rw [cmpV_neg b.1 b.2.1 a.1 a.2.1 b.2.2 a.2.2]
    generalize cmpV a.1 a.2.1 a.2.2 b.1 b.2.1 b.2.2 = m
    by_cases h1 : m < 0
    · have h2 : decide (-m < 0) = false := decide_eq_false (by omega)
      have h3 : decide (m < 0) = true := decide_eq_true h1
      rw [h2, h3]
      cases (m == 0) <;> rfl
    · by_cases h3 : m = 0
      · subst h3; rfl
      · have h2 : decide (-m < 0) = true := decide_eq_true (by omega)
        have h4 : (m == 0) = false := by simpa using h3
        have h5 : decide (m < 0) = false := decide_eq_false h1
        rw [h2, h4, h5]; rfl
theorem turned_fact (cols : List Int) (x y : Ex) (row : List Vl) (h : (typeTop cols (mk2 6 (mk2 6 x y) (mk2 6 x y))).2 = 0) :
    askP cols row (mk1 3 (mk2 8 x y)) = askP cols row (mk2 11 x y) ∧ askP cols row (mk1 3 (mk2 9 x y)) = askP cols row (mk2 10 x y) ∧
    askP cols row (mk1 3 (mk2 6 x y)) = askP cols row (mk2 7 x y) ∧ askP cols row (mk2 8 x y) = askP cols row (mk2 10 y x) ∧
    askP cols row (mk2 9 x y) = askP cols row (mk2 11 y x) ∧ askP cols row (mk2 9 x y) = askP cols row (mk2 5 (mk2 8 x y) (mk2 6 x y)) := by
  have g := (typeTop_ok _ _).1 h
  obtain ⟨g1, g2, g3, g4, g5⟩ := g
  rw [size_mk2, size_mk2] at g4
  rw [deep_mk2, deep_mk2] at g5
  obtain ⟨ta, tb, ha, _, _⟩ := (typP_mk2 (by omega) (by omega)).1 g3
  obtain ⟨tx, ty, hx, hy, hk⟩ := (typP_mk2 (by omega) (by omega)).1 ha
  have hs : (tog tx ty).isSome = true := by
    rw [kidsT_cmp (by omega) (by omega)] at hk
    by_cases h : (tog tx ty).isSome = true
    · exact h
    · rw [if_neg h] at hk; simp at hk
  have hs' : (tog ty tx).isSome = true := by
    unfold tog at hs ⊢
    by_cases e1 : tx = ty
    · simp [e1]
    · by_cases e2 : ty = 1
      · by_cases e3 : tx = 1
        · simp [e2, e3]
        · have e4 : ¬ 1 = tx := fun e => e3 e.symm
          simp [e2, e3, e4]
      · by_cases e3 : tx = 1
        · simp [e3]
        · simp [e1, e2, e3] at hs
  have c2 : ∀ k, 6 ≤ k → k ≤ 11 → typP cols (mk2 k x y) = some 2 := fun k q q' =>
    (typP_mk2 (by omega) (by omega)).2 ⟨tx, ty, hx, hy, by rw [kidsT_cmp q q', if_pos hs]⟩
  have c2' : ∀ k, 6 ≤ k → k ≤ 11 → typP cols (mk2 k y x) = some 2 := fun k q q' =>
    (typP_mk2 (by omega) (by omega)).2 ⟨ty, tx, hy, hx, by rw [kidsT_cmp q q', if_pos hs']⟩
  have G2 : ∀ k, 6 ≤ k → k ≤ 11 → GoodX cols (mk2 k x y) 2 := fun k q q' => ⟨g1, g2, c2 k q q', by rw [size_mk2]; omega, by rw [deep_mk2]; omega⟩
  have G2' : ∀ k, 6 ≤ k → k ≤ 11 → GoodX cols (mk2 k y x) 2 := fun k q q' => ⟨g1, g2, c2' k q q', by rw [size_mk2]; omega, by rw [deep_mk2]; omega⟩
  have G1 : ∀ k, 6 ≤ k → k ≤ 11 → GoodX cols (mk1 3 (mk2 k x y)) 2 := fun k q q' => ⟨g1, g2, (typP_mk1 (.inl rfl)).2 ⟨2, c2 k q q', rfl⟩, by rw [size_mk1, size_mk2]; omega, by rw [deep_mk1, deep_mk2]; omega⟩
  have G3 : GoodX cols (mk2 5 (mk2 8 x y) (mk2 6 x y)) 2 := ⟨g1, g2, (typP_mk2 (by omega) (by omega)).2 ⟨2, 2, c2 8 (by omega) (by omega), c2 6 (by omega) (by omega), rfl⟩, by rw [size_mk2, size_mk2, size_mk2]; omega, by rw [deep_mk2, deep_mk2, deep_mk2]; omega⟩
  rw [ask_good (G1 8 (by omega) (by omega)), ask_good (G1 9 (by omega) (by omega)), ask_good (G1 6 (by omega) (by omega)), ask_good (G2 11 (by omega) (by omega)), ask_good (G2 10 (by omega) (by omega)),
    ask_good (G2 7 (by omega) (by omega)), ask_good (G2 8 (by omega) (by omega)), ask_good (G2' 10 (by omega) (by omega)), ask_good (G2 9 (by omega) (by omega)), ask_good (G2' 11 (by omega) (by omega)), ask_good G3]
  by_cases hf : fitsL cols row = 0
  · simp only [hf, ne_eq, not_true, if_false, val_mk1]
    rw [val_mk2 row (by omega) (by omega), val_mk2 row (by omega) (by omega), val_mk2 row (by omega) (by omega), val_mk2 row (by omega) (by omega), val_mk2 row (by omega) (by omega), val_mk2 row (by omega) (by omega), val_mk2 row (by omega) (by omega), val_mk2 row (by omega) (by omega), val_mk2 row (by omega) (by omega)]
    refine ⟨rfl, not_not _, rfl, rfl, rfl, le_or _ _⟩
  · simp [hf]

/-! A COLUMN THAT IS NOT SPOKEN OF CHANGES NOTHING. -/
mutual
def usesX (j : Int) : Ex → Bool | .mk k _ c ks => (k == 2 && c == j) || usesL j ks
def usesL (j : Int) : List Ex → Bool | [] => false | x :: r => usesX j x || usesL j r
end
theorem usesL_any (j : Int) : ∀ ks, usesL j ks = ks.any (usesX j)
  | [] => rfl
  | x :: r => by rw [usesL, usesL_any j r]; rfl
theorem valX_uses {cols : List Int} {row : List Vl} {j : Int} {v : Vl} (hj : 0 ≤ j) : ∀ x t, typP cols x = some t → usesX j x = false → valX (row.set j.toNat v) x = valX row x := by
  refine Ex.ind fun k u c ks ih t h hu => ?_
  obtain ⟨h1, h18, hl, ts, hts, hn⟩ := typP_node h
  rw [usesX, usesL_any, Bool.or_eq_false_iff] at hu
  have e : valsX (row.set j.toNat v) ks = valsX row ks := by
    rw [valsX_map, valsX_map]
    refine List.map_congr_left fun x hx => ?_
    obtain ⟨i, hi, rfl⟩ := List.mem_iff_getElem.mp hx
    refine ih _ hx _ (typsP_at hts i hi) ?_
    have := List.any_eq_false.mp hu.2 _ hx
    simpa using this
  rw [valX, valX, e]
  by_cases h2 : k = 2
  · subst h2
    unfold nodeT at hn
    rw [if_neg (by decide), if_pos rfl] at hn
    obtain ⟨q0, q1, _⟩ := colT_ok hn
    have hc : ¬ j.toNat = c.toNat := by
      have := hu.1
      simp at this
      omega
    unfold nodeV
    simp [List.getD, List.getElem?_set_ne hc]
  · unfold nodeV
    simp only [h2, if_false]
theorem columns_fact (cols : List Int) (x : Ex) (row : List Vl) (k : Int) (v : Vl) (h : (evalX cols x row).2 = 0) (hk : 0 ≤ k) (hu : usesX k x = false) (hf : fitsL cols (row.set k.toNat v) = 0) :
    evalX cols x (row.set k.toNat v) = evalX cols x row := by
  obtain ⟨g, f, e⟩ := evalX_ok h
  rw [e, g.eval, hf, valX_uses hk x _ g.ty hu]
  simp

/-! WHO KNOWS MORE IS NOT CONTRADICTED. -/
mutual
def plainX : Ex → Bool | .mk k _ _ ks => decide (k < 16) && plainL ks
def plainL : List Ex → Bool | [] => true | x :: r => plainX x && plainL r
end
theorem plainL_all : ∀ ks, plainL ks = ks.all plainX
  | [] => rfl
  | x :: r => by rw [plainL, plainL_all r]; rfl
/-- Not known, or the same. -/
def Le (a b : Vl) : Prop := a.1 = 1 ∨ a = b
theorem Le.refl (a : Vl) : Le a a := .inr rfl
theorem le_tri {o p : Option Bool} (h : o = none ∨ o = p) : Le (tri o) (tri p) := by
  rcases h with rfl | rfl
  · left; rfl
  · right; rfl
theorem cls_le {a b : Vl} (h : Le a b) : clsP a = none ∨ clsP a = clsP b := by
  rcases h with h | rfl
  · left; unfold clsP cls; rw [if_neg (by omega)]
  · right; rfl
theorem and3_le {a b c d : Option Bool} (h : a = none ∨ a = c) (h' : b = none ∨ b = d) : and3 a b = none ∨ and3 a b = and3 c d := by
  rcases h with rfl | rfl <;> rcases h' with rfl | rfl
  · left; rfl
  · rcases b with _ | _ | _ <;> rcases c with _ | _ | _ <;> simp [and3]
  · rcases a with _ | _ | _ <;> rcases d with _ | _ | _ <;> simp [and3]
  · right; rfl
theorem or3_le {a b c d : Option Bool} (h : a = none ∨ a = c) (h' : b = none ∨ b = d) : or3 a b = none ∨ or3 a b = or3 c d := by
  rcases h with rfl | rfl <;> rcases h' with rfl | rfl
  · left; rfl
  · rcases b with _ | _ | _ <;> rcases c with _ | _ | _ <;> simp [or3]
  · rcases a with _ | _ | _ <;> rcases d with _ | _ | _ <;> simp [or3]
  · right; rfl
theorem tell_le {a b c d : Vl} (h : Le a c) (h' : Le b d) : tellB a.1 b.1 = false ∨ (a = c ∧ b = d) := by
  unfold tellB
  rcases h with h | rfl
  · left; simp [h]
  · rcases h' with h' | rfl
    · left
      by_cases q : a.1 = 1 <;> simp [h', q]
    · right; exact ⟨rfl, rfl⟩
theorem lt_le {a b c d : Vl} (h : Le a c) (h' : Le b d) : ltT a.1 a.2.1 a.2.2 b.1 b.2.1 b.2.2 = none ∨ ltT a.1 a.2.1 a.2.2 b.1 b.2.1 b.2.2 = ltT c.1 c.2.1 c.2.2 d.1 d.2.1 d.2.2 := by
  rcases tell_le h h' with q | ⟨rfl, rfl⟩
  · left; simp [ltT, q]
  · right; rfl
theorem eq_le {a b c d : Vl} (h : Le a c) (h' : Le b d) : eqT a.1 a.2.1 a.2.2 b.1 b.2.1 b.2.2 = none ∨ eqT a.1 a.2.1 a.2.2 b.1 b.2.1 b.2.2 = eqT c.1 c.2.1 c.2.2 d.1 d.2.1 d.2.2 := by
  rcases tell_le h h' with q | ⟨rfl, rfl⟩
  · left; simp [eqT, q]
  · right; rfl
theorem not_le {a c : Vl} (h : Le a c) : Le (notP a) (notP c) := by
  refine le_tri ?_
  rcases cls_le h with q | q <;> rw [q]
  · left; rfl
  · right; rfl
theorem rec_le (s : Int) {a b c d : Vl} (h : Le a c) (h' : Le b d) : Le (recP s a b) (recP s c d) := by
  rcases h with h | rfl
  · left; simp [recP, recO, numB, h, optK]
  · rcases h' with h' | rfl
    · left; simp [recP, recO, numB, h', optK]
    · exact .inr rfl
theorem join_le {a b c d : Vl} (h : Le a c) (h' : Le b d) : Le (joinP a b) (joinP c d) := by
  rcases h with h | rfl
  · left; simp [joinP, joinK, joinB, h]
  · rcases h' with h' | rfl
    · left; simp [joinP, joinK, joinB, h']
    · exact .inr rfl
theorem two_le {k : Int} (h4 : 4 ≤ k) (h15 : k ≤ 15) {a b c d : Vl} (h : Le a c) (h' : Le b d) : Le (twoP k a b) (twoP k c d) := by
  obtain rfl | rfl | rfl | rfl | rfl | rfl | rfl | rfl | rfl | rfl | rfl | rfl : k = 4 ∨ k = 5 ∨ k = 6 ∨ k = 7 ∨ k = 8 ∨ k = 9 ∨ k = 10 ∨ k = 11 ∨ k = 12 ∨ k = 13 ∨ k = 14 ∨ k = 15 := by omega
  · exact le_tri (and3_le (cls_le h) (cls_le h'))
  · exact le_tri (or3_le (cls_le h) (cls_le h'))
  · exact le_tri (eq_le h h')
  · exact not_le (le_tri (eq_le h h'))
  · exact le_tri (lt_le h h')
  · exact not_le (le_tri (lt_le h' h))
  · exact le_tri (lt_le h' h)
  · exact not_le (le_tri (lt_le h h'))
  · exact rec_le _ h h'
  · exact rec_le _ h h'
  · exact rec_le _ h h'
  · exact join_le h h'
theorem valX_know {cols : List Int} {row : List Vl} {j : Nat} {v : Vl} (hj : (row.getD j vl0).1 = 1) : ∀ x t, typP cols x = some t → plainX x = true → Le (valX row x) (valX (row.set j v) x) := by
  refine Ex.ind fun k u c ks ih t h hp => ?_
  obtain ⟨h1, h18, hl, ts, hts, hn⟩ := typP_node h
  rw [plainX, plainL_all, Bool.and_eq_true, decide_eq_true_eq, List.all_eq_true] at hp
  have e : ∀ i, i < ks.length → Le ((valsX row ks).getD i vl0) ((valsX (row.set j v) ks).getD i vl0) := by
    intro i hi
    rw [valsX_map, valsX_map]
    have := ih ks[i] (List.getElem_mem _) _ (typsP_at hts i hi) (hp.2 _ (List.getElem_mem _))
    simpa [List.getD, hi] using this
  rw [valX, valX]
  unfold nodeV
  by_cases k1 : k = 1
  · simp only [k1, if_true]; exact Le.refl _
  by_cases k2 : k = 2
  · subst k2
    simp only [show ¬ (2 : Int) = 1 by decide, if_false, if_true]
    by_cases q : j = c.toNat
    · left
      rw [← q]
      exact hj
    · right
      simp [List.getD, List.getElem?_set_ne q]
  by_cases k3 : k = 3
  · subst k3
    simp only [show ¬ (3 : Int) = 1 by decide, show ¬ (3 : Int) = 2 by decide, if_false, if_true]
    exact not_le (e 0 (by rw [hl]; decide))
  rw [if_neg k1, if_neg k2, if_neg k3, if_neg (by omega), if_neg (by omega), if_neg k1, if_neg k2, if_neg k3, if_neg (by omega), if_neg (by omega)]
  have l2 : ks.length = 2 := by rw [hl]; unfold kidsN; rw [if_neg (by omega), if_neg (by omega), if_neg (by omega)]
  exact two_le (by omega) (by omega) (e 0 (by omega)) (e 1 (by omega))
theorem know_fact (cols : List Int) (x : Ex) (row : List Vl) (k : Int) (v : Vl) (h : (evalX cols x row).2 = 0) (hn : (row.getD k.toNat vl0).1 = 1) (hp : plainX x = true) (hf : fitsL cols (row.set k.toNat v) = 0) :
    (evalX cols x (row.set k.toNat v)).2 = 0 ∧ Le (evalX cols x row).1 (evalX cols x (row.set k.toNat v)).1 := by
  obtain ⟨g, f, e⟩ := evalX_ok h
  rw [e, g.eval, hf]
  simp only [ne_eq, not_true, if_false, true_and]
  exact valX_know hn x _ g.ty hp

/-! WHO CHOOSES TAKES ONE. -/
theorem choose_fact (cols : List Int) (c x y : Ex) (row : List Vl) (h1 : (evalX cols (mk3 17 c x y) row).2 = 0) (h2 : (evalX cols (mk2 18 x y) row).2 = 0) (h3 : (evalX cols (mk3 17 (mk1 16 x) y x) row).2 = 0) :
    (evalX cols c row).2 = 0 ∧ (evalX cols x row).2 = 0 ∧ (evalX cols y row).2 = 0 ∧ wrongP (evalX cols c row).1 = 0 ∧
    (evalX cols (mk3 17 c x y) row).1 = (if clsP (evalX cols c row).1 == some true then (evalX cols x row).1 else (evalX cols y row).1) ∧
    (evalX cols (mk2 18 x y) row).1 = (if (evalX cols x row).1.1 = 1 then (evalX cols y row).1 else (evalX cols x row).1) ∧
    (evalX cols (mk3 17 (mk1 16 x) y x) row).1 = (if (evalX cols x row).1.1 = 1 then (evalX cols y row).1 else (evalX cols x row).1) := by
  obtain ⟨g, f, e1⟩ := evalX_ok h1
  obtain ⟨_, _, e2⟩ := evalX_ok h2
  obtain ⟨_, _, e3⟩ := evalX_ok h3
  obtain ⟨g1, g2, g3, g4, g5⟩ := g
  obtain ⟨tc, tx, ty, hc, hx, hy⟩ := typP_mk3 g3
  rw [size_mk3] at g4
  rw [deep_mk3] at g5
  have Gc : GoodX cols c tc := ⟨g1, g2, hc, by omega, by omega⟩
  have Gx : GoodX cols x tx := ⟨g1, g2, hx, by omega, by omega⟩
  have Gy : GoodX cols y ty := ⟨g1, g2, hy, by omega, by omega⟩
  have hf : fitsL cols row = 0 := (fitsL_ok _ _).2 f
  rw [e1, e2, e3, Gc.eval, Gx.eval, Gy.eval, hf]
  simp only [ne_eq, not_true, if_false, true_and]
  refine ⟨(valX_of f c _ hc).1, val_mk3 _ _ _ _, ?_, ?_⟩
  · rw [val_mk2 row (by omega) (by omega)]; rfl
  · rw [val_mk3, val_mk1n]
    by_cases q : (valX row x).1 = 1
    · rw [if_pos q]
      have : (clsP (tri (some ((valX row x).1 == 1))) == some true) = true := by rw [q]; rfl
      rw [if_pos this]
    · rw [if_neg q]
      have e : ((valX row x).1 == 1) = false := by simpa using q
      rw [e]; rfl
end Go.Proofs.YtfojonhblblbjaaGreat
