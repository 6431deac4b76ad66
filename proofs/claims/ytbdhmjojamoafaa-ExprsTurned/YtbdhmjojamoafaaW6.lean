/- The walks of vals.Int, vals.product, vals.Reckon: what each answers. -/
import Derived.Test.YtbdhmjojamoafaaW3
namespace Go.Proofs.Ytbdhmjojamoafaa
open Go.RowKit

def inB (n : Int) : Bool := decide (-1000000000000000 ≤ n) && decide (n ≤ 1000000000000000)
theorem inB_t {n : Int} (h : inB n = true) : -1000000000000000 ≤ n ∧ n ≤ 1000000000000000 := by simpa [inB] using h
theorem inB_f {n : Int} (h : inB n = false) : n < -1000000000000000 ∨ 1000000000000000 < n := by
  unfold inB at h
  by_cases a : -1000000000000000 ≤ n
  · by_cases b : n ≤ 1000000000000000
    · simp [a, b] at h
    · right; omega
  · left; omega
theorem inB_mk {n : Int} (h0 : -1000000000000000 ≤ n) (h1 : n ≤ 1000000000000000) : inB n = true := by simp [inB, h0, h1]
theorem inB_no {n : Int} (h : n < -1000000000000000 ∨ 1000000000000000 < n) : inB n = false := by
  cases e : inB n
  · rfl
  · have := inB_t e; omega
def intK (n : Int) : Int := if inB n then 3 else 1
def intN (n : Int) : Int := if inB n then n else 0
def numB (k n : Int) : Bool := k == 3 && inB n
def recT (c n n' : Int) : Option Int := if c = 43 then some (n + n') else if c = 45 then some (n - n') else if c = 42 then some (n * n') else none
def optK : Option Int → Int | some x => intK x | none => 1
def optN : Option Int → Int | some x => intN x | none => 0
def recO (c k n k' n' : Int) : Option Int := if numB k n && numB k' n' then recT c n n' else none

set_option maxHeartbeats 400000 in
theorem inRange_any (n : Int) (w : World) :
    Calls Try.prog 37 #[.int .i64 n] w fun e w' => e = .returned (.bool (inB n)) ∧ w' = w := by
  by_cases h0 : -1000000000000000 ≤ n
  · go_enter Try.func37, Try.ntmps37
    go_wp2
    go_ret
    exact ⟨ret_bool (by simp [inB, h0]), rfl⟩
  · have hd : decide (-1000000000000000 ≤ n) = false := by simpa using h0
    have e : inB n = false := by simp only [inB, hd, Bool.false_and]
    go_enter Try.func37, Try.ntmps37
    go_wp2
    go_ret
    exact ⟨rfl, rfl⟩

set_option maxHeartbeats 400000 in
theorem int_in (n : Int) (w : World) (h : inB n = true) :
    Calls Try.prog 88 #[.int .i64 n] w fun e w' => e = .returned (.agg #[.int .i64 3, .int .i64 n, .string ⟨#[]⟩]) ∧ Below w.heap.size w w' := by
  go_enter Try.func88, Try.ntmps88
  go_wp2_with fail
  refine (inRange_any _ _).mono ?_
  rintro e w1 ⟨rfl, rfl⟩
  rw [h]
  go_wp2_with fail
  exact bodyPost_ret (v := .agg #[.int .i64 3, .int .i64 n, .string ⟨#[]⟩]) (by simp [results, Try.results88, go_sem]) rfl ⟨rfl, (Below.refl _ _).alloc (Nat.le_refl _) _⟩

set_option maxHeartbeats 400000 in
theorem int_out (n : Int) (w : World) (h : inB n = false) :
    Calls Try.prog 88 #[.int .i64 n] w fun e w' => e = .returned (.agg #[.int .i64 1, .int .i64 0, .string ⟨#[]⟩]) ∧ Below w.heap.size w w' := by
  go_enter Try.func88, Try.ntmps88
  go_wp2_with fail
  refine (inRange_any _ _).mono ?_
  rintro e w1 ⟨rfl, rfl⟩
  rw [h]
  have R0 := Box.new w (.int .i64 0) (.int .i64 0) (.string ⟨#[]⟩) 24
  go_wp2_with fail
  refine (null_any _).mono ?_
  rintro e w1 ⟨rfl, hb1⟩
  have R1 := R0.next hb1
  have ⟨r0, r1, r2, r3, r4, r5, r6⟩ := R1
  go_wp2_with fail
  exact bodyPost_ret (v := .agg #[.int .i64 1, .int .i64 0, .string ⟨#[]⟩]) (by simp [results, Try.results88, go_sem, r1, r2, r3]) rfl ⟨rfl, below_set3 (below1 hb1) (Nat.le_refl _)⟩

theorem int_any (n : Int) (w : World) :
    Calls Try.prog 88 #[.int .i64 n] w fun e w' => e = .returned (.agg #[.int .i64 (intK n), .int .i64 (intN n), .string ⟨#[]⟩]) ∧ Below w.heap.size w w' := by
  cases h : inB n
  · have e1 : intK n = 1 := by simp [intK, h]
    have e2 : intN n = 0 := by simp [intN, h]
    rw [e1, e2]; exact int_out n w h
  · have e1 : intK n = 3 := by simp [intK, h]
    have e2 : intN n = n := by simp [intN, h]
    rw [e1, e2]; exact int_in n w h

set_option maxHeartbeats 400000 in
theorem size_any (n : Int) (w : World) (h0 : -1000000000000000 ≤ n) (h1 : n ≤ 1000000000000000) :
    Calls Try.prog 93 #[.int .i64 n] w fun e w' => e = .returned (.int .i64 (n.natAbs : Int)) ∧ w' = w := by
  by_cases h : n < 0
  · go_enter Try.func93, Try.ntmps93
    go_wp2
    go_ret
    exact ⟨ret_int (by omega), rfl⟩
  · go_enter Try.func93, Try.ntmps93
    go_wp2
    go_ret
    exact ⟨ret_int (by omega), rfl⟩

set_option maxHeartbeats 400000 in
theorem isNumber_any (k n : Int) (s : ByteArray) (w : World) :
    Calls Try.prog 87 #[.agg #[.int .i64 k, .int .i64 n, .string s]] w fun e w' => e = .returned (.bool (numB k n)) ∧ Below w.heap.size w w' := by
  by_cases hk : k = 3
  · subst hk
    have e0 : (wrongF 3 n s == 0) = numB 3 n := by
      cases h : inB n
      · have := inB_f h
        have e : wrongF 3 n s = 3 := by
          rcases this with t | t
          · exact wrong_k3l n s t
          · exact wrong_k3g n s t
        simp [numB, h, e]
      · have := inB_t h
        have e : wrongF 3 n s = 0 := wrong_k3 n s (by omega) (by omega)
        simp [numB, h, e]
    have E0 : Hid ((wrongF 3 n s == 0) = numB 3 n) := e0
    clear e0
    go_enter Try.func87, Try.ntmps87
    go_wp2_with fail
    refine (wrong_any _ _ _ _).mono ?_
    rintro e w1 ⟨rfl, hb1⟩
    go_wp2_with fail
    go_ret
    exact ⟨ret_bool E0.out, below1 hb1⟩
  · have b3 : (k == 3) = false := by simpa using hk
    go_enter Try.func87, Try.ntmps87
    go_wp2_with fail
    go_ret
    exact ⟨ret_bool (by simp [numB, b3]), (Below.refl _ _).alloc (Nat.le_refl _) _⟩

end Go.Proofs.Ytbdhmjojamoafaa
