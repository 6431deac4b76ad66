/- The walks of vals.Bare and of its fellow in the document's answer. -/
import Derived.Test.YtbdhmjojamoafaaW3
namespace Go.Proofs.Ytbdhmjojamoafaa
open Go.RowKit

def bareN (k n : Int) : Int := if k = 2 ∨ k = 3 then n else 0
def bareS (k : Int) (s : ByteArray) : ByteArray := if k = 4 then s else ⟨#[]⟩
theorem bareS_no {k : Int} {s : ByteArray} (h : ¬ k = 4) : bareS k s = ⟨#[]⟩ := by simp [bareS, h]
theorem bareN_no {k n : Int} (h2 : ¬ k = 2) (h3 : ¬ k = 3) : bareN k n = 0 := by simp [bareN, h2, h3]

set_option maxHeartbeats 400000 in
theorem bare_2 (k n : Int) (s : ByteArray) (w : World) (h : k = 2) :
    Calls Try.prog 62 #[.agg #[.int .i64 k, .int .i64 n, .string s]] w fun e w' => e = .returned (.agg #[.int .i64 2, .int .i64 n, .string ⟨#[]⟩]) ∧ Below w.heap.size w w' := by
  subst h
  go_enter Try.func62, Try.ntmps62
  go_wp2_with fail
  exact bodyPost_ret (v := .agg #[.int .i64 2, .int .i64 n, .string ⟨#[]⟩]) (by simp [results, Try.results62, go_sem]) rfl ⟨rfl, ((Below.refl _ _).alloc (Nat.le_refl _) _).alloc (by simp) _⟩

set_option maxHeartbeats 400000 in
theorem bare_3 (k n : Int) (s : ByteArray) (w : World) (h : k = 3) :
    Calls Try.prog 62 #[.agg #[.int .i64 k, .int .i64 n, .string s]] w fun e w' => e = .returned (.agg #[.int .i64 3, .int .i64 n, .string ⟨#[]⟩]) ∧ Below w.heap.size w w' := by
  subst h
  go_enter Try.func62, Try.ntmps62
  go_wp2_with fail
  exact bodyPost_ret (v := .agg #[.int .i64 3, .int .i64 n, .string ⟨#[]⟩]) (by simp [results, Try.results62, go_sem]) rfl ⟨rfl, ((Below.refl _ _).alloc (Nat.le_refl _) _).alloc (by simp) _⟩

set_option maxHeartbeats 400000 in
theorem bare_4 (k n : Int) (s : ByteArray) (w : World) (h : k = 4) :
    Calls Try.prog 62 #[.agg #[.int .i64 k, .int .i64 n, .string s]] w fun e w' => e = .returned (.agg #[.int .i64 4, .int .i64 0, .string s]) ∧ Below w.heap.size w w' := by
  subst h
  go_enter Try.func62, Try.ntmps62
  go_wp2_with fail
  exact bodyPost_ret (v := .agg #[.int .i64 4, .int .i64 0, .string s]) (by simp [results, Try.results62, go_sem]) rfl ⟨rfl, ((Below.refl _ _).alloc (Nat.le_refl _) _).alloc (by simp) _⟩

set_option maxHeartbeats 400000 in
theorem bare_x (k n : Int) (s : ByteArray) (w : World) (h2 : ¬ k = 2) (h3 : ¬ k = 3) (h4 : ¬ k = 4) :
    Calls Try.prog 62 #[.agg #[.int .i64 k, .int .i64 n, .string s]] w fun e w' => e = .returned (.agg #[.int .i64 k, .int .i64 0, .string ⟨#[]⟩]) ∧ Below w.heap.size w w' := by
  have b2 : (k == 2) = false := by simpa using h2
  have b3 : (k == 3) = false := by simpa using h3
  have b4 : (k == 4) = false := by simpa using h4
  go_enter Try.func62, Try.ntmps62
  go_wp2_with fail
  exact bodyPost_ret (v := .agg #[.int .i64 k, .int .i64 0, .string ⟨#[]⟩]) (by simp [results, Try.results62, go_sem]) rfl ⟨rfl, ((Below.refl _ _).alloc (Nat.le_refl _) _).alloc (by simp) _⟩

theorem bare_any (k n : Int) (s : ByteArray) (w : World) :
    Calls Try.prog 62 #[.agg #[.int .i64 k, .int .i64 n, .string s]] w fun e w' => e = .returned (.agg #[.int .i64 k, .int .i64 (bareN k n), .string (bareS k s)]) ∧ Below w.heap.size w w' := by
  by_cases h2 : k = 2
  · have e : bareN k n = n := by simp [bareN, h2]
    rw [e, bareS_no (by omega), h2]
    exact bare_2 2 n s w rfl
  by_cases h3 : k = 3
  · have e : bareN k n = n := by simp [bareN, h3]
    rw [e, bareS_no (by omega), h3]
    exact bare_3 3 n s w rfl
  rw [bareN_no h2 h3]
  by_cases h4 : k = 4
  · have e : bareS k s = s := by simp [bareS, h4]
    rw [e, h4]
    exact bare_4 4 n s w rfl
  rw [bareS_no h4]
  exact bare_x k n s w h2 h3 h4

set_option maxHeartbeats 400000 in
theorem refBare_2 (k n : Int) (s : ByteArray) (w : World) (h : k = 2) :
    Calls Try.prog 39 #[.agg #[.int .i64 k, .int .i64 n, .string s]] w fun e w' => e = .returned (.agg #[.int .i64 2, .int .i64 n, .string ⟨#[]⟩]) ∧ Below w.heap.size w w' := by
  subst h
  go_enter Try.func39, Try.ntmps39
  go_wp2_with fail
  exact bodyPost_ret (v := .agg #[.int .i64 2, .int .i64 n, .string ⟨#[]⟩]) (by simp [results, Try.results39, go_sem]) rfl ⟨rfl, (((Below.refl _ _).alloc (Nat.le_refl _) _).alloc (by simp) _).alloc (by simp; omega) _⟩

set_option maxHeartbeats 400000 in
theorem refBare_3 (k n : Int) (s : ByteArray) (w : World) (h : k = 3) :
    Calls Try.prog 39 #[.agg #[.int .i64 k, .int .i64 n, .string s]] w fun e w' => e = .returned (.agg #[.int .i64 3, .int .i64 n, .string ⟨#[]⟩]) ∧ Below w.heap.size w w' := by
  subst h
  go_enter Try.func39, Try.ntmps39
  go_wp2_with fail
  exact bodyPost_ret (v := .agg #[.int .i64 3, .int .i64 n, .string ⟨#[]⟩]) (by simp [results, Try.results39, go_sem]) rfl ⟨rfl, (((Below.refl _ _).alloc (Nat.le_refl _) _).alloc (by simp) _).alloc (by simp; omega) _⟩

set_option maxHeartbeats 400000 in
theorem refBare_4 (k n : Int) (s : ByteArray) (w : World) (h : k = 4) :
    Calls Try.prog 39 #[.agg #[.int .i64 k, .int .i64 n, .string s]] w fun e w' => e = .returned (.agg #[.int .i64 4, .int .i64 0, .string s]) ∧ Below w.heap.size w w' := by
  subst h
  go_enter Try.func39, Try.ntmps39
  go_wp2_with fail
  exact bodyPost_ret (v := .agg #[.int .i64 4, .int .i64 0, .string s]) (by simp [results, Try.results39, go_sem]) rfl ⟨rfl, (((Below.refl _ _).alloc (Nat.le_refl _) _).alloc (by simp) _).alloc (by simp; omega) _⟩

set_option maxHeartbeats 400000 in
theorem refBare_x (k n : Int) (s : ByteArray) (w : World) (h2 : ¬ k = 2) (h3 : ¬ k = 3) (h4 : ¬ k = 4) :
    Calls Try.prog 39 #[.agg #[.int .i64 k, .int .i64 n, .string s]] w fun e w' => e = .returned (.agg #[.int .i64 k, .int .i64 0, .string ⟨#[]⟩]) ∧ Below w.heap.size w w' := by
  have b2 : (k == 2) = false := by simpa using h2
  have b3 : (k == 3) = false := by simpa using h3
  have b4 : (k == 4) = false := by simpa using h4
  go_enter Try.func39, Try.ntmps39
  go_wp2_with fail
  exact bodyPost_ret (v := .agg #[.int .i64 k, .int .i64 0, .string ⟨#[]⟩]) (by simp [results, Try.results39, go_sem]) rfl ⟨rfl, (((Below.refl _ _).alloc (Nat.le_refl _) _).alloc (by simp) _).alloc (by simp; omega) _⟩

theorem refBare_any (k n : Int) (s : ByteArray) (w : World) :
    Calls Try.prog 39 #[.agg #[.int .i64 k, .int .i64 n, .string s]] w fun e w' => e = .returned (.agg #[.int .i64 k, .int .i64 (bareN k n), .string (bareS k s)]) ∧ Below w.heap.size w w' := by
  by_cases h2 : k = 2
  · have e : bareN k n = n := by simp [bareN, h2]
    rw [e, bareS_no (by omega), h2]
    exact refBare_2 2 n s w rfl
  by_cases h3 : k = 3
  · have e : bareN k n = n := by simp [bareN, h3]
    rw [e, bareS_no (by omega), h3]
    exact refBare_3 3 n s w rfl
  rw [bareN_no h2 h3]
  by_cases h4 : k = 4
  · have e : bareS k s = s := by simp [bareS, h4]
    rw [e, h4]
    exact refBare_4 4 n s w rfl
  rw [bareS_no h4]
  exact refBare_x k n s w h2 h3 h4

end Go.Proofs.Ytbdhmjojamoafaa
