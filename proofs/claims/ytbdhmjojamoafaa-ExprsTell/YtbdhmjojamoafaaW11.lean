/- The walks of the document's answer, of right values: Null, Truth, Is, Order. -/
import Derived.Test.YtbdhmjojamoafaaW9
import Derived.Test.YtbdhmjojamoafaaOrd
namespace Go.Proofs.Ytbdhmjojamoafaa
open Go.RowKit

set_option maxHeartbeats 400000 in
theorem refNull_any (w : World) :
    Calls Try.prog 47 #[] w fun e w' => e = .returned (.agg #[.int .i64 1, .int .i64 0, .string ⟨#[]⟩]) ∧ Below w.heap.size w w' := by
  go_enter Try.func47, Try.ntmps47
  go_wp2
  exact bodyPost_ret (v := .agg #[.int .i64 1, .int .i64 0, .string ⟨#[]⟩]) (by simp [results, Try.results47, go_sem]) rfl ⟨rfl, (Below.refl _ _).alloc (Nat.le_refl _) _⟩
set_option maxHeartbeats 400000 in
theorem refTruth_true (w : World) :
    Calls Try.prog 41 #[.bool true] w fun e w' => e = .returned (.agg #[.int .i64 2, .int .i64 1, .string ⟨#[]⟩]) ∧ Below w.heap.size w w' := by
  go_enter Try.func41, Try.ntmps41
  go_wp2
  exact bodyPost_ret (v := .agg #[.int .i64 2, .int .i64 1, .string ⟨#[]⟩]) (by simp [results, Try.results41, go_sem]) rfl ⟨rfl, (Below.refl _ _).alloc (Nat.le_refl _) _⟩
set_option maxHeartbeats 400000 in
theorem refTruth_false (w : World) :
    Calls Try.prog 41 #[.bool false] w fun e w' => e = .returned (.agg #[.int .i64 2, .int .i64 0, .string ⟨#[]⟩]) ∧ Below w.heap.size w w' := by
  go_enter Try.func41, Try.ntmps41
  go_wp2
  exact bodyPost_ret (v := .agg #[.int .i64 2, .int .i64 0, .string ⟨#[]⟩]) (by simp [results, Try.results41, go_sem]) rfl ⟨rfl, (Below.refl _ _).alloc (Nat.le_refl _) _⟩
theorem refTruth_any (b : Bool) (w : World) :
    Calls Try.prog 41 #[.bool b] w fun e w' => e = .returned (.agg #[.int .i64 2, .int .i64 (tn (some b)), .string ⟨#[]⟩]) ∧ Below w.heap.size w w' := by
  cases b
  · exact refTruth_false w
  · exact refTruth_true w

/-- What a right truth may be. -/
def Tru (k n : Int) : Prop := k = 2 → n = 0 ∨ n = 1
theorem cls_n0 : cls 2 0 = some false := rfl
theorem cls_n1 : cls 2 1 = some true := rfl
theorem cls_kx {k n : Int} (h : ¬ k = 2) : cls k n = none := by simp [cls, h]
set_option maxHeartbeats 400000 in
theorem refIs_x (k n : Int) (s : ByteArray) (b : Bool) (w : World) (h : ¬ k = 2) :
    Calls Try.prog 22 #[.agg #[.int .i64 k, .int .i64 n, .string s], .bool b] w fun e w' => e = .returned (.bool false) ∧ Below w.heap.size w w' := by
  have b2 : (k == 2) = false := by simpa using h
  go_enter Try.func22, Try.ntmps22
  go_wp2
  go_ret
  exact ⟨rfl, (Below.refl _ _).alloc (Nat.le_refl _) _⟩
set_option maxHeartbeats 400000 in
theorem refIs_0 (s : ByteArray) (b : Bool) (w : World) :
    Calls Try.prog 22 #[.agg #[.int .i64 2, .int .i64 0, .string s], .bool b] w fun e w' => e = .returned (.bool (some false == some b)) ∧ Below w.heap.size w w' := by
  cases b
  · go_enter Try.func22, Try.ntmps22
    go_wp2
    go_ret
    exact ⟨rfl, (Below.refl _ _).alloc (Nat.le_refl _) _⟩
  · go_enter Try.func22, Try.ntmps22
    go_wp2
    go_ret
    exact ⟨rfl, (Below.refl _ _).alloc (Nat.le_refl _) _⟩
set_option maxHeartbeats 400000 in
theorem refIs_1 (s : ByteArray) (b : Bool) (w : World) :
    Calls Try.prog 22 #[.agg #[.int .i64 2, .int .i64 1, .string s], .bool b] w fun e w' => e = .returned (.bool (some true == some b)) ∧ Below w.heap.size w w' := by
  cases b
  · go_enter Try.func22, Try.ntmps22
    go_wp2
    go_ret
    exact ⟨rfl, (Below.refl _ _).alloc (Nat.le_refl _) _⟩
  · go_enter Try.func22, Try.ntmps22
    go_wp2
    go_ret
    exact ⟨rfl, (Below.refl _ _).alloc (Nat.le_refl _) _⟩
theorem refIs_any (k n : Int) (s : ByteArray) (b : Bool) (w : World) (h : Tru k n) :
    Calls Try.prog 22 #[.agg #[.int .i64 k, .int .i64 n, .string s], .bool b] w fun e w' => e = .returned (.bool (cls k n == some b)) ∧ Below w.heap.size w w' := by
  by_cases h2 : k = 2
  · subst h2
    rcases h rfl with rfl | rfl
    · exact refIs_0 s b w
    · exact refIs_1 s b w
  · rw [cls_kx h2]
    exact refIs_x k n s b w h2

theorem cmpS_eq (s : ByteArray) : cmpS s s = 0 := by simp [cmpS, bl_irrefl]
theorem cmpS_lt {s s' : ByteArray} (h : Op.bytesLess s.toList s'.toList = true) : cmpS s s' = -1 := by simp [cmpS, h]
theorem cmpS_gt {s s' : ByteArray} (h : Op.bytesLess s.toList s'.toList = false) (e : (s.toList == s'.toList) = false) : cmpS s s' = 1 := by simp [cmpS, h, e]
theorem cmpS_qe {s s' : ByteArray} (h : Op.bytesLess s.toList s'.toList = false) (e : (s.toList == s'.toList) = true) : cmpS s s' = 0 := by simp [cmpS, h, e]

set_option maxHeartbeats 400000 in
theorem ord_lt (k n k' n' : Int) (s s' : ByteArray) (w : World) (h : k < k') :
    Calls Try.prog 42 #[.agg #[.int .i64 k, .int .i64 n, .string s], .agg #[.int .i64 k', .int .i64 n', .string s']] w fun e w' => e = .returned (.int .i64 (-1)) ∧ Below w.heap.size w w' := by
  go_enter Try.func42, Try.ntmps42
  go_wp2
  go_ret
  exact ⟨rfl, ((Below.refl _ _).alloc (Nat.le_refl _) _).alloc (by simp) _⟩
set_option maxHeartbeats 400000 in
theorem ord_gt (k n k' n' : Int) (s s' : ByteArray) (w : World) (h : k' < k) :
    Calls Try.prog 42 #[.agg #[.int .i64 k, .int .i64 n, .string s], .agg #[.int .i64 k', .int .i64 n', .string s']] w fun e w' => e = .returned (.int .i64 (1)) ∧ Below w.heap.size w w' := by
  have h' : ¬ k < k' := by omega
  go_enter Try.func42, Try.ntmps42
  go_wp2
  go_ret
  exact ⟨rfl, ((Below.refl _ _).alloc (Nat.le_refl _) _).alloc (by simp) _⟩
set_option maxHeartbeats 400000 in
theorem ord_1 (k n k' n' : Int) (s s' : ByteArray) (w : World) (h : k = 1) (h' : k' = 1) :
    Calls Try.prog 42 #[.agg #[.int .i64 k, .int .i64 n, .string s], .agg #[.int .i64 k', .int .i64 n', .string s']] w fun e w' => e = .returned (.int .i64 (0)) ∧ Below w.heap.size w w' := by
  subst h
  subst h'
  go_enter Try.func42, Try.ntmps42
  go_wp2
  go_ret
  exact ⟨rfl, ((Below.refl _ _).alloc (Nat.le_refl _) _).alloc (by simp) _⟩
set_option maxHeartbeats 400000 in
theorem ord_n_lt (k n k' n' : Int) (s s' : ByteArray) (w : World) (e : k' = k) (h1 : (k == 1) = false) (h4 : (k == 4) = false) (h4' : (k != 4) = true) (h : n < n') :
    Calls Try.prog 42 #[.agg #[.int .i64 k, .int .i64 n, .string s], .agg #[.int .i64 k', .int .i64 n', .string s']] w fun e w' => e = .returned (.int .i64 (-1)) ∧ Below w.heap.size w w' := by
  subst e
  go_enter Try.func42, Try.ntmps42
  go_wp2
  go_ret
  exact ⟨rfl, ((Below.refl _ _).alloc (Nat.le_refl _) _).alloc (by simp) _⟩
set_option maxHeartbeats 400000 in
theorem ord_n_gt (k n k' n' : Int) (s s' : ByteArray) (w : World) (e : k' = k) (h1 : (k == 1) = false) (h4 : (k == 4) = false) (h4' : (k != 4) = true) (h : n' < n) :
    Calls Try.prog 42 #[.agg #[.int .i64 k, .int .i64 n, .string s], .agg #[.int .i64 k', .int .i64 n', .string s']] w fun e w' => e = .returned (.int .i64 (1)) ∧ Below w.heap.size w w' := by
  subst e
  have h' : ¬ n < n' := by omega
  go_enter Try.func42, Try.ntmps42
  go_wp2
  go_ret
  exact ⟨rfl, ((Below.refl _ _).alloc (Nat.le_refl _) _).alloc (by simp) _⟩
set_option maxHeartbeats 400000 in
theorem ord_n_eq (k n k' n' : Int) (s s' : ByteArray) (w : World) (e : k' = k) (h1 : (k == 1) = false) (h4 : (k == 4) = false) (h4' : (k != 4) = true) (h : n' = n) :
    Calls Try.prog 42 #[.agg #[.int .i64 k, .int .i64 n, .string s], .agg #[.int .i64 k', .int .i64 n', .string s']] w fun e w' => e = .returned (.int .i64 (0)) ∧ Below w.heap.size w w' := by
  subst e
  subst h
  go_enter Try.func42, Try.ntmps42
  go_wp2
  go_ret
  exact ⟨rfl, ((Below.refl _ _).alloc (Nat.le_refl _) _).alloc (by simp) _⟩
set_option maxHeartbeats 400000 in
theorem ord_s_lt (k n k' n' : Int) (s s' : ByteArray) (w : World) (e : k = 4) (e' : k' = 4) (h : Op.bytesLess s.toList s'.toList = true) :
    Calls Try.prog 42 #[.agg #[.int .i64 k, .int .i64 n, .string s], .agg #[.int .i64 k', .int .i64 n', .string s']] w fun e w' => e = .returned (.int .i64 (-1)) ∧ Below w.heap.size w w' := by
  subst e
  subst e'
  go_enter Try.func42, Try.ntmps42
  go_wp2
  go_ret
  exact ⟨rfl, ((Below.refl _ _).alloc (Nat.le_refl _) _).alloc (by simp) _⟩
set_option maxHeartbeats 400000 in
theorem ord_s_gt (k n k' n' : Int) (s s' : ByteArray) (w : World) (e : k = 4) (e' : k' = 4) (h : Op.bytesLess s.toList s'.toList = false) (h' : (s.toList == s'.toList) = false) :
    Calls Try.prog 42 #[.agg #[.int .i64 k, .int .i64 n, .string s], .agg #[.int .i64 k', .int .i64 n', .string s']] w fun e w' => e = .returned (.int .i64 (1)) ∧ Below w.heap.size w w' := by
  subst e
  subst e'
  go_enter Try.func42, Try.ntmps42
  go_wp2
  go_ret
  exact ⟨rfl, ((Below.refl _ _).alloc (Nat.le_refl _) _).alloc (by simp) _⟩
set_option maxHeartbeats 400000 in
theorem ord_s_eq (k n k' n' : Int) (s s' : ByteArray) (w : World) (e : k = 4) (e' : k' = 4) (h : Op.bytesLess s.toList s'.toList = false) (h' : (s.toList == s'.toList) = true) :
    Calls Try.prog 42 #[.agg #[.int .i64 k, .int .i64 n, .string s], .agg #[.int .i64 k', .int .i64 n', .string s']] w fun e w' => e = .returned (.int .i64 (0)) ∧ Below w.heap.size w w' := by
  subst e
  subst e'
  go_enter Try.func42, Try.ntmps42
  go_wp2
  go_ret
  exact ⟨rfl, ((Below.refl _ _).alloc (Nat.le_refl _) _).alloc (by simp) _⟩
/-- Of right kinds. -/
theorem refOrder_any (k n k' n' : Int) (s s' : ByteArray) (w : World) (k1 : 1 ≤ k) (k4 : k ≤ 4) :
    Calls Try.prog 42 #[.agg #[.int .i64 k, .int .i64 n, .string s], .agg #[.int .i64 k', .int .i64 n', .string s']] w fun e w' => e = .returned (.int .i64 (cmpV k n s k' n' s')) ∧ Below w.heap.size w w' := by
  by_cases e : k = k'
  · subst e
    by_cases h1 : k = 1
    · subst h1
      rw [cmpV_x (by omega) (by omega) (by omega)]
      exact ord_1 1 n 1 n' s s' w rfl rfl
    by_cases h4 : k = 4
    · subst h4
      rw [cmpV_4]
      cases h : Op.bytesLess s.toList s'.toList
      · cases h' : s.toList == s'.toList
        · rw [cmpS_gt h h']; exact ord_s_gt 4 n 4 n' s s' w rfl rfl h h'
        · rw [cmpS_qe h h']; exact ord_s_eq 4 n 4 n' s s' w rfl rfl h h'
      · rw [cmpS_lt h]; exact ord_s_lt 4 n 4 n' s s' w rfl rfl h
    have b1 : (k == 1) = false := by simpa using h1
    have b4 : (k == 4) = false := by simpa using h4
    have c4 : (k != 4) = true := by simpa using h4
    have e : cmpV k n s k n' s' = cmpI n n' := by
      have : k = 2 ∨ k = 3 := by omega
      rcases this with rfl | rfl
      · exact cmpV_2
      · exact cmpV_3
    rw [e]
    rcases Int.lt_trichotomy n n' with h | h | h
    · rw [cmpI_lt h]; exact ord_n_lt k n k n' s s' w rfl b1 b4 c4 h
    · subst h; rw [cmpI_eq]; exact ord_n_eq k n k n s s' w rfl b1 b4 c4 rfl
    · rw [cmpI_gt h]; exact ord_n_gt k n k n' s s' w rfl b1 b4 c4 h
  · rw [cmpV_k e]
    rcases Int.lt_trichotomy k k' with h | h | h
    · rw [cmpI_lt h]; exact ord_lt k n k' n' s s' w h
    · exact absurd h e
    · rw [cmpI_gt h]; exact ord_gt k n k' n' s s' w h
end Go.Proofs.Ytbdhmjojamoafaa
