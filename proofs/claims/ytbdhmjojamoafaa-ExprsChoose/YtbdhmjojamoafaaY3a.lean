/- The walk of exprs.kidsType: all of one type -/
import Derived.Test.YtbdhmjojamoafaaY2
namespace Go.Proofs.Ytbdhmjojamoafaa
open Go.RowKit

set_option maxHeartbeats 400000 in
theorem kidsType_3 (B : Nat) (a : Option Addr) (cap : Nat) (ts : List Int) (w : World) (hB : B ≤ w.heap.size) (h : IsAt B w a ts) :
    Calls Try.prog 34 #[.int .i64 3, .slice a ts.length cap] w fun e w' => e = .returned (.tuple #[.int .i64 (resT (allO 2 ts)).1, .int .i64 (resT (allO 2 ts)).2]) ∧ Below w.heap.size w w' := by
  have con := allOf_at 2 B a cap ts w hB h
  generalize resT (allO 2 ts) = r at *
  generalize ts.length = n at *
  clear h
  go_enter Try.func34, Try.ntmps34
  go_wp2_with fail
  refine con.mono ?_
  rintro e w1 ⟨rfl, hb1⟩
  go_wp2_with fail
  exact bodyPost_ret (v := .tuple #[.int .i64 r.1, .int .i64 r.2]) (by simp [results, Try.results34, go_sem]) rfl ⟨rfl, hb1⟩
set_option maxHeartbeats 400000 in
theorem kidsType_4 (B : Nat) (a : Option Addr) (cap : Nat) (ts : List Int) (w : World) (hB : B ≤ w.heap.size) (h : IsAt B w a ts) :
    Calls Try.prog 34 #[.int .i64 4, .slice a ts.length cap] w fun e w' => e = .returned (.tuple #[.int .i64 (resT (allO 2 ts)).1, .int .i64 (resT (allO 2 ts)).2]) ∧ Below w.heap.size w w' := by
  have con := allOf_at 2 B a cap ts w hB h
  generalize resT (allO 2 ts) = r at *
  generalize ts.length = n at *
  clear h
  go_enter Try.func34, Try.ntmps34
  go_wp2_with fail
  refine con.mono ?_
  rintro e w1 ⟨rfl, hb1⟩
  go_wp2_with fail
  exact bodyPost_ret (v := .tuple #[.int .i64 r.1, .int .i64 r.2]) (by simp [results, Try.results34, go_sem]) rfl ⟨rfl, hb1⟩
set_option maxHeartbeats 400000 in
theorem kidsType_5 (B : Nat) (a : Option Addr) (cap : Nat) (ts : List Int) (w : World) (hB : B ≤ w.heap.size) (h : IsAt B w a ts) :
    Calls Try.prog 34 #[.int .i64 5, .slice a ts.length cap] w fun e w' => e = .returned (.tuple #[.int .i64 (resT (allO 2 ts)).1, .int .i64 (resT (allO 2 ts)).2]) ∧ Below w.heap.size w w' := by
  have con := allOf_at 2 B a cap ts w hB h
  generalize resT (allO 2 ts) = r at *
  generalize ts.length = n at *
  clear h
  go_enter Try.func34, Try.ntmps34
  go_wp2_with fail
  refine con.mono ?_
  rintro e w1 ⟨rfl, hb1⟩
  go_wp2_with fail
  exact bodyPost_ret (v := .tuple #[.int .i64 r.1, .int .i64 r.2]) (by simp [results, Try.results34, go_sem]) rfl ⟨rfl, hb1⟩
set_option maxHeartbeats 400000 in
theorem kidsType_12 (B : Nat) (a : Option Addr) (cap : Nat) (ts : List Int) (w : World) (hB : B ≤ w.heap.size) (h : IsAt B w a ts) :
    Calls Try.prog 34 #[.int .i64 12, .slice a ts.length cap] w fun e w' => e = .returned (.tuple #[.int .i64 (resT (allO 3 ts)).1, .int .i64 (resT (allO 3 ts)).2]) ∧ Below w.heap.size w w' := by
  have con := allOf_at 3 B a cap ts w hB h
  generalize resT (allO 3 ts) = r at *
  generalize ts.length = n at *
  clear h
  go_enter Try.func34, Try.ntmps34
  go_wp2_with fail
  refine con.mono ?_
  rintro e w1 ⟨rfl, hb1⟩
  go_wp2_with fail
  exact bodyPost_ret (v := .tuple #[.int .i64 r.1, .int .i64 r.2]) (by simp [results, Try.results34, go_sem]) rfl ⟨rfl, hb1⟩
set_option maxHeartbeats 400000 in
theorem kidsType_13 (B : Nat) (a : Option Addr) (cap : Nat) (ts : List Int) (w : World) (hB : B ≤ w.heap.size) (h : IsAt B w a ts) :
    Calls Try.prog 34 #[.int .i64 13, .slice a ts.length cap] w fun e w' => e = .returned (.tuple #[.int .i64 (resT (allO 3 ts)).1, .int .i64 (resT (allO 3 ts)).2]) ∧ Below w.heap.size w w' := by
  have con := allOf_at 3 B a cap ts w hB h
  generalize resT (allO 3 ts) = r at *
  generalize ts.length = n at *
  clear h
  go_enter Try.func34, Try.ntmps34
  go_wp2_with fail
  refine con.mono ?_
  rintro e w1 ⟨rfl, hb1⟩
  go_wp2_with fail
  exact bodyPost_ret (v := .tuple #[.int .i64 r.1, .int .i64 r.2]) (by simp [results, Try.results34, go_sem]) rfl ⟨rfl, hb1⟩
set_option maxHeartbeats 400000 in
theorem kidsType_14 (B : Nat) (a : Option Addr) (cap : Nat) (ts : List Int) (w : World) (hB : B ≤ w.heap.size) (h : IsAt B w a ts) :
    Calls Try.prog 34 #[.int .i64 14, .slice a ts.length cap] w fun e w' => e = .returned (.tuple #[.int .i64 (resT (allO 3 ts)).1, .int .i64 (resT (allO 3 ts)).2]) ∧ Below w.heap.size w w' := by
  have con := allOf_at 3 B a cap ts w hB h
  generalize resT (allO 3 ts) = r at *
  generalize ts.length = n at *
  clear h
  go_enter Try.func34, Try.ntmps34
  go_wp2_with fail
  refine con.mono ?_
  rintro e w1 ⟨rfl, hb1⟩
  go_wp2_with fail
  exact bodyPost_ret (v := .tuple #[.int .i64 r.1, .int .i64 r.2]) (by simp [results, Try.results34, go_sem]) rfl ⟨rfl, hb1⟩
set_option maxHeartbeats 400000 in
theorem kidsType_15 (B : Nat) (a : Option Addr) (cap : Nat) (ts : List Int) (w : World) (hB : B ≤ w.heap.size) (h : IsAt B w a ts) :
    Calls Try.prog 34 #[.int .i64 15, .slice a ts.length cap] w fun e w' => e = .returned (.tuple #[.int .i64 (resT (allO 4 ts)).1, .int .i64 (resT (allO 4 ts)).2]) ∧ Below w.heap.size w w' := by
  have con := allOf_at 4 B a cap ts w hB h
  generalize resT (allO 4 ts) = r at *
  generalize ts.length = n at *
  clear h
  go_enter Try.func34, Try.ntmps34
  go_wp2_with fail
  refine con.mono ?_
  rintro e w1 ⟨rfl, hb1⟩
  go_wp2_with fail
  exact bodyPost_ret (v := .tuple #[.int .i64 r.1, .int .i64 r.2]) (by simp [results, Try.results34, go_sem]) rfl ⟨rfl, hb1⟩
theorem kidsType_16 (a : Option Addr) (n cap : Nat) (w : World) :
    Calls Try.prog 34 #[.int .i64 16, .slice a n cap] w fun e w' => e = .returned (.tuple #[.int .i64 2, .int .i64 0]) ∧ Below w.heap.size w w' := by
  go_enter Try.func34, Try.ntmps34
  go_wp2_with fail
  exact bodyPost_ret (v := .tuple #[.int .i64 2, .int .i64 0]) (by simp [results, Try.results34, go_sem]) rfl ⟨rfl, Below.refl _ _⟩
end Go.Proofs.Ytbdhmjojamoafaa
