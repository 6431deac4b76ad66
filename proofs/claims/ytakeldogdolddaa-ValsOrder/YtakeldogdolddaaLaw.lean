/- Rows of two and of three values that a law lays down for tidelaw1.right. -/
import Derived.Test.YtakeldogdolddaaW4
namespace Go.Proofs.Ytakeldogdolddaa
open Go.RowKit

theorem row3 (w : World) (k0 n0 k1 n1 k2 n2 : Int) (s0 s1 s2 : ByteArray) (t : Nat) :
    Row (w.alloc (.cells #[.int .i64 k0, .int .i64 n0, .string s0, .int .i64 k1, .int .i64 n1, .string s1, .int .i64 k2, .int .i64 n2, .string s2] t)) w.heap.size 0 [(k0, n0, s0), (k1, n1, s1), (k2, n2, s2)] := by
  intro i h
  match i, h with
  | 0, _ => exact ⟨by simp, by simp, by simp⟩
  | 1, _ => exact ⟨by simp, by simp, by simp⟩
  | 2, _ => exact ⟨by simp, by simp, by simp⟩
theorem row2 (w : World) (k0 n0 k1 n1 : Int) (s0 s1 : ByteArray) (t : Nat) :
    Row (w.alloc (.cells #[.int .i64 k0, .int .i64 n0, .string s0, .int .i64 k1, .int .i64 n1, .string s1] t)) w.heap.size 0 [(k0, n0, s0), (k1, n1, s1)] := by
  intro i h
  match i, h with
  | 0, _ => exact ⟨by simp, by simp, by simp⟩
  | 1, _ => exact ⟨by simp, by simp, by simp⟩
end Go.Proofs.Ytakeldogdolddaa
