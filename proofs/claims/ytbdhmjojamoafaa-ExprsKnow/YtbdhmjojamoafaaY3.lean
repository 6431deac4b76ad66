/- The walk of exprs.kidsType, whole. -/
import Derived.Test.YtbdhmjojamoafaaY3a
import Derived.Test.YtbdhmjojamoafaaY3b
import Derived.Test.YtbdhmjojamoafaaY3c
namespace Go.Proofs.Ytbdhmjojamoafaa
open Go.RowKit

theorem list2 {l : List Int} (h : l.length = 2) : ∃ x y, l = [x, y] := by
  match l, h with
  | [x, y], _ => exact ⟨x, y, rfl⟩
theorem list3 {l : List Int} (h : l.length = 3) : ∃ x y z, l = [x, y, z] := by
  match l, h with
  | [x, y, z], _ => exact ⟨x, y, z, rfl⟩
theorem kidsT_two {k a b : Int} (h : 6 ≤ k) (h' : k ≤ 11) : resT (kidsT k [a, b]) = if (togR a b).2 = 0 then (2, 0) else (0, (togR a b).2) := by
  have e : kidsT k [a, b] = if (tog a b).isSome then some 2 else none := by
    unfold kidsT
    rw [if_neg (by omega), if_pos ⟨h, h'⟩]
    rfl
  rw [e]
  unfold togR
  cases tog a b <;> rfl
theorem kidsT_three {x y z : Int} : resT (kidsT 17 [x, y, z]) = if (togR x 2).2 = 0 then togR y z else (0, (togR x 2).2) := by
  have e : kidsT 17 [x, y, z] = if (tog x 2).isSome then tog y z else none := rfl
  rw [e]
  unfold togR
  cases tog x 2 <;> rfl
theorem IsAt.two {B : Nat} {W : World} {a : Option Addr} {x y : Int} (h : IsAt B W a [x, y]) : ∃ b off, a = some ⟨b, off, none⟩ ∧ b < B ∧ W.cell? ⟨b, off, none⟩ = some (.int .i64 x) ∧ W.cell? ⟨b, off + 1, none⟩ = some (.int .i64 y) := by
  obtain ⟨_, h | ⟨b, off, e, hlt, hr⟩⟩ := h
  · simp at h
  · exact ⟨b, off, e, hlt, hr 0 (by simp), hr 1 (by simp)⟩
theorem IsAt.three {B : Nat} {W : World} {a : Option Addr} {x y z : Int} (h : IsAt B W a [x, y, z]) : ∃ b off, a = some ⟨b, off, none⟩ ∧ b < B ∧ W.cell? ⟨b, off, none⟩ = some (.int .i64 x) ∧ W.cell? ⟨b, off + 1, none⟩ = some (.int .i64 y) ∧ W.cell? ⟨b, off + 2, none⟩ = some (.int .i64 z) := by
  obtain ⟨_, h | ⟨b, off, e, hlt, hr⟩⟩ := h
  · simp at h
  · exact ⟨b, off, e, hlt, hr 0 (by simp), hr 1 (by simp), hr 2 (by simp)⟩

theorem kidsType_at (k : Int) (B : Nat) (a : Option Addr) (cap : Nat) (ts : List Int) (w : World) (hB : B ≤ w.heap.size) (h : IsAt B w a ts) (h3 : 3 ≤ k) (h18 : k ≤ 18) (hl : ts.length = kidsN k) :
    Calls Try.prog 34 #[.int .i64 k, .slice a ts.length cap] w fun e w' => e = .returned (.tuple #[.int .i64 (resT (kidsT k ts)).1, .int .i64 (resT (kidsT k ts)).2]) ∧ Below w.heap.size w w' := by
  obtain rfl | rfl | rfl | rfl | rfl | rfl | rfl | rfl | rfl | rfl | rfl | rfl | rfl | rfl | rfl | rfl : k = 3 ∨ k = 4 ∨ k = 5 ∨ k = 12 ∨ k = 13 ∨ k = 14 ∨ k = 15 ∨ k = 16 ∨ k = 6 ∨ k = 7 ∨ k = 8 ∨ k = 9 ∨ k = 10 ∨ k = 11 ∨ k = 17 ∨ k = 18 := by omega
  · have e : kidsT 3 ts = allO 2 ts := rfl
    rw [e]
    exact kidsType_3 B a cap ts w hB h
  · have e : kidsT 4 ts = allO 2 ts := rfl
    rw [e]
    exact kidsType_4 B a cap ts w hB h
  · have e : kidsT 5 ts = allO 2 ts := rfl
    rw [e]
    exact kidsType_5 B a cap ts w hB h
  · have e : kidsT 12 ts = allO 3 ts := rfl
    rw [e]
    exact kidsType_12 B a cap ts w hB h
  · have e : kidsT 13 ts = allO 3 ts := rfl
    rw [e]
    exact kidsType_13 B a cap ts w hB h
  · have e : kidsT 14 ts = allO 3 ts := rfl
    rw [e]
    exact kidsType_14 B a cap ts w hB h
  · have e : kidsT 15 ts = allO 4 ts := rfl
    rw [e]
    exact kidsType_15 B a cap ts w hB h
  · have e : resT (kidsT 16 ts) = (2, 0) := rfl
    rw [e]
    exact kidsType_16 a ts.length cap w
  · obtain ⟨x, y, rfl⟩ := list2 hl
    obtain ⟨b, off, rfl, hlt, c0, c1⟩ := h.two
    exact kidsType_6 b off cap x y w c0 c1 _ (kidsT_two (by decide) (by decide))
  · obtain ⟨x, y, rfl⟩ := list2 hl
    obtain ⟨b, off, rfl, hlt, c0, c1⟩ := h.two
    exact kidsType_7 b off cap x y w c0 c1 _ (kidsT_two (by decide) (by decide))
  · obtain ⟨x, y, rfl⟩ := list2 hl
    obtain ⟨b, off, rfl, hlt, c0, c1⟩ := h.two
    exact kidsType_8 b off cap x y w c0 c1 _ (kidsT_two (by decide) (by decide))
  · obtain ⟨x, y, rfl⟩ := list2 hl
    obtain ⟨b, off, rfl, hlt, c0, c1⟩ := h.two
    exact kidsType_9 b off cap x y w c0 c1 _ (kidsT_two (by decide) (by decide))
  · obtain ⟨x, y, rfl⟩ := list2 hl
    obtain ⟨b, off, rfl, hlt, c0, c1⟩ := h.two
    exact kidsType_10 b off cap x y w c0 c1 _ (kidsT_two (by decide) (by decide))
  · obtain ⟨x, y, rfl⟩ := list2 hl
    obtain ⟨b, off, rfl, hlt, c0, c1⟩ := h.two
    exact kidsType_11 b off cap x y w c0 c1 _ (kidsT_two (by decide) (by decide))
  · obtain ⟨x, y, z, rfl⟩ := list3 hl
    obtain ⟨b, off, rfl, hlt, c0, c1, c2⟩ := h.three
    exact kidsType_17 b off cap x y z w (by omega) c0 c1 c2 _ kidsT_three
  · obtain ⟨x, y, rfl⟩ := list2 hl
    obtain ⟨b, off, rfl, hlt, c0, c1⟩ := h.two
    have e : resT (kidsT 18 [x, y]) = togR x y := rfl
    rw [e]
    exact kidsType_18 b off cap x y w c0 c1
end Go.Proofs.Ytbdhmjojamoafaa
