/- The document's small functions of types: Letter, kids, Together. -/
import Derived.Test.YtbdhmjojamoafaaY2
import Derived.Test.YtbdhmjojamoafaaX2
namespace Go.Proofs.Ytbdhmjojamoafaa
open Go.RowKit

/-- A type's letter. -/
def ltr (t : Int) : Int := if t = 1 then 97 else if t = 2 then 98 else if t = 3 then 105 else 116
theorem letter_at (t : Int) (w : World) (h : inT t) : Calls Try.prog 25 #[.int .i64 t] w fun e w' => e = .returned (.int .u8 (ltr t)) ∧ Below w.heap.size w w' := by
  unfold inT at h
  obtain rfl | rfl | rfl | rfl : t = 1 ∨ t = 2 ∨ t = 3 ∨ t = 4 := by omega
  · have e : ltr 1 = 97 := rfl
    rw [e]
    go_enter Try.func25, Try.ntmps25
    go_wp2_with fail
    go_ret
    exact ⟨rfl, Below.refl _ _⟩
  · have e : ltr 2 = 98 := rfl
    rw [e]
    go_enter Try.func25, Try.ntmps25
    go_wp2_with fail
    go_ret
    exact ⟨rfl, Below.refl _ _⟩
  · have e : ltr 3 = 105 := rfl
    rw [e]
    go_enter Try.func25, Try.ntmps25
    go_wp2_with fail
    go_ret
    exact ⟨rfl, Below.refl _ _⟩
  · have e : ltr 4 = 116 := rfl
    rw [e]
    go_enter Try.func25, Try.ntmps25
    go_wp2_with fail
    go_ret
    exact ⟨rfl, Below.refl _ _⟩
def kidsR (k : Int) : Int := if k < 1 ∨ 18 < k then -1 else kidsN k
set_option maxHeartbeats 2000000 in
theorem kids_at (k : Int) (w : World) : Calls Try.prog 35 #[.int .i64 k] w fun e w' => e = .returned (.int .i64 (kidsR k)) ∧ Below w.heap.size w w' := by
  by_cases h1 : k < 1
  · have e : kidsR k = -1 := by simp [kidsR, h1]
    rw [e]
    go_enter Try.func35, Try.ntmps35
    go_wp2_with fail
    go_ret
    exact ⟨rfl, Below.refl _ _⟩
  by_cases h2 : 18 < k
  · have e : kidsR k = -1 := by simp [kidsR, h2]
    rw [e]
    go_enter Try.func35, Try.ntmps35
    go_wp2_with fail
    go_ret
    exact ⟨rfl, Below.refl _ _⟩
  obtain ⟨j, rfl⟩ : ∃ j : Nat, k = j := ⟨k.toNat, by omega⟩
  have e : kidsR j = kidsN j := by simp only [kidsR]; rw [if_neg (by omega)]
  have hl : (#[.int .i64 0, .int .i64 0, .int .i64 0, .int .i64 1, .int .i64 2, .int .i64 2, .int .i64 2, .int .i64 2, .int .i64 2, .int .i64 2, .int .i64 2, .int .i64 2, .int .i64 2, .int .i64 2, .int .i64 2, .int .i64 2, .int .i64 1, .int .i64 3, .int .i64 2] : Array Value)[j]? = some (.int .i64 (kidsN j : Nat)) := by
    obtain rfl | rfl | rfl | rfl | rfl | rfl | rfl | rfl | rfl | rfl | rfl | rfl | rfl | rfl | rfl | rfl | rfl | rfl : j = 1 ∨ j = 2 ∨ j = 3 ∨ j = 4 ∨ j = 5 ∨ j = 6 ∨ j = 7 ∨ j = 8 ∨ j = 9 ∨ j = 10 ∨ j = 11 ∨ j = 12 ∨ j = 13 ∨ j = 14 ∨ j = 15 ∨ j = 16 ∨ j = 17 ∨ j = 18 := by omega
    all_goals rfl
  have hc : (w.alloc (.cells #[.int .i64 0, .int .i64 0, .int .i64 0, .int .i64 1, .int .i64 2, .int .i64 2, .int .i64 2, .int .i64 2, .int .i64 2, .int .i64 2, .int .i64 2, .int .i64 2, .int .i64 2, .int .i64 2, .int .i64 2, .int .i64 2, .int .i64 1, .int .i64 3, .int .i64 2] 3)).cell? ⟨w.heap.size, j, none⟩ = some (.int .i64 (kidsN j : Nat)) := by
    rw [World.cell?_alloc_new]; exact hl
  rw [e]
  clear hl e
  generalize kidsN j = r at *
  have hj : j < 19 := by omega
  go_enter Try.func35, Try.ntmps35
  go_wp2_with fail
  go_ret
  exact ⟨rfl, (Below.refl _ _).alloc (Nat.le_refl _) _⟩
/-- What two letters are together. -/
def togL (a b : Int) : Int := if a = 97 ∨ a = b then b else if b = 97 then a else 0
theorem togl_at (a b : Int) (w : World) : Calls Try.prog 36 #[.int .u8 a, .int .u8 b] w fun e w' => e = .returned (.int .u8 (togL a b)) ∧ Below w.heap.size w w' := by
  by_cases h1 : a = 97
  · have e : togL a b = b := by simp [togL, h1]
    rw [e]
    subst h1
    go_enter Try.func36, Try.ntmps36
    go_wp2_with fail
    go_ret
    exact ⟨rfl, Below.refl _ _⟩
  have q1 : (a == 97) = false := by simpa using h1
  by_cases h2 : a = b
  · have e : togL a b = b := by simp [togL, h2]
    rw [e]
    subst h2
    go_enter Try.func36, Try.ntmps36
    go_wp2_with fail
    go_ret
    exact ⟨rfl, Below.refl _ _⟩
  have q2 : (a == b) = false := by simpa using h2
  by_cases h3 : b = 97
  · have e : togL a b = a := by rw [togL, if_neg (by omega), if_pos h3]
    rw [e]
    subst h3
    go_enter Try.func36, Try.ntmps36
    go_wp2_with fail
    go_ret
    exact ⟨rfl, Below.refl _ _⟩
  have q3 : (b == 97) = false := by simpa using h3
  have e : togL a b = 0 := by rw [togL, if_neg (by omega), if_neg h3]
  rw [e]
  go_enter Try.func36, Try.ntmps36
  go_wp2_with fail
  go_ret
  exact ⟨rfl, Below.refl _ _⟩
theorem togL_tog {a b : Int} (ha : inT a) (hb : inT b) : togL (ltr a) (ltr b) = (match tog a b with | some t => ltr t | none => 0) := by
  unfold inT at ha hb
  obtain rfl | rfl | rfl | rfl : a = 1 ∨ a = 2 ∨ a = 3 ∨ a = 4 := by omega
  all_goals (obtain rfl | rfl | rfl | rfl : b = 1 ∨ b = 2 ∨ b = 3 ∨ b = 4 := by omega)
  all_goals rfl
theorem ltr_ne {t : Int} : ltr t ≠ 0 := by
  unfold ltr
  repeat' split
  all_goals omega
theorem ltr_inj {a b : Int} (ha : inT a) (hb : inT b) (h : ltr a = ltr b) : a = b := by
  unfold inT at ha hb
  obtain rfl | rfl | rfl | rfl : a = 1 ∨ a = 2 ∨ a = 3 ∨ a = 4 := by omega
  all_goals (obtain rfl | rfl | rfl | rfl : b = 1 ∨ b = 2 ∨ b = 3 ∨ b = 4 := by omega)
  all_goals first
    | rfl
    | (exact absurd h (by decide))
end Go.Proofs.Ytbdhmjojamoafaa
