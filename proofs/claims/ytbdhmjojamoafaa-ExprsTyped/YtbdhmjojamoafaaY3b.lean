/- The walk of exprs.kidsType: comparisons -/
import Derived.Test.YtbdhmjojamoafaaY2
namespace Go.Proofs.Ytbdhmjojamoafaa
open Go.RowKit

set_option maxHeartbeats 400000 in
theorem kidsType_6 (b off cap : Nat) (x y : Int) (w : World) (c0 : w.cell? ⟨b, off, none⟩ = some (.int .i64 x)) (c1 : w.cell? ⟨b, off + 1, none⟩ = some (.int .i64 y)) (r : Int × Int) (er : r = if (togR x y).2 = 0 then (2, 0) else (0, (togR x y).2)) :
    Calls Try.prog 34 #[.int .i64 6, .slice (some ⟨b, off, none⟩) 2 cap] w fun e w' => e = .returned (.tuple #[.int .i64 r.1, .int .i64 r.2]) ∧ Below w.heap.size w w' := by
  have p0 := past_cell c0
  have p1 := past_cell c1
  haveI : Nonempty (Past w) := ⟨⟨_, Below.refl _ _⟩⟩
  go_enter Try.func34, Try.ntmps34
  go_wp2_with fail
  refine wp_region_past (by kernel_rfl) (by kernel_rfl) ?_
  repeat (go_big_quiet_step (first | (go_at_call 50; exact in_past (together_at x y _))))
  refine wpQuiet_nil ?_
  rintro w3 ⟨⟨v3, hb3⟩, h3⟩
  obtain rfl : w3 = v3 := h3
  clear p0 p1 c0 c1
  generalize togR x y = t at *
  obtain ⟨t1, t2⟩ := t
  by_cases h0 : t2 = 0
  · subst h0
    simp only [if_true] at er
    subst er
    go_wp2_with fail
    exact bodyPost_ret (v := .tuple #[.int .i64 2, .int .i64 0]) (by simp [results, Try.results34, go_sem]) rfl ⟨rfl, hb3⟩
  · simp only [h0, if_false] at er
    subst er
    have q : (t2 != 0) = true := by simpa using h0
    go_wp2_with fail
    exact bodyPost_ret (v := .tuple #[.int .i64 0, .int .i64 t2]) (by simp [results, Try.results34, go_sem]) rfl ⟨rfl, hb3⟩
set_option maxHeartbeats 400000 in
theorem kidsType_7 (b off cap : Nat) (x y : Int) (w : World) (c0 : w.cell? ⟨b, off, none⟩ = some (.int .i64 x)) (c1 : w.cell? ⟨b, off + 1, none⟩ = some (.int .i64 y)) (r : Int × Int) (er : r = if (togR x y).2 = 0 then (2, 0) else (0, (togR x y).2)) :
    Calls Try.prog 34 #[.int .i64 7, .slice (some ⟨b, off, none⟩) 2 cap] w fun e w' => e = .returned (.tuple #[.int .i64 r.1, .int .i64 r.2]) ∧ Below w.heap.size w w' := by
  have p0 := past_cell c0
  have p1 := past_cell c1
  haveI : Nonempty (Past w) := ⟨⟨_, Below.refl _ _⟩⟩
  go_enter Try.func34, Try.ntmps34
  go_wp2_with fail
  refine wp_region_past (by kernel_rfl) (by kernel_rfl) ?_
  repeat (go_big_quiet_step (first | (go_at_call 50; exact in_past (together_at x y _))))
  refine wpQuiet_nil ?_
  rintro w3 ⟨⟨v3, hb3⟩, h3⟩
  obtain rfl : w3 = v3 := h3
  clear p0 p1 c0 c1
  generalize togR x y = t at *
  obtain ⟨t1, t2⟩ := t
  by_cases h0 : t2 = 0
  · subst h0
    simp only [if_true] at er
    subst er
    go_wp2_with fail
    exact bodyPost_ret (v := .tuple #[.int .i64 2, .int .i64 0]) (by simp [results, Try.results34, go_sem]) rfl ⟨rfl, hb3⟩
  · simp only [h0, if_false] at er
    subst er
    have q : (t2 != 0) = true := by simpa using h0
    go_wp2_with fail
    exact bodyPost_ret (v := .tuple #[.int .i64 0, .int .i64 t2]) (by simp [results, Try.results34, go_sem]) rfl ⟨rfl, hb3⟩
set_option maxHeartbeats 400000 in
theorem kidsType_8 (b off cap : Nat) (x y : Int) (w : World) (c0 : w.cell? ⟨b, off, none⟩ = some (.int .i64 x)) (c1 : w.cell? ⟨b, off + 1, none⟩ = some (.int .i64 y)) (r : Int × Int) (er : r = if (togR x y).2 = 0 then (2, 0) else (0, (togR x y).2)) :
    Calls Try.prog 34 #[.int .i64 8, .slice (some ⟨b, off, none⟩) 2 cap] w fun e w' => e = .returned (.tuple #[.int .i64 r.1, .int .i64 r.2]) ∧ Below w.heap.size w w' := by
  have p0 := past_cell c0
  have p1 := past_cell c1
  haveI : Nonempty (Past w) := ⟨⟨_, Below.refl _ _⟩⟩
  go_enter Try.func34, Try.ntmps34
  go_wp2_with fail
  refine wp_region_past (by kernel_rfl) (by kernel_rfl) ?_
  repeat (go_big_quiet_step (first | (go_at_call 50; exact in_past (together_at x y _))))
  refine wpQuiet_nil ?_
  rintro w3 ⟨⟨v3, hb3⟩, h3⟩
  obtain rfl : w3 = v3 := h3
  clear p0 p1 c0 c1
  generalize togR x y = t at *
  obtain ⟨t1, t2⟩ := t
  by_cases h0 : t2 = 0
  · subst h0
    simp only [if_true] at er
    subst er
    go_wp2_with fail
    exact bodyPost_ret (v := .tuple #[.int .i64 2, .int .i64 0]) (by simp [results, Try.results34, go_sem]) rfl ⟨rfl, hb3⟩
  · simp only [h0, if_false] at er
    subst er
    have q : (t2 != 0) = true := by simpa using h0
    go_wp2_with fail
    exact bodyPost_ret (v := .tuple #[.int .i64 0, .int .i64 t2]) (by simp [results, Try.results34, go_sem]) rfl ⟨rfl, hb3⟩
set_option maxHeartbeats 400000 in
theorem kidsType_9 (b off cap : Nat) (x y : Int) (w : World) (c0 : w.cell? ⟨b, off, none⟩ = some (.int .i64 x)) (c1 : w.cell? ⟨b, off + 1, none⟩ = some (.int .i64 y)) (r : Int × Int) (er : r = if (togR x y).2 = 0 then (2, 0) else (0, (togR x y).2)) :
    Calls Try.prog 34 #[.int .i64 9, .slice (some ⟨b, off, none⟩) 2 cap] w fun e w' => e = .returned (.tuple #[.int .i64 r.1, .int .i64 r.2]) ∧ Below w.heap.size w w' := by
  have p0 := past_cell c0
  have p1 := past_cell c1
  haveI : Nonempty (Past w) := ⟨⟨_, Below.refl _ _⟩⟩
  go_enter Try.func34, Try.ntmps34
  go_wp2_with fail
  refine wp_region_past (by kernel_rfl) (by kernel_rfl) ?_
  repeat (go_big_quiet_step (first | (go_at_call 50; exact in_past (together_at x y _))))
  refine wpQuiet_nil ?_
  rintro w3 ⟨⟨v3, hb3⟩, h3⟩
  obtain rfl : w3 = v3 := h3
  clear p0 p1 c0 c1
  generalize togR x y = t at *
  obtain ⟨t1, t2⟩ := t
  by_cases h0 : t2 = 0
  · subst h0
    simp only [if_true] at er
    subst er
    go_wp2_with fail
    exact bodyPost_ret (v := .tuple #[.int .i64 2, .int .i64 0]) (by simp [results, Try.results34, go_sem]) rfl ⟨rfl, hb3⟩
  · simp only [h0, if_false] at er
    subst er
    have q : (t2 != 0) = true := by simpa using h0
    go_wp2_with fail
    exact bodyPost_ret (v := .tuple #[.int .i64 0, .int .i64 t2]) (by simp [results, Try.results34, go_sem]) rfl ⟨rfl, hb3⟩
set_option maxHeartbeats 400000 in
theorem kidsType_10 (b off cap : Nat) (x y : Int) (w : World) (c0 : w.cell? ⟨b, off, none⟩ = some (.int .i64 x)) (c1 : w.cell? ⟨b, off + 1, none⟩ = some (.int .i64 y)) (r : Int × Int) (er : r = if (togR x y).2 = 0 then (2, 0) else (0, (togR x y).2)) :
    Calls Try.prog 34 #[.int .i64 10, .slice (some ⟨b, off, none⟩) 2 cap] w fun e w' => e = .returned (.tuple #[.int .i64 r.1, .int .i64 r.2]) ∧ Below w.heap.size w w' := by
  have p0 := past_cell c0
  have p1 := past_cell c1
  haveI : Nonempty (Past w) := ⟨⟨_, Below.refl _ _⟩⟩
  go_enter Try.func34, Try.ntmps34
  go_wp2_with fail
  refine wp_region_past (by kernel_rfl) (by kernel_rfl) ?_
  repeat (go_big_quiet_step (first | (go_at_call 50; exact in_past (together_at x y _))))
  refine wpQuiet_nil ?_
  rintro w3 ⟨⟨v3, hb3⟩, h3⟩
  obtain rfl : w3 = v3 := h3
  clear p0 p1 c0 c1
  generalize togR x y = t at *
  obtain ⟨t1, t2⟩ := t
  by_cases h0 : t2 = 0
  · subst h0
    simp only [if_true] at er
    subst er
    go_wp2_with fail
    exact bodyPost_ret (v := .tuple #[.int .i64 2, .int .i64 0]) (by simp [results, Try.results34, go_sem]) rfl ⟨rfl, hb3⟩
  · simp only [h0, if_false] at er
    subst er
    have q : (t2 != 0) = true := by simpa using h0
    go_wp2_with fail
    exact bodyPost_ret (v := .tuple #[.int .i64 0, .int .i64 t2]) (by simp [results, Try.results34, go_sem]) rfl ⟨rfl, hb3⟩
set_option maxHeartbeats 400000 in
theorem kidsType_11 (b off cap : Nat) (x y : Int) (w : World) (c0 : w.cell? ⟨b, off, none⟩ = some (.int .i64 x)) (c1 : w.cell? ⟨b, off + 1, none⟩ = some (.int .i64 y)) (r : Int × Int) (er : r = if (togR x y).2 = 0 then (2, 0) else (0, (togR x y).2)) :
    Calls Try.prog 34 #[.int .i64 11, .slice (some ⟨b, off, none⟩) 2 cap] w fun e w' => e = .returned (.tuple #[.int .i64 r.1, .int .i64 r.2]) ∧ Below w.heap.size w w' := by
  have p0 := past_cell c0
  have p1 := past_cell c1
  haveI : Nonempty (Past w) := ⟨⟨_, Below.refl _ _⟩⟩
  go_enter Try.func34, Try.ntmps34
  go_wp2_with fail
  refine wp_region_past (by kernel_rfl) (by kernel_rfl) ?_
  repeat (go_big_quiet_step (first | (go_at_call 50; exact in_past (together_at x y _))))
  refine wpQuiet_nil ?_
  rintro w3 ⟨⟨v3, hb3⟩, h3⟩
  obtain rfl : w3 = v3 := h3
  clear p0 p1 c0 c1
  generalize togR x y = t at *
  obtain ⟨t1, t2⟩ := t
  by_cases h0 : t2 = 0
  · subst h0
    simp only [if_true] at er
    subst er
    go_wp2_with fail
    exact bodyPost_ret (v := .tuple #[.int .i64 2, .int .i64 0]) (by simp [results, Try.results34, go_sem]) rfl ⟨rfl, hb3⟩
  · simp only [h0, if_false] at er
    subst er
    have q : (t2 != 0) = true := by simpa using h0
    go_wp2_with fail
    exact bodyPost_ret (v := .tuple #[.int .i64 0, .int .i64 t2]) (by simp [results, Try.results34, go_sem]) rfl ⟨rfl, hb3⟩
end Go.Proofs.Ytbdhmjojamoafaa
