/- The walk of exprs.kidsType: coalesce and case -/
import Derived.Test.YtbdhmjojamoafaaY2
namespace Go.Proofs.Ytbdhmjojamoafaa
open Go.RowKit

set_option maxHeartbeats 400000 in
theorem kidsType_18 (b off cap : Nat) (x y : Int) (w : World) (c0 : w.cell? ⟨b, off, none⟩ = some (.int .i64 x)) (c1 : w.cell? ⟨b, off + 1, none⟩ = some (.int .i64 y)) :
    Calls Try.prog 34 #[.int .i64 18, .slice (some ⟨b, off, none⟩) 2 cap] w fun e w' => e = .returned (.tuple #[.int .i64 (togR x y).1, .int .i64 (togR x y).2]) ∧ Below w.heap.size w w' := by
  have p0 := past_cell c0
  have p1 := past_cell c1
  haveI : Nonempty (Past w) := ⟨⟨_, Below.refl _ _⟩⟩
  go_enter Try.func34, Try.ntmps34
  go_wp2_with fail
  refine wp_region_past (by kernel_rfl) (by kernel_rfl) ?_
  repeat (go_big_quiet_step (first | (go_at_call 50; exact in_past (together_at x y _))))
  refine wpQuiet_nil ?_
  rintro w3 ⟨⟨v3, hb3⟩, h3⟩
  obtain rfl : w3 = v3 := h3
  go_wp2_with fail
  exact bodyPost_ret (v := .tuple #[.int .i64 (togR x y).1, .int .i64 (togR x y).2]) (by simp [results, Try.results34, go_sem]) rfl ⟨rfl, hb3⟩
set_option maxHeartbeats 800000 in
theorem kidsType_17 (b off cap : Nat) (x y z : Int) (w : World) (hb : b < w.heap.size) (c0 : w.cell? ⟨b, off, none⟩ = some (.int .i64 x)) (c1 : w.cell? ⟨b, off + 1, none⟩ = some (.int .i64 y)) (c2 : w.cell? ⟨b, off + 2, none⟩ = some (.int .i64 z)) (r : Int × Int) (er : r = if (togR x 2).2 = 0 then togR y z else (0, (togR x 2).2)) :
    Calls Try.prog 34 #[.int .i64 17, .slice (some ⟨b, off, none⟩) 3 cap] w fun e w' => e = .returned (.tuple #[.int .i64 r.1, .int .i64 r.2]) ∧ Below w.heap.size w w' := by
  go_enter Try.func34, Try.ntmps34
  go_wp2_with fail
  refine (together_at _ _ _).mono ?_
  rintro e w1 ⟨rfl, hb1⟩
  have d1 := (hb1.cell (p := ⟨b, off + 1, none⟩) hb).trans c1
  have d2 := (hb1.cell (p := ⟨b, off + 2, none⟩) hb).trans c2
  have p1 := past_cell d1
  have p2 := past_cell d2
  haveI : Nonempty (Past w1) := ⟨⟨_, Below.refl _ _⟩⟩
  clear c0 c1 c2
  generalize togR x 2 = t at *
  obtain ⟨t1, t2⟩ := t
  by_cases h0 : t2 = 0
  · subst h0
    simp only [if_true] at er
    subst er
    go_wp2_with fail
    refine wp_region_past (by kernel_rfl) (by kernel_rfl) ?_
    repeat (go_big_quiet_step (first | (go_at_call 50; exact in_past (together_at y z _))))
    refine wpQuiet_nil ?_
    rintro w3 ⟨⟨v3, hb3⟩, h3⟩
    obtain rfl : w3 = v3 := h3
    go_wp2_with fail
    exact bodyPost_ret (v := .tuple #[.int .i64 (togR y z).1, .int .i64 (togR y z).2]) (by simp [results, Try.results34, go_sem]) rfl ⟨rfl, chain hb1 hb3⟩
  · simp only [h0, if_false] at er
    subst er
    have q : (t2 != 0) = true := by simpa using h0
    go_wp2_with fail
    exact bodyPost_ret (v := .tuple #[.int .i64 0, .int .i64 t2]) (by simp [results, Try.results34, go_sem]) rfl ⟨rfl, hb1⟩
end Go.Proofs.Ytbdhmjojamoafaa
