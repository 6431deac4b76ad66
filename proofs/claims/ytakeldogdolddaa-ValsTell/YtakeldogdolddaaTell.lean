/- The walk of tidelaw1.ValsTell: for all values it answers true. -/
import Derived.Test.YtakeldogdolddaaW8
import Derived.Test.YtakeldogdolddaaW10
import Derived.Test.YtakeldogdolddaaW13
import Derived.Test.YtakeldogdolddaaTab
import Derived.Test.YtakeldogdolddaaLaw
namespace Go.Proofs.Ytakeldogdolddaa
open Go.RowKit

def tellT : List Line := [(some 17, [3], []), (some 18, [17], [0]), (some 19, [3], []), (some 20, [19], [2, 1]), (some 21, [18, 20], [1, 3]), (some 22, [21], [4, 3]), (some 23, [3, 22], [5]), (some 24, [4, 22], [5]), (some 25, [23, 24, 22], [6, 7, 5, 5]), (some 26, [3, 22], [5]), (some 27, [4, 22], [5]), (some 28, [26, 27, 22], [9, 10, 8, 5]), (some 29, [25, 28, 22], [8, 11, 5]), (some 30, [22, 29], [5, 12]), (some 31, [30], [13, 11]), (some 32, [3, 31], [14]), (some 33, [4, 31], [14]), (some 34, [32, 33, 31], [15, 16, 14, 14]), (some 35, [3, 31], [14]), (some 36, [4, 31], [14]), (some 37, [35, 36, 31], [18, 19, 17, 14]), (some 38, [34, 37, 31], [17, 20, 14]), (some 39, [31, 38], [14, 21]), (some 40, [39], [22, 20]), (some 41, [3, 40], [23]), (some 42, [4, 40], [23]), (some 43, [41, 42, 40], [24, 25, 23, 23]), (some 44, [3, 40], [23]), (some 45, [4, 40], [23]), (some 46, [44, 45, 40], [27, 28, 26, 23]), (some 47, [43, 46, 40], [26, 29, 23]), (some 48, [40, 47], [23, 30]), (some 49, [48], [31, 29]), (some 50, [3, 49], [32]), (some 51, [4, 49], [32]), (some 52, [50, 51, 49], [33, 34, 32, 32]), (some 53, [3, 49], [32]), (some 54, [4, 49], [32]), (some 55, [53, 54, 49], [36, 37, 35, 32]), (some 56, [52, 55, 49], [35, 38, 32]), (some 57, [49, 56], [32, 39]), (some 58, [57], [40, 38]), (some 59, [3, 58], [41]), (some 60, [4, 58], [41]), (some 61, [59, 60, 58], [42, 43, 41, 41]), (some 62, [3, 58], [41]), (some 63, [4, 58], [41]), (some 64, [62, 63, 58], [45, 46, 44, 41]), (some 65, [61, 64, 58], [44, 47, 41]), (some 66, [58, 65], [41, 48]), (some 67, [66], [49, 47]), (some 68, [3, 67], [50]), (some 69, [68, 67], [51, 50, 50]), (some 70, [3, 67], [50]), (some 71, [70, 67], [53, 52, 50]), (some 72, [69, 71, 67], [52, 54, 50]), (some 73, [67, 72], [50, 55]), (some 74, [73], [56, 54]), (some 75, [3, 74], [57]), (some 76, [75, 74], [58, 57, 57]), (some 77, [3, 74], [57]), (some 78, [77, 74], [60, 59, 57]), (some 79, [76, 78, 74], [59, 61, 57]), (some 80, [74, 79], [57, 62]), (some 81, [80], [63, 61]), (some 82, [2, 81], [64]), (some 83, [3, 81], [64]), (some 84, [4, 81], [64]), (some 85, [82, 83, 84, 81], [65, 66, 67, 64, 64]), (some 86, [2, 81], [64]), (some 87, [3, 81], [64]), (some 88, [4, 81], [64]), (some 89, [86, 87, 88, 81], [69, 70, 71, 68, 64]), (some 90, [85, 89, 81], [68, 72, 64]), (some 91, [81, 90], [64, 73]), (some 92, [91], [74, 72]), (some 93, [3, 92], [75]), (some 94, [4, 92], [75]), (some 95, [93, 94, 92], [76, 77, 75, 75]), (some 96, [3, 92], [75]), (some 97, [4, 92], [75]), (some 98, [96, 97, 92], [79, 80, 78, 75]), (some 99, [95, 98, 92], [78, 81, 75]), (some 100, [92, 99], [75, 82]), (some 6, [100], [83, 81, 0, 1, 2, 3, 4, 5, 6, 7, 8, 9, 10, 11, 12, 13, 14, 15, 16, 17, 18, 19, 20, 21, 22, 23, 24, 25, 26, 27, 28, 29, 30, 31, 32, 33, 34, 35, 36, 37, 38, 39, 40, 41, 42, 43, 44, 45, 46, 47, 48, 49, 50, 51, 52, 53, 54, 55, 56, 57, 58, 59, 60, 61, 62, 63, 64, 65, 66, 67, 68, 69, 70, 71, 72, 73, 74, 75, 76, 77, 78, 79, 80, 81, 82, 83])]
def Num (k n : Int) : Prop := k = 3 → -1000000000000000 ≤ n ∧ n ≤ 1000000000000000
def Txt (k : Int) (s : ByteArray) : Prop := k = 4 → s.size ≤ 60
theorem right_facts {k n : Int} {s : ByteArray} (h : wrongF k n s = 0) : 1 ≤ k ∧ k ≤ 4 ∧ Tru k n ∧ Num k n ∧ Txt k s := by
  unfold wrongF at h
  unfold Tru Num Txt
  by_cases h1 : k = 1
  · subst h1; refine ⟨by omega, by omega, by omega, by omega, by omega⟩
  by_cases h2 : k = 2
  · subst h2
    simp at h
    refine ⟨by omega, by omega, fun _ => by omega, by omega, by omega⟩
  by_cases h3 : k = 3
  · subst h3
    simp at h
    refine ⟨by omega, by omega, by omega, fun _ => by omega, by omega⟩
  by_cases h4 : k = 4
  · subst h4
    simp at h
    refine ⟨by omega, by omega, by omega, by omega, fun _ => by omega⟩
  · simp [h1, h2, h3, h4] at h
theorem right_two {k0 n0 k1 n1 : Int} {s0 s1 : ByteArray} (h : rightB [(k0, n0, s0), (k1, n1, s1)] = true) : wrongF k0 n0 s0 = 0 ∧ wrongF k1 n1 s1 = 0 := by
  simpa [rightB] using h

set_option maxHeartbeats 8000000 in
set_option maxRecDepth 100000 in
theorem tell_walk (k0 n0 k1 n1 c : Int) (s0 s1 : ByteArray) (w : World) :
    Calls Try.prog 3 #[.agg #[.int .i64 k0, .int .i64 n0, .string s0], .agg #[.int .i64 k1, .int .i64 n1, .string s1], .int .i32 c] w fun e w' => e = .returned (.bool true) ∧ Below w.heap.size w w' := by
  have A0 := (Box.new w (.int .i64 k0) (.int .i64 n0) (.string s0) 23).alloc (.cells #[.int .i64 k1, .int .i64 n1, .string s1] 23)
  have B0 := Box.new (w.alloc (.cells #[.int .i64 k0, .int .i64 n0, .string s0] 23)) (.int .i64 k1) (.int .i64 n1) (.string s1) 23
  simp only [World.size_alloc] at B0
  have Z0 : Below w.heap.size w ((w.alloc (.cells #[.int .i64 k0, .int .i64 n0, .string s0] 23)).alloc (.cells #[.int .i64 k1, .int .i64 n1, .string s1] 23)) := ((Below.refl _ _).alloc (Nat.le_refl _) _).alloc (by simp) _
  go_enter Try.func3, Try.ntmps3
  go_wp2_with fail
  generalize ((w.alloc (.cells #[.int .i64 k0, .int .i64 n0, .string s0] 23)).alloc (.cells #[.int .i64 k1, .int .i64 n1, .string s1] 23)) = W at *
  haveI : Nonempty (Past W) := ⟨⟨W, Below.refl _ _⟩⟩
  have p0 := past_cell A0.c0
  have p1 := past_cell A0.c1
  have p2 := past_cell A0.c2
  refine wp_region_past (by kernel_rfl) (by kernel_rfl) ?_
  repeat (go_big_quiet_step (first | (go_at_call 9; exact in_past (wrong_any _ _ _ _)) | (go_at_call 10; exact in_past (refWrong_any _ _ _ _))))
  refine wpQuiet_nil ?_
  rintro _ ⟨⟨w1, hb1⟩, rfl⟩
  have Z1 := chain Z0 hb1
  have A1 := A0.next hb1
  have B1 := B0.next hb1
  have ⟨a0, a1, a2, a3, a4, a5, a6⟩ := A1
  have ⟨b0, b1, b2, b3, b4, b5, b6⟩ := B1
  clear p0 p1 p2 A0 B0 Z0 hb1
  go_wp2_with fail
  refine (right_row [(k0, n0, s0), (k1, n1, s1)] _ _ _ _ (row2 _ _ _ _ _ _ _ _) (by simp) (by simp [maxLen])).mono ?_
  rintro e w2 ⟨rfl, hb2⟩
  have Z2 := chain (Z1.alloc Z1.size _) hb2
  have A2 := (A1.alloc _).next hb2
  have B2 := (B1.alloc _).next hb2
  clear a0 a1 a2 a3 a4 a5 a6 b0 b1 b2 b3 b4 b5 b6 A1 B1 Z1 hb2
  cases hr : rightB [(k0, n0, s0), (k1, n1, s1)]
  · go_wp2_with fail
    go_ret
    exact ⟨rfl, Z2⟩
  have ⟨hr0, hr1⟩ := right_two hr
  have ⟨f0, f1, t0, u0, x0⟩ := right_facts hr0
  have ⟨_, _, t1, u1, x1⟩ := right_facts hr1
  clear hr hr0 hr1
  go_wp2_with fail
  simp only [List.append_eq, List.cons_append, List.nil_append]
  haveI : Nonempty (Past w2) := ⟨⟨w2, Below.refl _ _⟩⟩
  have p0 := past_cell A2.c0
  have p1 := past_cell A2.c1
  have p2 := past_cell A2.c2
  have p3 := past_cell B2.c0
  have p4 := past_cell B2.c1
  have p5 := past_cell B2.c2
  clear A2 B2
  refine wp_region_tab tellT (by kernel_rfl) (by as_aux_lemma => kernel_rfl) (by as_aux_lemma => kernel_rfl) (by as_aux_lemma => kernel_rfl) ?_
  iterate 18 (go_big_quiet_step (first | (go_at_call 12; exact in_past (bare_any _ _ _ _)) | (go_at_call 13; exact in_past (refBare_any _ _ _ _)) | (go_at_call 14; exact in_past (compare_any _ _ _ _ _ _ _)) | (go_at_call 15; exact in_past (refOrder_any _ _ _ _ _ _ _ f0 f1)) | (go_at_call 16; exact in_past (equal_any _ _ _ _ _ _ _)) | (go_at_call 17; exact in_past (refEqual_any _ _ _ _ _ _ _ f0 f1)) | (go_at_call 18; exact in_past (less_any _ _ _ _ _ _ _)) | (go_at_call 19; exact in_past (refLess_any _ _ _ _ _ _ _ f0 f1)) | (go_at_call 20; exact in_past (and_any _ _ _ _ _ _ _)) | (go_at_call 21; exact in_past (refAnd_any _ _ _ _ _ _ _ t0 t1)) | (go_at_call 22; exact in_past (or_any _ _ _ _ _ _ _)) | (go_at_call 23; exact in_past (refOr_any _ _ _ _ _ _ _ t0 t1)) | (go_at_call 24; exact in_past (not_any _ _ _ _)) | (go_at_call 25; exact in_past (refNot_any _ _ _ _ t0)) | (go_at_call 26; exact in_past (true_any _ _ _ _)) | (go_at_call 27; exact in_past (refIs_any _ _ _ _ _ t0)) | (go_at_call 28; exact in_past (reckon_any _ _ _ _ _ _ _ _)) | (go_at_call 29; exact in_past (refReckon_any _ _ _ _ _ _ _ _ u0 u1)) | (go_at_call 30; exact in_past (join_any _ _ _ _ _ _ _ x0 x1)) | (go_at_call 31; exact in_past (refJoin_any _ _ _ _ _ _ _ x0 x1))))
  as_aux_lemma =>
   iterate 18 (go_big_quiet_step (first | (go_at_call 12; exact in_past (bare_any _ _ _ _)) | (go_at_call 13; exact in_past (refBare_any _ _ _ _)) | (go_at_call 14; exact in_past (compare_any _ _ _ _ _ _ _)) | (go_at_call 15; exact in_past (refOrder_any _ _ _ _ _ _ _ f0 f1)) | (go_at_call 16; exact in_past (equal_any _ _ _ _ _ _ _)) | (go_at_call 17; exact in_past (refEqual_any _ _ _ _ _ _ _ f0 f1)) | (go_at_call 18; exact in_past (less_any _ _ _ _ _ _ _)) | (go_at_call 19; exact in_past (refLess_any _ _ _ _ _ _ _ f0 f1)) | (go_at_call 20; exact in_past (and_any _ _ _ _ _ _ _)) | (go_at_call 21; exact in_past (refAnd_any _ _ _ _ _ _ _ t0 t1)) | (go_at_call 22; exact in_past (or_any _ _ _ _ _ _ _)) | (go_at_call 23; exact in_past (refOr_any _ _ _ _ _ _ _ t0 t1)) | (go_at_call 24; exact in_past (not_any _ _ _ _)) | (go_at_call 25; exact in_past (refNot_any _ _ _ _ t0)) | (go_at_call 26; exact in_past (true_any _ _ _ _)) | (go_at_call 27; exact in_past (refIs_any _ _ _ _ _ t0)) | (go_at_call 28; exact in_past (reckon_any _ _ _ _ _ _ _ _)) | (go_at_call 29; exact in_past (refReckon_any _ _ _ _ _ _ _ _ u0 u1)) | (go_at_call 30; exact in_past (join_any _ _ _ _ _ _ _ x0 x1)) | (go_at_call 31; exact in_past (refJoin_any _ _ _ _ _ _ _ x0 x1))))
   as_aux_lemma =>
    iterate 18 (go_big_quiet_step (first | (go_at_call 12; exact in_past (bare_any _ _ _ _)) | (go_at_call 13; exact in_past (refBare_any _ _ _ _)) | (go_at_call 14; exact in_past (compare_any _ _ _ _ _ _ _)) | (go_at_call 15; exact in_past (refOrder_any _ _ _ _ _ _ _ f0 f1)) | (go_at_call 16; exact in_past (equal_any _ _ _ _ _ _ _)) | (go_at_call 17; exact in_past (refEqual_any _ _ _ _ _ _ _ f0 f1)) | (go_at_call 18; exact in_past (less_any _ _ _ _ _ _ _)) | (go_at_call 19; exact in_past (refLess_any _ _ _ _ _ _ _ f0 f1)) | (go_at_call 20; exact in_past (and_any _ _ _ _ _ _ _)) | (go_at_call 21; exact in_past (refAnd_any _ _ _ _ _ _ _ t0 t1)) | (go_at_call 22; exact in_past (or_any _ _ _ _ _ _ _)) | (go_at_call 23; exact in_past (refOr_any _ _ _ _ _ _ _ t0 t1)) | (go_at_call 24; exact in_past (not_any _ _ _ _)) | (go_at_call 25; exact in_past (refNot_any _ _ _ _ t0)) | (go_at_call 26; exact in_past (true_any _ _ _ _)) | (go_at_call 27; exact in_past (refIs_any _ _ _ _ _ t0)) | (go_at_call 28; exact in_past (reckon_any _ _ _ _ _ _ _ _)) | (go_at_call 29; exact in_past (refReckon_any _ _ _ _ _ _ _ _ u0 u1)) | (go_at_call 30; exact in_past (join_any _ _ _ _ _ _ _ x0 x1)) | (go_at_call 31; exact in_past (refJoin_any _ _ _ _ _ _ _ x0 x1))))
    as_aux_lemma =>
     iterate 18 (go_big_quiet_step (first | (go_at_call 12; exact in_past (bare_any _ _ _ _)) | (go_at_call 13; exact in_past (refBare_any _ _ _ _)) | (go_at_call 14; exact in_past (compare_any _ _ _ _ _ _ _)) | (go_at_call 15; exact in_past (refOrder_any _ _ _ _ _ _ _ f0 f1)) | (go_at_call 16; exact in_past (equal_any _ _ _ _ _ _ _)) | (go_at_call 17; exact in_past (refEqual_any _ _ _ _ _ _ _ f0 f1)) | (go_at_call 18; exact in_past (less_any _ _ _ _ _ _ _)) | (go_at_call 19; exact in_past (refLess_any _ _ _ _ _ _ _ f0 f1)) | (go_at_call 20; exact in_past (and_any _ _ _ _ _ _ _)) | (go_at_call 21; exact in_past (refAnd_any _ _ _ _ _ _ _ t0 t1)) | (go_at_call 22; exact in_past (or_any _ _ _ _ _ _ _)) | (go_at_call 23; exact in_past (refOr_any _ _ _ _ _ _ _ t0 t1)) | (go_at_call 24; exact in_past (not_any _ _ _ _)) | (go_at_call 25; exact in_past (refNot_any _ _ _ _ t0)) | (go_at_call 26; exact in_past (true_any _ _ _ _)) | (go_at_call 27; exact in_past (refIs_any _ _ _ _ _ t0)) | (go_at_call 28; exact in_past (reckon_any _ _ _ _ _ _ _ _)) | (go_at_call 29; exact in_past (refReckon_any _ _ _ _ _ _ _ _ u0 u1)) | (go_at_call 30; exact in_past (join_any _ _ _ _ _ _ _ x0 x1)) | (go_at_call 31; exact in_past (refJoin_any _ _ _ _ _ _ _ x0 x1))))
     as_aux_lemma =>
      repeat (go_big_quiet_step (first | (go_at_call 12; exact in_past (bare_any _ _ _ _)) | (go_at_call 13; exact in_past (refBare_any _ _ _ _)) | (go_at_call 14; exact in_past (compare_any _ _ _ _ _ _ _)) | (go_at_call 15; exact in_past (refOrder_any _ _ _ _ _ _ _ f0 f1)) | (go_at_call 16; exact in_past (equal_any _ _ _ _ _ _ _)) | (go_at_call 17; exact in_past (refEqual_any _ _ _ _ _ _ _ f0 f1)) | (go_at_call 18; exact in_past (less_any _ _ _ _ _ _ _)) | (go_at_call 19; exact in_past (refLess_any _ _ _ _ _ _ _ f0 f1)) | (go_at_call 20; exact in_past (and_any _ _ _ _ _ _ _)) | (go_at_call 21; exact in_past (refAnd_any _ _ _ _ _ _ _ t0 t1)) | (go_at_call 22; exact in_past (or_any _ _ _ _ _ _ _)) | (go_at_call 23; exact in_past (refOr_any _ _ _ _ _ _ _ t0 t1)) | (go_at_call 24; exact in_past (not_any _ _ _ _)) | (go_at_call 25; exact in_past (refNot_any _ _ _ _ t0)) | (go_at_call 26; exact in_past (true_any _ _ _ _)) | (go_at_call 27; exact in_past (refIs_any _ _ _ _ _ t0)) | (go_at_call 28; exact in_past (reckon_any _ _ _ _ _ _ _ _)) | (go_at_call 29; exact in_past (refReckon_any _ _ _ _ _ _ _ _ u0 u1)) | (go_at_call 30; exact in_past (join_any _ _ _ _ _ _ _ x0 x1)) | (go_at_call 31; exact in_past (refJoin_any _ _ _ _ _ _ _ x0 x1))))
      refine wpQuiet_nil ?_
      rintro _ ⟨⟨w3, B3⟩, rfl⟩
      go_wp2_with fail
      go_ret
      exact ⟨rfl, chain Z2 B3⟩
end Go.Proofs.Ytakeldogdolddaa
