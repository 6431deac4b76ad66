/- The walk of tidelaw1.ValsLogic: for all values it answers true. -/
import Derived.Test.YtakeldogdolddaaW8
import Derived.Test.YtakeldogdolddaaTab
import Derived.Test.YtakeldogdolddaaLaw
namespace Go.Proofs.Ytakeldogdolddaa
open Go.RowKit

def logicT : List Line := [(some 18, [7], []), (some 19, [3], []), (some 20, [4], []), (some 21, [18, 19, 20], [0, 1, 2]), (some 22, [7], []), (some 23, [4], []), (some 24, [3], []), (some 25, [22, 23, 24], [4, 5, 6, 3]), (some 26, [21, 25], [3, 7]), (some 27, [26], [8, 7]), (some 28, [8, 27], [9]), (some 29, [3, 27], [9]), (some 30, [4, 27], [9]), (some 31, [28, 29, 30, 27], [10, 11, 12, 9, 9]), (some 32, [8, 27], [9]), (some 33, [4, 27], [9]), (some 34, [3, 27], [9]), (some 35, [32, 33, 34, 27], [14, 15, 16, 13, 9]), (some 36, [31, 35, 27], [13, 17, 9]), (some 37, [27, 36], [9, 18]), (some 38, [37], [19, 17]), (some 39, [7, 38], [20]), (some 40, [3, 38], [20]), (some 41, [7, 38], [20]), (some 42, [4, 38], [20]), (some 43, [5, 38], [20]), (some 44, [41, 42, 43, 38], [23, 24, 25, 20, 20]), (some 45, [39, 40, 44, 38], [21, 22, 26, 26, 20]), (some 46, [7, 38], [20]), (some 47, [7, 38], [20]), (some 48, [3, 38], [20]), (some 49, [4, 38], [20]), (some 50, [47, 48, 49, 38], [29, 30, 31, 27, 20]), (some 51, [5, 38], [20]), (some 52, [46, 50, 51, 38], [28, 32, 33, 32, 20]), (some 53, [45, 52, 38], [27, 34, 20]), (some 54, [38, 53], [20, 35]), (some 55, [54], [36, 34]), (some 56, [8, 55], [37]), (some 57, [3, 55], [37]), (some 58, [8, 55], [37]), (some 59, [4, 55], [37]), (some 60, [5, 55], [37]), (some 61, [58, 59, 60, 55], [40, 41, 42, 37, 37]), (some 62, [56, 57, 61, 55], [38, 39, 43, 43, 37]), (some 63, [8, 55], [37]), (some 64, [8, 55], [37]), (some 65, [3, 55], [37]), (some 66, [4, 55], [37]), (some 67, [64, 65, 66, 55], [46, 47, 48, 44, 37]), (some 68, [5, 55], [37]), (some 69, [63, 67, 68, 55], [45, 49, 50, 49, 37]), (some 70, [62, 69, 55], [44, 51, 37]), (some 71, [55, 70], [37, 52]), (some 72, [71], [53, 51]), (some 73, [7, 72], [54]), (some 74, [3, 72], [54]), (some 75, [8, 72], [54]), (some 76, [4, 72], [54]), (some 77, [5, 72], [54]), (some 78, [75, 76, 77, 72], [57, 58, 59, 54, 54]), (some 79, [73, 74, 78, 72], [55, 56, 60, 60, 54]), (some 80, [8, 72], [54]), (some 81, [7, 72], [54]), (some 82, [3, 72], [54]), (some 83, [4, 72], [54]), (some 84, [81, 82, 83, 72], [63, 64, 65, 61, 54]), (some 85, [7, 72], [54]), (some 86, [3, 72], [54]), (some 87, [5, 72], [54]), (some 88, [85, 86, 87, 72], [67, 68, 69, 66, 54]), (some 89, [80, 84, 88, 72], [62, 66, 70, 70, 54]), (some 90, [79, 89, 72], [61, 71, 54]), (some 91, [72, 90], [54, 72]), (some 92, [91], [73, 71]), (some 93, [8, 92], [74]), (some 94, [3, 92], [74]), (some 95, [7, 92], [74]), (some 96, [4, 92], [74]), (some 97, [5, 92], [74]), (some 98, [95, 96, 97, 92], [77, 78, 79, 74, 74]), (some 99, [93, 94, 98, 92], [75, 76, 80, 80, 74]), (some 100, [7, 92], [74]), (some 101, [8, 92], [74]), (some 102, [3, 92], [74]), (some 103, [4, 92], [74]), (some 104, [101, 102, 103, 92], [83, 84, 85, 81, 74]), (some 105, [8, 92], [74]), (some 106, [3, 92], [74]), (some 107, [5, 92], [74]), (some 108, [105, 106, 107, 92], [87, 88, 89, 86, 74]), (some 109, [100, 104, 108, 92], [82, 86, 90, 90, 74]), (some 110, [99, 109, 92], [81, 91, 74]), (some 111, [92, 110], [74, 92]), (some 112, [111], [93, 91]), (some 113, [9, 112], [94]), (some 114, [7, 112], [94]), (some 115, [3, 112], [94]), (some 116, [4, 112], [94]), (some 117, [114, 115, 116, 112], [96, 97, 98, 94, 94]), (some 118, [113, 117, 112], [95, 99, 99, 94]), (some 119, [8, 112], [94]), (some 120, [9, 112], [94]), (some 121, [3, 112], [94]), (some 122, [120, 121, 112], [102, 103, 100, 94]), (some 123, [9, 112], [94]), (some 124, [4, 112], [94]), (some 125, [123, 124, 112], [105, 106, 104, 94]), (some 126, [119, 122, 125, 112], [101, 104, 107, 107, 94]), (some 127, [118, 126, 112], [100, 108, 94]), (some 128, [112, 127], [94, 109]), (some 129, [128], [110, 108]), (some 130, [9, 129], [111]), (some 131, [8, 129], [111]), (some 132, [3, 129], [111]), (some 133, [4, 129], [111]), (some 134, [131, 132, 133, 129], [113, 114, 115, 111, 111]), (some 135, [130, 134, 129], [112, 116, 116, 111]), (some 136, [7, 129], [111]), (some 137, [9, 129], [111]), (some 138, [3, 129], [111]), (some 139, [137, 138, 129], [119, 120, 117, 111]), (some 140, [9, 129], [111]), (some 141, [4, 129], [111]), (some 142, [140, 141, 129], [122, 123, 121, 111]), (some 143, [136, 139, 142, 129], [118, 121, 124, 124, 111]), (some 144, [135, 143, 129], [117, 125, 111]), (some 145, [129, 144], [111, 126]), (some 146, [145], [127, 125]), (some 147, [9, 146], [128]), (some 148, [9, 146], [128]), (some 149, [9, 146], [128]), (some 150, [3, 146], [128]), (some 151, [149, 150, 146], [131, 132, 128, 128]), (some 152, [148, 151, 146], [130, 133, 133, 128]), (some 153, [147, 152, 146], [129, 134, 134, 128]), (some 154, [9, 146], [128]), (some 155, [3, 146], [128]), (some 156, [154, 155, 146], [136, 137, 135, 128]), (some 157, [153, 156, 146], [135, 138, 128]), (some 158, [146, 157], [128, 139]), (some 6, [158], [140, 138, 0, 1, 2, 3, 4, 5, 6, 7, 8, 9, 10, 11, 12, 13, 14, 15, 16, 17, 18, 19, 20, 21, 22, 23, 24, 25, 26, 27, 28, 29, 30, 31, 32, 33, 34, 35, 36, 37, 38, 39, 40, 41, 42, 43, 44, 45, 46, 47, 48, 49, 50, 51, 52, 53, 54, 55, 56, 57, 58, 59, 60, 61, 62, 63, 64, 65, 66, 67, 68, 69, 70, 71, 72, 73, 74, 75, 76, 77, 78, 79, 80, 81, 82, 83, 84, 85, 86, 87, 88, 89, 90, 91, 92, 93, 94, 95, 96, 97, 98, 99, 100, 101, 102, 103, 104, 105, 106, 107, 108, 109, 110, 111, 112, 113, 114, 115, 116, 117, 118, 119, 120, 121, 122, 123, 124, 125, 126, 127, 128, 129, 130, 131, 132, 133, 134, 135, 136, 137, 138, 139, 140])]

theorem and3_comm (a b : Option Bool) : and3 b a = and3 a b := by rcases a with _ | _ | _ <;> rcases b with _ | _ | _ <;> rfl
theorem or3_comm (a b : Option Bool) : or3 b a = or3 a b := by rcases a with _ | _ | _ <;> rcases b with _ | _ | _ <;> rfl
theorem and3_assoc (a b c : Option Bool) : and3 (and3 a b) c = and3 a (and3 b c) := by rcases a with _ | _ | _ <;> rcases b with _ | _ | _ <;> rcases c with _ | _ | _ <;> rfl
theorem or3_assoc (a b c : Option Bool) : or3 (or3 a b) c = or3 a (or3 b c) := by rcases a with _ | _ | _ <;> rcases b with _ | _ | _ <;> rcases c with _ | _ | _ <;> rfl
theorem and3_or3 (a b c : Option Bool) : or3 (and3 a b) (and3 a c) = and3 a (or3 b c) := by rcases a with _ | _ | _ <;> rcases b with _ | _ | _ <;> rcases c with _ | _ | _ <;> rfl
theorem or3_and3 (a b c : Option Bool) : and3 (or3 a b) (or3 a c) = or3 a (and3 b c) := by rcases a with _ | _ | _ <;> rcases b with _ | _ | _ <;> rcases c with _ | _ | _ <;> rfl
theorem not3_and3 (a b : Option Bool) : or3 (not3 a) (not3 b) = not3 (and3 a b) := by rcases a with _ | _ | _ <;> rcases b with _ | _ | _ <;> rfl
theorem not3_or3 (a b : Option Bool) : and3 (not3 a) (not3 b) = not3 (or3 a b) := by rcases a with _ | _ | _ <;> rcases b with _ | _ | _ <;> rfl
theorem not3_3 (a : Option Bool) : not3 (not3 (not3 a)) = not3 a := by rcases a with _ | _ | _ <;> rfl


set_option maxHeartbeats 4000000 in
set_option maxRecDepth 100000 in
theorem logic_core (k0 n0 k1 n1 k2 n2 : Int) (s0 s1 s2 : ByteArray) (ta tb tc : Option Bool) (w : World) (hta : cls k0 n0 = ta) (htb : cls k1 n1 = tb) (htc : cls k2 n2 = tc) :
    Calls Try.prog 5 #[.agg #[.int .i64 k0, .int .i64 n0, .string s0], .agg #[.int .i64 k1, .int .i64 n1, .string s1], .agg #[.int .i64 k2, .int .i64 n2, .string s2]] w fun e w' => e = .returned (.bool true) ∧ Below w.heap.size w w' := by
  have hcls := cls_t
  have r1 := and3_comm ta tb
  have r2 := or3_comm ta tb
  have r3 := and3_assoc ta tb tc
  have r4 := or3_assoc ta tb tc
  have r5 := and3_or3 ta tb tc
  have r6 := or3_and3 ta tb tc
  have r7 := not3_and3 ta tb
  have r8 := not3_or3 ta tb
  have r9 := not3_3 ta
  have A0 := ((Box.new w (.int .i64 k0) (.int .i64 n0) (.string s0) 23).alloc (.cells #[.int .i64 k1, .int .i64 n1, .string s1] 23)).alloc (.cells #[.int .i64 k2, .int .i64 n2, .string s2] 23)
  have B0 := (Box.new (w.alloc (.cells #[.int .i64 k0, .int .i64 n0, .string s0] 23)) (.int .i64 k1) (.int .i64 n1) (.string s1) 23).alloc (.cells #[.int .i64 k2, .int .i64 n2, .string s2] 23)
  have C0 := Box.new ((w.alloc (.cells #[.int .i64 k0, .int .i64 n0, .string s0] 23)).alloc (.cells #[.int .i64 k1, .int .i64 n1, .string s1] 23)) (.int .i64 k2) (.int .i64 n2) (.string s2) 23
  simp only [World.size_alloc] at B0 C0
  have Z0 : Below w.heap.size w (((w.alloc (.cells #[.int .i64 k0, .int .i64 n0, .string s0] 23)).alloc (.cells #[.int .i64 k1, .int .i64 n1, .string s1] 23)).alloc (.cells #[.int .i64 k2, .int .i64 n2, .string s2] 23)) := (((Below.refl _ _).alloc (Nat.le_refl _) _).alloc (by simp) _).alloc (by simp; omega) _
  go_enter Try.func5, Try.ntmps5
  go_wp2_with fail
  refine (alive_any _).mono ?_
  rintro e w1 ⟨rfl, hb1⟩
  have Z1 := chain Z0 hb1
  have A1 := A0.next hb1
  have B1 := B0.next hb1
  have C1 := C0.next hb1
  have ⟨a0, a1, a2, a3, a4, a5, a6⟩ := A1
  have ⟨b0, b1, b2, b3, b4, b5, b6⟩ := B1
  have ⟨c0, c1, c2, c3, c4, c5, c6⟩ := C1
  clear A0 B0 C0 Z0 hb1
  go_wp2_with fail
  refine (right_row [(k0, n0, s0), (k1, n1, s1), (k2, n2, s2)] _ _ _ _ (row3 _ _ _ _ _ _ _ _ _ _ _) (by simp) (by simp [maxLen])).mono ?_
  rintro e w2 ⟨rfl, hb2⟩
  have Z2 := chain (Z1.alloc Z1.size _) hb2
  have A2 := (A1.alloc _).next hb2
  have B2 := (B1.alloc _).next hb2
  have C2 := (C1.alloc _).next hb2
  clear a0 a1 a2 a3 a4 a5 a6 b0 b1 b2 b3 b4 b5 b6 c0 c1 c2 c3 c4 c5 c6 A1 B1 C1 Z1 hb2
  have ⟨a0, a1, a2, a3, a4, a5, a6⟩ := A2
  have ⟨b0, b1, b2, b3, b4, b5, b6⟩ := B2
  have ⟨c0, c1, c2, c3, c4, c5, c6⟩ := C2
  cases hr : rightB [(k0, n0, s0), (k1, n1, s1), (k2, n2, s2)]
  · go_wp2_with fail
    go_ret
    exact ⟨rfl, Z2⟩
  clear hr
  go_wp2_with fail
  simp only [List.append_eq, List.cons_append, List.nil_append]
  haveI : Nonempty (Past w2) := ⟨⟨w2, Below.refl _ _⟩⟩
  have p0 := past_cell a1
  have p1 := past_cell a2
  have p2 := past_cell a3
  have p3 := past_cell b1
  have p4 := past_cell b2
  have p5 := past_cell b3
  have p6 := past_cell c1
  have p7 := past_cell c2
  have p8 := past_cell c3
  clear a0 a1 a2 a3 a4 a5 a6 b0 b1 b2 b3 b4 b5 b6 c0 c1 c2 c3 c4 c5 c6 A2 B2 C2
  refine wp_region_tab logicT (by kernel_rfl) (by as_aux_lemma => kernel_rfl) (by as_aux_lemma => kernel_rfl) (by as_aux_lemma => kernel_rfl) ?_
  iterate 18 (go_big_quiet_step (first | (go_at_call 20; exact in_past (and_any _ _ _ _ _ _ _)) | (go_at_call 22; exact in_past (or_any _ _ _ _ _ _ _)) | (go_at_call 24; exact in_past (not_any _ _ _ _))))
  as_aux_lemma =>
   iterate 18 (go_big_quiet_step (first | (go_at_call 20; exact in_past (and_any _ _ _ _ _ _ _)) | (go_at_call 22; exact in_past (or_any _ _ _ _ _ _ _)) | (go_at_call 24; exact in_past (not_any _ _ _ _))))
   as_aux_lemma =>
    iterate 18 (go_big_quiet_step (first | (go_at_call 20; exact in_past (and_any _ _ _ _ _ _ _)) | (go_at_call 22; exact in_past (or_any _ _ _ _ _ _ _)) | (go_at_call 24; exact in_past (not_any _ _ _ _))))
    as_aux_lemma =>
     iterate 18 (go_big_quiet_step (first | (go_at_call 20; exact in_past (and_any _ _ _ _ _ _ _)) | (go_at_call 22; exact in_past (or_any _ _ _ _ _ _ _)) | (go_at_call 24; exact in_past (not_any _ _ _ _))))
     as_aux_lemma =>
      iterate 18 (go_big_quiet_step (first | (go_at_call 20; exact in_past (and_any _ _ _ _ _ _ _)) | (go_at_call 22; exact in_past (or_any _ _ _ _ _ _ _)) | (go_at_call 24; exact in_past (not_any _ _ _ _))))
      as_aux_lemma =>
       iterate 18 (go_big_quiet_step (first | (go_at_call 20; exact in_past (and_any _ _ _ _ _ _ _)) | (go_at_call 22; exact in_past (or_any _ _ _ _ _ _ _)) | (go_at_call 24; exact in_past (not_any _ _ _ _))))
       as_aux_lemma =>
        iterate 18 (go_big_quiet_step (first | (go_at_call 20; exact in_past (and_any _ _ _ _ _ _ _)) | (go_at_call 22; exact in_past (or_any _ _ _ _ _ _ _)) | (go_at_call 24; exact in_past (not_any _ _ _ _))))
        as_aux_lemma =>
         repeat (go_big_quiet_step (first | (go_at_call 20; exact in_past (and_any _ _ _ _ _ _ _)) | (go_at_call 22; exact in_past (or_any _ _ _ _ _ _ _)) | (go_at_call 24; exact in_past (not_any _ _ _ _))))
         refine wpQuiet_nil ?_
         rintro _ ⟨⟨w3, B3⟩, rfl⟩
         go_wp2_with fail
         go_ret
         exact ⟨rfl, chain Z2 B3⟩
end Go.Proofs.Ytakeldogdolddaa
