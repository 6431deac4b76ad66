/- The walk of tidelaw1.ValsOrder, case by case (one kind). -/
import Derived.Test.YtakeldogdolddaaOrder0
namespace Go.Proofs.Ytakeldogdolddaa
open Go.RowKit
set_option maxHeartbeats 8000000 in
set_option maxRecDepth 100000 in
theorem order_T2V1 (k0 k2 n0 n1 n2 x y : Int) (s0 s1 s2 : ByteArray) (w : World) (hab : cmpV k0 n0 s0 k0 n1 s1 = x) (hba : cmpV k0 n1 s1 k0 n0 s0 = y)
    (hy0 : -1 ≤ y) (hy1 : y ≤ 1) (e1 : (x != -y) = false) (vx : decide (x ≤ 0) = false) (hk : (k0 == 1) = false) (m m2 : Int) (c1 : (cls 2 m == some true) = (x == 0)) (c2 : (cls 2 m2 == some true) = decide (x < 0)) 
    (he : tk (eqT k0 n0 s0 k0 n1 s1) = 2) (he' : tn (eqT k0 n0 s0 k0 n1 s1) = m) (hl : tk (ltT k0 n0 s0 k0 n1 s1) = 2) (hl' : tn (ltT k0 n0 s0 k0 n1 s1) = m2) :
    Calls Try.prog 7 #[.agg #[.int .i64 k0, .int .i64 n0, .string s0], .agg #[.int .i64 k0, .int .i64 n1, .string s1], .agg #[.int .i64 k2, .int .i64 n2, .string s2]] w fun e w' => e = .returned (.bool true) ∧ Below w.heap.size w w' := by
  have qe := fun w => equal_as k0 n0 k0 n1 2 m s0 s1 w he he'
  have ql := fun w => less_as k0 n0 k0 n1 2 m2 s0 s1 w hl hl'
  have QE := show Hid (∀ w, Calls Try.prog 16 #[.agg #[.int .i64 k0, .int .i64 n0, .string s0], .agg #[.int .i64 k0, .int .i64 n1, .string s1]] w fun e w' => e = .returned (.agg #[.int .i64 2, .int .i64 m, .string ⟨#[]⟩]) ∧ Below w.heap.size w w') from qe
  have QL := show Hid (∀ w, Calls Try.prog 18 #[.agg #[.int .i64 k0, .int .i64 n0, .string s0], .agg #[.int .i64 k0, .int .i64 n1, .string s1]] w fun e w' => e = .returned (.agg #[.int .i64 2, .int .i64 m2, .string ⟨#[]⟩]) ∧ Below w.heap.size w w') from ql
  have hq := fun w => bareV_eql w k0 n0 k0 n1 x s0 s1 hab
  have hg := fun w op p q => bareV_guard w op p q k0 n0 k0 n1 s0 s1
  clear qe ql he he' hl hl'
  have A0 := ((Box.new w (.int .i64 k0) (.int .i64 n0) (.string s0) 23).alloc (.cells #[.int .i64 k0, .int .i64 n1, .string s1] 23)).alloc (.cells #[.int .i64 k2, .int .i64 n2, .string s2] 23)
  have B0 := (Box.new (w.alloc (.cells #[.int .i64 k0, .int .i64 n0, .string s0] 23)) (.int .i64 k0) (.int .i64 n1) (.string s1) 23).alloc (.cells #[.int .i64 k2, .int .i64 n2, .string s2] 23)
  have C0 := Box.new ((w.alloc (.cells #[.int .i64 k0, .int .i64 n0, .string s0] 23)).alloc (.cells #[.int .i64 k0, .int .i64 n1, .string s1] 23)) (.int .i64 k2) (.int .i64 n2) (.string s2) 23
  simp only [World.size_alloc] at B0 C0
  have Z0 : Below w.heap.size w (((w.alloc (.cells #[.int .i64 k0, .int .i64 n0, .string s0] 23)).alloc (.cells #[.int .i64 k0, .int .i64 n1, .string s1] 23)).alloc (.cells #[.int .i64 k2, .int .i64 n2, .string s2] 23)) := (((Below.refl _ _).alloc (Nat.le_refl _) _).alloc (by simp) _).alloc (by simp; omega) _
  go_enter Try.func7, Try.ntmps7
  go_wp2_with fail
  refine (alive_any _).mono ?_
  rintro e w1 ⟨rfl, hb1⟩
  have Z1 := chain Z0 hb1
  have A1 := A0.next hb1
  have B1 := B0.next hb1
  have C1 := C0.next hb1
  have ⟨a0, a1, a2, a3, a4, a5, a6⟩ := A1
  have ⟨b0, b1, b2, b3, b4, b5, b6⟩ := B1
  have ⟨c0, c1, c2, c3, c4, c5, c6⟩ := C1
  clear A0 B0 C0 Z0 hb1
  go_wp2_with fail
  refine (right_row [(k0, n0, s0), (k0, n1, s1), (k2, n2, s2)] _ _ _ _ (row3 _ _ _ _ _ _ _ _ _ _ _) (by simp) (by simp [maxLen])).mono ?_
  rintro e w2 ⟨rfl, hb2⟩
  have Z2 := chain (Z1.alloc Z1.size _) hb2
  have A2 := (A1.alloc _).next hb2
  have B2 := (B1.alloc _).next hb2
  have C2 := (C1.alloc _).next hb2
  clear a0 a1 a2 a3 a4 a5 a6 b0 b1 b2 b3 b4 b5 b6 c0 c1 c2 c3 c4 c5 c6 A1 B1 C1 Z1 hb2
  cases hr : rightB [(k0, n0, s0), (k0, n1, s1), (k2, n2, s2)]
  · go_wp2_with fail
    go_ret
    exact ⟨rfl, Z2⟩
  clear hr
  go_wp2_with fail
  haveI : Nonempty (Past w2) := ⟨⟨w2, Below.refl _ _⟩⟩
  have p0 := past_cell A2.c0
  have p1 := past_cell A2.c1
  have p2 := past_cell A2.c2
  have p3 := past_cell B2.c0
  have p4 := past_cell B2.c1
  have p5 := past_cell B2.c2
  have p6 := past_cell C2.c0
  have p7 := past_cell C2.c1
  have p8 := past_cell C2.c2
  refine wp_region_past (by kernel_rfl) (by kernel_rfl) ?_
  repeat (go_big_quiet_step (first | (go_at_call 14; exact in_past (compare_any _ _ _ _ _ _ _))))
  refine wpQuiet_nil ?_
  rintro w3 ⟨⟨v3, hb3⟩, h3⟩
  obtain rfl : w3 = v3 := h3
  have Z3 := chain Z2 hb3
  have A3 := A2.next hb3
  have B3 := B2.next hb3
  clear p0 p1 p2 p3 p4 p5 p6 p7 p8 A2 B2 C2 hb3 Z2 this
  go_wp2_with fail
  haveI : Nonempty (Past w3) := ⟨⟨w3, Below.refl _ _⟩⟩
  have p0 := past_cell A3.c0
  have p1 := past_cell A3.c1
  have p2 := past_cell A3.c2
  have p3 := past_cell B3.c0
  have p4 := past_cell B3.c1
  have p5 := past_cell B3.c2
  refine wp_region_past (by kernel_rfl) (by kernel_rfl) ?_
  repeat (go_big_quiet_step (first | (go_at_call 12; exact in_past (bareV_any _ _ _ _))))
  refine wpQuiet_nil ?_
  rintro w4 ⟨⟨v4, hb4⟩, h4⟩
  obtain rfl : w4 = v4 := h4
  have Z4 := chain Z3 hb4
  have A4 := A3.next hb4
  have B4 := B3.next hb4
  clear p0 p1 p2 p3 p4 p5 A3 B3 hb4 Z3 this
  go_wp2_with fail
  have p0 := past_cell A4.c0
  have p1 := past_cell A4.c1
  have p2 := past_cell A4.c2
  have p3 := past_cell B4.c0
  have p4 := past_cell B4.c1
  have p5 := past_cell B4.c2
  refine wp_region_ext (by kernel_rfl) ?_
  have hB0 : Below w4.heap.size w4 w4.drew := (Below.refl _ _).drew
  refine wpX_take (some 59) (i := 0) (v := .agg #[.int .i64 k0, .int .i64 n0, .string s0]) rfl rfl (by kernel_rfl) (by kernel_rfl) (by kernel_rfl) (fun _ _ _ h => h) (Or.inl ⟨rfl, fun n => ?_⟩) hB0 ?_
  · go_simp
  simp only [Act.put, List.setIfInBounds_toArray, List.set_cons_zero, List.set_cons_succ]
  refine wpX_take (some 60) (i := 1) (v := .agg #[.int .i64 k0, .int .i64 n1, .string s1]) rfl rfl (by kernel_rfl) (by kernel_rfl) (by kernel_rfl) (fun _ _ _ h => h) (Or.inl ⟨rfl, fun n => ?_⟩) hB0 ?_
  · go_simp
  simp only [Act.put, List.setIfInBounds_toArray, List.set_cons_zero, List.set_cons_succ]
  refine wpX_take (some 61) (i := 2) (v := .agg #[.int .i64 2, .int .i64 m, .string ⟨#[]⟩]) rfl rfl (by kernel_rfl) (by kernel_rfl) (by kernel_rfl) (fun _ _ _ h => h) (Or.inl ⟨rfl, fun n => ?_⟩) hB0 ?_
  · go_simp
    exact QE.out n.now
  simp only [Act.put, List.setIfInBounds_toArray, List.set_cons_zero, List.set_cons_succ]
  refine wpX_take (some 62) (i := 3) (v := .agg #[.int .i64 k0, .int .i64 n0, .string s0]) rfl rfl (by kernel_rfl) (by kernel_rfl) (by kernel_rfl) (fun _ _ _ h => h) (Or.inl ⟨rfl, fun n => ?_⟩) hB0 ?_
  · go_simp
  simp only [Act.put, List.setIfInBounds_toArray, List.set_cons_zero, List.set_cons_succ]
  refine wpX_take (some 63) (i := 4) (v := .agg #[.int .i64 k0, .int .i64 n1, .string s1]) rfl rfl (by kernel_rfl) (by kernel_rfl) (by kernel_rfl) (fun _ _ _ h => h) (Or.inl ⟨rfl, fun n => ?_⟩) hB0 ?_
  · go_simp
  simp only [Act.put, List.setIfInBounds_toArray, List.set_cons_zero, List.set_cons_succ]
  refine wpX_take (some 64) (i := 5) (v := .agg #[.int .i64 2, .int .i64 m2, .string ⟨#[]⟩]) rfl rfl (by kernel_rfl) (by kernel_rfl) (by kernel_rfl) (fun _ _ _ h => h) (Or.inl ⟨rfl, fun n => ?_⟩) hB0 ?_
  · go_simp
    exact QL.out n.now
  simp only [Act.put, List.setIfInBounds_toArray, List.set_cons_zero, List.set_cons_succ]
  refine wpX_step (rs := [6, 7]) (by kernel_rfl) (by simp) ?_
  intro w5 hb5 i hi
  have D5 := chain hB0 hb5
  rcases List.mem_cons.1 hi with rfl | hi
  · clear hi
    refine wpOp_step rfl (fun K hK => ?_)
    go_simp
    refine hK _ _ ⟨D5.alloc D5.size _, ?_⟩
    clear hK K
    have E5 := Box.new w5 (.int .i64 0) (.int .i64 0) (.string ⟨#[]⟩) 23
    refine wpX_step (rs := [7]) (by kernel_rfl) (by simp) ?_
    intro w6 hb6 j hj
    obtain rfl : j = 7 := by simpa using hj
    clear hj
    have D6 := chain (D5.alloc D5.size _) hb6
    have E6 := E5.next hb6
    have ne56 : w5.heap.size ≠ w6.heap.size := Nat.ne_of_lt E6.lt
    have ne65 : w6.heap.size ≠ w5.heap.size := Ne.symm ne56
    refine wpOp_step rfl (fun K hK => ?_)
    go_simp
    refine hK _ _ ⟨D6.alloc D6.size _, ?_⟩
    clear hK K
    have F6 := Box.new w6 (.int .i64 0) (.int .i64 0) (.string ⟨#[]⟩) 23
    have E6b := E6.alloc (.cells #[.int .i64 0, .int .i64 0, .string ⟨#[]⟩] 23)
    refine wpX_step (rs := [8]) (by kernel_rfl) (by simp) ?_
    intro w7 hb7 j hj
    obtain rfl : j = 8 := by simpa using hj
    clear hj
    have D7 := chain (D6.alloc D6.size _) hb7
    have E7 := E6b.next hb7
    have F7 := F6.next hb7
    have ⟨e0, e1', e2', e3, e4, e5, e6⟩ := E7
    refine wpOp_step rfl (fun K hK => ?_)
    go_simp
    refine hK _ _ ⟨below_set3 D7 D5.size, ?_⟩
    clear hK K e0 e1' e2' e3 e4 e5 e6
    have E7b := E7.store (x' := .int .i64 2) (y' := .int .i64 m) (z' := .string ⟨#[]⟩)
    have F7b := F7.other (g := w5.heap.size) (x' := .int .i64 2) (y' := .int .i64 m) (z' := .string ⟨#[]⟩) ne56
    refine wpX_step (rs := [9]) (by kernel_rfl) (by simp) ?_
    intro w8 hb8 j hj
    obtain rfl : j = 9 := by simpa using hj
    clear hj
    have D8 := chain (below_set3 D7 D5.size) hb8
    have E8 := E7b.next hb8
    have F8 := F7b.next hb8
    have ⟨e0, e1', e2', e3, e4, e5, e6⟩ := F8
    refine wpOp_step rfl (fun K hK => ?_)
    go_simp
    refine hK _ _ ⟨below_set3 D8 D6.size, ?_⟩
    clear hK K e0 e1' e2' e3 e4 e5 e6
    have F8b := F8.store (x' := .int .i64 2) (y' := .int .i64 m2) (z' := .string ⟨#[]⟩)
    have E8b := E8.other (g := w6.heap.size) (x' := .int .i64 2) (y' := .int .i64 m2) (z' := .string ⟨#[]⟩) ne65
    refine wpX_done (by kernel_rfl) ?_
    intro w9 hb9
    have D9 := chain (below_set3 D8 D6.size) hb9
    have E9 := E8b.next hb9
    have F9 := F8b.next hb9
    clear E5 E6 E6b F6 E7 F7 E7b F7b E8 F8 E8b F8b ne56 ne65
    have A9 := A4.next D9
    have B9 := B4.next D9
    have Z9 := chain Z4 D9
    clear A4 B4 Z4 D5 D6 D7 D8 D9 hb5 hb6 hb7 hb8 hb9 hB0 p0 p1 p2 p3 p4 p5
    go_wp2_with fail
    haveI : Nonempty (Past w9) := ⟨⟨w9, Below.refl _ _⟩⟩
    have p0 := past_cell A9.c0
    have p3 := past_cell B9.c0
    have t0 := past_cell E9.c0
    have t1 := past_cell E9.c1
    have t2 := past_cell E9.c2
    have t3 := past_cell F9.c0
    have t4 := past_cell F9.c1
    have t5 := past_cell F9.c2
    refine wp_region_past (by kernel_rfl) (by kernel_rfl) ?_
    repeat (go_big_quiet_step (first | (go_at_call 35; exact in_past (null_any _))))
    refine wpQuiet_nil ?_
    rintro wa ⟨⟨va, hba⟩, ha⟩
    obtain rfl : wa = va := ha
    have Za := chain Z9 hba
    have Ea := E9.next hba
    have Fa := F9.next hba
    clear p0 p3 t0 t1 t2 t3 t4 t5 A9 B9 E9 F9 Z9 hba this
    go_wp2_with fail
    haveI : Nonempty (Past wa) := ⟨⟨wa, Below.refl _ _⟩⟩
    have t0 := past_cell Ea.c0
    have t1 := past_cell Ea.c1
    have t2 := past_cell Ea.c2
    have t3 := past_cell Fa.c0
    have t4 := past_cell Fa.c1
    have t5 := past_cell Fa.c2
    refine wp_region_past (by kernel_rfl) (by kernel_rfl) ?_
    repeat (go_big_quiet_step (first | (go_at_call 35; exact in_past (null_any _)) | (go_at_call 26; exact in_past (true_any _ _ _ _))))
    refine wpQuiet_nil ?_
    rintro wb ⟨⟨vb, hbb⟩, hb⟩
    obtain rfl : wb = vb := hb
    go_wp2_with fail
    go_ret
    exact ⟨rfl, chain Za hbb⟩
  · obtain rfl : i = 7 := by simpa using hi
    clear hi
    refine wpOp_step rfl (fun K hK => ?_)
    go_simp
    refine hK _ _ ⟨D5.alloc D5.size _, ?_⟩
    clear hK K
    have F5 := Box.new w5 (.int .i64 0) (.int .i64 0) (.string ⟨#[]⟩) 23
    refine wpX_step (rs := [6]) (by kernel_rfl) (by simp) ?_
    intro w6 hb6 j hj
    obtain rfl : j = 6 := by simpa using hj
    clear hj
    have D6 := chain (D5.alloc D5.size _) hb6
    have F6 := F5.next hb6
    have ne56 : w5.heap.size ≠ w6.heap.size := Nat.ne_of_lt F6.lt
    have ne65 : w6.heap.size ≠ w5.heap.size := Ne.symm ne56
    refine wpOp_step rfl (fun K hK => ?_)
    go_simp
    refine hK _ _ ⟨D6.alloc D6.size _, ?_⟩
    clear hK K
    have E6 := Box.new w6 (.int .i64 0) (.int .i64 0) (.string ⟨#[]⟩) 23
    have F6b := F6.alloc (.cells #[.int .i64 0, .int .i64 0, .string ⟨#[]⟩] 23)
    refine wpX_step (rs := [8]) (by kernel_rfl) (by simp) ?_
    intro w7 hb7 j hj
    obtain rfl : j = 8 := by simpa using hj
    clear hj
    have D7 := chain (D6.alloc D6.size _) hb7
    have E7 := E6.next hb7
    have F7 := F6b.next hb7
    have ⟨e0, e1', e2', e3, e4, e5, e6⟩ := E7
    refine wpOp_step rfl (fun K hK => ?_)
    go_simp
    refine hK _ _ ⟨below_set3 D7 D6.size, ?_⟩
    clear hK K e0 e1' e2' e3 e4 e5 e6
    have E7b := E7.store (x' := .int .i64 2) (y' := .int .i64 m) (z' := .string ⟨#[]⟩)
    have F7b := F7.other (g := w6.heap.size) (x' := .int .i64 2) (y' := .int .i64 m) (z' := .string ⟨#[]⟩) ne65
    refine wpX_step (rs := [9]) (by kernel_rfl) (by simp) ?_
    intro w8 hb8 j hj
    obtain rfl : j = 9 := by simpa using hj
    clear hj
    have D8 := chain (below_set3 D7 D6.size) hb8
    have E8 := E7b.next hb8
    have F8 := F7b.next hb8
    have ⟨e0, e1', e2', e3, e4, e5, e6⟩ := F8
    refine wpOp_step rfl (fun K hK => ?_)
    go_simp
    refine hK _ _ ⟨below_set3 D8 D5.size, ?_⟩
    clear hK K e0 e1' e2' e3 e4 e5 e6
    have F8b := F8.store (x' := .int .i64 2) (y' := .int .i64 m2) (z' := .string ⟨#[]⟩)
    have E8b := E8.other (g := w5.heap.size) (x' := .int .i64 2) (y' := .int .i64 m2) (z' := .string ⟨#[]⟩) ne56
    refine wpX_done (by kernel_rfl) ?_
    intro w9 hb9
    have D9 := chain (below_set3 D8 D5.size) hb9
    have E9 := E8b.next hb9
    have F9 := F8b.next hb9
    clear F5 F6 F6b E6 E7 F7 E7b F7b E8 F8 E8b F8b ne56 ne65
    have A9 := A4.next D9
    have B9 := B4.next D9
    have Z9 := chain Z4 D9
    clear A4 B4 Z4 D5 D6 D7 D8 D9 hb5 hb6 hb7 hb8 hb9 hB0 p0 p1 p2 p3 p4 p5
    go_wp2_with fail
    haveI : Nonempty (Past w9) := ⟨⟨w9, Below.refl _ _⟩⟩
    have p0 := past_cell A9.c0
    have p3 := past_cell B9.c0
    have t0 := past_cell E9.c0
    have t1 := past_cell E9.c1
    have t2 := past_cell E9.c2
    have t3 := past_cell F9.c0
    have t4 := past_cell F9.c1
    have t5 := past_cell F9.c2
    refine wp_region_past (by kernel_rfl) (by kernel_rfl) ?_
    repeat (go_big_quiet_step (first | (go_at_call 35; exact in_past (null_any _))))
    refine wpQuiet_nil ?_
    rintro wa ⟨⟨va, hba⟩, ha⟩
    obtain rfl : wa = va := ha
    have Za := chain Z9 hba
    have Ea := E9.next hba
    have Fa := F9.next hba
    clear p0 p3 t0 t1 t2 t3 t4 t5 A9 B9 E9 F9 Z9 hba this
    go_wp2_with fail
    haveI : Nonempty (Past wa) := ⟨⟨wa, Below.refl _ _⟩⟩
    have t0 := past_cell Ea.c0
    have t1 := past_cell Ea.c1
    have t2 := past_cell Ea.c2
    have t3 := past_cell Fa.c0
    have t4 := past_cell Fa.c1
    have t5 := past_cell Fa.c2
    refine wp_region_past (by kernel_rfl) (by kernel_rfl) ?_
    repeat (go_big_quiet_step (first | (go_at_call 35; exact in_past (null_any _)) | (go_at_call 26; exact in_past (true_any _ _ _ _))))
    refine wpQuiet_nil ?_
    rintro wb ⟨⟨vb, hbb⟩, hb⟩
    obtain rfl : wb = vb := hb
    go_wp2_with fail
    go_ret
    exact ⟨rfl, chain Za hbb⟩
set_option maxHeartbeats 8000000 in
set_option maxRecDepth 100000 in
theorem order_T2V2 (k0 k2 n0 n1 n2 x y z : Int) (s0 s1 s2 : ByteArray) (w : World) (hab : cmpV k0 n0 s0 k0 n1 s1 = x) (hba : cmpV k0 n1 s1 k0 n0 s0 = y) (hbc : cmpV k0 n1 s1 k2 n2 s2 = z)
    (hy0 : -1 ≤ y) (hy1 : y ≤ 1) (e1 : (x != -y) = false) (vx : x ≤ 0) (vz : decide (z ≤ 0) = false) (hk : (k0 == 1) = false) (m m2 : Int) (c1 : (cls 2 m == some true) = (x == 0)) (c2 : (cls 2 m2 == some true) = decide (x < 0)) 
    (he : tk (eqT k0 n0 s0 k0 n1 s1) = 2) (he' : tn (eqT k0 n0 s0 k0 n1 s1) = m) (hl : tk (ltT k0 n0 s0 k0 n1 s1) = 2) (hl' : tn (ltT k0 n0 s0 k0 n1 s1) = m2) :
    Calls Try.prog 7 #[.agg #[.int .i64 k0, .int .i64 n0, .string s0], .agg #[.int .i64 k0, .int .i64 n1, .string s1], .agg #[.int .i64 k2, .int .i64 n2, .string s2]] w fun e w' => e = .returned (.bool true) ∧ Below w.heap.size w w' := by
  have qe := fun w => equal_as k0 n0 k0 n1 2 m s0 s1 w he he'
  have ql := fun w => less_as k0 n0 k0 n1 2 m2 s0 s1 w hl hl'
  have QE := show Hid (∀ w, Calls Try.prog 16 #[.agg #[.int .i64 k0, .int .i64 n0, .string s0], .agg #[.int .i64 k0, .int .i64 n1, .string s1]] w fun e w' => e = .returned (.agg #[.int .i64 2, .int .i64 m, .string ⟨#[]⟩]) ∧ Below w.heap.size w w') from qe
  have QL := show Hid (∀ w, Calls Try.prog 18 #[.agg #[.int .i64 k0, .int .i64 n0, .string s0], .agg #[.int .i64 k0, .int .i64 n1, .string s1]] w fun e w' => e = .returned (.agg #[.int .i64 2, .int .i64 m2, .string ⟨#[]⟩]) ∧ Below w.heap.size w w') from ql
  have hq := fun w => bareV_eql w k0 n0 k0 n1 x s0 s1 hab
  have hg := fun w op p q => bareV_guard w op p q k0 n0 k0 n1 s0 s1
  clear qe ql he he' hl hl'
  have A0 := ((Box.new w (.int .i64 k0) (.int .i64 n0) (.string s0) 23).alloc (.cells #[.int .i64 k0, .int .i64 n1, .string s1] 23)).alloc (.cells #[.int .i64 k2, .int .i64 n2, .string s2] 23)
  have B0 := (Box.new (w.alloc (.cells #[.int .i64 k0, .int .i64 n0, .string s0] 23)) (.int .i64 k0) (.int .i64 n1) (.string s1) 23).alloc (.cells #[.int .i64 k2, .int .i64 n2, .string s2] 23)
  have C0 := Box.new ((w.alloc (.cells #[.int .i64 k0, .int .i64 n0, .string s0] 23)).alloc (.cells #[.int .i64 k0, .int .i64 n1, .string s1] 23)) (.int .i64 k2) (.int .i64 n2) (.string s2) 23
  simp only [World.size_alloc] at B0 C0
  have Z0 : Below w.heap.size w (((w.alloc (.cells #[.int .i64 k0, .int .i64 n0, .string s0] 23)).alloc (.cells #[.int .i64 k0, .int .i64 n1, .string s1] 23)).alloc (.cells #[.int .i64 k2, .int .i64 n2, .string s2] 23)) := (((Below.refl _ _).alloc (Nat.le_refl _) _).alloc (by simp) _).alloc (by simp; omega) _
  go_enter Try.func7, Try.ntmps7
  go_wp2_with fail
  refine (alive_any _).mono ?_
  rintro e w1 ⟨rfl, hb1⟩
  have Z1 := chain Z0 hb1
  have A1 := A0.next hb1
  have B1 := B0.next hb1
  have C1 := C0.next hb1
  have ⟨a0, a1, a2, a3, a4, a5, a6⟩ := A1
  have ⟨b0, b1, b2, b3, b4, b5, b6⟩ := B1
  have ⟨c0, c1, c2, c3, c4, c5, c6⟩ := C1
  clear A0 B0 C0 Z0 hb1
  go_wp2_with fail
  refine (right_row [(k0, n0, s0), (k0, n1, s1), (k2, n2, s2)] _ _ _ _ (row3 _ _ _ _ _ _ _ _ _ _ _) (by simp) (by simp [maxLen])).mono ?_
  rintro e w2 ⟨rfl, hb2⟩
  have Z2 := chain (Z1.alloc Z1.size _) hb2
  have A2 := (A1.alloc _).next hb2
  have B2 := (B1.alloc _).next hb2
  have C2 := (C1.alloc _).next hb2
  clear a0 a1 a2 a3 a4 a5 a6 b0 b1 b2 b3 b4 b5 b6 c0 c1 c2 c3 c4 c5 c6 A1 B1 C1 Z1 hb2
  cases hr : rightB [(k0, n0, s0), (k0, n1, s1), (k2, n2, s2)]
  · go_wp2_with fail
    go_ret
    exact ⟨rfl, Z2⟩
  clear hr
  go_wp2_with fail
  haveI : Nonempty (Past w2) := ⟨⟨w2, Below.refl _ _⟩⟩
  have p0 := past_cell A2.c0
  have p1 := past_cell A2.c1
  have p2 := past_cell A2.c2
  have p3 := past_cell B2.c0
  have p4 := past_cell B2.c1
  have p5 := past_cell B2.c2
  have p6 := past_cell C2.c0
  have p7 := past_cell C2.c1
  have p8 := past_cell C2.c2
  refine wp_region_past (by kernel_rfl) (by kernel_rfl) ?_
  repeat (go_big_quiet_step (first | (go_at_call 14; exact in_past (compare_any _ _ _ _ _ _ _))))
  refine wpQuiet_nil ?_
  rintro w3 ⟨⟨v3, hb3⟩, h3⟩
  obtain rfl : w3 = v3 := h3
  have Z3 := chain Z2 hb3
  have A3 := A2.next hb3
  have B3 := B2.next hb3
  clear p0 p1 p2 p3 p4 p5 p6 p7 p8 A2 B2 C2 hb3 Z2 this
  go_wp2_with fail
  haveI : Nonempty (Past w3) := ⟨⟨w3, Below.refl _ _⟩⟩
  have p0 := past_cell A3.c0
  have p1 := past_cell A3.c1
  have p2 := past_cell A3.c2
  have p3 := past_cell B3.c0
  have p4 := past_cell B3.c1
  have p5 := past_cell B3.c2
  refine wp_region_past (by kernel_rfl) (by kernel_rfl) ?_
  repeat (go_big_quiet_step (first | (go_at_call 12; exact in_past (bareV_any _ _ _ _))))
  refine wpQuiet_nil ?_
  rintro w4 ⟨⟨v4, hb4⟩, h4⟩
  obtain rfl : w4 = v4 := h4
  have Z4 := chain Z3 hb4
  have A4 := A3.next hb4
  have B4 := B3.next hb4
  clear p0 p1 p2 p3 p4 p5 A3 B3 hb4 Z3 this
  go_wp2_with fail
  have p0 := past_cell A4.c0
  have p1 := past_cell A4.c1
  have p2 := past_cell A4.c2
  have p3 := past_cell B4.c0
  have p4 := past_cell B4.c1
  have p5 := past_cell B4.c2
  refine wp_region_ext (by kernel_rfl) ?_
  have hB0 : Below w4.heap.size w4 w4.drew := (Below.refl _ _).drew
  refine wpX_take (some 59) (i := 0) (v := .agg #[.int .i64 k0, .int .i64 n0, .string s0]) rfl rfl (by kernel_rfl) (by kernel_rfl) (by kernel_rfl) (fun _ _ _ h => h) (Or.inl ⟨rfl, fun n => ?_⟩) hB0 ?_
  · go_simp
  simp only [Act.put, List.setIfInBounds_toArray, List.set_cons_zero, List.set_cons_succ]
  refine wpX_take (some 60) (i := 1) (v := .agg #[.int .i64 k0, .int .i64 n1, .string s1]) rfl rfl (by kernel_rfl) (by kernel_rfl) (by kernel_rfl) (fun _ _ _ h => h) (Or.inl ⟨rfl, fun n => ?_⟩) hB0 ?_
  · go_simp
  simp only [Act.put, List.setIfInBounds_toArray, List.set_cons_zero, List.set_cons_succ]
  refine wpX_take (some 61) (i := 2) (v := .agg #[.int .i64 2, .int .i64 m, .string ⟨#[]⟩]) rfl rfl (by kernel_rfl) (by kernel_rfl) (by kernel_rfl) (fun _ _ _ h => h) (Or.inl ⟨rfl, fun n => ?_⟩) hB0 ?_
  · go_simp
    exact QE.out n.now
  simp only [Act.put, List.setIfInBounds_toArray, List.set_cons_zero, List.set_cons_succ]
  refine wpX_take (some 62) (i := 3) (v := .agg #[.int .i64 k0, .int .i64 n0, .string s0]) rfl rfl (by kernel_rfl) (by kernel_rfl) (by kernel_rfl) (fun _ _ _ h => h) (Or.inl ⟨rfl, fun n => ?_⟩) hB0 ?_
  · go_simp
  simp only [Act.put, List.setIfInBounds_toArray, List.set_cons_zero, List.set_cons_succ]
  refine wpX_take (some 63) (i := 4) (v := .agg #[.int .i64 k0, .int .i64 n1, .string s1]) rfl rfl (by kernel_rfl) (by kernel_rfl) (by kernel_rfl) (fun _ _ _ h => h) (Or.inl ⟨rfl, fun n => ?_⟩) hB0 ?_
  · go_simp
  simp only [Act.put, List.setIfInBounds_toArray, List.set_cons_zero, List.set_cons_succ]
  refine wpX_take (some 64) (i := 5) (v := .agg #[.int .i64 2, .int .i64 m2, .string ⟨#[]⟩]) rfl rfl (by kernel_rfl) (by kernel_rfl) (by kernel_rfl) (fun _ _ _ h => h) (Or.inl ⟨rfl, fun n => ?_⟩) hB0 ?_
  · go_simp
    exact QL.out n.now
  simp only [Act.put, List.setIfInBounds_toArray, List.set_cons_zero, List.set_cons_succ]
  refine wpX_step (rs := [6, 7]) (by kernel_rfl) (by simp) ?_
  intro w5 hb5 i hi
  have D5 := chain hB0 hb5
  rcases List.mem_cons.1 hi with rfl | hi
  · clear hi
    refine wpOp_step rfl (fun K hK => ?_)
    go_simp
    refine hK _ _ ⟨D5.alloc D5.size _, ?_⟩
    clear hK K
    have E5 := Box.new w5 (.int .i64 0) (.int .i64 0) (.string ⟨#[]⟩) 23
    refine wpX_step (rs := [7]) (by kernel_rfl) (by simp) ?_
    intro w6 hb6 j hj
    obtain rfl : j = 7 := by simpa using hj
    clear hj
    have D6 := chain (D5.alloc D5.size _) hb6
    have E6 := E5.next hb6
    have ne56 : w5.heap.size ≠ w6.heap.size := Nat.ne_of_lt E6.lt
    have ne65 : w6.heap.size ≠ w5.heap.size := Ne.symm ne56
    refine wpOp_step rfl (fun K hK => ?_)
    go_simp
    refine hK _ _ ⟨D6.alloc D6.size _, ?_⟩
    clear hK K
    have F6 := Box.new w6 (.int .i64 0) (.int .i64 0) (.string ⟨#[]⟩) 23
    have E6b := E6.alloc (.cells #[.int .i64 0, .int .i64 0, .string ⟨#[]⟩] 23)
    refine wpX_step (rs := [8]) (by kernel_rfl) (by simp) ?_
    intro w7 hb7 j hj
    obtain rfl : j = 8 := by simpa using hj
    clear hj
    have D7 := chain (D6.alloc D6.size _) hb7
    have E7 := E6b.next hb7
    have F7 := F6.next hb7
    have ⟨e0, e1', e2', e3, e4, e5, e6⟩ := E7
    refine wpOp_step rfl (fun K hK => ?_)
    go_simp
    refine hK _ _ ⟨below_set3 D7 D5.size, ?_⟩
    clear hK K e0 e1' e2' e3 e4 e5 e6
    have E7b := E7.store (x' := .int .i64 2) (y' := .int .i64 m) (z' := .string ⟨#[]⟩)
    have F7b := F7.other (g := w5.heap.size) (x' := .int .i64 2) (y' := .int .i64 m) (z' := .string ⟨#[]⟩) ne56
    refine wpX_step (rs := [9]) (by kernel_rfl) (by simp) ?_
    intro w8 hb8 j hj
    obtain rfl : j = 9 := by simpa using hj
    clear hj
    have D8 := chain (below_set3 D7 D5.size) hb8
    have E8 := E7b.next hb8
    have F8 := F7b.next hb8
    have ⟨e0, e1', e2', e3, e4, e5, e6⟩ := F8
    refine wpOp_step rfl (fun K hK => ?_)
    go_simp
    refine hK _ _ ⟨below_set3 D8 D6.size, ?_⟩
    clear hK K e0 e1' e2' e3 e4 e5 e6
    have F8b := F8.store (x' := .int .i64 2) (y' := .int .i64 m2) (z' := .string ⟨#[]⟩)
    have E8b := E8.other (g := w6.heap.size) (x' := .int .i64 2) (y' := .int .i64 m2) (z' := .string ⟨#[]⟩) ne65
    refine wpX_done (by kernel_rfl) ?_
    intro w9 hb9
    have D9 := chain (below_set3 D8 D6.size) hb9
    have E9 := E8b.next hb9
    have F9 := F8b.next hb9
    clear E5 E6 E6b F6 E7 F7 E7b F7b E8 F8 E8b F8b ne56 ne65
    have A9 := A4.next D9
    have B9 := B4.next D9
    have Z9 := chain Z4 D9
    clear A4 B4 Z4 D5 D6 D7 D8 D9 hb5 hb6 hb7 hb8 hb9 hB0 p0 p1 p2 p3 p4 p5
    go_wp2_with fail
    haveI : Nonempty (Past w9) := ⟨⟨w9, Below.refl _ _⟩⟩
    have p0 := past_cell A9.c0
    have p3 := past_cell B9.c0
    have t0 := past_cell E9.c0
    have t1 := past_cell E9.c1
    have t2 := past_cell E9.c2
    have t3 := past_cell F9.c0
    have t4 := past_cell F9.c1
    have t5 := past_cell F9.c2
    refine wp_region_past (by kernel_rfl) (by kernel_rfl) ?_
    repeat (go_big_quiet_step (first | (go_at_call 35; exact in_past (null_any _))))
    refine wpQuiet_nil ?_
    rintro wa ⟨⟨va, hba⟩, ha⟩
    obtain rfl : wa = va := ha
    have Za := chain Z9 hba
    have Ea := E9.next hba
    have Fa := F9.next hba
    clear p0 p3 t0 t1 t2 t3 t4 t5 A9 B9 E9 F9 Z9 hba this
    go_wp2_with fail
    haveI : Nonempty (Past wa) := ⟨⟨wa, Below.refl _ _⟩⟩
    have t0 := past_cell Ea.c0
    have t1 := past_cell Ea.c1
    have t2 := past_cell Ea.c2
    have t3 := past_cell Fa.c0
    have t4 := past_cell Fa.c1
    have t5 := past_cell Fa.c2
    refine wp_region_past (by kernel_rfl) (by kernel_rfl) ?_
    repeat (go_big_quiet_step (first | (go_at_call 35; exact in_past (null_any _)) | (go_at_call 26; exact in_past (true_any _ _ _ _))))
    refine wpQuiet_nil ?_
    rintro wb ⟨⟨vb, hbb⟩, hb⟩
    obtain rfl : wb = vb := hb
    go_wp2_with fail
    go_ret
    exact ⟨rfl, chain Za hbb⟩
  · obtain rfl : i = 7 := by simpa using hi
    clear hi
    refine wpOp_step rfl (fun K hK => ?_)
    go_simp
    refine hK _ _ ⟨D5.alloc D5.size _, ?_⟩
    clear hK K
    have F5 := Box.new w5 (.int .i64 0) (.int .i64 0) (.string ⟨#[]⟩) 23
    refine wpX_step (rs := [6]) (by kernel_rfl) (by simp) ?_
    intro w6 hb6 j hj
    obtain rfl : j = 6 := by simpa using hj
    clear hj
    have D6 := chain (D5.alloc D5.size _) hb6
    have F6 := F5.next hb6
    have ne56 : w5.heap.size ≠ w6.heap.size := Nat.ne_of_lt F6.lt
    have ne65 : w6.heap.size ≠ w5.heap.size := Ne.symm ne56
    refine wpOp_step rfl (fun K hK => ?_)
    go_simp
    refine hK _ _ ⟨D6.alloc D6.size _, ?_⟩
    clear hK K
    have E6 := Box.new w6 (.int .i64 0) (.int .i64 0) (.string ⟨#[]⟩) 23
    have F6b := F6.alloc (.cells #[.int .i64 0, .int .i64 0, .string ⟨#[]⟩] 23)
    refine wpX_step (rs := [8]) (by kernel_rfl) (by simp) ?_
    intro w7 hb7 j hj
    obtain rfl : j = 8 := by simpa using hj
    clear hj
    have D7 := chain (D6.alloc D6.size _) hb7
    have E7 := E6.next hb7
    have F7 := F6b.next hb7
    have ⟨e0, e1', e2', e3, e4, e5, e6⟩ := E7
    refine wpOp_step rfl (fun K hK => ?_)
    go_simp
    refine hK _ _ ⟨below_set3 D7 D6.size, ?_⟩
    clear hK K e0 e1' e2' e3 e4 e5 e6
    have E7b := E7.store (x' := .int .i64 2) (y' := .int .i64 m) (z' := .string ⟨#[]⟩)
    have F7b := F7.other (g := w6.heap.size) (x' := .int .i64 2) (y' := .int .i64 m) (z' := .string ⟨#[]⟩) ne65
    refine wpX_step (rs := [9]) (by kernel_rfl) (by simp) ?_
    intro w8 hb8 j hj
    obtain rfl : j = 9 := by simpa using hj
    clear hj
    have D8 := chain (below_set3 D7 D6.size) hb8
    have E8 := E7b.next hb8
    have F8 := F7b.next hb8
    have ⟨e0, e1', e2', e3, e4, e5, e6⟩ := F8
    refine wpOp_step rfl (fun K hK => ?_)
    go_simp
    refine hK _ _ ⟨below_set3 D8 D5.size, ?_⟩
    clear hK K e0 e1' e2' e3 e4 e5 e6
    have F8b := F8.store (x' := .int .i64 2) (y' := .int .i64 m2) (z' := .string ⟨#[]⟩)
    have E8b := E8.other (g := w5.heap.size) (x' := .int .i64 2) (y' := .int .i64 m2) (z' := .string ⟨#[]⟩) ne56
    refine wpX_done (by kernel_rfl) ?_
    intro w9 hb9
    have D9 := chain (below_set3 D8 D5.size) hb9
    have E9 := E8b.next hb9
    have F9 := F8b.next hb9
    clear F5 F6 F6b E6 E7 F7 E7b F7b E8 F8 E8b F8b ne56 ne65
    have A9 := A4.next D9
    have B9 := B4.next D9
    have Z9 := chain Z4 D9
    clear A4 B4 Z4 D5 D6 D7 D8 D9 hb5 hb6 hb7 hb8 hb9 hB0 p0 p1 p2 p3 p4 p5
    go_wp2_with fail
    haveI : Nonempty (Past w9) := ⟨⟨w9, Below.refl _ _⟩⟩
    have p0 := past_cell A9.c0
    have p3 := past_cell B9.c0
    have t0 := past_cell E9.c0
    have t1 := past_cell E9.c1
    have t2 := past_cell E9.c2
    have t3 := past_cell F9.c0
    have t4 := past_cell F9.c1
    have t5 := past_cell F9.c2
    refine wp_region_past (by kernel_rfl) (by kernel_rfl) ?_
    repeat (go_big_quiet_step (first | (go_at_call 35; exact in_past (null_any _))))
    refine wpQuiet_nil ?_
    rintro wa ⟨⟨va, hba⟩, ha⟩
    obtain rfl : wa = va := ha
    have Za := chain Z9 hba
    have Ea := E9.next hba
    have Fa := F9.next hba
    clear p0 p3 t0 t1 t2 t3 t4 t5 A9 B9 E9 F9 Z9 hba this
    go_wp2_with fail
    haveI : Nonempty (Past wa) := ⟨⟨wa, Below.refl _ _⟩⟩
    have t0 := past_cell Ea.c0
    have t1 := past_cell Ea.c1
    have t2 := past_cell Ea.c2
    have t3 := past_cell Fa.c0
    have t4 := past_cell Fa.c1
    have t5 := past_cell Fa.c2
    refine wp_region_past (by kernel_rfl) (by kernel_rfl) ?_
    repeat (go_big_quiet_step (first | (go_at_call 35; exact in_past (null_any _)) | (go_at_call 26; exact in_past (true_any _ _ _ _))))
    refine wpQuiet_nil ?_
    rintro wb ⟨⟨vb, hbb⟩, hb⟩
    obtain rfl : wb = vb := hb
    go_wp2_with fail
    go_ret
    exact ⟨rfl, chain Za hbb⟩
set_option maxHeartbeats 8000000 in
set_option maxRecDepth 100000 in
theorem order_T2V3 (k0 k2 n0 n1 n2 x y z u : Int) (s0 s1 s2 : ByteArray) (w : World) (hab : cmpV k0 n0 s0 k0 n1 s1 = x) (hba : cmpV k0 n1 s1 k0 n0 s0 = y) (hbc : cmpV k0 n1 s1 k2 n2 s2 = z) (hac : cmpV k0 n0 s0 k2 n2 s2 = u)
    (hy0 : -1 ≤ y) (hy1 : y ≤ 1) (e1 : (x != -y) = false) (vx : x ≤ 0) (vz : z ≤ 0) (vu : ¬ 0 < u) (hk : (k0 == 1) = false) (m m2 : Int) (c1 : (cls 2 m == some true) = (x == 0)) (c2 : (cls 2 m2 == some true) = decide (x < 0)) 
    (he : tk (eqT k0 n0 s0 k0 n1 s1) = 2) (he' : tn (eqT k0 n0 s0 k0 n1 s1) = m) (hl : tk (ltT k0 n0 s0 k0 n1 s1) = 2) (hl' : tn (ltT k0 n0 s0 k0 n1 s1) = m2) :
    Calls Try.prog 7 #[.agg #[.int .i64 k0, .int .i64 n0, .string s0], .agg #[.int .i64 k0, .int .i64 n1, .string s1], .agg #[.int .i64 k2, .int .i64 n2, .string s2]] w fun e w' => e = .returned (.bool true) ∧ Below w.heap.size w w' := by
  have qe := fun w => equal_as k0 n0 k0 n1 2 m s0 s1 w he he'
  have ql := fun w => less_as k0 n0 k0 n1 2 m2 s0 s1 w hl hl'
  have QE := show Hid (∀ w, Calls Try.prog 16 #[.agg #[.int .i64 k0, .int .i64 n0, .string s0], .agg #[.int .i64 k0, .int .i64 n1, .string s1]] w fun e w' => e = .returned (.agg #[.int .i64 2, .int .i64 m, .string ⟨#[]⟩]) ∧ Below w.heap.size w w') from qe
  have QL := show Hid (∀ w, Calls Try.prog 18 #[.agg #[.int .i64 k0, .int .i64 n0, .string s0], .agg #[.int .i64 k0, .int .i64 n1, .string s1]] w fun e w' => e = .returned (.agg #[.int .i64 2, .int .i64 m2, .string ⟨#[]⟩]) ∧ Below w.heap.size w w') from ql
  have hq := fun w => bareV_eql w k0 n0 k0 n1 x s0 s1 hab
  have hg := fun w op p q => bareV_guard w op p q k0 n0 k0 n1 s0 s1
  clear qe ql he he' hl hl'
  have A0 := ((Box.new w (.int .i64 k0) (.int .i64 n0) (.string s0) 23).alloc (.cells #[.int .i64 k0, .int .i64 n1, .string s1] 23)).alloc (.cells #[.int .i64 k2, .int .i64 n2, .string s2] 23)
  have B0 := (Box.new (w.alloc (.cells #[.int .i64 k0, .int .i64 n0, .string s0] 23)) (.int .i64 k0) (.int .i64 n1) (.string s1) 23).alloc (.cells #[.int .i64 k2, .int .i64 n2, .string s2] 23)
  have C0 := Box.new ((w.alloc (.cells #[.int .i64 k0, .int .i64 n0, .string s0] 23)).alloc (.cells #[.int .i64 k0, .int .i64 n1, .string s1] 23)) (.int .i64 k2) (.int .i64 n2) (.string s2) 23
  simp only [World.size_alloc] at B0 C0
  have Z0 : Below w.heap.size w (((w.alloc (.cells #[.int .i64 k0, .int .i64 n0, .string s0] 23)).alloc (.cells #[.int .i64 k0, .int .i64 n1, .string s1] 23)).alloc (.cells #[.int .i64 k2, .int .i64 n2, .string s2] 23)) := (((Below.refl _ _).alloc (Nat.le_refl _) _).alloc (by simp) _).alloc (by simp; omega) _
  go_enter Try.func7, Try.ntmps7
  go_wp2_with fail
  refine (alive_any _).mono ?_
  rintro e w1 ⟨rfl, hb1⟩
  have Z1 := chain Z0 hb1
  have A1 := A0.next hb1
  have B1 := B0.next hb1
  have C1 := C0.next hb1
  have ⟨a0, a1, a2, a3, a4, a5, a6⟩ := A1
  have ⟨b0, b1, b2, b3, b4, b5, b6⟩ := B1
  have ⟨c0, c1, c2, c3, c4, c5, c6⟩ := C1
  clear A0 B0 C0 Z0 hb1
  go_wp2_with fail
  refine (right_row [(k0, n0, s0), (k0, n1, s1), (k2, n2, s2)] _ _ _ _ (row3 _ _ _ _ _ _ _ _ _ _ _) (by simp) (by simp [maxLen])).mono ?_
  rintro e w2 ⟨rfl, hb2⟩
  have Z2 := chain (Z1.alloc Z1.size _) hb2
  have A2 := (A1.alloc _).next hb2
  have B2 := (B1.alloc _).next hb2
  have C2 := (C1.alloc _).next hb2
  clear a0 a1 a2 a3 a4 a5 a6 b0 b1 b2 b3 b4 b5 b6 c0 c1 c2 c3 c4 c5 c6 A1 B1 C1 Z1 hb2
  cases hr : rightB [(k0, n0, s0), (k0, n1, s1), (k2, n2, s2)]
  · go_wp2_with fail
    go_ret
    exact ⟨rfl, Z2⟩
  clear hr
  go_wp2_with fail
  haveI : Nonempty (Past w2) := ⟨⟨w2, Below.refl _ _⟩⟩
  have p0 := past_cell A2.c0
  have p1 := past_cell A2.c1
  have p2 := past_cell A2.c2
  have p3 := past_cell B2.c0
  have p4 := past_cell B2.c1
  have p5 := past_cell B2.c2
  have p6 := past_cell C2.c0
  have p7 := past_cell C2.c1
  have p8 := past_cell C2.c2
  refine wp_region_past (by kernel_rfl) (by kernel_rfl) ?_
  repeat (go_big_quiet_step (first | (go_at_call 14; exact in_past (compare_any _ _ _ _ _ _ _))))
  refine wpQuiet_nil ?_
  rintro w3 ⟨⟨v3, hb3⟩, h3⟩
  obtain rfl : w3 = v3 := h3
  have Z3 := chain Z2 hb3
  have A3 := A2.next hb3
  have B3 := B2.next hb3
  clear p0 p1 p2 p3 p4 p5 p6 p7 p8 A2 B2 C2 hb3 Z2 this
  go_wp2_with fail
  haveI : Nonempty (Past w3) := ⟨⟨w3, Below.refl _ _⟩⟩
  have p0 := past_cell A3.c0
  have p1 := past_cell A3.c1
  have p2 := past_cell A3.c2
  have p3 := past_cell B3.c0
  have p4 := past_cell B3.c1
  have p5 := past_cell B3.c2
  refine wp_region_past (by kernel_rfl) (by kernel_rfl) ?_
  repeat (go_big_quiet_step (first | (go_at_call 12; exact in_past (bareV_any _ _ _ _))))
  refine wpQuiet_nil ?_
  rintro w4 ⟨⟨v4, hb4⟩, h4⟩
  obtain rfl : w4 = v4 := h4
  have Z4 := chain Z3 hb4
  have A4 := A3.next hb4
  have B4 := B3.next hb4
  clear p0 p1 p2 p3 p4 p5 A3 B3 hb4 Z3 this
  go_wp2_with fail
  have p0 := past_cell A4.c0
  have p1 := past_cell A4.c1
  have p2 := past_cell A4.c2
  have p3 := past_cell B4.c0
  have p4 := past_cell B4.c1
  have p5 := past_cell B4.c2
  refine wp_region_ext (by kernel_rfl) ?_
  have hB0 : Below w4.heap.size w4 w4.drew := (Below.refl _ _).drew
  refine wpX_take (some 59) (i := 0) (v := .agg #[.int .i64 k0, .int .i64 n0, .string s0]) rfl rfl (by kernel_rfl) (by kernel_rfl) (by kernel_rfl) (fun _ _ _ h => h) (Or.inl ⟨rfl, fun n => ?_⟩) hB0 ?_
  · go_simp
  simp only [Act.put, List.setIfInBounds_toArray, List.set_cons_zero, List.set_cons_succ]
  refine wpX_take (some 60) (i := 1) (v := .agg #[.int .i64 k0, .int .i64 n1, .string s1]) rfl rfl (by kernel_rfl) (by kernel_rfl) (by kernel_rfl) (fun _ _ _ h => h) (Or.inl ⟨rfl, fun n => ?_⟩) hB0 ?_
  · go_simp
  simp only [Act.put, List.setIfInBounds_toArray, List.set_cons_zero, List.set_cons_succ]
  refine wpX_take (some 61) (i := 2) (v := .agg #[.int .i64 2, .int .i64 m, .string ⟨#[]⟩]) rfl rfl (by kernel_rfl) (by kernel_rfl) (by kernel_rfl) (fun _ _ _ h => h) (Or.inl ⟨rfl, fun n => ?_⟩) hB0 ?_
  · go_simp
    exact QE.out n.now
  simp only [Act.put, List.setIfInBounds_toArray, List.set_cons_zero, List.set_cons_succ]
  refine wpX_take (some 62) (i := 3) (v := .agg #[.int .i64 k0, .int .i64 n0, .string s0]) rfl rfl (by kernel_rfl) (by kernel_rfl) (by kernel_rfl) (fun _ _ _ h => h) (Or.inl ⟨rfl, fun n => ?_⟩) hB0 ?_
  · go_simp
  simp only [Act.put, List.setIfInBounds_toArray, List.set_cons_zero, List.set_cons_succ]
  refine wpX_take (some 63) (i := 4) (v := .agg #[.int .i64 k0, .int .i64 n1, .string s1]) rfl rfl (by kernel_rfl) (by kernel_rfl) (by kernel_rfl) (fun _ _ _ h => h) (Or.inl ⟨rfl, fun n => ?_⟩) hB0 ?_
  · go_simp
  simp only [Act.put, List.setIfInBounds_toArray, List.set_cons_zero, List.set_cons_succ]
  refine wpX_take (some 64) (i := 5) (v := .agg #[.int .i64 2, .int .i64 m2, .string ⟨#[]⟩]) rfl rfl (by kernel_rfl) (by kernel_rfl) (by kernel_rfl) (fun _ _ _ h => h) (Or.inl ⟨rfl, fun n => ?_⟩) hB0 ?_
  · go_simp
    exact QL.out n.now
  simp only [Act.put, List.setIfInBounds_toArray, List.set_cons_zero, List.set_cons_succ]
  refine wpX_step (rs := [6, 7]) (by kernel_rfl) (by simp) ?_
  intro w5 hb5 i hi
  have D5 := chain hB0 hb5
  rcases List.mem_cons.1 hi with rfl | hi
  · clear hi
    refine wpOp_step rfl (fun K hK => ?_)
    go_simp
    refine hK _ _ ⟨D5.alloc D5.size _, ?_⟩
    clear hK K
    have E5 := Box.new w5 (.int .i64 0) (.int .i64 0) (.string ⟨#[]⟩) 23
    refine wpX_step (rs := [7]) (by kernel_rfl) (by simp) ?_
    intro w6 hb6 j hj
    obtain rfl : j = 7 := by simpa using hj
    clear hj
    have D6 := chain (D5.alloc D5.size _) hb6
    have E6 := E5.next hb6
    have ne56 : w5.heap.size ≠ w6.heap.size := Nat.ne_of_lt E6.lt
    have ne65 : w6.heap.size ≠ w5.heap.size := Ne.symm ne56
    refine wpOp_step rfl (fun K hK => ?_)
    go_simp
    refine hK _ _ ⟨D6.alloc D6.size _, ?_⟩
    clear hK K
    have F6 := Box.new w6 (.int .i64 0) (.int .i64 0) (.string ⟨#[]⟩) 23
    have E6b := E6.alloc (.cells #[.int .i64 0, .int .i64 0, .string ⟨#[]⟩] 23)
    refine wpX_step (rs := [8]) (by kernel_rfl) (by simp) ?_
    intro w7 hb7 j hj
    obtain rfl : j = 8 := by simpa using hj
    clear hj
    have D7 := chain (D6.alloc D6.size _) hb7
    have E7 := E6b.next hb7
    have F7 := F6.next hb7
    have ⟨e0, e1', e2', e3, e4, e5, e6⟩ := E7
    refine wpOp_step rfl (fun K hK => ?_)
    go_simp
    refine hK _ _ ⟨below_set3 D7 D5.size, ?_⟩
    clear hK K e0 e1' e2' e3 e4 e5 e6
    have E7b := E7.store (x' := .int .i64 2) (y' := .int .i64 m) (z' := .string ⟨#[]⟩)
    have F7b := F7.other (g := w5.heap.size) (x' := .int .i64 2) (y' := .int .i64 m) (z' := .string ⟨#[]⟩) ne56
    refine wpX_step (rs := [9]) (by kernel_rfl) (by simp) ?_
    intro w8 hb8 j hj
    obtain rfl : j = 9 := by simpa using hj
    clear hj
    have D8 := chain (below_set3 D7 D5.size) hb8
    have E8 := E7b.next hb8
    have F8 := F7b.next hb8
    have ⟨e0, e1', e2', e3, e4, e5, e6⟩ := F8
    refine wpOp_step rfl (fun K hK => ?_)
    go_simp
    refine hK _ _ ⟨below_set3 D8 D6.size, ?_⟩
    clear hK K e0 e1' e2' e3 e4 e5 e6
    have F8b := F8.store (x' := .int .i64 2) (y' := .int .i64 m2) (z' := .string ⟨#[]⟩)
    have E8b := E8.other (g := w6.heap.size) (x' := .int .i64 2) (y' := .int .i64 m2) (z' := .string ⟨#[]⟩) ne65
    refine wpX_done (by kernel_rfl) ?_
    intro w9 hb9
    have D9 := chain (below_set3 D8 D6.size) hb9
    have E9 := E8b.next hb9
    have F9 := F8b.next hb9
    clear E5 E6 E6b F6 E7 F7 E7b F7b E8 F8 E8b F8b ne56 ne65
    have A9 := A4.next D9
    have B9 := B4.next D9
    have Z9 := chain Z4 D9
    clear A4 B4 Z4 D5 D6 D7 D8 D9 hb5 hb6 hb7 hb8 hb9 hB0 p0 p1 p2 p3 p4 p5
    go_wp2_with fail
    haveI : Nonempty (Past w9) := ⟨⟨w9, Below.refl _ _⟩⟩
    have p0 := past_cell A9.c0
    have p3 := past_cell B9.c0
    have t0 := past_cell E9.c0
    have t1 := past_cell E9.c1
    have t2 := past_cell E9.c2
    have t3 := past_cell F9.c0
    have t4 := past_cell F9.c1
    have t5 := past_cell F9.c2
    refine wp_region_past (by kernel_rfl) (by kernel_rfl) ?_
    repeat (go_big_quiet_step (first | (go_at_call 35; exact in_past (null_any _))))
    refine wpQuiet_nil ?_
    rintro wa ⟨⟨va, hba⟩, ha⟩
    obtain rfl : wa = va := ha
    have Za := chain Z9 hba
    have Ea := E9.next hba
    have Fa := F9.next hba
    clear p0 p3 t0 t1 t2 t3 t4 t5 A9 B9 E9 F9 Z9 hba this
    go_wp2_with fail
    haveI : Nonempty (Past wa) := ⟨⟨wa, Below.refl _ _⟩⟩
    have t0 := past_cell Ea.c0
    have t1 := past_cell Ea.c1
    have t2 := past_cell Ea.c2
    have t3 := past_cell Fa.c0
    have t4 := past_cell Fa.c1
    have t5 := past_cell Fa.c2
    refine wp_region_past (by kernel_rfl) (by kernel_rfl) ?_
    repeat (go_big_quiet_step (first | (go_at_call 35; exact in_past (null_any _)) | (go_at_call 26; exact in_past (true_any _ _ _ _))))
    refine wpQuiet_nil ?_
    rintro wb ⟨⟨vb, hbb⟩, hb⟩
    obtain rfl : wb = vb := hb
    go_wp2_with fail
    go_ret
    exact ⟨rfl, chain Za hbb⟩
  · obtain rfl : i = 7 := by simpa using hi
    clear hi
    refine wpOp_step rfl (fun K hK => ?_)
    go_simp
    refine hK _ _ ⟨D5.alloc D5.size _, ?_⟩
    clear hK K
    have F5 := Box.new w5 (.int .i64 0) (.int .i64 0) (.string ⟨#[]⟩) 23
    refine wpX_step (rs := [6]) (by kernel_rfl) (by simp) ?_
    intro w6 hb6 j hj
    obtain rfl : j = 6 := by simpa using hj
    clear hj
    have D6 := chain (D5.alloc D5.size _) hb6
    have F6 := F5.next hb6
    have ne56 : w5.heap.size ≠ w6.heap.size := Nat.ne_of_lt F6.lt
    have ne65 : w6.heap.size ≠ w5.heap.size := Ne.symm ne56
    refine wpOp_step rfl (fun K hK => ?_)
    go_simp
    refine hK _ _ ⟨D6.alloc D6.size _, ?_⟩
    clear hK K
    have E6 := Box.new w6 (.int .i64 0) (.int .i64 0) (.string ⟨#[]⟩) 23
    have F6b := F6.alloc (.cells #[.int .i64 0, .int .i64 0, .string ⟨#[]⟩] 23)
    refine wpX_step (rs := [8]) (by kernel_rfl) (by simp) ?_
    intro w7 hb7 j hj
    obtain rfl : j = 8 := by simpa using hj
    clear hj
    have D7 := chain (D6.alloc D6.size _) hb7
    have E7 := E6.next hb7
    have F7 := F6b.next hb7
    have ⟨e0, e1', e2', e3, e4, e5, e6⟩ := E7
    refine wpOp_step rfl (fun K hK => ?_)
    go_simp
    refine hK _ _ ⟨below_set3 D7 D6.size, ?_⟩
    clear hK K e0 e1' e2' e3 e4 e5 e6
    have E7b := E7.store (x' := .int .i64 2) (y' := .int .i64 m) (z' := .string ⟨#[]⟩)
    have F7b := F7.other (g := w6.heap.size) (x' := .int .i64 2) (y' := .int .i64 m) (z' := .string ⟨#[]⟩) ne65
    refine wpX_step (rs := [9]) (by kernel_rfl) (by simp) ?_
    intro w8 hb8 j hj
    obtain rfl : j = 9 := by simpa using hj
    clear hj
    have D8 := chain (below_set3 D7 D6.size) hb8
    have E8 := E7b.next hb8
    have F8 := F7b.next hb8
    have ⟨e0, e1', e2', e3, e4, e5, e6⟩ := F8
    refine wpOp_step rfl (fun K hK => ?_)
    go_simp
    refine hK _ _ ⟨below_set3 D8 D5.size, ?_⟩
    clear hK K e0 e1' e2' e3 e4 e5 e6
    have F8b := F8.store (x' := .int .i64 2) (y' := .int .i64 m2) (z' := .string ⟨#[]⟩)
    have E8b := E8.other (g := w5.heap.size) (x' := .int .i64 2) (y' := .int .i64 m2) (z' := .string ⟨#[]⟩) ne56
    refine wpX_done (by kernel_rfl) ?_
    intro w9 hb9
    have D9 := chain (below_set3 D8 D5.size) hb9
    have E9 := E8b.next hb9
    have F9 := F8b.next hb9
    clear F5 F6 F6b E6 E7 F7 E7b F7b E8 F8 E8b F8b ne56 ne65
    have A9 := A4.next D9
    have B9 := B4.next D9
    have Z9 := chain Z4 D9
    clear A4 B4 Z4 D5 D6 D7 D8 D9 hb5 hb6 hb7 hb8 hb9 hB0 p0 p1 p2 p3 p4 p5
    go_wp2_with fail
    haveI : Nonempty (Past w9) := ⟨⟨w9, Below.refl _ _⟩⟩
    have p0 := past_cell A9.c0
    have p3 := past_cell B9.c0
    have t0 := past_cell E9.c0
    have t1 := past_cell E9.c1
    have t2 := past_cell E9.c2
    have t3 := past_cell F9.c0
    have t4 := past_cell F9.c1
    have t5 := past_cell F9.c2
    refine wp_region_past (by kernel_rfl) (by kernel_rfl) ?_
    repeat (go_big_quiet_step (first | (go_at_call 35; exact in_past (null_any _))))
    refine wpQuiet_nil ?_
    rintro wa ⟨⟨va, hba⟩, ha⟩
    obtain rfl : wa = va := ha
    have Za := chain Z9 hba
    have Ea := E9.next hba
    have Fa := F9.next hba
    clear p0 p3 t0 t1 t2 t3 t4 t5 A9 B9 E9 F9 Z9 hba this
    go_wp2_with fail
    haveI : Nonempty (Past wa) := ⟨⟨wa, Below.refl _ _⟩⟩
    have t0 := past_cell Ea.c0
    have t1 := past_cell Ea.c1
    have t2 := past_cell Ea.c2
    have t3 := past_cell Fa.c0
    have t4 := past_cell Fa.c1
    have t5 := past_cell Fa.c2
    refine wp_region_past (by kernel_rfl) (by kernel_rfl) ?_
    repeat (go_big_quiet_step (first | (go_at_call 35; exact in_past (null_any _)) | (go_at_call 26; exact in_past (true_any _ _ _ _))))
    refine wpQuiet_nil ?_
    rintro wb ⟨⟨vb, hbb⟩, hb⟩
    obtain rfl : wb = vb := hb
    go_wp2_with fail
    go_ret
    exact ⟨rfl, chain Za hbb⟩
end Go.Proofs.Ytakeldogdolddaa
