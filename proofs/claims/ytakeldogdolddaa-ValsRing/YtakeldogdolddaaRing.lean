/- For all numbers that are not too large what Reckon answers obeys the laws of a ring: the walk of tidelaw1.ValsRing. -/
import Derived.Test.YtakeldogdolddaaW8
import Derived.Test.YtakeldogdolddaaTab
namespace Go.Proofs.Ytakeldogdolddaa
open Go.RowKit


theorem rec_small (c a b x : Int) (hc : recT c a b = some x) (a0 : -1000000000000000 ≤ a) (a1 : a ≤ 1000000000000000) (b0 : -1000000000000000 ≤ b) (b1 : b ≤ 1000000000000000) (x0 : -1000000000000000 ≤ x) (x1 : x ≤ 1000000000000000) :
    optK (recO c 3 a 3 b) = 3 ∧ optN (recO c 3 a 3 b) = x := by
  have e : recO c 3 a 3 b = some x := by simp [recO, numB, inB_mk a0 a1, inB_mk b0 b1, hc]
  rw [e]
  simp [optK, optN, intK, intN, inB_mk x0 x1]
def ringT : List Line := [(some 37, [12], []), (some 38, [9], []), (some 39, [10], []), (some 40, [37, 38, 39], [0, 1, 2]), (some 41, [12], []), (some 42, [10], []), (some 43, [9], []), (some 44, [41, 42, 43], [4, 5, 6, 3]), (some 45, [40, 44], [3, 7]), (some 46, [45], [8, 7]), (some 47, [12, 46], [9]), (some 48, [9, 46], [9]), (some 49, [10, 46], [9]), (some 50, [47, 48, 49, 46], [10, 11, 12, 9, 9]), (some 51, [12, 46], [9]), (some 52, [10, 46], [9]), (some 53, [9, 46], [9]), (some 54, [51, 52, 53, 46], [14, 15, 16, 13, 9]), (some 55, [50, 54, 46], [13, 17, 9]), (some 56, [46, 55], [9, 18]), (some 57, [56], [19, 17]), (some 58, [12, 57], [20]), (some 59, [12, 57], [20]), (some 60, [9, 57], [20]), (some 61, [10, 57], [20]), (some 62, [59, 60, 61, 57], [22, 23, 24, 20, 20]), (some 63, [11, 57], [20]), (some 64, [58, 62, 63, 57], [21, 25, 26, 25, 20]), (some 65, [12, 57], [20]), (some 66, [9, 57], [20]), (some 67, [12, 57], [20]), (some 68, [10, 57], [20]), (some 69, [11, 57], [20]), (some 70, [67, 68, 69, 57], [30, 31, 32, 27, 20]), (some 71, [65, 66, 70, 57], [28, 29, 33, 33, 20]), (some 72, [64, 71, 57], [27, 34, 20]), (some 73, [57, 72], [20, 35]), (some 74, [73], [36, 34]), (some 75, [12, 74], [37]), (some 76, [12, 74], [37]), (some 77, [9, 74], [37]), (some 78, [10, 74], [37]), (some 79, [76, 77, 78, 74], [39, 40, 41, 37, 37]), (some 80, [11, 74], [37]), (some 81, [75, 79, 80, 74], [38, 42, 43, 42, 37]), (some 82, [12, 74], [37]), (some 83, [9, 74], [37]), (some 84, [12, 74], [37]), (some 85, [10, 74], [37]), (some 86, [11, 74], [37]), (some 87, [84, 85, 86, 74], [47, 48, 49, 44, 37]), (some 88, [82, 83, 87, 74], [45, 46, 50, 50, 37]), (some 89, [81, 88, 74], [44, 51, 37]), (some 90, [74, 89], [37, 52]), (some 91, [90], [53, 51]), (some 92, [12, 91], [54]), (some 93, [9, 91], [54]), (some 94, [12, 91], [54]), (some 95, [10, 91], [54]), (some 96, [11, 91], [54]), (some 97, [94, 95, 96, 91], [57, 58, 59, 54, 54]), (some 98, [92, 93, 97, 91], [55, 56, 60, 60, 54]), (some 99, [12, 91], [54]), (some 100, [12, 91], [54]), (some 101, [9, 91], [54]), (some 102, [10, 91], [54]), (some 103, [100, 101, 102, 91], [63, 64, 65, 61, 54]), (some 104, [12, 91], [54]), (some 105, [9, 91], [54]), (some 106, [11, 91], [54]), (some 107, [104, 105, 106, 91], [67, 68, 69, 66, 54]), (some 108, [99, 103, 107, 91], [62, 66, 70, 70, 54]), (some 109, [98, 108, 91], [61, 71, 54]), (some 110, [91, 109], [54, 72]), (some 111, [110], [73, 71]), (some 112, [12, 111], [74]), (some 113, [12, 111], [74]), (some 114, [9, 111], [74]), (some 115, [10, 111], [74]), (some 116, [113, 114, 115, 111], [76, 77, 78, 74, 74]), (some 117, [10, 111], [74]), (some 118, [112, 116, 117, 111], [75, 79, 80, 79, 74]), (some 119, [9, 111], [74]), (some 120, [118, 119, 111], [81, 82, 74]), (some 121, [111, 120], [74, 83]), (some 6, [121], [84, 81, 0, 1, 2, 3, 4, 5, 6, 7, 8, 9, 10, 11, 12, 13, 14, 15, 16, 17, 18, 19, 20, 21, 22, 23, 24, 25, 26, 27, 28, 29, 30, 31, 32, 33, 34, 35, 36, 37, 38, 39, 40, 41, 42, 43, 44, 45, 46, 47, 48, 49, 50, 51, 52, 53, 54, 55, 56, 57, 58, 59, 60, 61, 62, 63, 64, 65, 66, 67, 68, 69, 70, 71, 72, 73, 74, 75, 76, 77, 78, 79, 80, 81, 82, 83, 84])]
def Sm (n : Int) : Prop := -100000000000000 ≤ n ∧ n ≤ 100000000000000
theorem add_small (a b : Int) (s s' : ByteArray) (w : World) (ha : Sm a) (hb : Sm b) :
    Calls Try.prog 28 #[.int .i32 43, .agg #[.int .i64 3, .int .i64 a, .string s], .agg #[.int .i64 3, .int .i64 b, .string s']] w fun e w' => e = .returned (.agg #[.int .i64 3, .int .i64 (a + b), .string ⟨#[]⟩]) ∧ Below w.heap.size w w' := by
  unfold Sm at ha hb
  have h := rec_small 43 a b (a + b) (by simp [recT]) (by omega) (by omega) (by omega) (by omega) (by omega) (by omega)
  have k := reckon_any 43 3 a 3 b s s' w
  rw [h.1, h.2] at k
  exact k
theorem sub_small (a b : Int) (s s' : ByteArray) (w : World) (ha : Sm a) (hb : Sm b) :
    Calls Try.prog 28 #[.int .i32 45, .agg #[.int .i64 3, .int .i64 a, .string s], .agg #[.int .i64 3, .int .i64 b, .string s']] w fun e w' => e = .returned (.agg #[.int .i64 3, .int .i64 (a - b), .string ⟨#[]⟩]) ∧ Below w.heap.size w w' := by
  unfold Sm at ha hb
  have h := rec_small 45 a b (a - b) (by simp [recT]) (by omega) (by omega) (by omega) (by omega) (by omega) (by omega)
  have k := reckon_any 45 3 a 3 b s s' w
  rw [h.1, h.2] at k
  exact k
theorem mul_small (a b : Int) (s s' : ByteArray) (w : World) (ha : Sm a) (hb : Sm b) (hm : Sm (a * b)) :
    Calls Try.prog 28 #[.int .i32 42, .agg #[.int .i64 3, .int .i64 a, .string s], .agg #[.int .i64 3, .int .i64 b, .string s']] w fun e w' => e = .returned (.agg #[.int .i64 3, .int .i64 (a * b), .string ⟨#[]⟩]) ∧ Below w.heap.size w w' := by
  unfold Sm at ha hb hm
  have h := rec_small 42 a b (a * b) (by simp [recT]) (by omega) (by omega) (by omega) (by omega) (by omega) (by omega)
  have k := reckon_any 42 3 a 3 b s s' w
  rw [h.1, h.2] at k
  exact k

theorem mul_bd (a b M N : Int) (hM : 0 ≤ M) (a0 : -M ≤ a) (a1 : a ≤ M) (b0 : -N ≤ b) (b1 : b ≤ N) : -(M * N) ≤ a * b ∧ a * b ≤ M * N := by
  have h : a.natAbs * b.natAbs ≤ M.natAbs * N.natAbs := Nat.mul_le_mul (by omega) (by omega)
  have h1 : (a * b).natAbs = a.natAbs * b.natAbs := Int.natAbs_mul a b
  have h2 : (M * N).natAbs = M.natAbs * N.natAbs := Int.natAbs_mul M N
  have hN : 0 ≤ N := by omega
  have h3 : 0 ≤ M * N := Int.mul_nonneg hM hN
  omega

structure Facts (a b c : Int) : Prop where
  qa : Sm a
  qb : Sm b
  qc : Sm c
  qab : Sm (a * b)
  qac : Sm (a * c)
  qbc : Sm (b * c)
  qabc : Sm (a * b * c)
  qsab : Sm (a + b)
  qsbc : Sm (b + c)
  qasbc : Sm (a * (b + c))
  qdab : Sm (a - b)
theorem facts (a b c : Int) (a0 : -30000 ≤ a) (a1 : a ≤ 30000) (b0 : -30000 ≤ b) (b1 : b ≤ 30000) (c0 : -30000 ≤ c) (c1 : c ≤ 30000) : Facts a b c := by
  have h1 := mul_bd a b 30000 30000 (by omega) a0 a1 b0 b1
  have h2 := mul_bd a c 30000 30000 (by omega) a0 a1 c0 c1
  have h3 := mul_bd b c 30000 30000 (by omega) b0 b1 c0 c1
  have h4 := mul_bd (a * b) c (30000 * 30000) 30000 (by omega) (by omega) (by omega) c0 c1
  have h5 := mul_bd a (b + c) 30000 60000 (by omega) a0 a1 (by omega) (by omega)
  constructor <;> unfold Sm <;> omega


set_option maxHeartbeats 2000000 in
set_option maxRecDepth 100000 in
theorem ring_core (a b c u1 u2 u3 u4 u5 u6 u7 u8 u9 : Int) (w : World) (a0 : -30000 ≤ a) (a1 : a ≤ 30000) (b0 : -30000 ≤ b) (b1 : b ≤ 30000) (c0 : -30000 ≤ c) (c1 : c ≤ 30000)
    (q0 : recO 43 3 a 3 b = some u1) (q1 : recO 43 3 b 3 a = some u1) (q2 : recO 42 3 a 3 b = some u2) (q3 : recO 42 3 b 3 a = some u2) (q4 : recO 43 3 u1 3 c = some u3) (q5 : recO 43 3 b 3 c = some u4) (q6 : recO 43 3 a 3 u4 = some u3) (q7 : recO 42 3 u2 3 c = some u5) (q8 : recO 42 3 b 3 c = some u6) (q9 : recO 42 3 a 3 u6 = some u5) (q10 : recO 42 3 a 3 u4 = some u7) (q11 : recO 42 3 a 3 c = some u8) (q12 : recO 43 3 u2 3 u8 = some u7) (q13 : recO 45 3 a 3 b = some u9) (q14 : recO 43 3 u9 3 b = some a)
    (ku1 : optK (some u1) = 3) (nu1 : optN (some u1) = u1) (ku2 : optK (some u2) = 3) (nu2 : optN (some u2) = u2) (ku3 : optK (some u3) = 3) (nu3 : optN (some u3) = u3) (ku4 : optK (some u4) = 3) (nu4 : optN (some u4) = u4) (ku5 : optK (some u5) = 3) (nu5 : optN (some u5) = u5) (ku6 : optK (some u6) = 3) (nu6 : optN (some u6) = u6) (ku7 : optK (some u7) = 3) (nu7 : optN (some u7) = u7) (ku8 : optK (some u8) = 3) (nu8 : optN (some u8) = u8) (ku9 : optK (some u9) = 3) (nu9 : optN (some u9) = u9) (ka : optK (some a) = 3) (na : optN (some a) = a) :
    Calls Try.prog 8 #[.int .i64 a, .int .i64 b, .int .i64 c] w fun e w' => e = .returned (.bool true) ∧ Below w.heap.size w w' := by
  go_enter Try.func8, Try.ntmps8
  go_wp2_with fail
  refine (alive_any _).mono ?_
  rintro e w1 ⟨rfl, hb1⟩
  go_wp2
  go_loop [20] (fun i => i = .int .i64 0 ∨ i = .int .i64 1 ∨ i = .int .i64 2 ∨ i = .int .i64 3) (fun i => 3 - (intOf i).toNat)
  case atStart => exact .inl rfl
  case round =>
    have h0 : ¬ a < -30000 := by omega
    have h1 : ¬ 30000 < a := by omega
    have h2 : ¬ b < -30000 := by omega
    have h3 : ¬ 30000 < b := by omega
    have h4 : ¬ c < -30000 := by omega
    have h5 : ¬ 30000 < c := by omega
    rcases hrel with rfl | rfl | rfl | rfl
    · go_wp2
      go_round
      case rel => exact .inr (.inl rfl)
      case measure => simp [intOf]
    · go_wp2
      go_round
      case rel => exact .inr (.inr (.inl rfl))
      case measure => simp [intOf]
    · go_wp2
      go_round
      case rel => exact .inr (.inr (.inr rfl))
      case measure => simp [intOf]
    · clear a0 a1 b0 b1 c0 c1 h0 h1 h2 h3 h4 h5
      go_wp2_with fail
      refine (num_any _ _).mono ?_
      rintro e w2 ⟨rfl, hb2⟩
      have B2 := chain (hb1.alloc hb1.size _) hb2
      clear hb2
      go_wp2_with fail
      refine (num_any _ _).mono ?_
      rintro e w3 ⟨rfl, hb3⟩
      have B3 := chain B2 hb3
      clear hb3 B2
      go_wp2_with fail
      refine (num_any _ _).mono ?_
      rintro e w4 ⟨rfl, hb4⟩
      have B4 := chain B3 hb4
      clear hb4 B3
      go_wp2_with fail
      have A0 := ((Box.new w4 (.int .i64 3) (.int .i64 a) (.string ⟨#[]⟩) 23).alloc (.cells #[.int .i64 3, .int .i64 b, .string ⟨#[]⟩] 23)).alloc (.cells #[.int .i64 3, .int .i64 c, .string ⟨#[]⟩] 23)
      have B0 := (Box.new (w4.alloc (.cells #[.int .i64 3, .int .i64 a, .string ⟨#[]⟩] 23)) (.int .i64 3) (.int .i64 b) (.string ⟨#[]⟩) 23).alloc (.cells #[.int .i64 3, .int .i64 c, .string ⟨#[]⟩] 23)
      have C0 := Box.new ((w4.alloc (.cells #[.int .i64 3, .int .i64 a, .string ⟨#[]⟩] 23)).alloc (.cells #[.int .i64 3, .int .i64 b, .string ⟨#[]⟩] 23)) (.int .i64 3) (.int .i64 c) (.string ⟨#[]⟩) 23
      simp only [World.size_alloc] at B0 C0
      have B5 := ((B4.alloc B4.size (.cells #[.int .i64 3, .int .i64 a, .string ⟨#[]⟩] 23)).alloc (by simp; have := B4.size; omega) (.cells #[.int .i64 3, .int .i64 b, .string ⟨#[]⟩] 23)).alloc (by simp; have := B4.size; omega) (.cells #[.int .i64 3, .int .i64 c, .string ⟨#[]⟩] 23)
      generalize (((w4.alloc (.cells #[.int .i64 3, .int .i64 a, .string ⟨#[]⟩] 23)).alloc (.cells #[.int .i64 3, .int .i64 b, .string ⟨#[]⟩] 23)).alloc (.cells #[.int .i64 3, .int .i64 c, .string ⟨#[]⟩] 23)) = W at *
      clear B4
      have a0 := past_cell A0.c0
      have a1 := past_cell A0.c1
      have a2 := past_cell A0.c2
      have b0 := past_cell B0.c0
      have b1 := past_cell B0.c1
      have b2 := past_cell B0.c2
      have c0 := past_cell C0.c0
      have c1 := past_cell C0.c1
      have c2 := past_cell C0.c2
      clear A0 B0 C0
      simp only [List.append_eq, List.cons_append, List.nil_append]
      haveI : Nonempty (Past W) := ⟨⟨W, Below.refl _ _⟩⟩
      refine wp_region_tab ringT (by kernel_rfl) (by as_aux_lemma => kernel_rfl) (by as_aux_lemma => kernel_rfl) (by as_aux_lemma => kernel_rfl) ?_
      iterate 18 (go_big_quiet_step (first | (go_at_call 28; exact in_past (reckon_any _ _ _ _ _ _ _ _))))
      as_aux_lemma =>
       iterate 18 (go_big_quiet_step (first | (go_at_call 28; exact in_past (reckon_any _ _ _ _ _ _ _ _))))
       as_aux_lemma =>
        iterate 18 (go_big_quiet_step (first | (go_at_call 28; exact in_past (reckon_any _ _ _ _ _ _ _ _))))
        as_aux_lemma =>
         iterate 18 (go_big_quiet_step (first | (go_at_call 28; exact in_past (reckon_any _ _ _ _ _ _ _ _))))
         as_aux_lemma =>
          repeat (go_big_quiet_step (first | (go_at_call 28; exact in_past (reckon_any _ _ _ _ _ _ _ _))))
          refine wpQuiet_nil ?_
          rintro _ ⟨⟨w5, B6⟩, rfl⟩
          go_wp2_with fail
          go_ret
          exact ⟨rfl, chain B5 B6⟩
end Go.Proofs.Ytakeldogdolddaa
