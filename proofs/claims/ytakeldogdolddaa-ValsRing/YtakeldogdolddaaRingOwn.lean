/- For all numbers a, b, c: where none is below -30000 or above 30000 what Reckon answers obeys the laws of a ring; elsewhere the law answers true at once: tidelaw1.ValsRing answers true. No condition. -/
import Derived.Test.YtakeldogdolddaaRing
import Derived.ProofKit
import Derived.OpenShut
import Derived.ChangeOld
import Derived.Lib.SmallJoins
namespace Go.Proofs.Ytakeldogdolddaa
open Go.ChangeShapes Go.WideShapes Go.ChangeAt Go.RowKit Go.Joins

theorem ring_eq (c x y z : Int) (hc : recT c x y = some z) (hx : Sm x) (hy : Sm y) : recO c 3 x 3 y = some z := by
  unfold Sm at hx hy
  have a1 := inB_mk (n := x) (by omega) (by omega)
  have a2 := inB_mk (n := y) (by omega) (by omega)
  simp [recO, numB, a1, a2, hc]
theorem ring_k (x : Int) (h : Sm x) : optK (some x) = 3 := by
  unfold Sm at h
  have a1 := inB_mk (n := x) (by omega) (by omega)
  simp [optK, intK, a1]
theorem ring_n (x : Int) (h : Sm x) : optN (some x) = x := by
  unfold Sm at h
  have a1 := inB_mk (n := x) (by omega) (by omega)
  simp [optN, intN, a1]
theorem recT_add (x y z : Int) (h : x + y = z) : recT 43 x y = some z := by subst h; simp [recT]
theorem recT_sub (x y z : Int) (h : x - y = z) : recT 45 x y = some z := by subst h; simp [recT]
theorem recT_mul (x y z : Int) (h : x * y = z) : recT 42 x y = some z := by subst h; simp [recT]
theorem sm_of (x N : Int) (h0 : -N ≤ x) (h1 : x ≤ N) (hN : N ≤ 100000000000000) : Sm x := by unfold Sm; omega

/-- Out of the range of which the law speaks it answers true at once. -/
theorem ring_out (a b c : Int) (w : World) (h : ¬ (-30000 ≤ a ∧ a ≤ 30000 ∧ -30000 ≤ b ∧ b ≤ 30000 ∧ -30000 ≤ c ∧ c ≤ 30000)) :
    Calls Try.prog 8 #[.int .i64 a, .int .i64 b, .int .i64 c] w fun e w' => e = .returned (.bool true) ∧ Below w.heap.size w w' := by
  go_enter Try.func8, Try.ntmps8
  go_wp2_with fail
  refine (alive_any _).mono ?_
  rintro e w1 ⟨rfl, hb1⟩
  have H : Hid (¬ (-30000 ≤ a ∧ a ≤ 30000 ∧ -30000 ≤ b ∧ b ≤ 30000 ∧ -30000 ≤ c ∧ c ≤ 30000)) := h
  clear h
  go_wp2
  go_loop [20] (fun i => (i = .int .i64 0) ∨ (i = .int .i64 1 ∧ -30000 ≤ a ∧ a ≤ 30000) ∨ (i = .int .i64 2 ∧ -30000 ≤ a ∧ a ≤ 30000 ∧ -30000 ≤ b ∧ b ≤ 30000)) (fun i => 3 - (intOf i).toNat)
  case atStart => exact .inl rfl
  case round =>
    rcases hrel with rfl | ⟨rfl, a0, a1⟩ | ⟨rfl, a0, a1, b0, b1⟩
    · by_cases h0 : a < -30000
      · go_wp2
        go_ret
        exact ⟨rfl, hb1.alloc hb1.size _⟩
      by_cases h1 : 30000 < a
      · go_wp2
        go_ret
        exact ⟨rfl, hb1.alloc hb1.size _⟩
      go_wp2
      go_round
      case rel => exact .inr (.inl ⟨rfl, by omega, by omega⟩)
      case measure => simp [intOf]
    · by_cases h0 : b < -30000
      · go_wp2
        go_ret
        exact ⟨rfl, hb1.alloc hb1.size _⟩
      by_cases h1 : 30000 < b
      · go_wp2
        go_ret
        exact ⟨rfl, hb1.alloc hb1.size _⟩
      go_wp2
      go_round
      case rel => exact .inr (.inr ⟨rfl, by omega, by omega, by omega, by omega⟩)
      case measure => simp [intOf]
    · by_cases h0 : c < -30000
      · go_wp2
        go_ret
        exact ⟨rfl, hb1.alloc hb1.size _⟩
      by_cases h1 : 30000 < c
      · go_wp2
        go_ret
        exact ⟨rfl, hb1.alloc hb1.size _⟩
      exact absurd ⟨a0, a1, b0, b1, by omega, by omega⟩ H.out

theorem ring_walk (a b c : Int) (w : World) :
    Calls Try.prog 8 #[.int .i64 a, .int .i64 b, .int .i64 c] w fun e w' => e = .returned (.bool true) ∧ Below w.heap.size w w' := by
  by_cases h : -30000 ≤ a ∧ a ≤ 30000 ∧ -30000 ≤ b ∧ b ≤ 30000 ∧ -30000 ≤ c ∧ c ≤ 30000
  · obtain ⟨a0, a1, b0, b1, c0, c1⟩ := h
    have F := facts a b c a0 a1 b0 b1 c0 c1
    have f3 : Sm (a + b + c) := sm_of _ 90000 (by omega) (by omega) (by omega)
    have f4 : Sm (a - b) := sm_of _ 60000 (by omega) (by omega) (by omega)
    have f5 : a * (b * c) = a * b * c := (Int.mul_assoc a b c).symm
    have f6 : a * b + a * c = a * (b + c) := (Int.mul_add a b c).symm
    exact ring_core a b c (a + b) (a * b) (a + b + c) (b + c) (a * b * c) (b * c) (a * (b + c)) (a * c) (a - b) w a0 a1 b0 b1 c0 c1
      (ring_eq _ _ _ _ (recT_add _ _ _ rfl) F.qa F.qb) (ring_eq _ _ _ _ (recT_add _ _ _ (Int.add_comm _ _)) F.qb F.qa)
      (ring_eq _ _ _ _ (recT_mul _ _ _ rfl) F.qa F.qb) (ring_eq _ _ _ _ (recT_mul _ _ _ (Int.mul_comm _ _)) F.qb F.qa)
      (ring_eq _ _ _ _ (recT_add _ _ _ rfl) F.qsab F.qc) (ring_eq _ _ _ _ (recT_add _ _ _ rfl) F.qb F.qc) (ring_eq _ _ _ _ (recT_add _ _ _ (Int.add_assoc _ _ _).symm) F.qa F.qsbc)
      (ring_eq _ _ _ _ (recT_mul _ _ _ rfl) F.qab F.qc) (ring_eq _ _ _ _ (recT_mul _ _ _ rfl) F.qb F.qc) (ring_eq _ _ _ _ (recT_mul _ _ _ f5) F.qa F.qbc)
      (ring_eq _ _ _ _ (recT_mul _ _ _ rfl) F.qa F.qsbc) (ring_eq _ _ _ _ (recT_mul _ _ _ rfl) F.qa F.qc) (ring_eq _ _ _ _ (recT_add _ _ _ f6) F.qab F.qac)
      (ring_eq _ _ _ _ (recT_sub _ _ _ rfl) F.qa F.qb) (ring_eq _ _ _ _ (recT_add _ _ _ (by omega)) f4 F.qb)
      (ring_k _ F.qsab) (ring_n _ F.qsab) (ring_k _ F.qab) (ring_n _ F.qab) (ring_k _ f3) (ring_n _ f3) (ring_k _ F.qsbc) (ring_n _ F.qsbc) (ring_k _ F.qabc) (ring_n _ F.qabc)
      (ring_k _ F.qbc) (ring_n _ F.qbc) (ring_k _ F.qasbc) (ring_n _ F.qasbc) (ring_k _ F.qac) (ring_n _ F.qac) (ring_k _ f4) (ring_n _ f4) (ring_k _ F.qa) (ring_n _ F.qa)
  · exact ring_out a b c w h

theorem own : ownKnob Try.prog.godebug = none := by kernel_rfl
theorem laidOut : laidOutB Try.prog = true := by kernel_rfl

set_option maxRecDepth 100000 in
theorem lifted (os : Os) (started : os.Started) (H : Type) (enc : TypeId × Value → H) :
    ReturnsInHanded {} Try.checked os 8 .any (Rows.valsRingSpec.pre6 enc Try.prog Try.f8 Rows.valsRingRow.domain false) (Rows.valsRingSpec.post enc Try.prog Try.f8 false true false false) := by
  refine returnsInHanded_of_change (C := Try.checked) own started (by kernel_rfl) Try.func8
    (ChangeSpec.witness6 (enc := enc) (C := Try.checked) false ⟨#[], #[.int .i64 0, .int .i64 0, .int .i64 0], []⟩ 8 (by kernel_rfl) (by kernel_rfl) (by kernel_rfl) (by kernel_rfl)) ?_
  intro W base args ds gs before hval0 hW _hcnd _
  have hval : ∀ (j : Nat) t v, Try.f8.params[j]? = some t → args[j]? = some v → Value.okWide Try.prog W .any base t v := hval0
  have hW' := hW
  obtain ⟨p, q, hA0, hV, rfl, _hfz, _hnd⟩ := hW
  have hA : DataW.TrodAll enc Try.prog W 0 (fun _ => true) true Try.f8.params.toList args.toList ds p := hA0
  rw [Try.params8] at hA hval
  obtain ⟨v0, vs0, d0, ds0, p0, q0, hargs, rfl, rfl, h0, r0⟩ := trodAll_cons hA
  obtain ⟨v1, vs1, d1, ds1, p1, q1, rfl, rfl, rfl, h1, r1⟩ := trodAll_cons r0
  obtain ⟨v2, vs2, d2, ds2, p2, q2, rfl, rfl, rfl, h2, r2⟩ := trodAll_cons r1
  obtain ⟨rfl, rfl, rfl⟩ := trodAll_nil r2
  obtain rfl : args = #[v0, v1, v2] := by cases args; simp_all
  obtain ⟨rfl, rfl⟩ := trodVars_none hV
  have k0 := h0
  have lt0 : ∀ x ∈ p0, x.block < W.heap.size := by obtain ⟨m, hm⟩ := k0; exact DataW.trod_lt m _ _ _ hm
  obtain ⟨a0, rfl, _, _, w0⟩ := open_int Try.underlying2 (hval 0 2 v0 rfl rfl) h0
  have k1 := h1
  have lt1 : ∀ x ∈ p1, x.block < W.heap.size := by obtain ⟨m, hm⟩ := k1; exact DataW.trod_lt m _ _ _ hm
  obtain ⟨a1, rfl, _, _, w1⟩ := open_int Try.underlying2 (hval 1 2 v1 rfl rfl) h1
  have k2 := h2
  have lt2 : ∀ x ∈ p2, x.block < W.heap.size := by obtain ⟨m, hm⟩ := k2; exact DataW.trod_lt m _ _ _ hm
  obtain ⟨a2, rfl, _, _, w2⟩ := open_int Try.underlying2 (hval 2 2 v2 rfl rfl) h2
  clear hA0 hval0
  refine (ring_walk a0 a1 a2 W).mono fun e W' ⟨he, bel⟩ => ?_
  subst he
  exact ⟨_, rfl, _, _, _, [], _, [], hW', trodAll_mk1 (shut_bool Try.underlying4 _), (trodAll_cons_mk (Below.trod laidOut (by kernel_rfl) (of_decide_eq_true (by kernel_rfl)) k0 bel lt0) (trodAll_cons_mk (Below.trod laidOut (by kernel_rfl) (of_decide_eq_true (by kernel_rfl)) k1 bel lt1) (trodAll_cons_mk (Below.trod laidOut (by kernel_rfl) (of_decide_eq_true (by kernel_rfl)) k2 bel lt2) trodAll_mk0))), rfl, bel.frame _, fun h => by cases h⟩

theorem valsRing_proved : Rows.ValsRingSaid :=
  OpenClaim.holds_of_wide 8 Try.f8 rfl rfl rfl rfl rfl rfl rfl ⟨rfl, rfl, rfl, rfl, rfl⟩ rfl rfl rfl rfl rfl (by kernel_rfl) Try.func8 (by kernel_rfl)
    (of_decide_eq_true (by kernel_rfl)) (by unfold Func.isWrapper; first | (rw [if_pos (by decide +kernel)]; kernel_rfl) | (rw [if_neg (by decide +kernel)]; exact ⟨rfl, rfl⟩))
    (fun os started H enc _ => lifted os started H enc)
#print axioms valsRing_proved
end Go.Proofs.Ytakeldogdolddaa
