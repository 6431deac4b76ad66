/- For all values a, b, c: of right ones one of two is less, or they are the same but for what their kind has not; a lesser one's lesser one is less; Equal and Less say so, where they know: tidelaw1.ValsOrder answers true and leaves its arguments as they were. No condition. -/
import Derived.Test.YtakeldogdolddaaOrder1
import Derived.Test.YtakeldogdolddaaOrder2
import Derived.Test.YtakeldogdolddaaOrder3
import Derived.ProofKit
import Derived.OpenShut
import Derived.ChangeOld
import Derived.Lib.SmallJoins
namespace Go.Proofs.Ytakeldogdolddaa
open Go.ChangeShapes Go.WideShapes Go.ChangeAt Go.RowKit Go.Joins

theorem open_val {H : Type} {enc : TypeId × Value → H} {W : World} {r : Reach} {b0 base : Nat} {sp : Nat → Bool} {hd : Bool} {v : Value} {d : DataW H} {p : List MemPlace}
    (hv : Value.okWide Try.prog W r b0 23 v) (h : DataW.Trod enc Try.prog W base sp hd 23 v d p) : ∃ (k n : Int) (s : ByteArray), v = .agg #[.int .i64 k, .int .i64 n, .string s] := by
  obtain ⟨c0, c1, c2, y0, y1, y2, m, rfl, rfl, rfl, hy0, hy1, hy2⟩ := open_agg3 Try.underlying23 (by kernel_rfl) (by kernel_rfl) hv h
  obtain ⟨a, e0, _, _⟩ := DataW.trod_int Try.underlying3 hy0
  obtain ⟨b, e1, _, _⟩ := DataW.trod_int Try.underlying2 hy1
  obtain ⟨s, e2, _, _⟩ := DataW.trod_string Try.underlying9 hy2
  simp at e0 e1 e2
  subst e0 e1 e2
  exact ⟨_, _, _, rfl⟩

theorem cmpV_pm (k n k' n' : Int) (s s' : ByteArray) : -1 ≤ cmpV k n s k' n' s' ∧ cmpV k n s k' n' s' ≤ 1 := by
  have i : ∀ a b : Int, -1 ≤ cmpI a b ∧ cmpI a b ≤ 1 := fun a b => by unfold cmpI; split <;> (try split) <;> omega
  have t : ∀ a b : ByteArray, -1 ≤ cmpS a b ∧ cmpS a b ≤ 1 := fun a b => by unfold cmpS; split <;> (try split) <;> omega
  unfold cmpV
  split
  · exact i _ _
  · split
    · exact i _ _
    · split
      · exact t _ _
      · omega
theorem cls_b (b : Bool) : (cls 2 (tn (some b)) == some true) = b := by cases b <;> rfl

theorem order_walk (k0 n0 k1 n1 k2 n2 : Int) (s0 s1 s2 : ByteArray) (w : World) :
    Calls Try.prog 7 #[.agg #[.int .i64 k0, .int .i64 n0, .string s0], .agg #[.int .i64 k1, .int .i64 n1, .string s1], .agg #[.int .i64 k2, .int .i64 n2, .string s2]] w fun e w' => e = .returned (.bool true) ∧ Below w.heap.size w w' := by
  have neg := cmpV_neg k0 n0 k1 n1 s0 s1
  have ⟨y0, y1⟩ := cmpV_pm k1 n1 k0 n0 s1 s0
  have tr := cmpV_trans k0 n0 k1 n1 k2 n2 s0 s1 s2
  have e1 : (cmpV k0 n0 s0 k1 n1 s1 != -cmpV k1 n1 s1 k0 n0 s0) = false := by rw [neg]; simp
  by_cases hx : cmpV k0 n0 s0 k1 n1 s1 ≤ 0
  · by_cases hz : cmpV k1 n1 s1 k2 n2 s2 ≤ 0
    · have hu : ¬ 0 < cmpV k0 n0 s0 k2 n2 s2 := by have := tr hx hz; omega
      by_cases e : k0 = k1
      · subst e
        by_cases h : k0 = 1
        · subst h
          have q : tellB 1 1 = false := rfl
          have qe : eqT 1 n0 s0 1 n1 s1 = none := by simp [eqT, q]
          have ql : ltT 1 n0 s0 1 n1 s1 = none := by simp [ltT, q]
          exact order_T1V3 k2 n0 n1 n2 _ _ _ _ s0 s1 s2 w rfl rfl rfl rfl y0 y1 e1 hx hz hu (by rw [qe]; rfl) (by rw [qe]; rfl) (by rw [ql]; rfl) (by rw [ql]; rfl)
        · have q : tellB k0 k0 = true := by simp [tellB, h]
          have qe : eqT k0 n0 s0 k0 n1 s1 = some (cmpV k0 n0 s0 k0 n1 s1 == 0) := by simp [eqT, q]
          have ql : ltT k0 n0 s0 k0 n1 s1 = some (decide (cmpV k0 n0 s0 k0 n1 s1 < 0)) := by simp [ltT, q]
          exact order_T2V3 k0 k2 n0 n1 n2 _ _ _ _ s0 s1 s2 w rfl rfl rfl rfl y0 y1 e1 hx hz hu (by simpa using h) _ _ (cls_b _) (cls_b _) (by rw [qe]; rfl) (by rw [qe]) (by rw [ql]; rfl) (by rw [ql])
      · have q : tellB k0 k1 = false := by simp [tellB, e]
        have qe : eqT k0 n0 s0 k1 n1 s1 = none := by simp [eqT, q]
        have ql : ltT k0 n0 s0 k1 n1 s1 = none := by simp [ltT, q]
        exact order_T0V3 k0 k1 k2 n0 n1 n2 _ _ _ _ s0 s1 s2 w rfl rfl rfl rfl y0 y1 e1 hx hz hu (by simpa using e) (by rw [qe]; rfl) (by rw [qe]; rfl) (by rw [ql]; rfl) (by rw [ql]; rfl)
    · have hz' : decide (cmpV k1 n1 s1 k2 n2 s2 ≤ 0) = false := by simpa using hz
      by_cases e : k0 = k1
      · subst e
        by_cases h : k0 = 1
        · subst h
          have q : tellB 1 1 = false := rfl
          have qe : eqT 1 n0 s0 1 n1 s1 = none := by simp [eqT, q]
          have ql : ltT 1 n0 s0 1 n1 s1 = none := by simp [ltT, q]
          exact order_T1V2 k2 n0 n1 n2 _ _ _ s0 s1 s2 w rfl rfl rfl y0 y1 e1 hx hz' (by rw [qe]; rfl) (by rw [qe]; rfl) (by rw [ql]; rfl) (by rw [ql]; rfl)
        · have q : tellB k0 k0 = true := by simp [tellB, h]
          have qe : eqT k0 n0 s0 k0 n1 s1 = some (cmpV k0 n0 s0 k0 n1 s1 == 0) := by simp [eqT, q]
          have ql : ltT k0 n0 s0 k0 n1 s1 = some (decide (cmpV k0 n0 s0 k0 n1 s1 < 0)) := by simp [ltT, q]
          exact order_T2V2 k0 k2 n0 n1 n2 _ _ _ s0 s1 s2 w rfl rfl rfl y0 y1 e1 hx hz' (by simpa using h) _ _ (cls_b _) (cls_b _) (by rw [qe]; rfl) (by rw [qe]) (by rw [ql]; rfl) (by rw [ql])
      · have q : tellB k0 k1 = false := by simp [tellB, e]
        have qe : eqT k0 n0 s0 k1 n1 s1 = none := by simp [eqT, q]
        have ql : ltT k0 n0 s0 k1 n1 s1 = none := by simp [ltT, q]
        exact order_T0V2 k0 k1 k2 n0 n1 n2 _ _ _ s0 s1 s2 w rfl rfl rfl y0 y1 e1 hx hz' (by simpa using e) (by rw [qe]; rfl) (by rw [qe]; rfl) (by rw [ql]; rfl) (by rw [ql]; rfl)
  · have hx' : decide (cmpV k0 n0 s0 k1 n1 s1 ≤ 0) = false := by simpa using hx
    by_cases e : k0 = k1
    · subst e
      by_cases h : k0 = 1
      · subst h
        have q : tellB 1 1 = false := rfl
        have qe : eqT 1 n0 s0 1 n1 s1 = none := by simp [eqT, q]
        have ql : ltT 1 n0 s0 1 n1 s1 = none := by simp [ltT, q]
        exact order_T1V1 k2 n0 n1 n2 _ _ s0 s1 s2 w rfl rfl y0 y1 e1 hx' (by rw [qe]; rfl) (by rw [qe]; rfl) (by rw [ql]; rfl) (by rw [ql]; rfl)
      · have q : tellB k0 k0 = true := by simp [tellB, h]
        have qe : eqT k0 n0 s0 k0 n1 s1 = some (cmpV k0 n0 s0 k0 n1 s1 == 0) := by simp [eqT, q]
        have ql : ltT k0 n0 s0 k0 n1 s1 = some (decide (cmpV k0 n0 s0 k0 n1 s1 < 0)) := by simp [ltT, q]
        exact order_T2V1 k0 k2 n0 n1 n2 _ _ s0 s1 s2 w rfl rfl y0 y1 e1 hx' (by simpa using h) _ _ (cls_b _) (cls_b _) (by rw [qe]; rfl) (by rw [qe]) (by rw [ql]; rfl) (by rw [ql])
    · have q : tellB k0 k1 = false := by simp [tellB, e]
      have qe : eqT k0 n0 s0 k1 n1 s1 = none := by simp [eqT, q]
      have ql : ltT k0 n0 s0 k1 n1 s1 = none := by simp [ltT, q]
      exact order_T0V1 k0 k1 k2 n0 n1 n2 _ _ s0 s1 s2 w rfl rfl y0 y1 e1 hx' (by simpa using e) (by rw [qe]; rfl) (by rw [qe]; rfl) (by rw [ql]; rfl) (by rw [ql]; rfl)

theorem own : ownKnob Try.prog.godebug = none := by kernel_rfl
theorem laidOut : laidOutB Try.prog = true := by kernel_rfl

set_option maxRecDepth 100000 in
theorem lifted (os : Os) (started : os.Started) (H : Type) (enc : TypeId × Value → H) :
    ReturnsInHanded {} Try.checked os 7 .any (Rows.valsOrderSpec.pre6 enc Try.prog Try.f7 Rows.valsOrderRow.domain false) (Rows.valsOrderSpec.post enc Try.prog Try.f7 false true false false) := by
  refine returnsInHanded_of_change (C := Try.checked) own started (by kernel_rfl) Try.func7
    (ChangeSpec.witness6 (enc := enc) (C := Try.checked) false ⟨#[], #[.agg #[.int .i64 0, .int .i64 0, .string ⟨#[]⟩], .agg #[.int .i64 0, .int .i64 0, .string ⟨#[]⟩], .agg #[.int .i64 0, .int .i64 0, .string ⟨#[]⟩]], []⟩ 8 (by kernel_rfl) (by kernel_rfl) (by kernel_rfl) (by kernel_rfl)) ?_
  intro W base args ds gs before hval0 hW _hcnd _
  have hval : ∀ (j : Nat) t v, Try.f7.params[j]? = some t → args[j]? = some v → Value.okWide Try.prog W .any base t v := hval0
  have hW' := hW
  obtain ⟨p, q, hA0, hV, rfl, _hfz, _hnd⟩ := hW
  have hA : DataW.TrodAll enc Try.prog W 0 (fun _ => true) true Try.f7.params.toList args.toList ds p := hA0
  rw [Try.params7] at hA hval
  obtain ⟨v0, vs0, d0, ds0, p0, q0, hargs, rfl, rfl, h0, r0⟩ := trodAll_cons hA
  obtain ⟨v1, vs1, d1, ds1, p1, q1, rfl, rfl, rfl, h1, r1⟩ := trodAll_cons r0
  obtain ⟨v2, vs2, d2, ds2, p2, q2, rfl, rfl, rfl, h2, r2⟩ := trodAll_cons r1
  obtain ⟨rfl, rfl, rfl⟩ := trodAll_nil r2
  obtain rfl : args = #[v0, v1, v2] := by cases args; simp_all
  obtain ⟨rfl, rfl⟩ := trodVars_none hV
  have k0 := h0
  have lt0 : ∀ x ∈ p0, x.block < W.heap.size := by obtain ⟨m, hm⟩ := k0; exact DataW.trod_lt m _ _ _ hm
  obtain ⟨x0, y0, z0, rfl⟩ := open_val (hval 0 23 v0 rfl rfl) h0
  have k1 := h1
  have lt1 : ∀ x ∈ p1, x.block < W.heap.size := by obtain ⟨m, hm⟩ := k1; exact DataW.trod_lt m _ _ _ hm
  obtain ⟨x1, y1, z1, rfl⟩ := open_val (hval 1 23 v1 rfl rfl) h1
  have k2 := h2
  have lt2 : ∀ x ∈ p2, x.block < W.heap.size := by obtain ⟨m, hm⟩ := k2; exact DataW.trod_lt m _ _ _ hm
  obtain ⟨x2, y2, z2, rfl⟩ := open_val (hval 2 23 v2 rfl rfl) h2
  clear hA0 hval0
  refine (order_walk x0 y0 x1 y1 x2 y2 z0 z1 z2 W).mono fun e W' ⟨he, bel⟩ => ?_
  subst he
  exact ⟨_, rfl, _, _, _, [], _, [], hW', trodAll_mk1 (shut_bool Try.underlying4 _), (trodAll_cons_mk (Below.trod laidOut (by kernel_rfl) (of_decide_eq_true (by kernel_rfl)) k0 bel lt0) (trodAll_cons_mk (Below.trod laidOut (by kernel_rfl) (of_decide_eq_true (by kernel_rfl)) k1 bel lt1) (trodAll_cons_mk (Below.trod laidOut (by kernel_rfl) (of_decide_eq_true (by kernel_rfl)) k2 bel lt2) trodAll_mk0))), rfl, bel.frame _, fun h => by cases h⟩

theorem valsOrder_proved : Rows.ValsOrderSaid :=
  OpenClaim.holds_of_wide 7 Try.f7 rfl rfl rfl rfl rfl rfl rfl ⟨rfl, rfl, rfl, rfl, rfl⟩ rfl rfl rfl rfl rfl (by kernel_rfl) Try.func7 (by kernel_rfl)
    (of_decide_eq_true (by kernel_rfl)) (by unfold Func.isWrapper; first | (rw [if_pos (by decide +kernel)]; kernel_rfl) | (rw [if_neg (by decide +kernel)]; exact ⟨rfl, rfl⟩))
    (fun os started H enc _ => lifted os started H enc)
#print axioms valsOrder_proved
end Go.Proofs.Ytakeldogdolddaa
