/- What two values are made to: And, Or, .. as function values; denied, turned, reckoned, firstKnown, ofTwo. -/
import Derived.Test.YtkcnmgcmcemnfacY1
import Derived.Test.YtkcnmgcmcemnfacX1
import Derived.Test.YtkcnmgcmcemnfacW2
import Derived.Shelf.Abstract
namespace Go.Proofs.Ytkcnmgcmcemnfac
open Go.RowKit

theorem wrong_text {v : Vl} (h : wrongP v = 0) : v.1 = 4 → v.2.2.size ≤ 60 := by
  obtain ⟨k, n, s⟩ := v
  intro e
  simp only at e
  subst e
  unfold wrongP wrongF at h
  simp at h
  exact h
theorem wrong_num {v : Vl} (h : wrongP v = 0) : v.1 = 3 → -1000000000000000 ≤ v.2.1 ∧ v.2.1 ≤ 1000000000000000 := by
  obtain ⟨k, n, s⟩ := v
  intro e
  simp only at e
  subst e
  unfold wrongP wrongF at h
  simp at h
  exact h
theorem wrong_tru {v : Vl} (h : wrongP v = 0) : Tru v.1 v.2.1 := by
  obtain ⟨k, n, s⟩ := v
  intro e
  simp only at e
  subst e
  unfold wrongP wrongF at h
  simp at h
  show n = 0 ∨ n = 1
  omega

/-- A function value makes f of two right values. -/
def Fn2 (u : Value) (f : Vl → Vl → Vl) (w : World) : Prop :=
  ∃ g cb, u = .func (.func g) #[] cb ∧ (∀ args w, (callFunc g args).run Try.prog w = .ok (.enter g args) w) ∧
    ∀ (p q : Vl) (W : World), wrongP p = 0 → wrongP q = 0 → Below w.heap.size w W → Calls Try.prog g (#[agV p, agV q] ++ cb) W fun e w' => e = .returned (agV (f p q)) ∧ Below W.heap.size W w'
theorem Fn2.next {u : Value} {f : Vl → Vl → Vl} {w w1 : World} (h : Fn2 u f w) (hb : Below w.heap.size w w1) : Fn2 u f w1 := by
  obtain ⟨g, cb, e, eg, hd⟩ := h
  exact ⟨g, cb, e, eg, fun p q W hp hq hW => hd p q W hp hq (chain hb hW)⟩

theorem fn_and (w : World) : Fn2 (.func (.func 59) #[] #[]) andP w :=
  ⟨59, #[], rfl, enters_of Try.func59 (by kernel_rfl) rfl, fun p q W _ _ _ => by rw [Array.append_empty]; exact and_any p.1 p.2.1 q.1 q.2.1 p.2.2 q.2.2 W⟩
theorem fn_or (w : World) : Fn2 (.func (.func 60) #[] #[]) orP w :=
  ⟨60, #[], rfl, enters_of Try.func60 (by kernel_rfl) rfl, fun p q W _ _ _ => by rw [Array.append_empty]; exact or_any p.1 p.2.1 q.1 q.2.1 p.2.2 q.2.2 W⟩
theorem fn_eq (w : World) : Fn2 (.func (.func 61) #[] #[]) eqP w :=
  ⟨61, #[], rfl, enters_of Try.func61 (by kernel_rfl) rfl, fun p q W _ _ _ => by rw [Array.append_empty]; exact equal_any p.1 p.2.1 q.1 q.2.1 p.2.2 q.2.2 W⟩
theorem fn_lt (w : World) : Fn2 (.func (.func 63) #[] #[]) ltP w :=
  ⟨63, #[], rfl, enters_of Try.func63 (by kernel_rfl) rfl, fun p q W _ _ _ => by rw [Array.append_empty]; exact less_any p.1 p.2.1 q.1 q.2.1 p.2.2 q.2.2 W⟩
theorem fn_join (w : World) : Fn2 (.func (.func 66) #[] #[]) joinP w :=
  ⟨66, #[], rfl, enters_of Try.func66 (by kernel_rfl) rfl, fun p q W hp hq _ => by rw [Array.append_empty]; exact join_any p.1 p.2.1 q.1 q.2.1 p.2.2 q.2.2 W (wrong_text hp) (wrong_text hq)⟩

set_option maxHeartbeats 800000 in
theorem first_at (p q : Vl) (w : World) : Calls Try.prog 67 #[agV p, agV q] w fun e w' => e = .returned (agV (coalP p q)) ∧ Below w.heap.size w w' := by
  obtain ⟨k, n, s⟩ := p
  obtain ⟨k', n', s'⟩ := q
  by_cases h : k = 1
  · subst h
    have e : coalP (1, n, s) (k', n', s') = (k', n', s') := rfl
    rw [e]
    go_enter Try.func67, Try.ntmps67
    go_wp2_with fail
    have A0 := ((Box.new w (.int .i64 1) (.int .i64 n) (.string s) 24).alloc (.cells #[.int .i64 k', .int .i64 n', .string s'] 24)).alloc (.cells #[.int .i64 0, .int .i64 0, .string ⟨#[]⟩] 24)
    have B0 := (Box.new (w.alloc (.cells #[.int .i64 1, .int .i64 n, .string s] 24)) (.int .i64 k') (.int .i64 n') (.string s') 24).alloc (.cells #[.int .i64 0, .int .i64 0, .string ⟨#[]⟩] 24)
    have R0 := Box.new ((w.alloc (.cells #[.int .i64 1, .int .i64 n, .string s] 24)).alloc (.cells #[.int .i64 k', .int .i64 n', .string s'] 24)) (.int .i64 0) (.int .i64 0) (.string ⟨#[]⟩) 24
    simp only [World.size_alloc] at B0 R0
    refine (isNull_at _ _ _ _).mono ?_
    rintro e w1 ⟨rfl, hb1⟩
    have ⟨b0, b1, b2, b3, b4, b5, b6⟩ := B0.next hb1
    have ⟨r0, r1, r2, r3, r4, r5, r6⟩ := R0.next hb1
    have z1 := hb1.size
    simp at z1
    go_wp2_with fail
    exact bodyPost_ret (v := .agg #[.int .i64 k', .int .i64 n', .string s']) (by simp [results, Try.results67, go_sem, r1, r2, r3]) rfl ⟨rfl, below_set3 (below3 hb1) (by omega)⟩
  · have e : coalP (k, n, s) (k', n', s') = (k, n, s) := by simp [coalP, h]
    rw [e]
    have q1 : (k == 1) = false := by simpa using h
    go_enter Try.func67, Try.ntmps67
    go_wp2_with fail
    have A0 := ((Box.new w (.int .i64 k) (.int .i64 n) (.string s) 24).alloc (.cells #[.int .i64 k', .int .i64 n', .string s'] 24)).alloc (.cells #[.int .i64 0, .int .i64 0, .string ⟨#[]⟩] 24)
    have R0 := Box.new ((w.alloc (.cells #[.int .i64 k, .int .i64 n, .string s] 24)).alloc (.cells #[.int .i64 k', .int .i64 n', .string s'] 24)) (.int .i64 0) (.int .i64 0) (.string ⟨#[]⟩) 24
    simp only [World.size_alloc] at R0
    refine (isNull_at _ _ _ _).mono ?_
    rintro e w1 ⟨rfl, hb1⟩
    rw [q1]
    have ⟨b0, b1, b2, b3, b4, b5, b6⟩ := A0.next hb1
    have ⟨r0, r1, r2, r3, r4, r5, r6⟩ := R0.next hb1
    have z1 := hb1.size
    simp at z1
    go_wp2_with fail
    exact bodyPost_ret (v := .agg #[.int .i64 k, .int .i64 n, .string s]) (by simp [results, Try.results67, go_sem, r1, r2, r3]) rfl ⟨rfl, below_set3 (below3 hb1) (by omega)⟩
theorem fn_coal (w : World) : Fn2 (.func (.func 67) #[] #[]) coalP w :=
  ⟨67, #[], rfl, enters_of Try.func67 (by kernel_rfl) rfl, fun p q W _ _ _ => by rw [Array.append_empty]; exact first_at p q W⟩
end Go.Proofs.Ytkcnmgcmcemnfac
