/- The walk of tidelaw3.ExprsTyped. -/
import Derived.Test.YtbdhmjojamoafaaYD
namespace Go.Proofs.Ytbdhmjojamoafaa
open Go.RowKit

set_option maxHeartbeats 1000000 in
theorem typed_walk (ca : Option Addr) (ccap : Nat) (cols : List Int) (u : Value) (x : Ex) (ra : Option Addr) (rcap : Nat) (row : List Vl) (w : World) (hc : IsAt w.heap.size w ca cols) (hx : XV w u x) (hs : SlAt w ra row) :
    Calls Try.prog 4 #[.slice ca cols.length ccap, u, .slice ra row.length rcap] w fun e w' => e = .returned (.bool true) ∧ Below w.heap.size w w' := by
  obtain ⟨F1, F2, F3⟩ := typed_fact cols x row
  obtain ⟨a, cap, rfl, hk⟩ := hx
  go_enter Try.func4, Try.ntmps4
  go_wp2_with fail
  have hA : Below w.heap.size w (w.alloc (.cells #[.int .i64 x.k, .int .i64 x.v.1, .int .i64 x.v.2.1, .string x.v.2.2, .int .i64 x.c, .slice a x.ks.length cap] 27)) := (Below.refl _ _).alloc (Nat.le_refl _) _
  have S := Six.new w x.k x.v x.c a x.ks.length cap 27
  have z0 : w.heap.size < (w.alloc (.cells #[.int .i64 x.k, .int .i64 x.v.1, .int .i64 x.v.2.1, .string x.v.2.2, .int .i64 x.c, .slice a x.ks.length cap] 27)).heap.size := by simp
  generalize w.alloc (.cells #[.int .i64 x.k, .int .i64 x.v.1, .int .i64 x.v.2.1, .string x.v.2.2, .int .i64 x.c, .slice a x.ks.length cap] 27) = w1 at *
  refine (alive_at w1).mono ?_
  rintro e w2 ⟨rfl, hb⟩
  have S := S.next hb z0
  have hA := chain hA hb
  have z2 := hb.size
  clear hb
  obtain ⟨s0, s1, s2, s3, s4, s5⟩ := S
  simp only [Nat.zero_add] at s1 s2 s3 s4 s5
  go_wp2_with fail
  refine (type_at cols x ca ccap a cap w2 ((KsAt.next hA (Nat.le_refl _) hk).up hA.size) ((hc.next hA (Nat.le_refl _)).up hA.size)).mono ?_
  rintro e w3 ⟨rfl, hb⟩
  have S : Six w2 w.heap.size 0 x.k x.v x.c a x.ks.length cap := ⟨s0, s1, s2, s3, s4, s5⟩
  have S := S.next hb (by omega)
  have hA := chain hA hb
  have z3 := hb.size
  clear hb s0 s1 s2 s3 s4 s5
  obtain ⟨s0, s1, s2, s3, s4, s5⟩ := S
  simp only [Nat.zero_add] at s1 s2 s3 s4 s5
  go_wp2_with fail
  refine (eval_at cols x row ca ccap a cap ra rcap w3 ((hc.next hA (Nat.le_refl _)).up hA.size) ((KsAt.next hA (Nat.le_refl _) hk).up hA.size) (hs.next hA)).mono ?_
  rintro e w4 ⟨rfl, hb⟩
  have hA := chain hA hb
  clear hb s0 s1 s2 s3 s4 s5
  generalize typeTop cols x = ty at *
  generalize evalX cols x row = ev at *
  obtain ⟨t1, t2⟩ := ty
  obtain ⟨⟨k, n, s⟩, e2⟩ := ev
  simp only at F1 F2 F3
  by_cases h0 : t2 = 0
  · subst h0
    by_cases h1 : e2 = 0
    · subst h1
      obtain ⟨g1, g2⟩ := F3 rfl
      have g1 : wrongF k n s = 0 := g1
      clear F1 F2 F3
      go_wp2_with fail
      have hA2 : Below w4.heap.size w4 (w4.alloc (.cells #[.int .i64 k, .int .i64 n, .string s] 24)) := (Below.refl _ _).alloc (Nat.le_refl _) _
      have B := Box.new w4 (.int .i64 k) (.int .i64 n) (.string s) 24
      refine (refWrong_any _ _ _ _).mono ?_
      rintro e w5 ⟨rfl, hb⟩
      rw [g1]
      have ⟨b0, b1, b2, b3, b4, b5, b6⟩ := B.next hb
      have hA := chain (chain hA hA2) hb
      by_cases k1 : k = 1
      · subst k1
        go_wp2_with fail
        go_ret
        exact ⟨rfl, hA⟩
      · have n1 : (k == 1) = false := by simpa using k1
        have e1 : k = t1 := by
          rcases g2 with g2 | g2
          · exact absurd g2 k1
          · exact g2
        subst e1
        go_wp2_with fail
        go_ret
        exact ⟨rfl, hA⟩
    · have g := F2 rfl h1
      simp only [vl0, Prod.mk.injEq] at g
      obtain ⟨rfl, rfl, rfl⟩ := g
      have q : (e2 != 0) = true := by simpa using h1
      clear F1 F2 F3
      go_wp2_with fail
      go_ret
      exact ⟨rfl, hA.alloc hA.size _⟩
  · have g := F1 h0
    simp only [vl0, Prod.mk.injEq] at g
    obtain ⟨⟨rfl, rfl, rfl⟩, rfl⟩ := g
    have q : (e2 != 0) = true := by simpa using h0
    clear F1 F2 F3
    go_wp2_with fail
    go_ret
    exact ⟨rfl, hA.alloc hA.size _⟩
end Go.Proofs.Ytbdhmjojamoafaa
