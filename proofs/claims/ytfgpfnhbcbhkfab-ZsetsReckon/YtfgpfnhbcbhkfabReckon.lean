/- The walk of tidelaw2.ZsetsReckon. -/
import Derived.Test.YtfgpfnhbcbhkfabR6
namespace Go.Proofs.Ytfgpfnhbcbhkfab
open Go.RowKit Go.Lib Go.Shelf

set_option maxHeartbeats 8000000 in
theorem reckon_walk (a : Option Addr) (ca : Nat) (l : List Zp) (b : Option Addr) (cb : Nat) (l' : List Zp) (w : World) (h : ZsAt w a l) (h' : ZsAt w b l') (na : a = none → ca = 0) (_nb : b = none → cb = 0) :
    Calls Try.prog 4 #[.slice a l.length ca, .slice b l'.length cb] w fun e w' => e = .returned (.bool true) ∧ Below w.heap.size w w' := by
  have k1 := fun W x y => add_at a b ca cb l l' W x y na
  have g1 := fun W x y => both_at 1 (.inl rfl) a b ca cb l l' W x y
  have k2 := fun W x y => sub_at a b ca cb l l' W x y na
  have g2 := fun W x y => both_at (-1) (.inr rfl) a b ca cb l l' W x y
  have k3 := fun W x => neg_at a ca l W x
  have g3 := fun W x => each22_at a ca l W x
  have k4 := fun W x => positive_at a ca l W x
  have g4 := fun W x => refPositive_at a ca l W x
  have k5 := fun W x => distinct_at a ca l W x
  have g5 := fun W x => refDistinct_at a ca l W x
  unfold Gives at g1 g2 g3 g4 g5
  generalize bothZ 1 l l' = z1 at *
  generalize bothE 1 l l' = e1 at *
  generalize bothZ (-1) l l' = z2 at *
  generalize bothE (-1) l l' = e2 at *
  generalize setZ (fun w => -w) l = z3 at *
  generalize setZ posF l = z4 at *
  generalize setZ oneF l = z5 at *
  generalize wrongZ l = e3 at *
  have zA := h
  have zB := h'
  have bw : Below w.heap.size w w := Below.refl _ _
  clear h h'
  go_enter Try.func4, Try.ntmps4
  go_wp2_with fail
  refine (k1 _ zA zB).mono ?_
  rintro e p1 ⟨v1, rfl, O1, hp1⟩
  obtain ⟨x1, cx1, rfl, y1⟩ := O1.zs
  replace zA := zA.next hp1
  replace zB := zB.next hp1
  replace bw := chain1 bw hp1
  clear hp1 O1 k1
  go_wp2_with fail
  refine (g1 _ zA zB).mono ?_
  rintro e r1 ⟨⟨u1, cu1, rfl, t1⟩, hr1⟩
  replace zA := zA.next hr1
  replace zB := zB.next hr1
  replace bw := chain1 bw hr1
  replace y1 := y1.next hr1
  clear hr1 g1
  go_wp2_with fail
  refine (same_eq _ _ _ _ _ _ y1 t1).mono ?_
  rintro e q1 ⟨rfl, hq1⟩
  replace zA := zA.next hq1
  replace zB := zB.next hq1
  replace bw := chain1 bw hq1
  clear hq1 y1 t1
  go_wp2_with fail
  refine (k2 _ zA zB).mono ?_
  rintro e p2 ⟨v2, rfl, O2, hp2⟩
  obtain ⟨x2, cx2, rfl, y2⟩ := O2.zs
  replace zA := zA.next hp2
  replace zB := zB.next hp2
  replace bw := chain1 bw hp2
  clear hp2 O2 k2
  go_wp2_with fail
  refine (g2 _ zA zB).mono ?_
  rintro e r2 ⟨⟨u2, cu2, rfl, t2⟩, hr2⟩
  replace zA := zA.next hr2
  replace zB := zB.next hr2
  replace bw := chain1 bw hr2
  replace y2 := y2.next hr2
  clear hr2 g2
  go_wp2_with fail
  refine (same_eq _ _ _ _ _ _ y2 t2).mono ?_
  rintro e q2 ⟨rfl, hq2⟩
  replace zA := zA.next hq2
  replace zB := zB.next hq2
  replace bw := chain1 bw hq2
  clear hq2 y2 t2
  go_wp2_with fail
  refine (k3 _ zA).mono ?_
  rintro e p3 ⟨v3, rfl, O3, hp3⟩
  obtain ⟨x3, cx3, rfl, y3⟩ := O3.zs
  replace zA := zA.next hp3
  replace zB := zB.next hp3
  replace bw := chain1 bw hp3
  clear hp3 O3 k3
  go_wp2_with fail
  refine (g3 _ zA).mono ?_
  rintro e r3 ⟨⟨u3, cu3, rfl, t3⟩, hr3⟩
  replace zA := zA.next hr3
  replace zB := zB.next hr3
  replace bw := chain1 bw hr3
  replace y3 := y3.next hr3
  clear hr3 g3
  go_wp2_with fail
  refine (same_eq _ _ _ _ _ _ y3 t3).mono ?_
  rintro e q3 ⟨rfl, hq3⟩
  replace zA := zA.next hq3
  replace zB := zB.next hq3
  replace bw := chain1 bw hq3
  clear hq3 y3 t3
  go_wp2_with fail
  refine (k4 _ zA).mono ?_
  rintro e p4 ⟨v4, rfl, O4, hp4⟩
  obtain ⟨x4, cx4, rfl, y4⟩ := O4.zs
  replace zA := zA.next hp4
  replace zB := zB.next hp4
  replace bw := chain1 bw hp4
  clear hp4 O4 k4
  go_wp2_with fail
  refine (g4 _ zA).mono ?_
  rintro e r4 ⟨⟨u4, cu4, rfl, t4⟩, hr4⟩
  replace zA := zA.next hr4
  replace zB := zB.next hr4
  replace bw := chain1 bw hr4
  replace y4 := y4.next hr4
  clear hr4 g4
  go_wp2_with fail
  refine (same_eq _ _ _ _ _ _ y4 t4).mono ?_
  rintro e q4 ⟨rfl, hq4⟩
  replace zA := zA.next hq4
  replace zB := zB.next hq4
  replace bw := chain1 bw hq4
  clear hq4 y4 t4
  go_wp2_with fail
  refine (k5 _ zA).mono ?_
  rintro e p5 ⟨v5, rfl, O5, hp5⟩
  obtain ⟨x5, cx5, rfl, y5⟩ := O5.zs
  replace zA := zA.next hp5
  replace zB := zB.next hp5
  replace bw := chain1 bw hp5
  clear hp5 O5 k5
  go_wp2_with fail
  refine (g5 _ zA).mono ?_
  rintro e r5 ⟨⟨u5, cu5, rfl, t5⟩, hr5⟩
  replace zA := zA.next hr5
  replace zB := zB.next hr5
  replace bw := chain1 bw hr5
  replace y5 := y5.next hr5
  clear hr5 g5
  go_wp2_with fail
  refine (same_eq _ _ _ _ _ _ y5 t5).mono ?_
  rintro e q5 ⟨rfl, hq5⟩
  replace zA := zA.next hq5
  replace zB := zB.next hq5
  replace bw := chain1 bw hq5
  clear hq5 y5 t5
  go_wp2_with fail
  go_ret
  exact ⟨rfl, bw⟩
end Go.Proofs.Ytfgpfnhbcbhkfab
