/- The walk of tidelaw8.StreamsTell. -/
import Derived.Test.YtibobmkelmalkaaSTE
namespace Go.Proofs.Ytibobmkelmalkaa
open Go.RowKit Go.Lib Go.Shelf

theorem along_len {l : List (List Zp)} {E : Nat → Int} {Z : Nat → List Zp} : (alongZ l E Z).length ≤ 1000000 := by
  by_cases h : (alongF l E).1 = 0
  · obtain ⟨h1, _, _, _, h5⟩ := along_ok h
    rw [h5]; simp; omega
  · unfold alongZ; rw [if_neg h]; simp

set_option maxRecDepth 100000 in
set_option maxHeartbeats 8000000 in
theorem streamsTell_walk (a : Option Addr) (cap : Nat) (l : List (List Zp)) (w : World) (hD : DtAt w a l) (hcap : l.length ≤ cap) :
    Calls Try.prog 3 #[.slice a l.length cap] w fun e w' => e = .returned (.bool true) ∧ Below w.heap.size w w' := by
  have hA : Below w.heap.size w (w.alloc (.cells #[.func (.func 6) #[] #[], .func (.func 7) #[] #[], .func (.func 8) #[] #[]] 23)) := (Below.refl _ _).alloc (Nat.le_refl _) _
  have Q := heap_new w #[.func (.func 6) #[] #[], .func (.func 7) #[] #[], .func (.func 8) #[] #[]] 23
  have HC : Hid (l.length ≤ cap) := hcap
  clear hcap
  go_enter Try.func3, Try.ntmps3
  go_upto_region 2 with fail
  generalize w.alloc (.cells #[.func (.func 6) #[] #[], .func (.func 7) #[] #[], .func (.func 8) #[] #[]] 23) = W0 at *
  refine wp_loop_rounds 4 ?_
  rw [rounds_succ]
  have q0 := cell_of (i := 0) Q rfl
  have con := integrate_at l a cap W0 (hD.next hA)
  have con2 := fun W h => refAlong_i l a cap W (hD.next h) HC.out
  have hal : Hid ((alongZ l (intE l) (fun k => intS l (k + 1))).length ≤ 1000000) := along_len
  generalize alongZ l (intE l) (fun k => intS l (k + 1)) = zs at *
  generalize alongF l (intE l) = F at *
  obtain ⟨f1, f2⟩ := F
  go_upto_region 5 with (first | (go_at_fn 6; refine con.mono ?_; rintro e w3 ⟨v3, rfl, O3, hb3⟩; obtain ⟨a3, c3, rfl, D3, _⟩ := O3.dt) | (refine con.mono ?_; rintro e w3 ⟨v3, rfl, O3, hb3⟩; obtain ⟨a3, c3, rfl, D3, _⟩ := O3.dt))
  clear con O3 q0
  have hal3 : Below w3.heap.size w3 (w3.alloc (.cells #[.int .i64 f1, .int .i64 f2] 27)) := (Below.refl _ _).alloc (Nat.le_refl _) _
  have x3 := heap_new w3 #[.int .i64 f1, .int .i64 f2] 27
  have B3 := chain hb3 hal3
  replace D3 := D3.next hal3
  replace Q := (B3.block _ (lt_of_heap Q)).trans Q
  replace hA := chain hA B3
  clear hb3 hal3 B3
  generalize w3.alloc (.cells #[.int .i64 f1, .int .i64 f2] 27) = w4 at *
  have con := con2 w4 hA
  clear con2
  go_wp2_with fail
  refine con.mono ?_
  rintro e w5 ⟨a5, c5, rfl, D5, hb5⟩
  clear con
  have hal5 : Below w5.heap.size w5 (w5.alloc (.cells #[.int .i64 f1, .int .i64 f2] 27)) := (Below.refl _ _).alloc (Nat.le_refl _) _
  have x5 := heap_new w5 #[.int .i64 f1, .int .i64 f2] 27
  have B5 := chain hb5 hal5
  replace D3 := D3.next B5
  replace D5 := D5.next hal5
  replace x3 := (B5.block _ (lt_of_heap x3)).trans x3
  replace Q := (B5.block _ (lt_of_heap Q)).trans Q
  replace hA := chain hA B5
  clear hb5 hal5 B5
  go_upto_region 6 with fail
  generalize w5.alloc (.cells #[.int .i64 f1, .int .i64 f2] 27) = w6 at *
  have y0 := cell_of (i := 0) x3 rfl
  have y1 := cell_of (i := 1) x3 rfl
  have y2 := cell_of (i := 0) x5 rfl
  have y3 := cell_of (i := 1) x5 rfl
  clear x3 x5
  have con := sameL_at zs a3 a5 c3 c5 w6 D3.w D5 hal.out
  clear D3 D5
  go_wp2_with fail
  refine con.mono ?_
  rintro e W1 ⟨rfl, hb6⟩
  replace Q := (hb6.block _ (lt_of_heap Q)).trans Q
  replace hA := chain hA hb6
  clear con hb6 y0 y1 y2 y3 hal
  go_wp2_with fail
  rw [rounds_succ]
  have q0 := cell_of (i := 1) Q rfl
  have con := differentiate_at l a cap W1 (hD.next hA)
  have con2 := fun W h => refAlong_d l a cap W (hD.next h)
  have hal : Hid ((alongZ l (difE l) (difS l)).length ≤ 1000000) := along_len
  generalize alongZ l (difE l) (difS l) = zs at *
  generalize alongF l (difE l) = F at *
  obtain ⟨f1, f2⟩ := F
  go_upto_region 5 with (first | (go_at_fn 7; refine con.mono ?_; rintro e w3 ⟨v3, rfl, O3, hb3⟩; obtain ⟨a3, c3, rfl, D3, _⟩ := O3.dt) | (refine con.mono ?_; rintro e w3 ⟨v3, rfl, O3, hb3⟩; obtain ⟨a3, c3, rfl, D3, _⟩ := O3.dt))
  clear con O3 q0
  have hal3 : Below w3.heap.size w3 (w3.alloc (.cells #[.int .i64 f1, .int .i64 f2] 27)) := (Below.refl _ _).alloc (Nat.le_refl _) _
  have x3 := heap_new w3 #[.int .i64 f1, .int .i64 f2] 27
  have B3 := chain hb3 hal3
  replace D3 := D3.next hal3
  replace Q := (B3.block _ (lt_of_heap Q)).trans Q
  replace hA := chain hA B3
  clear hb3 hal3 B3
  generalize w3.alloc (.cells #[.int .i64 f1, .int .i64 f2] 27) = w4 at *
  have con := con2 w4 hA
  clear con2
  go_wp2_with fail
  refine con.mono ?_
  rintro e w5 ⟨a5, c5, rfl, D5, hb5⟩
  clear con
  have hal5 : Below w5.heap.size w5 (w5.alloc (.cells #[.int .i64 f1, .int .i64 f2] 27)) := (Below.refl _ _).alloc (Nat.le_refl _) _
  have x5 := heap_new w5 #[.int .i64 f1, .int .i64 f2] 27
  have B5 := chain hb5 hal5
  replace D3 := D3.next B5
  replace D5 := D5.next hal5
  replace x3 := (B5.block _ (lt_of_heap x3)).trans x3
  replace Q := (B5.block _ (lt_of_heap Q)).trans Q
  replace hA := chain hA B5
  clear hb5 hal5 B5
  go_upto_region 6 with fail
  generalize w5.alloc (.cells #[.int .i64 f1, .int .i64 f2] 27) = w6 at *
  have y0 := cell_of (i := 0) x3 rfl
  have y1 := cell_of (i := 1) x3 rfl
  have y2 := cell_of (i := 0) x5 rfl
  have y3 := cell_of (i := 1) x5 rfl
  clear x3 x5
  have con := sameL_at zs a3 a5 c3 c5 w6 D3.w D5 hal.out
  clear D3 D5
  go_wp2_with fail
  refine con.mono ?_
  rintro e W2 ⟨rfl, hb6⟩
  replace Q := (hb6.block _ (lt_of_heap Q)).trans Q
  replace hA := chain hA hb6
  clear con hb6 y0 y1 y2 y3 hal
  go_wp2_with fail
  rw [rounds_succ]
  have q0 := cell_of (i := 2) Q rfl
  have con := delay_at l a cap W2 (hD.next hA)
  have con2 := fun W h => refAlong_z l a cap W (hD.next h)
  have hal : Hid ((alongZ l (delE l) (delS l)).length ≤ 1000000) := along_len
  generalize alongZ l (delE l) (delS l) = zs at *
  generalize alongF l (delE l) = F at *
  obtain ⟨f1, f2⟩ := F
  go_upto_region 5 with (first | (go_at_fn 8; refine con.mono ?_; rintro e w3 ⟨v3, rfl, O3, hb3⟩; obtain ⟨a3, c3, rfl, D3, _⟩ := O3.dt) | (refine con.mono ?_; rintro e w3 ⟨v3, rfl, O3, hb3⟩; obtain ⟨a3, c3, rfl, D3, _⟩ := O3.dt))
  clear con O3 q0
  have hal3 : Below w3.heap.size w3 (w3.alloc (.cells #[.int .i64 f1, .int .i64 f2] 27)) := (Below.refl _ _).alloc (Nat.le_refl _) _
  have x3 := heap_new w3 #[.int .i64 f1, .int .i64 f2] 27
  have B3 := chain hb3 hal3
  replace D3 := D3.next hal3
  replace Q := (B3.block _ (lt_of_heap Q)).trans Q
  replace hA := chain hA B3
  clear hb3 hal3 B3
  generalize w3.alloc (.cells #[.int .i64 f1, .int .i64 f2] 27) = w4 at *
  have con := con2 w4 hA
  clear con2
  go_wp2_with fail
  refine con.mono ?_
  rintro e w5 ⟨a5, c5, rfl, D5, hb5⟩
  clear con
  have hal5 : Below w5.heap.size w5 (w5.alloc (.cells #[.int .i64 f1, .int .i64 f2] 27)) := (Below.refl _ _).alloc (Nat.le_refl _) _
  have x5 := heap_new w5 #[.int .i64 f1, .int .i64 f2] 27
  have B5 := chain hb5 hal5
  replace D3 := D3.next B5
  replace D5 := D5.next hal5
  replace x3 := (B5.block _ (lt_of_heap x3)).trans x3
  replace Q := (B5.block _ (lt_of_heap Q)).trans Q
  replace hA := chain hA B5
  clear hb5 hal5 B5
  go_upto_region 6 with fail
  generalize w5.alloc (.cells #[.int .i64 f1, .int .i64 f2] 27) = w6 at *
  have y0 := cell_of (i := 0) x3 rfl
  have y1 := cell_of (i := 1) x3 rfl
  have y2 := cell_of (i := 0) x5 rfl
  have y3 := cell_of (i := 1) x5 rfl
  clear x3 x5
  have con := sameL_at zs a3 a5 c3 c5 w6 D3.w D5 hal.out
  clear D3 D5
  go_wp2_with fail
  refine con.mono ?_
  rintro e W3 ⟨rfl, hb6⟩
  replace Q := (hb6.block _ (lt_of_heap Q)).trans Q
  replace hA := chain hA hb6
  clear con hb6 y0 y1 y2 y3 hal
  go_wp2_with fail
  rw [rounds_succ]
  go_wp2_with fail
  go_ret
  exact ⟨rfl, hA⟩
end Go.Proofs.Ytibobmkelmalkaa
