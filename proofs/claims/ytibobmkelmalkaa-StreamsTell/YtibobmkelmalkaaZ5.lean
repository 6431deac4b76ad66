/- The sort of rows: what slices.SortFunc leaves, by the shelf's contract, and what it is asked. -/
import Derived.Test.YtibobmkelmalkaaP1
import Derived.Shelf.SlSortCmp.WholeK
import Derived.Shelf.Lay
import Derived.Ground.SlsfProg
namespace Go.Proofs
open Go.Shelf Go.RowKit Go.Lib
shelf_lay_g SlLaysF0.n6 Slsf 6 at Try 41 as Try.sortZ
end Go.Proofs
namespace Go.Proofs.Ytibobmkelmalkaa
open Go.RowKit Go.Lib Go.Shelf

/-- A row with its weight, and where its values lie. -/
structure Zr where
  a : Option Addr
  cap : Nat
  row : List Vl
  w : Int
/-- .. whose values lie in w. -/
abbrev Zg (w : World) : Type := { x : Zr // SlAt w x.a x.row }
instance (w : World) : Inhabited (Zg w) := ⟨⟨⟨none, 0, [], 0⟩, by simp, .inl rfl⟩⟩
def encG (w : World) (x : Zg w) : List Value := [.slice x.1.a x.1.row.length x.1.cap, .int .i64 x.1.w]
def cfG (w : World) (x y : Zg w) : Int := cmpL x.1.row y.1.row
def plG (w : World) (x : Zg w) : Zp := (x.1.row, x.1.w)

theorem swoG (w : World) : Go.Sort.SWO (ltOf (cfG w)) where
  irrefl x := by simp [ltOf, cfG, cmpL_refl]
  trans x y z h1 h2 := by
    have g1 : cmpL x.1.row y.1.row < 0 := of_decide_eq_true h1
    have g2 : cmpL y.1.row z.1.row < 0 := of_decide_eq_true h2
    exact decide_eq_true (cmpL_lt_le g1 (by omega))
  ntrans x y z h1 h2 := by
    have g1 : ¬ cmpL x.1.row y.1.row < 0 := of_decide_eq_false h1
    have g2 : ¬ cmpL y.1.row z.1.row < 0 := of_decide_eq_false h2
    have n1 := cmpL_neg x.1.row y.1.row
    have n2 := cmpL_neg y.1.row z.1.row
    have n3 := cmpL_neg x.1.row z.1.row
    have t := cmpL_trans z.1.row y.1.row x.1.row
    refine decide_eq_false ?_
    show ¬ cmpL x.1.row z.1.row < 0
    omega

theorem grow_of_below {W w1 : World} (hb : Below W.heap.size W w1) (hd : W.drawn ≤ w1.drawn) : ∃ q os, w1 = Go.Sort.grow (W.drewN q) os := by
  refine ⟨w1.drawn - W.drawn, w1.heap.extract W.heap.size w1.heap.size, ?_⟩
  have hs := hb.size
  have hh : w1.heap = W.heap ++ w1.heap.extract W.heap.size w1.heap.size := by
    apply Array.ext_getElem?
    intro k
    rw [Array.getElem?_append]
    split
    · exact hb.block k (by assumption)
    · rw [Array.getElem?_extract]
      by_cases hk : k < w1.heap.size
      · simp [show W.heap.size + (k - W.heap.size) = k by omega]
        intro h; omega
      · rw [Array.getElem?_eq_none (by omega)]
        simp
        intro h; omega
  obtain ⟨h1, h2, h3, h4, h5⟩ := w1
  obtain ⟨g1, g2, g3, g4, g5⟩ := W
  have q1 := hb.os
  have q2 := hb.tape
  have q3 := hb.output
  simp only at q1 q2 q3 hd hh hs
  subst q1 q2 q3
  simp only [Go.Sort.grow, World.drewN, World.mk.injEq, true_and, and_true]
  exact ⟨hh, by omega⟩

theorem below_sortWorld {α : Type} [Inhabited α] {w0 w : World} {enc : α → List Value} {k blk off m : Nat} {dk : Array α} {os : Array Obj} (hb : Below w0.heap.size w0 w) (hk : w0.heap.size ≤ blk) : Below w0.heap.size w0 (sortWorldK enc k w blk off m dk os) := by
  refine ⟨hb.os, hb.tape, hb.output, ?_, fun j hj => ?_⟩
  · exact Nat.le_trans hb.size (size_sortWorldK_c enc k w blk off m dk os)
  · rw [← hb.block j hj]
    show ((Go.Sort.mapBlock _ _ _).heap ++ os)[j]? = _
    have hs := hb.size
    rw [Array.getElem?_append_left (by simp [Go.Sort.mapBlock, Go.Sort.ahead]; omega)]
    simp only [Go.Sort.mapBlock, Go.Sort.ahead, Array.getElem?_modify]
    rw [if_neg (by omega)]

set_option maxHeartbeats 400000 in
theorem summed1_at (a a' : Option Addr) (cap cap' : Nat) (x x' : Int) (l l' : List Vl) (w : World) (h : SlAt w a l) (h' : SlAt w a' l') :
    Calls Try.prog 42 #[.agg #[.slice a l.length cap, .int .i64 x], .agg #[.slice a' l'.length cap', .int .i64 x']] w fun e w' => e = .returned (.int .i64 (cmpL l l')) ∧ ∃ q os', w' = Go.Sort.grow (w.drewN q) os' := by
  go_enter Try.func42, Try.ntmps42
  go_wp2_with fail
  have b2 : Below w.heap.size w ((w.alloc (.cells #[.slice a l.length cap, .int .i64 x] 45)).alloc (.cells #[.slice a' l'.length cap', .int .i64 x'] 45)) := ((Below.refl _ _).alloc (Nat.le_refl _) _).alloc (by simp) _
  refine (rows_d _ _ _ _ _ _ _ (h.next b2) (h'.next b2)).mono ?_
  rintro e w1 ⟨rfl, hb1, hd1⟩
  go_wp2_with fail
  go_ret
  exact ⟨rfl, grow_of_below (below2 hb1) hd1⟩

theorem cmpLaysG (w0 w : World) (hb : Below w0.heap.size w0 w) (blk off size : Nat) (hk : w0.heap.size ≤ blk) : CmpLays Try.prog 42 #[] (encG w0) 2 (cfG w0) blk off size w :=
  fun _ _ _ _ x y => summed1_at _ _ _ _ _ _ _ _ _ (x.2.next (below_sortWorld hb hk)) (y.2.next (below_sortWorld hb hk))

theorem Try.isAgg45' : ∀ w, (isAgg 45).run Try.prog w = .ok true w := Try.isAgg45
theorem Try.sizeOf45' : ∀ w, (Go.sizeOf 45).run Try.prog w = .ok 2 w := Try.sizeOf45

theorem sort_at (w0 w : World) (hb : Below w0.heap.size w0 w) (blk off cap : Nat) (hk : w0.heap.size ≤ blk) (d : Array (Zg w0)) (hH : Go.Sort.HoldsK (encG w0) 2 w blk off d) (hblk : blk < w.heap.size) (hsz : d.size < 4611686018427387904) :
    Calls Try.prog 41 #[.slice (some ⟨blk, off, none⟩) d.size cap, .func (.func 42) #[] #[]] w fun e w' =>
      e = .returned (.tuple #[]) ∧ ∃ d' n os, Go.Sort.PermIn 0 d.size d d' ∧ Go.Sort.SortedIn (ltOf (cfG w0)) 0 d.size d' ∧ w' = sortWorldK (encG w0) 2 w blk off n d' os := by
  have eg : ∀ args w, (callFunc 42 args).run Try.prog w = .ok (.enter 42 args) w := enters_of Try.func42 (by kernel_rfl) rfl
  exact AnyQ.slices_SortFunc Try.sortZ 2 Try.isAgg45' Try.sizeOf45' (encG w0) (fun _ => rfl) (fun x v hv => by simp [encG] at hv; rcases hv with rfl | rfl <;> rfl) (cfG w0) (swoG w0) 42 #[] blk off cap d w eg (cmpLaysG w0 w hb blk off d.size hk) hH hblk hsz
end Go.Proofs.Ytibobmkelmalkaa
