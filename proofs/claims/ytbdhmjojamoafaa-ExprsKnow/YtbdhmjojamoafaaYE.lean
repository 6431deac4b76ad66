/- Facts that go on from world to world under one name; nodes that are put round others in new memory. -/
import Derived.Test.YtbdhmjojamoafaaYD
namespace Go.Proofs.Ytbdhmjojamoafaa
open Go.RowKit

def KX (w : World) (a : Option Addr) (l : List Ex) : Prop := KsAt w.heap.size w a l
theorem KX.next {w w1 : World} {a : Option Addr} {l : List Ex} (h : KX w a l) (hb : Below w.heap.size w w1) : KX w1 a l := (KsAt.next hb (Nat.le_refl _) h).up hb.size
def IX (w : World) (a : Option Addr) (l : List Int) : Prop := IsAt w.heap.size w a l
theorem IX.next {w w1 : World} {a : Option Addr} {l : List Int} (h : IX w a l) (hb : Below w.heap.size w w1) : IX w1 a l := (IsAt.next h hb (Nat.le_refl _)).up hb.size
theorem kx_one (w : World) {x : Ex} (ax : Option Addr) (cx : Nat) (kx : KX w ax x.ks) :
    KX (w.alloc (.cells #[.int .i64 x.k, .int .i64 x.v.1, .int .i64 x.v.2.1, .string x.v.2.2, .int .i64 x.c, .slice ax x.ks.length cx] 27)) (some ⟨w.heap.size, 0, none⟩) [x] := by
  show KsAt _ _ _ _
  rw [World.size_alloc]
  exact ks_one w ax cx (Nat.le_refl _) kx
theorem kx_two (w : World) {x y : Ex} (ax : Option Addr) (cx : Nat) (ay : Option Addr) (cy : Nat) (kx : KX w ax x.ks) (ky : KX w ay y.ks) :
    KX (w.alloc (.cells #[.int .i64 x.k, .int .i64 x.v.1, .int .i64 x.v.2.1, .string x.v.2.2, .int .i64 x.c, .slice ax x.ks.length cx, .int .i64 y.k, .int .i64 y.v.1, .int .i64 y.v.2.1, .string y.v.2.2, .int .i64 y.c, .slice ay y.ks.length cy] 27)) (some ⟨w.heap.size, 0, none⟩) [x, y] := by
  show KsAt _ _ _ _
  rw [World.size_alloc]
  exact ks_two w ax cx ay cy (Nat.le_refl _) kx ky
theorem kx_three (w : World) {x y z : Ex} (ax : Option Addr) (cx : Nat) (ay : Option Addr) (cy : Nat) (az : Option Addr) (cz : Nat) (kx : KX w ax x.ks) (ky : KX w ay y.ks) (kz : KX w az z.ks) :
    KX (w.alloc (.cells #[.int .i64 x.k, .int .i64 x.v.1, .int .i64 x.v.2.1, .string x.v.2.2, .int .i64 x.c, .slice ax x.ks.length cx, .int .i64 y.k, .int .i64 y.v.1, .int .i64 y.v.2.1, .string y.v.2.2, .int .i64 y.c, .slice ay y.ks.length cy, .int .i64 z.k, .int .i64 z.v.1, .int .i64 z.v.2.1, .string z.v.2.2, .int .i64 z.c, .slice az z.ks.length cz] 27)) (some ⟨w.heap.size, 0, none⟩) [x, y, z] := by
  show KsAt _ _ _ _
  rw [World.size_alloc]
  exact ks_three w ax cx ay cy az cz (Nat.le_refl _) kx ky kz

abbrev set3 (W : World) (b : Nat) (x y z : Value) : World := ((W.setCell ⟨b, 0, none⟩ x).setCell ⟨b, 1, none⟩ y).setCell ⟨b, 2, none⟩ z
theorem Box.put {W : World} {b : Nat} {x y z : Value} (h : Box W b x y z) (x' y' z' : Value) : Box (set3 W b x' y' z') b x' y' z' := by
  obtain ⟨h0, h1, h2, h3, h4, h5, h6⟩ := h
  refine ⟨by simpa using h0, ?_, ?_, ?_, by simpa using h4, by simpa using h5, by simpa using h6⟩
  · rw [World.cell?_setCell_other _ _ _ _ (by simp), World.cell?_setCell_other _ _ _ _ (by simp)]
    exact World.cell?_setCell_same _ _ _ h1
  · rw [World.cell?_setCell_other _ _ _ _ (by simp)]
    refine World.cell?_setCell_same _ _ _ (u := y) ?_
    rw [World.cell?_setCell_other _ _ _ _ (by simp)]
    exact h2
  · refine World.cell?_setCell_same _ _ _ (u := z) ?_
    rw [World.cell?_setCell_other _ _ _ _ (by simp), World.cell?_setCell_other _ _ _ _ (by simp)]
    exact h3
theorem Box.far {W : World} {b g : Nat} {x y z : Value} (h : Box W b x y z) (hn : b < g) (x' y' z' : Value) : Box (set3 W g x' y' z') b x y z := by
  obtain ⟨h0, h1, h2, h3, h4, h5, h6⟩ := h
  have hn : g ≠ b := by omega
  exact ⟨by simpa using h0, by rw [cell_far hn, cell_far hn, cell_far hn]; exact h1, by rw [cell_far hn, cell_far hn, cell_far hn]; exact h2, by rw [cell_far hn, cell_far hn, cell_far hn]; exact h3, by simpa using h4, by simpa using h5, by simpa using h6⟩
end Go.Proofs.Ytbdhmjojamoafaa
