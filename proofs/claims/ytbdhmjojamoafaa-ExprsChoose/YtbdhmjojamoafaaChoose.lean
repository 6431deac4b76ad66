/- The walk of tidelaw3.ExprsChoose. -/
import Derived.Test.YtbdhmjojamoafaaYE
import Derived.Deep.Cut
namespace Go.Proofs.Ytbdhmjojamoafaa
open Go.RowKit

set_option maxHeartbeats 4000000 in
theorem choose_walk (ca : Option Addr) (ccap : Nat) (cols : List Int) (uc : Value) (c : Ex) (ux : Value) (x : Ex) (uy : Value) (y : Ex) (ra : Option Addr) (rcap : Nat) (row : List Vl) (w : World) (hc : IsAt w.heap.size w ca cols) (hxc : XV w uc c) (hxx : XV w ux x) (hxy : XV w uy y) (hs : SlAt w ra row) :
    Calls Try.prog 8 #[.slice ca cols.length ccap, uc, ux, uy, .slice ra row.length rcap] w fun e w' => e = .returned (.bool true) ∧ Below w.heap.size w w' := by
  have F := choose_fact cols c x y row
  have HF : Hid _ := F
  clear F
  obtain ⟨ac, cc, rfl, kc⟩ := hxc
  obtain ⟨ax, cx, rfl, kx⟩ := hxx
  obtain ⟨ay, cy, rfl, ky⟩ := hxy
  have Kc : KX w ac c.ks := kc
  have Kx : KX w ax x.ks := kx
  have Ky : KX w ay y.ks := ky
  have IC : IX w ca cols := hc
  have SR := hs
  clear kc kx ky hc hs
  have hA : Below w.heap.size w w := Below.refl _ _
  go_enter Try.func8, Try.ntmps8
  go_wp2_with fail
  have hb : Below w.heap.size w (w.alloc (.cells #[.int .i64 c.k, .int .i64 c.v.1, .int .i64 c.v.2.1, .string c.v.2.2, .int .i64 c.c, .slice ac c.ks.length cc] 27)) := (Below.refl _ _).alloc (Nat.le_refl _) _
  replace Kc := Kc.next hb
  replace Kx := Kx.next hb
  replace Ky := Ky.next hb
  replace IC := IC.next hb
  replace SR := SR.next hb
  replace hA := chain hA hb
  have Sc := Six.new w c.k c.v c.c ac c.ks.length cc 27
  have qc : w.heap.size < (w.alloc (.cells #[.int .i64 c.k, .int .i64 c.v.1, .int .i64 c.v.2.1, .string c.v.2.2, .int .i64 c.c, .slice ac c.ks.length cc] 27)).heap.size := by simp
  have zz : (w.alloc (.cells #[.int .i64 c.k, .int .i64 c.v.1, .int .i64 c.v.2.1, .string c.v.2.2, .int .i64 c.c, .slice ac c.ks.length cc] 27)).heap.size = w.heap.size + 1 := by simp
  generalize w.alloc (.cells #[.int .i64 c.k, .int .i64 c.v.1, .int .i64 c.v.2.1, .string c.v.2.2, .int .i64 c.c, .slice ac c.ks.length cc] 27) = W1 at *
  have zprev : W1.heap.size = w.heap.size + 1 := zz
  clear zz hb
  have hb : Below W1.heap.size W1 (W1.alloc (.cells #[.int .i64 x.k, .int .i64 x.v.1, .int .i64 x.v.2.1, .string x.v.2.2, .int .i64 x.c, .slice ax x.ks.length cx] 27)) := (Below.refl _ _).alloc (Nat.le_refl _) _
  replace Sc := Sc.next hb qc
  replace qc := Nat.lt_of_lt_of_le qc hb.size
  replace Kc := Kc.next hb
  replace Kx := Kx.next hb
  replace Ky := Ky.next hb
  replace IC := IC.next hb
  replace SR := SR.next hb
  replace hA := chain hA hb
  have Sx := Six.new W1 x.k x.v x.c ax x.ks.length cx 27
  have qx : W1.heap.size < (W1.alloc (.cells #[.int .i64 x.k, .int .i64 x.v.1, .int .i64 x.v.2.1, .string x.v.2.2, .int .i64 x.c, .slice ax x.ks.length cx] 27)).heap.size := by simp
  have zz : (W1.alloc (.cells #[.int .i64 x.k, .int .i64 x.v.1, .int .i64 x.v.2.1, .string x.v.2.2, .int .i64 x.c, .slice ax x.ks.length cx] 27)).heap.size = W1.heap.size + 1 := by simp
  generalize W1.alloc (.cells #[.int .i64 x.k, .int .i64 x.v.1, .int .i64 x.v.2.1, .string x.v.2.2, .int .i64 x.c, .slice ax x.ks.length cx] 27) = W2 at *
  rw [zprev] at Sx
  rw [zprev] at qx
  replace zprev : W2.heap.size = w.heap.size + 1 + 1 := by omega
  clear zz hb
  have hb : Below W2.heap.size W2 (W2.alloc (.cells #[.int .i64 y.k, .int .i64 y.v.1, .int .i64 y.v.2.1, .string y.v.2.2, .int .i64 y.c, .slice ay y.ks.length cy] 27)) := (Below.refl _ _).alloc (Nat.le_refl _) _
  replace Sc := Sc.next hb qc
  replace qc := Nat.lt_of_lt_of_le qc hb.size
  replace Sx := Sx.next hb qx
  replace qx := Nat.lt_of_lt_of_le qx hb.size
  replace Kc := Kc.next hb
  replace Kx := Kx.next hb
  replace Ky := Ky.next hb
  replace IC := IC.next hb
  replace SR := SR.next hb
  replace hA := chain hA hb
  have Sy := Six.new W2 y.k y.v y.c ay y.ks.length cy 27
  have qy : W2.heap.size < (W2.alloc (.cells #[.int .i64 y.k, .int .i64 y.v.1, .int .i64 y.v.2.1, .string y.v.2.2, .int .i64 y.c, .slice ay y.ks.length cy] 27)).heap.size := by simp
  have zz : (W2.alloc (.cells #[.int .i64 y.k, .int .i64 y.v.1, .int .i64 y.v.2.1, .string y.v.2.2, .int .i64 y.c, .slice ay y.ks.length cy] 27)).heap.size = W2.heap.size + 1 := by simp
  generalize W2.alloc (.cells #[.int .i64 y.k, .int .i64 y.v.1, .int .i64 y.v.2.1, .string y.v.2.2, .int .i64 y.c, .slice ay y.ks.length cy] 27) = W3 at *
  rw [zprev] at Sy
  rw [zprev] at qy
  replace zprev : W3.heap.size = w.heap.size + 1 + 1 + 1 := by omega
  clear zz hb
  clear zprev
  refine (alive_at W3).mono ?_
  rintro e W4 ⟨rfl, hb⟩
  replace Sc := Sc.next hb qc
  replace qc := Nat.lt_of_lt_of_le qc hb.size
  replace Sx := Sx.next hb qx
  replace qx := Nat.lt_of_lt_of_le qx hb.size
  replace Sy := Sy.next hb qy
  replace qy := Nat.lt_of_lt_of_le qy hb.size
  replace Kc := Kc.next hb
  replace Kx := Kx.next hb
  replace Ky := Ky.next hb
  replace IC := IC.next hb
  replace SR := SR.next hb
  replace hA := chain hA hb
  clear hb
  have ⟨c0, c1, c2, c3, c4, c5⟩ := Sc
  simp only [Nat.zero_add] at c1 c2 c3 c4 c5
  have ⟨x0, x1, x2, x3, x4, x5⟩ := Sx
  simp only [Nat.zero_add] at x1 x2 x3 x4 x5
  have ⟨y0, y1, y2, y3, y4, y5⟩ := Sy
  simp only [Nat.zero_add] at y1 y2 y3 y4 y5
  go_upto_region 4 with fail
  clear c0 c1 c2 c3 c4 c5 x0 x1 x2 x3 x4 x5 y0 y1 y2 y3 y4 y5
  have hb : Below W4.heap.size W4 (W4.alloc (.cells #[.int .i64 c.k, .int .i64 c.v.1, .int .i64 c.v.2.1, .string c.v.2.2, .int .i64 c.c, .slice ac c.ks.length cc, .int .i64 x.k, .int .i64 x.v.1, .int .i64 x.v.2.1, .string x.v.2.2, .int .i64 x.c, .slice ax x.ks.length cx, .int .i64 y.k, .int .i64 y.v.1, .int .i64 y.v.2.1, .string y.v.2.2, .int .i64 y.c, .slice ay y.ks.length cy] 27)) := (Below.refl _ _).alloc (Nat.le_refl _) _
  have K1 : KX (W4.alloc (.cells #[.int .i64 c.k, .int .i64 c.v.1, .int .i64 c.v.2.1, .string c.v.2.2, .int .i64 c.c, .slice ac c.ks.length cc, .int .i64 x.k, .int .i64 x.v.1, .int .i64 x.v.2.1, .string x.v.2.2, .int .i64 x.c, .slice ax x.ks.length cx, .int .i64 y.k, .int .i64 y.v.1, .int .i64 y.v.2.1, .string y.v.2.2, .int .i64 y.c, .slice ay y.ks.length cy] 27)) (some ⟨W4.heap.size, 0, none⟩) [c, x, y] := kx_three W4 ac cc ax cx ay cy Kc Kx Ky
  replace Sc := Sc.next hb qc
  replace qc := Nat.lt_of_lt_of_le qc hb.size
  replace Sx := Sx.next hb qx
  replace qx := Nat.lt_of_lt_of_le qx hb.size
  replace Sy := Sy.next hb qy
  replace qy := Nat.lt_of_lt_of_le qy hb.size
  replace Kc := Kc.next hb
  replace Kx := Kx.next hb
  replace Ky := Ky.next hb
  replace IC := IC.next hb
  replace SR := SR.next hb
  replace hA := chain hA hb
  have zz : (W4.alloc (.cells #[.int .i64 c.k, .int .i64 c.v.1, .int .i64 c.v.2.1, .string c.v.2.2, .int .i64 c.c, .slice ac c.ks.length cc, .int .i64 x.k, .int .i64 x.v.1, .int .i64 x.v.2.1, .string x.v.2.2, .int .i64 x.c, .slice ax x.ks.length cx, .int .i64 y.k, .int .i64 y.v.1, .int .i64 y.v.2.1, .string y.v.2.2, .int .i64 y.c, .slice ay y.ks.length cy] 27)).heap.size = W4.heap.size + 1 := by simp
  generalize W4.alloc (.cells #[.int .i64 c.k, .int .i64 c.v.1, .int .i64 c.v.2.1, .string c.v.2.2, .int .i64 c.c, .slice ac c.ks.length cc, .int .i64 x.k, .int .i64 x.v.1, .int .i64 x.v.2.1, .string x.v.2.2, .int .i64 x.c, .slice ax x.ks.length cx, .int .i64 y.k, .int .i64 y.v.1, .int .i64 y.v.2.1, .string y.v.2.2, .int .i64 y.c, .slice ay y.ks.length cy] 27) = W5 at *
  have zprev : W5.heap.size = W4.heap.size + 1 := zz
  clear zz hb
  have hb : Below W5.heap.size W5 (W5.alloc (.cells #[.int .i64 17, .int .i64 0, .int .i64 0, .string ⟨#[]⟩, .int .i64 0, .slice (some ⟨W4.heap.size, 0, none⟩) 3 3] 27)) := (Below.refl _ _).alloc (Nat.le_refl _) _
  replace Sc := Sc.next hb qc
  replace qc := Nat.lt_of_lt_of_le qc hb.size
  replace Sx := Sx.next hb qx
  replace qx := Nat.lt_of_lt_of_le qx hb.size
  replace Sy := Sy.next hb qy
  replace qy := Nat.lt_of_lt_of_le qy hb.size
  replace Kc := Kc.next hb
  replace Kx := Kx.next hb
  replace Ky := Ky.next hb
  replace IC := IC.next hb
  replace SR := SR.next hb
  replace K1 := K1.next hb
  replace hA := chain hA hb
  have Sm := Six.new W5 17 vl0 0 (some ⟨W4.heap.size, 0, none⟩) 3 3 27
  simp only [vl0] at Sm
  have qm : W5.heap.size < (W5.alloc (.cells #[.int .i64 17, .int .i64 0, .int .i64 0, .string ⟨#[]⟩, .int .i64 0, .slice (some ⟨W4.heap.size, 0, none⟩) 3 3] 27)).heap.size := by simp
  have zz : (W5.alloc (.cells #[.int .i64 17, .int .i64 0, .int .i64 0, .string ⟨#[]⟩, .int .i64 0, .slice (some ⟨W4.heap.size, 0, none⟩) 3 3] 27)).heap.size = W5.heap.size + 1 := by simp
  generalize W5.alloc (.cells #[.int .i64 17, .int .i64 0, .int .i64 0, .string ⟨#[]⟩, .int .i64 0, .slice (some ⟨W4.heap.size, 0, none⟩) 3 3] 27) = W6 at *
  rw [zprev] at Sm
  rw [zprev] at qm
  replace zprev : W6.heap.size = W4.heap.size + 1 + 1 := by omega
  clear zz hb
  clear zprev
  have ⟨x0, x1, x2, x3, x4, x5⟩ := Sx
  simp only [Nat.zero_add] at x1 x2 x3 x4 x5
  have ⟨y0, y1, y2, y3, y4, y5⟩ := Sy
  simp only [Nat.zero_add] at y1 y2 y3 y4 y5
  go_wp2_with fail
  clear x0 x1 x2 x3 x4 x5 y0 y1 y2 y3 y4 y5
  refine (two_at 18 _ _ x y W6 ⟨ax, cx, rfl, Kx⟩ ⟨ay, cy, rfl, Ky⟩).mono ?_
  rintro e W7 ⟨u, rfl, hX, hb⟩
  replace Sc := Sc.next hb qc
  replace qc := Nat.lt_of_lt_of_le qc hb.size
  replace Sx := Sx.next hb qx
  replace qx := Nat.lt_of_lt_of_le qx hb.size
  replace Sy := Sy.next hb qy
  replace qy := Nat.lt_of_lt_of_le qy hb.size
  replace Sm := Sm.next hb qm
  replace qm := Nat.lt_of_lt_of_le qm hb.size
  replace Kc := Kc.next hb
  replace Kx := Kx.next hb
  replace Ky := Ky.next hb
  replace IC := IC.next hb
  replace SR := SR.next hb
  replace K1 := K1.next hb
  replace hA := chain hA hb
  clear hb
  obtain ⟨a2, c2, eu, K2⟩ := hX
  have K2 : KX W7 a2 [x, y] := K2
  obtain rfl : u = .agg #[.int .i64 18, .int .i64 0, .int .i64 0, .string ⟨#[]⟩, .int .i64 0, .slice a2 2 c2] := eu

  go_upto_region 5 with fail
  have hb : Below W7.heap.size W7 (W7.alloc (.cells #[.int .i64 18, .int .i64 0, .int .i64 0, .string ⟨#[]⟩, .int .i64 0, .slice a2 2 c2] 27)) := (Below.refl _ _).alloc (Nat.le_refl _) _
  replace Sc := Sc.next hb qc
  replace qc := Nat.lt_of_lt_of_le qc hb.size
  replace Sx := Sx.next hb qx
  replace qx := Nat.lt_of_lt_of_le qx hb.size
  replace Sy := Sy.next hb qy
  replace qy := Nat.lt_of_lt_of_le qy hb.size
  replace Sm := Sm.next hb qm
  replace qm := Nat.lt_of_lt_of_le qm hb.size
  replace Kc := Kc.next hb
  replace Kx := Kx.next hb
  replace Ky := Ky.next hb
  replace IC := IC.next hb
  replace SR := SR.next hb
  replace K1 := K1.next hb
  replace K2 := K2.next hb
  replace hA := chain hA hb
  have Sl := Six.new W7 18 vl0 0 a2 2 c2 27
  simp only [vl0] at Sl
  have ql : W7.heap.size < (W7.alloc (.cells #[.int .i64 18, .int .i64 0, .int .i64 0, .string ⟨#[]⟩, .int .i64 0, .slice a2 2 c2] 27)).heap.size := by simp
  have zz : (W7.alloc (.cells #[.int .i64 18, .int .i64 0, .int .i64 0, .string ⟨#[]⟩, .int .i64 0, .slice a2 2 c2] 27)).heap.size = W7.heap.size + 1 := by simp
  generalize W7.alloc (.cells #[.int .i64 18, .int .i64 0, .int .i64 0, .string ⟨#[]⟩, .int .i64 0, .slice a2 2 c2] 27) = W8 at *
  have zprev : W8.heap.size = W7.heap.size + 1 := zz
  clear zz hb
  clear zprev
  have ⟨x0, x1, x2, x3, x4, x5⟩ := Sx
  simp only [Nat.zero_add] at x1 x2 x3 x4 x5
  have ⟨y0, y1, y2, y3, y4, y5⟩ := Sy
  simp only [Nat.zero_add] at y1 y2 y3 y4 y5
  go_upto_region 6 with fail
  clear x0 x1 x2 x3 x4 x5 y0 y1 y2 y3 y4 y5
  have hb : Below W8.heap.size W8 (W8.alloc (.cells #[.int .i64 x.k, .int .i64 x.v.1, .int .i64 x.v.2.1, .string x.v.2.2, .int .i64 x.c, .slice ax x.ks.length cx] 27)) := (Below.refl _ _).alloc (Nat.le_refl _) _
  have K3 : KX (W8.alloc (.cells #[.int .i64 x.k, .int .i64 x.v.1, .int .i64 x.v.2.1, .string x.v.2.2, .int .i64 x.c, .slice ax x.ks.length cx] 27)) (some ⟨W8.heap.size, 0, none⟩) [x] := kx_one W8 ax cx Kx
  replace Sc := Sc.next hb qc
  replace qc := Nat.lt_of_lt_of_le qc hb.size
  replace Sx := Sx.next hb qx
  replace qx := Nat.lt_of_lt_of_le qx hb.size
  replace Sy := Sy.next hb qy
  replace qy := Nat.lt_of_lt_of_le qy hb.size
  replace Sm := Sm.next hb qm
  replace qm := Nat.lt_of_lt_of_le qm hb.size
  replace Sl := Sl.next hb ql
  replace ql := Nat.lt_of_lt_of_le ql hb.size
  replace Kc := Kc.next hb
  replace Kx := Kx.next hb
  replace Ky := Ky.next hb
  replace IC := IC.next hb
  replace SR := SR.next hb
  replace K1 := K1.next hb
  replace K2 := K2.next hb
  replace hA := chain hA hb
  have zz : (W8.alloc (.cells #[.int .i64 x.k, .int .i64 x.v.1, .int .i64 x.v.2.1, .string x.v.2.2, .int .i64 x.c, .slice ax x.ks.length cx] 27)).heap.size = W8.heap.size + 1 := by simp
  generalize W8.alloc (.cells #[.int .i64 x.k, .int .i64 x.v.1, .int .i64 x.v.2.1, .string x.v.2.2, .int .i64 x.c, .slice ax x.ks.length cx] 27) = W9 at *
  have zprev : W9.heap.size = W8.heap.size + 1 := zz
  clear zz hb
  have hb : Below W9.heap.size W9 (W9.alloc (.cells #[.int .i64 16, .int .i64 0, .int .i64 0, .string ⟨#[]⟩, .int .i64 0, .slice (some ⟨W8.heap.size, 0, none⟩) 1 1, .int .i64 y.k, .int .i64 y.v.1, .int .i64 y.v.2.1, .string y.v.2.2, .int .i64 y.c, .slice ay y.ks.length cy, .int .i64 x.k, .int .i64 x.v.1, .int .i64 x.v.2.1, .string x.v.2.2, .int .i64 x.c, .slice ax x.ks.length cx] 27)) := (Below.refl _ _).alloc (Nat.le_refl _) _
  have K4 : KX (W9.alloc (.cells #[.int .i64 16, .int .i64 0, .int .i64 0, .string ⟨#[]⟩, .int .i64 0, .slice (some ⟨W8.heap.size, 0, none⟩) 1 1, .int .i64 y.k, .int .i64 y.v.1, .int .i64 y.v.2.1, .string y.v.2.2, .int .i64 y.c, .slice ay y.ks.length cy, .int .i64 x.k, .int .i64 x.v.1, .int .i64 x.v.2.1, .string x.v.2.2, .int .i64 x.c, .slice ax x.ks.length cx] 27)) (some ⟨W9.heap.size, 0, none⟩) [mk1 16 x, y, x] := kx_three W9 (x := mk1 16 x) (some ⟨W8.heap.size, 0, none⟩) 1 ay cy ax cx K3 Ky Kx
  replace Sc := Sc.next hb qc
  replace qc := Nat.lt_of_lt_of_le qc hb.size
  replace Sx := Sx.next hb qx
  replace qx := Nat.lt_of_lt_of_le qx hb.size
  replace Sy := Sy.next hb qy
  replace qy := Nat.lt_of_lt_of_le qy hb.size
  replace Sm := Sm.next hb qm
  replace qm := Nat.lt_of_lt_of_le qm hb.size
  replace Sl := Sl.next hb ql
  replace ql := Nat.lt_of_lt_of_le ql hb.size
  replace Kc := Kc.next hb
  replace Kx := Kx.next hb
  replace Ky := Ky.next hb
  replace IC := IC.next hb
  replace SR := SR.next hb
  replace K1 := K1.next hb
  replace K2 := K2.next hb
  replace K3 := K3.next hb
  replace hA := chain hA hb
  have zz : (W9.alloc (.cells #[.int .i64 16, .int .i64 0, .int .i64 0, .string ⟨#[]⟩, .int .i64 0, .slice (some ⟨W8.heap.size, 0, none⟩) 1 1, .int .i64 y.k, .int .i64 y.v.1, .int .i64 y.v.2.1, .string y.v.2.2, .int .i64 y.c, .slice ay y.ks.length cy, .int .i64 x.k, .int .i64 x.v.1, .int .i64 x.v.2.1, .string x.v.2.2, .int .i64 x.c, .slice ax x.ks.length cx] 27)).heap.size = W9.heap.size + 1 := by simp
  generalize W9.alloc (.cells #[.int .i64 16, .int .i64 0, .int .i64 0, .string ⟨#[]⟩, .int .i64 0, .slice (some ⟨W8.heap.size, 0, none⟩) 1 1, .int .i64 y.k, .int .i64 y.v.1, .int .i64 y.v.2.1, .string y.v.2.2, .int .i64 y.c, .slice ay y.ks.length cy, .int .i64 x.k, .int .i64 x.v.1, .int .i64 x.v.2.1, .string x.v.2.2, .int .i64 x.c, .slice ax x.ks.length cx] 27) = W10 at *
  rw [zprev] at K4
  replace zprev : W10.heap.size = W8.heap.size + 1 + 1 := by omega
  clear zz hb
  have hb : Below W10.heap.size W10 (W10.alloc (.cells #[.int .i64 17, .int .i64 0, .int .i64 0, .string ⟨#[]⟩, .int .i64 0, .slice (some ⟨W8.heap.size + 1, 0, none⟩) 3 3] 27)) := (Below.refl _ _).alloc (Nat.le_refl _) _
  replace Sc := Sc.next hb qc
  replace qc := Nat.lt_of_lt_of_le qc hb.size
  replace Sx := Sx.next hb qx
  replace qx := Nat.lt_of_lt_of_le qx hb.size
  replace Sy := Sy.next hb qy
  replace qy := Nat.lt_of_lt_of_le qy hb.size
  replace Sm := Sm.next hb qm
  replace qm := Nat.lt_of_lt_of_le qm hb.size
  replace Sl := Sl.next hb ql
  replace ql := Nat.lt_of_lt_of_le ql hb.size
  replace Kc := Kc.next hb
  replace Kx := Kx.next hb
  replace Ky := Ky.next hb
  replace IC := IC.next hb
  replace SR := SR.next hb
  replace K1 := K1.next hb
  replace K2 := K2.next hb
  replace K3 := K3.next hb
  replace K4 := K4.next hb
  replace hA := chain hA hb
  have Sd := Six.new W10 17 vl0 0 (some ⟨W8.heap.size + 1, 0, none⟩) 3 3 27
  simp only [vl0] at Sd
  have qd : W10.heap.size < (W10.alloc (.cells #[.int .i64 17, .int .i64 0, .int .i64 0, .string ⟨#[]⟩, .int .i64 0, .slice (some ⟨W8.heap.size + 1, 0, none⟩) 3 3] 27)).heap.size := by simp
  have zz : (W10.alloc (.cells #[.int .i64 17, .int .i64 0, .int .i64 0, .string ⟨#[]⟩, .int .i64 0, .slice (some ⟨W8.heap.size + 1, 0, none⟩) 3 3] 27)).heap.size = W10.heap.size + 1 := by simp
  generalize W10.alloc (.cells #[.int .i64 17, .int .i64 0, .int .i64 0, .string ⟨#[]⟩, .int .i64 0, .slice (some ⟨W8.heap.size + 1, 0, none⟩) 3 3] 27) = W11 at *
  rw [zprev] at Sd
  rw [zprev] at qd
  replace zprev : W11.heap.size = W8.heap.size + 1 + 1 + 1 := by omega
  clear zz hb
  clear zprev
  have ⟨m0, m1, m2, m3, m4, m5⟩ := Sm
  simp only [Nat.zero_add] at m1 m2 m3 m4 m5
  go_wp2_with fail
  clear m0 m1 m2 m3 m4 m5
  refine (eval_xv cols (mk3 17 c x y) row ca ccap _ ra rcap W11 IC ⟨_, _, rfl, K1⟩ SR).mono ?_
  rintro e W12 ⟨rfl, hb⟩
  replace Sc := Sc.next hb qc
  replace qc := Nat.lt_of_lt_of_le qc hb.size
  replace Sx := Sx.next hb qx
  replace qx := Nat.lt_of_lt_of_le qx hb.size
  replace Sy := Sy.next hb qy
  replace qy := Nat.lt_of_lt_of_le qy hb.size
  replace Sm := Sm.next hb qm
  replace qm := Nat.lt_of_lt_of_le qm hb.size
  replace Sl := Sl.next hb ql
  replace ql := Nat.lt_of_lt_of_le ql hb.size
  replace Sd := Sd.next hb qd
  replace qd := Nat.lt_of_lt_of_le qd hb.size
  replace Kc := Kc.next hb
  replace Kx := Kx.next hb
  replace Ky := Ky.next hb
  replace IC := IC.next hb
  replace SR := SR.next hb
  replace K1 := K1.next hb
  replace K2 := K2.next hb
  replace K3 := K3.next hb
  replace K4 := K4.next hb
  replace hA := chain hA hb
  clear hb
  generalize evalX cols (mk3 17 c x y) row = EA at *
  obtain ⟨⟨kA, nA, sA⟩, eA⟩ := EA
  go_upto_region 7 with fail
  have hb : Below W12.heap.size W12 (W12.alloc (.cells #[.int .i64 kA, .int .i64 nA, .string sA] 24)) := (Below.refl _ _).alloc (Nat.le_refl _) _
  replace Sc := Sc.next hb qc
  replace qc := Nat.lt_of_lt_of_le qc hb.size
  replace Sx := Sx.next hb qx
  replace qx := Nat.lt_of_lt_of_le qx hb.size
  replace Sy := Sy.next hb qy
  replace qy := Nat.lt_of_lt_of_le qy hb.size
  replace Sm := Sm.next hb qm
  replace qm := Nat.lt_of_lt_of_le qm hb.size
  replace Sl := Sl.next hb ql
  replace ql := Nat.lt_of_lt_of_le ql hb.size
  replace Sd := Sd.next hb qd
  replace qd := Nat.lt_of_lt_of_le qd hb.size
  replace Kc := Kc.next hb
  replace Kx := Kx.next hb
  replace Ky := Ky.next hb
  replace IC := IC.next hb
  replace SR := SR.next hb
  replace K1 := K1.next hb
  replace K2 := K2.next hb
  replace K3 := K3.next hb
  replace K4 := K4.next hb
  replace hA := chain hA hb
  have BA := Box.new W12 (.int .i64 kA) (.int .i64 nA) (.string sA) 24
  have zz : (W12.alloc (.cells #[.int .i64 kA, .int .i64 nA, .string sA] 24)).heap.size = W12.heap.size + 1 := by simp
  generalize W12.alloc (.cells #[.int .i64 kA, .int .i64 nA, .string sA] 24) = W13 at *
  have zprev : W13.heap.size = W12.heap.size + 1 := zz
  clear zz hb
  clear zprev
  have ⟨l0, l1, l2, l3, l4, l5⟩ := Sl
  simp only [Nat.zero_add] at l1 l2 l3 l4 l5
  go_wp2_with fail
  clear l0 l1 l2 l3 l4 l5
  refine (eval_xv cols (mk2 18 x y) row ca ccap _ ra rcap W13 IC ⟨_, _, rfl, K2⟩ SR).mono ?_
  rintro e W14 ⟨rfl, hb⟩
  replace Sc := Sc.next hb qc
  replace qc := Nat.lt_of_lt_of_le qc hb.size
  replace Sx := Sx.next hb qx
  replace qx := Nat.lt_of_lt_of_le qx hb.size
  replace Sy := Sy.next hb qy
  replace qy := Nat.lt_of_lt_of_le qy hb.size
  replace Sm := Sm.next hb qm
  replace qm := Nat.lt_of_lt_of_le qm hb.size
  replace Sl := Sl.next hb ql
  replace ql := Nat.lt_of_lt_of_le ql hb.size
  replace Sd := Sd.next hb qd
  replace qd := Nat.lt_of_lt_of_le qd hb.size
  replace BA := BA.next hb
  replace Kc := Kc.next hb
  replace Kx := Kx.next hb
  replace Ky := Ky.next hb
  replace IC := IC.next hb
  replace SR := SR.next hb
  replace K1 := K1.next hb
  replace K2 := K2.next hb
  replace K3 := K3.next hb
  replace K4 := K4.next hb
  replace hA := chain hA hb
  clear hb
  generalize evalX cols (mk2 18 x y) row = EB at *
  obtain ⟨⟨kB, nB, sB⟩, eB⟩ := EB
  go_upto_region 8 with fail
  have hb : Below W14.heap.size W14 (W14.alloc (.cells #[.int .i64 kB, .int .i64 nB, .string sB] 24)) := (Below.refl _ _).alloc (Nat.le_refl _) _
  replace Sc := Sc.next hb qc
  replace qc := Nat.lt_of_lt_of_le qc hb.size
  replace Sx := Sx.next hb qx
  replace qx := Nat.lt_of_lt_of_le qx hb.size
  replace Sy := Sy.next hb qy
  replace qy := Nat.lt_of_lt_of_le qy hb.size
  replace Sm := Sm.next hb qm
  replace qm := Nat.lt_of_lt_of_le qm hb.size
  replace Sl := Sl.next hb ql
  replace ql := Nat.lt_of_lt_of_le ql hb.size
  replace Sd := Sd.next hb qd
  replace qd := Nat.lt_of_lt_of_le qd hb.size
  replace BA := BA.next hb
  replace Kc := Kc.next hb
  replace Kx := Kx.next hb
  replace Ky := Ky.next hb
  replace IC := IC.next hb
  replace SR := SR.next hb
  replace K1 := K1.next hb
  replace K2 := K2.next hb
  replace K3 := K3.next hb
  replace K4 := K4.next hb
  replace hA := chain hA hb
  have BB := Box.new W14 (.int .i64 kB) (.int .i64 nB) (.string sB) 24
  have zz : (W14.alloc (.cells #[.int .i64 kB, .int .i64 nB, .string sB] 24)).heap.size = W14.heap.size + 1 := by simp
  generalize W14.alloc (.cells #[.int .i64 kB, .int .i64 nB, .string sB] 24) = W15 at *
  have zprev : W15.heap.size = W14.heap.size + 1 := zz
  clear zz hb
  clear zprev
  have ⟨d0, d1, d2, d3, d4, d5⟩ := Sd
  simp only [Nat.zero_add] at d1 d2 d3 d4 d5
  go_wp2_with fail
  clear d0 d1 d2 d3 d4 d5
  refine (eval_xv cols (mk3 17 (mk1 16 x) y x) row ca ccap _ ra rcap W15 IC ⟨_, _, rfl, K4⟩ SR).mono ?_
  rintro e W16 ⟨rfl, hb⟩
  replace Sc := Sc.next hb qc
  replace qc := Nat.lt_of_lt_of_le qc hb.size
  replace Sx := Sx.next hb qx
  replace qx := Nat.lt_of_lt_of_le qx hb.size
  replace Sy := Sy.next hb qy
  replace qy := Nat.lt_of_lt_of_le qy hb.size
  replace Sm := Sm.next hb qm
  replace qm := Nat.lt_of_lt_of_le qm hb.size
  replace Sl := Sl.next hb ql
  replace ql := Nat.lt_of_lt_of_le ql hb.size
  replace Sd := Sd.next hb qd
  replace qd := Nat.lt_of_lt_of_le qd hb.size
  replace BA := BA.next hb
  replace BB := BB.next hb
  replace Kc := Kc.next hb
  replace Kx := Kx.next hb
  replace Ky := Ky.next hb
  replace IC := IC.next hb
  replace SR := SR.next hb
  replace K1 := K1.next hb
  replace K2 := K2.next hb
  replace K3 := K3.next hb
  replace K4 := K4.next hb
  replace hA := chain hA hb
  clear hb
  generalize evalX cols (mk3 17 (mk1 16 x) y x) row = ED at *
  obtain ⟨⟨kD, nD, sD⟩, eD⟩ := ED
  go_upto_region 9 with fail
  have hb : Below W16.heap.size W16 (W16.alloc (.cells #[.int .i64 kD, .int .i64 nD, .string sD] 24)) := (Below.refl _ _).alloc (Nat.le_refl _) _
  replace Sc := Sc.next hb qc
  replace qc := Nat.lt_of_lt_of_le qc hb.size
  replace Sx := Sx.next hb qx
  replace qx := Nat.lt_of_lt_of_le qx hb.size
  replace Sy := Sy.next hb qy
  replace qy := Nat.lt_of_lt_of_le qy hb.size
  replace Sm := Sm.next hb qm
  replace qm := Nat.lt_of_lt_of_le qm hb.size
  replace Sl := Sl.next hb ql
  replace ql := Nat.lt_of_lt_of_le ql hb.size
  replace Sd := Sd.next hb qd
  replace qd := Nat.lt_of_lt_of_le qd hb.size
  replace BA := BA.next hb
  replace BB := BB.next hb
  replace Kc := Kc.next hb
  replace Kx := Kx.next hb
  replace Ky := Ky.next hb
  replace IC := IC.next hb
  replace SR := SR.next hb
  replace K1 := K1.next hb
  replace K2 := K2.next hb
  replace K3 := K3.next hb
  replace K4 := K4.next hb
  replace hA := chain hA hb
  have BD := Box.new W16 (.int .i64 kD) (.int .i64 nD) (.string sD) 24
  have zz : (W16.alloc (.cells #[.int .i64 kD, .int .i64 nD, .string sD] 24)).heap.size = W16.heap.size + 1 := by simp
  generalize W16.alloc (.cells #[.int .i64 kD, .int .i64 nD, .string sD] 24) = W17 at *
  have zprev : W17.heap.size = W16.heap.size + 1 := zz
  clear zz hb
  clear zprev
  by_cases hE1 : eA = 0
  case neg =>
    have qE : (eA != 0) = true := by simpa using hE1
    go_wp2_with fail
    go_ret
    exact ⟨rfl, hA⟩
  subst hE1
  by_cases hE2 : eB = 0
  case neg =>
    have qE : (eB != 0) = true := by simpa using hE2
    go_wp2_with fail
    go_ret
    exact ⟨rfl, hA⟩
  subst hE2
  by_cases hE3 : eD = 0
  case neg =>
    have qE : (eD != 0) = true := by simpa using hE3
    go_wp2_with fail
    go_ret
    exact ⟨rfl, hA⟩
  subst hE3
  have F := HF.out rfl rfl rfl
  clear HF
  have HF : Hid _ := F
  clear F
  have ⟨c0, c1, c2, c3, c4, c5⟩ := Sc
  simp only [Nat.zero_add] at c1 c2 c3 c4 c5
  go_wp2_with fail
  clear c0 c1 c2 c3 c4 c5
  refine (eval_xv cols (c) row ca ccap _ ra rcap W17 IC ⟨_, _, rfl, Kc⟩ SR).mono ?_
  rintro e W18 ⟨rfl, hb⟩
  replace Sc := Sc.next hb qc
  replace qc := Nat.lt_of_lt_of_le qc hb.size
  replace Sx := Sx.next hb qx
  replace qx := Nat.lt_of_lt_of_le qx hb.size
  replace Sy := Sy.next hb qy
  replace qy := Nat.lt_of_lt_of_le qy hb.size
  replace Sm := Sm.next hb qm
  replace qm := Nat.lt_of_lt_of_le qm hb.size
  replace Sl := Sl.next hb ql
  replace ql := Nat.lt_of_lt_of_le ql hb.size
  replace Sd := Sd.next hb qd
  replace qd := Nat.lt_of_lt_of_le qd hb.size
  replace BA := BA.next hb
  replace BB := BB.next hb
  replace BD := BD.next hb
  replace Kc := Kc.next hb
  replace Kx := Kx.next hb
  replace Ky := Ky.next hb
  replace IC := IC.next hb
  replace SR := SR.next hb
  replace K1 := K1.next hb
  replace K2 := K2.next hb
  replace K3 := K3.next hb
  replace K4 := K4.next hb
  replace hA := chain hA hb
  clear hb
  generalize evalX cols (c) row = EP at *
  obtain ⟨⟨kP, nP, sP⟩, eP⟩ := EP
  go_upto_region 12 with fail
  have hb : Below W18.heap.size W18 (W18.alloc (.cells #[.int .i64 kP, .int .i64 nP, .string sP] 24)) := (Below.refl _ _).alloc (Nat.le_refl _) _
  replace Sc := Sc.next hb qc
  replace qc := Nat.lt_of_lt_of_le qc hb.size
  replace Sx := Sx.next hb qx
  replace qx := Nat.lt_of_lt_of_le qx hb.size
  replace Sy := Sy.next hb qy
  replace qy := Nat.lt_of_lt_of_le qy hb.size
  replace Sm := Sm.next hb qm
  replace qm := Nat.lt_of_lt_of_le qm hb.size
  replace Sl := Sl.next hb ql
  replace ql := Nat.lt_of_lt_of_le ql hb.size
  replace Sd := Sd.next hb qd
  replace qd := Nat.lt_of_lt_of_le qd hb.size
  replace BA := BA.next hb
  replace BB := BB.next hb
  replace BD := BD.next hb
  replace Kc := Kc.next hb
  replace Kx := Kx.next hb
  replace Ky := Ky.next hb
  replace IC := IC.next hb
  replace SR := SR.next hb
  replace K1 := K1.next hb
  replace K2 := K2.next hb
  replace K3 := K3.next hb
  replace K4 := K4.next hb
  replace hA := chain hA hb
  have BP := Box.new W18 (.int .i64 kP) (.int .i64 nP) (.string sP) 24
  have zz : (W18.alloc (.cells #[.int .i64 kP, .int .i64 nP, .string sP] 24)).heap.size = W18.heap.size + 1 := by simp
  generalize W18.alloc (.cells #[.int .i64 kP, .int .i64 nP, .string sP] 24) = W19 at *
  have zprev : W19.heap.size = W18.heap.size + 1 := zz
  clear zz hb
  clear zprev
  have ⟨x0, x1, x2, x3, x4, x5⟩ := Sx
  simp only [Nat.zero_add] at x1 x2 x3 x4 x5
  go_wp2_with fail
  clear x0 x1 x2 x3 x4 x5
  refine (eval_xv cols (x) row ca ccap _ ra rcap W19 IC ⟨_, _, rfl, Kx⟩ SR).mono ?_
  rintro e W20 ⟨rfl, hb⟩
  replace Sc := Sc.next hb qc
  replace qc := Nat.lt_of_lt_of_le qc hb.size
  replace Sx := Sx.next hb qx
  replace qx := Nat.lt_of_lt_of_le qx hb.size
  replace Sy := Sy.next hb qy
  replace qy := Nat.lt_of_lt_of_le qy hb.size
  replace Sm := Sm.next hb qm
  replace qm := Nat.lt_of_lt_of_le qm hb.size
  replace Sl := Sl.next hb ql
  replace ql := Nat.lt_of_lt_of_le ql hb.size
  replace Sd := Sd.next hb qd
  replace qd := Nat.lt_of_lt_of_le qd hb.size
  replace BA := BA.next hb
  replace BB := BB.next hb
  replace BD := BD.next hb
  replace BP := BP.next hb
  replace Kc := Kc.next hb
  replace Kx := Kx.next hb
  replace Ky := Ky.next hb
  replace IC := IC.next hb
  replace SR := SR.next hb
  replace K1 := K1.next hb
  replace K2 := K2.next hb
  replace K3 := K3.next hb
  replace K4 := K4.next hb
  replace hA := chain hA hb
  clear hb
  generalize evalX cols (x) row = EQ at *
  obtain ⟨⟨kQ, nQ, sQ⟩, eQ⟩ := EQ
  go_upto_region 13 with fail
  have hb : Below W20.heap.size W20 (W20.alloc (.cells #[.int .i64 kQ, .int .i64 nQ, .string sQ] 24)) := (Below.refl _ _).alloc (Nat.le_refl _) _
  replace Sc := Sc.next hb qc
  replace qc := Nat.lt_of_lt_of_le qc hb.size
  replace Sx := Sx.next hb qx
  replace qx := Nat.lt_of_lt_of_le qx hb.size
  replace Sy := Sy.next hb qy
  replace qy := Nat.lt_of_lt_of_le qy hb.size
  replace Sm := Sm.next hb qm
  replace qm := Nat.lt_of_lt_of_le qm hb.size
  replace Sl := Sl.next hb ql
  replace ql := Nat.lt_of_lt_of_le ql hb.size
  replace Sd := Sd.next hb qd
  replace qd := Nat.lt_of_lt_of_le qd hb.size
  replace BA := BA.next hb
  replace BB := BB.next hb
  replace BD := BD.next hb
  replace BP := BP.next hb
  replace Kc := Kc.next hb
  replace Kx := Kx.next hb
  replace Ky := Ky.next hb
  replace IC := IC.next hb
  replace SR := SR.next hb
  replace K1 := K1.next hb
  replace K2 := K2.next hb
  replace K3 := K3.next hb
  replace K4 := K4.next hb
  replace hA := chain hA hb
  have BQ := Box.new W20 (.int .i64 kQ) (.int .i64 nQ) (.string sQ) 24
  have zz : (W20.alloc (.cells #[.int .i64 kQ, .int .i64 nQ, .string sQ] 24)).heap.size = W20.heap.size + 1 := by simp
  generalize W20.alloc (.cells #[.int .i64 kQ, .int .i64 nQ, .string sQ] 24) = W21 at *
  have zprev : W21.heap.size = W20.heap.size + 1 := zz
  clear zz hb
  clear zprev
  have ⟨y0, y1, y2, y3, y4, y5⟩ := Sy
  simp only [Nat.zero_add] at y1 y2 y3 y4 y5
  go_wp2_with fail
  clear y0 y1 y2 y3 y4 y5
  refine (eval_xv cols (y) row ca ccap _ ra rcap W21 IC ⟨_, _, rfl, Ky⟩ SR).mono ?_
  rintro e W22 ⟨rfl, hb⟩
  replace Sc := Sc.next hb qc
  replace qc := Nat.lt_of_lt_of_le qc hb.size
  replace Sx := Sx.next hb qx
  replace qx := Nat.lt_of_lt_of_le qx hb.size
  replace Sy := Sy.next hb qy
  replace qy := Nat.lt_of_lt_of_le qy hb.size
  replace Sm := Sm.next hb qm
  replace qm := Nat.lt_of_lt_of_le qm hb.size
  replace Sl := Sl.next hb ql
  replace ql := Nat.lt_of_lt_of_le ql hb.size
  replace Sd := Sd.next hb qd
  replace qd := Nat.lt_of_lt_of_le qd hb.size
  replace BA := BA.next hb
  replace BB := BB.next hb
  replace BD := BD.next hb
  replace BP := BP.next hb
  replace BQ := BQ.next hb
  replace Kc := Kc.next hb
  replace Kx := Kx.next hb
  replace Ky := Ky.next hb
  replace IC := IC.next hb
  replace SR := SR.next hb
  replace K1 := K1.next hb
  replace K2 := K2.next hb
  replace K3 := K3.next hb
  replace K4 := K4.next hb
  replace hA := chain hA hb
  clear hb
  generalize evalX cols (y) row = ER at *
  obtain ⟨⟨kR, nR, sR⟩, eR⟩ := ER
  go_upto_region 14 with fail
  have hb : Below W22.heap.size W22 (W22.alloc (.cells #[.int .i64 kR, .int .i64 nR, .string sR] 24)) := (Below.refl _ _).alloc (Nat.le_refl _) _
  replace Sc := Sc.next hb qc
  replace qc := Nat.lt_of_lt_of_le qc hb.size
  replace Sx := Sx.next hb qx
  replace qx := Nat.lt_of_lt_of_le qx hb.size
  replace Sy := Sy.next hb qy
  replace qy := Nat.lt_of_lt_of_le qy hb.size
  replace Sm := Sm.next hb qm
  replace qm := Nat.lt_of_lt_of_le qm hb.size
  replace Sl := Sl.next hb ql
  replace ql := Nat.lt_of_lt_of_le ql hb.size
  replace Sd := Sd.next hb qd
  replace qd := Nat.lt_of_lt_of_le qd hb.size
  replace BA := BA.next hb
  replace BB := BB.next hb
  replace BD := BD.next hb
  replace BP := BP.next hb
  replace BQ := BQ.next hb
  replace Kc := Kc.next hb
  replace Kx := Kx.next hb
  replace Ky := Ky.next hb
  replace IC := IC.next hb
  replace SR := SR.next hb
  replace K1 := K1.next hb
  replace K2 := K2.next hb
  replace K3 := K3.next hb
  replace K4 := K4.next hb
  replace hA := chain hA hb
  have BR := Box.new W22 (.int .i64 kR) (.int .i64 nR) (.string sR) 24
  have zz : (W22.alloc (.cells #[.int .i64 kR, .int .i64 nR, .string sR] 24)).heap.size = W22.heap.size + 1 := by simp
  generalize W22.alloc (.cells #[.int .i64 kR, .int .i64 nR, .string sR] 24) = W23 at *
  have zprev : W23.heap.size = W22.heap.size + 1 := zz
  clear zz hb
  clear zprev
  obtain ⟨f1, f2, f3, f4, f5, f6, f7⟩ := HF.out
  clear HF
  subst f1 f2 f3
  have tru := wrong_tru f4
  clear f4
  have H5 : Hid _ := f5
  have H6 : Hid _ := f6
  have H7 : Hid _ := f7
  clear f5 f6 f7

  have lA := BA.lt
  have lB := BB.lt
  have lD := BD.lt
  have lP := BP.lt
  have lQ := BQ.lt
  have lR := BR.lt
  clear K1 K2 K3 K4 Kc Kx Ky IC SR Sc Sx Sy Sm Sl Sd qc qx qy qm ql qd
  have ⟨_, Ac0, Ac1, Ac2, Af0, Af1, Af2⟩ := BA
  have ⟨_, Bc0, Bc1, Bc2, Bf0, Bf1, Bf2⟩ := BB
  have ⟨_, Dc0, Dc1, Dc2, Df0, Df1, Df2⟩ := BD
  have ⟨_, Pc0, Pc1, Pc2, Pf0, Pf1, Pf2⟩ := BP
  have ⟨_, Qc0, Qc1, Qc2, Qf0, Qf1, Qf2⟩ := BQ
  have ⟨_, Rc0, Rc1, Rc2, Rf0, Rf1, Rf2⟩ := BR
  go_wp2_with fail
  clear Ac0 Ac1 Ac2 Af0 Af1 Af2 Bc0 Bc1 Bc2 Bf0 Bf1 Bf2 Dc0 Dc1 Dc2 Df0 Df1 Df2 Pc0 Pc1 Pc2 Pf0 Pf1 Pf2 Qc0 Qc1 Qc2 Qf0 Qf1 Qf2 Rc0 Rc1 Rc2 Rf0 Rf1 Rf2
  have hA0 := hA
  have hb : Below W23.heap.size W23 (W23.alloc (.cells #[.int .i64 kR, .int .i64 nR, .string sR] 24)) := (Below.refl _ _).alloc (Nat.le_refl _) _
  replace BA := BA.next hb
  replace BB := BB.next hb
  replace BD := BD.next hb
  replace BP := BP.next hb
  replace BQ := BQ.next hb
  replace BR := BR.next hb
  replace hA := chain hA hb
  have BV := Box.new W23 (.int .i64 kR) (.int .i64 nR) (.string sR) 24
  have zz : (W23.alloc (.cells #[.int .i64 kR, .int .i64 nR, .string sR] 24)).heap.size = W23.heap.size + 1 := by simp
  generalize W23.alloc (.cells #[.int .i64 kR, .int .i64 nR, .string sR] 24) = W24 at *
  have zprev : W24.heap.size = W23.heap.size + 1 := zz
  clear zz hb
  clear zprev
  refine (refIs_any kP nP sP true W24 tru).mono ?_
  rintro e W25 ⟨rfl, hb⟩
  replace BA := BA.next hb
  replace BB := BB.next hb
  replace BD := BD.next hb
  replace BP := BP.next hb
  replace BQ := BQ.next hb
  replace BR := BR.next hb
  replace BV := BV.next hb
  replace hA := chain hA hb
  clear hb
  have hwV := hA0.size
  have f5 := H5.out
  have f6 := H6.out
  have f7 := H7.out
  clear H5 H6 H7
  have e5 : clsP (kP, nP, sP) = cls kP nP := rfl
  rw [e5] at f5
  clear e5
  by_cases hq : (cls kP nP == some true) = true
  case pos =>
    rw [if_pos hq] at f5
    simp only [Prod.mk.injEq] at f5
    obtain ⟨ea, eb, ec⟩ := f5
    replace ea := ea.symm
    replace eb := eb.symm
    replace ec := ec.symm
    subst ea eb ec
    by_cases hk : kQ = 1
    case pos =>
      rw [if_pos hk] at f6 f7
      simp only [Prod.mk.injEq] at f6 f7
      obtain ⟨ea, eb, ec⟩ := f6
      replace ea := ea.symm
      replace eb := eb.symm
      replace ec := ec.symm
      subst ea eb ec
      obtain ⟨ea, eb, ec⟩ := f7
      replace ea := ea.symm
      replace eb := eb.symm
      replace ec := ec.symm
      subst ea eb ec
      have nk : (kQ == 1) = true := by simpa using hk
      clear hk
      rw [hq]
      have ⟨_, Ac0, Ac1, Ac2, Af0, Af1, Af2⟩ := BA
      have ⟨_, Bc0, Bc1, Bc2, Bf0, Bf1, Bf2⟩ := BB
      have ⟨_, Dc0, Dc1, Dc2, Df0, Df1, Df2⟩ := BD
      have ⟨_, Pc0, Pc1, Pc2, Pf0, Pf1, Pf2⟩ := BP
      have ⟨_, Qc0, Qc1, Qc2, Qf0, Qf1, Qf2⟩ := BQ
      have ⟨_, Rc0, Rc1, Rc2, Rf0, Rf1, Rf2⟩ := BR
      have ⟨_, Vc0, Vc1, Vc2, Vf0, Vf1, Vf2⟩ := BV
      go_upto_region 19 with fail
      clear Ac0 Ac1 Ac2 Af0 Af1 Af2 Bc0 Bc1 Bc2 Bf0 Bf1 Bf2 Dc0 Dc1 Dc2 Df0 Df1 Df2 Pc0 Pc1 Pc2 Pf0 Pf1 Pf2 Qc0 Qc1 Qc2 Qf0 Qf1 Qf2 Rc0 Rc1 Rc2 Rf0 Rf1 Rf2 Vc0 Vc1 Vc2 Vf0 Vf1 Vf2
      replace BV := BV.put (.int .i64 kQ) (.int .i64 nQ) (.string sQ)
      replace BA := BA.far lA (.int .i64 kQ) (.int .i64 nQ) (.string sQ)
      replace BB := BB.far lB (.int .i64 kQ) (.int .i64 nQ) (.string sQ)
      replace BD := BD.far lD (.int .i64 kQ) (.int .i64 nQ) (.string sQ)
      replace BP := BP.far lP (.int .i64 kQ) (.int .i64 nQ) (.string sQ)
      replace BQ := BQ.far lQ (.int .i64 kQ) (.int .i64 nQ) (.string sQ)
      replace BR := BR.far lR (.int .i64 kQ) (.int .i64 nQ) (.string sQ)
      replace hA : Below w.heap.size w (((W25.setCell ⟨W23.heap.size, 0, none⟩ (.int .i64 kQ)).setCell ⟨W23.heap.size, 1, none⟩ (.int .i64 nQ)).setCell ⟨W23.heap.size, 2, none⟩ (.string sQ)) := below_set3 hA hwV
      simp only [set3] at BA BB BD BP BQ BR BV
      generalize ((W25.setCell ⟨W23.heap.size, 0, none⟩ (.int .i64 kQ)).setCell ⟨W23.heap.size, 1, none⟩ (.int .i64 nQ)).setCell ⟨W23.heap.size, 2, none⟩ (.string sQ) = W26 at *
      have mA := BA.lt
      have mB := BB.lt
      have mD := BD.lt
      have mP := BP.lt
      have mQ := BQ.lt
      have mR := BR.lt
      have mV := BV.lt
      have ⟨_, Ac0, Ac1, Ac2, Af0, Af1, Af2⟩ := BA
      have ⟨_, Bc0, Bc1, Bc2, Bf0, Bf1, Bf2⟩ := BB
      have ⟨_, Dc0, Dc1, Dc2, Df0, Df1, Df2⟩ := BD
      have ⟨_, Pc0, Pc1, Pc2, Pf0, Pf1, Pf2⟩ := BP
      have ⟨_, Qc0, Qc1, Qc2, Qf0, Qf1, Qf2⟩ := BQ
      have ⟨_, Rc0, Rc1, Rc2, Rf0, Rf1, Rf2⟩ := BR
      have ⟨_, Vc0, Vc1, Vc2, Vf0, Vf1, Vf2⟩ := BV
      go_upto_region 20 with fail
      clear Ac0 Ac1 Ac2 Af0 Af1 Af2 Bc0 Bc1 Bc2 Bf0 Bf1 Bf2 Dc0 Dc1 Dc2 Df0 Df1 Df2 Pc0 Pc1 Pc2 Pf0 Pf1 Pf2 Qc0 Qc1 Qc2 Qf0 Qf1 Qf2 Rc0 Rc1 Rc2 Rf0 Rf1 Rf2 Vc0 Vc1 Vc2 Vf0 Vf1 Vf2
      have hA1 := hA
      have hb : Below W26.heap.size W26 (W26.alloc (.cells #[.int .i64 kQ, .int .i64 nQ, .string sQ] 24)) := (Below.refl _ _).alloc (Nat.le_refl _) _
      replace BA := BA.next hb
      replace BB := BB.next hb
      replace BD := BD.next hb
      replace BP := BP.next hb
      replace BQ := BQ.next hb
      replace BR := BR.next hb
      replace BV := BV.next hb
      replace hA := chain hA hb
      have BU := Box.new W26 (.int .i64 kQ) (.int .i64 nQ) (.string sQ) 24
      have zz : (W26.alloc (.cells #[.int .i64 kQ, .int .i64 nQ, .string sQ] 24)).heap.size = W26.heap.size + 1 := by simp
      generalize W26.alloc (.cells #[.int .i64 kQ, .int .i64 nQ, .string sQ] 24) = W27 at *
      have zprev : W27.heap.size = W26.heap.size + 1 := zz
      clear zz hb
      clear zprev
      have ⟨_, Ac0, Ac1, Ac2, Af0, Af1, Af2⟩ := BA
      have ⟨_, Bc0, Bc1, Bc2, Bf0, Bf1, Bf2⟩ := BB
      have ⟨_, Dc0, Dc1, Dc2, Df0, Df1, Df2⟩ := BD
      have ⟨_, Pc0, Pc1, Pc2, Pf0, Pf1, Pf2⟩ := BP
      have ⟨_, Qc0, Qc1, Qc2, Qf0, Qf1, Qf2⟩ := BQ
      have ⟨_, Rc0, Rc1, Rc2, Rf0, Rf1, Rf2⟩ := BR
      have ⟨_, Vc0, Vc1, Vc2, Vf0, Vf1, Vf2⟩ := BV
      have ⟨_, Uc0, Uc1, Uc2, Uf0, Uf1, Uf2⟩ := BU
      go_upto_region 22 with fail
      clear Ac0 Ac1 Ac2 Af0 Af1 Af2 Bc0 Bc1 Bc2 Bf0 Bf1 Bf2 Dc0 Dc1 Dc2 Df0 Df1 Df2 Pc0 Pc1 Pc2 Pf0 Pf1 Pf2 Qc0 Qc1 Qc2 Qf0 Qf1 Qf2 Rc0 Rc1 Rc2 Rf0 Rf1 Rf2 Vc0 Vc1 Vc2 Vf0 Vf1 Vf2 Uc0 Uc1 Uc2 Uf0 Uf1 Uf2
      replace BU := BU.put (.int .i64 kR) (.int .i64 nR) (.string sR)
      replace BA := BA.far mA (.int .i64 kR) (.int .i64 nR) (.string sR)
      replace BB := BB.far mB (.int .i64 kR) (.int .i64 nR) (.string sR)
      replace BD := BD.far mD (.int .i64 kR) (.int .i64 nR) (.string sR)
      replace BP := BP.far mP (.int .i64 kR) (.int .i64 nR) (.string sR)
      replace BQ := BQ.far mQ (.int .i64 kR) (.int .i64 nR) (.string sR)
      replace BR := BR.far mR (.int .i64 kR) (.int .i64 nR) (.string sR)
      replace BV := BV.far mV (.int .i64 kR) (.int .i64 nR) (.string sR)
      replace hA : Below w.heap.size w (((W27.setCell ⟨W26.heap.size, 0, none⟩ (.int .i64 kR)).setCell ⟨W26.heap.size, 1, none⟩ (.int .i64 nR)).setCell ⟨W26.heap.size, 2, none⟩ (.string sR)) := below_set3 hA hA1.size
      simp only [set3] at BA BB BD BP BQ BR BV BU
      generalize ((W27.setCell ⟨W26.heap.size, 0, none⟩ (.int .i64 kR)).setCell ⟨W26.heap.size, 1, none⟩ (.int .i64 nR)).setCell ⟨W26.heap.size, 2, none⟩ (.string sR) = W28 at *
      have ⟨_, Ac0, Ac1, Ac2, Af0, Af1, Af2⟩ := BA
      have ⟨_, Bc0, Bc1, Bc2, Bf0, Bf1, Bf2⟩ := BB
      have ⟨_, Dc0, Dc1, Dc2, Df0, Df1, Df2⟩ := BD
      have ⟨_, Pc0, Pc1, Pc2, Pf0, Pf1, Pf2⟩ := BP
      have ⟨_, Qc0, Qc1, Qc2, Qf0, Qf1, Qf2⟩ := BQ
      have ⟨_, Rc0, Rc1, Rc2, Rf0, Rf1, Rf2⟩ := BR
      have ⟨_, Vc0, Vc1, Vc2, Vf0, Vf1, Vf2⟩ := BV
      have ⟨_, Uc0, Uc1, Uc2, Uf0, Uf1, Uf2⟩ := BU
      go_wp2_with fail
      go_ret
      exact ⟨rfl, hA⟩
    case neg =>
      rw [if_neg hk] at f6 f7
      have nk : (kQ == 1) = false := by simpa using hk
      simp only [Prod.mk.injEq] at f6 f7
      obtain ⟨ea, eb, ec⟩ := f6
      replace ea := ea.symm
      replace eb := eb.symm
      replace ec := ec.symm
      subst ea eb ec
      obtain ⟨ea, eb, ec⟩ := f7
      replace ea := ea.symm
      replace eb := eb.symm
      replace ec := ec.symm
      subst ea eb ec
      rw [hq]
      have ⟨_, Ac0, Ac1, Ac2, Af0, Af1, Af2⟩ := BA
      have ⟨_, Bc0, Bc1, Bc2, Bf0, Bf1, Bf2⟩ := BB
      have ⟨_, Dc0, Dc1, Dc2, Df0, Df1, Df2⟩ := BD
      have ⟨_, Pc0, Pc1, Pc2, Pf0, Pf1, Pf2⟩ := BP
      have ⟨_, Qc0, Qc1, Qc2, Qf0, Qf1, Qf2⟩ := BQ
      have ⟨_, Rc0, Rc1, Rc2, Rf0, Rf1, Rf2⟩ := BR
      have ⟨_, Vc0, Vc1, Vc2, Vf0, Vf1, Vf2⟩ := BV
      go_upto_region 19 with fail
      clear Ac0 Ac1 Ac2 Af0 Af1 Af2 Bc0 Bc1 Bc2 Bf0 Bf1 Bf2 Dc0 Dc1 Dc2 Df0 Df1 Df2 Pc0 Pc1 Pc2 Pf0 Pf1 Pf2 Qc0 Qc1 Qc2 Qf0 Qf1 Qf2 Rc0 Rc1 Rc2 Rf0 Rf1 Rf2 Vc0 Vc1 Vc2 Vf0 Vf1 Vf2
      replace BV := BV.put (.int .i64 kQ) (.int .i64 nQ) (.string sQ)
      replace BA := BA.far lA (.int .i64 kQ) (.int .i64 nQ) (.string sQ)
      replace BB := BB.far lB (.int .i64 kQ) (.int .i64 nQ) (.string sQ)
      replace BD := BD.far lD (.int .i64 kQ) (.int .i64 nQ) (.string sQ)
      replace BP := BP.far lP (.int .i64 kQ) (.int .i64 nQ) (.string sQ)
      replace BQ := BQ.far lQ (.int .i64 kQ) (.int .i64 nQ) (.string sQ)
      replace BR := BR.far lR (.int .i64 kQ) (.int .i64 nQ) (.string sQ)
      replace hA : Below w.heap.size w (((W25.setCell ⟨W23.heap.size, 0, none⟩ (.int .i64 kQ)).setCell ⟨W23.heap.size, 1, none⟩ (.int .i64 nQ)).setCell ⟨W23.heap.size, 2, none⟩ (.string sQ)) := below_set3 hA hwV
      simp only [set3] at BA BB BD BP BQ BR BV
      generalize ((W25.setCell ⟨W23.heap.size, 0, none⟩ (.int .i64 kQ)).setCell ⟨W23.heap.size, 1, none⟩ (.int .i64 nQ)).setCell ⟨W23.heap.size, 2, none⟩ (.string sQ) = W26 at *
      have mA := BA.lt
      have mB := BB.lt
      have mD := BD.lt
      have mP := BP.lt
      have mQ := BQ.lt
      have mR := BR.lt
      have mV := BV.lt
      have ⟨_, Ac0, Ac1, Ac2, Af0, Af1, Af2⟩ := BA
      have ⟨_, Bc0, Bc1, Bc2, Bf0, Bf1, Bf2⟩ := BB
      have ⟨_, Dc0, Dc1, Dc2, Df0, Df1, Df2⟩ := BD
      have ⟨_, Pc0, Pc1, Pc2, Pf0, Pf1, Pf2⟩ := BP
      have ⟨_, Qc0, Qc1, Qc2, Qf0, Qf1, Qf2⟩ := BQ
      have ⟨_, Rc0, Rc1, Rc2, Rf0, Rf1, Rf2⟩ := BR
      have ⟨_, Vc0, Vc1, Vc2, Vf0, Vf1, Vf2⟩ := BV
      go_upto_region 20 with fail
      clear Ac0 Ac1 Ac2 Af0 Af1 Af2 Bc0 Bc1 Bc2 Bf0 Bf1 Bf2 Dc0 Dc1 Dc2 Df0 Df1 Df2 Pc0 Pc1 Pc2 Pf0 Pf1 Pf2 Qc0 Qc1 Qc2 Qf0 Qf1 Qf2 Rc0 Rc1 Rc2 Rf0 Rf1 Rf2 Vc0 Vc1 Vc2 Vf0 Vf1 Vf2
      have hA1 := hA
      have hb : Below W26.heap.size W26 (W26.alloc (.cells #[.int .i64 kQ, .int .i64 nQ, .string sQ] 24)) := (Below.refl _ _).alloc (Nat.le_refl _) _
      replace BA := BA.next hb
      replace BB := BB.next hb
      replace BD := BD.next hb
      replace BP := BP.next hb
      replace BQ := BQ.next hb
      replace BR := BR.next hb
      replace BV := BV.next hb
      replace hA := chain hA hb
      have BU := Box.new W26 (.int .i64 kQ) (.int .i64 nQ) (.string sQ) 24
      have zz : (W26.alloc (.cells #[.int .i64 kQ, .int .i64 nQ, .string sQ] 24)).heap.size = W26.heap.size + 1 := by simp
      generalize W26.alloc (.cells #[.int .i64 kQ, .int .i64 nQ, .string sQ] 24) = W27 at *
      have zprev : W27.heap.size = W26.heap.size + 1 := zz
      clear zz hb
      clear zprev
      have ⟨_, Ac0, Ac1, Ac2, Af0, Af1, Af2⟩ := BA
      have ⟨_, Bc0, Bc1, Bc2, Bf0, Bf1, Bf2⟩ := BB
      have ⟨_, Dc0, Dc1, Dc2, Df0, Df1, Df2⟩ := BD
      have ⟨_, Pc0, Pc1, Pc2, Pf0, Pf1, Pf2⟩ := BP
      have ⟨_, Qc0, Qc1, Qc2, Qf0, Qf1, Qf2⟩ := BQ
      have ⟨_, Rc0, Rc1, Rc2, Rf0, Rf1, Rf2⟩ := BR
      have ⟨_, Vc0, Vc1, Vc2, Vf0, Vf1, Vf2⟩ := BV
      have ⟨_, Uc0, Uc1, Uc2, Uf0, Uf1, Uf2⟩ := BU
      go_upto_region 22 with fail
      clear Ac0 Ac1 Ac2 Af0 Af1 Af2 Bc0 Bc1 Bc2 Bf0 Bf1 Bf2 Dc0 Dc1 Dc2 Df0 Df1 Df2 Pc0 Pc1 Pc2 Pf0 Pf1 Pf2 Qc0 Qc1 Qc2 Qf0 Qf1 Qf2 Rc0 Rc1 Rc2 Rf0 Rf1 Rf2 Vc0 Vc1 Vc2 Vf0 Vf1 Vf2 Uc0 Uc1 Uc2 Uf0 Uf1 Uf2
      have ⟨_, Ac0, Ac1, Ac2, Af0, Af1, Af2⟩ := BA
      have ⟨_, Bc0, Bc1, Bc2, Bf0, Bf1, Bf2⟩ := BB
      have ⟨_, Dc0, Dc1, Dc2, Df0, Df1, Df2⟩ := BD
      have ⟨_, Pc0, Pc1, Pc2, Pf0, Pf1, Pf2⟩ := BP
      have ⟨_, Qc0, Qc1, Qc2, Qf0, Qf1, Qf2⟩ := BQ
      have ⟨_, Rc0, Rc1, Rc2, Rf0, Rf1, Rf2⟩ := BR
      have ⟨_, Vc0, Vc1, Vc2, Vf0, Vf1, Vf2⟩ := BV
      have ⟨_, Uc0, Uc1, Uc2, Uf0, Uf1, Uf2⟩ := BU
      go_wp2_with fail
      go_ret
      exact ⟨rfl, hA⟩
  case neg =>
    rw [if_neg hq] at f5
    simp only [Prod.mk.injEq] at f5
    obtain ⟨ea, eb, ec⟩ := f5
    replace ea := ea.symm
    replace eb := eb.symm
    replace ec := ec.symm
    subst ea eb ec
    replace hq := Bool.eq_false_iff.mpr hq
    by_cases hk : kQ = 1
    case pos =>
      rw [if_pos hk] at f6 f7
      simp only [Prod.mk.injEq] at f6 f7
      obtain ⟨ea, eb, ec⟩ := f6
      replace ea := ea.symm
      replace eb := eb.symm
      replace ec := ec.symm
      subst ea eb ec
      obtain ⟨ea, eb, ec⟩ := f7
      replace ea := ea.symm
      replace eb := eb.symm
      replace ec := ec.symm
      subst ea eb ec
      have nk : (kQ == 1) = true := by simpa using hk
      clear hk
      rw [hq]
      have ⟨_, Ac0, Ac1, Ac2, Af0, Af1, Af2⟩ := BA
      have ⟨_, Bc0, Bc1, Bc2, Bf0, Bf1, Bf2⟩ := BB
      have ⟨_, Dc0, Dc1, Dc2, Df0, Df1, Df2⟩ := BD
      have ⟨_, Pc0, Pc1, Pc2, Pf0, Pf1, Pf2⟩ := BP
      have ⟨_, Qc0, Qc1, Qc2, Qf0, Qf1, Qf2⟩ := BQ
      have ⟨_, Rc0, Rc1, Rc2, Rf0, Rf1, Rf2⟩ := BR
      have ⟨_, Vc0, Vc1, Vc2, Vf0, Vf1, Vf2⟩ := BV
      go_upto_region 19 with fail
      clear Ac0 Ac1 Ac2 Af0 Af1 Af2 Bc0 Bc1 Bc2 Bf0 Bf1 Bf2 Dc0 Dc1 Dc2 Df0 Df1 Df2 Pc0 Pc1 Pc2 Pf0 Pf1 Pf2 Qc0 Qc1 Qc2 Qf0 Qf1 Qf2 Rc0 Rc1 Rc2 Rf0 Rf1 Rf2 Vc0 Vc1 Vc2 Vf0 Vf1 Vf2
      have mA := BA.lt
      have mB := BB.lt
      have mD := BD.lt
      have mP := BP.lt
      have mQ := BQ.lt
      have mR := BR.lt
      have mV := BV.lt
      have ⟨_, Ac0, Ac1, Ac2, Af0, Af1, Af2⟩ := BA
      have ⟨_, Bc0, Bc1, Bc2, Bf0, Bf1, Bf2⟩ := BB
      have ⟨_, Dc0, Dc1, Dc2, Df0, Df1, Df2⟩ := BD
      have ⟨_, Pc0, Pc1, Pc2, Pf0, Pf1, Pf2⟩ := BP
      have ⟨_, Qc0, Qc1, Qc2, Qf0, Qf1, Qf2⟩ := BQ
      have ⟨_, Rc0, Rc1, Rc2, Rf0, Rf1, Rf2⟩ := BR
      have ⟨_, Vc0, Vc1, Vc2, Vf0, Vf1, Vf2⟩ := BV
      go_upto_region 20 with fail
      clear Ac0 Ac1 Ac2 Af0 Af1 Af2 Bc0 Bc1 Bc2 Bf0 Bf1 Bf2 Dc0 Dc1 Dc2 Df0 Df1 Df2 Pc0 Pc1 Pc2 Pf0 Pf1 Pf2 Qc0 Qc1 Qc2 Qf0 Qf1 Qf2 Rc0 Rc1 Rc2 Rf0 Rf1 Rf2 Vc0 Vc1 Vc2 Vf0 Vf1 Vf2
      have hA1 := hA
      have hb : Below W25.heap.size W25 (W25.alloc (.cells #[.int .i64 kQ, .int .i64 nQ, .string sQ] 24)) := (Below.refl _ _).alloc (Nat.le_refl _) _
      replace BA := BA.next hb
      replace BB := BB.next hb
      replace BD := BD.next hb
      replace BP := BP.next hb
      replace BQ := BQ.next hb
      replace BR := BR.next hb
      replace BV := BV.next hb
      replace hA := chain hA hb
      have BU := Box.new W25 (.int .i64 kQ) (.int .i64 nQ) (.string sQ) 24
      have zz : (W25.alloc (.cells #[.int .i64 kQ, .int .i64 nQ, .string sQ] 24)).heap.size = W25.heap.size + 1 := by simp
      generalize W25.alloc (.cells #[.int .i64 kQ, .int .i64 nQ, .string sQ] 24) = W26 at *
      have zprev : W26.heap.size = W25.heap.size + 1 := zz
      clear zz hb
      clear zprev
      have ⟨_, Ac0, Ac1, Ac2, Af0, Af1, Af2⟩ := BA
      have ⟨_, Bc0, Bc1, Bc2, Bf0, Bf1, Bf2⟩ := BB
      have ⟨_, Dc0, Dc1, Dc2, Df0, Df1, Df2⟩ := BD
      have ⟨_, Pc0, Pc1, Pc2, Pf0, Pf1, Pf2⟩ := BP
      have ⟨_, Qc0, Qc1, Qc2, Qf0, Qf1, Qf2⟩ := BQ
      have ⟨_, Rc0, Rc1, Rc2, Rf0, Rf1, Rf2⟩ := BR
      have ⟨_, Vc0, Vc1, Vc2, Vf0, Vf1, Vf2⟩ := BV
      have ⟨_, Uc0, Uc1, Uc2, Uf0, Uf1, Uf2⟩ := BU
      go_upto_region 22 with fail
      clear Ac0 Ac1 Ac2 Af0 Af1 Af2 Bc0 Bc1 Bc2 Bf0 Bf1 Bf2 Dc0 Dc1 Dc2 Df0 Df1 Df2 Pc0 Pc1 Pc2 Pf0 Pf1 Pf2 Qc0 Qc1 Qc2 Qf0 Qf1 Qf2 Rc0 Rc1 Rc2 Rf0 Rf1 Rf2 Vc0 Vc1 Vc2 Vf0 Vf1 Vf2 Uc0 Uc1 Uc2 Uf0 Uf1 Uf2
      replace BU := BU.put (.int .i64 kR) (.int .i64 nR) (.string sR)
      replace BA := BA.far mA (.int .i64 kR) (.int .i64 nR) (.string sR)
      replace BB := BB.far mB (.int .i64 kR) (.int .i64 nR) (.string sR)
      replace BD := BD.far mD (.int .i64 kR) (.int .i64 nR) (.string sR)
      replace BP := BP.far mP (.int .i64 kR) (.int .i64 nR) (.string sR)
      replace BQ := BQ.far mQ (.int .i64 kR) (.int .i64 nR) (.string sR)
      replace BR := BR.far mR (.int .i64 kR) (.int .i64 nR) (.string sR)
      replace BV := BV.far mV (.int .i64 kR) (.int .i64 nR) (.string sR)
      replace hA : Below w.heap.size w (((W26.setCell ⟨W25.heap.size, 0, none⟩ (.int .i64 kR)).setCell ⟨W25.heap.size, 1, none⟩ (.int .i64 nR)).setCell ⟨W25.heap.size, 2, none⟩ (.string sR)) := below_set3 hA hA1.size
      simp only [set3] at BA BB BD BP BQ BR BV BU
      generalize ((W26.setCell ⟨W25.heap.size, 0, none⟩ (.int .i64 kR)).setCell ⟨W25.heap.size, 1, none⟩ (.int .i64 nR)).setCell ⟨W25.heap.size, 2, none⟩ (.string sR) = W27 at *
      have ⟨_, Ac0, Ac1, Ac2, Af0, Af1, Af2⟩ := BA
      have ⟨_, Bc0, Bc1, Bc2, Bf0, Bf1, Bf2⟩ := BB
      have ⟨_, Dc0, Dc1, Dc2, Df0, Df1, Df2⟩ := BD
      have ⟨_, Pc0, Pc1, Pc2, Pf0, Pf1, Pf2⟩ := BP
      have ⟨_, Qc0, Qc1, Qc2, Qf0, Qf1, Qf2⟩ := BQ
      have ⟨_, Rc0, Rc1, Rc2, Rf0, Rf1, Rf2⟩ := BR
      have ⟨_, Vc0, Vc1, Vc2, Vf0, Vf1, Vf2⟩ := BV
      have ⟨_, Uc0, Uc1, Uc2, Uf0, Uf1, Uf2⟩ := BU
      go_wp2_with fail
      go_ret
      exact ⟨rfl, hA⟩
    case neg =>
      rw [if_neg hk] at f6 f7
      have nk : (kQ == 1) = false := by simpa using hk
      simp only [Prod.mk.injEq] at f6 f7
      obtain ⟨ea, eb, ec⟩ := f6
      replace ea := ea.symm
      replace eb := eb.symm
      replace ec := ec.symm
      subst ea eb ec
      obtain ⟨ea, eb, ec⟩ := f7
      replace ea := ea.symm
      replace eb := eb.symm
      replace ec := ec.symm
      subst ea eb ec
      rw [hq]
      have ⟨_, Ac0, Ac1, Ac2, Af0, Af1, Af2⟩ := BA
      have ⟨_, Bc0, Bc1, Bc2, Bf0, Bf1, Bf2⟩ := BB
      have ⟨_, Dc0, Dc1, Dc2, Df0, Df1, Df2⟩ := BD
      have ⟨_, Pc0, Pc1, Pc2, Pf0, Pf1, Pf2⟩ := BP
      have ⟨_, Qc0, Qc1, Qc2, Qf0, Qf1, Qf2⟩ := BQ
      have ⟨_, Rc0, Rc1, Rc2, Rf0, Rf1, Rf2⟩ := BR
      have ⟨_, Vc0, Vc1, Vc2, Vf0, Vf1, Vf2⟩ := BV
      go_upto_region 19 with fail
      clear Ac0 Ac1 Ac2 Af0 Af1 Af2 Bc0 Bc1 Bc2 Bf0 Bf1 Bf2 Dc0 Dc1 Dc2 Df0 Df1 Df2 Pc0 Pc1 Pc2 Pf0 Pf1 Pf2 Qc0 Qc1 Qc2 Qf0 Qf1 Qf2 Rc0 Rc1 Rc2 Rf0 Rf1 Rf2 Vc0 Vc1 Vc2 Vf0 Vf1 Vf2
      have mA := BA.lt
      have mB := BB.lt
      have mD := BD.lt
      have mP := BP.lt
      have mQ := BQ.lt
      have mR := BR.lt
      have mV := BV.lt
      have ⟨_, Ac0, Ac1, Ac2, Af0, Af1, Af2⟩ := BA
      have ⟨_, Bc0, Bc1, Bc2, Bf0, Bf1, Bf2⟩ := BB
      have ⟨_, Dc0, Dc1, Dc2, Df0, Df1, Df2⟩ := BD
      have ⟨_, Pc0, Pc1, Pc2, Pf0, Pf1, Pf2⟩ := BP
      have ⟨_, Qc0, Qc1, Qc2, Qf0, Qf1, Qf2⟩ := BQ
      have ⟨_, Rc0, Rc1, Rc2, Rf0, Rf1, Rf2⟩ := BR
      have ⟨_, Vc0, Vc1, Vc2, Vf0, Vf1, Vf2⟩ := BV
      go_upto_region 20 with fail
      clear Ac0 Ac1 Ac2 Af0 Af1 Af2 Bc0 Bc1 Bc2 Bf0 Bf1 Bf2 Dc0 Dc1 Dc2 Df0 Df1 Df2 Pc0 Pc1 Pc2 Pf0 Pf1 Pf2 Qc0 Qc1 Qc2 Qf0 Qf1 Qf2 Rc0 Rc1 Rc2 Rf0 Rf1 Rf2 Vc0 Vc1 Vc2 Vf0 Vf1 Vf2
      have hA1 := hA
      have hb : Below W25.heap.size W25 (W25.alloc (.cells #[.int .i64 kQ, .int .i64 nQ, .string sQ] 24)) := (Below.refl _ _).alloc (Nat.le_refl _) _
      replace BA := BA.next hb
      replace BB := BB.next hb
      replace BD := BD.next hb
      replace BP := BP.next hb
      replace BQ := BQ.next hb
      replace BR := BR.next hb
      replace BV := BV.next hb
      replace hA := chain hA hb
      have BU := Box.new W25 (.int .i64 kQ) (.int .i64 nQ) (.string sQ) 24
      have zz : (W25.alloc (.cells #[.int .i64 kQ, .int .i64 nQ, .string sQ] 24)).heap.size = W25.heap.size + 1 := by simp
      generalize W25.alloc (.cells #[.int .i64 kQ, .int .i64 nQ, .string sQ] 24) = W26 at *
      have zprev : W26.heap.size = W25.heap.size + 1 := zz
      clear zz hb
      clear zprev
      have ⟨_, Ac0, Ac1, Ac2, Af0, Af1, Af2⟩ := BA
      have ⟨_, Bc0, Bc1, Bc2, Bf0, Bf1, Bf2⟩ := BB
      have ⟨_, Dc0, Dc1, Dc2, Df0, Df1, Df2⟩ := BD
      have ⟨_, Pc0, Pc1, Pc2, Pf0, Pf1, Pf2⟩ := BP
      have ⟨_, Qc0, Qc1, Qc2, Qf0, Qf1, Qf2⟩ := BQ
      have ⟨_, Rc0, Rc1, Rc2, Rf0, Rf1, Rf2⟩ := BR
      have ⟨_, Vc0, Vc1, Vc2, Vf0, Vf1, Vf2⟩ := BV
      have ⟨_, Uc0, Uc1, Uc2, Uf0, Uf1, Uf2⟩ := BU
      go_upto_region 22 with fail
      clear Ac0 Ac1 Ac2 Af0 Af1 Af2 Bc0 Bc1 Bc2 Bf0 Bf1 Bf2 Dc0 Dc1 Dc2 Df0 Df1 Df2 Pc0 Pc1 Pc2 Pf0 Pf1 Pf2 Qc0 Qc1 Qc2 Qf0 Qf1 Qf2 Rc0 Rc1 Rc2 Rf0 Rf1 Rf2 Vc0 Vc1 Vc2 Vf0 Vf1 Vf2 Uc0 Uc1 Uc2 Uf0 Uf1 Uf2
      have ⟨_, Ac0, Ac1, Ac2, Af0, Af1, Af2⟩ := BA
      have ⟨_, Bc0, Bc1, Bc2, Bf0, Bf1, Bf2⟩ := BB
      have ⟨_, Dc0, Dc1, Dc2, Df0, Df1, Df2⟩ := BD
      have ⟨_, Pc0, Pc1, Pc2, Pf0, Pf1, Pf2⟩ := BP
      have ⟨_, Qc0, Qc1, Qc2, Qf0, Qf1, Qf2⟩ := BQ
      have ⟨_, Rc0, Rc1, Rc2, Rf0, Rf1, Rf2⟩ := BR
      have ⟨_, Vc0, Vc1, Vc2, Vf0, Vf1, Vf2⟩ := BV
      have ⟨_, Uc0, Uc1, Uc2, Uf0, Uf1, Uf2⟩ := BU
      go_wp2_with fail
      go_ret
      exact ⟨rfl, hA⟩
end Go.Proofs.Ytbdhmjojamoafaa
