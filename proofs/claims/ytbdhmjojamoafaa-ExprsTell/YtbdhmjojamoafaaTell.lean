/- The walk of tidelaw3.ExprsTell. -/
import Derived.Test.YtbdhmjojamoafaaT9
import Derived.Test.YtbdhmjojamoafaaYE
import Derived.Deep.Cut
namespace Go.Proofs.Ytbdhmjojamoafaa
open Go.RowKit

theorem refEval_xv (cols : List Int) (x : Ex) (row : List Vl) (ca : Option Addr) (ccap : Nat) (u : Value) (ra : Option Addr) (rcap : Nat) (w : World) (hc : IsAt w.heap.size w ca cols) (hx : XV w u x) (hs : SlAt w ra row) :
    Calls Try.prog 14 #[.slice ca cols.length ccap, u, .slice ra row.length rcap] w fun e w' => e = .returned (.tuple #[agV (evalX cols x row).1, .int .i64 (evalX cols x row).2]) ∧ Below w.heap.size w w' := by
  obtain ⟨a, cap, rfl, hk⟩ := hx
  exact refEval_at cols x row ca ccap a cap ra rcap w hc hk hs
theorem refType_xv (cols : List Int) (x : Ex) (ca : Option Addr) (ccap : Nat) (u : Value) (w : World) (hc : IsAt w.heap.size w ca cols) (hx : XV w u x) :
    Calls Try.prog 10 #[.slice ca cols.length ccap, u] w fun e w' => e = .returned (.tuple #[.int .i64 (typeTop cols x).1, .int .i64 (typeTop cols x).2]) ∧ Below w.heap.size w w' := by
  obtain ⟨a, cap, rfl, hk⟩ := hx
  exact refType_at cols x ca ccap a cap w hk hc

set_option maxHeartbeats 4000000 in
theorem tell_walk (ca : Option Addr) (ccap : Nat) (cols : List Int) (ux : Value) (x : Ex) (ra : Option Addr) (rcap : Nat) (row : List Vl) (w : World) (hc : IsAt w.heap.size w ca cols) (hxx : XV w ux x) (hs : SlAt w ra row) :
    Calls Try.prog 3 #[.slice ca cols.length ccap, ux, .slice ra row.length rcap] w fun e w' => e = .returned (.bool true) ∧ Below w.heap.size w w' := by
  obtain ⟨ax, cx, rfl, kx⟩ := hxx
  have Kx : KX w ax x.ks := kx
  have IC : IX w ca cols := hc
  have SR := hs
  clear kx hc hs
  have hA : Below w.heap.size w w := Below.refl _ _
  go_enter Try.func3, Try.ntmps3
  go_wp2_with fail
  have hb : Below w.heap.size w (w.alloc (.cells #[.int .i64 x.k, .int .i64 x.v.1, .int .i64 x.v.2.1, .string x.v.2.2, .int .i64 x.c, .slice ax x.ks.length cx] 27)) := (Below.refl _ _).alloc (Nat.le_refl _) _
  replace Kx := Kx.next hb
  replace IC := IC.next hb
  replace SR := SR.next hb
  replace hA := chain hA hb
  have Sx := Six.new w x.k x.v x.c ax x.ks.length cx 27
  have qx : w.heap.size < (w.alloc (.cells #[.int .i64 x.k, .int .i64 x.v.1, .int .i64 x.v.2.1, .string x.v.2.2, .int .i64 x.c, .slice ax x.ks.length cx] 27)).heap.size := by simp
  have zz : (w.alloc (.cells #[.int .i64 x.k, .int .i64 x.v.1, .int .i64 x.v.2.1, .string x.v.2.2, .int .i64 x.c, .slice ax x.ks.length cx] 27)).heap.size = w.heap.size + 1 := by simp
  generalize w.alloc (.cells #[.int .i64 x.k, .int .i64 x.v.1, .int .i64 x.v.2.1, .string x.v.2.2, .int .i64 x.c, .slice ax x.ks.length cx] 27) = W1 at *
  have zprev : W1.heap.size = w.heap.size + 1 := zz
  clear zz hb
  clear zprev
  refine (type_xv cols x ca ccap _ W1 IC ⟨_, _, rfl, Kx⟩).mono ?_
  rintro e W2 ⟨rfl, hb⟩
  replace Sx := Sx.next hb qx
  replace qx := Nat.lt_of_lt_of_le qx hb.size
  replace Kx := Kx.next hb
  replace IC := IC.next hb
  replace SR := SR.next hb
  replace hA := chain hA hb
  clear hb
  have ⟨x0, x1, x2, x3, x4, x5⟩ := Sx
  simp only [Nat.zero_add] at x1 x2 x3 x4 x5
  go_wp2_with fail
  clear x0 x1 x2 x3 x4 x5
  refine (refType_xv cols x ca ccap _ W2 IC ⟨_, _, rfl, Kx⟩).mono ?_
  rintro e W3 ⟨rfl, hb⟩
  replace Sx := Sx.next hb qx
  replace qx := Nat.lt_of_lt_of_le qx hb.size
  replace Kx := Kx.next hb
  replace IC := IC.next hb
  replace SR := SR.next hb
  replace hA := chain hA hb
  clear hb
  generalize typeTop cols x = ty at *
  obtain ⟨t1, t2⟩ := ty
  go_wp2_with fail
  refine (fits_at cols row ca ccap ra rcap W3 IC SR).mono ?_
  rintro e W4 ⟨rfl, hb⟩
  replace Sx := Sx.next hb qx
  replace qx := Nat.lt_of_lt_of_le qx hb.size
  replace Kx := Kx.next hb
  replace IC := IC.next hb
  replace SR := SR.next hb
  replace hA := chain hA hb
  clear hb
  go_wp2_with fail
  refine (refFits_at cols row ca ccap ra rcap W4 IC SR).mono ?_
  rintro e W5 ⟨rfl, hb⟩
  replace Sx := Sx.next hb qx
  replace qx := Nat.lt_of_lt_of_le qx hb.size
  replace Kx := Kx.next hb
  replace IC := IC.next hb
  replace SR := SR.next hb
  replace hA := chain hA hb
  clear hb
  generalize fitsL cols row = ff at *
  have ⟨x0, x1, x2, x3, x4, x5⟩ := Sx
  simp only [Nat.zero_add] at x1 x2 x3 x4 x5
  go_wp2_with fail
  clear x0 x1 x2 x3 x4 x5
  refine (eval_xv cols x row ca ccap _ ra rcap W5 IC ⟨_, _, rfl, Kx⟩ SR).mono ?_
  rintro e W6 ⟨rfl, hb⟩
  replace Sx := Sx.next hb qx
  replace qx := Nat.lt_of_lt_of_le qx hb.size
  replace Kx := Kx.next hb
  replace IC := IC.next hb
  replace SR := SR.next hb
  replace hA := chain hA hb
  clear hb
  generalize hE : evalX cols x row = E at *
  have HE : Hid (evalX cols x row = E) := hE
  clear hE
  obtain ⟨⟨kA, nA, sA⟩, eA⟩ := E
  go_upto_region 6 with fail
  have hb : Below W6.heap.size W6 (W6.alloc (.cells #[.int .i64 kA, .int .i64 nA, .string sA] 24)) := (Below.refl _ _).alloc (Nat.le_refl _) _
  replace Sx := Sx.next hb qx
  replace qx := Nat.lt_of_lt_of_le qx hb.size
  replace Kx := Kx.next hb
  replace IC := IC.next hb
  replace SR := SR.next hb
  replace hA := chain hA hb
  have BA := Box.new W6 (.int .i64 kA) (.int .i64 nA) (.string sA) 24
  have zz : (W6.alloc (.cells #[.int .i64 kA, .int .i64 nA, .string sA] 24)).heap.size = W6.heap.size + 1 := by simp
  generalize W6.alloc (.cells #[.int .i64 kA, .int .i64 nA, .string sA] 24) = W7 at *
  have zprev : W7.heap.size = W6.heap.size + 1 := zz
  clear zz hb
  clear zprev
  have ⟨x0, x1, x2, x3, x4, x5⟩ := Sx
  simp only [Nat.zero_add] at x1 x2 x3 x4 x5
  have con := refEval_xv cols x row ca ccap _ ra rcap W7 IC ⟨_, cx, rfl, Kx⟩ SR
  rw [HE.out] at con
  go_wp2_with fail
  clear x0 x1 x2 x3 x4 x5
  refine (con).mono ?_
  rintro e W8 ⟨rfl, hb⟩
  replace Sx := Sx.next hb qx
  replace qx := Nat.lt_of_lt_of_le qx hb.size
  replace BA := BA.next hb
  replace Kx := Kx.next hb
  replace IC := IC.next hb
  replace SR := SR.next hb
  replace hA := chain hA hb
  clear hb
  clear con
  go_upto_region 7 with fail
  have hb : Below W8.heap.size W8 (W8.alloc (.cells #[.int .i64 kA, .int .i64 nA, .string sA] 24)) := (Below.refl _ _).alloc (Nat.le_refl _) _
  replace Sx := Sx.next hb qx
  replace qx := Nat.lt_of_lt_of_le qx hb.size
  replace BA := BA.next hb
  replace Kx := Kx.next hb
  replace IC := IC.next hb
  replace SR := SR.next hb
  replace hA := chain hA hb
  have BB := Box.new W8 (.int .i64 kA) (.int .i64 nA) (.string sA) 24
  have zz : (W8.alloc (.cells #[.int .i64 kA, .int .i64 nA, .string sA] 24)).heap.size = W8.heap.size + 1 := by simp
  generalize W8.alloc (.cells #[.int .i64 kA, .int .i64 nA, .string sA] 24) = W9 at *
  have zprev : W9.heap.size = W8.heap.size + 1 := zz
  clear zz hb
  clear zprev
  have ⟨_, Ac0, Ac1, Ac2, Af0, Af1, Af2⟩ := BA
  have ⟨_, Bc0, Bc1, Bc2, Bf0, Bf1, Bf2⟩ := BB
  go_wp2_with fail
  go_ret
  exact ⟨rfl, hA⟩
end Go.Proofs.Ytbdhmjojamoafaa
