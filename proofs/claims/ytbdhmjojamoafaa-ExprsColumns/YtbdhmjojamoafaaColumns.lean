/- The walk of tidelaw3.ExprsColumns. -/
import Derived.Test.YtbdhmjojamoafaaYF
import Derived.Test.YtbdhmjojamoafaaYG
import Derived.Deep.Cut
namespace Go.Proofs.Ytbdhmjojamoafaa
open Go.RowKit

set_option maxHeartbeats 4000000 in
theorem columns_walk (ca : Option Addr) (ccap : Nat) (cols : List Int) (ux : Value) (x : Ex) (ra : Option Addr) (rcap : Nat) (row : List Vl) (k : Int) (v : Vl) (w : World) (hc : IsAt w.heap.size w ca cols) (hxx : XV w ux x) (hs : SlAt w ra row) :
    Calls Try.prog 6 #[.slice ca cols.length ccap, ux, .slice ra row.length rcap, .int .i64 k, agV v] w fun e w' => e = .returned (.bool true) ∧ Below w.heap.size w w' := by
  have F := columns_fact cols x row k v
  have HF : Hid _ := F
  clear F
  have G : (evalX cols x row).2 = 0 → Good cols x (typeTop cols x).1 ∧ FitP cols row := fun h => ⟨(evalX_ok h).1, (evalX_ok h).2.1⟩
  have HG : Hid _ := G
  clear G
  obtain ⟨ax, cx, rfl, kx⟩ := hxx
  have Kx : KX w ax x.ks := kx
  have IC : IX w ca cols := hc
  have SR := hs
  have hl := hs.1
  unfold maxLen at hl
  clear kx hc hs
  have hA : Below w.heap.size w w := Below.refl _ _
  go_enter Try.func6, Try.ntmps6
  go_wp2_with fail
  have hb : Below w.heap.size w (w.alloc (.cells #[.int .i64 x.k, .int .i64 x.v.1, .int .i64 x.v.2.1, .string x.v.2.2, .int .i64 x.c, .slice ax x.ks.length cx] 27)) := (Below.refl _ _).alloc (Nat.le_refl _) _
  replace Kx := Kx.next hb
  replace IC := IC.next hb
  replace SR := SR.next hb
  replace hA := chain hA hb
  have Sx := Six.new w x.k x.v x.c ax x.ks.length cx 27
  have qx : w.heap.size < (w.alloc (.cells #[.int .i64 x.k, .int .i64 x.v.1, .int .i64 x.v.2.1, .string x.v.2.2, .int .i64 x.c, .slice ax x.ks.length cx] 27)).heap.size := by simp
  have zz : (w.alloc (.cells #[.int .i64 x.k, .int .i64 x.v.1, .int .i64 x.v.2.1, .string x.v.2.2, .int .i64 x.c, .slice ax x.ks.length cx] 27)).heap.size = w.heap.size + 1 := by simp
  generalize w.alloc (.cells #[.int .i64 x.k, .int .i64 x.v.1, .int .i64 x.v.2.1, .string x.v.2.2, .int .i64 x.c, .slice ax x.ks.length cx] 27) = W1 at *
  have zprev : W1.heap.size = w.heap.size + 1 := zz
  clear zz hb
  have hb : Below W1.heap.size W1 (W1.alloc (.cells #[.int .i64 v.1, .int .i64 v.2.1, .string v.2.2] 24)) := (Below.refl _ _).alloc (Nat.le_refl _) _
  replace Sx := Sx.next hb qx
  replace qx := Nat.lt_of_lt_of_le qx hb.size
  replace Kx := Kx.next hb
  replace IC := IC.next hb
  replace SR := SR.next hb
  replace hA := chain hA hb
  have Bv := Box.new W1 (.int .i64 v.1) (.int .i64 v.2.1) (.string v.2.2) 24
  have zz : (W1.alloc (.cells #[.int .i64 v.1, .int .i64 v.2.1, .string v.2.2] 24)).heap.size = W1.heap.size + 1 := by simp
  generalize W1.alloc (.cells #[.int .i64 v.1, .int .i64 v.2.1, .string v.2.2] 24) = W2 at *
  rw [zprev] at Bv
  replace zprev : W2.heap.size = w.heap.size + 1 + 1 := by omega
  clear zz hb
  clear zprev
  refine (alive_at W2).mono ?_
  rintro e W3 ⟨rfl, hb⟩
  replace Sx := Sx.next hb qx
  replace qx := Nat.lt_of_lt_of_le qx hb.size
  replace Bv := Bv.next hb
  replace Kx := Kx.next hb
  replace IC := IC.next hb
  replace SR := SR.next hb
  replace hA := chain hA hb
  clear hb
  have ⟨x0, x1, x2, x3, x4, x5⟩ := Sx
  simp only [Nat.zero_add] at x1 x2 x3 x4 x5
  go_wp2_with fail
  clear x0 x1 x2 x3 x4 x5
  refine (eval_xv cols x row ca ccap _ ra rcap W3 IC ⟨_, _, rfl, Kx⟩ SR).mono ?_
  rintro e W4 ⟨rfl, hb⟩
  replace Sx := Sx.next hb qx
  replace qx := Nat.lt_of_lt_of_le qx hb.size
  replace Bv := Bv.next hb
  replace Kx := Kx.next hb
  replace IC := IC.next hb
  replace SR := SR.next hb
  replace hA := chain hA hb
  clear hb
  generalize hE : evalX cols x row = E at *
  have HE : Hid (evalX cols x row = E) := hE
  clear hE
  obtain ⟨⟨kA, nA, sA⟩, eA⟩ := E
  go_upto_region 4 with fail
  have hb : Below W4.heap.size W4 (W4.alloc (.cells #[.int .i64 kA, .int .i64 nA, .string sA] 24)) := (Below.refl _ _).alloc (Nat.le_refl _) _
  replace Sx := Sx.next hb qx
  replace qx := Nat.lt_of_lt_of_le qx hb.size
  replace Bv := Bv.next hb
  replace Kx := Kx.next hb
  replace IC := IC.next hb
  replace SR := SR.next hb
  replace hA := chain hA hb
  have BA := Box.new W4 (.int .i64 kA) (.int .i64 nA) (.string sA) 24
  have zz : (W4.alloc (.cells #[.int .i64 kA, .int .i64 nA, .string sA] 24)).heap.size = W4.heap.size + 1 := by simp
  generalize W4.alloc (.cells #[.int .i64 kA, .int .i64 nA, .string sA] 24) = W5 at *
  have zprev : W5.heap.size = W4.heap.size + 1 := zz
  clear zz hb
  clear zprev
  by_cases hE1 : eA = 0
  case neg =>
    have qE : (eA != 0) = true := by simpa using hE1
    go_wp2_with fail
    go_ret
    exact ⟨rfl, hA⟩
  subst hE1
  obtain ⟨good, fit⟩ := HG.out rfl
  have hg16 := good.few
  have hlen := fit.len
  have h16 : row.length ≤ 16 := by omega
  clear HG hlen hg16
  by_cases hk0 : k < 0
  case pos =>
    go_wp2_with fail
    go_ret
    exact ⟨rfl, hA⟩
  by_cases hkl : (row.length : Int) ≤ k
  case pos =>
    go_wp2_with fail
    go_ret
    exact ⟨rfl, hA⟩
  obtain ⟨j, rfl⟩ : ∃ j : Nat, k = j := ⟨k.toNat, by omega⟩
  have hj : j < row.length := by omega
  have HF' : Hid _ := HF
  clear HF
  have ⟨x0, x1, x2, x3, x4, x5⟩ := Sx
  simp only [Nat.zero_add] at x1 x2 x3 x4 x5
  go_wp2_with fail
  clear x0 x1 x2 x3 x4 x5
  refine (uses_any (cols := cols) (j : Int) x _ good.ty W5.heap.size ax cx W5 Kx (Nat.le_refl _)).mono ?_
  rintro e W6 ⟨rfl, hb⟩
  replace Sx := Sx.next hb qx
  replace qx := Nat.lt_of_lt_of_le qx hb.size
  replace Bv := Bv.next hb
  replace BA := BA.next hb
  replace Kx := Kx.next hb
  replace IC := IC.next hb
  replace SR := SR.next hb
  replace hA := chain hA hb
  clear hb
  generalize hU : usesX (j : Int) x = U at *
  have HU : Hid (usesX (j : Int) x = U) := hU
  clear hU
  cases U
  case true =>
    go_wp2_with fail
    go_ret
    exact ⟨rfl, hA⟩
  obtain ⟨i0, hi, hj0, hj1, hj2⟩ := info_parts info24
  have SR0 := SR
  obtain ⟨rb0, ro0, rfl, hrb0, -, -, -⟩ := SR.elem hj
  have hrow : Row W6 rb0 ro0 row := by
    obtain ⟨_, h | ⟨b, off, e, hr, _⟩⟩ := SR0
    · subst h; simp at hj
    · simp only [Option.some.injEq, Addr.mk.injEq, and_true] at e
      obtain ⟨rfl, rfl⟩ := e
      exact hr
  have hnews : ∀ (n : Nat) (u : Value), (rowCells row)[n]? = some u → (W6.alloc (.cells #[] 24)).cell? ((⟨rb0, ro0, none⟩ : Addr).add n) = some u := by
    intro n u hu
    have e : (⟨rb0, ro0, none⟩ : Addr).add n = ⟨rb0, ro0 + n, none⟩ := by
      unfold Addr.add
      by_cases h : n = 0 <;> simp [h]
    have q := rowCells_at W6 rb0 ro0 row n u hrow hu
    rw [e, World.cell?_alloc_lt _ _ _ (World.block_lt_of_cell? _ _ q)]
    exact q
  clear hrow SR0
  go_wp2_with (at_builtin; refine wpList_append_own _ rfl (.tmp 41) (.tmp 42) 28 rfl W6.heap.size 24 i0 _ 3 32 Try.underlying28 hi hj0 hj1 hj2 rfl (by decide) _ _ _ rfl (World.ownsRow_made W6 #[] 0 (Nat.le_refl _) (Nat.zero_le _) (by simp)) ⟨rb0, ro0, none⟩ row.length rcap (rowCells row) rfl (rowCells_len row) hnews (rowCells_one row) (by unfold maxLen; omega) (by omega) (by simp) ?_)
  intro v' w7 ho hg _
  have hb : Below W6.heap.size W6 w7 := ((Below.refl _ _).alloc (Nat.le_refl _) _).grown hg (by simp) (by simp [Value.ownBlock])

  obtain ⟨g, cg, rfl, hgb, hgl⟩ := own3_some ho (by omega)
  have O := Own3.of ho rfl hgl
  obtain ⟨o0, o1, o2⟩ := O.c j hj
  have p0 := O.f (j * 3)
  have p1 := O.f (j * 3 + 1)
  have p2 := O.f (j * 3 + 2)
  have O2 := O.set j hj v
  have ⟨_, vc0, vc1, vc2, _, _, _⟩ := Bv.next hb
  have hb8 := below_row (k := j) (x := .int .i64 v.1) (y := .int .i64 v.2.1) (z := .string v.2.2) hb hgb
  clear ho hg hnews O
  go_upto_region 8 with fail
  clear o0 o1 o2 p0 p1 p2 vc0 vc1 vc2
  replace Sx := Sx.next hb8 qx
  replace qx := Nat.lt_of_lt_of_le qx hb8.size
  replace Bv := Bv.next hb8
  replace BA := BA.next hb8
  replace Kx := Kx.next hb8
  replace IC := IC.next hb8
  replace SR := SR.next hb8
  replace hA := chain hA hb8
  clear hb8
  have SQ := O2.sl (by rw [List.length_set]; unfold maxLen; omega)
  clear O2
  generalize ((w7.setCell ⟨g, j * 3, none⟩ (.int .i64 v.1)).setCell ⟨g, j * 3 + 1, none⟩ (.int .i64 v.2.1)).setCell ⟨g, j * 3 + 2, none⟩ (.string v.2.2) = W7 at *
  have con := fits_at cols (row.set j v) ca ccap (some ⟨g, 0, none⟩) cg W7 IC SQ
  rw [List.length_set] at con
  go_wp2_with fail
  refine (con).mono ?_
  rintro e W8 ⟨rfl, hb⟩
  replace Sx := Sx.next hb qx
  replace qx := Nat.lt_of_lt_of_le qx hb.size
  replace Bv := Bv.next hb
  replace BA := BA.next hb
  replace Kx := Kx.next hb
  replace IC := IC.next hb
  replace SR := SR.next hb
  replace SQ := SQ.next hb
  replace hA := chain hA hb
  clear hb
  clear con
  by_cases hf : fitsL cols (row.set j v) = 0
  case neg =>
    have qf : (fitsL cols (row.set j v) != 0) = true := by simpa using hf
    go_wp2_with fail
    go_ret
    exact ⟨rfl, hA⟩
  rw [hf]
  have eE : evalX cols x (row.set j v) = ((kA, nA, sA), 0) := by
    have := HF'.out (by first | trivial | rfl) (by first | trivial | omega) (by first | trivial | rfl) (by simpa using hf)
    simpa using this
  have con := eval_xv cols x (row.set j v) ca ccap _ (some ⟨g, 0, none⟩) cg W8 IC ⟨_, cx, rfl, Kx⟩ SQ
  rw [List.length_set] at con
  rw [eE] at con
  clear eE
  clear HF' hf
  have ⟨x0, x1, x2, x3, x4, x5⟩ := Sx
  simp only [Nat.zero_add] at x1 x2 x3 x4 x5
  go_wp2_with fail
  clear x0 x1 x2 x3 x4 x5
  refine (con).mono ?_
  rintro e W9 ⟨rfl, hb⟩
  replace Sx := Sx.next hb qx
  replace qx := Nat.lt_of_lt_of_le qx hb.size
  replace Bv := Bv.next hb
  replace BA := BA.next hb
  replace Kx := Kx.next hb
  replace IC := IC.next hb
  replace SR := SR.next hb
  replace SQ := SQ.next hb
  replace hA := chain hA hb
  clear hb
  clear con
  go_upto_region 11 with fail
  clear Kx IC SR SQ Sx qx
  have hb : Below W9.heap.size W9 (W9.alloc (.cells #[.int .i64 kA, .int .i64 nA, .string sA] 24)) := (Below.refl _ _).alloc (Nat.le_refl _) _
  replace Bv := Bv.next hb
  replace BA := BA.next hb
  replace hA := chain hA hb
  have BR := Box.new W9 (.int .i64 kA) (.int .i64 nA) (.string sA) 24
  have zz : (W9.alloc (.cells #[.int .i64 kA, .int .i64 nA, .string sA] 24)).heap.size = W9.heap.size + 1 := by simp
  generalize W9.alloc (.cells #[.int .i64 kA, .int .i64 nA, .string sA] 24) = W10 at *
  have zprev : W10.heap.size = W9.heap.size + 1 := zz
  clear zz hb
  clear zprev
  have ⟨_, Ac0, Ac1, Ac2, Af0, Af1, Af2⟩ := BA
  have ⟨_, Rc0, Rc1, Rc2, Rf0, Rf1, Rf2⟩ := BR
  go_wp2_with fail
  go_ret
  exact ⟨rfl, hA⟩
end Go.Proofs.Ytbdhmjojamoafaa
