/- The walk of tidelaw3.ExprsTurned. -/
import Derived.Test.YtbdhmjojamoafaaU2
import Derived.Laws.EntriesVeiled
import Derived.Deep.Cut
namespace Go.Proofs.Ytbdhmjojamoafaa
open Go.RowKit

/-- A block's first cell. -/
structure CellAt (w : World) (b : Nat) (v : Value) : Prop where
  c : w.cell? ⟨b, 0, none⟩ = some v
theorem CellAt.next {w w1 : World} {b : Nat} {v : Value} (h : CellAt w b v) (hb : Below w.heap.size w w1) : CellAt w1 b v := ⟨(hb.cell (p := ⟨b, 0, none⟩) (World.block_lt_of_cell? _ _ h.c)).trans h.c⟩

set_option maxRecDepth 100000 in
set_option maxHeartbeats 8000000 in
theorem turned_walk (ca : Option Addr) (ccap : Nat) (cols : List Int) (ux : Value) (x : Ex) (uy : Value) (y : Ex) (ra : Option Addr) (rcap : Nat) (row : List Vl) (w : World) (hc : IsAt w.heap.size w ca cols) (hxx : XV w ux x) (hxy : XV w uy y) (hs : SlAt w ra row) :
    Calls Try.prog 5 #[.slice ca cols.length ccap, ux, uy, .slice ra row.length rcap] w fun e w' => e = .returned (.bool true) ∧ Below w.heap.size w w' := by
  have F := turned_fact cols x y row
  have HF : Hid _ := F
  clear F
  obtain ⟨ax, cx, rfl, kx⟩ := hxx
  obtain ⟨ay, cy, rfl, ky⟩ := hxy
  have Kx : KX w ax x.ks := kx
  have Ky : KX w ay y.ks := ky
  have IC : IX w ca cols := hc
  have SR := hs
  clear kx ky hc hs
  have hA : Below w.heap.size w w := Below.refl _ _
  go_enter Try.func5, Try.ntmps5
  go_wp2_with fail
  have hb : Below w.heap.size w (w.alloc (.cells #[.slice ca cols.length ccap] 22)) := (Below.refl _ _).alloc (Nat.le_refl _) _
  have CC : CellAt (w.alloc (.cells #[.slice ca cols.length ccap] 22)) w.heap.size (.slice ca cols.length ccap) := ⟨by simp⟩
  replace Kx := Kx.next hb
  replace Ky := Ky.next hb
  replace IC := IC.next hb
  replace SR := SR.next hb
  replace hA := chain hA hb
  have zz : (w.alloc (.cells #[.slice ca cols.length ccap] 22)).heap.size = w.heap.size + 1 := by simp
  generalize w.alloc (.cells #[.slice ca cols.length ccap] 22) = W1 at *
  have zprev : W1.heap.size = w.heap.size + 1 := zz
  clear zz hb
  have hb : Below W1.heap.size W1 (W1.alloc (.cells #[.int .i64 x.k, .int .i64 x.v.1, .int .i64 x.v.2.1, .string x.v.2.2, .int .i64 x.c, .slice ax x.ks.length cx] 27)) := (Below.refl _ _).alloc (Nat.le_refl _) _
  replace Kx := Kx.next hb
  replace Ky := Ky.next hb
  replace IC := IC.next hb
  replace SR := SR.next hb
  replace CC := CC.next hb
  replace hA := chain hA hb
  have Sx := Six.new W1 x.k x.v x.c ax x.ks.length cx 27
  have qx : W1.heap.size < (W1.alloc (.cells #[.int .i64 x.k, .int .i64 x.v.1, .int .i64 x.v.2.1, .string x.v.2.2, .int .i64 x.c, .slice ax x.ks.length cx] 27)).heap.size := by simp
  have zz : (W1.alloc (.cells #[.int .i64 x.k, .int .i64 x.v.1, .int .i64 x.v.2.1, .string x.v.2.2, .int .i64 x.c, .slice ax x.ks.length cx] 27)).heap.size = W1.heap.size + 1 := by simp
  generalize W1.alloc (.cells #[.int .i64 x.k, .int .i64 x.v.1, .int .i64 x.v.2.1, .string x.v.2.2, .int .i64 x.c, .slice ax x.ks.length cx] 27) = W2 at *
  rw [zprev] at Sx
  rw [zprev] at qx
  replace zprev : W2.heap.size = w.heap.size + 1 + 1 := by omega
  clear zz hb
  have hb : Below W2.heap.size W2 (W2.alloc (.cells #[.int .i64 y.k, .int .i64 y.v.1, .int .i64 y.v.2.1, .string y.v.2.2, .int .i64 y.c, .slice ay y.ks.length cy] 27)) := (Below.refl _ _).alloc (Nat.le_refl _) _
  replace Sx := Sx.next hb qx
  replace qx := Nat.lt_of_lt_of_le qx hb.size
  replace Kx := Kx.next hb
  replace Ky := Ky.next hb
  replace IC := IC.next hb
  replace SR := SR.next hb
  replace CC := CC.next hb
  replace hA := chain hA hb
  have Sy := Six.new W2 y.k y.v y.c ay y.ks.length cy 27
  have qy : W2.heap.size < (W2.alloc (.cells #[.int .i64 y.k, .int .i64 y.v.1, .int .i64 y.v.2.1, .string y.v.2.2, .int .i64 y.c, .slice ay y.ks.length cy] 27)).heap.size := by simp
  have zz : (W2.alloc (.cells #[.int .i64 y.k, .int .i64 y.v.1, .int .i64 y.v.2.1, .string y.v.2.2, .int .i64 y.c, .slice ay y.ks.length cy] 27)).heap.size = W2.heap.size + 1 := by simp
  generalize W2.alloc (.cells #[.int .i64 y.k, .int .i64 y.v.1, .int .i64 y.v.2.1, .string y.v.2.2, .int .i64 y.c, .slice ay y.ks.length cy] 27) = W3 at *
  rw [zprev] at Sy
  rw [zprev] at qy
  replace zprev : W3.heap.size = w.heap.size + 1 + 1 + 1 := by omega
  clear zz hb
  have hb : Below W3.heap.size W3 (W3.alloc (.cells #[.slice ra row.length rcap] 28)) := (Below.refl _ _).alloc (Nat.le_refl _) _
  have CR : CellAt (W3.alloc (.cells #[.slice ra row.length rcap] 28)) W3.heap.size (.slice ra row.length rcap) := ⟨by simp⟩
  replace Sx := Sx.next hb qx
  replace qx := Nat.lt_of_lt_of_le qx hb.size
  replace Sy := Sy.next hb qy
  replace qy := Nat.lt_of_lt_of_le qy hb.size
  replace Kx := Kx.next hb
  replace Ky := Ky.next hb
  replace IC := IC.next hb
  replace SR := SR.next hb
  replace CC := CC.next hb
  replace hA := chain hA hb
  have zz : (W3.alloc (.cells #[.slice ra row.length rcap] 28)).heap.size = W3.heap.size + 1 := by simp
  generalize W3.alloc (.cells #[.slice ra row.length rcap] 28) = W4 at *
  rw [zprev] at CR
  replace zprev : W4.heap.size = w.heap.size + 1 + 1 + 1 + 1 := by omega
  clear zz hb
  clear zprev
  refine (alive_at W4).mono ?_
  rintro e W5 ⟨rfl, hb⟩
  replace Sx := Sx.next hb qx
  replace qx := Nat.lt_of_lt_of_le qx hb.size
  replace Sy := Sy.next hb qy
  replace qy := Nat.lt_of_lt_of_le qy hb.size
  replace Kx := Kx.next hb
  replace Ky := Ky.next hb
  replace IC := IC.next hb
  replace SR := SR.next hb
  replace CC := CC.next hb
  replace CR := CR.next hb
  replace hA := chain hA hb
  clear hb
  go_wp2_with fail
  have p0 := past_cell CC.c
  have x0 := past_cell Sx.c0
  have x1 := past_cell Sx.c1
  have x2 := past_cell Sx.c2
  have x3 := past_cell Sx.c3
  have x4 := past_cell Sx.c4
  have x5 := past_cell Sx.c5
  have y0 := past_cell Sy.c0
  have y1 := past_cell Sy.c1
  have y2 := past_cell Sy.c2
  have y3 := past_cell Sy.c3
  have y4 := past_cell Sy.c4
  have y5 := past_cell Sy.c5
  simp only [Nat.zero_add] at x1 x2 x3 x4 x5 y1 y2 y3 y4 y5
  have hB0 : Below W5.heap.size W5 W5.drew := (Below.refl _ _).drew
  refine wp_region_ext0 W5 (by kernel_rfl) ?_
  refine wpX_take (some 16) (i := 0) (v := .slice ca cols.length ccap) rfl rfl (by kernel_rfl) (by kernel_rfl) (by kernel_rfl) (fun _ _ _ h => h) (Or.inl ⟨rfl, fun n => ?_⟩) hB0 ?_
  · go_simp
  simp only [Act.put, List.setIfInBounds_toArray, List.set_cons_zero, List.set_cons_succ]
  refine wpX_take (some 17) (i := 1) (v := exV x.k x.v x.c ax x.ks.length cx) rfl rfl (by kernel_rfl) (by kernel_rfl) (by kernel_rfl) (fun _ _ _ h => h) (Or.inl ⟨rfl, fun n => ?_⟩) hB0 ?_
  · go_simp
  simp only [Act.put, List.setIfInBounds_toArray, List.set_cons_zero, List.set_cons_succ]
  refine wpX_take (some 18) (i := 2) (v := exV y.k y.v y.c ay y.ks.length cy) rfl rfl (by kernel_rfl) (by kernel_rfl) (by kernel_rfl) (fun _ _ _ h => h) (Or.inl ⟨rfl, fun n => ?_⟩) hB0 ?_
  · go_simp
  simp only [Act.put, List.setIfInBounds_toArray, List.set_cons_zero, List.set_cons_succ]
  refine wpX_take (some 20) (i := 4) (v := exV x.k x.v x.c ax x.ks.length cx) rfl rfl (by kernel_rfl) (by kernel_rfl) (by kernel_rfl) (fun _ _ _ h => h) (Or.inl ⟨rfl, fun n => ?_⟩) hB0 ?_
  · go_simp
  simp only [Act.put, List.setIfInBounds_toArray, List.set_cons_zero, List.set_cons_succ]
  refine wpX_take (some 21) (i := 5) (v := exV y.k y.v y.c ay y.ks.length cy) rfl rfl (by kernel_rfl) (by kernel_rfl) (by kernel_rfl) (fun _ _ _ h => h) (Or.inl ⟨rfl, fun n => ?_⟩) hB0 ?_
  · go_simp
  simp only [Act.put, List.setIfInBounds_toArray, List.set_cons_zero, List.set_cons_succ]
  clear p0 x0 x1 x2 x3 x4 x5 y0 y1 y2 y3 y4 y5
  refine wpX_step (rs := [3]) (by kernel_rfl) (by simp) ?_
  intro v1 hv1 j hj
  obtain rfl : j = 3 := by simpa using hj
  clear hj
  have D1 := hB0.trans (hv1.mono hB0.size)
  refine wpOp_step rfl (fun K hK => ?_)
  go_simp
  refine (two_at 6 _ _ x y v1 ⟨ax, cx, rfl, Kx.next D1⟩ ⟨ay, cy, rfl, Ky.next D1⟩).mono ?_
  rintro e v2 ⟨u2, rfl, X2, hv2⟩
  have D2 := D1.trans (hv2.mono D1.size)
  refine hK _ _ ⟨D2, ?_⟩
  clear hK K
  refine wpX_step (rs := [6]) (by kernel_rfl) (by simp) ?_
  intro v3 hv3 j hj
  obtain rfl : j = 6 := by simpa using hj
  clear hj
  have D3 := D2.trans (hv3.mono D2.size)
  refine wpOp_step rfl (fun K hK => ?_)
  go_simp
  refine (two_at 6 _ _ x y v3 ⟨ax, cx, rfl, Kx.next D3⟩ ⟨ay, cy, rfl, Ky.next D3⟩).mono ?_
  rintro e v4 ⟨u4, rfl, X4, hv4⟩
  have D4 := D3.trans (hv4.mono D3.size)
  have X2' := (X2.next hv3).next hv4
  refine hK _ _ ⟨D4, ?_⟩
  clear hK K
  refine wpX_step (rs := [7]) (by kernel_rfl) (by simp) ?_
  intro v5 hv5 j hj
  obtain rfl : j = 7 := by simpa using hj
  clear hj
  have D5 := D4.trans (hv5.mono D4.size)
  refine wpOp_step rfl (fun K hK => ?_)
  go_simp
  refine (two_at 6 _ _ (mk2 6 x y) (mk2 6 x y) v5 (X2'.next hv5) (X4.next hv5)).mono ?_
  rintro e v6 ⟨u6, rfl, X6, hv6⟩
  have D6 := D5.trans (hv6.mono D5.size)
  refine hK _ _ ⟨D6, ?_⟩
  clear hK K
  refine wpX_step (rs := [8]) (by kernel_rfl) (by simp) ?_
  intro v7 hv7 j hj
  obtain rfl : j = 8 := by simpa using hj
  clear hj
  have D7 := D6.trans (hv7.mono D6.size)
  refine wpOp_step rfl (fun K hK => ?_)
  go_simp
  refine (type_xv cols _ ca ccap _ v7 (IC.next D7) (X6.next hv7)).mono ?_
  rintro e v8 ⟨rfl, hv8⟩
  have D8 := D7.trans (hv8.mono D7.size)
  refine hK _ _ ⟨D8, ?_⟩
  clear hK K
  generalize typeTop cols (mk2 6 (mk2 6 x y) (mk2 6 x y)) = ty at *
  obtain ⟨t1, t2⟩ := ty
  refine wpX_take (some 15) (i := 9) (v := .tuple #[.int .i64 t1, .int .i64 t2]) rfl rfl (by kernel_rfl) (by kernel_rfl) (by kernel_rfl) (fun _ _ _ h => h) (Or.inl ⟨rfl, fun n => ?_⟩) D8 ?_
  · go_simp
  simp only [Act.put, List.setIfInBounds_toArray, List.set_cons_zero, List.set_cons_succ]
  refine wpX_take (some 25) (i := 10) (v := .int .i64 t1) rfl rfl (by kernel_rfl) (by kernel_rfl) (by kernel_rfl) (fun _ _ _ h => h) (Or.inl ⟨rfl, fun n => ?_⟩) D8 ?_
  · go_simp
  simp only [Act.put, List.setIfInBounds_toArray, List.set_cons_zero, List.set_cons_succ]
  refine wpX_take (some 26) (i := 11) (v := .int .i64 t2) rfl rfl (by kernel_rfl) (by kernel_rfl) (by kernel_rfl) (fun _ _ _ h => h) (Or.inl ⟨rfl, fun n => ?_⟩) D8 ?_
  · go_simp
  simp only [Act.put, List.setIfInBounds_toArray, List.set_cons_zero, List.set_cons_succ]
  refine wpX_take (some 9) (i := 12) (v := .int .i64 t1) rfl rfl (by kernel_rfl) (by kernel_rfl) (by kernel_rfl) (fun _ _ _ h => h) (Or.inl ⟨rfl, fun n => ?_⟩) D8 ?_
  · go_simp
  simp only [Act.put, List.setIfInBounds_toArray, List.set_cons_zero, List.set_cons_succ]
  refine wpX_take (some 10) (i := 13) (v := .int .i64 t2) rfl rfl (by kernel_rfl) (by kernel_rfl) (by kernel_rfl) (fun _ _ _ h => h) (Or.inl ⟨rfl, fun n => ?_⟩) D8 ?_
  · go_simp
  simp only [Act.put, List.setIfInBounds_toArray, List.set_cons_zero, List.set_cons_succ]
  refine wpX_done (by kernel_rfl) ?_
  intro v9 hv9
  have D9 := D8.trans (hv9.mono D8.size)
  clear hv1 hv2 hv3 hv4 hv5 hv6 hv7 hv8 hv9 D1 D2 D3 D4 D5 D6 D7 D8 X2 X4 X2' X6 hB0
  replace Sx := Sx.next D9 qx
  replace qx := Nat.lt_of_lt_of_le qx D9.size
  replace Sy := Sy.next D9 qy
  replace qy := Nat.lt_of_lt_of_le qy D9.size
  replace Kx := Kx.next D9
  replace Ky := Ky.next D9
  replace IC := IC.next D9
  replace SR := SR.next D9
  replace CC := CC.next D9
  replace CR := CR.next D9
  replace hA := chain hA D9
  clear D9
  by_cases hE : t2 = 0
  case neg =>
    have qE : (t2 != 0) = true := by simpa using hE
    go_wp2_with fail
    go_ret
    exact ⟨rfl, hA⟩
  subst hE
  have F := HF.out rfl
  clear HF
  have HF : Hid _ := F
  clear F
  have st1 : (v9.alloc (.cells #[Value.nilFunc] 39)).cell? ⟨v9.heap.size, 0, none⟩ = some .nilFunc := by simp
  have st2 : (v9.alloc (.cells #[Value.nilFunc] 39)).frozen? ⟨v9.heap.size, 0, none⟩ = false := by simp
  go_upto_region 7 with fail
  clear st1 st2
  have hal : Below v9.heap.size v9 (v9.alloc (.cells #[.func (.func 18) #[] #[.pointer (some ⟨w.heap.size, 0, none⟩), .pointer (some ⟨w.heap.size + 1 + 1 + 1, 0, none⟩)]] 39)) := (Below.refl _ _).alloc (Nat.le_refl _) _
  have CF : CellAt (v9.alloc (.cells #[.func (.func 18) #[] #[.pointer (some ⟨w.heap.size, 0, none⟩), .pointer (some ⟨w.heap.size + 1 + 1 + 1, 0, none⟩)]] 39)) v9.heap.size (.func (.func 18) #[] #[.pointer (some ⟨w.heap.size, 0, none⟩), .pointer (some ⟨w.heap.size + 1 + 1 + 1, 0, none⟩)]) := ⟨by simp⟩
  replace Sx := Sx.next hal qx
  replace Sy := Sy.next hal qy
  replace Kx := Kx.next hal
  replace Ky := Ky.next hal
  replace IC := IC.next hal
  replace SR := SR.next hal
  replace CC := CC.next hal
  replace CR := CR.next hal
  replace hA := chain hA hal
  clear qx qy
  have E : Env (v9.alloc (.cells #[.func (.func 18) #[] #[.pointer (some ⟨w.heap.size, 0, none⟩), .pointer (some ⟨w.heap.size + 1 + 1 + 1, 0, none⟩)]] 39)) cols row x y ca ccap ra rcap ax cx ay cy w.heap.size (w.heap.size + 1) (w.heap.size + 1 + 1) (w.heap.size + 1 + 1 + 1) v9.heap.size := ⟨IC, SR, Kx, Ky, CC.c, CR.c, Sx, Sy, CF.c⟩
  clear Sx Sy Kx Ky IC SR CC CR CF hal
  generalize v9.alloc (.cells #[.func (.func 18) #[] #[.pointer (some ⟨w.heap.size, 0, none⟩), .pointer (some ⟨w.heap.size + 1 + 1 + 1, 0, none⟩)]] 39) = w0 at *
  generalize v9.heap.size = fb at *
  go_wp2_with fail
  obtain ⟨f1, f2, f3, f4, f5, f6⟩ := HF.out
  clear HF
  have con8 : ∀ n : Past w0, Calls Try.prog 19 #[.int .i64 8, .pointer (some ⟨fb, 0, none⟩), .pointer (some ⟨w.heap.size + 1, 0, none⟩), .pointer (some ⟨w.heap.size + 1 + 1, 0, none⟩)] n.now fun e w' => e = .returned (agV (askP cols row (mk2 11 x y))) ∧ Below n.now.heap.size n.now w' := fun n => f1 ▸ not_at 8 cols row x y ca ccap ra rcap ax cx ay cy _ _ _ _ fb n.now (E.next n.ok)
  have con9 : ∀ n : Past w0, Calls Try.prog 19 #[.int .i64 9, .pointer (some ⟨fb, 0, none⟩), .pointer (some ⟨w.heap.size + 1, 0, none⟩), .pointer (some ⟨w.heap.size + 1 + 1, 0, none⟩)] n.now fun e w' => e = .returned (agV (askP cols row (mk2 10 x y))) ∧ Below n.now.heap.size n.now w' := fun n => f2 ▸ not_at 9 cols row x y ca ccap ra rcap ax cx ay cy _ _ _ _ fb n.now (E.next n.ok)
  have con6 : ∀ n : Past w0, Calls Try.prog 19 #[.int .i64 6, .pointer (some ⟨fb, 0, none⟩), .pointer (some ⟨w.heap.size + 1, 0, none⟩), .pointer (some ⟨w.heap.size + 1 + 1, 0, none⟩)] n.now fun e w' => e = .returned (agV (askP cols row (mk2 7 x y))) ∧ Below n.now.heap.size n.now w' := fun n => f3 ▸ not_at 6 cols row x y ca ccap ra rcap ax cx ay cy _ _ _ _ fb n.now (E.next n.ok)
  have C8 : Hid _ := con8
  have C9 : Hid _ := con9
  have C6 : Hid _ := con6
  have A4 : Hid _ := f4
  have A5 : Hid _ := f5
  have A6 : Hid _ := f6
  clear con8 con9 con6 f1 f2 f3 f4 f5 f6
  have p0 := past_cell E.f0
  have x0 := past_cell E.sx.c0
  have x1 := past_cell E.sx.c1
  have x2 := past_cell E.sx.c2
  have x3 := past_cell E.sx.c3
  have x4 := past_cell E.sx.c4
  have x5 := past_cell E.sx.c5
  have y0 := past_cell E.sy.c0
  have y1 := past_cell E.sy.c1
  have y2 := past_cell E.sy.c2
  have y3 := past_cell E.sy.c3
  have y4 := past_cell E.sy.c4
  have y5 := past_cell E.sy.c5
  simp only [Nat.zero_add] at x1 x2 x3 x4 x5 y1 y2 y3 y4 y5
  have D0 : Below w0.heap.size w0 w0.drew := (Below.refl _ _).drew
  refine wp_region_ext0 w0 (by kernel_rfl) ?_
  refine wpX_take (some 31) (i := 0) (v := .func (.func 19) #[] #[.pointer (some ⟨fb, 0, none⟩), .pointer (some ⟨w.heap.size + 1, 0, none⟩), .pointer (some ⟨w.heap.size + 1 + 1, 0, none⟩)]) rfl rfl (by kernel_rfl) (by kernel_rfl) (by kernel_rfl) (fun _ _ _ h => h) (Or.inl ⟨rfl, fun n => ?_⟩) D0 ?_
  · go_simp
  simp only [Act.put, List.setIfInBounds_toArray, List.set_cons_zero, List.set_cons_succ]
  refine wpX_take (some 32) (i := 1) (v := agV (askP cols row (mk2 11 x y))) rfl rfl (by kernel_rfl) (by kernel_rfl) (by kernel_rfl) (fun _ _ _ h => h) (Or.inl ⟨rfl, fun n => ?_⟩) D0 ?_
  · (go_simp; exact C8.out n)
  simp only [Act.put, List.setIfInBounds_toArray, List.set_cons_zero, List.set_cons_succ]
  refine wpX_take (some 33) (i := 2) (v := .func (.func 18) #[] #[.pointer (some ⟨w.heap.size, 0, none⟩), .pointer (some ⟨w.heap.size + 1 + 1 + 1, 0, none⟩)]) rfl rfl (by kernel_rfl) (by kernel_rfl) (by kernel_rfl) (fun _ _ _ h => h) (Or.inl ⟨rfl, fun n => ?_⟩) D0 ?_
  · go_simp
  simp only [Act.put, List.setIfInBounds_toArray, List.set_cons_zero, List.set_cons_succ]
  refine wpX_take (some 34) (i := 3) (v := exV x.k x.v x.c ax x.ks.length cx) rfl rfl (by kernel_rfl) (by kernel_rfl) (by kernel_rfl) (fun _ _ _ h => h) (Or.inl ⟨rfl, fun n => ?_⟩) D0 ?_
  · go_simp
  simp only [Act.put, List.setIfInBounds_toArray, List.set_cons_zero, List.set_cons_succ]
  refine wpX_take (some 35) (i := 4) (v := exV y.k y.v y.c ay y.ks.length cy) rfl rfl (by kernel_rfl) (by kernel_rfl) (by kernel_rfl) (fun _ _ _ h => h) (Or.inl ⟨rfl, fun n => ?_⟩) D0 ?_
  · go_simp
  simp only [Act.put, List.setIfInBounds_toArray, List.set_cons_zero, List.set_cons_succ]
  refine wpX_step (rs := [5]) (by kernel_rfl) (by simp) ?_
  intro v1a hv1a j hj
  obtain rfl : j = 5 := by simpa using hj
  clear hj
  have E1a := D0.trans (hv1a.mono D0.size)
  refine wpOp_step rfl (fun K hK => ?_)
  go_simp
  refine (two_at 11 _ _ x y v1a ⟨ax, cx, rfl, (E.next E1a).kx⟩ ⟨ay, cy, rfl, (E.next E1a).ky⟩).mono ?_
  rintro e v1b ⟨us0, rfl, Xs0, hv1b⟩
  have E1b := E1a.trans (hv1b.mono E1a.size)
  refine hK _ _ ⟨E1b, ?_⟩
  clear hK K hv1a hv1b E1a 
  refine wpX_step (rs := [6]) (by kernel_rfl) (by simp) ?_
  intro v2a hv2a j hj
  obtain rfl : j = 6 := by simpa using hj
  clear hj
  have E2a := E1b.trans (hv2a.mono E1b.size)
  replace Xs0 := Xs0.next hv2a
  refine wpOp_step rfl (fun K hK => ?_)
  go_simp
  refine (ask_at cols row ca ccap ra rcap _ _ _ (mk2 11 x y) v2a Xs0 (E.next E2a).ic (E.next E2a).sr (E.next E2a).c0 (E.next E2a).r0).mono ?_
  rintro e v2b ⟨rfl, hv2b⟩
  have E2b := E2a.trans (hv2b.mono E2a.size)
  replace Xs0 := Xs0.next hv2b
  refine hK _ _ ⟨E2b, ?_⟩
  clear hK K hv2a hv2b E2a E1b
  refine wpX_take (some 38) (i := 7) (v := .bool true) rfl rfl (by kernel_rfl) (by kernel_rfl) (by kernel_rfl) (fun _ _ _ h => h) (Or.inl ⟨rfl, fun n => ?_⟩) E2b ?_
  · go_simp
  simp only [Act.put, List.setIfInBounds_toArray, List.set_cons_zero, List.set_cons_succ]
  refine wpX_take (some 39) (i := 8) (v := .bool true) rfl rfl (by kernel_rfl) (by kernel_rfl) (by kernel_rfl) (fun _ _ _ h => h) (Or.inl ⟨rfl, fun n => ?_⟩) E2b ?_
  · go_simp
  simp only [Act.put, List.setIfInBounds_toArray, List.set_cons_zero, List.set_cons_succ]
  refine wpX_take (some 40) (i := 9) (v := .func (.func 19) #[] #[.pointer (some ⟨fb, 0, none⟩), .pointer (some ⟨w.heap.size + 1, 0, none⟩), .pointer (some ⟨w.heap.size + 1 + 1, 0, none⟩)]) rfl rfl (by kernel_rfl) (by kernel_rfl) (by kernel_rfl) (fun _ _ _ h => h) (Or.inl ⟨rfl, fun n => ?_⟩) E2b ?_
  · go_simp
  simp only [Act.put, List.setIfInBounds_toArray, List.set_cons_zero, List.set_cons_succ]
  refine wpX_take (some 41) (i := 10) (v := agV (askP cols row (mk2 10 x y))) rfl rfl (by kernel_rfl) (by kernel_rfl) (by kernel_rfl) (fun _ _ _ h => h) (Or.inl ⟨rfl, fun n => ?_⟩) E2b ?_
  · (go_simp; exact C9.out n)
  simp only [Act.put, List.setIfInBounds_toArray, List.set_cons_zero, List.set_cons_succ]
  refine wpX_take (some 42) (i := 11) (v := .func (.func 18) #[] #[.pointer (some ⟨w.heap.size, 0, none⟩), .pointer (some ⟨w.heap.size + 1 + 1 + 1, 0, none⟩)]) rfl rfl (by kernel_rfl) (by kernel_rfl) (by kernel_rfl) (fun _ _ _ h => h) (Or.inl ⟨rfl, fun n => ?_⟩) E2b ?_
  · go_simp
  simp only [Act.put, List.setIfInBounds_toArray, List.set_cons_zero, List.set_cons_succ]
  refine wpX_take (some 43) (i := 12) (v := exV x.k x.v x.c ax x.ks.length cx) rfl rfl (by kernel_rfl) (by kernel_rfl) (by kernel_rfl) (fun _ _ _ h => h) (Or.inl ⟨rfl, fun n => ?_⟩) E2b ?_
  · go_simp
  simp only [Act.put, List.setIfInBounds_toArray, List.set_cons_zero, List.set_cons_succ]
  refine wpX_take (some 44) (i := 13) (v := exV y.k y.v y.c ay y.ks.length cy) rfl rfl (by kernel_rfl) (by kernel_rfl) (by kernel_rfl) (fun _ _ _ h => h) (Or.inl ⟨rfl, fun n => ?_⟩) E2b ?_
  · go_simp
  simp only [Act.put, List.setIfInBounds_toArray, List.set_cons_zero, List.set_cons_succ]
  refine wpX_step (rs := [14]) (by kernel_rfl) (by simp) ?_
  intro v3a hv3a j hj
  obtain rfl : j = 14 := by simpa using hj
  clear hj
  have E3a := E2b.trans (hv3a.mono E2b.size)
  refine wpOp_step rfl (fun K hK => ?_)
  go_simp
  refine (two_at 10 _ _ x y v3a ⟨ax, cx, rfl, (E.next E3a).kx⟩ ⟨ay, cy, rfl, (E.next E3a).ky⟩).mono ?_
  rintro e v3b ⟨us9, rfl, Xs9, hv3b⟩
  have E3b := E3a.trans (hv3b.mono E3a.size)
  refine hK _ _ ⟨E3b, ?_⟩
  clear hK K hv3a hv3b E3a E2b
  refine wpX_step (rs := [15]) (by kernel_rfl) (by simp) ?_
  intro v4a hv4a j hj
  obtain rfl : j = 15 := by simpa using hj
  clear hj
  have E4a := E3b.trans (hv4a.mono E3b.size)
  replace Xs9 := Xs9.next hv4a
  refine wpOp_step rfl (fun K hK => ?_)
  go_simp
  refine (ask_at cols row ca ccap ra rcap _ _ _ (mk2 10 x y) v4a Xs9 (E.next E4a).ic (E.next E4a).sr (E.next E4a).c0 (E.next E4a).r0).mono ?_
  rintro e v4b ⟨rfl, hv4b⟩
  have E4b := E4a.trans (hv4b.mono E4a.size)
  replace Xs9 := Xs9.next hv4b
  refine hK _ _ ⟨E4b, ?_⟩
  clear hK K hv4a hv4b E4a E3b
  refine wpX_take (some 47) (i := 16) (v := .bool true) rfl rfl (by kernel_rfl) (by kernel_rfl) (by kernel_rfl) (fun _ _ _ h => h) (Or.inl ⟨rfl, fun n => ?_⟩) E4b ?_
  · go_simp
  simp only [Act.put, List.setIfInBounds_toArray, List.set_cons_zero, List.set_cons_succ]
  refine wpX_take (some 48) (i := 17) (v := .bool true) rfl rfl (by kernel_rfl) (by kernel_rfl) (by kernel_rfl) (fun _ _ _ h => h) (Or.inl ⟨rfl, fun n => ?_⟩) E4b ?_
  · go_simp
  simp only [Act.put, List.setIfInBounds_toArray, List.set_cons_zero, List.set_cons_succ]
  refine wpX_take (some 49) (i := 18) (v := .bool true) rfl rfl (by kernel_rfl) (by kernel_rfl) (by kernel_rfl) (fun _ _ _ h => h) (Or.inl ⟨rfl, fun n => ?_⟩) E4b ?_
  · go_simp
  simp only [Act.put, List.setIfInBounds_toArray, List.set_cons_zero, List.set_cons_succ]
  refine wpX_take (some 50) (i := 19) (v := .func (.func 19) #[] #[.pointer (some ⟨fb, 0, none⟩), .pointer (some ⟨w.heap.size + 1, 0, none⟩), .pointer (some ⟨w.heap.size + 1 + 1, 0, none⟩)]) rfl rfl (by kernel_rfl) (by kernel_rfl) (by kernel_rfl) (fun _ _ _ h => h) (Or.inl ⟨rfl, fun n => ?_⟩) E4b ?_
  · go_simp
  simp only [Act.put, List.setIfInBounds_toArray, List.set_cons_zero, List.set_cons_succ]
  refine wpX_take (some 51) (i := 20) (v := agV (askP cols row (mk2 7 x y))) rfl rfl (by kernel_rfl) (by kernel_rfl) (by kernel_rfl) (fun _ _ _ h => h) (Or.inl ⟨rfl, fun n => ?_⟩) E4b ?_
  · (go_simp; exact C6.out n)
  simp only [Act.put, List.setIfInBounds_toArray, List.set_cons_zero, List.set_cons_succ]
  refine wpX_take (some 52) (i := 21) (v := .func (.func 18) #[] #[.pointer (some ⟨w.heap.size, 0, none⟩), .pointer (some ⟨w.heap.size + 1 + 1 + 1, 0, none⟩)]) rfl rfl (by kernel_rfl) (by kernel_rfl) (by kernel_rfl) (fun _ _ _ h => h) (Or.inl ⟨rfl, fun n => ?_⟩) E4b ?_
  · go_simp
  simp only [Act.put, List.setIfInBounds_toArray, List.set_cons_zero, List.set_cons_succ]
  refine wpX_take (some 53) (i := 22) (v := exV x.k x.v x.c ax x.ks.length cx) rfl rfl (by kernel_rfl) (by kernel_rfl) (by kernel_rfl) (fun _ _ _ h => h) (Or.inl ⟨rfl, fun n => ?_⟩) E4b ?_
  · go_simp
  simp only [Act.put, List.setIfInBounds_toArray, List.set_cons_zero, List.set_cons_succ]
  refine wpX_take (some 54) (i := 23) (v := exV y.k y.v y.c ay y.ks.length cy) rfl rfl (by kernel_rfl) (by kernel_rfl) (by kernel_rfl) (fun _ _ _ h => h) (Or.inl ⟨rfl, fun n => ?_⟩) E4b ?_
  · go_simp
  simp only [Act.put, List.setIfInBounds_toArray, List.set_cons_zero, List.set_cons_succ]
  refine wpX_step (rs := [24]) (by kernel_rfl) (by simp) ?_
  intro v5a hv5a j hj
  obtain rfl : j = 24 := by simpa using hj
  clear hj
  have E5a := E4b.trans (hv5a.mono E4b.size)
  refine wpOp_step rfl (fun K hK => ?_)
  go_simp
  refine (two_at 7 _ _ x y v5a ⟨ax, cx, rfl, (E.next E5a).kx⟩ ⟨ay, cy, rfl, (E.next E5a).ky⟩).mono ?_
  rintro e v5b ⟨us19, rfl, Xs19, hv5b⟩
  have E5b := E5a.trans (hv5b.mono E5a.size)
  refine hK _ _ ⟨E5b, ?_⟩
  clear hK K hv5a hv5b E5a E4b
  refine wpX_step (rs := [25]) (by kernel_rfl) (by simp) ?_
  intro v6a hv6a j hj
  obtain rfl : j = 25 := by simpa using hj
  clear hj
  have E6a := E5b.trans (hv6a.mono E5b.size)
  replace Xs19 := Xs19.next hv6a
  refine wpOp_step rfl (fun K hK => ?_)
  go_simp
  refine (ask_at cols row ca ccap ra rcap _ _ _ (mk2 7 x y) v6a Xs19 (E.next E6a).ic (E.next E6a).sr (E.next E6a).c0 (E.next E6a).r0).mono ?_
  rintro e v6b ⟨rfl, hv6b⟩
  have E6b := E6a.trans (hv6b.mono E6a.size)
  replace Xs19 := Xs19.next hv6b
  refine hK _ _ ⟨E6b, ?_⟩
  clear hK K hv6a hv6b E6a E5b
  refine wpX_take (some 57) (i := 26) (v := .bool true) rfl rfl (by kernel_rfl) (by kernel_rfl) (by kernel_rfl) (fun _ _ _ h => h) (Or.inl ⟨rfl, fun n => ?_⟩) E6b ?_
  · go_simp
  simp only [Act.put, List.setIfInBounds_toArray, List.set_cons_zero, List.set_cons_succ]
  refine wpX_take (some 58) (i := 27) (v := .bool true) rfl rfl (by kernel_rfl) (by kernel_rfl) (by kernel_rfl) (fun _ _ _ h => h) (Or.inl ⟨rfl, fun n => ?_⟩) E6b ?_
  · go_simp
  simp only [Act.put, List.setIfInBounds_toArray, List.set_cons_zero, List.set_cons_succ]
  refine wpX_take (some 59) (i := 28) (v := .bool true) rfl rfl (by kernel_rfl) (by kernel_rfl) (by kernel_rfl) (fun _ _ _ h => h) (Or.inl ⟨rfl, fun n => ?_⟩) E6b ?_
  · go_simp
  simp only [Act.put, List.setIfInBounds_toArray, List.set_cons_zero, List.set_cons_succ]
  refine wpX_take (some 60) (i := 29) (v := .func (.func 18) #[] #[.pointer (some ⟨w.heap.size, 0, none⟩), .pointer (some ⟨w.heap.size + 1 + 1 + 1, 0, none⟩)]) rfl rfl (by kernel_rfl) (by kernel_rfl) (by kernel_rfl) (fun _ _ _ h => h) (Or.inl ⟨rfl, fun n => ?_⟩) E6b ?_
  · go_simp
  simp only [Act.put, List.setIfInBounds_toArray, List.set_cons_zero, List.set_cons_succ]
  refine wpX_take (some 61) (i := 30) (v := exV x.k x.v x.c ax x.ks.length cx) rfl rfl (by kernel_rfl) (by kernel_rfl) (by kernel_rfl) (fun _ _ _ h => h) (Or.inl ⟨rfl, fun n => ?_⟩) E6b ?_
  · go_simp
  simp only [Act.put, List.setIfInBounds_toArray, List.set_cons_zero, List.set_cons_succ]
  refine wpX_take (some 62) (i := 31) (v := exV y.k y.v y.c ay y.ks.length cy) rfl rfl (by kernel_rfl) (by kernel_rfl) (by kernel_rfl) (fun _ _ _ h => h) (Or.inl ⟨rfl, fun n => ?_⟩) E6b ?_
  · go_simp
  simp only [Act.put, List.setIfInBounds_toArray, List.set_cons_zero, List.set_cons_succ]
  refine wpX_take (some 65) (i := 34) (v := .func (.func 18) #[] #[.pointer (some ⟨w.heap.size, 0, none⟩), .pointer (some ⟨w.heap.size + 1 + 1 + 1, 0, none⟩)]) rfl rfl (by kernel_rfl) (by kernel_rfl) (by kernel_rfl) (fun _ _ _ h => h) (Or.inl ⟨rfl, fun n => ?_⟩) E6b ?_
  · go_simp
  simp only [Act.put, List.setIfInBounds_toArray, List.set_cons_zero, List.set_cons_succ]
  refine wpX_take (some 66) (i := 35) (v := exV y.k y.v y.c ay y.ks.length cy) rfl rfl (by kernel_rfl) (by kernel_rfl) (by kernel_rfl) (fun _ _ _ h => h) (Or.inl ⟨rfl, fun n => ?_⟩) E6b ?_
  · go_simp
  simp only [Act.put, List.setIfInBounds_toArray, List.set_cons_zero, List.set_cons_succ]
  refine wpX_take (some 67) (i := 36) (v := exV x.k x.v x.c ax x.ks.length cx) rfl rfl (by kernel_rfl) (by kernel_rfl) (by kernel_rfl) (fun _ _ _ h => h) (Or.inl ⟨rfl, fun n => ?_⟩) E6b ?_
  · go_simp
  simp only [Act.put, List.setIfInBounds_toArray, List.set_cons_zero, List.set_cons_succ]
  refine wpX_step (rs := [32]) (by kernel_rfl) (by simp) ?_
  intro v7a hv7a j hj
  obtain rfl : j = 32 := by simpa using hj
  clear hj
  have E7a := E6b.trans (hv7a.mono E6b.size)
  refine wpOp_step rfl (fun K hK => ?_)
  go_simp
  refine (two_at 8 _ _ x y v7a ⟨ax, cx, rfl, (E.next E7a).kx⟩ ⟨ay, cy, rfl, (E.next E7a).ky⟩).mono ?_
  rintro e v7b ⟨us29, rfl, Xs29, hv7b⟩
  have E7b := E7a.trans (hv7b.mono E7a.size)
  refine hK _ _ ⟨E7b, ?_⟩
  clear hK K hv7a hv7b E7a E6b
  refine wpX_step (rs := [33]) (by kernel_rfl) (by simp) ?_
  intro v8a hv8a j hj
  obtain rfl : j = 33 := by simpa using hj
  clear hj
  have E8a := E7b.trans (hv8a.mono E7b.size)
  replace Xs29 := Xs29.next hv8a
  refine wpOp_step rfl (fun K hK => ?_)
  go_simp
  refine (ask_at cols row ca ccap ra rcap _ _ _ (mk2 8 x y) v8a Xs29 (E.next E8a).ic (E.next E8a).sr (E.next E8a).c0 (E.next E8a).r0).mono ?_
  rintro e v8b ⟨rfl, hv8b⟩
  have E8b := E8a.trans (hv8b.mono E8a.size)
  replace Xs29 := Xs29.next hv8b
  refine hK _ _ ⟨E8b, ?_⟩
  clear hK K hv8a hv8b E8a E7b
  refine wpX_step (rs := [37]) (by kernel_rfl) (by simp) ?_
  intro v9a hv9a j hj
  obtain rfl : j = 37 := by simpa using hj
  clear hj
  have E9a := E8b.trans (hv9a.mono E8b.size)
  refine wpOp_step rfl (fun K hK => ?_)
  go_simp
  refine (two_at 10 _ _ y x v9a ⟨ay, cy, rfl, (E.next E9a).ky⟩ ⟨ax, cx, rfl, (E.next E9a).kx⟩).mono ?_
  rintro e v9b ⟨ur29, rfl, Xr29, hv9b⟩
  have E9b := E9a.trans (hv9b.mono E9a.size)
  refine hK _ _ ⟨E9b, ?_⟩
  clear hK K hv9a hv9b E9a E8b
  refine wpX_step (rs := [38]) (by kernel_rfl) (by simp) ?_
  intro v10a hv10a j hj
  obtain rfl : j = 38 := by simpa using hj
  clear hj
  have E10a := E9b.trans (hv10a.mono E9b.size)
  replace Xr29 := Xr29.next hv10a
  refine wpOp_step rfl (fun K hK => ?_)
  go_simp
  refine (ask_at cols row ca ccap ra rcap _ _ _ (mk2 10 y x) v10a Xr29 (E.next E10a).ic (E.next E10a).sr (E.next E10a).c0 (E.next E10a).r0).mono ?_
  rintro e v10b ⟨rfl, hv10b⟩
  have E10b := E10a.trans (hv10b.mono E10a.size)
  replace Xr29 := Xr29.next hv10b
  rw [← A4.out]
  refine hK _ _ ⟨E10b, ?_⟩
  clear hK K hv10a hv10b E10a E9b
  refine wpX_take (some 70) (i := 39) (v := .bool true) rfl rfl (by kernel_rfl) (by kernel_rfl) (by kernel_rfl) (fun _ _ _ h => h) (Or.inl ⟨rfl, fun n => ?_⟩) E10b ?_
  · go_simp
  simp only [Act.put, List.setIfInBounds_toArray, List.set_cons_zero, List.set_cons_succ]
  refine wpX_take (some 71) (i := 40) (v := .bool true) rfl rfl (by kernel_rfl) (by kernel_rfl) (by kernel_rfl) (fun _ _ _ h => h) (Or.inl ⟨rfl, fun n => ?_⟩) E10b ?_
  · go_simp
  simp only [Act.put, List.setIfInBounds_toArray, List.set_cons_zero, List.set_cons_succ]
  refine wpX_take (some 72) (i := 41) (v := .bool true) rfl rfl (by kernel_rfl) (by kernel_rfl) (by kernel_rfl) (fun _ _ _ h => h) (Or.inl ⟨rfl, fun n => ?_⟩) E10b ?_
  · go_simp
  simp only [Act.put, List.setIfInBounds_toArray, List.set_cons_zero, List.set_cons_succ]
  refine wpX_take (some 73) (i := 42) (v := .func (.func 18) #[] #[.pointer (some ⟨w.heap.size, 0, none⟩), .pointer (some ⟨w.heap.size + 1 + 1 + 1, 0, none⟩)]) rfl rfl (by kernel_rfl) (by kernel_rfl) (by kernel_rfl) (fun _ _ _ h => h) (Or.inl ⟨rfl, fun n => ?_⟩) E10b ?_
  · go_simp
  simp only [Act.put, List.setIfInBounds_toArray, List.set_cons_zero, List.set_cons_succ]
  refine wpX_take (some 74) (i := 43) (v := exV x.k x.v x.c ax x.ks.length cx) rfl rfl (by kernel_rfl) (by kernel_rfl) (by kernel_rfl) (fun _ _ _ h => h) (Or.inl ⟨rfl, fun n => ?_⟩) E10b ?_
  · go_simp
  simp only [Act.put, List.setIfInBounds_toArray, List.set_cons_zero, List.set_cons_succ]
  refine wpX_take (some 75) (i := 44) (v := exV y.k y.v y.c ay y.ks.length cy) rfl rfl (by kernel_rfl) (by kernel_rfl) (by kernel_rfl) (fun _ _ _ h => h) (Or.inl ⟨rfl, fun n => ?_⟩) E10b ?_
  · go_simp
  simp only [Act.put, List.setIfInBounds_toArray, List.set_cons_zero, List.set_cons_succ]
  refine wpX_take (some 78) (i := 47) (v := .func (.func 18) #[] #[.pointer (some ⟨w.heap.size, 0, none⟩), .pointer (some ⟨w.heap.size + 1 + 1 + 1, 0, none⟩)]) rfl rfl (by kernel_rfl) (by kernel_rfl) (by kernel_rfl) (fun _ _ _ h => h) (Or.inl ⟨rfl, fun n => ?_⟩) E10b ?_
  · go_simp
  simp only [Act.put, List.setIfInBounds_toArray, List.set_cons_zero, List.set_cons_succ]
  refine wpX_take (some 79) (i := 48) (v := exV y.k y.v y.c ay y.ks.length cy) rfl rfl (by kernel_rfl) (by kernel_rfl) (by kernel_rfl) (fun _ _ _ h => h) (Or.inl ⟨rfl, fun n => ?_⟩) E10b ?_
  · go_simp
  simp only [Act.put, List.setIfInBounds_toArray, List.set_cons_zero, List.set_cons_succ]
  refine wpX_take (some 80) (i := 49) (v := exV x.k x.v x.c ax x.ks.length cx) rfl rfl (by kernel_rfl) (by kernel_rfl) (by kernel_rfl) (fun _ _ _ h => h) (Or.inl ⟨rfl, fun n => ?_⟩) E10b ?_
  · go_simp
  simp only [Act.put, List.setIfInBounds_toArray, List.set_cons_zero, List.set_cons_succ]
  refine wpX_step (rs := [45]) (by kernel_rfl) (by simp) ?_
  intro v11a hv11a j hj
  obtain rfl : j = 45 := by simpa using hj
  clear hj
  have E11a := E10b.trans (hv11a.mono E10b.size)
  refine wpOp_step rfl (fun K hK => ?_)
  go_simp
  refine (two_at 9 _ _ x y v11a ⟨ax, cx, rfl, (E.next E11a).kx⟩ ⟨ay, cy, rfl, (E.next E11a).ky⟩).mono ?_
  rintro e v11b ⟨us42, rfl, Xs42, hv11b⟩
  have E11b := E11a.trans (hv11b.mono E11a.size)
  refine hK _ _ ⟨E11b, ?_⟩
  clear hK K hv11a hv11b E11a E10b
  refine wpX_step (rs := [46]) (by kernel_rfl) (by simp) ?_
  intro v12a hv12a j hj
  obtain rfl : j = 46 := by simpa using hj
  clear hj
  have E12a := E11b.trans (hv12a.mono E11b.size)
  replace Xs42 := Xs42.next hv12a
  refine wpOp_step rfl (fun K hK => ?_)
  go_simp
  refine (ask_at cols row ca ccap ra rcap _ _ _ (mk2 9 x y) v12a Xs42 (E.next E12a).ic (E.next E12a).sr (E.next E12a).c0 (E.next E12a).r0).mono ?_
  rintro e v12b ⟨rfl, hv12b⟩
  have E12b := E12a.trans (hv12b.mono E12a.size)
  replace Xs42 := Xs42.next hv12b
  refine hK _ _ ⟨E12b, ?_⟩
  clear hK K hv12a hv12b E12a E11b
  refine wpX_step (rs := [50]) (by kernel_rfl) (by simp) ?_
  intro v13a hv13a j hj
  obtain rfl : j = 50 := by simpa using hj
  clear hj
  have E13a := E12b.trans (hv13a.mono E12b.size)
  refine wpOp_step rfl (fun K hK => ?_)
  go_simp
  refine (two_at 11 _ _ y x v13a ⟨ay, cy, rfl, (E.next E13a).ky⟩ ⟨ax, cx, rfl, (E.next E13a).kx⟩).mono ?_
  rintro e v13b ⟨ur42, rfl, Xr42, hv13b⟩
  have E13b := E13a.trans (hv13b.mono E13a.size)
  refine hK _ _ ⟨E13b, ?_⟩
  clear hK K hv13a hv13b E13a E12b
  refine wpX_step (rs := [51]) (by kernel_rfl) (by simp) ?_
  intro v14a hv14a j hj
  obtain rfl : j = 51 := by simpa using hj
  clear hj
  have E14a := E13b.trans (hv14a.mono E13b.size)
  replace Xr42 := Xr42.next hv14a
  refine wpOp_step rfl (fun K hK => ?_)
  go_simp
  refine (ask_at cols row ca ccap ra rcap _ _ _ (mk2 11 y x) v14a Xr42 (E.next E14a).ic (E.next E14a).sr (E.next E14a).c0 (E.next E14a).r0).mono ?_
  rintro e v14b ⟨rfl, hv14b⟩
  have E14b := E14a.trans (hv14b.mono E14a.size)
  replace Xr42 := Xr42.next hv14b
  rw [← A5.out]
  refine hK _ _ ⟨E14b, ?_⟩
  clear hK K hv14a hv14b E14a E13b
  refine wpX_take (some 83) (i := 52) (v := .bool true) rfl rfl (by kernel_rfl) (by kernel_rfl) (by kernel_rfl) (fun _ _ _ h => h) (Or.inl ⟨rfl, fun n => ?_⟩) E14b ?_
  · go_simp
  simp only [Act.put, List.setIfInBounds_toArray, List.set_cons_zero, List.set_cons_succ]
  refine wpX_take (some 84) (i := 53) (v := .bool true) rfl rfl (by kernel_rfl) (by kernel_rfl) (by kernel_rfl) (fun _ _ _ h => h) (Or.inl ⟨rfl, fun n => ?_⟩) E14b ?_
  · go_simp
  simp only [Act.put, List.setIfInBounds_toArray, List.set_cons_zero, List.set_cons_succ]
  refine wpX_take (some 85) (i := 54) (v := .bool true) rfl rfl (by kernel_rfl) (by kernel_rfl) (by kernel_rfl) (fun _ _ _ h => h) (Or.inl ⟨rfl, fun n => ?_⟩) E14b ?_
  · go_simp
  simp only [Act.put, List.setIfInBounds_toArray, List.set_cons_zero, List.set_cons_succ]
  refine wpX_take (some 86) (i := 55) (v := .func (.func 18) #[] #[.pointer (some ⟨w.heap.size, 0, none⟩), .pointer (some ⟨w.heap.size + 1 + 1 + 1, 0, none⟩)]) rfl rfl (by kernel_rfl) (by kernel_rfl) (by kernel_rfl) (fun _ _ _ h => h) (Or.inl ⟨rfl, fun n => ?_⟩) E14b ?_
  · go_simp
  simp only [Act.put, List.setIfInBounds_toArray, List.set_cons_zero, List.set_cons_succ]
  refine wpX_take (some 87) (i := 56) (v := exV x.k x.v x.c ax x.ks.length cx) rfl rfl (by kernel_rfl) (by kernel_rfl) (by kernel_rfl) (fun _ _ _ h => h) (Or.inl ⟨rfl, fun n => ?_⟩) E14b ?_
  · go_simp
  simp only [Act.put, List.setIfInBounds_toArray, List.set_cons_zero, List.set_cons_succ]
  refine wpX_take (some 88) (i := 57) (v := exV y.k y.v y.c ay y.ks.length cy) rfl rfl (by kernel_rfl) (by kernel_rfl) (by kernel_rfl) (fun _ _ _ h => h) (Or.inl ⟨rfl, fun n => ?_⟩) E14b ?_
  · go_simp
  simp only [Act.put, List.setIfInBounds_toArray, List.set_cons_zero, List.set_cons_succ]
  refine wpX_take (some 91) (i := 60) (v := .func (.func 18) #[] #[.pointer (some ⟨w.heap.size, 0, none⟩), .pointer (some ⟨w.heap.size + 1 + 1 + 1, 0, none⟩)]) rfl rfl (by kernel_rfl) (by kernel_rfl) (by kernel_rfl) (fun _ _ _ h => h) (Or.inl ⟨rfl, fun n => ?_⟩) E14b ?_
  · go_simp
  simp only [Act.put, List.setIfInBounds_toArray, List.set_cons_zero, List.set_cons_succ]
  refine wpX_take (some 92) (i := 61) (v := exV x.k x.v x.c ax x.ks.length cx) rfl rfl (by kernel_rfl) (by kernel_rfl) (by kernel_rfl) (fun _ _ _ h => h) (Or.inl ⟨rfl, fun n => ?_⟩) E14b ?_
  · go_simp
  simp only [Act.put, List.setIfInBounds_toArray, List.set_cons_zero, List.set_cons_succ]
  refine wpX_take (some 93) (i := 62) (v := exV y.k y.v y.c ay y.ks.length cy) rfl rfl (by kernel_rfl) (by kernel_rfl) (by kernel_rfl) (fun _ _ _ h => h) (Or.inl ⟨rfl, fun n => ?_⟩) E14b ?_
  · go_simp
  simp only [Act.put, List.setIfInBounds_toArray, List.set_cons_zero, List.set_cons_succ]
  refine wpX_take (some 95) (i := 64) (v := exV x.k x.v x.c ax x.ks.length cx) rfl rfl (by kernel_rfl) (by kernel_rfl) (by kernel_rfl) (fun _ _ _ h => h) (Or.inl ⟨rfl, fun n => ?_⟩) E14b ?_
  · go_simp
  simp only [Act.put, List.setIfInBounds_toArray, List.set_cons_zero, List.set_cons_succ]
  refine wpX_take (some 96) (i := 65) (v := exV y.k y.v y.c ay y.ks.length cy) rfl rfl (by kernel_rfl) (by kernel_rfl) (by kernel_rfl) (fun _ _ _ h => h) (Or.inl ⟨rfl, fun n => ?_⟩) E14b ?_
  · go_simp
  simp only [Act.put, List.setIfInBounds_toArray, List.set_cons_zero, List.set_cons_succ]
  refine wpX_step (rs := [58]) (by kernel_rfl) (by simp) ?_
  intro v15a hv15a j hj
  obtain rfl : j = 58 := by simpa using hj
  clear hj
  have E15a := E14b.trans (hv15a.mono E14b.size)
  refine wpOp_step rfl (fun K hK => ?_)
  go_simp
  refine (two_at 9 _ _ x y v15a ⟨ax, cx, rfl, (E.next E15a).kx⟩ ⟨ay, cy, rfl, (E.next E15a).ky⟩).mono ?_
  rintro e v15b ⟨uq1, rfl, Xq1, hv15b⟩
  have E15b := E15a.trans (hv15b.mono E15a.size)
  refine hK _ _ ⟨E15b, ?_⟩
  clear hK K hv15a hv15b E15a E14b
  refine wpX_step (rs := [59]) (by kernel_rfl) (by simp) ?_
  intro v16a hv16a j hj
  obtain rfl : j = 59 := by simpa using hj
  clear hj
  have E16a := E15b.trans (hv16a.mono E15b.size)
  replace Xq1 := Xq1.next hv16a
  refine wpOp_step rfl (fun K hK => ?_)
  go_simp
  refine (ask_at cols row ca ccap ra rcap _ _ _ (mk2 9 x y) v16a Xq1 (E.next E16a).ic (E.next E16a).sr (E.next E16a).c0 (E.next E16a).r0).mono ?_
  rintro e v16b ⟨rfl, hv16b⟩
  have E16b := E16a.trans (hv16b.mono E16a.size)
  replace Xq1 := Xq1.next hv16b
  refine hK _ _ ⟨E16b, ?_⟩
  clear hK K hv16a hv16b E16a E15b
  refine wpX_step (rs := [63]) (by kernel_rfl) (by simp) ?_
  intro v17a hv17a j hj
  obtain rfl : j = 63 := by simpa using hj
  clear hj
  have E17a := E16b.trans (hv17a.mono E16b.size)
  refine wpOp_step rfl (fun K hK => ?_)
  go_simp
  refine (two_at 8 _ _ x y v17a ⟨ax, cx, rfl, (E.next E17a).kx⟩ ⟨ay, cy, rfl, (E.next E17a).ky⟩).mono ?_
  rintro e v17b ⟨uq2, rfl, Xq2, hv17b⟩
  have E17b := E17a.trans (hv17b.mono E17a.size)
  refine hK _ _ ⟨E17b, ?_⟩
  clear hK K hv17a hv17b E17a E16b
  refine wpX_step (rs := [66]) (by kernel_rfl) (by simp) ?_
  intro v18a hv18a j hj
  obtain rfl : j = 66 := by simpa using hj
  clear hj
  have E18a := E17b.trans (hv18a.mono E17b.size)
  replace Xq2 := Xq2.next hv18a
  refine wpOp_step rfl (fun K hK => ?_)
  go_simp
  refine (two_at 6 _ _ x y v18a ⟨ax, cx, rfl, (E.next E18a).kx⟩ ⟨ay, cy, rfl, (E.next E18a).ky⟩).mono ?_
  rintro e v18b ⟨uq3, rfl, Xq3, hv18b⟩
  have E18b := E18a.trans (hv18b.mono E18a.size)
  replace Xq2 := Xq2.next hv18b
  refine hK _ _ ⟨E18b, ?_⟩
  clear hK K hv18a hv18b E18a E17b
  refine wpX_step (rs := [67]) (by kernel_rfl) (by simp) ?_
  intro v19a hv19a j hj
  obtain rfl : j = 67 := by simpa using hj
  clear hj
  have E19a := E18b.trans (hv19a.mono E18b.size)
  replace Xq2 := Xq2.next hv19a
  replace Xq3 := Xq3.next hv19a
  refine wpOp_step rfl (fun K hK => ?_)
  go_simp
  refine (two_at 5 _ _ (mk2 8 x y) (mk2 6 x y) v19a Xq2 Xq3).mono ?_
  rintro e v19b ⟨uq4, rfl, Xq4, hv19b⟩
  have E19b := E19a.trans (hv19b.mono E19a.size)
  replace Xq2 := Xq2.next hv19b
  replace Xq3 := Xq3.next hv19b
  refine hK _ _ ⟨E19b, ?_⟩
  clear hK K hv19a hv19b E19a E18b
  refine wpX_step (rs := [68]) (by kernel_rfl) (by simp) ?_
  intro v20a hv20a j hj
  obtain rfl : j = 68 := by simpa using hj
  clear hj
  have E20a := E19b.trans (hv20a.mono E19b.size)
  replace Xq2 := Xq2.next hv20a
  replace Xq3 := Xq3.next hv20a
  replace Xq4 := Xq4.next hv20a
  refine wpOp_step rfl (fun K hK => ?_)
  go_simp
  refine (ask_at cols row ca ccap ra rcap _ _ _ (mk2 5 (mk2 8 x y) (mk2 6 x y)) v20a Xq4 (E.next E20a).ic (E.next E20a).sr (E.next E20a).c0 (E.next E20a).r0).mono ?_
  rintro e v20b ⟨rfl, hv20b⟩
  have E20b := E20a.trans (hv20b.mono E20a.size)
  replace Xq2 := Xq2.next hv20b
  replace Xq3 := Xq3.next hv20b
  replace Xq4 := Xq4.next hv20b
  rw [← A6.out]
  refine hK _ _ ⟨E20b, ?_⟩
  clear hK K hv20a hv20b E20a E19b
  refine wpX_take (some 100) (i := 69) (v := .bool true) rfl rfl (by kernel_rfl) (by kernel_rfl) (by kernel_rfl) (fun _ _ _ h => h) (Or.inl ⟨rfl, fun n => ?_⟩) E20b ?_
  · go_simp
  simp only [Act.put, List.setIfInBounds_toArray, List.set_cons_zero, List.set_cons_succ]
  refine wpX_take (some 101) (i := 70) (v := .bool true) rfl rfl (by kernel_rfl) (by kernel_rfl) (by kernel_rfl) (fun _ _ _ h => h) (Or.inl ⟨rfl, fun n => ?_⟩) E20b ?_
  · go_simp
  simp only [Act.put, List.setIfInBounds_toArray, List.set_cons_zero, List.set_cons_succ]
  refine wpX_take (some 8) (i := 71) (v := .bool true) rfl rfl (by kernel_rfl) (by kernel_rfl) (by kernel_rfl) (fun _ _ _ h => h) (Or.inl ⟨rfl, fun n => ?_⟩) E20b ?_
  · go_simp
  simp only [Act.put, List.setIfInBounds_toArray, List.set_cons_zero, List.set_cons_succ]
  refine wpX_done (by kernel_rfl) ?_
  intro vz hvz
  have Dz := E20b.trans (hvz.mono E20b.size)
  replace hA := chain hA Dz
  clear p0 x0 x1 x2 x3 x4 x5 y0 y1 y2 y3 y4 y5
  go_wp2_with fail
  go_ret
  exact ⟨rfl, hA⟩
end Go.Proofs.Ytbdhmjojamoafaa
