/- The walk of not, the second function within tidelaw3.ExprsTurned. -/
import Derived.Test.YtbdhmjojamoafaaU1
import Derived.Test.YtbdhmjojamoafaaExt
namespace Go.Proofs.Ytbdhmjojamoafaa
open Go.RowKit

/-- What ask and not lean on: the columns, the row, two expressions, ask itself, all in variables. -/
structure Env (w : World) (cols : List Int) (row : List Vl) (x y : Ex) (ca : Option Addr) (ccap : Nat) (ra : Option Addr) (rcap : Nat) (ax : Option Addr) (cx : Nat) (ay : Option Addr) (cy : Nat) (cb xb yb rb fb : Nat) : Prop where
  ic : IX w ca cols
  sr : SlAt w ra row
  kx : KX w ax x.ks
  ky : KX w ay y.ks
  c0 : w.cell? ⟨cb, 0, none⟩ = some (.slice ca cols.length ccap)
  r0 : w.cell? ⟨rb, 0, none⟩ = some (.slice ra row.length rcap)
  sx : Six w xb 0 x.k x.v x.c ax x.ks.length cx
  sy : Six w yb 0 y.k y.v y.c ay y.ks.length cy
  f0 : w.cell? ⟨fb, 0, none⟩ = some (.func (.func 18) #[] #[.pointer (some ⟨cb, 0, none⟩), .pointer (some ⟨rb, 0, none⟩)])
theorem Env.next {w w1 : World} {cols : List Int} {row : List Vl} {x y : Ex} {ca : Option Addr} {ccap : Nat} {ra : Option Addr} {rcap : Nat} {ax : Option Addr} {cx : Nat} {ay : Option Addr} {cy : Nat} {cb xb yb rb fb : Nat}
    (h : Env w cols row x y ca ccap ra rcap ax cx ay cy cb xb yb rb fb) (hb : Below w.heap.size w w1) : Env w1 cols row x y ca ccap ra rcap ax cx ay cy cb xb yb rb fb :=
  ⟨h.ic.next hb, h.sr.next hb, h.kx.next hb, h.ky.next hb, (hb.cell (p := ⟨cb, 0, none⟩) (World.block_lt_of_cell? _ _ h.c0)).trans h.c0, (hb.cell (p := ⟨rb, 0, none⟩) (World.block_lt_of_cell? _ _ h.r0)).trans h.r0,
    h.sx.next hb (World.block_lt_of_cell? _ _ h.sx.c0), h.sy.next hb (World.block_lt_of_cell? _ _ h.sy.c0), (hb.cell (p := ⟨fb, 0, none⟩) (World.block_lt_of_cell? _ _ h.f0)).trans h.f0⟩

set_option maxHeartbeats 2000000 in
theorem not_at (k : Int) (cols : List Int) (row : List Vl) (x y : Ex) (ca : Option Addr) (ccap : Nat) (ra : Option Addr) (rcap : Nat) (ax : Option Addr) (cx : Nat) (ay : Option Addr) (cy : Nat) (cb xb yb rb fb : Nat) (w : World)
    (E : Env w cols row x y ca ccap ra rcap ax cx ay cy cb xb yb rb fb) :
    Calls Try.prog 19 #[.int .i64 k, .pointer (some ⟨fb, 0, none⟩), .pointer (some ⟨xb, 0, none⟩), .pointer (some ⟨yb, 0, none⟩)] w fun e w' => e = .returned (agV (askP cols row (mk1 3 (mk2 k x y)))) ∧ Below w.heap.size w w' := by
  generalize hr : askP cols row (mk1 3 (mk2 k x y)) = r
  have HR : Hid (askP cols row (mk1 3 (mk2 k x y)) = r) := hr
  clear hr
  have hal : Below w.heap.size w (w.alloc (.cells #[.int .i64 0, .int .i64 0, .string ⟨#[]⟩] 24)) := (Below.refl _ _).alloc (Nat.le_refl _) _
  have R := Box.new w (.int .i64 0) (.int .i64 0) (.string ⟨#[]⟩) 24
  have p0 := past_cell E.f0
  have x0 := past_cell E.sx.c0
  have x1 := past_cell E.sx.c1
  have x2 := past_cell E.sx.c2
  have x3 := past_cell E.sx.c3
  have x4 := past_cell E.sx.c4
  have x5 := past_cell E.sx.c5
  have y0 := past_cell E.sy.c0
  have y1 := past_cell E.sy.c1
  have y2 := past_cell E.sy.c2
  have y3 := past_cell E.sy.c3
  have y4 := past_cell E.sy.c4
  have y5 := past_cell E.sy.c5
  simp only [Nat.zero_add] at x1 x2 x3 x4 x5 y1 y2 y3 y4 y5
  go_enter Try.func19, Try.ntmps19
  go_wp2_with fail
  generalize w.alloc (.cells #[.int .i64 0, .int .i64 0, .string ⟨#[]⟩] 24) = w0 at *
  have hB0 : Below w.heap.size w w0.drew := hal.drew
  refine wp_region_ext0 w (by kernel_rfl) ?_
  refine wpX_take (some 6) (i := 0) (v := .func (.func 18) #[] #[.pointer (some ⟨cb, 0, none⟩), .pointer (some ⟨rb, 0, none⟩)]) rfl rfl (by kernel_rfl) (by kernel_rfl) (by kernel_rfl) (fun _ _ _ h => h) (Or.inl ⟨rfl, fun n => ?_⟩) hB0 ?_
  · go_simp
  simp only [Act.put, List.setIfInBounds_toArray, List.set_cons_zero, List.set_cons_succ]
  refine wpX_take (some 7) (i := 1) (v := .int .i64 k) rfl rfl (by kernel_rfl) (by kernel_rfl) (by kernel_rfl) (fun _ _ _ h => h) (Or.inl ⟨rfl, fun n => ?_⟩) hB0 ?_
  · go_simp
  simp only [Act.put, List.setIfInBounds_toArray, List.set_cons_zero, List.set_cons_succ]
  refine wpX_take (some 8) (i := 2) (v := exV x.k x.v x.c ax x.ks.length cx) rfl rfl (by kernel_rfl) (by kernel_rfl) (by kernel_rfl) (fun _ _ _ h => h) (Or.inl ⟨rfl, fun n => ?_⟩) hB0 ?_
  · go_simp
  simp only [Act.put, List.setIfInBounds_toArray, List.set_cons_zero, List.set_cons_succ]
  refine wpX_take (some 9) (i := 3) (v := exV y.k y.v y.c ay y.ks.length cy) rfl rfl (by kernel_rfl) (by kernel_rfl) (by kernel_rfl) (fun _ _ _ h => h) (Or.inl ⟨rfl, fun n => ?_⟩) hB0 ?_
  · go_simp
  simp only [Act.put, List.setIfInBounds_toArray, List.set_cons_zero, List.set_cons_succ]
  clear p0 x0 x1 x2 x3 x4 x5 y0 y1 y2 y3 y4 y5
  refine wpX_step (rs := [4]) (by kernel_rfl) (by simp) ?_
  intro w5 hb5 j hj
  obtain rfl : j = 4 := by simpa using hj
  clear hj
  have D5 := hB0.trans (hb5.mono hB0.size)
  have E5 := E.next D5
  refine wpOp_step rfl (fun K hK => ?_)
  go_simp
  refine (two_at k _ _ x y w5 ⟨ax, cx, rfl, E5.kx⟩ ⟨ay, cy, rfl, E5.ky⟩).mono ?_
  rintro e w6 ⟨u, rfl, hX, hb6⟩
  have D6 := D5.trans (hb6.mono D5.size)
  have R6 := (R.next (((Below.refl _ _).drew).trans hb5)).next hb6
  have z6 := D6.size
  refine hK _ _ ⟨D6, ?_⟩
  clear hK K hb6
  obtain ⟨a2, c2, eu, K2⟩ := hX
  have K2 : KX w6 a2 [x, y] := K2
  obtain rfl : u = .agg #[.int .i64 k, .int .i64 0, .int .i64 0, .string ⟨#[]⟩, .int .i64 0, .slice a2 2 c2] := eu
  refine wpX_step (rs := [5]) (by kernel_rfl) (by simp) ?_
  intro w7 hb7 j hj
  obtain rfl : j = 5 := by simpa using hj
  clear hj
  have D7 := D6.trans (hb7.mono D6.size)
  have R7 := R6.next hb7
  have K7 := K2.next hb7
  refine wpOp_step rfl (fun K hK => ?_)
  go_simp
  have hal8 : Below w7.heap.size w7 (w7.alloc (.cells #[.int .i64 k, .int .i64 0, .int .i64 0, .string ⟨#[]⟩, .int .i64 0, .slice a2 2 c2] 27)) := (Below.refl _ _).alloc (Nat.le_refl _) _
  have K8 : KX (w7.alloc (.cells #[.int .i64 k, .int .i64 0, .int .i64 0, .string ⟨#[]⟩, .int .i64 0, .slice a2 2 c2] 27)) (some ⟨w7.heap.size, 0, none⟩) [mk2 k x y] := kx_one w7 (x := mk2 k x y) a2 c2 K7
  have D8 := D7.trans (hal8.mono D7.size)
  have R8 := R7.next hal8
  refine hK _ _ ⟨D8, ?_⟩
  clear hK K
  generalize w7.alloc (.cells #[.int .i64 k, .int .i64 0, .int .i64 0, .string ⟨#[]⟩, .int .i64 0, .slice a2 2 c2] 27) = w8 at *
  refine wpX_step (rs := [6]) (by kernel_rfl) (by simp) ?_
  intro w9 hb9 j hj
  obtain rfl : j = 6 := by simpa using hj
  clear hj
  have D9 := D8.trans (hb9.mono D8.size)
  have R9 := R8.next hb9
  have K9 := K8.next hb9
  refine wpOp_step rfl (fun K hK => ?_)
  go_simp
  refine hK _ _ ⟨D9, ?_⟩
  clear hK K
  refine wpX_step (rs := [7]) (by kernel_rfl) (by simp) ?_
  intro w10 hb10 j hj
  obtain rfl : j = 7 := by simpa using hj
  clear hj
  have D10 := D9.trans (hb10.mono D9.size)
  have R10 := R9.next hb10
  have K10 := K9.next hb10
  have E10 := E.next D10
  refine wpOp_step rfl (fun K hK => ?_)
  go_simp
  refine (ask_at cols row ca ccap ra rcap cb rb _ (mk1 3 (mk2 k x y)) w10 ⟨some ⟨w7.heap.size, 0, none⟩, 1, rfl, K10⟩ E10.ic E10.sr E10.c0 E10.r0).mono ?_
  rintro e w11 ⟨rfl, hb11⟩
  have D11 := D10.trans (hb11.mono D10.size)
  have R11 := R10.next hb11
  rw [HR.out]
  refine hK _ _ ⟨D11, ?_⟩
  clear hK K
  refine wpX_step (rs := [8]) (by kernel_rfl) (by simp) ?_
  intro w12 hb12 j hj
  obtain rfl : j = 8 := by simpa using hj
  clear hj
  have D12 := D11.trans (hb12.mono D11.size)
  have ⟨b0, b1, b2, b3, b4, b5, b6⟩ := R11.next hb12
  have P12 := (R11.next hb12).put (.int .i64 r.1) (.int .i64 r.2.1) (.string r.2.2)
  refine wpOp_step rfl (fun K hK => ?_)
  go_simp
  refine hK _ _ ⟨below_set3 D12 (Nat.le_refl _), ?_⟩
  clear hK K
  refine wpX_done (by kernel_rfl) ?_
  intro w13 hb13
  have D13 := (below_set3 D12 (Nat.le_refl _) (x := .int .i64 r.1) (y := .int .i64 r.2.1) (z := .string r.2.2)).trans (hb13.mono (below_set3 D12 (Nat.le_refl _)).size)
  have ⟨g0, g1, g2, g3, g4, g5, g6⟩ := P12.next hb13
  clear b0 b1 b2 b3 b4 b5 b6
  go_wp2_with fail
  exact bodyPost_ret (v := agV r) (by simp [results, Try.results19, go_sem, g1, g2, g3]) rfl ⟨rfl, D13⟩
end Go.Proofs.Ytbdhmjojamoafaa
