/- The statements' own small functions: two, col, num, alive. -/
import Derived.Test.YtbdhmjojamoafaaYC
import Derived.Laws.StructEq
namespace Go.Proofs.Ytbdhmjojamoafaa
open Go.RowKit

/-- A value is this expression. -/
def XV (w : World) (u : Value) (x : Ex) : Prop := ∃ a cap, u = exV x.k x.v x.c a x.ks.length cap ∧ KsAt w.heap.size w a x.ks
theorem XV.next {w w1 : World} {u : Value} {x : Ex} (h : XV w u x) (hb : Below w.heap.size w w1) : XV w1 u x := by
  obtain ⟨a, cap, e, hk⟩ := h
  exact ⟨a, cap, e, (KsAt.next hb (Nat.le_refl _) hk).up hb.size⟩

theorem eval_xv (cols : List Int) (x : Ex) (row : List Vl) (ca : Option Addr) (ccap : Nat) (u : Value) (ra : Option Addr) (rcap : Nat) (w : World) (hc : IsAt w.heap.size w ca cols) (hx : XV w u x) (hs : SlAt w ra row) :
    Calls Try.prog 13 #[.slice ca cols.length ccap, u, .slice ra row.length rcap] w fun e w' => e = .returned (.tuple #[agV (evalX cols x row).1, .int .i64 (evalX cols x row).2]) ∧ Below w.heap.size w w' := by
  obtain ⟨a, cap, rfl, hk⟩ := hx
  exact eval_at cols x row ca ccap a cap ra rcap w hc hk hs
theorem type_xv (cols : List Int) (x : Ex) (ca : Option Addr) (ccap : Nat) (u : Value) (w : World) (hc : IsAt w.heap.size w ca cols) (hx : XV w u x) :
    Calls Try.prog 9 #[.slice ca cols.length ccap, u] w fun e w' => e = .returned (.tuple #[.int .i64 (typeTop cols x).1, .int .i64 (typeTop cols x).2]) ∧ Below w.heap.size w w' := by
  obtain ⟨a, cap, rfl, hk⟩ := hx
  exact type_at cols x ca ccap a cap w hk hc
theorem num_at (n : Int) (w : World) :
    Calls Try.prog 30 #[.int .i64 n] w fun e w' => e = .returned (.agg #[.int .i64 3, .int .i64 n, .string ⟨#[]⟩]) ∧ Below w.heap.size w w' := by
  go_enter Try.func30, Try.ntmps30
  go_wp2_with fail
  exact bodyPost_ret (v := .agg #[.int .i64 3, .int .i64 n, .string ⟨#[]⟩]) (by simp [results, Try.results30, go_sem]) rfl ⟨rfl, (Below.refl _ _).alloc (Nat.le_refl _) _⟩
theorem col_at (c : Int) (w : World) :
    Calls Try.prog 29 #[.int .i64 c] w fun e w' => e = .returned (exV 2 vl0 c none 0 0) ∧ Below w.heap.size w w' := by
  go_enter Try.func29, Try.ntmps29
  go_wp2_with fail
  exact bodyPost_ret (v := exV 2 vl0 c none 0 0) (by simp [results, Try.results29, go_sem, vl0]) rfl ⟨rfl, (Below.refl _ _).alloc (Nat.le_refl _) _⟩

theorem ks_one (w : World) {B : Nat} {x : Ex} (ax : Option Addr) (cx : Nat) (hB : B ≤ w.heap.size) (kx : KsAt B w ax x.ks) :
    KsAt (w.heap.size + 1) (w.alloc (.cells #[.int .i64 x.k, .int .i64 x.v.1, .int .i64 x.v.2.1, .string x.v.2.2, .int .i64 x.c, .slice ax x.ks.length cx] 27)) (some ⟨w.heap.size, 0, none⟩) [x] := by
  have hal : Below w.heap.size w (w.alloc (.cells #[.int .i64 x.k, .int .i64 x.v.1, .int .i64 x.v.2.1, .string x.v.2.2, .int .i64 x.c, .slice ax x.ks.length cx] 27)) := (Below.refl _ _).alloc (Nat.le_refl _) _
  have Kx := (KsAt.next hal hB kx).up (Nat.le_succ_of_le hB)
  refine .some w.heap.size 0 _ (fun i => ax) (fun i => cx) (Nat.lt_succ_self _) (fun i hi => ?_) (fun i hi => ?_)
  · match i, hi with
    | 0, _ => exact ⟨by simp, by simp, by simp, by simp, by simp, by simp⟩
  · match i, hi with
    | 0, _ => exact Kx
theorem ks_two (w : World) {B : Nat} {x y : Ex} (ax : Option Addr) (cx : Nat) (ay : Option Addr) (cy : Nat) (hB : B ≤ w.heap.size) (kx : KsAt B w ax x.ks) (ky : KsAt B w ay y.ks) :
    KsAt (w.heap.size + 1) (w.alloc (.cells #[.int .i64 x.k, .int .i64 x.v.1, .int .i64 x.v.2.1, .string x.v.2.2, .int .i64 x.c, .slice ax x.ks.length cx, .int .i64 y.k, .int .i64 y.v.1, .int .i64 y.v.2.1, .string y.v.2.2, .int .i64 y.c, .slice ay y.ks.length cy] 27)) (some ⟨w.heap.size, 0, none⟩) [x, y] := by
  have hal : Below w.heap.size w (w.alloc (.cells #[.int .i64 x.k, .int .i64 x.v.1, .int .i64 x.v.2.1, .string x.v.2.2, .int .i64 x.c, .slice ax x.ks.length cx, .int .i64 y.k, .int .i64 y.v.1, .int .i64 y.v.2.1, .string y.v.2.2, .int .i64 y.c, .slice ay y.ks.length cy] 27)) := (Below.refl _ _).alloc (Nat.le_refl _) _
  have Kx := (KsAt.next hal hB kx).up (Nat.le_succ_of_le hB)
  have Ky := (KsAt.next hal hB ky).up (Nat.le_succ_of_le hB)
  refine .some w.heap.size 0 _ (fun i => if i = 0 then ax else ay) (fun i => if i = 0 then cx else cy) (Nat.lt_succ_self _) (fun i hi => ?_) (fun i hi => ?_)
  · match i, hi with
    | 0, _ => exact ⟨by simp, by simp, by simp, by simp, by simp, by simp⟩
    | 1, _ => exact ⟨by simp, by simp, by simp, by simp, by simp, by simp⟩
  · match i, hi with
    | 0, _ => exact Kx
    | 1, _ => exact Ky
theorem ks_three (w : World) {B : Nat} {x y z : Ex} (ax : Option Addr) (cx : Nat) (ay : Option Addr) (cy : Nat) (az : Option Addr) (cz : Nat) (hB : B ≤ w.heap.size) (kx : KsAt B w ax x.ks) (ky : KsAt B w ay y.ks) (kz : KsAt B w az z.ks) :
    KsAt (w.heap.size + 1) (w.alloc (.cells #[.int .i64 x.k, .int .i64 x.v.1, .int .i64 x.v.2.1, .string x.v.2.2, .int .i64 x.c, .slice ax x.ks.length cx, .int .i64 y.k, .int .i64 y.v.1, .int .i64 y.v.2.1, .string y.v.2.2, .int .i64 y.c, .slice ay y.ks.length cy, .int .i64 z.k, .int .i64 z.v.1, .int .i64 z.v.2.1, .string z.v.2.2, .int .i64 z.c, .slice az z.ks.length cz] 27)) (some ⟨w.heap.size, 0, none⟩) [x, y, z] := by
  have hal : Below w.heap.size w (w.alloc (.cells #[.int .i64 x.k, .int .i64 x.v.1, .int .i64 x.v.2.1, .string x.v.2.2, .int .i64 x.c, .slice ax x.ks.length cx, .int .i64 y.k, .int .i64 y.v.1, .int .i64 y.v.2.1, .string y.v.2.2, .int .i64 y.c, .slice ay y.ks.length cy, .int .i64 z.k, .int .i64 z.v.1, .int .i64 z.v.2.1, .string z.v.2.2, .int .i64 z.c, .slice az z.ks.length cz] 27)) := (Below.refl _ _).alloc (Nat.le_refl _) _
  have Kx := (KsAt.next hal hB kx).up (Nat.le_succ_of_le hB)
  have Ky := (KsAt.next hal hB ky).up (Nat.le_succ_of_le hB)
  have Kz := (KsAt.next hal hB kz).up (Nat.le_succ_of_le hB)
  refine .some w.heap.size 0 _ (fun i => if i = 0 then ax else if i = 1 then ay else az) (fun i => if i = 0 then cx else if i = 1 then cy else cz) (Nat.lt_succ_self _) (fun i hi => ?_) (fun i hi => ?_)
  · match i, hi with
    | 0, _ => exact ⟨by simp, by simp, by simp, by simp, by simp, by simp⟩
    | 1, _ => exact ⟨by simp, by simp, by simp, by simp, by simp, by simp⟩
    | 2, _ => exact ⟨by simp, by simp, by simp, by simp, by simp, by simp⟩
  · match i, hi with
    | 0, _ => exact Kx
    | 1, _ => exact Ky
    | 2, _ => exact Kz

set_option maxHeartbeats 600000 in
theorem two_at (k : Int) (vx vy : Value) (x y : Ex) (w : World) (hx : XV w vx x) (hy : XV w vy y) :
    Calls Try.prog 17 #[.int .i64 k, vx, vy] w fun e w' => ∃ u, e = .returned u ∧ XV w' u (mk2 k x y) ∧ Below w.heap.size w w' := by
  obtain ⟨ax, cx, rfl, kx⟩ := hx
  obtain ⟨ay, cy, rfl, ky⟩ := hy
  go_enter Try.func17, Try.ntmps17
  go_wp2_with fail
  have h1 : Below w.heap.size w (w.alloc (.cells #[.int .i64 x.k, .int .i64 x.v.1, .int .i64 x.v.2.1, .string x.v.2.2, .int .i64 x.c, .slice ax x.ks.length cx] 27)) := (Below.refl _ _).alloc (Nat.le_refl _) _
  have z1 : (w.alloc (.cells #[.int .i64 x.k, .int .i64 x.v.1, .int .i64 x.v.2.1, .string x.v.2.2, .int .i64 x.c, .slice ax x.ks.length cx] 27)).heap.size = w.heap.size + 1 := by simp
  generalize w.alloc (.cells #[.int .i64 x.k, .int .i64 x.v.1, .int .i64 x.v.2.1, .string x.v.2.2, .int .i64 x.c, .slice ax x.ks.length cx] 27) = w1 at *
  have h2 : Below w1.heap.size w1 (w1.alloc (.cells #[.int .i64 y.k, .int .i64 y.v.1, .int .i64 y.v.2.1, .string y.v.2.2, .int .i64 y.c, .slice ay y.ks.length cy] 27)) := (Below.refl _ _).alloc (Nat.le_refl _) _
  have z2 : (w1.alloc (.cells #[.int .i64 y.k, .int .i64 y.v.1, .int .i64 y.v.2.1, .string y.v.2.2, .int .i64 y.c, .slice ay y.ks.length cy] 27)).heap.size = w1.heap.size + 1 := by simp
  generalize w1.alloc (.cells #[.int .i64 y.k, .int .i64 y.v.1, .int .i64 y.v.2.1, .string y.v.2.2, .int .i64 y.c, .slice ay y.ks.length cy] 27) = w2 at *
  have h3 : Below w2.heap.size w2 (w2.alloc (.cells #[.int .i64 k, .int .i64 0, .int .i64 0, .string ⟨#[]⟩, .int .i64 0, .slice (some ⟨w.heap.size + 1 + 1 + 1, 0, none⟩) 2 2] 27)) := (Below.refl _ _).alloc (Nat.le_refl _) _
  have S := Six.new w2 k vl0 0 (some ⟨w.heap.size + 1 + 1 + 1, 0, none⟩) 2 2 27
  simp only [vl0] at S
  have z3 : (w2.alloc (.cells #[.int .i64 k, .int .i64 0, .int .i64 0, .string ⟨#[]⟩, .int .i64 0, .slice (some ⟨w.heap.size + 1 + 1 + 1, 0, none⟩) 2 2] 27)).heap.size = w2.heap.size + 1 := by simp
  generalize w2.alloc (.cells #[.int .i64 k, .int .i64 0, .int .i64 0, .string ⟨#[]⟩, .int .i64 0, .slice (some ⟨w.heap.size + 1 + 1 + 1, 0, none⟩) 2 2] 27) = w3 at *
  have hA := chain (chain h1 h2) h3
  have K := ks_two w3 (B := w.heap.size) ax cx ay cy hA.size (KsAt.next hA (Nat.le_refl _) kx) (KsAt.next hA (Nat.le_refl _) ky)
  have h4 : Below w3.heap.size w3 (w3.alloc (.cells #[.int .i64 x.k, .int .i64 x.v.1, .int .i64 x.v.2.1, .string x.v.2.2, .int .i64 x.c, .slice ax x.ks.length cx, .int .i64 y.k, .int .i64 y.v.1, .int .i64 y.v.2.1, .string y.v.2.2, .int .i64 y.c, .slice ay y.ks.length cy] 27)) := (Below.refl _ _).alloc (Nat.le_refl _) _
  have z4 : (w3.alloc (.cells #[.int .i64 x.k, .int .i64 x.v.1, .int .i64 x.v.2.1, .string x.v.2.2, .int .i64 x.c, .slice ax x.ks.length cx, .int .i64 y.k, .int .i64 y.v.1, .int .i64 y.v.2.1, .string y.v.2.2, .int .i64 y.c, .slice ay y.ks.length cy] 27)).heap.size = w3.heap.size + 1 := by simp
  have S4 := S.next h4 (by omega)
  generalize w3.alloc (.cells #[.int .i64 x.k, .int .i64 x.v.1, .int .i64 x.v.2.1, .string x.v.2.2, .int .i64 x.c, .slice ax x.ks.length cx, .int .i64 y.k, .int .i64 y.v.1, .int .i64 y.v.2.1, .string y.v.2.2, .int .i64 y.c, .slice ay y.ks.length cy] 27) = w4 at *
  obtain ⟨s0, s1, s2, s3, s4, s5⟩ := S4
  have e2 : w2.heap.size = w.heap.size + 1 + 1 := by omega
  have e3 : w3.heap.size = w.heap.size + 1 + 1 + 1 := by omega
  rw [e2] at s0 s1 s2 s3 s4 s5
  rw [e3] at K
  simp only [Nat.zero_add] at s1 s2 s3 s4 s5
  exact bodyPost_ret (v := exV k vl0 0 (some ⟨w.heap.size + 1 + 1 + 1, 0, none⟩) 2 2) (by simp [results, Try.results17, go_sem, s0, s1, s2, s3, s4, s5, vl0]) rfl ⟨_, rfl, ⟨_, 2, rfl, by rw [z4, e3]; exact K⟩, chain hA h4⟩

theorem alive_plain : evalX [3, 3] (mk2 12 (.mk 2 vl0 0 []) (.mk 2 vl0 1 [])) [(3, 2, ⟨#[]⟩), (3, 3, ⟨#[]⟩)] = ((3, 5, ⟨#[]⟩), 0) := by
  rfl
set_option maxHeartbeats 600000 in
theorem alive_at (w : World) : Calls Try.prog 15 #[] w fun e w' => e = .returned (.bool true) ∧ Below w.heap.size w w' := by
  go_enter Try.func15, Try.ntmps15
  go_wp2_with fail
  have hA : Below w.heap.size w (w.alloc (.cells #[.int .i64 3, .int .i64 3] 3)) := (Below.refl _ _).alloc (Nat.le_refl _) _
  have IC : IsAt (w.heap.size + 1) (w.alloc (.cells #[.int .i64 3, .int .i64 3] 3)) (some ⟨w.heap.size, 0, none⟩) [3, 3] :=
    ⟨by unfold maxLen; simp, .inr ⟨w.heap.size, 0, rfl, Nat.lt_succ_self _, fun i hi => by
      match i, hi with
      | 0, _ => simp
      | 1, _ => simp⟩⟩
  have z1 : (w.alloc (.cells #[.int .i64 3, .int .i64 3] 3)).heap.size = w.heap.size + 1 := by simp
  generalize w.alloc (.cells #[.int .i64 3, .int .i64 3] 3) = w1 at *
  refine (col_at 0 w1).mono ?_
  rintro e w2 ⟨rfl, hb⟩
  have z2 := hb.size
  have IC := IC.next hb (by omega)
  have hA := chain hA hb
  clear hb
  go_wp2_with fail
  refine (col_at 1 w2).mono ?_
  rintro e w3 ⟨rfl, hb⟩
  have z3 := hb.size
  have IC := IC.next hb (by omega)
  have hA := chain hA hb
  clear hb
  go_wp2_with fail
  refine (two_at 12 _ _ (.mk 2 vl0 0 []) (.mk 2 vl0 1 []) w3 ⟨none, 0, rfl, .nil _⟩ ⟨none, 0, rfl, .nil _⟩).mono ?_
  rintro e w4 ⟨u, rfl, hX, hb⟩
  have z4 := hb.size
  have IC := IC.next hb (by omega)
  have hA := chain hA hb
  clear hb
  go_wp2_with fail
  refine (num_at 2 w4).mono ?_
  rintro e w5 ⟨rfl, hb⟩
  have z5 := hb.size
  have IC := IC.next hb (by omega)
  have hX := hX.next hb
  have hA := chain hA hb
  clear hb
  go_wp2_with fail
  refine (num_at 3 w5).mono ?_
  rintro e w6 ⟨rfl, hb⟩
  have z6 := hb.size
  have IC := IC.next hb (by omega)
  have hX := hX.next hb
  have hA := chain hA hb
  clear hb
  go_wp2_with fail
  have hb : Below w6.heap.size w6 (w6.alloc (.cells #[.int .i64 3, .int .i64 2, .string ⟨#[]⟩, .int .i64 3, .int .i64 3, .string ⟨#[]⟩] 24)) := (Below.refl _ _).alloc (Nat.le_refl _) _
  have SR : SlAt (w6.alloc (.cells #[.int .i64 3, .int .i64 2, .string ⟨#[]⟩, .int .i64 3, .int .i64 3, .string ⟨#[]⟩] 24)) (some ⟨w6.heap.size, 0, none⟩) [(3, 2, ⟨#[]⟩), (3, 3, ⟨#[]⟩)] :=
    ⟨by unfold maxLen; simp, .inr ⟨w6.heap.size, 0, rfl, fun i hi => by
      match i, hi with
      | 0, _ => exact ⟨by simp, by simp, by simp⟩
      | 1, _ => exact ⟨by simp, by simp, by simp⟩, by simp⟩⟩
  have z7 := hb.size
  have IC := (IC.next hb (by omega)).up (show w.heap.size + 1 ≤ (w6.alloc (.cells #[.int .i64 3, .int .i64 2, .string ⟨#[]⟩, .int .i64 3, .int .i64 3, .string ⟨#[]⟩] 24)).heap.size by omega)
  have hX := hX.next hb
  have hA := chain hA hb
  have con := eval_xv [3, 3] _ _ (some ⟨w.heap.size, 0, none⟩) 2 u (some ⟨w6.heap.size, 0, none⟩) 2 _ IC hX SR
  rw [alive_plain] at con
  generalize w6.alloc (.cells #[.int .i64 3, .int .i64 2, .string ⟨#[]⟩, .int .i64 3, .int .i64 3, .string ⟨#[]⟩] 24) = w7 at *
  clear hb IC hX SR
  refine con.mono ?_
  rintro e w8 ⟨rfl, hb⟩
  have hA := chain hA hb
  clear con hb
  go_wp2_with fail
  have hA2 : Below w8.heap.size w8 (w8.alloc (.cells #[.int .i64 3, .int .i64 5, .string ⟨#[]⟩] 24)) := (Below.refl _ _).alloc (Nat.le_refl _) _
  have B := Box.new w8 (.int .i64 3) (.int .i64 5) (.string ⟨#[]⟩) 24
  generalize w8.alloc (.cells #[.int .i64 3, .int .i64 5, .string ⟨#[]⟩] 24) = w9 at *
  have hA := chain hA hA2
  have p0 := past_cell B.c0
  have p1 := past_cell B.c1
  have p2 := past_cell B.c2
  haveI : Nonempty (Past w9) := ⟨⟨_, Below.refl _ _⟩⟩
  refine wp_region_past (by kernel_rfl) (by kernel_rfl) ?_
  repeat (go_big_quiet_step (first | (go_at_call 30; exact in_past (num_at 5 _))))
  refine wpQuiet_nil ?_
  rintro w10 ⟨⟨v10, hb10⟩, h10⟩
  obtain rfl : w10 = v10 := h10
  have hA := chain hA hb10
  clear p0 p1 p2 B hA2
  go_wp2_with fail
  go_ret
  exact ⟨rfl, hA⟩
end Go.Proofs.Ytbdhmjojamoafaa
