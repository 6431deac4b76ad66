/- The walk of exprs.value, kind by kind. -/
import Derived.Test.YtkcnmgcmcemnfacYA
import Derived.Test.YtkcnmgcmcemnfacW10
namespace Go.Proofs.Ytkcnmgcmcemnfac
open Go.RowKit

/-- The world of value's variables. -/
abbrev vw (w : World) (k : Int) (v : Vl) (c : Int) (a : Option Addr) (n cap : Nat) (ra : Option Addr) (rn rcap : Nat) : World := ((w.alloc (.cells #[.int .i64 k, .int .i64 v.1, .int .i64 v.2.1, .string v.2.2, .int .i64 c, .slice a n cap] 27)).alloc (.cells #[.slice ra rn rcap] 28)).alloc (.cells #[.int .i64 0, .int .i64 0, .string ⟨#[]⟩] 24)
structure VwF (w w3 : World) (k : Int) (v : Vl) (c : Int) (a : Option Addr) (n cap : Nat) (ra : Option Addr) (rn rcap : Nat) : Prop where
  six : Six w3 w.heap.size 0 k v c a n cap
  row : w3.cell? ⟨w.heap.size + 1, 0, none⟩ = some (.slice ra rn rcap)
  box : Box w3 (w.heap.size + 1 + 1) (.int .i64 0) (.int .i64 0) (.string ⟨#[]⟩)
  low : Below w.heap.size w w3
  size : w3.heap.size = w.heap.size + 3
theorem vw_facts (w : World) (k : Int) (v : Vl) (c : Int) (a : Option Addr) (n cap : Nat) (ra : Option Addr) (rn rcap : Nat) : VwF w (vw w k v c a n cap ra rn rcap) k v c a n cap ra rn rcap := by
  have h1 : Below w.heap.size w (w.alloc (.cells #[.int .i64 k, .int .i64 v.1, .int .i64 v.2.1, .string v.2.2, .int .i64 c, .slice a n cap] 27)) := (Below.refl _ _).alloc (Nat.le_refl _) _
  have S := Six.new w k v c a n cap 27
  have z1 : (w.alloc (.cells #[.int .i64 k, .int .i64 v.1, .int .i64 v.2.1, .string v.2.2, .int .i64 c, .slice a n cap] 27)).heap.size = w.heap.size + 1 := by simp
  unfold vw
  generalize w.alloc (.cells #[.int .i64 k, .int .i64 v.1, .int .i64 v.2.1, .string v.2.2, .int .i64 c, .slice a n cap] 27) = w1 at *
  have h2 : Below w1.heap.size w1 (w1.alloc (.cells #[.slice ra rn rcap] 28)) := (Below.refl _ _).alloc (Nat.le_refl _) _
  have c2 : (w1.alloc (.cells #[.slice ra rn rcap] 28)).cell? ⟨w1.heap.size, 0, none⟩ = some (.slice ra rn rcap) := by simp
  have z2 : (w1.alloc (.cells #[.slice ra rn rcap] 28)).heap.size = w1.heap.size + 1 := by simp
  generalize w1.alloc (.cells #[.slice ra rn rcap] 28) = w2 at *
  have h3 : Below w2.heap.size w2 (w2.alloc (.cells #[.int .i64 0, .int .i64 0, .string ⟨#[]⟩] 24)) := (Below.refl _ _).alloc (Nat.le_refl _) _
  have B := Box.new w2 (.int .i64 0) (.int .i64 0) (.string ⟨#[]⟩) 24
  have z3 : (w2.alloc (.cells #[.int .i64 0, .int .i64 0, .string ⟨#[]⟩] 24)).heap.size = w2.heap.size + 1 := by simp
  generalize w2.alloc (.cells #[.int .i64 0, .int .i64 0, .string ⟨#[]⟩] 24) = w3 at *
  rw [z2, z1] at B
  rw [z1] at c2
  exact ⟨(S.next h2 (by omega)).next h3 (by omega), (h3.cell (p := ⟨w.heap.size + 1, 0, none⟩) (by show w.heap.size + 1 < _; omega)).trans c2, B, chain (chain h1 h2) h3, by omega⟩

/-- The kid in a place comes to r, in whatever world that has grown out of this one. -/
def KidOk (b : Nat) (i : Int) (r : Vl) (w : World) : Prop :=
  ∀ W, Below w.heap.size w W → Calls Try.prog 38 #[.int .i64 i, .pointer (some ⟨b, 0, none⟩), .pointer (some ⟨b + 1, 0, none⟩)] W fun e w' => e = .returned (agV r) ∧ Below W.heap.size W w'

set_option maxHeartbeats 600000 in
theorem value_1 (v : Vl) (c : Int) (a : Option Addr) (n cap : Nat) (ra : Option Addr) (rn rcap : Nat) (w : World)  :
    Calls Try.prog 27 #[exV (1) v c a n cap, .slice ra rn rcap] w fun e w' => e = .returned (agV (bareP v)) ∧ Below w.heap.size w w' := by
  have F := vw_facts w 1 v c a n cap ra rn rcap
  go_enter Try.func27, Try.ntmps27
  go_wp2_with fail
  change VwF w (((w.alloc (.cells #[.int .i64 1, .int .i64 v.1, .int .i64 v.2.1, .string v.2.2, .int .i64 c, .slice a n cap] 27)).alloc (.cells #[.slice ra rn rcap] 28)).alloc (.cells #[.int .i64 0, .int .i64 0, .string ⟨#[]⟩] 24)) 1 v c a n cap ra rn rcap at F
  generalize ((w.alloc (.cells #[.int .i64 1, .int .i64 v.1, .int .i64 v.2.1, .string v.2.2, .int .i64 c, .slice a n cap] 27)).alloc (.cells #[.slice ra rn rcap] 28)).alloc (.cells #[.int .i64 0, .int .i64 0, .string ⟨#[]⟩] 24) = w3 at *
  obtain ⟨S, rr, R, hA, z⟩ := F
  refine (bare_any _ _ _ _).mono ?_
  rintro e w4 ⟨rfl, hb⟩
  have hA := chain hA hb
  have R := R.next hb
  clear S rr
  have ⟨b0, b1, b2, b3, b4, b5, b6⟩ := R
  go_wp2_with fail
  exact bodyPost_ret (v := .agg #[.int .i64 v.1, .int .i64 (bareN v.1 v.2.1), .string (bareS v.1 v.2.2)]) (by simp [results, Try.results27, go_sem, b1, b2, b3]) rfl ⟨rfl, below_set3 hA (by omega)⟩

set_option maxHeartbeats 600000 in
theorem value_2 (v : Vl) (c : Int) (a : Option Addr) (n cap : Nat) (ra : Option Addr) (rn rcap : Nat) (w : World) (row : List Vl) (j : Nat) (hj : j < row.length) (hrn : rn = row.length) (hc : c = j) (hs : SlAt w ra row) :
    Calls Try.prog 27 #[exV (2) v c a n cap, .slice ra rn rcap] w fun e w' => e = .returned (agV (bareP row[j])) ∧ Below w.heap.size w w' := by
  subst hrn hc
  have F := vw_facts w 2 v j a n cap ra row.length rcap
  obtain ⟨b, off, rfl, hbl, r0, r1, r2⟩ := (hs.next F.low).elem hj
  have F' := F.row
  generalize row[j] = u at *
  go_enter Try.func27, Try.ntmps27
  go_wp2_with fail
  change VwF w (((w.alloc (.cells #[.int .i64 2, .int .i64 v.1, .int .i64 v.2.1, .string v.2.2, .int .i64 j, .slice a n cap] 27)).alloc (.cells #[.slice (some ⟨b, off, none⟩) row.length rcap] 28)).alloc (.cells #[.int .i64 0, .int .i64 0, .string ⟨#[]⟩] 24)) 2 v j a n cap (some ⟨b, off, none⟩) row.length rcap at F
  generalize ((w.alloc (.cells #[.int .i64 2, .int .i64 v.1, .int .i64 v.2.1, .string v.2.2, .int .i64 j, .slice a n cap] 27)).alloc (.cells #[.slice (some ⟨b, off, none⟩) row.length rcap] 28)).alloc (.cells #[.int .i64 0, .int .i64 0, .string ⟨#[]⟩] 24) = w3 at *
  obtain ⟨S, rr, R, hA, z⟩ := F
  refine (bare_any _ _ _ _).mono ?_
  rintro e w4 ⟨rfl, hb⟩
  have hA := chain hA hb
  have R := R.next hb
  clear S rr F' r0 r1 r2
  have ⟨b0, b1, b2, b3, b4, b5, b6⟩ := R
  go_wp2_with fail
  exact bodyPost_ret (v := .agg #[.int .i64 u.1, .int .i64 (bareN u.1 u.2.1), .string (bareS u.1 u.2.2)]) (by simp [results, Try.results27, go_sem, b1, b2, b3]) rfl ⟨rfl, below_set3 hA (by omega)⟩

set_option maxHeartbeats 600000 in
theorem value_3 (v : Vl) (c : Int) (a : Option Addr) (n cap : Nat) (ra : Option Addr) (rn rcap : Nat) (w : World) (u0 : Vl) (k0 : KidOk w.heap.size 0 u0 (vw w 3 v c a n cap ra rn rcap)) :
    Calls Try.prog 27 #[exV (3) v c a n cap, .slice ra rn rcap] w fun e w' => e = .returned (agV (notP u0)) ∧ Below w.heap.size w w' := by
  have F := vw_facts w 3 v c a n cap ra rn rcap
  go_enter Try.func27, Try.ntmps27
  go_wp2_with fail
  unfold vw at k0
  change VwF w (((w.alloc (.cells #[.int .i64 3, .int .i64 v.1, .int .i64 v.2.1, .string v.2.2, .int .i64 c, .slice a n cap] 27)).alloc (.cells #[.slice ra rn rcap] 28)).alloc (.cells #[.int .i64 0, .int .i64 0, .string ⟨#[]⟩] 24)) 3 v c a n cap ra rn rcap at F
  generalize ((w.alloc (.cells #[.int .i64 3, .int .i64 v.1, .int .i64 v.2.1, .string v.2.2, .int .i64 c, .slice a n cap] 27)).alloc (.cells #[.slice ra rn rcap] 28)).alloc (.cells #[.int .i64 0, .int .i64 0, .string ⟨#[]⟩] 24) = w3 at *
  obtain ⟨S, rr, R, hA, z⟩ := F
  skip
  refine (k0 _ (Below.refl _ _)).mono ?_
  rintro e w4 ⟨rfl, hb⟩
  have hA := chain hA hb
  have R := R.next hb
  go_wp2_with fail
  refine (not_any _ _ _ _).mono ?_
  rintro e w5 ⟨rfl, hb⟩
  have hA := chain hA hb
  have R := R.next hb
  clear S rr k0
  have ⟨b0, b1, b2, b3, b4, b5, b6⟩ := R
  go_wp2_with fail
  exact bodyPost_ret (v := .agg #[.int .i64 (tk (not3 (cls u0.1 u0.2.1))), .int .i64 (tn (not3 (cls u0.1 u0.2.1))), .string ⟨#[]⟩]) (by simp [results, Try.results27, go_sem, b1, b2, b3]) rfl ⟨rfl, below_set3 hA (by omega)⟩

set_option maxHeartbeats 600000 in
theorem value_16 (v : Vl) (c : Int) (a : Option Addr) (n cap : Nat) (ra : Option Addr) (rn rcap : Nat) (w : World) (u0 : Vl) (k0 : KidOk w.heap.size 0 u0 (vw w 16 v c a n cap ra rn rcap)) :
    Calls Try.prog 27 #[exV (16) v c a n cap, .slice ra rn rcap] w fun e w' => e = .returned (agV (tri (some (u0.1 == 1)))) ∧ Below w.heap.size w w' := by
  have F := vw_facts w 16 v c a n cap ra rn rcap
  go_enter Try.func27, Try.ntmps27
  go_wp2_with fail
  unfold vw at k0
  change VwF w (((w.alloc (.cells #[.int .i64 16, .int .i64 v.1, .int .i64 v.2.1, .string v.2.2, .int .i64 c, .slice a n cap] 27)).alloc (.cells #[.slice ra rn rcap] 28)).alloc (.cells #[.int .i64 0, .int .i64 0, .string ⟨#[]⟩] 24)) 16 v c a n cap ra rn rcap at F
  generalize ((w.alloc (.cells #[.int .i64 16, .int .i64 v.1, .int .i64 v.2.1, .string v.2.2, .int .i64 c, .slice a n cap] 27)).alloc (.cells #[.slice ra rn rcap] 28)).alloc (.cells #[.int .i64 0, .int .i64 0, .string ⟨#[]⟩] 24) = w3 at *
  obtain ⟨S, rr, R, hA, z⟩ := F
  refine (k0 _ (Below.refl _ _)).mono ?_
  rintro e w4 ⟨rfl, hb⟩
  have hA := chain hA hb
  have R := R.next hb
  go_wp2_with fail
  refine (isNull_at _ _ _ _).mono ?_
  rintro e w5 ⟨rfl, hb⟩
  have hA := chain hA hb
  have R := R.next hb
  go_wp2_with fail
  refine (bool_any _ _).mono ?_
  rintro e w6 ⟨rfl, hb⟩
  have hA := chain hA hb
  have R := R.next hb
  clear S rr k0
  have ⟨b0, b1, b2, b3, b4, b5, b6⟩ := R
  go_wp2_with fail
  exact bodyPost_ret (v := .agg #[.int .i64 2, .int .i64 (tn (some (u0.1 == 1))), .string ⟨#[]⟩]) (by simp [results, Try.results27, go_sem, b1, b2, b3]) rfl ⟨rfl, below_set3 hA (by omega)⟩

set_option maxHeartbeats 600000 in
theorem value_17t (v : Vl) (c : Int) (a : Option Addr) (n cap : Nat) (ra : Option Addr) (rn rcap : Nat) (w : World) (u0 : Vl) (k0 : KidOk w.heap.size 0 u0 (vw w 17 v c a n cap ra rn rcap)) (u1 : Vl) (k1 : KidOk w.heap.size 1 u1 (vw w 17 v c a n cap ra rn rcap)) (ht : (cls u0.1 u0.2.1 == some true) = true) :
    Calls Try.prog 27 #[exV (17) v c a n cap, .slice ra rn rcap] w fun e w' => e = .returned (agV u1) ∧ Below w.heap.size w w' := by
  have F := vw_facts w 17 v c a n cap ra rn rcap
  go_enter Try.func27, Try.ntmps27
  go_wp2_with fail
  unfold vw at k0 k1
  change VwF w (((w.alloc (.cells #[.int .i64 17, .int .i64 v.1, .int .i64 v.2.1, .string v.2.2, .int .i64 c, .slice a n cap] 27)).alloc (.cells #[.slice ra rn rcap] 28)).alloc (.cells #[.int .i64 0, .int .i64 0, .string ⟨#[]⟩] 24)) 17 v c a n cap ra rn rcap at F
  generalize ((w.alloc (.cells #[.int .i64 17, .int .i64 v.1, .int .i64 v.2.1, .string v.2.2, .int .i64 c, .slice a n cap] 27)).alloc (.cells #[.slice ra rn rcap] 28)).alloc (.cells #[.int .i64 0, .int .i64 0, .string ⟨#[]⟩] 24) = w3 at *
  obtain ⟨S, rr, R, hA, z⟩ := F
  refine (k0 _ (Below.refl _ _)).mono ?_
  rintro e w4 ⟨rfl, hb⟩
  have hB := hb
  have hA := chain hA hb
  have R := R.next hb
  go_wp2_with fail
  refine (true_any _ _ _ _).mono ?_
  rintro e w5 ⟨rfl, hb⟩
  have hA := chain hA hb
  have R := R.next hb
  rw [ht]
  have hB := chain hB hb
  go_wp2_with fail
  refine (k1 _ hB).mono ?_
  rintro e w6 ⟨rfl, hb⟩
  have hA := chain hA hb
  have R := R.next hb
  clear S rr k0 k1 hB
  have ⟨b0, b1, b2, b3, b4, b5, b6⟩ := R
  go_wp2_with fail
  exact bodyPost_ret (v := agV u1) (by simp [results, Try.results27, go_sem, b1, b2, b3]) rfl ⟨rfl, below_set3 hA (by omega)⟩

set_option maxHeartbeats 600000 in
theorem value_17f (v : Vl) (c : Int) (a : Option Addr) (n cap : Nat) (ra : Option Addr) (rn rcap : Nat) (w : World) (u0 : Vl) (k0 : KidOk w.heap.size 0 u0 (vw w 17 v c a n cap ra rn rcap)) (u1 : Vl) (k1 : KidOk w.heap.size 2 u1 (vw w 17 v c a n cap ra rn rcap)) (ht : (cls u0.1 u0.2.1 == some true) = false) :
    Calls Try.prog 27 #[exV (17) v c a n cap, .slice ra rn rcap] w fun e w' => e = .returned (agV u1) ∧ Below w.heap.size w w' := by
  have F := vw_facts w 17 v c a n cap ra rn rcap
  go_enter Try.func27, Try.ntmps27
  go_wp2_with fail
  unfold vw at k0 k1
  change VwF w (((w.alloc (.cells #[.int .i64 17, .int .i64 v.1, .int .i64 v.2.1, .string v.2.2, .int .i64 c, .slice a n cap] 27)).alloc (.cells #[.slice ra rn rcap] 28)).alloc (.cells #[.int .i64 0, .int .i64 0, .string ⟨#[]⟩] 24)) 17 v c a n cap ra rn rcap at F
  generalize ((w.alloc (.cells #[.int .i64 17, .int .i64 v.1, .int .i64 v.2.1, .string v.2.2, .int .i64 c, .slice a n cap] 27)).alloc (.cells #[.slice ra rn rcap] 28)).alloc (.cells #[.int .i64 0, .int .i64 0, .string ⟨#[]⟩] 24) = w3 at *
  obtain ⟨S, rr, R, hA, z⟩ := F
  refine (k0 _ (Below.refl _ _)).mono ?_
  rintro e w4 ⟨rfl, hb⟩
  have hB := hb
  have hA := chain hA hb
  have R := R.next hb
  go_wp2_with fail
  refine (true_any _ _ _ _).mono ?_
  rintro e w5 ⟨rfl, hb⟩
  have hA := chain hA hb
  have R := R.next hb
  rw [ht]
  have hB := chain hB hb
  go_wp2_with fail
  refine (k1 _ hB).mono ?_
  rintro e w6 ⟨rfl, hb⟩
  have hA := chain hA hb
  have R := R.next hb
  clear S rr k0 k1 hB
  have ⟨b0, b1, b2, b3, b4, b5, b6⟩ := R
  go_wp2_with fail
  exact bodyPost_ret (v := agV u1) (by simp [results, Try.results27, go_sem, b1, b2, b3]) rfl ⟨rfl, below_set3 hA (by omega)⟩

set_option maxHeartbeats 600000 in
theorem value_two (k : Int) (v : Vl) (c : Int) (a : Option Addr) (n cap : Nat) (ra : Option Addr) (rn rcap : Nat) (w : World) (u0 : Vl) (k0 : KidOk w.heap.size 0 u0 (vw w k v c a n cap ra rn rcap)) (u1 : Vl) (k1 : KidOk w.heap.size 1 u1 (vw w k v c a n cap ra rn rcap)) (h4 : 4 ≤ k) (h18 : k ≤ 15 ∨ k = 18) (g0 : wrongP u0 = 0) (g1 : wrongP u1 = 0) :
    Calls Try.prog 27 #[exV k v c a n cap, .slice ra rn rcap] w fun e w' => e = .returned (agV (twoP k u0 u1)) ∧ Below w.heap.size w w' := by
  have n1 : (k == 1) = false := by simp; omega
  have n2 : (k == 2) = false := by simp; omega
  have n3 : (k == 3) = false := by simp; omega
  have n16 : (k == 16) = false := by simp; omega
  have n17 : (k == 17) = false := by simp; omega
  have F := vw_facts w k v c a n cap ra rn rcap
  go_enter Try.func27, Try.ntmps27
  go_wp2_with fail
  unfold vw at k0 k1
  change VwF w (((w.alloc (.cells #[.int .i64 k, .int .i64 v.1, .int .i64 v.2.1, .string v.2.2, .int .i64 c, .slice a n cap] 27)).alloc (.cells #[.slice ra rn rcap] 28)).alloc (.cells #[.int .i64 0, .int .i64 0, .string ⟨#[]⟩] 24)) k v c a n cap ra rn rcap at F
  generalize ((w.alloc (.cells #[.int .i64 k, .int .i64 v.1, .int .i64 v.2.1, .string v.2.2, .int .i64 c, .slice a n cap] 27)).alloc (.cells #[.slice ra rn rcap] 28)).alloc (.cells #[.int .i64 0, .int .i64 0, .string ⟨#[]⟩] 24) = w3 at *
  obtain ⟨S, rr, R, hA, z⟩ := F
  refine (ofTwo_at k h4 h18 _).mono ?_
  rintro e w4 ⟨u, rfl, hF, hb⟩
  have hB := hb
  have hA := chain hA hb
  have R := R.next hb
  obtain ⟨g, cb, rfl, eg, hd⟩ := hF
  go_wp2_with fail
  refine (k0 _ hB).mono ?_
  rintro e w5 ⟨rfl, hb⟩
  have hB := chain hB hb
  have hC := hb
  have hA := chain hA hb
  have R := R.next hb
  go_wp2_with fail
  refine (k1 _ hB).mono ?_
  rintro e w6 ⟨rfl, hb⟩
  have hC := chain hC hb
  have hA := chain hA hb
  have R := R.next hb
  have con := hd u0 u1 _ g0 g1 hC
  generalize hr : twoP k u0 u1 = r at *
  have HR : Hid (twoP k u0 u1 = r) := hr
  clear hr
  clear hd k0 k1 S rr hB hC
  go_wp2_with (go_at_fn g; refine con.mono ?_)
  rintro e w7 ⟨rfl, hb⟩
  have hA := chain hA hb
  have R := R.next hb
  have ⟨b0, b1, b2, b3, b4, b5, b6⟩ := R
  go_wp2_with fail
  exact bodyPost_ret (v := agV r) (by simp [results, Try.results27, go_sem, b1, b2, b3]) rfl ⟨by rw [HR.out], below_set3 hA (by omega)⟩
end Go.Proofs.Ytkcnmgcmcemnfac
