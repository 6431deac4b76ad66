/- The walk of the document's Of. -/
import Derived.Test.YtbdhmjojamoafaaYC
import Derived.Test.YtbdhmjojamoafaaYE
import Derived.Test.YtbdhmjojamoafaaW13
namespace Go.Proofs.Ytbdhmjojamoafaa
open Go.RowKit

/-- What Of is asked for. -/
def OfAt (row : List Vl) (x : Ex) : Prop :=
  ∀ (B : Nat) (a : Option Addr) (cap : Nat) (ra : Option Addr) (rcap : Nat) (w : World), KsAt B w a x.ks → B ≤ w.heap.size → SlAt w ra row →
    Calls Try.prog 28 #[exV x.k x.v x.c a x.ks.length cap, .slice ra row.length rcap] w fun e w' => e = .returned (agV (valX row x)) ∧ Below w.heap.size w w'

/-- The world of Of's variables. -/
abbrev ow (w : World) (k : Int) (v : Vl) (c : Int) (a : Option Addr) (n cap : Nat) : World := (w.alloc (.cells #[.int .i64 k, .int .i64 v.1, .int .i64 v.2.1, .string v.2.2, .int .i64 c, .slice a n cap] 27)).alloc (.cells #[.int .i64 0, .int .i64 0, .string ⟨#[]⟩] 24)
structure OwF (w w3 : World) (k : Int) (v : Vl) (c : Int) (a : Option Addr) (n cap : Nat) : Prop where
  six : Six w3 w.heap.size 0 k v c a n cap
  box : Box w3 (w.heap.size + 1) (.int .i64 0) (.int .i64 0) (.string ⟨#[]⟩)
  low : Below w.heap.size w w3
  lt : w.heap.size + 1 < w3.heap.size
theorem ow_facts (w : World) (k : Int) (v : Vl) (c : Int) (a : Option Addr) (n cap : Nat) : OwF w (ow w k v c a n cap) k v c a n cap := by
  have h1 : Below w.heap.size w (w.alloc (.cells #[.int .i64 k, .int .i64 v.1, .int .i64 v.2.1, .string v.2.2, .int .i64 c, .slice a n cap] 27)) := (Below.refl _ _).alloc (Nat.le_refl _) _
  have S := Six.new w k v c a n cap 27
  have z1 : (w.alloc (.cells #[.int .i64 k, .int .i64 v.1, .int .i64 v.2.1, .string v.2.2, .int .i64 c, .slice a n cap] 27)).heap.size = w.heap.size + 1 := by simp
  unfold ow
  generalize w.alloc (.cells #[.int .i64 k, .int .i64 v.1, .int .i64 v.2.1, .string v.2.2, .int .i64 c, .slice a n cap] 27) = w1 at *
  have h3 : Below w1.heap.size w1 (w1.alloc (.cells #[.int .i64 0, .int .i64 0, .string ⟨#[]⟩] 24)) := (Below.refl _ _).alloc (Nat.le_refl _) _
  have B := Box.new w1 (.int .i64 0) (.int .i64 0) (.string ⟨#[]⟩) 24
  have z3 : (w1.alloc (.cells #[.int .i64 0, .int .i64 0, .string ⟨#[]⟩] 24)).heap.size = w1.heap.size + 1 := by simp
  generalize w1.alloc (.cells #[.int .i64 0, .int .i64 0, .string ⟨#[]⟩] 24) = w3 at *
  rw [z1] at B
  exact ⟨S.next h3 (by omega), B, chain h1 h3, by omega⟩

/-- The kid in a place comes to r, wherever the world has grown. -/
def KidOf (b o : Nat) (ra : Option Addr) (rn rcap : Nat) (r : Vl) (w : World) : Prop :=
  ∃ x : Ex, ∃ ai ci, Six w b o x.k x.v x.c ai x.ks.length ci ∧ b < w.heap.size ∧
    ∀ W, Below w.heap.size w W → Calls Try.prog 28 #[exV x.k x.v x.c ai x.ks.length ci, .slice ra rn rcap] W fun e w' => e = .returned (agV r) ∧ Below W.heap.size W w'
theorem KidOf.next {b o : Nat} {ra : Option Addr} {rn rcap : Nat} {r : Vl} {w w1 : World} (h : KidOf b o ra rn rcap r w) (hb : Below w.heap.size w w1) : KidOf b o ra rn rcap r w1 := by
  obtain ⟨x, ai, ci, S, hlt, con⟩ := h
  exact ⟨x, ai, ci, S.next hb hlt, Nat.lt_of_lt_of_le hlt hb.size, fun W hW => con W (chain hb hW)⟩

set_option maxRecDepth 100000 in
set_option maxHeartbeats 4000000 in
theorem of_3 (v : Vl) (c : Int) (b off cap : Nat) (ra : Option Addr) (rn rcap : Nat) (w : World) (u0 : Vl) (k0 : KidOf b (off) ra rn rcap u0 w) (g0 : wrongP u0 = 0)  :
    Calls Try.prog 28 #[exV 3 v c (some ⟨b, off, none⟩) 1 cap, .slice ra rn rcap] w fun e w' => e = .returned (agV (notP u0)) ∧ Below w.heap.size w w' := by
  have F := ow_facts w 3 v c (some ⟨b, off, none⟩) 1 cap
  replace k0 := k0.next F.low
  unfold ow at F k0
  obtain ⟨x0, ai0, ci0, S0, l0, con0⟩ := k0
  obtain ⟨a0, a1, a2, a3, a4, a5⟩ := S0
  replace con0 := con0 _ (Below.refl _ _)
  go_enter Try.func28, Try.ntmps28
  go_wp2_with fail
  refine con0.mono ?_
  clear con0
  rintro e w4 ⟨rfl, hb⟩
  clear a0 a1 a2 a3 a4 a5
  generalize (w.alloc (.cells #[.int .i64 3, .int .i64 v.1, .int .i64 v.2.1, .string v.2.2, .int .i64 c, .slice (some ⟨b, off, none⟩) 1 cap] 27)).alloc (.cells #[.int .i64 0, .int .i64 0, .string ⟨#[]⟩] 24) = w3 at *
  obtain ⟨S, R, hA, lt0⟩ := F
  replace S := S.next hb (by omega)
  replace R := R.next hb
  replace hA := chain hA hb
  replace lt0 := Nat.lt_of_lt_of_le lt0 hb.size
  clear hb
  have hal : Below w4.heap.size w4 (w4.alloc (.cells #[.int .i64 u0.1, .int .i64 u0.2.1, .string u0.2.2] 24)) := (Below.refl _ _).alloc (Nat.le_refl _) _
  have BA := Box.new w4 (.int .i64 u0.1) (.int .i64 u0.2.1) (.string u0.2.2) 24
  replace S := S.next hal (by omega)
  replace R := R.next hal
  replace hA := chain hA hal
  replace lt0 := Nat.lt_of_lt_of_le lt0 hal.size
  have ⟨s0, s1, s2, s3, s4, s5⟩ := S
  simp only [Nat.zero_add] at s1 s2 s3 s4 s5
  have ⟨q0, q1, q2, q3, q4, q5, q6⟩ := BA
  go_wp2_with fail
  clear s0 s1 s2 s3 s4 s5
  refine (refNot_any _ _ _ _ (wrong_tru g0)).mono ?_
  rintro e w6 ⟨rfl, hb⟩
  replace S := S.next hb (by omega)
  replace hA := chain hA hb
  replace lt0 := Nat.lt_of_lt_of_le lt0 hb.size
  replace R := R.next hb
  clear q0 q1 q2 q3 q4 q5 q6
  have ⟨b0, b1, b2, b3, b4, b5, b6⟩ := R
  go_wp2_with fail
  exact bodyPost_ret (v := .agg #[.int .i64 (tk (not3 (cls u0.1 u0.2.1))), .int .i64 (tn (not3 (cls u0.1 u0.2.1))), .string ⟨#[]⟩]) (by simp [results, Try.results28, go_sem, b1, b2, b3]) rfl ⟨rfl, below_set3 hA (by omega)⟩

set_option maxRecDepth 100000 in
set_option maxHeartbeats 4000000 in
theorem of_16 (v : Vl) (c : Int) (b off cap : Nat) (ra : Option Addr) (rn rcap : Nat) (w : World) (u0 : Vl) (k0 : KidOf b (off) ra rn rcap u0 w) (_g0 : wrongP u0 = 0)  :
    Calls Try.prog 28 #[exV 16 v c (some ⟨b, off, none⟩) 1 cap, .slice ra rn rcap] w fun e w' => e = .returned (agV (tri (some (u0.1 == 1)))) ∧ Below w.heap.size w w' := by
  have F := ow_facts w 16 v c (some ⟨b, off, none⟩) 1 cap
  replace k0 := k0.next F.low
  unfold ow at F k0
  obtain ⟨x0, ai0, ci0, S0, l0, con0⟩ := k0
  obtain ⟨a0, a1, a2, a3, a4, a5⟩ := S0
  replace con0 := con0 _ (Below.refl _ _)
  go_enter Try.func28, Try.ntmps28
  go_wp2_with fail
  refine con0.mono ?_
  clear con0
  rintro e w4 ⟨rfl, hb⟩
  clear a0 a1 a2 a3 a4 a5
  generalize (w.alloc (.cells #[.int .i64 16, .int .i64 v.1, .int .i64 v.2.1, .string v.2.2, .int .i64 c, .slice (some ⟨b, off, none⟩) 1 cap] 27)).alloc (.cells #[.int .i64 0, .int .i64 0, .string ⟨#[]⟩] 24) = w3 at *
  obtain ⟨S, R, hA, lt0⟩ := F
  replace S := S.next hb (by omega)
  replace R := R.next hb
  replace hA := chain hA hb
  replace lt0 := Nat.lt_of_lt_of_le lt0 hb.size
  clear hb
  have hal : Below w4.heap.size w4 (w4.alloc (.cells #[.int .i64 u0.1, .int .i64 u0.2.1, .string u0.2.2] 24)) := (Below.refl _ _).alloc (Nat.le_refl _) _
  have BA := Box.new w4 (.int .i64 u0.1) (.int .i64 u0.2.1) (.string u0.2.2) 24
  replace S := S.next hal (by omega)
  replace R := R.next hal
  replace hA := chain hA hal
  replace lt0 := Nat.lt_of_lt_of_le lt0 hal.size
  have ⟨s0, s1, s2, s3, s4, s5⟩ := S
  simp only [Nat.zero_add] at s1 s2 s3 s4 s5
  have ⟨q0, q1, q2, q3, q4, q5, q6⟩ := BA
  go_wp2_with fail
  clear s0 s1 s2 s3 s4 s5
  refine (refTruth_any _ _).mono ?_
  rintro e w6 ⟨rfl, hb⟩
  replace S := S.next hb (by omega)
  replace hA := chain hA hb
  replace lt0 := Nat.lt_of_lt_of_le lt0 hb.size
  replace R := R.next hb
  clear q0 q1 q2 q3 q4 q5 q6
  have ⟨b0, b1, b2, b3, b4, b5, b6⟩ := R
  go_wp2_with fail
  exact bodyPost_ret (v := .agg #[.int .i64 2, .int .i64 (tn (some (u0.1 == 1))), .string ⟨#[]⟩]) (by simp [results, Try.results28, go_sem, b1, b2, b3]) rfl ⟨rfl, below_set3 hA (by omega)⟩

set_option maxRecDepth 100000 in
set_option maxHeartbeats 4000000 in
theorem of_17t (v : Vl) (c : Int) (b off cap : Nat) (ra : Option Addr) (rn rcap : Nat) (w : World) (u0 : Vl) (k0 : KidOf b (off) ra rn rcap u0 w) (g0 : wrongP u0 = 0) (u1 : Vl) (k1 : KidOf b (off + 6) ra rn rcap u1 w) (_g1 : wrongP u1 = 0) (ht : (cls u0.1 u0.2.1 == some true) = true) :
    Calls Try.prog 28 #[exV 17 v c (some ⟨b, off, none⟩) 3 cap, .slice ra rn rcap] w fun e w' => e = .returned (agV u1) ∧ Below w.heap.size w w' := by
  have F := ow_facts w 17 v c (some ⟨b, off, none⟩) 3 cap
  replace k0 := k0.next F.low
  replace k1 := k1.next F.low
  unfold ow at F k0 k1
  obtain ⟨x0, ai0, ci0, S0, l0, con0⟩ := k0
  obtain ⟨a0, a1, a2, a3, a4, a5⟩ := S0
  replace con0 := con0 _ (Below.refl _ _)
  go_enter Try.func28, Try.ntmps28
  go_wp2_with fail
  refine con0.mono ?_
  clear con0
  rintro e w4 ⟨rfl, hb⟩
  clear a0 a1 a2 a3 a4 a5
  generalize (w.alloc (.cells #[.int .i64 17, .int .i64 v.1, .int .i64 v.2.1, .string v.2.2, .int .i64 c, .slice (some ⟨b, off, none⟩) 3 cap] 27)).alloc (.cells #[.int .i64 0, .int .i64 0, .string ⟨#[]⟩] 24) = w3 at *
  obtain ⟨S, R, hA, lt0⟩ := F
  replace S := S.next hb (by omega)
  replace R := R.next hb
  replace hA := chain hA hb
  replace lt0 := Nat.lt_of_lt_of_le lt0 hb.size
  replace k1 := k1.next hb
  clear hb
  have hal : Below w4.heap.size w4 (w4.alloc (.cells #[.int .i64 u0.1, .int .i64 u0.2.1, .string u0.2.2] 24)) := (Below.refl _ _).alloc (Nat.le_refl _) _
  have BA := Box.new w4 (.int .i64 u0.1) (.int .i64 u0.2.1) (.string u0.2.2) 24
  replace S := S.next hal (by omega)
  replace R := R.next hal
  replace hA := chain hA hal
  replace lt0 := Nat.lt_of_lt_of_le lt0 hal.size
  replace k1 := k1.next hal
  have ⟨s0, s1, s2, s3, s4, s5⟩ := S
  simp only [Nat.zero_add] at s1 s2 s3 s4 s5
  have ⟨q0, q1, q2, q3, q4, q5, q6⟩ := BA
  go_wp2_with fail
  clear s0 s1 s2 s3 s4 s5
  clear q0 q1 q2 q3 q4 q5 q6
  refine (refIs_any _ _ _ true _ (wrong_tru g0)).mono ?_
  rintro e w6 ⟨rfl, hb⟩
  replace S := S.next hb (by omega)
  replace hA := chain hA hb
  replace lt0 := Nat.lt_of_lt_of_le lt0 hb.size
  replace R := R.next hb
  replace k1 := k1.next hb
  clear hb
  rw [ht]
  obtain ⟨x1, ai1, ci1, S1, l1, con1⟩ := k1
  obtain ⟨a0, a1, a2, a3, a4, a5⟩ := S1
  replace con1 := con1 _ (Below.refl _ _)
  have ⟨s0, s1, s2, s3, s4, s5⟩ := S
  simp only [Nat.zero_add] at s1 s2 s3 s4 s5
  go_wp2_with fail
  clear s0 s1 s2 s3 s4 s5
  clear a0 a1 a2 a3 a4 a5
  refine (con1).mono ?_
  rintro e w7 ⟨rfl, hb⟩
  replace S := S.next hb (by omega)
  replace hA := chain hA hb
  replace lt0 := Nat.lt_of_lt_of_le lt0 hb.size
  replace R := R.next hb
  clear con1
  have ⟨b0, b1, b2, b3, b4, b5, b6⟩ := R
  go_wp2_with fail
  exact bodyPost_ret (v := agV u1) (by simp [results, Try.results28, go_sem, b1, b2, b3]) rfl ⟨rfl, below_set3 hA (by omega)⟩

set_option maxRecDepth 100000 in
set_option maxHeartbeats 4000000 in
theorem of_17f (v : Vl) (c : Int) (b off cap : Nat) (ra : Option Addr) (rn rcap : Nat) (w : World) (u0 : Vl) (k0 : KidOf b (off) ra rn rcap u0 w) (g0 : wrongP u0 = 0) (u2 : Vl) (k2 : KidOf b (off + 12) ra rn rcap u2 w) (_g2 : wrongP u2 = 0) (ht : (cls u0.1 u0.2.1 == some true) = false) :
    Calls Try.prog 28 #[exV 17 v c (some ⟨b, off, none⟩) 3 cap, .slice ra rn rcap] w fun e w' => e = .returned (agV u2) ∧ Below w.heap.size w w' := by
  have F := ow_facts w 17 v c (some ⟨b, off, none⟩) 3 cap
  replace k0 := k0.next F.low
  replace k2 := k2.next F.low
  unfold ow at F k0 k2
  obtain ⟨x0, ai0, ci0, S0, l0, con0⟩ := k0
  obtain ⟨a0, a1, a2, a3, a4, a5⟩ := S0
  replace con0 := con0 _ (Below.refl _ _)
  go_enter Try.func28, Try.ntmps28
  go_wp2_with fail
  refine con0.mono ?_
  clear con0
  rintro e w4 ⟨rfl, hb⟩
  clear a0 a1 a2 a3 a4 a5
  generalize (w.alloc (.cells #[.int .i64 17, .int .i64 v.1, .int .i64 v.2.1, .string v.2.2, .int .i64 c, .slice (some ⟨b, off, none⟩) 3 cap] 27)).alloc (.cells #[.int .i64 0, .int .i64 0, .string ⟨#[]⟩] 24) = w3 at *
  obtain ⟨S, R, hA, lt0⟩ := F
  replace S := S.next hb (by omega)
  replace R := R.next hb
  replace hA := chain hA hb
  replace lt0 := Nat.lt_of_lt_of_le lt0 hb.size
  replace k2 := k2.next hb
  clear hb
  have hal : Below w4.heap.size w4 (w4.alloc (.cells #[.int .i64 u0.1, .int .i64 u0.2.1, .string u0.2.2] 24)) := (Below.refl _ _).alloc (Nat.le_refl _) _
  have BA := Box.new w4 (.int .i64 u0.1) (.int .i64 u0.2.1) (.string u0.2.2) 24
  replace S := S.next hal (by omega)
  replace R := R.next hal
  replace hA := chain hA hal
  replace lt0 := Nat.lt_of_lt_of_le lt0 hal.size
  replace k2 := k2.next hal
  have ⟨s0, s1, s2, s3, s4, s5⟩ := S
  simp only [Nat.zero_add] at s1 s2 s3 s4 s5
  have ⟨q0, q1, q2, q3, q4, q5, q6⟩ := BA
  go_wp2_with fail
  clear s0 s1 s2 s3 s4 s5
  clear q0 q1 q2 q3 q4 q5 q6
  refine (refIs_any _ _ _ true _ (wrong_tru g0)).mono ?_
  rintro e w6 ⟨rfl, hb⟩
  replace S := S.next hb (by omega)
  replace hA := chain hA hb
  replace lt0 := Nat.lt_of_lt_of_le lt0 hb.size
  replace R := R.next hb
  replace k2 := k2.next hb
  clear hb
  rw [ht]
  obtain ⟨x2, ai2, ci2, S2, l2, con2⟩ := k2
  obtain ⟨a0, a1, a2, a3, a4, a5⟩ := S2
  replace con2 := con2 _ (Below.refl _ _)
  have ⟨s0, s1, s2, s3, s4, s5⟩ := S
  simp only [Nat.zero_add] at s1 s2 s3 s4 s5
  go_wp2_with fail
  clear s0 s1 s2 s3 s4 s5
  clear a0 a1 a2 a3 a4 a5
  refine (con2).mono ?_
  rintro e w7 ⟨rfl, hb⟩
  replace S := S.next hb (by omega)
  replace hA := chain hA hb
  replace lt0 := Nat.lt_of_lt_of_le lt0 hb.size
  replace R := R.next hb
  clear con2
  have ⟨b0, b1, b2, b3, b4, b5, b6⟩ := R
  go_wp2_with fail
  exact bodyPost_ret (v := agV u2) (by simp [results, Try.results28, go_sem, b1, b2, b3]) rfl ⟨rfl, below_set3 hA (by omega)⟩

set_option maxRecDepth 100000 in
set_option maxHeartbeats 4000000 in
theorem of_18n (v : Vl) (c : Int) (b off cap : Nat) (ra : Option Addr) (rn rcap : Nat) (w : World) (u0 : Vl) (k0 : KidOf b (off) ra rn rcap u0 w) (_g0 : wrongP u0 = 0) (u1 : Vl) (k1 : KidOf b (off + 6) ra rn rcap u1 w) (_g1 : wrongP u1 = 0) (hn : (u0.1 == 1) = true) :
    Calls Try.prog 28 #[exV 18 v c (some ⟨b, off, none⟩) 2 cap, .slice ra rn rcap] w fun e w' => e = .returned (agV u1) ∧ Below w.heap.size w w' := by
  have hn' : (u0.1 != 1) = false := by simpa using hn
  have F := ow_facts w 18 v c (some ⟨b, off, none⟩) 2 cap
  replace k0 := k0.next F.low
  replace k1 := k1.next F.low
  unfold ow at F k0 k1
  obtain ⟨x0, ai0, ci0, S0, l0, con0⟩ := k0
  obtain ⟨a0, a1, a2, a3, a4, a5⟩ := S0
  replace con0 := con0 _ (Below.refl _ _)
  go_enter Try.func28, Try.ntmps28
  go_wp2_with fail
  refine con0.mono ?_
  clear con0
  rintro e w4 ⟨rfl, hb⟩
  clear a0 a1 a2 a3 a4 a5
  generalize (w.alloc (.cells #[.int .i64 18, .int .i64 v.1, .int .i64 v.2.1, .string v.2.2, .int .i64 c, .slice (some ⟨b, off, none⟩) 2 cap] 27)).alloc (.cells #[.int .i64 0, .int .i64 0, .string ⟨#[]⟩] 24) = w3 at *
  obtain ⟨S, R, hA, lt0⟩ := F
  replace S := S.next hb (by omega)
  replace R := R.next hb
  replace hA := chain hA hb
  replace lt0 := Nat.lt_of_lt_of_le lt0 hb.size
  replace k1 := k1.next hb
  clear hb
  have hal : Below w4.heap.size w4 (w4.alloc (.cells #[.int .i64 u0.1, .int .i64 u0.2.1, .string u0.2.2] 24)) := (Below.refl _ _).alloc (Nat.le_refl _) _
  have BA := Box.new w4 (.int .i64 u0.1) (.int .i64 u0.2.1) (.string u0.2.2) 24
  replace S := S.next hal (by omega)
  replace R := R.next hal
  replace hA := chain hA hal
  replace lt0 := Nat.lt_of_lt_of_le lt0 hal.size
  replace k1 := k1.next hal
  obtain ⟨x1, ai1, ci1, S1, l1, con1⟩ := k1
  obtain ⟨a0, a1, a2, a3, a4, a5⟩ := S1
  replace con1 := con1 _ (Below.refl _ _)
  have ⟨s0, s1, s2, s3, s4, s5⟩ := S
  simp only [Nat.zero_add] at s1 s2 s3 s4 s5
  have ⟨q0, q1, q2, q3, q4, q5, q6⟩ := BA
  go_wp2_with fail
  clear s0 s1 s2 s3 s4 s5
  clear a0 a1 a2 a3 a4 a5
  clear q0 q1 q2 q3 q4 q5 q6
  refine (con1).mono ?_
  rintro e w6 ⟨rfl, hb⟩
  replace S := S.next hb (by omega)
  replace hA := chain hA hb
  replace lt0 := Nat.lt_of_lt_of_le lt0 hb.size
  replace R := R.next hb
  clear con1
  have ⟨b0, b1, b2, b3, b4, b5, b6⟩ := R
  go_wp2_with fail
  exact bodyPost_ret (v := agV u1) (by simp [results, Try.results28, go_sem, b1, b2, b3]) rfl ⟨rfl, below_set3 hA (by omega)⟩

set_option maxRecDepth 100000 in
set_option maxHeartbeats 4000000 in
theorem of_18k (v : Vl) (c : Int) (b off cap : Nat) (ra : Option Addr) (rn rcap : Nat) (w : World) (u0 : Vl) (k0 : KidOf b (off) ra rn rcap u0 w) (_g0 : wrongP u0 = 0) (hn : (u0.1 == 1) = false) :
    Calls Try.prog 28 #[exV 18 v c (some ⟨b, off, none⟩) 2 cap, .slice ra rn rcap] w fun e w' => e = .returned (agV u0) ∧ Below w.heap.size w w' := by
  have hn' : (u0.1 != 1) = true := by simpa using hn
  have F := ow_facts w 18 v c (some ⟨b, off, none⟩) 2 cap
  replace k0 := k0.next F.low
  unfold ow at F k0
  obtain ⟨x0, ai0, ci0, S0, l0, con0⟩ := k0
  obtain ⟨a0, a1, a2, a3, a4, a5⟩ := S0
  replace con0 := con0 _ (Below.refl _ _)
  go_enter Try.func28, Try.ntmps28
  go_wp2_with fail
  refine con0.mono ?_
  clear con0
  rintro e w4 ⟨rfl, hb⟩
  clear a0 a1 a2 a3 a4 a5
  generalize (w.alloc (.cells #[.int .i64 18, .int .i64 v.1, .int .i64 v.2.1, .string v.2.2, .int .i64 c, .slice (some ⟨b, off, none⟩) 2 cap] 27)).alloc (.cells #[.int .i64 0, .int .i64 0, .string ⟨#[]⟩] 24) = w3 at *
  obtain ⟨S, R, hA, lt0⟩ := F
  replace S := S.next hb (by omega)
  replace R := R.next hb
  replace hA := chain hA hb
  replace lt0 := Nat.lt_of_lt_of_le lt0 hb.size
  clear hb
  have hal : Below w4.heap.size w4 (w4.alloc (.cells #[.int .i64 u0.1, .int .i64 u0.2.1, .string u0.2.2] 24)) := (Below.refl _ _).alloc (Nat.le_refl _) _
  have BA := Box.new w4 (.int .i64 u0.1) (.int .i64 u0.2.1) (.string u0.2.2) 24
  replace S := S.next hal (by omega)
  replace R := R.next hal
  replace hA := chain hA hal
  replace lt0 := Nat.lt_of_lt_of_le lt0 hal.size
  have ⟨s0, s1, s2, s3, s4, s5⟩ := S
  simp only [Nat.zero_add] at s1 s2 s3 s4 s5
  have ⟨q0, q1, q2, q3, q4, q5, q6⟩ := BA
  have ⟨b0, b1, b2, b3, b4, b5, b6⟩ := R
  go_wp2_with fail
  exact bodyPost_ret (v := agV u0) (by simp [results, Try.results28, go_sem, b1, b2, b3]) rfl ⟨rfl, below_set3 hA (by omega)⟩

set_option maxRecDepth 100000 in
set_option maxHeartbeats 4000000 in
theorem of_4 (v : Vl) (c : Int) (b off cap : Nat) (ra : Option Addr) (rn rcap : Nat) (w : World) (u0 : Vl) (k0 : KidOf b (off) ra rn rcap u0 w) (g0 : wrongP u0 = 0) (u1 : Vl) (k1 : KidOf b (off + 6) ra rn rcap u1 w) (g1 : wrongP u1 = 0) (m0 m1 : Bool) (e0 : (u0.1 != 1) = m0) (e1 : (u1.1 != 1) = m1) :
    Calls Try.prog 28 #[exV 4 v c (some ⟨b, off, none⟩) 2 cap, .slice ra rn rcap] w fun e w' => e = .returned (agV (andP u0 u1)) ∧ Below w.heap.size w w' := by
  have F := ow_facts w 4 v c (some ⟨b, off, none⟩) 2 cap
  replace k0 := k0.next F.low
  replace k1 := k1.next F.low
  unfold ow at F k0 k1
  obtain ⟨x0, ai0, ci0, S0, l0, con0⟩ := k0
  obtain ⟨a0, a1, a2, a3, a4, a5⟩ := S0
  replace con0 := con0 _ (Below.refl _ _)
  go_enter Try.func28, Try.ntmps28
  go_wp2_with fail
  refine con0.mono ?_
  clear con0
  rintro e w4 ⟨rfl, hb⟩
  clear a0 a1 a2 a3 a4 a5
  generalize (w.alloc (.cells #[.int .i64 4, .int .i64 v.1, .int .i64 v.2.1, .string v.2.2, .int .i64 c, .slice (some ⟨b, off, none⟩) 2 cap] 27)).alloc (.cells #[.int .i64 0, .int .i64 0, .string ⟨#[]⟩] 24) = w3 at *
  obtain ⟨S, R, hA, lt0⟩ := F
  replace S := S.next hb (by omega)
  replace R := R.next hb
  replace hA := chain hA hb
  replace lt0 := Nat.lt_of_lt_of_le lt0 hb.size
  replace k1 := k1.next hb
  clear hb
  have hal : Below w4.heap.size w4 (w4.alloc (.cells #[.int .i64 u0.1, .int .i64 u0.2.1, .string u0.2.2] 24)) := (Below.refl _ _).alloc (Nat.le_refl _) _
  have BA := Box.new w4 (.int .i64 u0.1) (.int .i64 u0.2.1) (.string u0.2.2) 24
  replace S := S.next hal (by omega)
  replace R := R.next hal
  replace hA := chain hA hal
  replace lt0 := Nat.lt_of_lt_of_le lt0 hal.size
  replace k1 := k1.next hal
  obtain ⟨x1, ai1, ci1, S1, l1, con1⟩ := k1
  obtain ⟨a0, a1, a2, a3, a4, a5⟩ := S1
  replace con1 := con1 _ (Below.refl _ _)
  have ⟨s0, s1, s2, s3, s4, s5⟩ := S
  simp only [Nat.zero_add] at s1 s2 s3 s4 s5
  have ⟨q0, q1, q2, q3, q4, q5, q6⟩ := BA
  go_wp2_with fail
  clear s0 s1 s2 s3 s4 s5
  clear a0 a1 a2 a3 a4 a5
  clear q0 q1 q2 q3 q4 q5 q6
  refine (con1).mono ?_
  rintro e w6 ⟨rfl, hb⟩
  replace S := S.next hb (by omega)
  replace hA := chain hA hb
  replace lt0 := Nat.lt_of_lt_of_le lt0 hb.size
  replace R := R.next hb
  replace BA := BA.next hb
  clear con1
  have hal2 : Below w6.heap.size w6 (w6.alloc (.cells #[.int .i64 u1.1, .int .i64 u1.2.1, .string u1.2.2] 24)) := (Below.refl _ _).alloc (Nat.le_refl _) _
  have BB := Box.new w6 (.int .i64 u1.1) (.int .i64 u1.2.1) (.string u1.2.2) 24
  replace S := S.next hal2 (by omega)
  replace R := R.next hal2
  replace BA := BA.next hal2
  replace hA := chain hA hal2
  replace lt0 := Nat.lt_of_lt_of_le lt0 hal2.size
  obtain ⟨w1', w4'⟩ := wrong_kind g0
  have n0 : (u0.1 != 1) = m0 := e0
  have n1 : (u1.1 != 1) = m1 := e1
  cases m0 <;> cases m1
  all_goals
    have ⟨s0, s1, s2, s3, s4, s5⟩ := S
    simp only [Nat.zero_add] at s1 s2 s3 s4 s5
    have ⟨q0, q1, q2, q3, q4, q5, q6⟩ := BA
    have ⟨r0, r1, r2, r3, r4, r5, r6⟩ := BB
    go_wp2_with fail
    refine (refOrder_any _ _ _ _ _ _ _ w1' w4').mono ?_
    rintro e w8 ⟨rfl, hb8⟩
    have S8 := S.next hb8 (by omega)
    have R8 := R.next hb8
    have BA8 := BA.next hb8
    have BB8 := BB.next hb8
    have hA8 := chain hA hb8
    have lt8 := Nat.lt_of_lt_of_le lt0 hb8.size
    generalize cmpV u0.1 u0.2.1 u0.2.2 u1.1 u1.2.1 u1.2.2 = oo at *
    clear s0 s1 s2 s3 s4 s5 q0 q1 q2 q3 q4 q5 q6 r0 r1 r2 r3 r4 r5 r6
    have ⟨s0, s1, s2, s3, s4, s5⟩ := S8
    simp only [Nat.zero_add] at s1 s2 s3 s4 s5
    have ⟨q0, q1, q2, q3, q4, q5, q6⟩ := BA8
    have ⟨r0, r1, r2, r3, r4, r5, r6⟩ := BB8
    go_wp2_with fail
    refine (refAnd_any _ _ _ _ _ _ _ (wrong_tru g0) (wrong_tru g1)).mono ?_
    rintro e w9 ⟨rfl, hb9⟩
    have hA9 := chain hA8 hb9
    have ⟨b0, b1, b2, b3, b4, b5, b6⟩ := R8.next hb9
    have lt9 := Nat.lt_of_lt_of_le lt8 hb9.size
    clear s0 s1 s2 s3 s4 s5 q0 q1 q2 q3 q4 q5 q6 r0 r1 r2 r3 r4 r5 r6
    go_wp2_with fail
    exact bodyPost_ret (v := .agg #[.int .i64 (tk (and3 (cls u0.1 u0.2.1) (cls u1.1 u1.2.1))), .int .i64 (tn (and3 (cls u0.1 u0.2.1) (cls u1.1 u1.2.1))), .string ⟨#[]⟩]) (by simp [results, Try.results28, go_sem, b1, b2, b3]) rfl ⟨rfl, below_set3 hA9 (by omega)⟩
end Go.Proofs.Ytbdhmjojamoafaa
