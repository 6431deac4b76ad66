/- What an expression comes to, as a function value: the functions within ready. -/
import Derived.Test.YtbdhmjojamoafaaK1
import Derived.Test.YtbdhmjojamoafaaExt
namespace Go.Proofs.Ytbdhmjojamoafaa
open Go.RowKit

/-- What kids come to, as function values, in a slice that lies in a variable. -/
def KidsF (cols : List Int) (lo : Nat) (W : World) (kb : Nat) (ks : List Ex) : Prop :=
  ∃ K, lo ≤ kb ∧ kb < W.heap.size ∧ lo ≤ K ∧ K < W.heap.size ∧ W.cell? ⟨kb, 0, none⟩ = some (.slice (some ⟨K, 0, none⟩) ks.length ks.length) ∧
    ∀ (i : Nat) (h : i < ks.length), ∃ u, W.cell? ⟨K, i, none⟩ = some u ∧ Asks cols lo u (fun row => valX row ks[i]) W
theorem KidsF.next {cols : List Int} {lo : Nat} {W w1 : World} {kb : Nat} {ks : List Ex} (h : KidsF cols lo W kb ks) (hb : Since lo W w1) : KidsF cols lo w1 kb ks := by
  obtain ⟨K, h1, h2, h3, h4, h5, h6⟩ := h
  refine ⟨K, h1, Nat.lt_of_lt_of_le h2 hb.1, h3, Nat.lt_of_lt_of_le h4 hb.1, (hb.cell (p := ⟨kb, 0, none⟩) h1 h2).trans h5, fun i hi => ?_⟩
  obtain ⟨u, c, a⟩ := h6 i hi
  exact ⟨u, (hb.cell (p := ⟨K, i, none⟩) h3 h4).trans c, a.next hb⟩

set_option maxHeartbeats 600000 in
theorem ready1_at (cols : List Int) (lo : Nat) (kb : Nat) (ks : List Ex) (a : Option Addr) (row : List Vl) (cap : Nat) (W : World) (hK : KidsF cols lo W kb ks) (hn : 0 < ks.length) (hf : FitP cols row) (hs : SlAt W a row) :
    Calls Try.prog 53 #[.slice a row.length cap, .pointer (some ⟨kb, 0, none⟩)] W fun e w' => e = .returned (agV (notP (valX row ks[0]))) ∧ Below W.heap.size W w' := by
  have hal : Below W.heap.size W (W.alloc (.cells #[.int .i64 0, .int .i64 0, .string ⟨#[]⟩] 24)) := (Below.refl _ _).alloc (Nat.le_refl _) _
  have R := Box.new W (.int .i64 0) (.int .i64 0) (.string ⟨#[]⟩) 24
  obtain ⟨K, k1, k2, k3, k4, k5, k6⟩ := hK.next (Since.of hal)
  obtain ⟨u0, c0, a0⟩ := k6 0 hn
  obtain ⟨g, cb, rfl, eg, d⟩ := a0
  have d := d row a cap _ hf (hs.next hal) (Since.refl _ _)
  dsimp only at d
  have hn' : (0 : Int) < (ks.length : Int) := by omega
  have e : notP (valX row ks[0]) = (tk (not3 (cls (valX row ks[0]).1 (valX row ks[0]).2.1)), tn (not3 (cls (valX row ks[0]).1 (valX row ks[0]).2.1)), ⟨#[]⟩) := rfl
  rw [e]
  clear e k6 hK
  generalize valX row ks[0] = v0 at *
  go_enter Try.func53, Try.ntmps53
  go_wp2_with (go_at_fn g; refine d.mono ?_; rintro e w1 ⟨rfl, hb1⟩)
  have hA := chain hal hb1
  have R := R.next hb1
  clear d c0 k5
  go_wp2_with fail
  refine (not_any _ _ _ _).mono ?_
  rintro e w2 ⟨rfl, hb2⟩
  have hA := chain hA hb2
  have ⟨r0, r1, r2, r3, r4, r5, r6⟩ := R.next hb2
  go_wp2_with fail
  exact bodyPost_ret (v := .agg #[.int .i64 (tk (not3 (cls v0.1 v0.2.1))), .int .i64 (tn (not3 (cls v0.1 v0.2.1))), .string ⟨#[]⟩]) (by simp [results, Try.results53, go_sem, r1, r2, r3]) rfl ⟨rfl, below_set3 hA (Nat.le_refl _)⟩

set_option maxHeartbeats 600000 in
theorem ready2_at (cols : List Int) (lo : Nat) (kb : Nat) (ks : List Ex) (a : Option Addr) (row : List Vl) (cap : Nat) (W : World) (hK : KidsF cols lo W kb ks) (hn : 0 < ks.length) (hf : FitP cols row) (hs : SlAt W a row) :
    Calls Try.prog 55 #[.slice a row.length cap, .pointer (some ⟨kb, 0, none⟩)] W fun e w' => e = .returned (agV (tri (some ((valX row ks[0]).1 == 1)))) ∧ Below W.heap.size W w' := by
  have hal : Below W.heap.size W (W.alloc (.cells #[.int .i64 0, .int .i64 0, .string ⟨#[]⟩] 24)) := (Below.refl _ _).alloc (Nat.le_refl _) _
  have R := Box.new W (.int .i64 0) (.int .i64 0) (.string ⟨#[]⟩) 24
  obtain ⟨K, k1, k2, k3, k4, k5, k6⟩ := hK.next (Since.of hal)
  obtain ⟨u0, c0, a0⟩ := k6 0 hn
  obtain ⟨g, cb, rfl, eg, d⟩ := a0
  have d := d row a cap _ hf (hs.next hal) (Since.refl _ _)
  dsimp only at d
  have hn' : (0 : Int) < (ks.length : Int) := by omega
  have e : tri (some ((valX row ks[0]).1 == 1)) = (2, tn (some ((valX row ks[0]).1 == 1)), ⟨#[]⟩) := rfl
  rw [e]
  clear e k6 hK
  generalize valX row ks[0] = v0 at *
  go_enter Try.func55, Try.ntmps55
  go_wp2_with (go_at_fn g; refine d.mono ?_; rintro e w1 ⟨rfl, hb1⟩)
  have hA := chain hal hb1
  have R := R.next hb1
  clear d c0 k5
  go_wp2_with fail
  refine (isNull_at _ _ _ _).mono ?_
  rintro e w2 ⟨rfl, hb2⟩
  have hA := chain hA hb2
  have R := R.next hb2
  go_wp2_with fail
  refine (bool_any _ _).mono ?_
  rintro e w3 ⟨rfl, hb3⟩
  have hA := chain hA hb3
  have ⟨r0, r1, r2, r3, r4, r5, r6⟩ := R.next hb3
  go_wp2_with fail
  exact bodyPost_ret (v := .agg #[.int .i64 2, .int .i64 (tn (some (v0.1 == 1))), .string ⟨#[]⟩]) (by simp [results, Try.results55, go_sem, r1, r2, r3]) rfl ⟨rfl, below_set3 hA (Nat.le_refl _)⟩

set_option maxHeartbeats 2000000 in
theorem ready3_at (cols : List Int) (lo : Nat) (kb db : Nat) (k : Int) (ks : List Ex) (a : Option Addr) (row : List Vl) (cap : Nat) (W : World) (ud : Value) (cd : W.cell? ⟨db, 0, none⟩ = some ud) (F : Fn2 lo ud (twoP k) W)
    (hK : KidsF cols lo W kb ks) (hn : 1 < ks.length) (hf : FitP cols row) (hs : SlAt W a row) (g0 : wrongP (valX row ks[0]) = 0) (g1 : wrongP (valX row ks[1]) = 0) :
    Calls Try.prog 60 #[.slice a row.length cap, .pointer (some ⟨db, 0, none⟩), .pointer (some ⟨kb, 0, none⟩)] W fun e w' => e = .returned (agV (twoP k (valX row ks[0]) (valX row ks[1]))) ∧ Below W.heap.size W w' := by
  have hal : Below W.heap.size W (W.alloc (.cells #[.int .i64 0, .int .i64 0, .string ⟨#[]⟩] 24)) := (Below.refl _ _).alloc (Nat.le_refl _) _
  have R := Box.new W (.int .i64 0) (.int .i64 0) (.string ⟨#[]⟩) 24
  obtain ⟨K, k1, k2, k3, k4, k5, k6⟩ := hK
  obtain ⟨u0, c0, a0⟩ := k6 0 (by omega)
  obtain ⟨u1, c1, a1⟩ := k6 1 hn
  obtain ⟨h0, cb0, rfl, eg0, d0⟩ := a0
  obtain ⟨h1, cb1, rfl, eg1, d1⟩ := a1
  obtain ⟨h2, cb2, rfl, eg2, d2⟩ := F
  have d0 := fun n : Past W => d0 row a cap n.now hf (hs.next n.ok) (Since.of n.ok)
  have d1 := fun n : Past W => d1 row a cap n.now hf (hs.next n.ok) (Since.of n.ok)
  dsimp only at d0 d1
  have d2 := fun n : Past W => d2 (valX row ks[0]) (valX row ks[1]) n.now g0 g1 (Since.of n.ok)
  have n0 : 0 < ks.length := by omega
  have l0 : (0 : Int) < (ks.length : Int) := by omega
  have l1 : (1 : Int) < (ks.length : Int) := by omega
  have p0 := past_cell cd
  have p1 := past_cell k5
  have p2 := past_cell c0
  have p3 := past_cell c1
  generalize hr : twoP k (valX row ks[0]) (valX row ks[1]) = r at *
  generalize valX row ks[0] = v0 at *
  generalize valX row ks[1] = v1 at *
  clear k6 hr
  go_enter Try.func60, Try.ntmps60
  go_wp2_with fail
  generalize W.alloc (.cells #[.int .i64 0, .int .i64 0, .string ⟨#[]⟩] 24) = w0 at *
  have hB0 : Below W.heap.size W w0.drew := hal.drew
  refine wp_region_ext0 W (by kernel_rfl) ?_
  refine wpX_take (some 5) (i := 0) (v := .func (.func h2) #[] cb2) rfl rfl (by kernel_rfl) (by kernel_rfl) (by kernel_rfl) (fun _ _ _ h => h) (Or.inl ⟨rfl, fun n => ?_⟩) hB0 ?_
  · go_simp
  simp only [Act.put, List.setIfInBounds_toArray, List.set_cons_zero, List.set_cons_succ]
  refine wpX_take (some 6) (i := 1) (v := .slice (some ⟨K, 0, none⟩) ks.length ks.length) rfl rfl (by kernel_rfl) (by kernel_rfl) (by kernel_rfl) (fun _ _ _ h => h) (Or.inl ⟨rfl, fun n => ?_⟩) hB0 ?_
  · go_simp
  simp only [Act.put, List.setIfInBounds_toArray, List.set_cons_zero, List.set_cons_succ]
  refine wpX_take (some 7) (i := 2) (v := .pointer (some ⟨K, 0, none⟩)) rfl rfl (by kernel_rfl) (by kernel_rfl) (by kernel_rfl) (fun _ _ _ h => h) (Or.inl ⟨rfl, fun n => ?_⟩) hB0 ?_
  · go_simp
  simp only [Act.put, List.setIfInBounds_toArray, List.set_cons_zero, List.set_cons_succ]
  refine wpX_take (some 8) (i := 3) (v := .func (.func h0) #[] cb0) rfl rfl (by kernel_rfl) (by kernel_rfl) (by kernel_rfl) (fun _ _ _ h => h) (Or.inl ⟨rfl, fun n => ?_⟩) hB0 ?_
  · go_simp
  simp only [Act.put, List.setIfInBounds_toArray, List.set_cons_zero, List.set_cons_succ]
  refine wpX_take (some 9) (i := 4) (v := .slice a row.length cap) rfl rfl (by kernel_rfl) (by kernel_rfl) (by kernel_rfl) (fun _ _ _ h => h) (Or.inl ⟨rfl, fun n => ?_⟩) hB0 ?_
  · go_simp
  simp only [Act.put, List.setIfInBounds_toArray, List.set_cons_zero, List.set_cons_succ]
  refine wpX_take (some 11) (i := 6) (v := .slice (some ⟨K, 0, none⟩) ks.length ks.length) rfl rfl (by kernel_rfl) (by kernel_rfl) (by kernel_rfl) (fun _ _ _ h => h) (Or.inl ⟨rfl, fun n => ?_⟩) hB0 ?_
  · go_simp
  simp only [Act.put, List.setIfInBounds_toArray, List.set_cons_zero, List.set_cons_succ]
  refine wpX_take (some 12) (i := 7) (v := .pointer (some ⟨K, 1, none⟩)) rfl rfl (by kernel_rfl) (by kernel_rfl) (by kernel_rfl) (fun _ _ _ h => h) (Or.inl ⟨rfl, fun n => ?_⟩) hB0 ?_
  · go_simp
  simp only [Act.put, List.setIfInBounds_toArray, List.set_cons_zero, List.set_cons_succ]
  refine wpX_take (some 13) (i := 8) (v := .func (.func h1) #[] cb1) rfl rfl (by kernel_rfl) (by kernel_rfl) (by kernel_rfl) (fun _ _ _ h => h) (Or.inl ⟨rfl, fun n => ?_⟩) hB0 ?_
  · go_simp
  simp only [Act.put, List.setIfInBounds_toArray, List.set_cons_zero, List.set_cons_succ]
  refine wpX_take (some 14) (i := 9) (v := .slice a row.length cap) rfl rfl (by kernel_rfl) (by kernel_rfl) (by kernel_rfl) (fun _ _ _ h => h) (Or.inl ⟨rfl, fun n => ?_⟩) hB0 ?_
  · go_simp
  simp only [Act.put, List.setIfInBounds_toArray, List.set_cons_zero, List.set_cons_succ]
  refine wpX_take (some 10) (i := 5) (v := agV v0) rfl rfl (by kernel_rfl) (by kernel_rfl) (by kernel_rfl) (fun _ _ _ h => h) (Or.inl ⟨rfl, fun n => ?_⟩) hB0 ?_
  · go_simp
  simp only [Act.put, List.setIfInBounds_toArray, List.set_cons_zero, List.set_cons_succ]
  refine wpX_take (some 15) (i := 10) (v := agV v1) rfl rfl (by kernel_rfl) (by kernel_rfl) (by kernel_rfl) (fun _ _ _ h => h) (Or.inl ⟨rfl, fun n => ?_⟩) hB0 ?_
  · go_simp
  simp only [Act.put, List.setIfInBounds_toArray, List.set_cons_zero, List.set_cons_succ]
  refine wpX_take (some 16) (i := 11) (v := agV r) rfl rfl (by kernel_rfl) (by kernel_rfl) (by kernel_rfl) (fun _ _ _ h => h) (Or.inl ⟨rfl, fun n => ?_⟩) hB0 ?_
  · go_simp
  simp only [Act.put, List.setIfInBounds_toArray, List.set_cons_zero, List.set_cons_succ]
  clear p0 p1 p2 p3 d0 d1 d2
  refine wpX_step (rs := [12]) (by kernel_rfl) (by simp) ?_
  intro w12 hb12 j hj
  obtain rfl : j = 12 := by simpa using hj
  clear hj
  have D12 := hB0.trans (hb12.mono hB0.size)
  have R12 := (R.next ((Below.refl _ _).drew)).next hb12
  have P12 := R12.put3 (.int .i64 r.1) (.int .i64 r.2.1) (.string r.2.2)
  have ⟨b0, b1, b2, b3, b4, b5, b6⟩ := R12
  refine wpOp_step rfl (fun K hK => ?_)
  go_simp
  refine hK _ _ ⟨below_set3 D12 (Nat.le_refl _), ?_⟩
  clear hK K
  refine wpX_done (by kernel_rfl) ?_
  intro w13 hb13
  have D13 := (below_set3 D12 (Nat.le_refl _) (x := .int .i64 r.1) (y := .int .i64 r.2.1) (z := .string r.2.2)).trans (hb13.mono (below_set3 D12 (Nat.le_refl _)).size)
  have ⟨g0, g1, g2, g3, g4, g5, g6⟩ := P12.next hb13
  clear b0 b1 b2 b3 b4 b5 b6
  go_wp2_with fail
  exact bodyPost_ret (v := agV r) (by simp [results, Try.results60, go_sem, g1, g2, g3]) rfl ⟨rfl, D13⟩
end Go.Proofs.Ytbdhmjojamoafaa
