/- What an expression comes to, as a function value: always, column, either. -/
import Derived.Test.YtbdhmjojamoafaaY9
import Derived.Test.YtbdhmjojamoafaaX2
import Derived.Test.YtbdhmjojamoafaaW10
namespace Go.Proofs.Ytbdhmjojamoafaa
open Go.RowKit

/-- A function value comes to f of each row that fits, as long as all from lo on is as it was. -/
def Asks (cols : List Int) (lo : Nat) (u : Value) (f : List Vl → Vl) (w : World) : Prop :=
  ∃ g cb, u = .func (.func g) #[] cb ∧ (∀ args w, (callFunc g args).run Try.prog w = .ok (.enter g args) w) ∧
    ∀ (row : List Vl) (a : Option Addr) (cap : Nat) (W : World), FitP cols row → SlAt W a row → Since lo w W →
      Calls Try.prog g (#[.slice a row.length cap] ++ cb) W fun e w' => e = .returned (agV (f row)) ∧ Below W.heap.size W w'
theorem Asks.next {cols : List Int} {lo : Nat} {u : Value} {f : List Vl → Vl} {w w1 : World} (h : Asks cols lo u f w) (hb : Since lo w w1) : Asks cols lo u f w1 := by
  obtain ⟨g, cb, e, eg, hd⟩ := h
  exact ⟨g, cb, e, eg, fun row a cap W hf hs hW => hd row a cap W hf hs (hb.trans hW)⟩
theorem Asks.down {cols : List Int} {lo lo' : Nat} {u : Value} {f : List Vl → Vl} {w : World} (h : Asks cols lo u f w) (hl : lo' ≤ lo) : Asks cols lo' u f w := by
  obtain ⟨g, cb, e, eg, hd⟩ := h
  exact ⟨g, cb, e, eg, fun row a cap W hf hs hW => hd row a cap W hf hs (hW.up hl)⟩

/-- Three values stored into a box. -/
theorem Box.put3 {W : World} {b : Nat} {x y z : Value} (h : Box W b x y z) (x' y' z' : Value) : Box (((W.setCell ⟨b, 0, none⟩ x').setCell ⟨b, 1, none⟩ y').setCell ⟨b, 2, none⟩ z') b x' y' z' := by
  obtain ⟨lt, c0, c1, c2, f0, f1, f2⟩ := h
  refine ⟨by simpa using lt, ?_, ?_, ?_, by simpa using f0, by simpa using f1, by simpa using f2⟩
  · rw [World.cell?_setCell_other _ _ _ _ (by simp), World.cell?_setCell_other _ _ _ _ (by simp)]
    exact World.cell?_setCell_same' _ _ _ (by rw [c0]; rfl)
  · rw [World.cell?_setCell_other _ _ _ _ (by simp)]
    exact World.cell?_setCell_same' _ _ _ (by rw [World.cell?_setCell_other _ _ _ _ (by simp), c1]; rfl)
  · exact World.cell?_setCell_same' _ _ _ (by rw [World.cell?_setCell_other _ _ _ _ (by simp), World.cell?_setCell_other _ _ _ _ (by simp), c2]; rfl)

set_option maxHeartbeats 400000 in
theorem always1_at (v : Vl) (b : Nat) (a : Option Addr) (n cap : Nat) (W : World) (hb : b < W.heap.size) (h0 : W.cell? ⟨b, 0, none⟩ = some (.int .i64 v.1)) (h1 : W.cell? ⟨b, 1, none⟩ = some (.int .i64 v.2.1)) (h2 : W.cell? ⟨b, 2, none⟩ = some (.string v.2.2)) :
    Calls Try.prog 63 #[.slice a n cap, .pointer (some ⟨b, 0, none⟩)] W fun e w' => e = .returned (agV v) ∧ Below W.heap.size W w' := by
  have hal : Below W.heap.size W (W.alloc (.cells #[.int .i64 0, .int .i64 0, .string ⟨#[]⟩] 24)) := (Below.refl _ _).alloc (Nat.le_refl _) _
  have c0 := (hal.cell (p := ⟨b, 0, none⟩) hb).trans h0
  have c1 := (hal.cell (p := ⟨b, 1, none⟩) hb).trans h1
  have c2 := (hal.cell (p := ⟨b, 2, none⟩) hb).trans h2
  go_enter Try.func63, Try.ntmps63
  go_wp2_with fail
  exact bodyPost_ret (v := agV v) (by simp [results, Try.results63, go_sem]) rfl ⟨rfl, (Below.refl _ _).alloc (Nat.le_refl _) _⟩

set_option maxHeartbeats 400000 in
theorem always_at (cols : List Int) (v : Vl) (w : World) :
    Calls Try.prog 51 #[agV v] w fun e w' => ∃ u, e = .returned u ∧ Asks cols w.heap.size u (fun _ => bareP v) w' ∧ Below w.heap.size w w' := by
  have hal : Below w.heap.size w (w.alloc (.cells #[.int .i64 v.1, .int .i64 v.2.1, .string v.2.2] 24)) := (Below.refl _ _).alloc (Nat.le_refl _) _
  have R := Box.new w (.int .i64 v.1) (.int .i64 v.2.1) (.string v.2.2) 24
  go_enter Try.func51, Try.ntmps51
  go_wp2_with fail
  refine (bare_any _ _ _ _).mono ?_
  rintro e w1 ⟨rfl, hb1⟩
  have R1 := R.next hb1
  have P1 := R1.put3 (.int .i64 v.1) (.int .i64 (bareN v.1 v.2.1)) (.string (bareS v.1 v.2.2))
  have hb := chain hal hb1
  have ⟨r0, r1, r2, r3, r4, r5, r6⟩ := R1
  go_wp2_with fail
  go_ret
  refine ⟨_, rfl, ⟨63, _, rfl, enters_of Try.func63 (by kernel_rfl) rfl, ?_⟩, below_set3 hb (Nat.le_refl _)⟩
  intro row a cap W _ _ hW
  obtain ⟨p0, p1, p2, p3, _, _, _⟩ := P1
  exact always1_at (bareP v) w.heap.size a row.length cap W (Nat.lt_of_lt_of_le p0 hW.1) ((hW.cell (p := ⟨w.heap.size, 0, none⟩) (Nat.le_refl _) p0).trans p1) ((hW.cell (p := ⟨w.heap.size, 1, none⟩) (Nat.le_refl _) p0).trans p2) ((hW.cell (p := ⟨w.heap.size, 2, none⟩) (Nat.le_refl _) p0).trans p3)

set_option maxHeartbeats 400000 in
theorem column1_at (j : Nat) (b : Nat) (a : Option Addr) (row : List Vl) (cap : Nat) (W : World) (hb : b < W.heap.size) (h0 : W.cell? ⟨b, 0, none⟩ = some (.int .i64 j)) (hj : j < row.length) (hs : SlAt W a row) :
    Calls Try.prog 64 #[.slice a row.length cap, .pointer (some ⟨b, 0, none⟩)] W fun e w' => e = .returned (agV (bareP row[j])) ∧ Below W.heap.size W w' := by
  have hal : Below W.heap.size W (W.alloc (.cells #[.int .i64 0, .int .i64 0, .string ⟨#[]⟩] 24)) := (Below.refl _ _).alloc (Nat.le_refl _) _
  have R := Box.new W (.int .i64 0) (.int .i64 0) (.string ⟨#[]⟩) 24
  have c0 := (hal.cell (p := ⟨b, 0, none⟩) hb).trans h0
  have hl := hs.1
  unfold maxLen at hl
  obtain ⟨b', off, rfl, hbl, x0, x1, x2⟩ := (hs.next hal).elem hj
  generalize row[j] = v at *
  go_enter Try.func64, Try.ntmps64
  go_wp2_with fail
  refine (bare_any _ _ _ _).mono ?_
  rintro e w1 ⟨rfl, hb1⟩
  have ⟨r0, r1, r2, r3, r4, r5, r6⟩ := R.next hb1
  have hb := chain hal hb1
  clear x0 x1 x2 c0
  go_wp2_with fail
  exact bodyPost_ret (v := agV (bareP v)) (by simp [results, Try.results64, go_sem, r1, r2, r3, bareP]) rfl ⟨rfl, below_set3 hb (Nat.le_refl _)⟩
theorem column_at (cols : List Int) (c : Int) (w : World) (h0 : 0 ≤ c) (h1 : c.toNat < cols.length) :
    Calls Try.prog 52 #[.int .i64 c] w fun e w' => ∃ u, e = .returned u ∧ Asks cols w.heap.size u (fun row => bareP (row.getD c.toNat vl0)) w' ∧ Below w.heap.size w w' := by
  have hal : Below w.heap.size w (w.alloc (.cells #[.int .i64 c] 3)) := (Below.refl _ _).alloc (Nat.le_refl _) _
  obtain ⟨j, rfl⟩ : ∃ j : Nat, c = j := ⟨c.toNat, by omega⟩
  go_enter Try.func52, Try.ntmps52
  go_wp2_with fail
  go_ret
  refine ⟨_, rfl, ⟨64, _, rfl, enters_of Try.func64 (by kernel_rfl) rfl, ?_⟩, hal⟩
  intro row a cap W hf hs hW
  have hj : j < row.length := by have := hf.len; simp at h1; omega
  have e : row.getD (j : Int).toNat vl0 = row[j] := by simp [List.getD, hj]
  show Calls _ _ _ _ fun e w' => e = .returned (agV (bareP (row.getD (j : Int).toNat vl0))) ∧ _
  rw [e]
  exact column1_at j w.heap.size a row cap W (Nat.lt_of_lt_of_le (by simp) hW.1) ((hW.cell (p := ⟨w.heap.size, 0, none⟩) (Nat.le_refl _) (by simp)).trans (by simp)) hj hs

set_option maxHeartbeats 1000000 in
theorem either1_at (cols : List Int) (lo : Nat) (f1 f2 f3 : List Vl → Vl) (u1 u2 u3 : Value) (b : Nat) (a : Option Addr) (row : List Vl) (cap : Nat) (W : World) (hb : b + 2 < W.heap.size)
    (h0 : W.cell? ⟨b, 0, none⟩ = some u1) (h1 : W.cell? ⟨b + 1, 0, none⟩ = some u2) (h2 : W.cell? ⟨b + 2, 0, none⟩ = some u3) (a1 : Asks cols lo u1 f1 W) (a2 : Asks cols lo u2 f2 W) (a3 : Asks cols lo u3 f3 W) (hf : FitP cols row) (hs : SlAt W a row) :
    Calls Try.prog 68 #[.slice a row.length cap, .pointer (some ⟨b, 0, none⟩), .pointer (some ⟨b + 1, 0, none⟩), .pointer (some ⟨b + 2, 0, none⟩)] W fun e w' => e = .returned (agV (if clsP (f1 row) == some true then f2 row else f3 row)) ∧ Below W.heap.size W w' := by
  obtain ⟨g1, cb1, rfl, eg1, d1⟩ := a1
  obtain ⟨g2, cb2, rfl, eg2, d2⟩ := a2
  obtain ⟨g3, cb3, rfl, eg3, d3⟩ := a3
  have hal : Below W.heap.size W (W.alloc (.cells #[.int .i64 0, .int .i64 0, .string ⟨#[]⟩] 24)) := (Below.refl _ _).alloc (Nat.le_refl _) _
  have R := Box.new W (.int .i64 0) (.int .i64 0) (.string ⟨#[]⟩) 24
  have c1 := (hal.cell (p := ⟨b, 0, none⟩) (by show b < _; omega)).trans h0
  have d1 := d1 row a cap _ hf (hs.next hal) (Since.of hal)
  have d2 := fun W' (h : Below W.heap.size W W') => d2 row a cap W' hf (hs.next h) (Since.of h)
  have d3 := fun W' (h : Below W.heap.size W W') => d3 row a cap W' hf (hs.next h) (Since.of h)
  generalize f1 row = v1 at *
  generalize f2 row = v2 at *
  generalize f3 row = v3 at *
  by_cases q : (clsP v1 == some true) = true
  · rw [if_pos q]
    go_enter Try.func68, Try.ntmps68
    go_wp2_with (go_at_fn g1; refine d1.mono ?_)
    rintro e w1 ⟨rfl, hb1⟩
    have hA := chain hal hb1
    have R := R.next hb1
    have q' : (cls v1.1 v1.2.1 == some true) = true := q
    go_wp2_with fail
    refine (true_any _ _ _ _).mono ?_
    rintro e w2 ⟨rfl, hb2⟩
    rw [q']
    have hA := chain hA hb2
    have R := R.next hb2
    have c2 := (hA.cell (p := ⟨b + 1, 0, none⟩) (by show b + 1 < _; omega)).trans h1
    have d2 := d2 _ hA
    clear d1 c1 d3
    go_wp2_with (go_at_fn g2; refine d2.mono ?_)
    rintro e w3 ⟨rfl, hb3⟩
    have hA := chain hA hb3
    have ⟨r0, r1, r2, r3, r4, r5, r6⟩ := R.next hb3
    clear d2 c2
    go_wp2_with fail
    exact bodyPost_ret (v := agV v2) (by simp [results, Try.results68, go_sem, r1, r2, r3]) rfl ⟨rfl, below_set3 hA (Nat.le_refl _)⟩
  · rw [if_neg q]
    go_enter Try.func68, Try.ntmps68
    go_wp2_with (go_at_fn g1; refine d1.mono ?_)
    rintro e w1 ⟨rfl, hb1⟩
    have hA := chain hal hb1
    have R := R.next hb1
    have q' : (cls v1.1 v1.2.1 == some true) = false := Bool.eq_false_iff.mpr q
    go_wp2_with fail
    refine (true_any _ _ _ _).mono ?_
    rintro e w2 ⟨rfl, hb2⟩
    rw [q']
    have hA := chain hA hb2
    have R := R.next hb2
    have c3 := (hA.cell (p := ⟨b + 2, 0, none⟩) (by show b + 2 < _; omega)).trans h2
    have d3 := d3 _ hA
    clear d1 c1 d2
    go_wp2_with (go_at_fn g3; refine d3.mono ?_)
    rintro e w3 ⟨rfl, hb3⟩
    have hA := chain hA hb3
    have ⟨r0, r1, r2, r3, r4, r5, r6⟩ := R.next hb3
    clear d3 c3
    go_wp2_with fail
    exact bodyPost_ret (v := agV v3) (by simp [results, Try.results68, go_sem, r1, r2, r3]) rfl ⟨rfl, below_set3 hA (Nat.le_refl _)⟩

theorem cell_old {w : World} {o : Obj} {p : Addr} (h : p.block < w.heap.size) : (w.alloc o).cell? p = w.cell? p := ((Below.refl w.heap.size w).alloc (Nat.le_refl _) o).cell h
theorem either_at (cols : List Int) (lo : Nat) (f1 f2 f3 : List Vl → Vl) (u1 u2 u3 : Value) (w : World) (hlo : lo ≤ w.heap.size) (a1 : Asks cols lo u1 f1 w) (a2 : Asks cols lo u2 f2 w) (a3 : Asks cols lo u3 f3 w) :
    Calls Try.prog 58 #[u1, u2, u3] w fun e w' => ∃ u, e = .returned u ∧ Asks cols lo u (fun row => if clsP (f1 row) == some true then f2 row else f3 row) w' ∧ Below w.heap.size w w' := by
  obtain ⟨x1, y1, rfl⟩ : ∃ x y, u1 = .func (.func x) #[] y := by obtain ⟨x, y, e, _⟩ := a1; exact ⟨x, y, e⟩
  obtain ⟨x2, y2, rfl⟩ : ∃ x y, u2 = .func (.func x) #[] y := by obtain ⟨x, y, e, _⟩ := a2; exact ⟨x, y, e⟩
  obtain ⟨x3, y3, rfl⟩ : ∃ x y, u3 = .func (.func x) #[] y := by obtain ⟨x, y, e, _⟩ := a3; exact ⟨x, y, e⟩
  have h1 : Below w.heap.size w (w.alloc (.cells #[.func (.func x1) #[] y1] 56)) := (Below.refl _ _).alloc (Nat.le_refl _) _
  have h2 := h1.alloc h1.size (.cells #[.func (.func x2) #[] y2] 56)
  have h3 := h2.alloc h2.size (.cells #[.func (.func x3) #[] y3] 56)
  have q1 : (((w.alloc (.cells #[.func (.func x1) #[] y1] 56)).alloc (.cells #[.func (.func x2) #[] y2] 56)).alloc (.cells #[.func (.func x3) #[] y3] 56)).cell? ⟨w.heap.size, 0, none⟩ = some (.func (.func x1) #[] y1) := by
    rw [cell_old (by simp only [World.size_alloc]; omega), cell_old (by simp)]; simp
  have q2 : (((w.alloc (.cells #[.func (.func x1) #[] y1] 56)).alloc (.cells #[.func (.func x2) #[] y2] 56)).alloc (.cells #[.func (.func x3) #[] y3] 56)).cell? ⟨w.heap.size + 1, 0, none⟩ = some (.func (.func x2) #[] y2) := by
    rw [cell_old (by simp), World.cell?_alloc_at _ _ _ _ (by simp)]; rfl
  have q3 : (((w.alloc (.cells #[.func (.func x1) #[] y1] 56)).alloc (.cells #[.func (.func x2) #[] y2] 56)).alloc (.cells #[.func (.func x3) #[] y3] 56)).cell? ⟨w.heap.size + 2, 0, none⟩ = some (.func (.func x3) #[] y3) := by
    rw [World.cell?_alloc_at _ _ _ _ (by simp)]; rfl
  have z3 : (((w.alloc (.cells #[.func (.func x1) #[] y1] 56)).alloc (.cells #[.func (.func x2) #[] y2] 56)).alloc (.cells #[.func (.func x3) #[] y3] 56)).heap.size = w.heap.size + 3 := by simp
  have n1 := a1.next (Since.of h3)
  have n2 := a2.next (Since.of h3)
  have n3 := a3.next (Since.of h3)
  clear a1 a2 a3
  go_enter Try.func58, Try.ntmps58
  go_wp2_with fail
  go_ret
  generalize ((w.alloc (.cells #[.func (.func x1) #[] y1] 56)).alloc (.cells #[.func (.func x2) #[] y2] 56)).alloc (.cells #[.func (.func x3) #[] y3] 56) = w3 at *
  refine ⟨_, rfl, ⟨68, _, rfl, enters_of Try.func68 (by kernel_rfl) rfl, ?_⟩, h3⟩
  intro row a cap W hf hs hW
  exact either1_at cols lo f1 f2 f3 _ _ _ w.heap.size a row cap W (by have := hW.1; omega) ((hW.cell (p := ⟨w.heap.size, 0, none⟩) hlo (by show w.heap.size < _; omega)).trans q1) ((hW.cell (p := ⟨w.heap.size + 1, 0, none⟩) (by show lo ≤ w.heap.size + 1; omega) (by show w.heap.size + 1 < _; omega)).trans q2) ((hW.cell (p := ⟨w.heap.size + 2, 0, none⟩) (by show lo ≤ w.heap.size + 2; omega) (by show w.heap.size + 2 < _; omega)).trans q3) (n1.next hW) (n2.next hW) (n3.next hW) hf hs
end Go.Proofs.Ytbdhmjojamoafaa
