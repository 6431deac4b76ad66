/- Together: K1, Ext, K2, Y2, Y3a, Y3b, Y3c, Y3, Y4. -/
import Derived.OrdersHeld
import Derived.RegionTactic
import Derived.Test.YtfojonhblblbjaaGreatB2
import Derived.Test.YtfojonhblblbjaaGreatB1
/- What an expression comes to, as a function value: always, column, either. -/
namespace Go.Proofs.YtfojonhblblbjaaGreat
open Go.RowKit

/-- A function value comes to f of each row that fits, as long as all from lo on is as it was. -/
def Asks (cols : List Int) (lo : Nat) (u : Value) (f : List Vl → Vl) (w : World) : Prop :=
  ∃ g cb, u = .func (.func g) #[] cb ∧ (∀ args w, (callFunc g args).run Tryz.prog w = .ok (.enter g args) w) ∧
    ∀ (row : List Vl) (a : Option Addr) (cap : Nat) (W : World), FitP cols row → SlAt W a row → Since lo w W →
      Calls Tryz.prog g (#[.slice a row.length cap] ++ cb) W fun e w' => e = .returned (agV (f row)) ∧ Below W.heap.size W w'
theorem Asks.next {cols : List Int} {lo : Nat} {u : Value} {f : List Vl → Vl} {w w1 : World} (h : Asks cols lo u f w) (hb : Since lo w w1) : Asks cols lo u f w1 := by
  obtain ⟨g, cb, e, eg, hd⟩ := h
  exact ⟨g, cb, e, eg, fun row a cap W hf hs hW => hd row a cap W hf hs (hb.trans hW)⟩
theorem Asks.down {cols : List Int} {lo lo' : Nat} {u : Value} {f : List Vl → Vl} {w : World} (h : Asks cols lo u f w) (hl : lo' ≤ lo) : Asks cols lo' u f w := by
  obtain ⟨g, cb, e, eg, hd⟩ := h
  exact ⟨g, cb, e, eg, fun row a cap W hf hs hW => hd row a cap W hf hs (hW.up hl)⟩

/-- Three values stored into a box. -/
theorem Box.put3 {W : World} {b : Nat} {x y z : Value} (h : Box W b x y z) (x' y' z' : Value) : Box (((W.setCell ⟨b, 0, none⟩ x').setCell ⟨b, 1, none⟩ y').setCell ⟨b, 2, none⟩ z') b x' y' z' := by
  obtain ⟨lt, c0, c1, c2, f0, f1, f2⟩ := h
  refine ⟨by simpa using lt, ?_, ?_, ?_, by simpa using f0, by simpa using f1, by simpa using f2⟩
  · rw [World.cell?_setCell_other _ _ _ _ (by simp), World.cell?_setCell_other _ _ _ _ (by simp)]
    exact World.cell?_setCell_same' _ _ _ (by rw [c0]; rfl)
  · rw [World.cell?_setCell_other _ _ _ _ (by simp)]
    exact World.cell?_setCell_same' _ _ _ (by rw [World.cell?_setCell_other _ _ _ _ (by simp), c1]; rfl)
  · exact World.cell?_setCell_same' _ _ _ (by rw [World.cell?_setCell_other _ _ _ _ (by simp), World.cell?_setCell_other _ _ _ _ (by simp), c2]; rfl)

set_option maxHeartbeats 400000 in
theorem always1_at (v : Vl) (b : Nat) (a : Option Addr) (n cap : Nat) (W : World) (hb : b < W.heap.size) (h0 : W.cell? ⟨b, 0, none⟩ = some (.int .i64 v.1)) (h1 : W.cell? ⟨b, 1, none⟩ = some (.int .i64 v.2.1)) (h2 : W.cell? ⟨b, 2, none⟩ = some (.string v.2.2)) :
    Calls Tryz.prog 172 #[.slice a n cap, .pointer (some ⟨b, 0, none⟩)] W fun e w' => e = .returned (agV v) ∧ Below W.heap.size W w' := by
  have hal : Below W.heap.size W (W.alloc (.cells #[.int .i64 0, .int .i64 0, .string ⟨#[]⟩] 24)) := (Below.refl _ _).alloc (Nat.le_refl _) _
  have c0 := (hal.cell (p := ⟨b, 0, none⟩) hb).trans h0
  have c1 := (hal.cell (p := ⟨b, 1, none⟩) hb).trans h1
  have c2 := (hal.cell (p := ⟨b, 2, none⟩) hb).trans h2
  go_enter Tryz.func172, Tryz.ntmps172
  go_wp2_with fail
  exact bodyPost_ret (v := agV v) (by simp [results, Tryz.results172, go_sem]) rfl ⟨rfl, (Below.refl _ _).alloc (Nat.le_refl _) _⟩

set_option maxHeartbeats 400000 in
theorem always_at (cols : List Int) (v : Vl) (w : World) :
    Calls Tryz.prog 138 #[agV v] w fun e w' => ∃ u, e = .returned u ∧ Asks cols w.heap.size u (fun _ => bareP v) w' ∧ Below w.heap.size w w' := by
  have hal : Below w.heap.size w (w.alloc (.cells #[.int .i64 v.1, .int .i64 v.2.1, .string v.2.2] 24)) := (Below.refl _ _).alloc (Nat.le_refl _) _
  have R := Box.new w (.int .i64 v.1) (.int .i64 v.2.1) (.string v.2.2) 24
  go_enter Tryz.func138, Tryz.ntmps138
  go_wp2_with fail
  refine (bare_any _ _ _ _).mono ?_
  rintro e w1 ⟨rfl, hb1⟩
  have R1 := R.next hb1
  have P1 := R1.put3 (.int .i64 v.1) (.int .i64 (bareN v.1 v.2.1)) (.string (bareS v.1 v.2.2))
  have hb := chain hal hb1
  have ⟨r0, r1, r2, r3, r4, r5, r6⟩ := R1
  go_wp2_with fail
  go_ret
  refine ⟨_, rfl, ⟨172, _, rfl, enters_of Tryz.func172 (by kernel_rfl) rfl, ?_⟩, below_set3 hb (Nat.le_refl _)⟩
  intro row a cap W _ _ hW
  obtain ⟨p0, p1, p2, p3, _, _, _⟩ := P1
  exact always1_at (bareP v) w.heap.size a row.length cap W (Nat.lt_of_lt_of_le p0 hW.1) ((hW.cell (p := ⟨w.heap.size, 0, none⟩) (Nat.le_refl _) p0).trans p1) ((hW.cell (p := ⟨w.heap.size, 1, none⟩) (Nat.le_refl _) p0).trans p2) ((hW.cell (p := ⟨w.heap.size, 2, none⟩) (Nat.le_refl _) p0).trans p3)

set_option maxHeartbeats 400000 in
theorem column1_at (j : Nat) (b : Nat) (a : Option Addr) (row : List Vl) (cap : Nat) (W : World) (hb : b < W.heap.size) (h0 : W.cell? ⟨b, 0, none⟩ = some (.int .i64 j)) (hj : j < row.length) (hs : SlAt W a row) :
    Calls Tryz.prog 173 #[.slice a row.length cap, .pointer (some ⟨b, 0, none⟩)] W fun e w' => e = .returned (agV (bareP row[j])) ∧ Below W.heap.size W w' := by
  have hal : Below W.heap.size W (W.alloc (.cells #[.int .i64 0, .int .i64 0, .string ⟨#[]⟩] 24)) := (Below.refl _ _).alloc (Nat.le_refl _) _
  have R := Box.new W (.int .i64 0) (.int .i64 0) (.string ⟨#[]⟩) 24
  have c0 := (hal.cell (p := ⟨b, 0, none⟩) hb).trans h0
  have hl := hs.1
  unfold maxLen at hl
  obtain ⟨b', off, rfl, hbl, x0, x1, x2⟩ := (hs.next hal).elem hj
  generalize row[j] = v at *
  go_enter Tryz.func173, Tryz.ntmps173
  go_wp2_with fail
  refine (bare_any _ _ _ _).mono ?_
  rintro e w1 ⟨rfl, hb1⟩
  have ⟨r0, r1, r2, r3, r4, r5, r6⟩ := R.next hb1
  have hb := chain hal hb1
  clear x0 x1 x2 c0
  go_wp2_with fail
  exact bodyPost_ret (v := agV (bareP v)) (by simp [results, Tryz.results173, go_sem, r1, r2, r3, bareP]) rfl ⟨rfl, below_set3 hb (Nat.le_refl _)⟩
theorem column_at (cols : List Int) (c : Int) (w : World) (h0 : 0 ≤ c) (h1 : c.toNat < cols.length) :
    Calls Tryz.prog 139 #[.int .i64 c] w fun e w' => ∃ u, e = .returned u ∧ Asks cols w.heap.size u (fun row => bareP (row.getD c.toNat vl0)) w' ∧ Below w.heap.size w w' := by
  have hal : Below w.heap.size w (w.alloc (.cells #[.int .i64 c] 3)) := (Below.refl _ _).alloc (Nat.le_refl _) _
  obtain ⟨j, rfl⟩ : ∃ j : Nat, c = j := ⟨c.toNat, by omega⟩
  go_enter Tryz.func139, Tryz.ntmps139
  go_wp2_with fail
  go_ret
  refine ⟨_, rfl, ⟨173, _, rfl, enters_of Tryz.func173 (by kernel_rfl) rfl, ?_⟩, hal⟩
  intro row a cap W hf hs hW
  have hj : j < row.length := by have := hf.len; simp at h1; omega
  have e : row.getD (j : Int).toNat vl0 = row[j] := by simp [List.getD, hj]
  show Calls _ _ _ _ fun e w' => e = .returned (agV (bareP (row.getD (j : Int).toNat vl0))) ∧ _
  rw [e]
  exact column1_at j w.heap.size a row cap W (Nat.lt_of_lt_of_le (by simp) hW.1) ((hW.cell (p := ⟨w.heap.size, 0, none⟩) (Nat.le_refl _) (by simp)).trans (by simp)) hj hs

set_option maxHeartbeats 1000000 in
theorem either1_at (cols : List Int) (lo : Nat) (f1 f2 f3 : List Vl → Vl) (u1 u2 u3 : Value) (b : Nat) (a : Option Addr) (row : List Vl) (cap : Nat) (W : World) (hb : b + 2 < W.heap.size)
    (h0 : W.cell? ⟨b, 0, none⟩ = some u1) (h1 : W.cell? ⟨b + 1, 0, none⟩ = some u2) (h2 : W.cell? ⟨b + 2, 0, none⟩ = some u3) (a1 : Asks cols lo u1 f1 W) (a2 : Asks cols lo u2 f2 W) (a3 : Asks cols lo u3 f3 W) (hf : FitP cols row) (hs : SlAt W a row) :
    Calls Tryz.prog 175 #[.slice a row.length cap, .pointer (some ⟨b, 0, none⟩), .pointer (some ⟨b + 1, 0, none⟩), .pointer (some ⟨b + 2, 0, none⟩)] W fun e w' => e = .returned (agV (if clsP (f1 row) == some true then f2 row else f3 row)) ∧ Below W.heap.size W w' := by
  obtain ⟨g1, cb1, rfl, eg1, d1⟩ := a1
  obtain ⟨g2, cb2, rfl, eg2, d2⟩ := a2
  obtain ⟨g3, cb3, rfl, eg3, d3⟩ := a3
  have hal : Below W.heap.size W (W.alloc (.cells #[.int .i64 0, .int .i64 0, .string ⟨#[]⟩] 24)) := (Below.refl _ _).alloc (Nat.le_refl _) _
  have R := Box.new W (.int .i64 0) (.int .i64 0) (.string ⟨#[]⟩) 24
  have c1 := (hal.cell (p := ⟨b, 0, none⟩) (by show b < _; omega)).trans h0
  have d1 := d1 row a cap _ hf (hs.next hal) (Since.of hal)
  have d2 := fun W' (h : Below W.heap.size W W') => d2 row a cap W' hf (hs.next h) (Since.of h)
  have d3 := fun W' (h : Below W.heap.size W W') => d3 row a cap W' hf (hs.next h) (Since.of h)
  generalize f1 row = v1 at *
  generalize f2 row = v2 at *
  generalize f3 row = v3 at *
  by_cases q : (clsP v1 == some true) = true
  · rw [if_pos q]
    go_enter Tryz.func175, Tryz.ntmps175
    go_wp2_with (go_at_fn g1; refine d1.mono ?_)
    rintro e w1 ⟨rfl, hb1⟩
    have hA := chain hal hb1
    have R := R.next hb1
    have q' : (cls v1.1 v1.2.1 == some true) = true := q
    go_wp2_with fail
    refine (true_any _ _ _ _).mono ?_
    rintro e w2 ⟨rfl, hb2⟩
    rw [q']
    have hA := chain hA hb2
    have R := R.next hb2
    have c2 := (hA.cell (p := ⟨b + 1, 0, none⟩) (by show b + 1 < _; omega)).trans h1
    have d2 := d2 _ hA
    clear d1 c1 d3
    go_wp2_with (go_at_fn g2; refine d2.mono ?_)
    rintro e w3 ⟨rfl, hb3⟩
    have hA := chain hA hb3
    have ⟨r0, r1, r2, r3, r4, r5, r6⟩ := R.next hb3
    clear d2 c2
    go_wp2_with fail
    exact bodyPost_ret (v := agV v2) (by simp [results, Tryz.results175, go_sem, r1, r2, r3]) rfl ⟨rfl, below_set3 hA (Nat.le_refl _)⟩
  · rw [if_neg q]
    go_enter Tryz.func175, Tryz.ntmps175
    go_wp2_with (go_at_fn g1; refine d1.mono ?_)
    rintro e w1 ⟨rfl, hb1⟩
    have hA := chain hal hb1
    have R := R.next hb1
    have q' : (cls v1.1 v1.2.1 == some true) = false := Bool.eq_false_iff.mpr q
    go_wp2_with fail
    refine (true_any _ _ _ _).mono ?_
    rintro e w2 ⟨rfl, hb2⟩
    rw [q']
    have hA := chain hA hb2
    have R := R.next hb2
    have c3 := (hA.cell (p := ⟨b + 2, 0, none⟩) (by show b + 2 < _; omega)).trans h2
    have d3 := d3 _ hA
    clear d1 c1 d2
    go_wp2_with (go_at_fn g3; refine d3.mono ?_)
    rintro e w3 ⟨rfl, hb3⟩
    have hA := chain hA hb3
    have ⟨r0, r1, r2, r3, r4, r5, r6⟩ := R.next hb3
    clear d3 c3
    go_wp2_with fail
    exact bodyPost_ret (v := agV v3) (by simp [results, Tryz.results175, go_sem, r1, r2, r3]) rfl ⟨rfl, below_set3 hA (Nat.le_refl _)⟩

theorem cell_old {w : World} {o : Obj} {p : Addr} (h : p.block < w.heap.size) : (w.alloc o).cell? p = w.cell? p := ((Below.refl w.heap.size w).alloc (Nat.le_refl _) o).cell h
theorem either_at (cols : List Int) (lo : Nat) (f1 f2 f3 : List Vl → Vl) (u1 u2 u3 : Value) (w : World) (hlo : lo ≤ w.heap.size) (a1 : Asks cols lo u1 f1 w) (a2 : Asks cols lo u2 f2 w) (a3 : Asks cols lo u3 f3 w) :
    Calls Tryz.prog 144 #[u1, u2, u3] w fun e w' => ∃ u, e = .returned u ∧ Asks cols lo u (fun row => if clsP (f1 row) == some true then f2 row else f3 row) w' ∧ Below w.heap.size w w' := by
  obtain ⟨x1, y1, rfl⟩ : ∃ x y, u1 = .func (.func x) #[] y := by obtain ⟨x, y, e, _⟩ := a1; exact ⟨x, y, e⟩
  obtain ⟨x2, y2, rfl⟩ : ∃ x y, u2 = .func (.func x) #[] y := by obtain ⟨x, y, e, _⟩ := a2; exact ⟨x, y, e⟩
  obtain ⟨x3, y3, rfl⟩ : ∃ x y, u3 = .func (.func x) #[] y := by obtain ⟨x, y, e, _⟩ := a3; exact ⟨x, y, e⟩
  have h1 : Below w.heap.size w (w.alloc (.cells #[.func (.func x1) #[] y1] 103)) := (Below.refl _ _).alloc (Nat.le_refl _) _
  have h2 := h1.alloc h1.size (.cells #[.func (.func x2) #[] y2] 103)
  have h3 := h2.alloc h2.size (.cells #[.func (.func x3) #[] y3] 103)
  have q1 : (((w.alloc (.cells #[.func (.func x1) #[] y1] 103)).alloc (.cells #[.func (.func x2) #[] y2] 103)).alloc (.cells #[.func (.func x3) #[] y3] 103)).cell? ⟨w.heap.size, 0, none⟩ = some (.func (.func x1) #[] y1) := by
    rw [cell_old (by simp only [World.size_alloc]; omega), cell_old (by simp)]; simp
  have q2 : (((w.alloc (.cells #[.func (.func x1) #[] y1] 103)).alloc (.cells #[.func (.func x2) #[] y2] 103)).alloc (.cells #[.func (.func x3) #[] y3] 103)).cell? ⟨w.heap.size + 1, 0, none⟩ = some (.func (.func x2) #[] y2) := by
    rw [cell_old (by simp), World.cell?_alloc_at _ _ _ _ (by simp)]; rfl
  have q3 : (((w.alloc (.cells #[.func (.func x1) #[] y1] 103)).alloc (.cells #[.func (.func x2) #[] y2] 103)).alloc (.cells #[.func (.func x3) #[] y3] 103)).cell? ⟨w.heap.size + 2, 0, none⟩ = some (.func (.func x3) #[] y3) := by
    rw [World.cell?_alloc_at _ _ _ _ (by simp)]; rfl
  have z3 : (((w.alloc (.cells #[.func (.func x1) #[] y1] 103)).alloc (.cells #[.func (.func x2) #[] y2] 103)).alloc (.cells #[.func (.func x3) #[] y3] 103)).heap.size = w.heap.size + 3 := by simp
  have n1 := a1.next (Since.of h3)
  have n2 := a2.next (Since.of h3)
  have n3 := a3.next (Since.of h3)
  clear a1 a2 a3
  go_enter Tryz.func144, Tryz.ntmps144
  go_wp2_with fail
  go_ret
  generalize ((w.alloc (.cells #[.func (.func x1) #[] y1] 103)).alloc (.cells #[.func (.func x2) #[] y2] 103)).alloc (.cells #[.func (.func x3) #[] y3] 103) = w3 at *
  refine ⟨_, rfl, ⟨175, _, rfl, enters_of Tryz.func175 (by kernel_rfl) rfl, ?_⟩, h3⟩
  intro row a cap W hf hs hW
  exact either1_at cols lo f1 f2 f3 _ _ _ w.heap.size a row cap W (by have := hW.1; omega) ((hW.cell (p := ⟨w.heap.size, 0, none⟩) hlo (by show w.heap.size < _; omega)).trans q1) ((hW.cell (p := ⟨w.heap.size + 1, 0, none⟩) (by show lo ≤ w.heap.size + 1; omega) (by show w.heap.size + 1 < _; omega)).trans q2) ((hW.cell (p := ⟨w.heap.size + 2, 0, none⟩) (by show lo ≤ w.heap.size + 2; omega) (by show w.heap.size + 2 < _; omega)).trans q3) (n1.next hW) (n2.next hW) (n3.next hW) hf hs
end Go.Proofs.YtfojonhblblbjaaGreat
/- A region that draws its order and makes variables of its own: whatever only reads what was there, and calls that make memory alone, may be taken first, if what is left goes through in every world that has grown since. -/
namespace Go.Proofs.YtfojonhblblbjaaGreat
open Go.RowKit

section
variable {P : Program} {ops : Array Oper} {Q : Exit → Act → World → Prop} {md : Region.Mode} {W0 : World}

/-- In every world that has grown out of W0 the operation leaves v in its temporary, and a world that has grown out of that one. -/
def Grows (P : Program) (ops : Array Oper) (W0 : World) (o : Oper) (v : Value) (a : Act) : Prop :=
  (Region.wanted o (yielded ops a.tmps) = true ∧ ∀ n : Past W0, Oper.quietUpon P (fun w' => Below n.now.heap.size n.now w') n.now v ((execOp a.eval o).run P n.now)) ∨
  (Region.wanted o (yielded ops a.tmps) = false ∧ v = undef)

theorem Grows.of_same {o : Oper} {v : Value} {a a' : Act} (hy : Grows P ops W0 o v a) (he : execOp a'.eval o = execOp a.eval o)
    (hw : Region.wanted o (yielded ops a'.tmps) = Region.wanted o (yielded ops a.tmps)) : Grows P ops W0 o v a' := by
  unfold Grows at *
  rw [he, hw]
  exact hy

theorem Grows.wpOp {i : Nat} {o : Oper} {v : Value} {a : Act} (hi : ops[i]? = some o) (hy : Grows P ops W0 o v a)
    {K : Act → World → Prop} {w : World} (hB : Below W0.heap.size W0 w) (h : ∀ w', Below w.heap.size w w' → K (a.put o.dst v) w') : wpOp P ops Q i K a w := by
  unfold Go.wpOp
  simp only [hi]
  rcases hy with ⟨hw, hv⟩ | ⟨hw, rfl⟩
  · simp only [hw, if_true]
    left
    have h3 := hv ⟨w, hB⟩
    unfold Oper.wp
    simp only at h3
    generalize (execOp a.eval o).run P w = r at *
    cases r with
    | ok n w' =>
      cases n <;> simp only [Oper.quietUpon] at h3 <;> simp only [Oper.upon]
      case value u =>
        obtain ⟨e1, e2⟩ := h3
        rw [e1, e2]
        exact h _ (Below.refl _ _)
      case skip =>
        obtain ⟨e1, e2⟩ := h3
        rw [e1, ← e2]
        exact h _ (Below.refl _ _)
      case enter f args =>
        obtain ⟨e1, hc⟩ := h3
        rw [e1]
        exact hc.mono fun e w'' ⟨he, hw''⟩ => by subst he; exact h _ hw''
    | halt x w' => simp only [Oper.quietUpon] at h3
  · simp only [hw, Bool.false_eq_true, if_false]
    exact h _ (Below.refl _ _)

/-- One operation, apart from another one: whether that one's value is there already makes no difference to it. -/
theorem wpOp_putG {Φ : Act → Prop} {j : Nat} {oi oj : Oper} {v : Value} (hj : ops[j]? = some oj) (hap : oi.apart ops oj = true)
    (hsj : ∀ cs b, oj.op ≠ .select cs b) (hQ : ∀ c a w, Q (.panic c) (a.put oi.dst v) w → Q (.panic c) a w)
    (keep : ∀ (a : Act), Φ a → ∀ u, Φ (a.put oj.dst u)) (keepD : ∀ (a : Act) (d : Deferred), Φ a → Φ { a with defers := d :: a.defers })
    {K : Act → World → Prop} {a : Act} {w : World} (hy : Φ a) (h : wpOp P ops Q j K (a.put oi.dst v) w) :
    wpOp P ops Q j (fun a' w' => Φ a' ∧ K (a'.put oi.dst v) w') a w := by
  obtain ⟨h1, h2, _⟩ := Oper.apart_spec hap
  unfold wpOp at *
  simp only [hj] at *
  rw [wanted_put oj a oi.dst v h1] at h
  split
  · rename_i hw
    simp only [hw, if_true] at h
    rcases h with h | ⟨hasks, hlets⟩
    case inr => exact .inr ⟨by unfold Oper.asks at *; rw [execOp_put oj hsj a oi.dst v h1] at hasks; exact hasks, hlets⟩
    refine .inl ?_
    unfold Oper.wp at *
    rw [execOp_put oj hsj a oi.dst v h1] at h
    generalize (execOp a.eval oj).run P w = r at *
    cases r with
    | ok n w' =>
      cases n <;> simp only [Oper.upon] at h ⊢
      case value u => exact ⟨keep a hy u, by rw [← Act.put_comm a v u h2]; exact h⟩
      case skip => exact ⟨keep a hy _, by rw [← Act.put_comm a v undef h2]; exact h⟩
      case defer d =>
        refine ⟨keep _ (keepD a d hy) _, ?_⟩
        rw [← Act.put_comm _ v undef h2, ← Act.put_defers]
        exact h
      case enter f args =>
        refine Calls.mono h fun e w'' he => ?_
        cases e with
        | returned u => exact ⟨keep a hy u, by rw [← Act.put_comm a v u h2]; exact he⟩
        | panicked c => exact hQ _ _ _ he
        | outgrown => exact he
      case row row args => exact Rows.mono h fun u w'' he => ⟨keep a hy u, by rw [← Act.put_comm a v u h2]; exact he⟩
    | halt x w' =>
      cases x <;> simp only [Oper.upon] at h ⊢
      case panic u => exact hQ _ _ _ h
  · rename_i hw
    simp only [hw] at h
    exact ⟨keep a hy _, by rw [← Act.put_comm a v undef h2]; exact h⟩

/-- Whatever order is picked from here on, and however the world grows ahead of each operation. -/
def wpX (P : Program) (md : Region.Mode) (ops : Array Oper) (Q : Exit → Act → World → Prop) (W0 : World) : Nat → Array Bool → Act → World → Prop
  | 0, listed, a, w => Region.ready md ops listed = [] ∧ ∀ w', Below w.heap.size w w' → Q .normal a w'
  | fuel + 1, listed, a, w => ∀ w', Below w.heap.size w w' → (Region.ready md ops listed = [] → Q .normal a w') ∧
    ∀ i ∈ Region.ready md ops listed, wpOp P ops Q i (fun a' w'' => Below W0.heap.size W0 w'' ∧ wpX P md ops Q W0 fuel (listed.setIfInBounds i true) a' w'') a w'

theorem wpX.later : ∀ (fuel : Nat) {listed : Array Bool} {a : Act} {w w1 : World}, wpX P md ops Q W0 fuel listed a w → Below w.heap.size w w1 → wpX P md ops Q W0 fuel listed a w1
  | 0, _, _, _, _, h, hb => ⟨h.1, fun w' hw' => h.2 w' (chain hb hw')⟩
  | _ + 1, _, _, _, _, h, hb => fun w' hw' => h w' (chain hb hw')

theorem wpAny_of_wpX : ∀ (fuel : Nat) (listed : Array Bool) (a : Act) (w : World), wpX P md ops Q W0 fuel listed a w → wpAny P md ops Q fuel listed a w
  | 0, _, _, _, h => ⟨h.1, h.2 _ (Below.refl _ _)⟩
  | fuel + 1, _, _, w, h => ⟨(h w (Below.refl _ _)).1, fun i hi => wpOp_mono (fun a' w' h' => wpAny_of_wpX fuel _ a' w' h'.2) ((h w (Below.refl _ _)).2 i hi)⟩

theorem wpX_first {i : Nat} {oi : Oper} {v : Value} (hi : ops[i]? = some oi) (hsel : ∀ (j : Nat) (o : Oper) cs b, ops[j]? = some o → o.op ≠ .select cs b)
    (hQ : ∀ c a w, Q (.panic c) (a.put oi.dst v) w → Q (.panic c) a w) :
    ∀ (fuel : Nat) (listed : Array Bool) (a : Act) (w : World),
      (∀ j oj, ops[j]? = some oj → j ≠ i → listed.getD j true = false → (∀ e ∈ oj.after, Region.binds md e = true → e.on ≠ i) → oi.apart ops oj = true) →
      i ∈ Region.ready md ops listed → Grows P ops W0 oi v a → Below W0.heap.size W0 w →
      wpX P md ops Q W0 fuel (listed.setIfInBounds i true) (a.put oi.dst v) w → wpX P md ops Q W0 (fuel + 1) listed a w := by
  intro fuel
  induction fuel with
  | zero =>
    intro listed a w _ hr hy hB H w' hw'
    refine ⟨fun h => (by rw [h] at hr; cases hr), fun j hj => ?_⟩
    by_cases hji : j = i
    · subst hji
      exact hy.wpOp hi (chain hB hw') fun w'' hw'' => ⟨chain (chain hB hw') hw'', H.later 0 (chain hw' hw'')⟩
    · have := ready_mono hj hji
      rw [H.1] at this
      cases this
  | succ fuel ih =>
    intro listed a w hfree hr hy hB H w' hw'
    refine ⟨fun h => (by rw [h] at hr; cases hr), fun j hj => ?_⟩
    by_cases hji : j = i
    · subst hji
      exact hy.wpOp hi (chain hB hw') fun w'' hw'' => ⟨chain (chain hB hw') hw'', H.later (fuel + 1) (chain hw' hw'')⟩
    · have h1 := (H w' hw').2 j (ready_mono hj hji)
      obtain ⟨hjun, oj, hoj, hall⟩ := mem_ready.1 hj
      have hnot : ∀ e ∈ oj.after, Region.binds md e = true → e.on ≠ i := fun e he hb heq => by
        have h1 := hall e he hb
        have h0 := (mem_ready.1 hr).1
        rw [heq] at h1
        rcases Nat.lt_or_ge i listed.size with h' | h'
        · simp [h'] at h0 h1; rw [h0] at h1; cases h1
        · simp [Array.getElem?_eq_none h'] at h1
      have hap := hfree j oj hoj hji hjun hnot
      obtain ⟨_, _, h3⟩ := Oper.apart_spec hap
      have h2 := wpOp_putG (Φ := Grows P ops W0 oi v) hoj hap (fun cs b => hsel j oj cs b hoj) hQ
        (fun a hy u => hy.of_same (execOp_put oi (fun cs b => hsel i oi cs b hi) a oj.dst u h3) (wanted_put oi a oj.dst u h3)) (fun a d hy => hy.of_same rfl rfl) hy h1
      have hfree' : ∀ k ok, ops[k]? = some ok → k ≠ i → (listed.setIfInBounds j true).getD k true = false →
          (∀ e ∈ ok.after, Region.binds md e = true → e.on ≠ i) → oi.apart ops ok = true := fun k ok hk hki hun hno => by
        refine hfree k ok hk hki ?_ hno
        by_cases hjk : j = k
        · subst hjk; exact hjun
        · rw [getD_set_ne true hjk] at hun; exact hun
      refine wpOp_mono (fun a' w'' h4 => ⟨h4.2.1, ih (listed.setIfInBounds j true) a' w'' hfree' (ready_mono hr (Ne.symm hji)) h4.1 h4.2.1 ?_⟩) h2
      rw [Array.setIfInBounds_comm _ _ hji]
      exact h4.2.2

theorem wpX_take {i : Nat} {oi : Oper} {v : Value} {fuel : Nat} {listed : Array Bool} {a : Act} {w : World} (d : Option Tmp) (hi : ops[i]? = some oi) (hd : oi.dst = d)
    (hs : Region.noSelect ops = true) (hf : Region.free md ops listed i = true) (hr : (Region.ready md ops listed).contains i = true)
    (hQ : ∀ c a w, Q (.panic c) (a.put oi.dst v) w → Q (.panic c) a w) (hy : Grows P ops W0 oi v a) (hB : Below W0.heap.size W0 w)
    (h : wpX P md ops Q W0 fuel (listed.setIfInBounds i true) (a.put d v) w) : wpX P md ops Q W0 (fuel + 1) listed a w := by
  subst hd
  exact wpX_first hi (Region.noSelect_spec hs) hQ fuel listed a w (Region.free_spec hi hf) (by simpa using hr) hy hB h

theorem wpX_step {rs : List Nat} {fuel : Nat} {listed : Array Bool} {a : Act} {w : World} (hr : Region.ready md ops listed = rs) (hne : rs ≠ [])
    (h : ∀ w', Below w.heap.size w w' → ∀ i ∈ rs, wpOp P ops Q i (fun a' w'' => Below W0.heap.size W0 w'' ∧ wpX P md ops Q W0 fuel (listed.setIfInBounds i true) a' w'') a w') : wpX P md ops Q W0 (fuel + 1) listed a w :=
  fun w' hw' => ⟨fun h0 => absurd (hr ▸ h0) hne, hr ▸ h w' hw'⟩
theorem wpX_done {listed : Array Bool} {a : Act} {w : World} (hr : Region.ready md ops listed = []) (h : ∀ w', Below w.heap.size w w' → Q .normal a w') : wpX P md ops Q W0 0 listed a w := ⟨hr, h⟩

theorem wp_region_ext0 {id : Nat} {a : Act} {w : World} (W0 : World) (hm : P.follows .mixedOrders = true)
    (h : wpX P .any ops Q W0 ops.size (Array.replicate ops.size false) a w.drew) : (Code.region id ops true).wp P Q a w :=
  wp_region_any hm (wpAny_of_wpX _ _ _ _ h)
theorem wp_region_ext {id : Nat} {a : Act} {w : World} (hm : P.follows .mixedOrders = true)
    (h : wpX P .any ops Q w ops.size (Array.replicate ops.size false) a w.drew) : (Code.region id ops true).wp P Q a w :=
  wp_region_any hm (wpAny_of_wpX _ _ _ _ h)
end
end Go.Proofs.YtfojonhblblbjaaGreat
/- What an expression comes to, as a function value: the functions within ready. -/
namespace Go.Proofs.YtfojonhblblbjaaGreat
open Go.RowKit

/-- What kids come to, as function values, in a slice that lies in a variable. -/
def KidsF (cols : List Int) (lo : Nat) (W : World) (kb : Nat) (ks : List Ex) : Prop :=
  ∃ K, lo ≤ kb ∧ kb < W.heap.size ∧ lo ≤ K ∧ K < W.heap.size ∧ W.cell? ⟨kb, 0, none⟩ = some (.slice (some ⟨K, 0, none⟩) ks.length ks.length) ∧
    ∀ (i : Nat) (h : i < ks.length), ∃ u, W.cell? ⟨K, i, none⟩ = some u ∧ Asks cols lo u (fun row => valX row ks[i]) W
theorem KidsF.next {cols : List Int} {lo : Nat} {W w1 : World} {kb : Nat} {ks : List Ex} (h : KidsF cols lo W kb ks) (hb : Since lo W w1) : KidsF cols lo w1 kb ks := by
  obtain ⟨K, h1, h2, h3, h4, h5, h6⟩ := h
  refine ⟨K, h1, Nat.lt_of_lt_of_le h2 hb.1, h3, Nat.lt_of_lt_of_le h4 hb.1, (hb.cell (p := ⟨kb, 0, none⟩) h1 h2).trans h5, fun i hi => ?_⟩
  obtain ⟨u, c, a⟩ := h6 i hi
  exact ⟨u, (hb.cell (p := ⟨K, i, none⟩) h3 h4).trans c, a.next hb⟩

set_option maxHeartbeats 600000 in
theorem ready1_at (cols : List Int) (lo : Nat) (kb : Nat) (ks : List Ex) (a : Option Addr) (row : List Vl) (cap : Nat) (W : World) (hK : KidsF cols lo W kb ks) (hn : 0 < ks.length) (hf : FitP cols row) (hs : SlAt W a row) :
    Calls Tryz.prog 140 #[.slice a row.length cap, .pointer (some ⟨kb, 0, none⟩)] W fun e w' => e = .returned (agV (notP (valX row ks[0]))) ∧ Below W.heap.size W w' := by
  have hal : Below W.heap.size W (W.alloc (.cells #[.int .i64 0, .int .i64 0, .string ⟨#[]⟩] 24)) := (Below.refl _ _).alloc (Nat.le_refl _) _
  have R := Box.new W (.int .i64 0) (.int .i64 0) (.string ⟨#[]⟩) 24
  obtain ⟨K, k1, k2, k3, k4, k5, k6⟩ := hK.next (Since.of hal)
  obtain ⟨u0, c0, a0⟩ := k6 0 hn
  obtain ⟨g, cb, rfl, eg, d⟩ := a0
  have d := d row a cap _ hf (hs.next hal) (Since.refl _ _)
  dsimp only at d
  have hn' : (0 : Int) < (ks.length : Int) := by omega
  have e : notP (valX row ks[0]) = (tk (not3 (cls (valX row ks[0]).1 (valX row ks[0]).2.1)), tn (not3 (cls (valX row ks[0]).1 (valX row ks[0]).2.1)), ⟨#[]⟩) := rfl
  rw [e]
  clear e k6 hK
  generalize valX row ks[0] = v0 at *
  go_enter Tryz.func140, Tryz.ntmps140
  go_wp2_with (go_at_fn g; refine d.mono ?_; rintro e w1 ⟨rfl, hb1⟩)
  have hA := chain hal hb1
  have R := R.next hb1
  clear d c0 k5
  go_wp2_with fail
  refine (not_any _ _ _ _).mono ?_
  rintro e w2 ⟨rfl, hb2⟩
  have hA := chain hA hb2
  have ⟨r0, r1, r2, r3, r4, r5, r6⟩ := R.next hb2
  go_wp2_with fail
  exact bodyPost_ret (v := .agg #[.int .i64 (tk (not3 (cls v0.1 v0.2.1))), .int .i64 (tn (not3 (cls v0.1 v0.2.1))), .string ⟨#[]⟩]) (by simp [results, Tryz.results140, go_sem, r1, r2, r3]) rfl ⟨rfl, below_set3 hA (Nat.le_refl _)⟩

set_option maxHeartbeats 600000 in
theorem ready2_at (cols : List Int) (lo : Nat) (kb : Nat) (ks : List Ex) (a : Option Addr) (row : List Vl) (cap : Nat) (W : World) (hK : KidsF cols lo W kb ks) (hn : 0 < ks.length) (hf : FitP cols row) (hs : SlAt W a row) :
    Calls Tryz.prog 142 #[.slice a row.length cap, .pointer (some ⟨kb, 0, none⟩)] W fun e w' => e = .returned (agV (tri (some ((valX row ks[0]).1 == 1)))) ∧ Below W.heap.size W w' := by
  have hal : Below W.heap.size W (W.alloc (.cells #[.int .i64 0, .int .i64 0, .string ⟨#[]⟩] 24)) := (Below.refl _ _).alloc (Nat.le_refl _) _
  have R := Box.new W (.int .i64 0) (.int .i64 0) (.string ⟨#[]⟩) 24
  obtain ⟨K, k1, k2, k3, k4, k5, k6⟩ := hK.next (Since.of hal)
  obtain ⟨u0, c0, a0⟩ := k6 0 hn
  obtain ⟨g, cb, rfl, eg, d⟩ := a0
  have d := d row a cap _ hf (hs.next hal) (Since.refl _ _)
  dsimp only at d
  have hn' : (0 : Int) < (ks.length : Int) := by omega
  have e : tri (some ((valX row ks[0]).1 == 1)) = (2, tn (some ((valX row ks[0]).1 == 1)), ⟨#[]⟩) := rfl
  rw [e]
  clear e k6 hK
  generalize valX row ks[0] = v0 at *
  go_enter Tryz.func142, Tryz.ntmps142
  go_wp2_with (go_at_fn g; refine d.mono ?_; rintro e w1 ⟨rfl, hb1⟩)
  have hA := chain hal hb1
  have R := R.next hb1
  clear d c0 k5
  go_wp2_with fail
  refine (isNull_at _ _ _ _).mono ?_
  rintro e w2 ⟨rfl, hb2⟩
  have hA := chain hA hb2
  have R := R.next hb2
  go_wp2_with fail
  refine (bool_any _ _).mono ?_
  rintro e w3 ⟨rfl, hb3⟩
  have hA := chain hA hb3
  have ⟨r0, r1, r2, r3, r4, r5, r6⟩ := R.next hb3
  go_wp2_with fail
  exact bodyPost_ret (v := .agg #[.int .i64 2, .int .i64 (tn (some (v0.1 == 1))), .string ⟨#[]⟩]) (by simp [results, Tryz.results142, go_sem, r1, r2, r3]) rfl ⟨rfl, below_set3 hA (Nat.le_refl _)⟩

set_option maxHeartbeats 2000000 in
theorem ready3_at (cols : List Int) (lo : Nat) (kb db : Nat) (k : Int) (ks : List Ex) (a : Option Addr) (row : List Vl) (cap : Nat) (W : World) (ud : Value) (cd : W.cell? ⟨db, 0, none⟩ = some ud) (F : Fn2 lo ud (twoP k) W)
    (hK : KidsF cols lo W kb ks) (hn : 1 < ks.length) (hf : FitP cols row) (hs : SlAt W a row) (g0 : wrongP (valX row ks[0]) = 0) (g1 : wrongP (valX row ks[1]) = 0) :
    Calls Tryz.prog 146 #[.slice a row.length cap, .pointer (some ⟨db, 0, none⟩), .pointer (some ⟨kb, 0, none⟩)] W fun e w' => e = .returned (agV (twoP k (valX row ks[0]) (valX row ks[1]))) ∧ Below W.heap.size W w' := by
  have hal : Below W.heap.size W (W.alloc (.cells #[.int .i64 0, .int .i64 0, .string ⟨#[]⟩] 24)) := (Below.refl _ _).alloc (Nat.le_refl _) _
  have R := Box.new W (.int .i64 0) (.int .i64 0) (.string ⟨#[]⟩) 24
  obtain ⟨K, k1, k2, k3, k4, k5, k6⟩ := hK
  obtain ⟨u0, c0, a0⟩ := k6 0 (by omega)
  obtain ⟨u1, c1, a1⟩ := k6 1 hn
  obtain ⟨h0, cb0, rfl, eg0, d0⟩ := a0
  obtain ⟨h1, cb1, rfl, eg1, d1⟩ := a1
  obtain ⟨h2, cb2, rfl, eg2, d2⟩ := F
  have d0 := fun n : Past W => d0 row a cap n.now hf (hs.next n.ok) (Since.of n.ok)
  have d1 := fun n : Past W => d1 row a cap n.now hf (hs.next n.ok) (Since.of n.ok)
  dsimp only at d0 d1
  have d2 := fun n : Past W => d2 (valX row ks[0]) (valX row ks[1]) n.now g0 g1 (Since.of n.ok)
  have n0 : 0 < ks.length := by omega
  have l0 : (0 : Int) < (ks.length : Int) := by omega
  have l1 : (1 : Int) < (ks.length : Int) := by omega
  have p0 := past_cell cd
  have p1 := past_cell k5
  have p2 := past_cell c0
  have p3 := past_cell c1
  generalize hr : twoP k (valX row ks[0]) (valX row ks[1]) = r at *
  generalize valX row ks[0] = v0 at *
  generalize valX row ks[1] = v1 at *
  clear k6 hr
  go_enter Tryz.func146, Tryz.ntmps146
  go_wp2_with fail
  generalize W.alloc (.cells #[.int .i64 0, .int .i64 0, .string ⟨#[]⟩] 24) = w0 at *
  have hB0 : Below W.heap.size W w0.drew := hal.drew
  refine wp_region_ext0 W (by kernel_rfl) ?_
  refine wpX_take (some 5) (i := 0) (v := .func (.func h2) #[] cb2) rfl rfl (by kernel_rfl) (by kernel_rfl) (by kernel_rfl) (fun _ _ _ h => h) (Or.inl ⟨rfl, fun n => ?_⟩) hB0 ?_
  · go_simp
  simp only [Act.put, List.setIfInBounds_toArray, List.set_cons_zero, List.set_cons_succ]
  refine wpX_take (some 6) (i := 1) (v := .slice (some ⟨K, 0, none⟩) ks.length ks.length) rfl rfl (by kernel_rfl) (by kernel_rfl) (by kernel_rfl) (fun _ _ _ h => h) (Or.inl ⟨rfl, fun n => ?_⟩) hB0 ?_
  · go_simp
  simp only [Act.put, List.setIfInBounds_toArray, List.set_cons_zero, List.set_cons_succ]
  refine wpX_take (some 7) (i := 2) (v := .pointer (some ⟨K, 0, none⟩)) rfl rfl (by kernel_rfl) (by kernel_rfl) (by kernel_rfl) (fun _ _ _ h => h) (Or.inl ⟨rfl, fun n => ?_⟩) hB0 ?_
  · go_simp
  simp only [Act.put, List.setIfInBounds_toArray, List.set_cons_zero, List.set_cons_succ]
  refine wpX_take (some 8) (i := 3) (v := .func (.func h0) #[] cb0) rfl rfl (by kernel_rfl) (by kernel_rfl) (by kernel_rfl) (fun _ _ _ h => h) (Or.inl ⟨rfl, fun n => ?_⟩) hB0 ?_
  · go_simp
  simp only [Act.put, List.setIfInBounds_toArray, List.set_cons_zero, List.set_cons_succ]
  refine wpX_take (some 9) (i := 4) (v := .slice a row.length cap) rfl rfl (by kernel_rfl) (by kernel_rfl) (by kernel_rfl) (fun _ _ _ h => h) (Or.inl ⟨rfl, fun n => ?_⟩) hB0 ?_
  · go_simp
  simp only [Act.put, List.setIfInBounds_toArray, List.set_cons_zero, List.set_cons_succ]
  refine wpX_take (some 11) (i := 6) (v := .slice (some ⟨K, 0, none⟩) ks.length ks.length) rfl rfl (by kernel_rfl) (by kernel_rfl) (by kernel_rfl) (fun _ _ _ h => h) (Or.inl ⟨rfl, fun n => ?_⟩) hB0 ?_
  · go_simp
  simp only [Act.put, List.setIfInBounds_toArray, List.set_cons_zero, List.set_cons_succ]
  refine wpX_take (some 12) (i := 7) (v := .pointer (some ⟨K, 1, none⟩)) rfl rfl (by kernel_rfl) (by kernel_rfl) (by kernel_rfl) (fun _ _ _ h => h) (Or.inl ⟨rfl, fun n => ?_⟩) hB0 ?_
  · go_simp
  simp only [Act.put, List.setIfInBounds_toArray, List.set_cons_zero, List.set_cons_succ]
  refine wpX_take (some 13) (i := 8) (v := .func (.func h1) #[] cb1) rfl rfl (by kernel_rfl) (by kernel_rfl) (by kernel_rfl) (fun _ _ _ h => h) (Or.inl ⟨rfl, fun n => ?_⟩) hB0 ?_
  · go_simp
  simp only [Act.put, List.setIfInBounds_toArray, List.set_cons_zero, List.set_cons_succ]
  refine wpX_take (some 14) (i := 9) (v := .slice a row.length cap) rfl rfl (by kernel_rfl) (by kernel_rfl) (by kernel_rfl) (fun _ _ _ h => h) (Or.inl ⟨rfl, fun n => ?_⟩) hB0 ?_
  · go_simp
  simp only [Act.put, List.setIfInBounds_toArray, List.set_cons_zero, List.set_cons_succ]
  refine wpX_take (some 10) (i := 5) (v := agV v0) rfl rfl (by kernel_rfl) (by kernel_rfl) (by kernel_rfl) (fun _ _ _ h => h) (Or.inl ⟨rfl, fun n => ?_⟩) hB0 ?_
  · go_simp
  simp only [Act.put, List.setIfInBounds_toArray, List.set_cons_zero, List.set_cons_succ]
  refine wpX_take (some 15) (i := 10) (v := agV v1) rfl rfl (by kernel_rfl) (by kernel_rfl) (by kernel_rfl) (fun _ _ _ h => h) (Or.inl ⟨rfl, fun n => ?_⟩) hB0 ?_
  · go_simp
  simp only [Act.put, List.setIfInBounds_toArray, List.set_cons_zero, List.set_cons_succ]
  refine wpX_take (some 16) (i := 11) (v := agV r) rfl rfl (by kernel_rfl) (by kernel_rfl) (by kernel_rfl) (fun _ _ _ h => h) (Or.inl ⟨rfl, fun n => ?_⟩) hB0 ?_
  · go_simp
  simp only [Act.put, List.setIfInBounds_toArray, List.set_cons_zero, List.set_cons_succ]
  clear p0 p1 p2 p3 d0 d1 d2
  refine wpX_step (rs := [12]) (by kernel_rfl) (by simp) ?_
  intro w12 hb12 j hj
  obtain rfl : j = 12 := by simpa using hj
  clear hj
  have D12 := hB0.trans (hb12.mono hB0.size)
  have R12 := (R.next ((Below.refl _ _).drew)).next hb12
  have P12 := R12.put3 (.int .i64 r.1) (.int .i64 r.2.1) (.string r.2.2)
  have ⟨b0, b1, b2, b3, b4, b5, b6⟩ := R12
  refine wpOp_step rfl (fun K hK => ?_)
  go_simp
  refine hK _ _ ⟨below_set3 D12 (Nat.le_refl _), ?_⟩
  clear hK K
  refine wpX_done (by kernel_rfl) ?_
  intro w13 hb13
  have D13 := (below_set3 D12 (Nat.le_refl _) (x := .int .i64 r.1) (y := .int .i64 r.2.1) (z := .string r.2.2)).trans (hb13.mono (below_set3 D12 (Nat.le_refl _)).size)
  have ⟨g0, g1, g2, g3, g4, g5, g6⟩ := P12.next hb13
  clear b0 b1 b2 b3 b4 b5 b6
  go_wp2_with fail
  exact bodyPost_ret (v := agV r) (by simp [results, Tryz.results146, go_sem, g1, g2, g3]) rfl ⟨rfl, D13⟩
end Go.Proofs.YtfojonhblblbjaaGreat
/- Slices of numbers; allOf, colType, litType, kidsType. -/
namespace Go.Proofs.YtfojonhblblbjaaGreat
open Go.RowKit

/-- A slice holds these numbers, and lies below B. -/
def IsAt (B : Nat) (W : World) (a : Option Addr) (l : List Int) : Prop :=
  l.length ≤ maxLen ∧ (l = [] ∨ ∃ b off, a = some ⟨b, off, none⟩ ∧ b < B ∧ ∀ (i : Nat) (h : i < l.length), W.cell? ⟨b, off + i, none⟩ = some (.int .i64 l[i]))
theorem IsAt.next {B B' : Nat} {W w1 : World} {a : Option Addr} {l : List Int} (h : IsAt B W a l) (hb : Below B' W w1) (hB : B ≤ B') : IsAt B w1 a l := by
  obtain ⟨h0, h | ⟨b, off, e, hlt, hr⟩⟩ := h
  · exact ⟨h0, .inl h⟩
  · exact ⟨h0, .inr ⟨b, off, e, hlt, fun i hi => (hb.cell (p := ⟨b, _, none⟩) (Nat.lt_of_lt_of_le hlt hB)).trans (hr i hi)⟩⟩
theorem IsAt.up {B B' : Nat} {W : World} {a : Option Addr} {l : List Int} (h : IsAt B W a l) (hB : B ≤ B') : IsAt B' W a l := by
  obtain ⟨h0, h | ⟨b, off, e, hlt, hr⟩⟩ := h
  · exact ⟨h0, .inl h⟩
  · exact ⟨h0, .inr ⟨b, off, e, Nat.lt_of_lt_of_le hlt hB, hr⟩⟩
theorem IsAt.elem {B : Nat} {W : World} {a : Option Addr} {l : List Int} (h : IsAt B W a l) {k : Nat} (hk : k < l.length) :
    ∃ b off, a = some ⟨b, off, none⟩ ∧ b < B ∧ W.cell? ⟨b, off + k, none⟩ = some (.int .i64 l[k]) := by
  obtain ⟨_, h | ⟨b, off, e, hlt, hr⟩⟩ := h
  · subst h; simp at hk
  · exact ⟨b, off, e, hlt, hr k hk⟩

theorem allO_end (t : Int) (l : List Int) (k : Nat) (h : l.length ≤ k) : allO t (l.drop k) = some t := by rw [List.drop_eq_nil_of_le h]; simp [allO]
theorem allO_no (t : Int) (l : List Int) (k : Nat) (h : k < l.length) (e : tog l[k] t = none) : allO t (l.drop k) = none := by
  rw [List.drop_eq_getElem_cons h, allO, List.all_cons, e]; rfl
theorem allO_next (t : Int) (l : List Int) (k : Nat) (h : k < l.length) {u : Int} (e : tog l[k] t = some u) : allO t (l.drop k) = allO t (l.drop (k + 1)) := by
  rw [List.drop_eq_getElem_cons h, allO, List.all_cons, e, allO]; rfl

set_option maxHeartbeats 1000000 in
theorem allOf_at (t : Int) (B : Nat) (a : Option Addr) (cap : Nat) (l : List Int) (w : World) (hB : B ≤ w.heap.size) (h : IsAt B w a l) :
    Calls Tryz.prog 200 #[.int .i64 t, .slice a l.length cap] w fun e w' => e = .returned (.tuple #[.int .i64 (resT (allO t l)).1, .int .i64 (resT (allO t l)).2]) ∧ Below w.heap.size w w' := by
  have hl := h.1
  unfold maxLen at hl
  go_enter Tryz.func200, Tryz.ntmps200
  go_wp2_with fail
  go_loopw [12] (fun i wr => ∃ k : Nat, k ≤ l.length ∧ i = .int .i64 k ∧ Hid (allO t l = allO t (l.drop k)) ∧ Below w.heap.size w wr) (fun i _ => l.length - (intOf i).toNat)
  case atStart => exact ⟨0, Nat.zero_le _, rfl, rfl, Below.refl _ _⟩
  case round =>
    obtain ⟨k, hk, rfl, HE, hb⟩ := hrel
    by_cases hlt : k < l.length
    · obtain ⟨b, off, rfl, hbl, c⟩ := (h.next hb hB).elem hlt
      rcases ht : tog l[k] t with _ | u
      · have hR : togR l[k] t = (0, 9) := by simp [togR, ht, resT]
        have HT : Hid (tog l[k] t = none) := ht
        clear ht
        go_wp2_with fail
        refine (together_at _ _ _).mono ?_
        rintro e w1 ⟨rfl, hb1⟩
        simp only [hR]
        go_wp2_with fail
        exact bodyPost_ret (v := .tuple #[.int .i64 0, .int .i64 9]) (by simp [results, Tryz.results200, go_sem]) rfl ⟨by rw [HE.out, allO_no t l k hlt HT.out]; rfl, chain hb hb1⟩
      · have hR : togR l[k] t = (u, 0) := by simp [togR, ht, resT]
        have HT : Hid (tog l[k] t = some u) := ht
        clear ht
        go_wp2_with fail
        refine (together_at _ _ _).mono ?_
        rintro e w1 ⟨rfl, hb1⟩
        simp only [hR]
        go_wp2_with fail
        go_roundw
        case rel => exact ⟨k + 1, by omega, by go_num, HE.out.trans (allO_next t l k hlt HT.out), chain hb hb1⟩
        case measure => simp [intOf]; omega
    · go_wp2_with fail
      exact bodyPost_ret (v := .tuple #[.int .i64 t, .int .i64 0]) (by simp [results, Tryz.results200, go_sem]) rfl ⟨by rw [HE.out, allO_end t l k (by omega)]; rfl, hb⟩

theorem colType_at (B : Nat) (a : Option Addr) (cap : Nat) (l : List Int) (c : Int) (w : World) (h : IsAt B w a l) :
    Calls Tryz.prog 170 #[.slice a l.length cap, .int .i64 c] w fun e w' => e = .returned (.tuple #[.int .i64 (colT l c).1, .int .i64 (colT l c).2]) ∧ Below w.heap.size w w' := by
  by_cases h1 : c < 0
  · have e : colT l c = (0, 7) := by simp [colT, h1]
    rw [e]
    go_enter Tryz.func170, Tryz.ntmps170
    go_wp2_with fail
    exact bodyPost_ret (v := .tuple #[.int .i64 0, .int .i64 7]) (by simp [results, Tryz.results170, go_sem]) rfl ⟨rfl, Below.refl _ _⟩
  by_cases h2 : l.length ≤ c
  · have e : colT l c = (0, 7) := by simp [colT, h2]
    rw [e]
    go_enter Tryz.func170, Tryz.ntmps170
    go_wp2_with fail
    exact bodyPost_ret (v := .tuple #[.int .i64 0, .int .i64 7]) (by simp [results, Tryz.results170, go_sem]) rfl ⟨rfl, Below.refl _ _⟩
  obtain ⟨j, rfl⟩ : ∃ j : Nat, c = j := ⟨c.toNat, by omega⟩
  have hj : j < l.length := by omega
  have e : colT l j = (l[j], 0) := by simp [colT, h2, List.getD, hj]
  rw [e]
  obtain ⟨b, off, rfl, hbl, cc⟩ := h.elem hj
  go_enter Tryz.func170, Tryz.ntmps170
  go_wp2_with fail
  exact bodyPost_ret (v := .tuple #[.int .i64 l[j], .int .i64 0]) (by simp [results, Tryz.results170, go_sem]) rfl ⟨rfl, Below.refl _ _⟩

theorem litType_at (v : Vl) (w : World) :
    Calls Tryz.prog 169 #[agV v] w fun e w' => e = .returned (.tuple #[.int .i64 (litT v).1, .int .i64 (litT v).2]) ∧ Below w.heap.size w w' := by
  obtain ⟨k, n, s⟩ := v
  by_cases h : wrongF k n s = 0
  · have e : litT (k, n, s) = (k, 0) := by simp [litT, wrongP, h]
    rw [e]
    clear e
    go_enter Tryz.func169, Tryz.ntmps169
    go_wp2_with fail
    have A0 := Box.new w (.int .i64 k) (.int .i64 n) (.string s) 24
    refine (wrong_any _ _ _ _).mono ?_
    rintro e w1 ⟨rfl, hb1⟩
    rw [h]
    have ⟨a0, a1, a2, a3, a4, a5, a6⟩ := A0.next hb1
    go_wp2_with fail
    exact bodyPost_ret (v := .tuple #[.int .i64 k, .int .i64 0]) (by simp [results, Tryz.results169, go_sem]) rfl ⟨rfl, below1 hb1⟩
  · have e : litT (k, n, s) = (0, wrongF k n s) := by simp [litT, wrongP, h]
    rw [e]
    clear e
    go_enter Tryz.func169, Tryz.ntmps169
    go_wp2_with fail
    refine (wrong_any _ _ _ _).mono ?_
    rintro e w1 ⟨rfl, hb1⟩
    have q : (wrongF k n s != 0) = true := by simpa using h
    go_wp2_with fail
    exact bodyPost_ret (v := .tuple #[.int .i64 0, .int .i64 (wrongF k n s)]) (by simp [results, Tryz.results169, go_sem]) rfl ⟨rfl, below1 hb1⟩
end Go.Proofs.YtfojonhblblbjaaGreat
/- The walk of exprs.kidsType: all of one type -/
namespace Go.Proofs.YtfojonhblblbjaaGreat
open Go.RowKit

set_option maxHeartbeats 400000 in
theorem kidsType_3 (B : Nat) (a : Option Addr) (cap : Nat) (ts : List Int) (w : World) (hB : B ≤ w.heap.size) (h : IsAt B w a ts) :
    Calls Tryz.prog 171 #[.int .i64 3, .slice a ts.length cap] w fun e w' => e = .returned (.tuple #[.int .i64 (resT (allO 2 ts)).1, .int .i64 (resT (allO 2 ts)).2]) ∧ Below w.heap.size w w' := by
  have con := allOf_at 2 B a cap ts w hB h
  generalize resT (allO 2 ts) = r at *
  generalize ts.length = n at *
  clear h
  go_enter Tryz.func171, Tryz.ntmps171
  go_wp2_with fail
  refine con.mono ?_
  rintro e w1 ⟨rfl, hb1⟩
  go_wp2_with fail
  exact bodyPost_ret (v := .tuple #[.int .i64 r.1, .int .i64 r.2]) (by simp [results, Tryz.results171, go_sem]) rfl ⟨rfl, hb1⟩
set_option maxHeartbeats 400000 in
theorem kidsType_4 (B : Nat) (a : Option Addr) (cap : Nat) (ts : List Int) (w : World) (hB : B ≤ w.heap.size) (h : IsAt B w a ts) :
    Calls Tryz.prog 171 #[.int .i64 4, .slice a ts.length cap] w fun e w' => e = .returned (.tuple #[.int .i64 (resT (allO 2 ts)).1, .int .i64 (resT (allO 2 ts)).2]) ∧ Below w.heap.size w w' := by
  have con := allOf_at 2 B a cap ts w hB h
  generalize resT (allO 2 ts) = r at *
  generalize ts.length = n at *
  clear h
  go_enter Tryz.func171, Tryz.ntmps171
  go_wp2_with fail
  refine con.mono ?_
  rintro e w1 ⟨rfl, hb1⟩
  go_wp2_with fail
  exact bodyPost_ret (v := .tuple #[.int .i64 r.1, .int .i64 r.2]) (by simp [results, Tryz.results171, go_sem]) rfl ⟨rfl, hb1⟩
set_option maxHeartbeats 400000 in
theorem kidsType_5 (B : Nat) (a : Option Addr) (cap : Nat) (ts : List Int) (w : World) (hB : B ≤ w.heap.size) (h : IsAt B w a ts) :
    Calls Tryz.prog 171 #[.int .i64 5, .slice a ts.length cap] w fun e w' => e = .returned (.tuple #[.int .i64 (resT (allO 2 ts)).1, .int .i64 (resT (allO 2 ts)).2]) ∧ Below w.heap.size w w' := by
  have con := allOf_at 2 B a cap ts w hB h
  generalize resT (allO 2 ts) = r at *
  generalize ts.length = n at *
  clear h
  go_enter Tryz.func171, Tryz.ntmps171
  go_wp2_with fail
  refine con.mono ?_
  rintro e w1 ⟨rfl, hb1⟩
  go_wp2_with fail
  exact bodyPost_ret (v := .tuple #[.int .i64 r.1, .int .i64 r.2]) (by simp [results, Tryz.results171, go_sem]) rfl ⟨rfl, hb1⟩
set_option maxHeartbeats 400000 in
theorem kidsType_12 (B : Nat) (a : Option Addr) (cap : Nat) (ts : List Int) (w : World) (hB : B ≤ w.heap.size) (h : IsAt B w a ts) :
    Calls Tryz.prog 171 #[.int .i64 12, .slice a ts.length cap] w fun e w' => e = .returned (.tuple #[.int .i64 (resT (allO 3 ts)).1, .int .i64 (resT (allO 3 ts)).2]) ∧ Below w.heap.size w w' := by
  have con := allOf_at 3 B a cap ts w hB h
  generalize resT (allO 3 ts) = r at *
  generalize ts.length = n at *
  clear h
  go_enter Tryz.func171, Tryz.ntmps171
  go_wp2_with fail
  refine con.mono ?_
  rintro e w1 ⟨rfl, hb1⟩
  go_wp2_with fail
  exact bodyPost_ret (v := .tuple #[.int .i64 r.1, .int .i64 r.2]) (by simp [results, Tryz.results171, go_sem]) rfl ⟨rfl, hb1⟩
set_option maxHeartbeats 400000 in
theorem kidsType_13 (B : Nat) (a : Option Addr) (cap : Nat) (ts : List Int) (w : World) (hB : B ≤ w.heap.size) (h : IsAt B w a ts) :
    Calls Tryz.prog 171 #[.int .i64 13, .slice a ts.length cap] w fun e w' => e = .returned (.tuple #[.int .i64 (resT (allO 3 ts)).1, .int .i64 (resT (allO 3 ts)).2]) ∧ Below w.heap.size w w' := by
  have con := allOf_at 3 B a cap ts w hB h
  generalize resT (allO 3 ts) = r at *
  generalize ts.length = n at *
  clear h
  go_enter Tryz.func171, Tryz.ntmps171
  go_wp2_with fail
  refine con.mono ?_
  rintro e w1 ⟨rfl, hb1⟩
  go_wp2_with fail
  exact bodyPost_ret (v := .tuple #[.int .i64 r.1, .int .i64 r.2]) (by simp [results, Tryz.results171, go_sem]) rfl ⟨rfl, hb1⟩
set_option maxHeartbeats 400000 in
theorem kidsType_14 (B : Nat) (a : Option Addr) (cap : Nat) (ts : List Int) (w : World) (hB : B ≤ w.heap.size) (h : IsAt B w a ts) :
    Calls Tryz.prog 171 #[.int .i64 14, .slice a ts.length cap] w fun e w' => e = .returned (.tuple #[.int .i64 (resT (allO 3 ts)).1, .int .i64 (resT (allO 3 ts)).2]) ∧ Below w.heap.size w w' := by
  have con := allOf_at 3 B a cap ts w hB h
  generalize resT (allO 3 ts) = r at *
  generalize ts.length = n at *
  clear h
  go_enter Tryz.func171, Tryz.ntmps171
  go_wp2_with fail
  refine con.mono ?_
  rintro e w1 ⟨rfl, hb1⟩
  go_wp2_with fail
  exact bodyPost_ret (v := .tuple #[.int .i64 r.1, .int .i64 r.2]) (by simp [results, Tryz.results171, go_sem]) rfl ⟨rfl, hb1⟩
set_option maxHeartbeats 400000 in
theorem kidsType_15 (B : Nat) (a : Option Addr) (cap : Nat) (ts : List Int) (w : World) (hB : B ≤ w.heap.size) (h : IsAt B w a ts) :
    Calls Tryz.prog 171 #[.int .i64 15, .slice a ts.length cap] w fun e w' => e = .returned (.tuple #[.int .i64 (resT (allO 4 ts)).1, .int .i64 (resT (allO 4 ts)).2]) ∧ Below w.heap.size w w' := by
  have con := allOf_at 4 B a cap ts w hB h
  generalize resT (allO 4 ts) = r at *
  generalize ts.length = n at *
  clear h
  go_enter Tryz.func171, Tryz.ntmps171
  go_wp2_with fail
  refine con.mono ?_
  rintro e w1 ⟨rfl, hb1⟩
  go_wp2_with fail
  exact bodyPost_ret (v := .tuple #[.int .i64 r.1, .int .i64 r.2]) (by simp [results, Tryz.results171, go_sem]) rfl ⟨rfl, hb1⟩
theorem kidsType_16 (a : Option Addr) (n cap : Nat) (w : World) :
    Calls Tryz.prog 171 #[.int .i64 16, .slice a n cap] w fun e w' => e = .returned (.tuple #[.int .i64 2, .int .i64 0]) ∧ Below w.heap.size w w' := by
  go_enter Tryz.func171, Tryz.ntmps171
  go_wp2_with fail
  exact bodyPost_ret (v := .tuple #[.int .i64 2, .int .i64 0]) (by simp [results, Tryz.results171, go_sem]) rfl ⟨rfl, Below.refl _ _⟩
end Go.Proofs.YtfojonhblblbjaaGreat
/- The walk of exprs.kidsType: comparisons -/
namespace Go.Proofs.YtfojonhblblbjaaGreat
open Go.RowKit

set_option maxHeartbeats 400000 in
theorem kidsType_6 (b off cap : Nat) (x y : Int) (w : World) (c0 : w.cell? ⟨b, off, none⟩ = some (.int .i64 x)) (c1 : w.cell? ⟨b, off + 1, none⟩ = some (.int .i64 y)) (r : Int × Int) (er : r = if (togR x y).2 = 0 then (2, 0) else (0, (togR x y).2)) :
    Calls Tryz.prog 171 #[.int .i64 6, .slice (some ⟨b, off, none⟩) 2 cap] w fun e w' => e = .returned (.tuple #[.int .i64 r.1, .int .i64 r.2]) ∧ Below w.heap.size w w' := by
  have p0 := past_cell c0
  have p1 := past_cell c1
  haveI : Nonempty (Past w) := ⟨⟨_, Below.refl _ _⟩⟩
  go_enter Tryz.func171, Tryz.ntmps171
  go_wp2_with fail
  refine wp_region_past (by kernel_rfl) (by kernel_rfl) ?_
  repeat (go_big_quiet_step (first | (go_at_call 201; exact in_past (together_at x y _))))
  refine wpQuiet_nil ?_
  rintro w3 ⟨⟨v3, hb3⟩, h3⟩
  obtain rfl : w3 = v3 := h3
  clear p0 p1 c0 c1
  generalize togR x y = t at *
  obtain ⟨t1, t2⟩ := t
  by_cases h0 : t2 = 0
  · subst h0
    simp only [if_true] at er
    subst er
    go_wp2_with fail
    exact bodyPost_ret (v := .tuple #[.int .i64 2, .int .i64 0]) (by simp [results, Tryz.results171, go_sem]) rfl ⟨rfl, hb3⟩
  · simp only [h0, if_false] at er
    subst er
    have q : (t2 != 0) = true := by simpa using h0
    go_wp2_with fail
    exact bodyPost_ret (v := .tuple #[.int .i64 0, .int .i64 t2]) (by simp [results, Tryz.results171, go_sem]) rfl ⟨rfl, hb3⟩
set_option maxHeartbeats 400000 in
theorem kidsType_7 (b off cap : Nat) (x y : Int) (w : World) (c0 : w.cell? ⟨b, off, none⟩ = some (.int .i64 x)) (c1 : w.cell? ⟨b, off + 1, none⟩ = some (.int .i64 y)) (r : Int × Int) (er : r = if (togR x y).2 = 0 then (2, 0) else (0, (togR x y).2)) :
    Calls Tryz.prog 171 #[.int .i64 7, .slice (some ⟨b, off, none⟩) 2 cap] w fun e w' => e = .returned (.tuple #[.int .i64 r.1, .int .i64 r.2]) ∧ Below w.heap.size w w' := by
  have p0 := past_cell c0
  have p1 := past_cell c1
  haveI : Nonempty (Past w) := ⟨⟨_, Below.refl _ _⟩⟩
  go_enter Tryz.func171, Tryz.ntmps171
  go_wp2_with fail
  refine wp_region_past (by kernel_rfl) (by kernel_rfl) ?_
  repeat (go_big_quiet_step (first | (go_at_call 201; exact in_past (together_at x y _))))
  refine wpQuiet_nil ?_
  rintro w3 ⟨⟨v3, hb3⟩, h3⟩
  obtain rfl : w3 = v3 := h3
  clear p0 p1 c0 c1
  generalize togR x y = t at *
  obtain ⟨t1, t2⟩ := t
  by_cases h0 : t2 = 0
  · subst h0
    simp only [if_true] at er
    subst er
    go_wp2_with fail
    exact bodyPost_ret (v := .tuple #[.int .i64 2, .int .i64 0]) (by simp [results, Tryz.results171, go_sem]) rfl ⟨rfl, hb3⟩
  · simp only [h0, if_false] at er
    subst er
    have q : (t2 != 0) = true := by simpa using h0
    go_wp2_with fail
    exact bodyPost_ret (v := .tuple #[.int .i64 0, .int .i64 t2]) (by simp [results, Tryz.results171, go_sem]) rfl ⟨rfl, hb3⟩
set_option maxHeartbeats 400000 in
theorem kidsType_8 (b off cap : Nat) (x y : Int) (w : World) (c0 : w.cell? ⟨b, off, none⟩ = some (.int .i64 x)) (c1 : w.cell? ⟨b, off + 1, none⟩ = some (.int .i64 y)) (r : Int × Int) (er : r = if (togR x y).2 = 0 then (2, 0) else (0, (togR x y).2)) :
    Calls Tryz.prog 171 #[.int .i64 8, .slice (some ⟨b, off, none⟩) 2 cap] w fun e w' => e = .returned (.tuple #[.int .i64 r.1, .int .i64 r.2]) ∧ Below w.heap.size w w' := by
  have p0 := past_cell c0
  have p1 := past_cell c1
  haveI : Nonempty (Past w) := ⟨⟨_, Below.refl _ _⟩⟩
  go_enter Tryz.func171, Tryz.ntmps171
  go_wp2_with fail
  refine wp_region_past (by kernel_rfl) (by kernel_rfl) ?_
  repeat (go_big_quiet_step (first | (go_at_call 201; exact in_past (together_at x y _))))
  refine wpQuiet_nil ?_
  rintro w3 ⟨⟨v3, hb3⟩, h3⟩
  obtain rfl : w3 = v3 := h3
  clear p0 p1 c0 c1
  generalize togR x y = t at *
  obtain ⟨t1, t2⟩ := t
  by_cases h0 : t2 = 0
  · subst h0
    simp only [if_true] at er
    subst er
    go_wp2_with fail
    exact bodyPost_ret (v := .tuple #[.int .i64 2, .int .i64 0]) (by simp [results, Tryz.results171, go_sem]) rfl ⟨rfl, hb3⟩
  · simp only [h0, if_false] at er
    subst er
    have q : (t2 != 0) = true := by simpa using h0
    go_wp2_with fail
    exact bodyPost_ret (v := .tuple #[.int .i64 0, .int .i64 t2]) (by simp [results, Tryz.results171, go_sem]) rfl ⟨rfl, hb3⟩
set_option maxHeartbeats 400000 in
theorem kidsType_9 (b off cap : Nat) (x y : Int) (w : World) (c0 : w.cell? ⟨b, off, none⟩ = some (.int .i64 x)) (c1 : w.cell? ⟨b, off + 1, none⟩ = some (.int .i64 y)) (r : Int × Int) (er : r = if (togR x y).2 = 0 then (2, 0) else (0, (togR x y).2)) :
    Calls Tryz.prog 171 #[.int .i64 9, .slice (some ⟨b, off, none⟩) 2 cap] w fun e w' => e = .returned (.tuple #[.int .i64 r.1, .int .i64 r.2]) ∧ Below w.heap.size w w' := by
  have p0 := past_cell c0
  have p1 := past_cell c1
  haveI : Nonempty (Past w) := ⟨⟨_, Below.refl _ _⟩⟩
  go_enter Tryz.func171, Tryz.ntmps171
  go_wp2_with fail
  refine wp_region_past (by kernel_rfl) (by kernel_rfl) ?_
  repeat (go_big_quiet_step (first | (go_at_call 201; exact in_past (together_at x y _))))
  refine wpQuiet_nil ?_
  rintro w3 ⟨⟨v3, hb3⟩, h3⟩
  obtain rfl : w3 = v3 := h3
  clear p0 p1 c0 c1
  generalize togR x y = t at *
  obtain ⟨t1, t2⟩ := t
  by_cases h0 : t2 = 0
  · subst h0
    simp only [if_true] at er
    subst er
    go_wp2_with fail
    exact bodyPost_ret (v := .tuple #[.int .i64 2, .int .i64 0]) (by simp [results, Tryz.results171, go_sem]) rfl ⟨rfl, hb3⟩
  · simp only [h0, if_false] at er
    subst er
    have q : (t2 != 0) = true := by simpa using h0
    go_wp2_with fail
    exact bodyPost_ret (v := .tuple #[.int .i64 0, .int .i64 t2]) (by simp [results, Tryz.results171, go_sem]) rfl ⟨rfl, hb3⟩
set_option maxHeartbeats 400000 in
theorem kidsType_10 (b off cap : Nat) (x y : Int) (w : World) (c0 : w.cell? ⟨b, off, none⟩ = some (.int .i64 x)) (c1 : w.cell? ⟨b, off + 1, none⟩ = some (.int .i64 y)) (r : Int × Int) (er : r = if (togR x y).2 = 0 then (2, 0) else (0, (togR x y).2)) :
    Calls Tryz.prog 171 #[.int .i64 10, .slice (some ⟨b, off, none⟩) 2 cap] w fun e w' => e = .returned (.tuple #[.int .i64 r.1, .int .i64 r.2]) ∧ Below w.heap.size w w' := by
  have p0 := past_cell c0
  have p1 := past_cell c1
  haveI : Nonempty (Past w) := ⟨⟨_, Below.refl _ _⟩⟩
  go_enter Tryz.func171, Tryz.ntmps171
  go_wp2_with fail
  refine wp_region_past (by kernel_rfl) (by kernel_rfl) ?_
  repeat (go_big_quiet_step (first | (go_at_call 201; exact in_past (together_at x y _))))
  refine wpQuiet_nil ?_
  rintro w3 ⟨⟨v3, hb3⟩, h3⟩
  obtain rfl : w3 = v3 := h3
  clear p0 p1 c0 c1
  generalize togR x y = t at *
  obtain ⟨t1, t2⟩ := t
  by_cases h0 : t2 = 0
  · subst h0
    simp only [if_true] at er
    subst er
    go_wp2_with fail
    exact bodyPost_ret (v := .tuple #[.int .i64 2, .int .i64 0]) (by simp [results, Tryz.results171, go_sem]) rfl ⟨rfl, hb3⟩
  · simp only [h0, if_false] at er
    subst er
    have q : (t2 != 0) = true := by simpa using h0
    go_wp2_with fail
    exact bodyPost_ret (v := .tuple #[.int .i64 0, .int .i64 t2]) (by simp [results, Tryz.results171, go_sem]) rfl ⟨rfl, hb3⟩
set_option maxHeartbeats 400000 in
theorem kidsType_11 (b off cap : Nat) (x y : Int) (w : World) (c0 : w.cell? ⟨b, off, none⟩ = some (.int .i64 x)) (c1 : w.cell? ⟨b, off + 1, none⟩ = some (.int .i64 y)) (r : Int × Int) (er : r = if (togR x y).2 = 0 then (2, 0) else (0, (togR x y).2)) :
    Calls Tryz.prog 171 #[.int .i64 11, .slice (some ⟨b, off, none⟩) 2 cap] w fun e w' => e = .returned (.tuple #[.int .i64 r.1, .int .i64 r.2]) ∧ Below w.heap.size w w' := by
  have p0 := past_cell c0
  have p1 := past_cell c1
  haveI : Nonempty (Past w) := ⟨⟨_, Below.refl _ _⟩⟩
  go_enter Tryz.func171, Tryz.ntmps171
  go_wp2_with fail
  refine wp_region_past (by kernel_rfl) (by kernel_rfl) ?_
  repeat (go_big_quiet_step (first | (go_at_call 201; exact in_past (together_at x y _))))
  refine wpQuiet_nil ?_
  rintro w3 ⟨⟨v3, hb3⟩, h3⟩
  obtain rfl : w3 = v3 := h3
  clear p0 p1 c0 c1
  generalize togR x y = t at *
  obtain ⟨t1, t2⟩ := t
  by_cases h0 : t2 = 0
  · subst h0
    simp only [if_true] at er
    subst er
    go_wp2_with fail
    exact bodyPost_ret (v := .tuple #[.int .i64 2, .int .i64 0]) (by simp [results, Tryz.results171, go_sem]) rfl ⟨rfl, hb3⟩
  · simp only [h0, if_false] at er
    subst er
    have q : (t2 != 0) = true := by simpa using h0
    go_wp2_with fail
    exact bodyPost_ret (v := .tuple #[.int .i64 0, .int .i64 t2]) (by simp [results, Tryz.results171, go_sem]) rfl ⟨rfl, hb3⟩
end Go.Proofs.YtfojonhblblbjaaGreat
/- The walk of exprs.kidsType: coalesce and case -/
namespace Go.Proofs.YtfojonhblblbjaaGreat
open Go.RowKit

set_option maxHeartbeats 400000 in
theorem kidsType_18 (b off cap : Nat) (x y : Int) (w : World) (c0 : w.cell? ⟨b, off, none⟩ = some (.int .i64 x)) (c1 : w.cell? ⟨b, off + 1, none⟩ = some (.int .i64 y)) :
    Calls Tryz.prog 171 #[.int .i64 18, .slice (some ⟨b, off, none⟩) 2 cap] w fun e w' => e = .returned (.tuple #[.int .i64 (togR x y).1, .int .i64 (togR x y).2]) ∧ Below w.heap.size w w' := by
  have p0 := past_cell c0
  have p1 := past_cell c1
  haveI : Nonempty (Past w) := ⟨⟨_, Below.refl _ _⟩⟩
  go_enter Tryz.func171, Tryz.ntmps171
  go_wp2_with fail
  refine wp_region_past (by kernel_rfl) (by kernel_rfl) ?_
  repeat (go_big_quiet_step (first | (go_at_call 201; exact in_past (together_at x y _))))
  refine wpQuiet_nil ?_
  rintro w3 ⟨⟨v3, hb3⟩, h3⟩
  obtain rfl : w3 = v3 := h3
  go_wp2_with fail
  exact bodyPost_ret (v := .tuple #[.int .i64 (togR x y).1, .int .i64 (togR x y).2]) (by simp [results, Tryz.results171, go_sem]) rfl ⟨rfl, hb3⟩
set_option maxHeartbeats 800000 in
theorem kidsType_17 (b off cap : Nat) (x y z : Int) (w : World) (hb : b < w.heap.size) (c0 : w.cell? ⟨b, off, none⟩ = some (.int .i64 x)) (c1 : w.cell? ⟨b, off + 1, none⟩ = some (.int .i64 y)) (c2 : w.cell? ⟨b, off + 2, none⟩ = some (.int .i64 z)) (r : Int × Int) (er : r = if (togR x 2).2 = 0 then togR y z else (0, (togR x 2).2)) :
    Calls Tryz.prog 171 #[.int .i64 17, .slice (some ⟨b, off, none⟩) 3 cap] w fun e w' => e = .returned (.tuple #[.int .i64 r.1, .int .i64 r.2]) ∧ Below w.heap.size w w' := by
  go_enter Tryz.func171, Tryz.ntmps171
  go_wp2_with fail
  refine (together_at _ _ _).mono ?_
  rintro e w1 ⟨rfl, hb1⟩
  have d1 := (hb1.cell (p := ⟨b, off + 1, none⟩) hb).trans c1
  have d2 := (hb1.cell (p := ⟨b, off + 2, none⟩) hb).trans c2
  have p1 := past_cell d1
  have p2 := past_cell d2
  haveI : Nonempty (Past w1) := ⟨⟨_, Below.refl _ _⟩⟩
  clear c0 c1 c2
  generalize togR x 2 = t at *
  obtain ⟨t1, t2⟩ := t
  by_cases h0 : t2 = 0
  · subst h0
    simp only [if_true] at er
    subst er
    go_wp2_with fail
    refine wp_region_past (by kernel_rfl) (by kernel_rfl) ?_
    repeat (go_big_quiet_step (first | (go_at_call 201; exact in_past (together_at y z _))))
    refine wpQuiet_nil ?_
    rintro w3 ⟨⟨v3, hb3⟩, h3⟩
    obtain rfl : w3 = v3 := h3
    go_wp2_with fail
    exact bodyPost_ret (v := .tuple #[.int .i64 (togR y z).1, .int .i64 (togR y z).2]) (by simp [results, Tryz.results171, go_sem]) rfl ⟨rfl, chain hb1 hb3⟩
  · simp only [h0, if_false] at er
    subst er
    have q : (t2 != 0) = true := by simpa using h0
    go_wp2_with fail
    exact bodyPost_ret (v := .tuple #[.int .i64 0, .int .i64 t2]) (by simp [results, Tryz.results171, go_sem]) rfl ⟨rfl, hb1⟩
end Go.Proofs.YtfojonhblblbjaaGreat
/- The walk of exprs.kidsType, whole. -/
namespace Go.Proofs.YtfojonhblblbjaaGreat
open Go.RowKit

theorem list2 {l : List Int} (h : l.length = 2) : ∃ x y, l = [x, y] := by
  match l, h with
  | [x, y], _ => exact ⟨x, y, rfl⟩
theorem list3 {l : List Int} (h : l.length = 3) : ∃ x y z, l = [x, y, z] := by
  match l, h with
  | [x, y, z], _ => exact ⟨x, y, z, rfl⟩
theorem kidsT_two {k a b : Int} (h : 6 ≤ k) (h' : k ≤ 11) : resT (kidsT k [a, b]) = if (togR a b).2 = 0 then (2, 0) else (0, (togR a b).2) := by
  have e : kidsT k [a, b] = if (tog a b).isSome then some 2 else none := by
    unfold kidsT
    rw [if_neg (by omega), if_pos ⟨h, h'⟩]
    rfl
  rw [e]
  unfold togR
  cases tog a b <;> rfl
theorem kidsT_three {x y z : Int} : resT (kidsT 17 [x, y, z]) = if (togR x 2).2 = 0 then togR y z else (0, (togR x 2).2) := by
  have e : kidsT 17 [x, y, z] = if (tog x 2).isSome then tog y z else none := rfl
  rw [e]
  unfold togR
  cases tog x 2 <;> rfl
theorem IsAt.two {B : Nat} {W : World} {a : Option Addr} {x y : Int} (h : IsAt B W a [x, y]) : ∃ b off, a = some ⟨b, off, none⟩ ∧ b < B ∧ W.cell? ⟨b, off, none⟩ = some (.int .i64 x) ∧ W.cell? ⟨b, off + 1, none⟩ = some (.int .i64 y) := by
  obtain ⟨_, h | ⟨b, off, e, hlt, hr⟩⟩ := h
  · simp at h
  · exact ⟨b, off, e, hlt, hr 0 (by simp), hr 1 (by simp)⟩
theorem IsAt.three {B : Nat} {W : World} {a : Option Addr} {x y z : Int} (h : IsAt B W a [x, y, z]) : ∃ b off, a = some ⟨b, off, none⟩ ∧ b < B ∧ W.cell? ⟨b, off, none⟩ = some (.int .i64 x) ∧ W.cell? ⟨b, off + 1, none⟩ = some (.int .i64 y) ∧ W.cell? ⟨b, off + 2, none⟩ = some (.int .i64 z) := by
  obtain ⟨_, h | ⟨b, off, e, hlt, hr⟩⟩ := h
  · simp at h
  · exact ⟨b, off, e, hlt, hr 0 (by simp), hr 1 (by simp), hr 2 (by simp)⟩

theorem kidsType_at (k : Int) (B : Nat) (a : Option Addr) (cap : Nat) (ts : List Int) (w : World) (hB : B ≤ w.heap.size) (h : IsAt B w a ts) (h3 : 3 ≤ k) (h18 : k ≤ 18) (hl : ts.length = kidsN k) :
    Calls Tryz.prog 171 #[.int .i64 k, .slice a ts.length cap] w fun e w' => e = .returned (.tuple #[.int .i64 (resT (kidsT k ts)).1, .int .i64 (resT (kidsT k ts)).2]) ∧ Below w.heap.size w w' := by
  obtain rfl | rfl | rfl | rfl | rfl | rfl | rfl | rfl | rfl | rfl | rfl | rfl | rfl | rfl | rfl | rfl : k = 3 ∨ k = 4 ∨ k = 5 ∨ k = 12 ∨ k = 13 ∨ k = 14 ∨ k = 15 ∨ k = 16 ∨ k = 6 ∨ k = 7 ∨ k = 8 ∨ k = 9 ∨ k = 10 ∨ k = 11 ∨ k = 17 ∨ k = 18 := by omega
  · have e : kidsT 3 ts = allO 2 ts := rfl
    rw [e]
    exact kidsType_3 B a cap ts w hB h
  · have e : kidsT 4 ts = allO 2 ts := rfl
    rw [e]
    exact kidsType_4 B a cap ts w hB h
  · have e : kidsT 5 ts = allO 2 ts := rfl
    rw [e]
    exact kidsType_5 B a cap ts w hB h
  · have e : kidsT 12 ts = allO 3 ts := rfl
    rw [e]
    exact kidsType_12 B a cap ts w hB h
  · have e : kidsT 13 ts = allO 3 ts := rfl
    rw [e]
    exact kidsType_13 B a cap ts w hB h
  · have e : kidsT 14 ts = allO 3 ts := rfl
    rw [e]
    exact kidsType_14 B a cap ts w hB h
  · have e : kidsT 15 ts = allO 4 ts := rfl
    rw [e]
    exact kidsType_15 B a cap ts w hB h
  · have e : resT (kidsT 16 ts) = (2, 0) := rfl
    rw [e]
    exact kidsType_16 a ts.length cap w
  · obtain ⟨x, y, rfl⟩ := list2 hl
    obtain ⟨b, off, rfl, hlt, c0, c1⟩ := h.two
    exact kidsType_6 b off cap x y w c0 c1 _ (kidsT_two (by decide) (by decide))
  · obtain ⟨x, y, rfl⟩ := list2 hl
    obtain ⟨b, off, rfl, hlt, c0, c1⟩ := h.two
    exact kidsType_7 b off cap x y w c0 c1 _ (kidsT_two (by decide) (by decide))
  · obtain ⟨x, y, rfl⟩ := list2 hl
    obtain ⟨b, off, rfl, hlt, c0, c1⟩ := h.two
    exact kidsType_8 b off cap x y w c0 c1 _ (kidsT_two (by decide) (by decide))
  · obtain ⟨x, y, rfl⟩ := list2 hl
    obtain ⟨b, off, rfl, hlt, c0, c1⟩ := h.two
    exact kidsType_9 b off cap x y w c0 c1 _ (kidsT_two (by decide) (by decide))
  · obtain ⟨x, y, rfl⟩ := list2 hl
    obtain ⟨b, off, rfl, hlt, c0, c1⟩ := h.two
    exact kidsType_10 b off cap x y w c0 c1 _ (kidsT_two (by decide) (by decide))
  · obtain ⟨x, y, rfl⟩ := list2 hl
    obtain ⟨b, off, rfl, hlt, c0, c1⟩ := h.two
    exact kidsType_11 b off cap x y w c0 c1 _ (kidsT_two (by decide) (by decide))
  · obtain ⟨x, y, z, rfl⟩ := list3 hl
    obtain ⟨b, off, rfl, hlt, c0, c1, c2⟩ := h.three
    exact kidsType_17 b off cap x y z w (by omega) c0 c1 c2 _ kidsT_three
  · obtain ⟨x, y, rfl⟩ := list2 hl
    obtain ⟨b, off, rfl, hlt, c0, c1⟩ := h.two
    have e : resT (kidsT 18 [x, y]) = togR x y := rfl
    rw [e]
    exact kidsType_18 b off cap x y w c0 c1
end Go.Proofs.YtfojonhblblbjaaGreat
/- Expressions in memory; what a walk with a counter of its own leaves as it was. -/
namespace Go.Proofs.YtfojonhblblbjaaGreat
open Go.RowKit

/-- Expressions lie in a slice, and their kids behind them, all below B. -/
inductive KsAt (B : Nat) (W : World) : Option Addr → List Ex → Prop
  | nil (a : Option Addr) : KsAt B W a []
  | some (b off : Nat) (l : List Ex) (ai : Nat → Option Addr) (cap : Nat → Nat) (hb : b < B)
      (hc : ∀ (i : Nat) (h : i < l.length), Six W b (off + i * 6) l[i].k l[i].v l[i].c (ai i) l[i].ks.length (cap i))
      (hk : ∀ (i : Nat) (h : i < l.length), KsAt B W (ai i) l[i].ks) : KsAt B W (some ⟨b, off, none⟩) l
theorem KsAt.next {B B' : Nat} {W w1 : World} (hb : Below B' W w1) (hB : B ≤ B') {a : Option Addr} {l : List Ex} (h : KsAt B W a l) : KsAt B w1 a l := by
  induction h with
  | nil a => exact .nil a
  | some b off l ai cap hlt hc _ ih => exact .some b off l ai cap hlt (fun i hi => (hc i hi).next hb (Nat.lt_of_lt_of_le hlt hB)) ih
theorem KsAt.up {B B' : Nat} {W : World} (hB : B ≤ B') {a : Option Addr} {l : List Ex} (h : KsAt B W a l) : KsAt B' W a l := by
  induction h with
  | nil a => exact .nil a
  | some b off l ai cap hlt hc _ ih => exact .some b off l ai cap (Nat.lt_of_lt_of_le hlt hB) hc ih
theorem KsAt.elem {B : Nat} {W : World} {a : Option Addr} {l : List Ex} (h : KsAt B W a l) {k : Nat} (hk : k < l.length) :
    ∃ b off ai cap, a = Option.some ⟨b, off, none⟩ ∧ b < B ∧ Six W b (off + k * 6) l[k].k l[k].v l[k].c ai l[k].ks.length cap ∧ KsAt B W ai l[k].ks := by
  cases h with
  | nil => simp at hk
  | some b off l ai cap hlt hc hh => exact ⟨b, off, ai k, cap k, rfl, hlt, hc k hk, hh k hk⟩

/-- As 'Below' of all that was there, but for block t. -/
def BelowX (t : Nat) (w w' : World) : Prop := Below t w w' ∧ ∀ k, k < w.heap.size → k ≠ t → w'.heap[k]? = w.heap[k]?
theorem BelowX.refl (t : Nat) (w : World) : BelowX t w w := ⟨Below.refl _ _, fun _ _ _ => rfl⟩
theorem BelowX.size {t : Nat} {a b : World} (h : BelowX t a b) : a.heap.size ≤ b.heap.size := h.1.size
theorem BelowX.trans {t : Nat} {a b c : World} (h : BelowX t a b) (k : BelowX t b c) : BelowX t a c :=
  ⟨h.1.trans k.1, fun i hi hn => (k.2 i (Nat.lt_of_lt_of_le hi h.size) hn).trans (h.2 i hi hn)⟩
theorem BelowX.of {t : Nat} {a b : World} (h : Below a.heap.size a b) (ht : t ≤ a.heap.size) : BelowX t a b := ⟨h.mono ht, fun k hk _ => h.block k hk⟩
theorem BelowX.set {t : Nat} {a b : World} (h : BelowX t a b) (o : Nat) (u : Value) : BelowX t a (b.setCell ⟨t, o, none⟩ u) :=
  ⟨h.1.setCell (Nat.le_refl _) u, fun k hk hn => (Below.heap_setCell b ⟨t, o, none⟩ u k hn).trans (h.2 k hk hn)⟩
/-- A store into a block that is newer. -/
theorem BelowX.setNew {t : Nat} {a b : World} (h : BelowX t a b) (g o : Nat) (u : Value) (hg : a.heap.size ≤ g) (ht : t ≤ a.heap.size) : BelowX t a (b.setCell ⟨g, o, none⟩ u) :=
  ⟨h.1.setCell (Nat.le_trans ht hg) u, fun k hk hn => (Below.heap_setCell b ⟨g, o, none⟩ u k (by show k ≠ g; omega)).trans (h.2 k hk hn)⟩
theorem BelowX.cell {t : Nat} {a b : World} (h : BelowX t a b) {p : Addr} (hp : p.block < a.heap.size) (hn : p.block ≠ t) : b.cell? p = a.cell? p := World.cell?_of_block (w := a) (h.2 p.block hp hn)
theorem BelowX.frozen {t : Nat} {a b : World} (h : BelowX t a b) {p : Addr} (hp : p.block < a.heap.size) (hn : p.block ≠ t) : b.frozen? p = a.frozen? p := World.frozen?_of_block (w := a) (h.2 p.block hp hn)
theorem BelowX.below {t B : Nat} {a b : World} (h : BelowX t a b) (hB : B ≤ t) : Below B a b := h.1.mono hB
theorem Six.nextX {W w1 : World} {t b off : Nat} {k : Int} {v : Vl} {c : Int} {a : Option Addr} {n cap : Nat} (h : Six W b off k v c a n cap) (hb : BelowX t W w1) (hB : b < W.heap.size) (hn : b ≠ t) : Six w1 b off k v c a n cap :=
  ⟨(hb.cell (p := ⟨b, _, none⟩) hB hn).trans h.c0, (hb.cell (p := ⟨b, _, none⟩) hB hn).trans h.c1, (hb.cell (p := ⟨b, _, none⟩) hB hn).trans h.c2, (hb.cell (p := ⟨b, _, none⟩) hB hn).trans h.c3, (hb.cell (p := ⟨b, _, none⟩) hB hn).trans h.c4, (hb.cell (p := ⟨b, _, none⟩) hB hn).trans h.c5⟩

/-- One who counts: the columns, and how many nodes so far. -/
structure TyC (W : World) (t : Nat) (ca : Option Addr) (n cap : Nat) (m : Int) : Prop where
  lt : t < W.heap.size
  c0 : W.cell? ⟨t, 0, none⟩ = some (.slice ca n cap)
  c1 : W.cell? ⟨t, 1, none⟩ = some (.int .i64 m)
  f1 : W.frozen? ⟨t, 1, none⟩ = false
theorem TyC.next {W w1 : World} {t : Nat} {ca : Option Addr} {n cap : Nat} {m : Int} (h : TyC W t ca n cap m) (hb : Below W.heap.size W w1) : TyC w1 t ca n cap m :=
  ⟨Nat.lt_of_lt_of_le h.lt hb.size, (hb.cell (p := ⟨t, 0, none⟩) h.lt).trans h.c0, (hb.cell (p := ⟨t, 1, none⟩) h.lt).trans h.c1, (hb.frozen (p := ⟨t, 1, none⟩) h.lt).trans h.f1⟩
theorem TyC.count {W : World} {t : Nat} {ca : Option Addr} {n cap : Nat} {m : Int} (h : TyC W t ca n cap m) (m' : Int) : TyC (W.setCell ⟨t, 1, none⟩ (.int .i64 m')) t ca n cap m' := by
  obtain ⟨lt, c0, c1, f1⟩ := h
  refine ⟨by simpa using lt, ?_, ?_, ?_⟩
  · rw [World.cell?_setCell_other _ _ _ _ (by simp)]
    exact c0
  · exact World.cell?_setCell_same _ _ _ c1
  · simpa using f1
/-- Numbers of one's own. -/
structure Own1 (W : World) (g : Nat) (l : List Int) : Prop where
  lt : g < W.heap.size
  c : ∀ (i : Nat) (h : i < l.length), W.cell? ⟨g, i, none⟩ = some (.int .i64 l[i])
  f : ∀ i : Nat, W.frozen? ⟨g, i, none⟩ = false
theorem Own1.nextX {t : Nat} {W w1 : World} {g : Nat} {l : List Int} (h : Own1 W g l) (hb : BelowX t W w1) (hn : g ≠ t) : Own1 w1 g l :=
  ⟨Nat.lt_of_lt_of_le h.lt hb.size, fun i hi => (hb.cell (p := ⟨g, i, none⟩) h.lt hn).trans (h.c i hi), fun i => (hb.frozen (p := ⟨g, i, none⟩) h.lt hn).trans (h.f i)⟩
theorem Own1.set {W : World} {g : Nat} {l : List Int} (h : Own1 W g l) (i : Nat) (hi : i < l.length) (u : Int) : Own1 (W.setCell ⟨g, i, none⟩ (.int .i64 u)) g (l.set i u) := by
  refine ⟨by simpa using h.lt, fun j hj => ?_, fun j => by simpa using h.f j⟩
  have hj' : j < l.length := by simpa using hj
  by_cases e : i = j
  · subst e
    rw [World.cell?_setCell_same _ _ _ (h.c i hi)]
    simp
  · rw [World.cell?_setCell_other _ _ _ _ (by intro h; injection h with _ h; exact e h), h.c j hj']
    simp [List.getElem_set_ne e]
theorem Own1.is {W : World} {g : Nat} {l : List Int} (h : Own1 W g l) (hl : l.length ≤ maxLen) : IsAt W.heap.size W (some ⟨g, 0, none⟩) l :=
  ⟨hl, .inr ⟨g, 0, rfl, h.lt, fun i hi => by simpa using h.c i hi⟩⟩
theorem Own1.new (w : World) (n t : Nat) : Own1 (w.alloc (.cells (Array.replicate n (.int .i64 0)) t)) w.heap.size (List.replicate n 0) :=
  ⟨by simp, fun i hi => by have : i < n := by simpa using hi
                           simp [this], fun i => by simp⟩
/-- 'make' of no more than three numbers. -/
theorem make_ints {n : Nat} (h : n ≤ 3) (w : World) : (Instr.makeSlice 22 (.int .i64 n) (.int .i64 n)).run Tryz.prog w = .ok (.slice (some ⟨w.heap.size, 0, none⟩) n n) (w.alloc (.cells (Array.replicate n (.int .i64 0)) 3)) := by
  obtain rfl | rfl | rfl | rfl : n = 0 ∨ n = 1 ∨ n = 2 ∨ n = 3 := by omega
  all_goals kernel_rfl
theorem kidsN_le (k : Int) : kidsN k ≤ 3 := by
  unfold kidsN
  repeat' split
  all_goals omega
end Go.Proofs.YtfojonhblblbjaaGreat
