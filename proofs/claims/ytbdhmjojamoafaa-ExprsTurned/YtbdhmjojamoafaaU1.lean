/- The walk of ask, the first function within tidelaw3.ExprsTurned. -/
import Derived.Test.YtbdhmjojamoafaaYE
import Derived.Deep.Cut
namespace Go.Proofs.Ytbdhmjojamoafaa
open Go.RowKit

/-- The world of ask's variables. -/
abbrev ow' (w : World) (k : Int) (v : Vl) (c : Int) (a : Option Addr) (n cap : Nat) : World := (w.alloc (.cells #[.int .i64 k, .int .i64 v.1, .int .i64 v.2.1, .string v.2.2, .int .i64 c, .slice a n cap] 27)).alloc (.cells #[.int .i64 0, .int .i64 0, .string ⟨#[]⟩] 24)
structure OwF' (w w3 : World) (k : Int) (v : Vl) (c : Int) (a : Option Addr) (n cap : Nat) : Prop where
  six : Six w3 w.heap.size 0 k v c a n cap
  box : Box w3 (w.heap.size + 1) (.int .i64 0) (.int .i64 0) (.string ⟨#[]⟩)
  low : Below w.heap.size w w3
  lt : w.heap.size + 1 < w3.heap.size
theorem ow_facts' (w : World) (k : Int) (v : Vl) (c : Int) (a : Option Addr) (n cap : Nat) : OwF' w (ow' w k v c a n cap) k v c a n cap := by
  have h1 : Below w.heap.size w (w.alloc (.cells #[.int .i64 k, .int .i64 v.1, .int .i64 v.2.1, .string v.2.2, .int .i64 c, .slice a n cap] 27)) := (Below.refl _ _).alloc (Nat.le_refl _) _
  have S := Six.new w k v c a n cap 27
  have z1 : (w.alloc (.cells #[.int .i64 k, .int .i64 v.1, .int .i64 v.2.1, .string v.2.2, .int .i64 c, .slice a n cap] 27)).heap.size = w.heap.size + 1 := by simp
  unfold ow'
  generalize w.alloc (.cells #[.int .i64 k, .int .i64 v.1, .int .i64 v.2.1, .string v.2.2, .int .i64 c, .slice a n cap] 27) = w1 at *
  have h3 : Below w1.heap.size w1 (w1.alloc (.cells #[.int .i64 0, .int .i64 0, .string ⟨#[]⟩] 24)) := (Below.refl _ _).alloc (Nat.le_refl _) _
  have B := Box.new w1 (.int .i64 0) (.int .i64 0) (.string ⟨#[]⟩) 24
  have z3 : (w1.alloc (.cells #[.int .i64 0, .int .i64 0, .string ⟨#[]⟩] 24)).heap.size = w1.heap.size + 1 := by simp
  generalize w1.alloc (.cells #[.int .i64 0, .int .i64 0, .string ⟨#[]⟩] 24) = w3 at *
  rw [z1] at B
  exact ⟨S.next h3 (by omega), B, chain h1 h3, by omega⟩


set_option maxHeartbeats 1000000 in
theorem ask_at (cols : List Int) (row : List Vl) (ca : Option Addr) (ccap : Nat) (ra : Option Addr) (rcap : Nat) (cb rb : Nat) (u : Value) (x : Ex) (w : World) (hx : XV w u x) (hc : IsAt w.heap.size w ca cols) (hs : SlAt w ra row)
    (c0 : w.cell? ⟨cb, 0, none⟩ = some (.slice ca cols.length ccap)) (r0 : w.cell? ⟨rb, 0, none⟩ = some (.slice ra row.length rcap)) :
    Calls Try.prog 18 #[u, .pointer (some ⟨cb, 0, none⟩), .pointer (some ⟨rb, 0, none⟩)] w fun e w' => e = .returned (agV (askP cols row x)) ∧ Below w.heap.size w w' := by
  obtain ⟨a, cap, rfl, hk⟩ := hx
  have hcb := World.block_lt_of_cell? _ _ c0
  have hrb := World.block_lt_of_cell? _ _ r0
  generalize hr : askP cols row x = r
  have HR : Hid (askP cols row x = r) := hr
  clear hr
  have h1 : Below w.heap.size w (w.alloc (.cells #[.int .i64 x.k, .int .i64 x.v.1, .int .i64 x.v.2.1, .string x.v.2.2, .int .i64 x.c, .slice a x.ks.length cap] 27)) := (Below.refl _ _).alloc (Nat.le_refl _) _
  have F := ow_facts' w x.k x.v x.c a x.ks.length cap
  have d0 := (F.low.cell (p := ⟨cb, 0, none⟩) hcb).trans c0
  have e0 := (F.low.cell (p := ⟨rb, 0, none⟩) hrb).trans r0
  unfold ow' at F d0 e0
  go_enter Try.func18, Try.ntmps18
  go_wp2_with fail
  generalize (w.alloc (.cells #[.int .i64 x.k, .int .i64 x.v.1, .int .i64 x.v.2.1, .string x.v.2.2, .int .i64 x.c, .slice a x.ks.length cap] 27)).alloc (.cells #[.int .i64 0, .int .i64 0, .string ⟨#[]⟩] 24) = w3 at *
  obtain ⟨S, R, hA, lt0⟩ := F
  refine (eval_at cols x row ca ccap a cap ra rcap w3 ((IX.next hc hA)) (KX.next hk hA) (hs.next hA)).mono ?_
  rintro e w4 ⟨rfl, hb⟩
  replace hA := chain hA hb
  replace R := R.next hb
  clear S d0 e0
  generalize hE : evalX cols x row = E
  have HE : Hid (evalX cols x row = E) := hE
  clear hE
  obtain ⟨⟨kA, nA, sA⟩, eA⟩ := E
  have hal : Below w4.heap.size w4 (w4.alloc (.cells #[.int .i64 kA, .int .i64 nA, .string sA] 24)) := (Below.refl _ _).alloc (Nat.le_refl _) _
  have BA := Box.new w4 (.int .i64 kA) (.int .i64 nA) (.string sA) 24
  replace R := R.next hal
  replace hA := chain hA hal
  have ⟨b0, b1, b2, b3, b4, b5, b6⟩ := R
  have ⟨q0, q1, q2, q3, q4, q5, q6⟩ := BA
  by_cases h0 : eA = 0
  · subst h0
    have er : r = (kA, nA, sA) := by rw [← HR.out, askP, HE.out]; rfl
    subst er
    go_wp2_with fail
    exact bodyPost_ret (v := .agg #[.int .i64 kA, .int .i64 nA, .string sA]) (by simp [results, Try.results18, go_sem, b1, b2, b3]) rfl ⟨rfl, below_set3 hA (by omega)⟩
  · have er : r = (-1, 0, ⟨#[]⟩) := by rw [← HR.out, askP, HE.out, if_pos h0]
    subst er
    have qe : (eA != 0) = true := by simpa using h0
    go_wp2_with fail
    exact bodyPost_ret (v := .agg #[.int .i64 (-1), .int .i64 0, .string ⟨#[]⟩]) (by simp [results, Try.results18, go_sem, b1, b2, b3]) rfl ⟨rfl, below_set3 hA (by omega)⟩
end Go.Proofs.Ytbdhmjojamoafaa
