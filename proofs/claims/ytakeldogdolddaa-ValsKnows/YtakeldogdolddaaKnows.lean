/- The walk of tidelaw1.ValsKnows: for all values it answers true. -/
import Derived.Test.YtakeldogdolddaaW8
import Derived.Test.YtakeldogdolddaaW9
import Derived.Test.YtakeldogdolddaaPast
import Derived.Test.YtakeldogdolddaaLaw
namespace Go.Proofs.Ytakeldogdolddaa
open Go.RowKit

theorem tk_none {t : Option Bool} (h : t ≠ none) : ¬ tk t = 1 := by rcases t with _ | _ | _ <;> simp_all [tk]
set_option maxHeartbeats 400000 in
theorem less36_none (g : Nat) (t : Option Bool) (w : World) (h0 : w.cell? ⟨g, 0, none⟩ = some (.int .i64 1)) (h1 : w.cell? ⟨g, 1, none⟩ = some (.int .i64 0)) (h2 : w.cell? ⟨g, 2, none⟩ = some (.string ⟨#[]⟩)) :
    Calls Try.prog 36 #[.agg #[.int .i64 1, .int .i64 0, .string ⟨#[]⟩], .agg #[.int .i64 (tk t), .int .i64 (tn t), .string ⟨#[]⟩], .pointer (some ⟨g, 0, none⟩)] w fun e w' => e = .returned (.bool true) ∧ Below w.heap.size w w' := by
  have hg : g < w.heap.size := World.block_lt_of_cell? w _ h0
  have e1 : ¬ g = w.heap.size := by omega
  have e2 : ¬ g = w.heap.size + 1 := by omega
  go_enter Try.func36, Try.ntmps36
  go_wp2
  go_ret
  exact ⟨rfl, ((Below.refl _ _).alloc (Nat.le_refl _) _).alloc (by simp) _⟩
set_option maxHeartbeats 400000 in
theorem less36_same (g : Nat) (t : Option Bool) (w : World) (ht : ¬ tk t = 1) (h0 : w.cell? ⟨g, 0, none⟩ = some (.int .i64 1)) (h1 : w.cell? ⟨g, 1, none⟩ = some (.int .i64 0)) (h2 : w.cell? ⟨g, 2, none⟩ = some (.string ⟨#[]⟩)) :
    Calls Try.prog 36 #[.agg #[.int .i64 (tk t), .int .i64 (tn t), .string ⟨#[]⟩], .agg #[.int .i64 (tk t), .int .i64 (tn t), .string ⟨#[]⟩], .pointer (some ⟨g, 0, none⟩)] w fun e w' => e = .returned (.bool true) ∧ Below w.heap.size w w' := by
  have hg : g < w.heap.size := World.block_lt_of_cell? w _ h0
  have e1 : ¬ g = w.heap.size := by omega
  have e2 : ¬ g = w.heap.size + 1 := by omega
  go_enter Try.func36, Try.ntmps36
  go_wp2
  go_ret
  exact ⟨rfl, ((Below.refl _ _).alloc (Nat.le_refl _) _).alloc (by simp) _⟩
theorem less36 (g : Nat) (t t' : Option Bool) (w : World) (h0 : w.cell? ⟨g, 0, none⟩ = some (.int .i64 1)) (h1 : w.cell? ⟨g, 1, none⟩ = some (.int .i64 0)) (h2 : w.cell? ⟨g, 2, none⟩ = some (.string ⟨#[]⟩)) (h : t = none ∨ t = t') :
    Calls Try.prog 36 #[.agg #[.int .i64 (tk t), .int .i64 (tn t), .string ⟨#[]⟩], .agg #[.int .i64 (tk t'), .int .i64 (tn t'), .string ⟨#[]⟩], .pointer (some ⟨g, 0, none⟩)] w fun e w' => e = .returned (.bool true) ∧ Below w.heap.size w w' := by
  by_cases hn : t = none
  · subst hn; exact less36_none g t' w h0 h1 h2
  · rcases h with h | h
    · exact absurd h hn
    · subst h; exact less36_same g t w (tk_none hn) h0 h1 h2

theorem and_leq (a b : Option Bool) : and3 (cls 1 0) b = none ∨ and3 (cls 1 0) b = and3 a b := by rcases a with _ | _ | _ <;> rcases b with _ | _ | _ <;> simp [cls, and3]
theorem or_leq (a b : Option Bool) : or3 (cls 1 0) b = none ∨ or3 (cls 1 0) b = or3 a b := by rcases a with _ | _ | _ <;> rcases b with _ | _ | _ <;> simp [cls, or3]
theorem not_leq (a : Option Bool) : not3 (cls 1 0) = none ∨ not3 (cls 1 0) = not3 a := by left; simp [cls, not3]
theorem eq_leq (k n : Int) (s : ByteArray) (t : Option Bool) : eqT 1 0 ⟨#[]⟩ k n s = none ∨ eqT 1 0 ⟨#[]⟩ k n s = t := by left; simp [eqT, tellB]
theorem lt_leq (k n : Int) (s : ByteArray) (t : Option Bool) : ltT k n s 1 0 ⟨#[]⟩ = none ∨ ltT k n s 1 0 ⟨#[]⟩ = t := by
  left
  have e : tellB k 1 = false := by
    unfold tellB
    by_cases h : k = 1 <;> simp [h]
  simp [ltT, e]

set_option maxHeartbeats 4000000 in
set_option maxRecDepth 100000 in
theorem knows_walk (k0 n0 k1 n1 : Int) (s0 s1 : ByteArray) (w : World) :
    Calls Try.prog 6 #[.agg #[.int .i64 k0, .int .i64 n0, .string s0], .agg #[.int .i64 k1, .int .i64 n1, .string s1]] w fun e w' => e = .returned (.bool true) ∧ Below w.heap.size w w' := by
  have A0 := (Box.new w (.int .i64 k0) (.int .i64 n0) (.string s0) 23).alloc (.cells #[.int .i64 k1, .int .i64 n1, .string s1] 23)
  have B0 := Box.new (w.alloc (.cells #[.int .i64 k0, .int .i64 n0, .string s0] 23)) (.int .i64 k1) (.int .i64 n1) (.string s1) 23
  simp only [World.size_alloc] at B0
  have Z0 : Below w.heap.size w ((w.alloc (.cells #[.int .i64 k0, .int .i64 n0, .string s0] 23)).alloc (.cells #[.int .i64 k1, .int .i64 n1, .string s1] 23)) := ((Below.refl _ _).alloc (Nat.le_refl _) _).alloc (by simp) _
  go_enter Try.func6, Try.ntmps6
  go_wp2_with fail
  refine (alive_any _).mono ?_
  rintro e w1 ⟨rfl, hb1⟩
  have Z1 := chain Z0 hb1
  have A1 := A0.next hb1
  have B1 := B0.next hb1
  have ⟨a0, a1, a2, a3, a4, a5, a6⟩ := A1
  have ⟨b0, b1, b2, b3, b4, b5, b6⟩ := B1
  clear A0 B0 Z0 hb1
  go_wp2_with fail
  refine (right_row [(k0, n0, s0), (k1, n1, s1)] _ _ _ _ (row2 _ _ _ _ _ _ _ _) (by simp) (by simp [maxLen])).mono ?_
  rintro e w2 ⟨rfl, hb2⟩
  have Z2 := chain (Z1.alloc Z1.size _) hb2
  have A2 := (A1.alloc _).next hb2
  have B2 := (B1.alloc _).next hb2
  clear a0 a1 a2 a3 a4 a5 a6 b0 b1 b2 b3 b4 b5 b6 A1 B1 Z1 hb2
  cases hr : rightB [(k0, n0, s0), (k1, n1, s1)]
  · go_wp2_with fail
    go_ret
    exact ⟨rfl, Z2⟩
  clear hr
  go_wp2_with fail
  refine (null_any _).mono ?_
  rintro e w3 ⟨rfl, hb3⟩
  have Z3 := chain Z2 hb3
  have A3 := (A2.next hb3).alloc (.cells #[.int .i64 1, .int .i64 0, .string ⟨#[]⟩] 23)
  have B3 := (B2.next hb3).alloc (.cells #[.int .i64 1, .int .i64 0, .string ⟨#[]⟩] 23)
  have N3 := Box.new w3 (.int .i64 1) (.int .i64 0) (.string ⟨#[]⟩) 23
  have Z4 := Z3.alloc Z3.size (.cells #[.int .i64 1, .int .i64 0, .string ⟨#[]⟩] 23)
  clear A2 B2 Z2 hb3
  go_wp2_with fail
  generalize w3.alloc (.cells #[.int .i64 1, .int .i64 0, .string ⟨#[]⟩] 23) = W at *
  haveI : Nonempty (Past W) := ⟨⟨W, Below.refl _ _⟩⟩
  have p0 := past_cell A3.c0
  have p1 := past_cell A3.c1
  have p2 := past_cell A3.c2
  have p3 := past_cell B3.c0
  have p4 := past_cell B3.c1
  have p5 := past_cell B3.c2
  have p6 := past_cell N3.c0
  have p7 := past_cell N3.c1
  have p8 := past_cell N3.c2
  clear A3 B3 N3 Z3
  refine wp_region_past (by kernel_rfl) (by kernel_rfl) ?_
  repeat (go_big_quiet_step (first
    | (go_at_call 20; exact in_past (and_any _ _ _ _ _ _ _))
    | (go_at_call 22; exact in_past (or_any _ _ _ _ _ _ _))
    | (go_at_call 24; exact in_past (not_any _ _ _ _))
    | (go_at_call 16; exact in_past (equal_any _ _ _ _ _ _ _))
    | (go_at_call 18; exact in_past (less_any _ _ _ _ _ _ _))
    | (go_at_call 36; exact in_past (less36 _ _ _ _ (p6 _) (p7 _) (p8 _) (and_leq _ _)))
    | (go_at_call 36; exact in_past (less36 _ _ _ _ (p6 _) (p7 _) (p8 _) (or_leq _ _)))
    | (go_at_call 36; exact in_past (less36 _ _ _ _ (p6 _) (p7 _) (p8 _) (not_leq _)))
    | (go_at_call 36; exact in_past (less36 _ _ _ _ (p6 _) (p7 _) (p8 _) (eq_leq _ _ _ _)))
    | (go_at_call 36; exact in_past (less36 _ _ _ _ (p6 _) (p7 _) (p8 _) (lt_leq _ _ _ _)))))
  refine wpQuiet_nil ?_
  rintro _ ⟨⟨w5, B5⟩, rfl⟩
  go_wp2_with fail
  go_ret
  exact ⟨rfl, chain Z4 B5⟩
end Go.Proofs.Ytakeldogdolddaa
