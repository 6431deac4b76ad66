/- The small functions of package exprs: kidsOf, together, isNull, wrongNode. -/
import Derived.Test.YtbdhmjojamoafaaX0
import Derived.Test.YtbdhmjojamoafaaPast
import Derived.Test.YtbdhmjojamoafaaW2
namespace Go.Proofs.Ytbdhmjojamoafaa
open Go.RowKit

/-- An expression as a value: its node, and where its kids lie. -/
abbrev exV (k : Int) (v : Vl) (c : Int) (a : Option Addr) (n cap : Nat) : Value :=
  .agg #[.int .i64 k, .int .i64 v.1, .int .i64 v.2.1, .string v.2.2, .int .i64 c, .slice a n cap]
abbrev agV (v : Vl) : Value := .agg #[.int .i64 v.1, .int .i64 v.2.1, .string v.2.2]

theorem kidsOf_at (k : Int) (w : World) :
    Calls Try.prog 48 #[.int .i64 k] w fun e w' => e = .returned (.int .i64 (kidsN k : Nat)) ∧ Below w.heap.size w w' := by
  unfold kidsN
  by_cases h1 : k = 1
  · subst h1; go_enter Try.func48, Try.ntmps48; go_wp2_with fail; go_ret; exact ⟨rfl, Below.refl _ _⟩
  by_cases h2 : k = 2
  · subst h2; go_enter Try.func48, Try.ntmps48; go_wp2_with fail; go_ret; exact ⟨rfl, Below.refl _ _⟩
  by_cases h3 : k = 3
  · subst h3; go_enter Try.func48, Try.ntmps48; go_wp2_with fail; go_ret; exact ⟨rfl, Below.refl _ _⟩
  by_cases h4 : k = 16
  · subst h4; go_enter Try.func48, Try.ntmps48; go_wp2_with fail; go_ret; exact ⟨rfl, Below.refl _ _⟩
  by_cases h5 : k = 17
  · subst h5; go_enter Try.func48, Try.ntmps48; go_wp2_with fail; go_ret; exact ⟨rfl, Below.refl _ _⟩
  rw [if_neg (by omega), if_neg (by omega), if_neg (by omega)]
  have q1 : (k == 1) = false := by simpa using h1
  have q2 : (k == 2) = false := by simpa using h2
  have q3 : (k == 3) = false := by simpa using h3
  have q4 : (k == 16) = false := by simpa using h4
  have q5 : (k == 17) = false := by simpa using h5
  go_enter Try.func48, Try.ntmps48
  go_wp2_with fail
  go_ret
  exact ⟨rfl, Below.refl _ _⟩

def togR (a b : Int) : Int × Int := resT (tog a b)
theorem togR_1 (a : Int) : togR a a = (a, 0) := by simp [togR, tog, resT]
theorem togR_2 (a : Int) : togR a 1 = (a, 0) := by simp [togR, tog, resT]
theorem togR_3 {b : Int} (h : ¬ b = 1) : togR 1 b = (b, 0) := by
  have h' : ¬ 1 = b := fun e => h e.symm
  simp [togR, tog, resT, h, h']
theorem togR_4 {a b : Int} (h1 : ¬ a = b) (h2 : ¬ b = 1) (h3 : ¬ a = 1) : togR a b = (0, 9) := by simp [togR, tog, resT, h1, h2, h3]
theorem together_at (a b : Int) (w : World) :
    Calls Try.prog 50 #[.int .i64 a, .int .i64 b] w fun e w' => e = .returned (.tuple #[.int .i64 (togR a b).1, .int .i64 (togR a b).2]) ∧ Below w.heap.size w w' := by
  by_cases h1 : a = b
  · subst h1
    rw [togR_1]
    go_enter Try.func50, Try.ntmps50
    go_wp2_with fail
    exact bodyPost_ret (v := .tuple #[.int .i64 a, .int .i64 0]) (by simp [results, Try.results50, go_sem]) rfl ⟨rfl, Below.refl _ _⟩
  have q1 : (a == b) = false := by simpa using h1
  by_cases h2 : b = 1
  · subst h2
    rw [togR_2]
    go_enter Try.func50, Try.ntmps50
    go_wp2_with fail
    exact bodyPost_ret (v := .tuple #[.int .i64 a, .int .i64 0]) (by simp [results, Try.results50, go_sem]) rfl ⟨rfl, Below.refl _ _⟩
  have q2 : (b == 1) = false := by simpa using h2
  by_cases h3 : a = 1
  · subst h3
    rw [togR_3 h2]
    go_enter Try.func50, Try.ntmps50
    go_wp2_with fail
    exact bodyPost_ret (v := .tuple #[.int .i64 b, .int .i64 0]) (by simp [results, Try.results50, go_sem]) rfl ⟨rfl, Below.refl _ _⟩
  have q3 : (a == 1) = false := by simpa using h3
  rw [togR_4 h1 h2 h3]
  go_enter Try.func50, Try.ntmps50
  go_wp2_with fail
  exact bodyPost_ret (v := .tuple #[.int .i64 0, .int .i64 9]) (by simp [results, Try.results50, go_sem]) rfl ⟨rfl, Below.refl _ _⟩

theorem isNull_at (k n : Int) (s : ByteArray) (w : World) :
    Calls Try.prog 57 #[.agg #[.int .i64 k, .int .i64 n, .string s]] w fun e w' => e = .returned (.bool (k == 1)) ∧ Below w.heap.size w w' := by
  go_enter Try.func57, Try.ntmps57
  go_wp2_with fail
  go_ret
  exact ⟨rfl, ((Below.refl _ _).alloc (Nat.le_refl _) _)⟩

/-- An expression's six cells. -/
structure Six (W : World) (b off : Nat) (k : Int) (v : Vl) (c : Int) (a : Option Addr) (n cap : Nat) : Prop where
  c0 : W.cell? ⟨b, off, none⟩ = some (.int .i64 k)
  c1 : W.cell? ⟨b, off + 1, none⟩ = some (.int .i64 v.1)
  c2 : W.cell? ⟨b, off + 2, none⟩ = some (.int .i64 v.2.1)
  c3 : W.cell? ⟨b, off + 3, none⟩ = some (.string v.2.2)
  c4 : W.cell? ⟨b, off + 4, none⟩ = some (.int .i64 c)
  c5 : W.cell? ⟨b, off + 5, none⟩ = some (.slice a n cap)
theorem Six.next {W w1 : World} {B b off : Nat} {k : Int} {v : Vl} {c : Int} {a : Option Addr} {n cap : Nat} (h : Six W b off k v c a n cap) (hb : Below B W w1) (hB : b < B) : Six w1 b off k v c a n cap :=
  ⟨(hb.cell (p := ⟨b, _, none⟩) hB).trans h.c0, (hb.cell (p := ⟨b, _, none⟩) hB).trans h.c1, (hb.cell (p := ⟨b, _, none⟩) hB).trans h.c2, (hb.cell (p := ⟨b, _, none⟩) hB).trans h.c3, (hb.cell (p := ⟨b, _, none⟩) hB).trans h.c4, (hb.cell (p := ⟨b, _, none⟩) hB).trans h.c5⟩
theorem Six.new (w : World) (k : Int) (v : Vl) (c : Int) (a : Option Addr) (n cap t : Nat) : Six (w.alloc (.cells #[.int .i64 k, .int .i64 v.1, .int .i64 v.2.1, .string v.2.2, .int .i64 c, .slice a n cap] t)) w.heap.size 0 k v c a n cap :=
  ⟨by simp, by simp, by simp, by simp, by simp, by simp⟩

theorem nodeW_much {k : Int} {n : Nat} {m d : Int} (h : 200 < m ∨ 20 < d) : nodeW k n m d = 4 := by simp [nodeW, h]
theorem nodeW_kind {k : Int} {n : Nat} {m d : Int} (h : ¬ 200 < m) (h' : ¬ 20 < d) (h2 : k < 1 ∨ 18 < k) : nodeW k n m d = 1 := by simp [nodeW, h, h', h2]
theorem nodeW_many {k : Int} {n : Nat} {m d : Int} (h : ¬ 200 < m) (h' : ¬ 20 < d) (h2 : ¬ k < 1) (h3 : ¬ 18 < k) (h4 : ¬ n = kidsN k) : nodeW k n m d = 5 := by simp [nodeW, h, h', h2, h3, h4]
theorem nodeW_ok {k : Int} {n : Nat} {m d : Int} (h : ¬ 200 < m) (h' : ¬ 20 < d) (h2 : ¬ k < 1) (h3 : ¬ 18 < k) (h4 : n = kidsN k) : nodeW k n m d = 0 := by simp [nodeW, h, h', h2, h3, h4]

set_option maxHeartbeats 1000000 in
theorem wrongNode_at (k : Int) (v : Vl) (c : Int) (a : Option Addr) (n cap : Nat) (m d : Int) (w : World) :
    Calls Try.prog 31 #[exV k v c a n cap, .int .i64 m, .int .i64 d] w fun e w' => e = .returned (.int .i64 (nodeW k n m d)) ∧ Below w.heap.size w w' := by
  by_cases h1 : 200 < m
  · rw [nodeW_much (.inl h1)]
    go_enter Try.func31, Try.ntmps31
    go_wp2_with fail
    go_ret
    exact ⟨rfl, ((Below.refl _ _).alloc (Nat.le_refl _) _)⟩
  by_cases h2 : 20 < d
  · rw [nodeW_much (.inr h2)]
    go_enter Try.func31, Try.ntmps31
    go_wp2_with fail
    go_ret
    exact ⟨rfl, ((Below.refl _ _).alloc (Nat.le_refl _) _)⟩
  by_cases h3 : k < 1
  · rw [nodeW_kind h1 h2 (.inl h3)]
    go_enter Try.func31, Try.ntmps31
    go_wp2_with fail
    go_ret
    exact ⟨rfl, ((Below.refl _ _).alloc (Nat.le_refl _) _)⟩
  by_cases h4 : 18 < k
  · rw [nodeW_kind h1 h2 (.inr h4)]
    go_enter Try.func31, Try.ntmps31
    go_wp2_with fail
    go_ret
    exact ⟨rfl, ((Below.refl _ _).alloc (Nat.le_refl _) _)⟩
  obtain ⟨q, hq, hn⟩ : ∃ q : Bool, ((n : Int) != ((kidsN k : Nat) : Int)) = q ∧ nodeW k n m d = if q then 5 else 0 := by
    by_cases h5 : n = kidsN k
    · exact ⟨false, by simp [h5], by rw [nodeW_ok h1 h2 h3 h4 h5]; rfl⟩
    · exact ⟨true, by simp; omega, by rw [nodeW_many h1 h2 h3 h4 h5]; rfl⟩
  rw [hn]
  clear hn
  go_enter Try.func31, Try.ntmps31
  go_wp2_with fail
  have hA : Below w.heap.size w (w.alloc (.cells #[.int .i64 k, .int .i64 v.1, .int .i64 v.2.1, .string v.2.2, .int .i64 c, .slice a n cap] 27)) := ((Below.refl _ _).alloc (Nat.le_refl _) _)
  have S := Six.new w k v c a n cap 27
  generalize w.alloc (.cells #[.int .i64 k, .int .i64 v.1, .int .i64 v.2.1, .string v.2.2, .int .i64 c, .slice a n cap] 27) = wA at *
  have p0 := past_cell S.c0
  have p5 := past_cell S.c5
  simp only [Nat.zero_add] at p5
  haveI : Nonempty (Past wA) := ⟨⟨_, Below.refl _ _⟩⟩
  refine wp_region_past (by kernel_rfl) (by kernel_rfl) ?_
  repeat (go_big_quiet_step (first | (go_at_call 48; exact in_past (kidsOf_at _ _))))
  refine wpQuiet_nil ?_
  rintro w3 ⟨⟨v3, hb3⟩, h3'⟩
  obtain rfl : w3 = v3 := h3'
  have hb := chain hA hb3
  clear p0 p5 S hA hb3
  cases q
  · go_wp2_with fail
    go_ret
    exact ⟨rfl, hb⟩
  · go_wp2_with fail
    go_ret
    exact ⟨rfl, hb⟩
end Go.Proofs.Ytbdhmjojamoafaa
