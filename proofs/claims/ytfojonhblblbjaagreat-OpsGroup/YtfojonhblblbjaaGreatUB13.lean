/- Together: VD, VE, VH, G9, GA, GB, VF, VI, VJ. -/
import Derived.Test.YtfojonhblblbjaaGreatUB12
import Derived.Test.YtfojonhblblbjaaGreatUB9
/- The document's answer, chapter 4: numbers. -/
namespace Go.Proofs.YtfojonhblblbjaaGreat
open Go.RowKit Go.Lib Go.Shelf

def numP (n : Int) : Vl := if inB n = true then (3, n, ⟨#[]⟩) else (1, 0, ⟨#[]⟩)

set_option maxRecDepth 100000 in
set_option maxHeartbeats 1000000 in
theorem refNumber_at (n : Int) (w : World) : Calls Tryz.prog 99 #[.int .i64 n] w fun e w' => e = .returned (agV (numP n)) ∧ Below w.heap.size w w' := by
 have hal : Below w.heap.size w (w.alloc (.cells #[.int .i64 0, .int .i64 0, .string ⟨#[]⟩] 24)) := (Below.refl _ _).alloc (Nat.le_refl _) _
 have q0 := heap_new w #[.int .i64 0, .int .i64 0, .string ⟨#[]⟩] 24
 by_cases hi : inB n = true
 ·have e : numP n = (3, n, ⟨#[]⟩) := by unfold numP; rw [if_pos hi]
  rw [e]
  unfold agV
  have hb : -1000000000000000 ≤ n ∧ n ≤ 1000000000000000 := by simpa [inB] using hi
  have n1 : ¬ 1000000000000000 < n := by omega
  have n2 : ¬ n < -1000000000000000 := by omega
  clear e hi
  go_enter Tryz.func99, Tryz.ntmps99
  go_upto_region 3 with fail
  generalize w.alloc (.cells #[.int .i64 0, .int .i64 0, .string ⟨#[]⟩] 24) = w2 at *
  have d0 : w2.cell? ⟨w.heap.size, 0, none⟩ = some (.int .i64 0) := cell_of (i := 0) q0 rfl
  have d1 : w2.cell? ⟨w.heap.size, 1, none⟩ = some (.int .i64 0) := cell_of (i := 1) q0 rfl
  have d2 : w2.cell? ⟨w.heap.size, 2, none⟩ = some (.string ⟨#[]⟩) := cell_of (i := 2) q0 rfl
  have f0 : w2.frozen? ⟨w.heap.size, 0, none⟩ = false := frozen_of_row w2 w.heap.size 0 _ _ q0
  have f1 : w2.frozen? ⟨w.heap.size, 1, none⟩ = false := frozen_of_row w2 w.heap.size 1 _ _ q0
  have f2 : w2.frozen? ⟨w.heap.size, 2, none⟩ = false := frozen_of_row w2 w.heap.size 2 _ _ q0
  go_wp2_with fail
  exact bodyPost_ret (v := .agg #[.int .i64 3, .int .i64 n, .string ⟨#[]⟩]) (by simp [results, Tryz.results99, go_sem, d0, d1, d2]) rfl ⟨rfl, ((hal.setCell (p := ⟨w.heap.size, 0, none⟩) (Nat.le_refl _) _).setCell (p := ⟨w.heap.size, 1, none⟩) (Nat.le_refl _) _).setCell (p := ⟨w.heap.size, 2, none⟩) (Nat.le_refl _) _⟩
 ·have e : numP n = (1, 0, ⟨#[]⟩) := by unfold numP; rw [if_neg hi]
  rw [e]
  unfold agV
  have ho : 1000000000000000 < n ∨ n < -1000000000000000 := by
   have : ¬ (-1000000000000000 ≤ n ∧ n ≤ 1000000000000000) := fun h => hi (by simpa [inB] using h)
   omega
  clear e hi
  go_enter Tryz.func99, Tryz.ntmps99
  have main : (1000000000000000 < n) ∨ (¬ 1000000000000000 < n ∧ n < -1000000000000000) := by omega
  clear ho
  rcases main with h1 | ⟨h1, h2⟩
  all_goals (
   go_wp2_with fail
   generalize w.alloc (.cells #[.int .i64 0, .int .i64 0, .string ⟨#[]⟩] 24) = w0 at *
   refine (refNull_any w0).mono ?_
   rintro e w2 ⟨rfl, hb2⟩
   have q2 := (hb2.block _ (lt_of_heap q0)).trans q0
   have d0 : w2.cell? ⟨w.heap.size, 0, none⟩ = some (.int .i64 0) := cell_of (i := 0) q2 rfl
   have d1 : w2.cell? ⟨w.heap.size, 1, none⟩ = some (.int .i64 0) := cell_of (i := 1) q2 rfl
   have d2 : w2.cell? ⟨w.heap.size, 2, none⟩ = some (.string ⟨#[]⟩) := cell_of (i := 2) q2 rfl
   have f0 : w2.frozen? ⟨w.heap.size, 0, none⟩ = false := frozen_of_row w2 w.heap.size 0 _ _ q2
   have f1 : w2.frozen? ⟨w.heap.size, 1, none⟩ = false := frozen_of_row w2 w.heap.size 1 _ _ q2
   have f2 : w2.frozen? ⟨w.heap.size, 2, none⟩ = false := frozen_of_row w2 w.heap.size 2 _ _ q2
   have hA2 := chain hal hb2
   dsimp only
   go_wp2_with fail
   exact bodyPost_ret (v := .agg #[.int .i64 1, .int .i64 0, .string ⟨#[]⟩]) (by simp [results, Tryz.results99, go_sem, d0, d1, d2]) rfl ⟨rfl, ((hA2.setCell (p := ⟨w.heap.size, 0, none⟩) (Nat.le_refl _) _).setCell (p := ⟨w.heap.size, 1, none⟩) (Nat.le_refl _) _).setCell (p := ⟨w.heap.size, 2, none⟩) (Nat.le_refl _) _⟩)
end Go.Proofs.YtfojonhblblbjaaGreat
/- The document's answer, chapter 4: sums in places of a thousand, plainly. -/
namespace Go.Proofs.YtfojonhblblbjaaGreat
open Go.RowKit

/-- Places of a thousand. -/
def valS : List Int → Int
 | [] => 0
 | x :: r => x + 1000 * valS r
theorem valS_set : ∀ (L : List Int) (k : Nat) (h : k < L.length) (x : Int), valS (L.set k x) = valS L + 1000 ^ k * (x - L[k])
 | y :: r, 0, _, x => by simp [valS]; omega
 | y :: r, k + 1, h, x => by
  have := valS_set r k (by simpa using h) x
  simp only [List.set_cons_succ, valS, this, List.getElem_cons_succ, Int.pow_succ]
  grind
theorem tdm (m : Int) : m = 1000 * m.tdiv 1000 + m.tmod 1000 := (Int.mul_tdiv_add_tmod m 1000).symm
theorem tmod_lt (m : Int) : -1000 < m.tmod 1000 ∧ m.tmod 1000 < 1000 := by
 by_cases h0 : 0 ≤ m
 ·rw [Int.tmod_eq_emod_of_nonneg h0]; omega
 ·have e := Int.neg_tmod (-m) 1000
  rw [Int.neg_neg] at e
  rw [e, Int.tmod_eq_emod_of_nonneg (by omega)]
  omega
theorem tdiv_lt {m C : Int} (h0 : 0 ≤ C) (h : -(1000 * C + 999) ≤ m ∧ m ≤ 1000 * C + 999) : -C ≤ m.tdiv 1000 ∧ m.tdiv 1000 ≤ C := by
 by_cases hm : 0 ≤ m
 ·rw [Int.tdiv_eq_ediv_of_nonneg hm]; omega
 ·have e := Int.neg_tdiv (-m) 1000
  rw [Int.neg_neg] at e
  rw [e, Int.tdiv_eq_ediv_of_nonneg (by omega)]
  omega
def bndS : Nat → Int
 | 0 => 1000000000000000
 | 1 => 1000000000000
 | 2 => 1000000000
 | 3 => 1000000
 | 4 => 1000
 | 5 => 1
 | _ + 6 => 0
theorem bndS_pos : ∀ k, 0 ≤ bndS k
 | 0 | 1 | 2 | 3 | 4 | 5 => by decide
 | _ + 6 => Int.le_refl _
theorem bndS_next : ∀ k, bndS k ≤ 1000 * bndS (k + 1) + 999
 | 0 | 1 | 2 | 3 | 4 | 5 => by decide
 | _ + 6 => by show (0 : Int) ≤ 1000 * 0 + 999; decide
theorem bndS_top : ∀ k, bndS k ≤ 1000000000000000
 | 0 | 1 | 2 | 3 | 4 | 5 => by decide
 | _ + 6 => by show (0 : Int) ≤ _; decide
/-- A number, put so many times into places, up to k. -/
structure PutS (B : Int) (s : List Int) (n t : Int) (k : Nat) (L : List Int) (m : Int) : Prop where
 len : L.length = 9
 val : valS L + 1000 ^ k * (t * m) = valS s + t * n
 mb : -bndS k ≤ m ∧ m ≤ bndS k
 old : ∀ (j : Nat) (h : j < L.length), k ≤ j → -B ≤ L[j] ∧ L[j] ≤ B
 bd : ∀ (j : Nat) (h : j < L.length), -(B + 1000000000) ≤ L[j] ∧ L[j] ≤ B + 1000000000
theorem PutS.start {B : Int} {s : List Int} {n t : Int} (h9 : s.length = 9) (hn : -1000000000000000 ≤ n ∧ n ≤ 1000000000000000) (hs : ∀ (j : Nat) (h : j < s.length), -B ≤ s[j] ∧ s[j] ≤ B) : PutS B s n t 0 s n :=
 ⟨h9, by simp, hn, fun j h _ => hs j h, fun j h => by have := hs j h; omega⟩
theorem term_bd {t r : Int} (ht : 0 ≤ t ∧ t ≤ 1000000) (hr : -1000 < r ∧ r < 1000) : -1000000000 ≤ t * r ∧ t * r ≤ 1000000000 := by
 have h1 : t * r ≤ t * 1000 := Int.mul_le_mul_of_nonneg_left (by omega) ht.1
 have h2 : t * (-1000) ≤ t * r := Int.mul_le_mul_of_nonneg_left (by omega) ht.1
 omega
theorem PutS.step {B : Int} {s : List Int} {n t : Int} {k : Nat} {L : List Int} {m : Int} (h : PutS B s n t k L m) (ht : 0 ≤ t ∧ t ≤ 1000000) (hk : k < L.length) :
  PutS B s n t (k + 1) (L.set k (L[k] + t * m.tmod 1000)) (m.tdiv 1000) := by
 refine ⟨by simpa using h.len, ?_, ?_, ?_, ?_⟩
 ·rw [valS_set L k hk, ← h.val, Int.pow_succ]
  have e := tdm m
  generalize m.tdiv 1000 = q at *
  generalize m.tmod 1000 = r at *
  subst e
  grind
 ·exact tdiv_lt (bndS_pos _) ⟨by have := h.mb; have := bndS_next k; omega, by have := h.mb; have := bndS_next k; omega⟩
 ·intro j hj hkj
  rw [List.getElem_set_ne (by omega)]
  exact h.old j (by simpa using hj) (by omega)
 ·intro j hj
  rw [List.getElem_set]
  split
  ·have h1 := h.old k hk (Nat.le_refl _)
   have h2 := term_bd ht (tmod_lt m)
   omega
  ·exact h.bd j (by simpa using hj)
theorem PutS.done {B : Int} {s : List Int} {n t : Int} {L : List Int} {m : Int} (h : PutS B s n t 9 L m) : valS L = valS s + t * n := by
 have h0 : m = 0 := by have h1 : -0 ≤ m ∧ m ≤ 0 := h.mb; omega
 have := h.val
 rw [h0] at this
 simpa using this
/-- Places with what is over carried on, up to k. -/
structure NormS (T B : Int) (k : Nat) (L : List Int) : Prop where
 len : L.length = 9
 val : valS L = T
 low : ∀ (j : Nat) (h : j < L.length), j < k → -1000 < L[j] ∧ L[j] < 1000
 here : ∀ (h : k < L.length), -(2 * B) ≤ L[k] ∧ L[k] ≤ 2 * B
 high : ∀ (j : Nat) (h : j < L.length), k < j → -B ≤ L[j] ∧ L[j] ≤ B
theorem NormS.start {B : Int} {s : List Int} (h9 : s.length = 9) (hs : ∀ (j : Nat) (h : j < s.length), -B ≤ s[j] ∧ s[j] ≤ B) : NormS (valS s) B 0 s :=
 ⟨h9, rfl, fun _ _ h => absurd h (Nat.not_lt_zero _), fun h => by have := hs 0 h; omega, fun j h _ => hs j h⟩
theorem NormS.step {T B : Int} {k : Nat} {L : List Int} (h : NormS T B k L) (hB : 0 ≤ B) (hk : k < L.length) (hk1 : k + 1 < L.length) :
  NormS T B (k + 1) ((L.set (k + 1) (L[k + 1] + L[k].tdiv 1000)).set k (L[k].tmod 1000)) := by
 have hd : -B ≤ L[k].tdiv 1000 ∧ L[k].tdiv 1000 ≤ B := tdiv_lt hB (by have := h.here hk; omega)
 have hm := tmod_lt L[k]
 have e := tdm L[k]
 refine ⟨by simpa using h.len, ?_, ?_, ?_, ?_⟩
 ·rw [valS_set _ k (by simpa using hk), valS_set L (k + 1) hk1, List.getElem_set_ne (by omega), h.val, Int.pow_succ]
  have e2 : L[k].tmod 1000 - L[k] = -(1000 * L[k].tdiv 1000) := by omega
  rw [e2]
  generalize L[k].tdiv 1000 = q at *
  grind
 ·intro j hj hjk
  rw [List.getElem_set]
  split
  ·exact hm
  ·rw [List.getElem_set_ne (by omega)]
   exact h.low j (by simpa using hj) (by omega)
 ·intro hj
  rw [List.getElem_set_ne (by omega), List.getElem_set_self]
  have := h.high (k + 1) hk1 (by omega)
  omega
 ·intro j hj hjk
  rw [List.getElem_set_ne (by omega), List.getElem_set_ne (by omega)]
  exact h.high j (by simpa using hj) (by omega)
theorem valS_bd : ∀ (L : List Int), (∀ x ∈ L, -1000 < x ∧ x < 1000) → -(1000 ^ L.length) < valS L ∧ valS L < 1000 ^ L.length
 | [], _ => by simp [valS]
 | x :: r, h => by
  have ih := valS_bd r fun y hy => h y (by simp [hy])
  have hx := h x (by simp)
  simp only [valS, List.length_cons, Int.pow_succ]
  omega
theorem valS_take : ∀ (L : List Int) (k : Nat) (h : k < L.length), valS (L.take (k + 1)) = valS (L.take k) + 1000 ^ k * L[k]
 | x :: r, 0, _ => by simp [valS]
 | x :: r, k + 1, h => by
  have := valS_take r k (by simpa using h)
  simp only [List.take_succ_cons, valS, List.getElem_cons_succ, Int.pow_succ] at this ⊢
  rw [this]
  grind
/-- From the highest place down: what stands ahead of k places. -/
structure HornS (T : Int) (L : List Int) (k : Nat) (v : Int) : Prop where
 val : v * 1000 ^ k + valS (L.take k) = T
theorem HornS.start {T B : Int} {L : List Int} (h : NormS T B 8 L) : HornS T L 9 0 := ⟨by rw [← h.len, List.take_length, h.val]; simp⟩
theorem HornS.step {T : Int} {L : List Int} {k : Nat} {v : Int} (h : HornS T L (k + 1) v) (hk : k < L.length) : HornS T L k (1000 * v + L[k]) := by
 constructor
 rw [← h.val, valS_take L k hk, Int.pow_succ]
 grind
theorem HornS.far {T B : Int} {L : List Int} {k : Nat} {v : Int} (h : HornS T L (k + 1) v) (hn : NormS T B 8 L) (hk : k < 8) (hv : 2000000000000 < v ∨ v < -2000000000000) : inB T = false := by
 have hb := valS_bd (L.take (k + 1)) (fun x hx => by
  obtain ⟨j, hj, rfl⟩ := List.mem_iff_getElem.1 hx
  rw [List.getElem_take]
  have : j < k + 1 := by have := hj; rw [List.length_take] at this; omega
  exact hn.low j (by rw [hn.len]; omega) (by omega))
 have el : (L.take (k + 1)).length = k + 1 := by rw [List.length_take, hn.len]; omega
 rw [el] at hb
 have e := h.val
 have hp : (1000 : Int) ≤ 1000 ^ (k + 1) := by
  have h0 : (0 : Int) < 1000 ^ k := Int.pow_pos (by decide)
  rw [Int.pow_succ]
  omega
 generalize (1000 : Int) ^ (k + 1) = P at *
 generalize valS (L.take (k + 1)) = R at *
 have hT : 1000000000000000 < T ∨ T < -1000000000000000 := by
  rcases hv with hv | hv
  ·left
   have h1 : 2000000000001 * P ≤ v * P := Int.mul_le_mul_of_nonneg_right (by omega) (by omega)
   omega
  ·right
   have h1 : v * P ≤ -2000000000001 * P := Int.mul_le_mul_of_nonneg_right (by omega) (by omega)
   omega
 simp [inB]
 omega
theorem HornS.done {T : Int} {L : List Int} {v : Int} (h : HornS T L 0 v) : v = T := by
 have := h.val
 simpa [valS] using this
end Go.Proofs.YtfojonhblblbjaaGreat
/- The document's answer, chapter 4: sums in places of a thousand. -/
namespace Go.Proofs.YtfojonhblblbjaaGreat
open Go.RowKit Go.Lib Go.Shelf

theorem BelowX.drew {t : Nat} {a b : World} (h : BelowX t a b) : BelowX t a b.drew := ⟨h.1.drew, fun k hk hn => h.2 k hk hn⟩
/-- What has been put. -/
structure PutD (B : Int) (s : List Int) (n t : Int) (L : List Int) : Prop where
 len : L.length = 9
 val : valS L = valS s + t * n
 bd : ∀ (j : Nat) (h : j < L.length), -(B + 1000000000) ≤ L[j] ∧ L[j] ≤ B + 1000000000
theorem PutS.end {B : Int} {s : List Int} {n t : Int} {L : List Int} {m : Int} (h : PutS B s n t 9 L m) : PutD B s n t L := ⟨h.len, h.done, h.bd⟩
theorem Own1.drew {W : World} {g : Nat} {l : List Int} (h : Own1 W g l) : Own1 W.drew g l := ⟨h.lt, h.c, h.f⟩

set_option maxRecDepth 100000 in
set_option maxHeartbeats 2000000 in
theorem sumPut_at (B : Int) (hB : 0 ≤ B ∧ B ≤ 1000000000000) (g : Nat) (s : List Int) (n t : Int) (w : World) (hs : Own1 w g s) (h9 : s.length = 9) (hn : -1000000000000000 ≤ n ∧ n ≤ 1000000000000000) (ht : 0 ≤ t ∧ t ≤ 1000000) (hb : ∀ (j : Nat) (h : j < s.length), -B ≤ s[j] ∧ s[j] ≤ B) :
  Calls Tryz.prog 98 #[.pointer (some ⟨g, 0, none⟩), .int .i64 n, .int .i64 t] w fun e w' => e = .returned (.tuple #[]) ∧ ∃ L, PutD B s n t L ∧ Own1 w' g L ∧ BelowX g w w' := by
 have HP0 : Hid (PutS B s n t 0 s n) := PutS.start h9 hn hb
 have HB : Hid (∀ L m, PutS B s n t 9 L m → ∀ w', Own1 w' g L → BelowX g w w' → ∃ L, PutD B s n t L ∧ Own1 w' g L ∧ BelowX g w w') := fun L m h w' h1 h2 => ⟨L, h.end, h1, h2⟩
 clear h9 hb
 go_enter Tryz.func98, Tryz.ntmps98
 go_wp2_with fail
 go_loopw [1, 7] (fun vn vi wr => ∃ (k : Nat) (L : List Int) (m : Int), k ≤ 9 ∧ vi = .int .i64 k ∧ vn = .int .i64 m ∧ Hid (PutS B s n t k L m) ∧ Own1 wr g L ∧ BelowX g w wr) (fun _ i _ => 9 - (intOf i).toNat)
 case atStart => exact ⟨0, s, n, Nat.zero_le _, rfl, rfl, HP0, hs, BelowX.refl _ _⟩
 case round =>
  obtain ⟨k, L, m, hk, rfl, rfl, HP, HO, hX⟩ := hrel
  by_cases hlt : k < 9
  ·have hl : k < L.length := by rw [HP.out.len]; exact hlt
   have hkz : (k : Int) < 9 := by omega
   have c0 := HO.c k hl
   have f0 := HO.f k
   have o1 := HP.out.old k hl (Nat.le_refl _)
   have o2 := tmod_lt m
   have o3 := term_bd ht o2
   have o4 := HP.out.mb
   have o5 := bndS_top k
   have HP' : Hid (PutS B s n t (k + 1) (L.set k (L[k] + t * m.tmod 1000)) (m.tdiv 1000)) := HP.out.step ht hl
   have o6 := HP'.out.mb
   have o7 := bndS_top (k + 1)
   have hW1 : IntKind.i64.wrap (m.tmod 1000) = m.tmod 1000 := IntWalk.i64_in _ ⟨by omega, by omega⟩
   have hW2 : IntKind.i64.wrap (t * m.tmod 1000) = t * m.tmod 1000 := IntWalk.i64_in _ ⟨by omega, by omega⟩
   have hW3 : IntKind.i64.wrap (L[k] + t * m.tmod 1000) = L[k] + t * m.tmod 1000 := IntWalk.i64_in _ ⟨by omega, by omega⟩
   have hW4 : IntKind.i64.wrap (m.tdiv 1000) = m.tdiv 1000 := IntWalk.i64_in _ ⟨by omega, by omega⟩
   clear HP o1 o2 o3 o4 o5 o6 o7 HP0
   go_wp2_with fail
   go_region
   have HO' := (HO.set k hl (L[k] + t * m.tmod 1000)).drew
   have hX' := (hX.set k (.int .i64 (L[k] + t * m.tmod 1000))).drew
   go_wp2_with fail
   go_roundw
   case rel => exact ⟨k + 1, _, _, by omega, by go_num, rfl, HP', HO', hX'⟩
   case measure => simp [intOf]; omega
  ·have e : k = 9 := by omega
   have HE := HB.out L m (e ▸ HP.out) wr HO hX
   have hnl : ¬ (k : Int) < 9 := by omega
   clear HP0 HB HP HO hX e hlt hk
   go_wp2_with fail
   go_end0
   exact ⟨rfl, HE⟩

set_option maxRecDepth 100000 in
set_option maxHeartbeats 4000000 in
theorem sumVal_at (B : Int) (hB : 0 ≤ B ∧ B ≤ 1000000000000) (g : Nat) (s : List Int) (w : World) (hs : Own1 w g s) (h9 : s.length = 9) (hb : ∀ (j : Nat) (h : j < s.length), -B ≤ s[j] ∧ s[j] ≤ B) :
  Calls Tryz.prog 100 #[.pointer (some ⟨g, 0, none⟩)] w fun e w' => e = .returned (agV (numP (valS s))) ∧ BelowX g w w' := by
 have HN0 : Hid (NormS (valS s) B 0 s) := NormS.start h9 hb
 have hgl := hs.lt
 generalize hT : valS s = T at *
 generalize hR : numP T = res
 have HR : Hid (res = numP T) := hR.symm
 clear h9 hb hT hR
 have hal0 : Below w.heap.size w (w.alloc (.cells #[.int .i64 0, .int .i64 0, .string ⟨#[]⟩] 24)) := (Below.refl _ _).alloc (Nat.le_refl _) _
 have q00 := heap_new w #[.int .i64 0, .int .i64 0, .string ⟨#[]⟩] 24
 have X0 := BelowX.of (t := g) hal0 (Nat.le_of_lt hgl)
 have hs0 : Own1 (w.alloc (.cells #[.int .i64 0, .int .i64 0, .string ⟨#[]⟩] 24)) g s := ⟨Nat.lt_of_lt_of_le hgl hal0.size, fun i hi => (hal0.cell (p := ⟨g, i, none⟩) hgl).trans (hs.c i hi), fun i => (hal0.frozen (p := ⟨g, i, none⟩) hgl).trans (hs.f i)⟩
 have hne : w.heap.size ≠ g := Nat.ne_of_gt hgl
 clear hal0 hs
 unfold agV
 go_enter Tryz.func100, Tryz.ntmps100
 go_wp2_with fail
 generalize w.alloc (.cells #[.int .i64 0, .int .i64 0, .string ⟨#[]⟩] 24) = w0 at *
 go_loopw [3] (fun vi wr => ∃ (k : Nat) (L : List Int), k ≤ 8 ∧ vi = .int .i64 k ∧ Hid (NormS T B k L) ∧ Own1 wr g L ∧ BelowX g w0 wr) (fun i _ => 8 - (intOf i).toNat)
 case atStart => exact ⟨0, s, Nat.zero_le _, rfl, HN0, hs0, BelowX.refl _ _⟩
 case round =>
  obtain ⟨k, L, hk, rfl, HN, HO, hX⟩ := hrel
  by_cases hlt : k < 8
  ·have hl : k < L.length := by rw [HN.out.len]; omega
   have hl1 : k + 1 < L.length := by rw [HN.out.len]; omega
   have hkz : (k : Int) < 8 := by omega
   have c0 := HO.c k hl
   have f0 := HO.f k
   have c1 := HO.c (k + 1) hl1
   have f1 := HO.f (k + 1)
   have o1 := HN.out.here hl
   have o2 := tmod_lt L[k]
   have o3 := HN.out.high (k + 1) hl1 (Nat.lt_succ_self _)
   have o4 : -1000000000000 ≤ L[k].tdiv 1000 ∧ L[k].tdiv 1000 ≤ 1000000000000 := tdiv_lt (by decide) (by omega)
   have HN' : Hid (NormS T B (k + 1) ((L.set (k + 1) (L[k + 1] + L[k].tdiv 1000)).set k (L[k].tmod 1000))) := HN.out.step hB.1 hl hl1
   have hW1 : IntKind.i64.wrap (L[k].tmod 1000) = L[k].tmod 1000 := IntWalk.i64_in _ ⟨by omega, by omega⟩
   have hW2 : IntKind.i64.wrap (L[k].tdiv 1000) = L[k].tdiv 1000 := IntWalk.i64_in _ ⟨by omega, by omega⟩
   have hW3 : IntKind.i64.wrap (L[k + 1] + L[k].tdiv 1000) = L[k + 1] + L[k].tdiv 1000 := IntWalk.i64_in _ ⟨by omega, by omega⟩
   clear HN o1 o2 o3 o4 HN0
   go_wp2_with fail
   go_region
   have HO1 := (HO.set (k + 1) hl1 (L[k + 1] + L[k].tdiv 1000)).drew
   have hX1 := (hX.set (k + 1) (.int .i64 (L[k + 1] + L[k].tdiv 1000))).drew
   have hl2 : k < (L.set (k + 1) (L[k + 1] + L[k].tdiv 1000)).length := by simpa using hl
   have c2 := HO1.c k hl2
   rw [List.getElem_set_ne (by omega)] at c2
   have f2 := HO1.f k
   clear c0 f0 c1 f1 hW3
   go_wp2_with fail
   go_region
   have HO2 := (HO1.set k hl2 (L[k].tmod 1000)).drew
   have hX2 := (hX1.set k (.int .i64 (L[k].tmod 1000))).drew
   go_wp2_with fail
   go_roundw
   case rel => exact ⟨k + 1, _, by omega, by go_num, HN', HO2, hX2⟩
   case measure => simp [intOf]; omega
  ·have e : k = 8 := by omega
   have HN : Hid (NormS T B 8 L) := e ▸ HN.out
   have HH0 : Hid (HornS T L 9 0) := HornS.start HN.out
   have hnl : ¬ (k : Int) < 8 := by omega
   clear HN0 e hlt hk
   obtain ⟨w1, hw1⟩ : ∃ z, z = wr := ⟨_, rfl⟩
   subst hw1
   go_wp2_with fail
   go_loopw [4, 5] (fun vv vi wr => ∃ (k : Nat) (v : Int), k ≤ 9 ∧ Hid (HornS T L k v) ∧ vv = .int .i64 v ∧ ((k = 0 ∧ vi = .int .i64 (-1)) ∨ ∃ j : Nat, k = j + 1 ∧ vi = .int .i64 (j : Int)) ∧ (-3000000000000000 ≤ v ∧ v ≤ 3000000000000000) ∧ (k = 9 → v = 0) ∧ Own1 wr g L ∧ BelowX g w0 wr) (fun _ i _ => (intOf i + 1).toNat)
   case atStart => exact ⟨9, 0, Nat.le_refl _, HH0, rfl, .inr ⟨8, rfl, rfl⟩, by omega, fun _ => rfl, HO, hX⟩
   case round =>
    obtain ⟨k, v, hk9, HH, rfl, hi, hv, hv9, HO2, hX2⟩ := hrel
    rcases hi with ⟨rfl, rfl⟩ | ⟨j, rfl, rfl⟩
    ·have ev : v = T := HH.out.done
     subst ev
     clear HH0 HH HN
     go_wp2_with fail
     have con := refNumber_at v wr
     rw [← HR.out] at con
     unfold agV at con
     refine con.mono ?_
     rintro e w2 ⟨rfl, hb2⟩
     have X2 := hX2.trans (BelowX.of hb2 (Nat.le_of_lt HO2.lt))
     have q2 := (X2.2 w.heap.size (lt_of_heap q00) hne).trans q00
     have d0 : w2.cell? ⟨w.heap.size, 0, none⟩ = some (.int .i64 0) := cell_of (i := 0) q2 rfl
     have d1 : w2.cell? ⟨w.heap.size, 1, none⟩ = some (.int .i64 0) := cell_of (i := 1) q2 rfl
     have d2 : w2.cell? ⟨w.heap.size, 2, none⟩ = some (.string ⟨#[]⟩) := cell_of (i := 2) q2 rfl
     have f0 : w2.frozen? ⟨w.heap.size, 0, none⟩ = false := frozen_of_row w2 w.heap.size 0 _ _ q2
     have f1 : w2.frozen? ⟨w.heap.size, 1, none⟩ = false := frozen_of_row w2 w.heap.size 1 _ _ q2
     have f2 : w2.frozen? ⟨w.heap.size, 2, none⟩ = false := frozen_of_row w2 w.heap.size 2 _ _ q2
     have XE := (((X0.trans X2).setNew w.heap.size 0 (.int .i64 res.1) (Nat.le_refl _) (Nat.le_of_lt hgl)).setNew w.heap.size 1 (.int .i64 res.2.1) (Nat.le_refl _) (Nat.le_of_lt hgl)).setNew w.heap.size 2 (.string res.2.2) (Nat.le_refl _) (Nat.le_of_lt hgl)
     clear con HR
     dsimp only
     go_wp2_with fail
     exact bodyPost_ret (v := .agg #[.int .i64 res.1, .int .i64 res.2.1, .string res.2.2]) (by simp [results, Tryz.results100, go_sem, d0, d1, d2]) rfl ⟨rfl, XE⟩
    ·have hj9 : j < L.length := by rw [HN.out.len]; omega
     have hj0 : (0 : Int) ≤ (j : Int) := by omega
     have hj99 : (j : Int) < 9 := by omega
     by_cases hfar : 2000000000000 < v ∨ v < -2000000000000
     ·have hj8 : j < 8 := by
       by_cases e : j = 8
       ·subst e; have := hv9 rfl; omega
       ·omega
      have hin := HH.out.far HN.out hj8 hfar
      have er : res = (1, 0, ⟨#[]⟩) := by rw [HR.out]; unfold numP; rw [hin]; rfl
      subst er
      clear HH0 HH HN HR hin
      have main : 2000000000000 < v ∨ (¬ 2000000000000 < v ∧ v < -2000000000000) := by omega
      clear hfar
      rcases main with h1 | ⟨h1, h2⟩
      all_goals (
       go_wp2_with fail
       refine (refNull_any wr).mono ?_
       rintro e w2 ⟨rfl, hb2⟩
       have X2 := hX2.trans (BelowX.of hb2 (Nat.le_of_lt HO2.lt))
       have q2 := (X2.2 w.heap.size (lt_of_heap q00) hne).trans q00
       have d0 : w2.cell? ⟨w.heap.size, 0, none⟩ = some (.int .i64 0) := cell_of (i := 0) q2 rfl
       have d1 : w2.cell? ⟨w.heap.size, 1, none⟩ = some (.int .i64 0) := cell_of (i := 1) q2 rfl
       have d2 : w2.cell? ⟨w.heap.size, 2, none⟩ = some (.string ⟨#[]⟩) := cell_of (i := 2) q2 rfl
       have f0 : w2.frozen? ⟨w.heap.size, 0, none⟩ = false := frozen_of_row w2 w.heap.size 0 _ _ q2
       have f1 : w2.frozen? ⟨w.heap.size, 1, none⟩ = false := frozen_of_row w2 w.heap.size 1 _ _ q2
       have f2 : w2.frozen? ⟨w.heap.size, 2, none⟩ = false := frozen_of_row w2 w.heap.size 2 _ _ q2
       have XE := (((X0.trans X2).setNew w.heap.size 0 (.int .i64 1) (Nat.le_refl _) (Nat.le_of_lt hgl)).setNew w.heap.size 1 (.int .i64 0) (Nat.le_refl _) (Nat.le_of_lt hgl)).setNew w.heap.size 2 (.string ⟨#[]⟩) (Nat.le_refl _) (Nat.le_of_lt hgl)
       dsimp only
       go_wp2_with fail
       exact bodyPost_ret (v := .agg #[.int .i64 1, .int .i64 0, .string ⟨#[]⟩]) (by simp [results, Tryz.results100, go_sem, d0, d1, d2]) rfl ⟨rfl, XE⟩)
     ·have n1 : ¬ 2000000000000 < v := fun h => hfar (.inl h)
      have n2 : ¬ v < -2000000000000 := fun h => hfar (.inr h)
      have c0 := HO2.c j hj9
      have hd : -2000000000000 ≤ L[j] ∧ L[j] ≤ 2000000000000 := by
       by_cases e : j = 8
       ·subst e; have := HN.out.here hj9; omega
       ·have := HN.out.low j hj9 (by omega); omega
      have HH' : Hid (HornS T L j (1000 * v + L[j])) := HH.out.step hj9
      have hW1 : IntKind.i64.wrap (1000 * v) = 1000 * v := IntWalk.i64_in _ ⟨by omega, by omega⟩
      have hW2 : IntKind.i64.wrap (1000 * v + L[j]) = 1000 * v + L[j] := IntWalk.i64_in _ ⟨by omega, by omega⟩
      have hbd : -3000000000000000 ≤ 1000 * v + L[j] ∧ 1000 * v + L[j] ≤ 3000000000000000 := by
       by_cases e : j = 8
       ·subst e; have := hv9 rfl; omega
       ·have := HN.out.low j hj9 (by omega); omega
      clear HH HH0 HN hd hfar
      go_wp2_with fail
      go_roundw
      case rel => exact ⟨j, 1000 * v + L[j], by omega, HH', rfl, (by
       rcases Nat.eq_zero_or_pos j with e | e
       ·subst e; exact .inl ⟨rfl, rfl⟩
       ·exact .inr ⟨j - 1, by omega, by rw [show ((j - 1 : Nat) : Int) = (j : Int) - 1 by omega]⟩), hbd, (fun e => by omega), HO2, hX2⟩
      case measure => first | (simp [intOf]; done) | (simp [intOf]; omega)
end Go.Proofs.YtfojonhblblbjaaGreat
/- ofSome: of none nothing is known. -/
namespace Go.Proofs.YtfojonhblblbjaaGreat
open Go.RowKit Go.Lib Go.Shelf

/-- A function value makes T of what is known, where there is something. -/
def TotN (lo : Nat) (u : Value) (T : List Wp → Vl) (w : World) : Prop :=
 ∃ g cb, u = .func (.func g) #[] cb ∧ (∀ args w, (callFunc g args).run Tryz.prog w = .ok (.enter g args) w) ∧
  ∀ (l : List Wp) (a : Option Addr) (cap : Nat) (W : World), WOk l → 0 < l.length → WsAt W a l → Since lo w W →
   Calls Tryz.prog g (#[.slice a l.length cap] ++ cb) W fun e w' => e = .returned (agV (T l)) ∧ Below W.heap.size W w'
theorem TotN.next {lo : Nat} {u : Value} {T : List Wp → Vl} {w w1 : World} (h : TotN lo u T w) (hb : Since lo w w1) : TotN lo u T w1 := by
 obtain ⟨g, cb, e, eg, hd⟩ := h
 exact ⟨g, cb, e, eg, fun l a cap W hk h0 hs hW => hd l a cap W hk h0 hs (hb.trans hW)⟩
def someP (T : List Wp → Vl) (l : List Wp) : Vl := if l.length = 0 then (1, 0, ⟨#[]⟩) else T l

set_option maxRecDepth 100000 in
set_option maxHeartbeats 1000000 in
theorem ofSome1_at (lo : Nat) (ut : Value) (T : List Wp → Vl) (tb : Nat) (a : Option Addr) (cap : Nat) (l : List Wp) (W : World) (c0 : W.cell? ⟨tb, 0, none⟩ = some ut) (hT : TotN lo ut T W) (hk : WOk l) (h : WsAt W a l) :
  Calls Tryz.prog 163 #[.slice a l.length cap, .pointer (some ⟨tb, 0, none⟩)] W fun e w' => e = .returned (agV (someP T l)) ∧ Below W.heap.size W w' := by
 have hal : Below W.heap.size W (W.alloc (.cells #[.int .i64 0, .int .i64 0, .string ⟨#[]⟩] 24)) := (Below.refl _ _).alloc (Nat.le_refl _) _
 have q0 := heap_new W #[.int .i64 0, .int .i64 0, .string ⟨#[]⟩] 24
 have ends : ∀ w2 : World, Below (W.alloc (.cells #[.int .i64 0, .int .i64 0, .string ⟨#[]⟩] 24)).heap.size (W.alloc (.cells #[.int .i64 0, .int .i64 0, .string ⟨#[]⟩] 24)) w2 → (w2.cell? ⟨W.heap.size, 0, none⟩ = some (.int .i64 0) ∧ w2.cell? ⟨W.heap.size, 1, none⟩ = some (.int .i64 0) ∧ w2.cell? ⟨W.heap.size, 2, none⟩ = some (.string ⟨#[]⟩)) ∧ w2.frozen? ⟨W.heap.size, 0, none⟩ = false ∧ w2.frozen? ⟨W.heap.size, 1, none⟩ = false ∧ w2.frozen? ⟨W.heap.size, 2, none⟩ = false := fun w2 hb2 => by
  have q2 := (hb2.block _ (lt_of_heap q0)).trans q0
  exact ⟨⟨cell_of (i := 0) q2 rfl, cell_of (i := 1) q2 rfl, cell_of (i := 2) q2 rfl⟩, frozen_of_row w2 W.heap.size 0 _ _ q2, frozen_of_row w2 W.heap.size 1 _ _ q2, frozen_of_row w2 W.heap.size 2 _ _ q2⟩
 have HEn : Hid _ := ends
 have d := (hal.cell (p := ⟨tb, 0, none⟩) (World.block_lt_of_cell? _ _ c0)).trans c0
 clear ends
 by_cases h0 : l.length = 0
 ·have e : someP T l = (1, 0, ⟨#[]⟩) := by unfold someP; rw [if_pos h0]
  rw [e, h0]
  unfold agV
  clear e d hT
  go_enter Tryz.func163, Tryz.ntmps163
  go_wp2_with fail
  generalize W.alloc (.cells #[.int .i64 0, .int .i64 0, .string ⟨#[]⟩] 24) = w0 at *
  refine (null_any w0).mono ?_
  rintro e w2 ⟨rfl, hb2⟩
  obtain ⟨⟨d0, d1, d2⟩, f0, f1, f2⟩ := HEn.out w2 hb2
  have hA2 := chain hal hb2
  dsimp only
  go_wp2_with fail
  exact bodyPost_ret (v := .agg #[.int .i64 1, .int .i64 0, .string ⟨#[]⟩]) (by simp [results, Tryz.results163, go_sem, d0, d1, d2]) rfl ⟨rfl, ((hA2.setCell (p := ⟨W.heap.size, 0, none⟩) (Nat.le_refl _) _).setCell (p := ⟨W.heap.size, 1, none⟩) (Nat.le_refl _) _).setCell (p := ⟨W.heap.size, 2, none⟩) (Nat.le_refl _) _⟩
 ·have e : someP T l = T l := by unfold someP; rw [if_neg h0]
  rw [e]
  obtain ⟨gt, ct, rfl, egt, dt⟩ := hT
  have con := dt l a cap _ hk (by omega) (h.next hal) (Since.of hal)
  have hn : ¬ (l.length : Int) = 0 := by omega
  have hnb : ((l.length : Int) == 0) = false := by rw [beq_eq_false_iff_ne]; exact hn
  generalize T l = res at *
  unfold agV at con ⊢
  clear e dt h0
  go_enter Tryz.func163, Tryz.ntmps163
  go_wp2_with fail
  generalize W.alloc (.cells #[.int .i64 0, .int .i64 0, .string ⟨#[]⟩] 24) = w0 at *
  go_wp2_with (go_at_fn gt; refine con.mono ?_; rintro e w2 ⟨rfl, hb2⟩; obtain ⟨⟨d0, d1, d2⟩, f0, f1, f2⟩ := HEn.out w2 hb2; have hA2 := chain hal hb2)
  exact bodyPost_ret (v := .agg #[.int .i64 res.1, .int .i64 res.2.1, .string res.2.2]) (by simp [results, Tryz.results163, go_sem, d0, d1, d2]) rfl ⟨rfl, ((hA2.setCell (p := ⟨W.heap.size, 0, none⟩) (Nat.le_refl _) _).setCell (p := ⟨W.heap.size, 1, none⟩) (Nat.le_refl _) _).setCell (p := ⟨W.heap.size, 2, none⟩) (Nat.le_refl _) _⟩

set_option maxHeartbeats 400000 in
theorem ofSome_at (u : Value) (T : List Wp → Vl) (w : World) (hT : TotN w.heap.size u T w) :
  Calls Tryz.prog 130 #[u] w fun e w' => ∃ v, e = .returned v ∧ TotF w.heap.size v (someP T) w' ∧ Below w.heap.size w w' := by
 have hT' := hT
 obtain ⟨gt, ct, rfl, _, _⟩ := hT'
 have hal : Below w.heap.size w (w.alloc (.cells #[.func (.func gt) #[] ct] 126)) := (Below.refl _ _).alloc (Nat.le_refl _) _
 have q0 := heap_new w #[.func (.func gt) #[] ct] 126
 have fin : TotF w.heap.size (.func (.func 163) #[] #[.pointer (some ⟨w.heap.size, 0, none⟩)]) (someP T) (w.alloc (.cells #[.func (.func gt) #[] ct] 126)) :=
  ⟨163, _, rfl, enters_of Tryz.func163 (by kernel_rfl) rfl, fun l a cap W hk hs hW => ofSome1_at w.heap.size _ T w.heap.size a cap l W ((hW.cell (p := ⟨w.heap.size, 0, none⟩) (Nat.le_refl _) (lt_of_heap q0)).trans (cell_of (i := 0) q0 rfl)) ((hT.next (Since.of hal)).next hW) hk hs⟩
 have HF : Hid _ := fin
 clear fin hT
 go_enter Tryz.func130, Tryz.ntmps130
 go_wp2_with fail
 go_ret
 exact ⟨_, rfl, HF.out, hal⟩
/-- A function makes T of weighed values. -/
def FnTot (g : Nat) (T : List Wp → Vl) : Prop := ∀ (l : List Wp) (a : Option Addr) (cap : Nat) (W : World), WOk l → 0 < l.length → WsAt W a l → Calls Tryz.prog g #[.slice a l.length cap] W fun e w' => e = .returned (agV (T l)) ∧ Below W.heap.size W w'
theorem FnTot.fn {g : Nat} {T : List Wp → Vl} (h : FnTot g T) (eg : ∀ args w, (callFunc g args).run Tryz.prog w = .ok (.enter g args) w) (lo : Nat) (w : World) : TotN lo (.func (.func g) #[] #[]) T w :=
 ⟨g, #[], rfl, eg, fun l a cap W hk h0 hs _ => by simpa using h l a cap W hk h0 hs⟩
set_option maxHeartbeats 400000 in
theorem total3_ok (h : FnTot 131 (totP 3)) : TotalOk 3 := by
 intro w
 have eT : someP (totP 3) = totP 3 := by
  funext l
  unfold someP
  split
  ·rename_i h0
   have : l = [] := List.eq_nil_of_length_eq_zero h0
   subst this
   simp [totP, sumP]
  ·rfl
 have con := ofSome_at (.func (.func 131) #[] #[]) (totP 3) w (h.fn (enters_of Tryz.func131 (by kernel_rfl) rfl) _ _)
 rw [eT] at con
 go_enter Tryz.func93, Tryz.ntmps93
 go_wp2_with fail
 refine con.mono ?_
 rintro e w1 ⟨v, rfl, hv, hb⟩
 clear con
 obtain ⟨g, cb, rfl⟩ : ∃ g cb, v = .func (.func g) #[] cb := by obtain ⟨g, cb, e, _⟩ := hv; exact ⟨g, cb, e⟩
 dsimp only
 go_wp2_with fail
 go_ret
 exact ⟨_, rfl, hv, hb⟩
set_option maxHeartbeats 400000 in
theorem total4_ok (h : FnTot 132 (totP 4)) : TotalOk 4 := by
 intro w
 have eT : someP (totP 4) = totP 4 := by
  funext l
  unfold someP
  split
  ·rename_i h0
   have : l = [] := List.eq_nil_of_length_eq_zero h0
   subst this
   simp [totP, minP]
  ·rfl
 have con := ofSome_at (.func (.func 132) #[] #[]) (totP 4) w (h.fn (enters_of Tryz.func132 (by kernel_rfl) rfl) _ _)
 rw [eT] at con
 go_enter Tryz.func93, Tryz.ntmps93
 go_wp2_with fail
 refine con.mono ?_
 rintro e w1 ⟨v, rfl, hv, hb⟩
 clear con
 obtain ⟨g, cb, rfl⟩ : ∃ g cb, v = .func (.func g) #[] cb := by obtain ⟨g, cb, e, _⟩ := hv; exact ⟨g, cb, e⟩
 dsimp only
 go_wp2_with fail
 go_ret
 exact ⟨_, rfl, hv, hb⟩
set_option maxHeartbeats 400000 in
theorem total5_ok (h : FnTot 133 (totP 5)) : TotalOk 5 := by
 intro w
 have eT : someP (totP 5) = totP 5 := by
  funext l
  unfold someP
  split
  ·rename_i h0
   have : l = [] := List.eq_nil_of_length_eq_zero h0
   subst this
   simp [totP, maxP]
  ·rfl
 have con := ofSome_at (.func (.func 133) #[] #[]) (totP 5) w (h.fn (enters_of Tryz.func133 (by kernel_rfl) rfl) _ _)
 rw [eT] at con
 go_enter Tryz.func93, Tryz.ntmps93
 go_wp2_with fail
 refine con.mono ?_
 rintro e w1 ⟨v, rfl, hv, hb⟩
 clear con
 obtain ⟨g, cb, rfl⟩ : ∃ g cb, v = .func (.func g) #[] cb := by obtain ⟨g, cb, e, _⟩ := hv; exact ⟨g, cb, e⟩
 dsimp only
 go_wp2_with fail
 go_ret
 exact ⟨_, rfl, hv, hb⟩
end Go.Proofs.YtfojonhblblbjaaGreat
/- least, greatest. -/
namespace Go.Proofs.YtfojonhblblbjaaGreat
open Go.RowKit Go.Lib Go.Shelf

set_option maxHeartbeats 400000 in
theorem byValue_at (x y : Wp) (w : World) : Calls Tryz.prog 166 #[.agg #[.int .i64 x.1.1, .int .i64 x.1.2.1, .string x.1.2.2, .int .i64 x.2], .agg #[.int .i64 y.1.1, .int .i64 y.1.2.1, .string y.1.2.2, .int .i64 y.2]] w fun e w' => e = .returned (.int .i64 (cmpV x.1.1 x.1.2.1 x.1.2.2 y.1.1 y.1.2.1 y.1.2.2)) ∧ Below w.heap.size w w' := by
 go_enter Tryz.func166, Tryz.ntmps166
 go_wp2_with fail
 refine (compare_any _ _ _ _ _ _ _).mono ?_
 rintro e w1 ⟨rfl, hb1⟩
 dsimp only
 go_wp2_with fail
 go_ret
 exact ⟨rfl, chain (((Below.refl _ _).alloc (Nat.le_refl _) _).alloc (by simp) _) hb1⟩
theorem field_w (a b c d : Value) (w : World) : (Instr.field 161 (.agg #[a, b, c, d]) 0).run Tryz.prog w = .ok (.agg #[a, b, c]) w := by kernel_rfl
/-- A variable of weighed values: what lies in it. -/
structure VarW (W : World) (b : Nat) (p : Wp) : Prop where
 c0 : W.cell? ⟨b, 0, none⟩ = some (.int .i64 p.1.1)
 c1 : W.cell? ⟨b, 1, none⟩ = some (.int .i64 p.1.2.1)
 c2 : W.cell? ⟨b, 2, none⟩ = some (.string p.1.2.2)
 c3 : W.cell? ⟨b, 3, none⟩ = some (.int .i64 p.2)
 f : ∀ i, W.frozen? ⟨b, i, none⟩ = false
 lt : b < W.heap.size
theorem VarW.next {W w1 : World} {b : Nat} {p : Wp} (h : VarW W b p) (hb : Below W.heap.size W w1) : VarW w1 b p :=
 ⟨(hb.cell (p := ⟨b, 0, none⟩) h.lt).trans h.c0, (hb.cell (p := ⟨b, 1, none⟩) h.lt).trans h.c1, (hb.cell (p := ⟨b, 2, none⟩) h.lt).trans h.c2, (hb.cell (p := ⟨b, 3, none⟩) h.lt).trans h.c3, fun i => (hb.frozen (p := ⟨b, i, none⟩) h.lt).trans (h.f i), Nat.lt_of_lt_of_le h.lt hb.size⟩
theorem VarW.new (W : World) (p : Wp) (T : TypeId) : VarW (W.alloc (.cells #[.int .i64 p.1.1, .int .i64 p.1.2.1, .string p.1.2.2, .int .i64 p.2] T)) W.heap.size p := by
 have q := heap_new W #[.int .i64 p.1.1, .int .i64 p.1.2.1, .string p.1.2.2, .int .i64 p.2] T
 exact ⟨cell_of (i := 0) q rfl, cell_of (i := 1) q rfl, cell_of (i := 2) q rfl, cell_of (i := 3) q rfl, fun i => frozen_of_row _ W.heap.size i _ _ q, lt_of_heap q⟩
theorem VarW.put {W : World} {b : Nat} {p : Wp} (h : VarW W b p) (u : Wp) : VarW ((((W.setCell ⟨b, 0, none⟩ (.int .i64 u.1.1)).setCell ⟨b, 1, none⟩ (.int .i64 u.1.2.1)).setCell ⟨b, 2, none⟩ (.string u.1.2.2)).setCell ⟨b, 3, none⟩ (.int .i64 u.2)) b u := by
 refine ⟨?_, ?_, ?_, ?_, fun i => by rw [World.frozen?_setCell, World.frozen?_setCell, World.frozen?_setCell, World.frozen?_setCell]; exact h.f i, by simpa using h.lt⟩
 ·simp [go_sem, h.c0]
 ·simp [go_sem, h.c1]
 ·simp [go_sem, h.c2]
 ·simp [go_sem, h.c3]
theorem VarW.far {W : World} {b : Nat} {p : Wp} (h : VarW W b p) (g : Nat) (u : Wp) (hn : g ≠ b) : VarW ((((W.setCell ⟨g, 0, none⟩ (.int .i64 u.1.1)).setCell ⟨g, 1, none⟩ (.int .i64 u.1.2.1)).setCell ⟨g, 2, none⟩ (.string u.1.2.2)).setCell ⟨g, 3, none⟩ (.int .i64 u.2)) b p := by
 have key : ∀ (X : World) (o o' : Nat) (v : Value), (X.setCell ⟨g, o', none⟩ v).cell? ⟨b, o, none⟩ = X.cell? ⟨b, o, none⟩ := fun X o o' v => World.cell?_setCell_other _ _ _ _ (by intro e; injection e with e; exact hn e)
 refine ⟨?_, ?_, ?_, ?_, fun i => by rw [World.frozen?_setCell, World.frozen?_setCell, World.frozen?_setCell, World.frozen?_setCell]; exact h.f i, by simpa using h.lt⟩
 ·rw [key, key, key, key]; exact h.c0
 ·rw [key, key, key, key]; exact h.c1
 ·rw [key, key, key, key]; exact h.c2
 ·rw [key, key, key, key]; exact h.c3

def minW : List Wp → Wp
 | [] => (vl0, 0)
 | p :: r => r.foldl (fun m x => if cmpP x.1 m.1 < 0 then x else m) p
theorem minW_take {l : List Wp} {i : Nat} (h0 : 0 < i) (h : i < l.length) : minW (l.take (i + 1)) = if cmpP l[i].1 (minW (l.take i)).1 < 0 then l[i] else minW (l.take i) := by
 rw [List.take_succ_eq_append_getElem h]
 match l, i, h0, h with
 | p :: r, i + 1, _, h =>
  simp only [List.take_succ_cons, List.cons_append, minW, List.foldl_append, List.foldl_cons, List.foldl_nil]
  rfl
theorem minW_one {l : List Wp} (h : 0 < l.length) : minW (l.take 1) = l[0] := by
 match l, h with
 | p :: r, _ => rfl
theorem minW_val : ∀ (l : List Wp), 0 < l.length → (minW l).1 = minP l
 | p :: r, _ => by
  unfold minW minP
  have aux : ∀ (r : List Wp) (p : Wp), (r.foldl (fun m x => if cmpP x.1 m.1 < 0 then x else m) p).1 = r.foldl (fun m x => if cmpP x.1 m < 0 then x.1 else m) p.1 := by
   intro r
   induction r with
   | nil => intro p; rfl
   | cons x t ih =>
    intro p
    rw [List.foldl_cons, List.foldl_cons, ih]
    by_cases c : cmpP x.1 p.1 < 0
    ·rw [if_pos c, if_pos c]
    ·rw [if_neg c, if_neg c]
  exact aux r p

set_option maxRecDepth 100000 in
set_option maxHeartbeats 2000000 in
theorem minFunc_at (g : Nat) (eg : ∀ args w, (callFunc g args).run Tryz.prog w = .ok (.enter g args) w) (hd : ∀ (x y : Wp) (W : World), Calls Tryz.prog g #[.agg #[.int .i64 x.1.1, .int .i64 x.1.2.1, .string x.1.2.2, .int .i64 x.2], .agg #[.int .i64 y.1.1, .int .i64 y.1.2.1, .string y.1.2.2, .int .i64 y.2]] W fun e w' => e = .returned (.int .i64 (cmpV x.1.1 x.1.2.1 x.1.2.2 y.1.1 y.1.2.1 y.1.2.2)) ∧ Below W.heap.size W w') (a : Option Addr) (cap : Nat) (l : List Wp) (w : World) (h : WsAt w a l) (h0 : 0 < l.length) (hl : l.length ≤ 400) :
  Calls Tryz.prog 165 #[.slice a l.length cap, .func (.func g) #[] #[]] w fun e w' => e = .returned (.agg #[.int .i64 (minW l).1.1, .int .i64 (minW l).1.2.1, .string (minW l).1.2.2, .int .i64 (minW l).2]) ∧ Below w.heap.size w w' := by
 have hal : Below w.heap.size w (w.alloc (.cells #[.int .i64 0, .int .i64 0, .string ⟨#[]⟩, .int .i64 0] 161)) := (Below.refl _ _).alloc (Nat.le_refl _) _
 have V0 : VarW (w.alloc (.cells #[.int .i64 0, .int .i64 0, .string ⟨#[]⟩, .int .i64 0] 161)) w.heap.size (vl0, 0) := VarW.new w (vl0, 0) 161
 obtain ⟨b, off, rfl, hbl, c0, c1, c2, c3⟩ := (h.next hal).elem h0
 have z0 : (w.alloc (.cells #[.int .i64 0, .int .i64 0, .string ⟨#[]⟩, .int .i64 0] 161)).heap.size > w.heap.size := by simp
 generalize hres : minW l = res
 have HRes : Hid (minW l = res) := hres
 clear hres
 simp only [Nat.zero_mul, Nat.add_zero] at c0 c1 c2 c3
 have hn1 : ¬ (l.length : Int) < 1 := by omega
 have hp : (0 : Int) < (l.length : Int) := by omega
 go_enter Tryz.func165, Tryz.ntmps165
 go_upto_region 3 with fail
 generalize w.alloc (.cells #[.int .i64 0, .int .i64 0, .string ⟨#[]⟩, .int .i64 0] 161) = w0 at *
 have hal1 : Below w0.heap.size w0 (w0.alloc (.cells #[.int .i64 l[0].1.1, .int .i64 l[0].1.2.1, .string l[0].1.2.2, .int .i64 l[0].2] 161)) := (Below.refl _ _).alloc (Nat.le_refl _) _
 have V1 : VarW (w0.alloc (.cells #[.int .i64 l[0].1.1, .int .i64 l[0].1.2.1, .string l[0].1.2.2, .int .i64 l[0].2] 161)) w0.heap.size l[0] := VarW.new w0 l[0] 161
 have V0' := V0.next hal1
 go_upto_region 4 with fail
 clear c0 c1 c2 c3 V0
 have hA1 := chain hal hal1
 generalize w0.alloc (.cells #[.int .i64 l[0].1.1, .int .i64 l[0].1.2.1, .string l[0].1.2.2, .int .i64 l[0].2] 161) = w1 at *
 go_wp2_with fail
 go_loopw [6] (fun i wr => ∃ (k : Nat) (mv : Wp), 0 < k ∧ k ≤ l.length ∧ i = .int .i64 k ∧ VarW wr w0.heap.size mv ∧ VarW wr w.heap.size (vl0, 0) ∧ Hid (mv = minW (l.take k)) ∧ Below w.heap.size w wr) (fun i _ => l.length - (intOf i).toNat)
 case atStart => exact ⟨1, l[0], by omega, by omega, rfl, V1, V0', (minW_one h0).symm, hA1⟩
 case round =>
  clear V1 V0' hA1 hal1
  obtain ⟨k, mv, hk0, hk, rfl, VM, VR, HM, hb⟩ := hrel
  by_cases hlt : k < l.length
  ·obtain ⟨b', off', e', hbl', c0, c1, c2, c3⟩ := (h.next hb).elem hlt
   have HT : Hid (minW (l.take (k + 1)) = if cmpP l[k].1 (minW (l.take k)).1 < 0 then l[k] else minW (l.take k)) := minW_take hk0 hlt
   injection e' with e'
   injection e' with e1 e2 _
   subst e1 e2
   have k0 : (0 : Int) ≤ (k : Int) := by omega
   have k1 : (k : Int) < (l.length : Int) := by omega
   clear c0 c1 c2 c3
   have hCC : ∀ W W' : World, (WsAt W (some ⟨b, off, none⟩) l ∧ VarW W w0.heap.size mv) → Below W.heap.size W W' → (WsAt W' (some ⟨b, off, none⟩) l ∧ VarW W' w0.heap.size mv) := fun W W' h hb => ⟨h.1.next hb, h.2.next hb⟩
   have hdr : Below wr.heap.size wr wr.drew := (Below.refl _ _).drew
   have CW : (WsAt wr.drew (some ⟨b, off, none⟩) l ∧ VarW wr.drew w0.heap.size mv) := hCC _ _ ⟨h.next hb, VM⟩ hdr
   go_upto_region 7 with fail
   refine wp_region_cls (fun W => (WsAt W (some ⟨b, off, none⟩) l ∧ VarW W w0.heap.size mv)) (by kernel_rfl) ?_
   refine wpY_take hCC (some 20) (i := 0) (v := .func (.func g) #[] #[]) rfl rfl (by kernel_rfl) (by kernel_rfl) (by kernel_rfl) (fun _ _ _ h => h) (Or.inl ⟨rfl, fun n hn => ?_⟩) CW ?_
   ·go_simp
   simp only [Act.put, List.setIfInBounds_toArray, List.set_cons_zero, List.set_cons_succ]
   refine wpY_take hCC (some 21) (i := 1) (v := .slice (some ⟨b, off, none⟩) l.length cap) rfl rfl (by kernel_rfl) (by kernel_rfl) (by kernel_rfl) (fun _ _ _ h => h) (Or.inl ⟨rfl, fun n hn => ?_⟩) CW ?_
   ·go_simp
   simp only [Act.put, List.setIfInBounds_toArray, List.set_cons_zero, List.set_cons_succ]
   refine wpY_take hCC (some 22) (i := 2) (v := .int .i64 (k : Int)) rfl rfl (by kernel_rfl) (by kernel_rfl) (by kernel_rfl) (fun _ _ _ h => h) (Or.inl ⟨rfl, fun n hn => ?_⟩) CW ?_
   ·go_simp
   simp only [Act.put, List.setIfInBounds_toArray, List.set_cons_zero, List.set_cons_succ]
   refine wpY_take hCC (some 23) (i := 3) (v := .pointer (some ⟨b, off + k * 4, none⟩)) rfl rfl (by kernel_rfl) (by kernel_rfl) (by kernel_rfl) (fun _ _ _ h => h) (Or.inl ⟨rfl, fun n hn => ?_⟩) CW ?_
   ·go_simp
   simp only [Act.put, List.setIfInBounds_toArray, List.set_cons_zero, List.set_cons_succ]
   refine wpY_take hCC (some 24) (i := 4) (v := .agg #[.int .i64 l[k].1.1, .int .i64 l[k].1.2.1, .string l[k].1.2.2, .int .i64 l[k].2]) rfl rfl (by kernel_rfl) (by kernel_rfl) (by kernel_rfl) (fun _ _ _ h => h) (Or.inl ⟨rfl, fun n hn => ?_⟩) CW ?_
   ·obtain ⟨b2, off2, e2, _, d0, d1, d2, d3⟩ := hn.1.elem hlt
    injection e2 with e2
    injection e2 with e21 e22 _
    subst e21 e22
    go_simp
   simp only [Act.put, List.setIfInBounds_toArray, List.set_cons_zero, List.set_cons_succ]
   refine wpY_take hCC (some 25) (i := 5) (v := .agg #[.int .i64 mv.1.1, .int .i64 mv.1.2.1, .string mv.1.2.2, .int .i64 mv.2]) rfl rfl (by kernel_rfl) (by kernel_rfl) (by kernel_rfl) (fun _ _ _ h => h) (Or.inl ⟨rfl, fun n hn => ?_⟩) CW ?_
   ·obtain ⟨n0, n1, n2, n3, _, _⟩ := hn.2
    go_simp
   simp only [Act.put, List.setIfInBounds_toArray, List.set_cons_zero, List.set_cons_succ]
   refine wpY_step (rs := [6]) (by kernel_rfl) (by simp) ?_
   intro w3 hb3 jj hj
   obtain rfl : jj = 6 := by simpa using hj
   clear hj
   have CW3 := hCC _ _ CW hb3
   have con := hd l[k] mv w3
   generalize hcm : cmpV l[k].1.1 l[k].1.2.1 l[k].1.2.2 mv.1.1 mv.1.2.1 mv.1.2.2 = cm at con
   have HCm : Hid (cmpP l[k].1 mv.1 = cm) := hcm
   clear hcm
   refine wpOp_step rfl (fun K hK => ?_)
   go_simp
   first | (refine con.mono ?_) | (go_at_fn g; refine con.mono ?_)
   rintro e w4 ⟨rfl, hb4⟩
   clear con
   have CW4 := hCC _ _ CW3 hb4
   refine hK _ _ ⟨CW4, ?_⟩
   clear hK K CW3
   refine wpY_take hCC (some 27) (i := 7) (v := .bool (decide (cm < 0))) rfl rfl (by kernel_rfl) (by kernel_rfl) (by kernel_rfl) (fun _ _ _ h => h) (Or.inl ⟨rfl, fun n hn => ?_⟩) CW4 ?_
   ·go_simp
   simp only [Act.put, List.setIfInBounds_toArray, List.set_cons_zero, List.set_cons_succ]
   refine wpY_done (by kernel_rfl) ?_
   intro w7 hb7
   have D7 := chain hdr (chain hb3 (chain hb4 hb7))
   have hB7 := chain hb D7
   obtain ⟨S7, VM7⟩ := hCC _ _ CW4 hb7
   have VR7 := VR.next D7
   clear CW CW4 hCC hb3 hb4 hb7 VM VR
   by_cases hc : cm < 0
   ·have hg : decide (cm < 0) = true := decide_eq_true hc
    rw [hg]
    have HM' : Hid (l[k] = minW (l.take (k + 1))) := by show _ = _; rw [HT.out, ← HM.out, HCm.out, if_pos hc]
    obtain ⟨b2, off2, e2, _, d0, d1, d2, d3⟩ := S7.elem hlt
    injection e2 with e2
    injection e2 with e21 e22 _
    subst e21 e22
    have VS := VM7.put l[k]
    have VRS := VR7.far w0.heap.size l[k] (by omega)
    obtain ⟨n0, n1, n2, n3, nf, nl⟩ := VM7
    have nf0 := nf 0
    have nf1 := nf 1
    have nf2 := nf 2
    have nf3 := nf 3
    clear hc HM D7
    go_wp2_with fail
    go_roundw
    case rel => exact ⟨k + 1, l[k], by omega, by omega, by go_num, VS, VRS, HM', (((hB7.setCell (p := ⟨w0.heap.size, 0, none⟩) (by show _ ≤ w0.heap.size; omega) _).setCell (p := ⟨w0.heap.size, 1, none⟩) (by show _ ≤ w0.heap.size; omega) _).setCell (p := ⟨w0.heap.size, 2, none⟩) (by show _ ≤ w0.heap.size; omega) _).setCell (p := ⟨w0.heap.size, 3, none⟩) (by show _ ≤ w0.heap.size; omega) _⟩
    case measure => simp [intOf]; omega
   ·have hg : decide (cm < 0) = false := decide_eq_false hc
    rw [hg]
    have HM' : Hid (mv = minW (l.take (k + 1))) := by show _ = _; rw [HT.out, ← HM.out, HCm.out, if_neg hc]
    clear hc HM D7 S7
    go_wp2_with fail
    go_roundw
    case rel => exact ⟨k + 1, mv, by omega, by omega, by go_num, VM7, VR7, HM', hB7⟩
    case measure => simp [intOf]; omega
  ·have e : k = l.length := by omega
   subst e
   have er : mv = res := by rw [HM.out, List.take_length, HRes.out]
   subst er
   obtain ⟨m0, m1, m2, m3, _, _⟩ := VM
   have VS := VR.put mv
   obtain ⟨n0, n1, n2, n3, nf, nl⟩ := VR
   have nf0 := nf 0
   have nf1 := nf 1
   have nf2 := nf 2
   have nf3 := nf 3
   obtain ⟨s0, s1, s2, s3, _, _⟩ := VS
   clear HM
   go_wp2_with fail
   exact bodyPost_ret (v := .agg #[.int .i64 mv.1.1, .int .i64 mv.1.2.1, .string mv.1.2.2, .int .i64 mv.2]) (by simp [results, Tryz.results165, go_sem, s0, s1, s2, s3]) rfl ⟨rfl, (((hb.setCell (p := ⟨w.heap.size, 0, none⟩) (Nat.le_refl _) _).setCell (p := ⟨w.heap.size, 1, none⟩) (Nat.le_refl _) _).setCell (p := ⟨w.heap.size, 2, none⟩) (Nat.le_refl _) _).setCell (p := ⟨w.heap.size, 3, none⟩) (Nat.le_refl _) _⟩

def maxW : List Wp → Wp
 | [] => (vl0, 0)
 | p :: r => r.foldl (fun m x => if 0 < cmpP x.1 m.1 then x else m) p
theorem maxW_take {l : List Wp} {i : Nat} (h0 : 0 < i) (h : i < l.length) : maxW (l.take (i + 1)) = if 0 < cmpP l[i].1 (maxW (l.take i)).1 then l[i] else maxW (l.take i) := by
 rw [List.take_succ_eq_append_getElem h]
 match l, i, h0, h with
 | p :: r, i + 1, _, h =>
  simp only [List.take_succ_cons, List.cons_append, maxW, List.foldl_append, List.foldl_cons, List.foldl_nil]
  rfl
theorem maxW_one {l : List Wp} (h : 0 < l.length) : maxW (l.take 1) = l[0] := by
 match l, h with
 | p :: r, _ => rfl
theorem maxW_val : ∀ (l : List Wp), 0 < l.length → (maxW l).1 = maxP l
 | p :: r, _ => by
  unfold maxW maxP
  have aux : ∀ (r : List Wp) (p : Wp), (r.foldl (fun m x => if 0 < cmpP x.1 m.1 then x else m) p).1 = r.foldl (fun m x => if 0 < cmpP x.1 m then x.1 else m) p.1 := by
   intro r
   induction r with
   | nil => intro p; rfl
   | cons x t ih =>
    intro p
    rw [List.foldl_cons, List.foldl_cons, ih]
    by_cases c : 0 < cmpP x.1 p.1
    ·rw [if_pos c, if_pos c]
    ·rw [if_neg c, if_neg c]
  exact aux r p

set_option maxRecDepth 100000 in
set_option maxHeartbeats 2000000 in
theorem maxFunc_at (g : Nat) (eg : ∀ args w, (callFunc g args).run Tryz.prog w = .ok (.enter g args) w) (hd : ∀ (x y : Wp) (W : World), Calls Tryz.prog g #[.agg #[.int .i64 x.1.1, .int .i64 x.1.2.1, .string x.1.2.2, .int .i64 x.2], .agg #[.int .i64 y.1.1, .int .i64 y.1.2.1, .string y.1.2.2, .int .i64 y.2]] W fun e w' => e = .returned (.int .i64 (cmpV x.1.1 x.1.2.1 x.1.2.2 y.1.1 y.1.2.1 y.1.2.2)) ∧ Below W.heap.size W w') (a : Option Addr) (cap : Nat) (l : List Wp) (w : World) (h : WsAt w a l) (h0 : 0 < l.length) (hl : l.length ≤ 400) :
  Calls Tryz.prog 167 #[.slice a l.length cap, .func (.func g) #[] #[]] w fun e w' => e = .returned (.agg #[.int .i64 (maxW l).1.1, .int .i64 (maxW l).1.2.1, .string (maxW l).1.2.2, .int .i64 (maxW l).2]) ∧ Below w.heap.size w w' := by
 have hal : Below w.heap.size w (w.alloc (.cells #[.int .i64 0, .int .i64 0, .string ⟨#[]⟩, .int .i64 0] 161)) := (Below.refl _ _).alloc (Nat.le_refl _) _
 have V0 : VarW (w.alloc (.cells #[.int .i64 0, .int .i64 0, .string ⟨#[]⟩, .int .i64 0] 161)) w.heap.size (vl0, 0) := VarW.new w (vl0, 0) 161
 obtain ⟨b, off, rfl, hbl, c0, c1, c2, c3⟩ := (h.next hal).elem h0
 have z0 : (w.alloc (.cells #[.int .i64 0, .int .i64 0, .string ⟨#[]⟩, .int .i64 0] 161)).heap.size > w.heap.size := by simp
 generalize hres : maxW l = res
 have HRes : Hid (maxW l = res) := hres
 clear hres
 simp only [Nat.zero_mul, Nat.add_zero] at c0 c1 c2 c3
 have hn1 : ¬ (l.length : Int) < 1 := by omega
 have hp : (0 : Int) < (l.length : Int) := by omega
 go_enter Tryz.func167, Tryz.ntmps167
 go_upto_region 3 with fail
 generalize w.alloc (.cells #[.int .i64 0, .int .i64 0, .string ⟨#[]⟩, .int .i64 0] 161) = w0 at *
 have hal1 : Below w0.heap.size w0 (w0.alloc (.cells #[.int .i64 l[0].1.1, .int .i64 l[0].1.2.1, .string l[0].1.2.2, .int .i64 l[0].2] 161)) := (Below.refl _ _).alloc (Nat.le_refl _) _
 have V1 : VarW (w0.alloc (.cells #[.int .i64 l[0].1.1, .int .i64 l[0].1.2.1, .string l[0].1.2.2, .int .i64 l[0].2] 161)) w0.heap.size l[0] := VarW.new w0 l[0] 161
 have V0' := V0.next hal1
 go_upto_region 4 with fail
 clear c0 c1 c2 c3 V0
 have hA1 := chain hal hal1
 generalize w0.alloc (.cells #[.int .i64 l[0].1.1, .int .i64 l[0].1.2.1, .string l[0].1.2.2, .int .i64 l[0].2] 161) = w1 at *
 go_wp2_with fail
 go_loopw [6] (fun i wr => ∃ (k : Nat) (mv : Wp), 0 < k ∧ k ≤ l.length ∧ i = .int .i64 k ∧ VarW wr w0.heap.size mv ∧ VarW wr w.heap.size (vl0, 0) ∧ Hid (mv = maxW (l.take k)) ∧ Below w.heap.size w wr) (fun i _ => l.length - (intOf i).toNat)
 case atStart => exact ⟨1, l[0], by omega, by omega, rfl, V1, V0', (maxW_one h0).symm, hA1⟩
 case round =>
  clear V1 V0' hA1 hal1
  obtain ⟨k, mv, hk0, hk, rfl, VM, VR, HM, hb⟩ := hrel
  by_cases hlt : k < l.length
  ·obtain ⟨b', off', e', hbl', c0, c1, c2, c3⟩ := (h.next hb).elem hlt
   have HT : Hid (maxW (l.take (k + 1)) = if 0 < cmpP l[k].1 (maxW (l.take k)).1 then l[k] else maxW (l.take k)) := maxW_take hk0 hlt
   injection e' with e'
   injection e' with e1 e2 _
   subst e1 e2
   have k0 : (0 : Int) ≤ (k : Int) := by omega
   have k1 : (k : Int) < (l.length : Int) := by omega
   clear c0 c1 c2 c3
   have hCC : ∀ W W' : World, (WsAt W (some ⟨b, off, none⟩) l ∧ VarW W w0.heap.size mv) → Below W.heap.size W W' → (WsAt W' (some ⟨b, off, none⟩) l ∧ VarW W' w0.heap.size mv) := fun W W' h hb => ⟨h.1.next hb, h.2.next hb⟩
   have hdr : Below wr.heap.size wr wr.drew := (Below.refl _ _).drew
   have CW : (WsAt wr.drew (some ⟨b, off, none⟩) l ∧ VarW wr.drew w0.heap.size mv) := hCC _ _ ⟨h.next hb, VM⟩ hdr
   go_upto_region 7 with fail
   refine wp_region_cls (fun W => (WsAt W (some ⟨b, off, none⟩) l ∧ VarW W w0.heap.size mv)) (by kernel_rfl) ?_
   refine wpY_take hCC (some 20) (i := 0) (v := .func (.func g) #[] #[]) rfl rfl (by kernel_rfl) (by kernel_rfl) (by kernel_rfl) (fun _ _ _ h => h) (Or.inl ⟨rfl, fun n hn => ?_⟩) CW ?_
   ·go_simp
   simp only [Act.put, List.setIfInBounds_toArray, List.set_cons_zero, List.set_cons_succ]
   refine wpY_take hCC (some 21) (i := 1) (v := .slice (some ⟨b, off, none⟩) l.length cap) rfl rfl (by kernel_rfl) (by kernel_rfl) (by kernel_rfl) (fun _ _ _ h => h) (Or.inl ⟨rfl, fun n hn => ?_⟩) CW ?_
   ·go_simp
   simp only [Act.put, List.setIfInBounds_toArray, List.set_cons_zero, List.set_cons_succ]
   refine wpY_take hCC (some 22) (i := 2) (v := .int .i64 (k : Int)) rfl rfl (by kernel_rfl) (by kernel_rfl) (by kernel_rfl) (fun _ _ _ h => h) (Or.inl ⟨rfl, fun n hn => ?_⟩) CW ?_
   ·go_simp
   simp only [Act.put, List.setIfInBounds_toArray, List.set_cons_zero, List.set_cons_succ]
   refine wpY_take hCC (some 23) (i := 3) (v := .pointer (some ⟨b, off + k * 4, none⟩)) rfl rfl (by kernel_rfl) (by kernel_rfl) (by kernel_rfl) (fun _ _ _ h => h) (Or.inl ⟨rfl, fun n hn => ?_⟩) CW ?_
   ·go_simp
   simp only [Act.put, List.setIfInBounds_toArray, List.set_cons_zero, List.set_cons_succ]
   refine wpY_take hCC (some 24) (i := 4) (v := .agg #[.int .i64 l[k].1.1, .int .i64 l[k].1.2.1, .string l[k].1.2.2, .int .i64 l[k].2]) rfl rfl (by kernel_rfl) (by kernel_rfl) (by kernel_rfl) (fun _ _ _ h => h) (Or.inl ⟨rfl, fun n hn => ?_⟩) CW ?_
   ·obtain ⟨b2, off2, e2, _, d0, d1, d2, d3⟩ := hn.1.elem hlt
    injection e2 with e2
    injection e2 with e21 e22 _
    subst e21 e22
    go_simp
   simp only [Act.put, List.setIfInBounds_toArray, List.set_cons_zero, List.set_cons_succ]
   refine wpY_take hCC (some 25) (i := 5) (v := .agg #[.int .i64 mv.1.1, .int .i64 mv.1.2.1, .string mv.1.2.2, .int .i64 mv.2]) rfl rfl (by kernel_rfl) (by kernel_rfl) (by kernel_rfl) (fun _ _ _ h => h) (Or.inl ⟨rfl, fun n hn => ?_⟩) CW ?_
   ·obtain ⟨n0, n1, n2, n3, _, _⟩ := hn.2
    go_simp
   simp only [Act.put, List.setIfInBounds_toArray, List.set_cons_zero, List.set_cons_succ]
   refine wpY_step (rs := [6]) (by kernel_rfl) (by simp) ?_
   intro w3 hb3 jj hj
   obtain rfl : jj = 6 := by simpa using hj
   clear hj
   have CW3 := hCC _ _ CW hb3
   have con := hd l[k] mv w3
   generalize hcm : cmpV l[k].1.1 l[k].1.2.1 l[k].1.2.2 mv.1.1 mv.1.2.1 mv.1.2.2 = cm at con
   have HCm : Hid (cmpP l[k].1 mv.1 = cm) := hcm
   clear hcm
   refine wpOp_step rfl (fun K hK => ?_)
   go_simp
   first | (refine con.mono ?_) | (go_at_fn g; refine con.mono ?_)
   rintro e w4 ⟨rfl, hb4⟩
   clear con
   have CW4 := hCC _ _ CW3 hb4
   refine hK _ _ ⟨CW4, ?_⟩
   clear hK K CW3
   refine wpY_take hCC (some 27) (i := 7) (v := .bool (decide (0 < cm))) rfl rfl (by kernel_rfl) (by kernel_rfl) (by kernel_rfl) (fun _ _ _ h => h) (Or.inl ⟨rfl, fun n hn => ?_⟩) CW4 ?_
   ·go_simp
   simp only [Act.put, List.setIfInBounds_toArray, List.set_cons_zero, List.set_cons_succ]
   refine wpY_done (by kernel_rfl) ?_
   intro w7 hb7
   have D7 := chain hdr (chain hb3 (chain hb4 hb7))
   have hB7 := chain hb D7
   obtain ⟨S7, VM7⟩ := hCC _ _ CW4 hb7
   have VR7 := VR.next D7
   clear CW CW4 hCC hb3 hb4 hb7 VM VR
   by_cases hc : 0 < cm
   ·have hg : decide (0 < cm) = true := decide_eq_true hc
    rw [hg]
    have HM' : Hid (l[k] = maxW (l.take (k + 1))) := by show _ = _; rw [HT.out, ← HM.out, HCm.out, if_pos hc]
    obtain ⟨b2, off2, e2, _, d0, d1, d2, d3⟩ := S7.elem hlt
    injection e2 with e2
    injection e2 with e21 e22 _
    subst e21 e22
    have VS := VM7.put l[k]
    have VRS := VR7.far w0.heap.size l[k] (by omega)
    obtain ⟨n0, n1, n2, n3, nf, nl⟩ := VM7
    have nf0 := nf 0
    have nf1 := nf 1
    have nf2 := nf 2
    have nf3 := nf 3
    clear hc HM D7
    go_wp2_with fail
    go_roundw
    case rel => exact ⟨k + 1, l[k], by omega, by omega, by go_num, VS, VRS, HM', (((hB7.setCell (p := ⟨w0.heap.size, 0, none⟩) (by show _ ≤ w0.heap.size; omega) _).setCell (p := ⟨w0.heap.size, 1, none⟩) (by show _ ≤ w0.heap.size; omega) _).setCell (p := ⟨w0.heap.size, 2, none⟩) (by show _ ≤ w0.heap.size; omega) _).setCell (p := ⟨w0.heap.size, 3, none⟩) (by show _ ≤ w0.heap.size; omega) _⟩
    case measure => simp [intOf]; omega
   ·have hg : decide (0 < cm) = false := decide_eq_false hc
    rw [hg]
    have HM' : Hid (mv = maxW (l.take (k + 1))) := by show _ = _; rw [HT.out, ← HM.out, HCm.out, if_neg hc]
    clear hc HM D7 S7
    go_wp2_with fail
    go_roundw
    case rel => exact ⟨k + 1, mv, by omega, by omega, by go_num, VM7, VR7, HM', hB7⟩
    case measure => simp [intOf]; omega
  ·have e : k = l.length := by omega
   subst e
   have er : mv = res := by rw [HM.out, List.take_length, HRes.out]
   subst er
   obtain ⟨m0, m1, m2, m3, _, _⟩ := VM
   have VS := VR.put mv
   obtain ⟨n0, n1, n2, n3, nf, nl⟩ := VR
   have nf0 := nf 0
   have nf1 := nf 1
   have nf2 := nf 2
   have nf3 := nf 3
   obtain ⟨s0, s1, s2, s3, _, _⟩ := VS
   clear HM
   go_wp2_with fail
   exact bodyPost_ret (v := .agg #[.int .i64 mv.1.1, .int .i64 mv.1.2.1, .string mv.1.2.2, .int .i64 mv.2]) (by simp [results, Tryz.results167, go_sem, s0, s1, s2, s3]) rfl ⟨rfl, (((hb.setCell (p := ⟨w.heap.size, 0, none⟩) (Nat.le_refl _) _).setCell (p := ⟨w.heap.size, 1, none⟩) (Nat.le_refl _) _).setCell (p := ⟨w.heap.size, 2, none⟩) (Nat.le_refl _) _).setCell (p := ⟨w.heap.size, 3, none⟩) (Nat.le_refl _) _⟩

set_option maxRecDepth 100000 in
set_option maxHeartbeats 400000 in
theorem least_fn : FnTot 132 (totP 4) := by
 intro l a cap W hk h0 h
 have eT : totP 4 l = (minW l).1 := by rw [minW_val l h0]; simp [totP]
 rw [eT]
 have hal : Below W.heap.size W (W.alloc (.cells #[.int .i64 0, .int .i64 0, .string ⟨#[]⟩] 24)) := (Below.refl _ _).alloc (Nat.le_refl _) _
 have q0 := heap_new W #[.int .i64 0, .int .i64 0, .string ⟨#[]⟩] 24
 have con := minFunc_at 166 (enters_of Tryz.func166 (by kernel_rfl) rfl) byValue_at a cap l _ (h.next hal) h0 hk.len
 generalize minW l = res at *
 unfold agV
 clear eT
 go_enter Tryz.func132, Tryz.ntmps132
 go_wp2_with fail
 generalize W.alloc (.cells #[.int .i64 0, .int .i64 0, .string ⟨#[]⟩] 24) = w0 at *
 refine con.mono ?_
 rintro e w2 ⟨rfl, hb2⟩
 clear con
 have q2 := (hb2.block _ (lt_of_heap q0)).trans q0
 have d0 : w2.cell? ⟨W.heap.size, 0, none⟩ = some (.int .i64 0) := cell_of (i := 0) q2 rfl
 have d1 : w2.cell? ⟨W.heap.size, 1, none⟩ = some (.int .i64 0) := cell_of (i := 1) q2 rfl
 have d2 : w2.cell? ⟨W.heap.size, 2, none⟩ = some (.string ⟨#[]⟩) := cell_of (i := 2) q2 rfl
 have f0 : w2.frozen? ⟨W.heap.size, 0, none⟩ = false := frozen_of_row w2 W.heap.size 0 _ _ q2
 have f1 : w2.frozen? ⟨W.heap.size, 1, none⟩ = false := frozen_of_row w2 W.heap.size 1 _ _ q2
 have f2 : w2.frozen? ⟨W.heap.size, 2, none⟩ = false := frozen_of_row w2 W.heap.size 2 _ _ q2
 have hA2 := chain hal hb2
 have hfw := field_w (.int .i64 res.1.1) (.int .i64 res.1.2.1) (.string res.1.2.2) (.int .i64 res.2) w2
 dsimp only
 go_wp2_with fail
 exact bodyPost_ret (v := .agg #[.int .i64 res.1.1, .int .i64 res.1.2.1, .string res.1.2.2]) (by simp [results, Tryz.results132, go_sem, d0, d1, d2]) rfl ⟨rfl, ((hA2.setCell (p := ⟨W.heap.size, 0, none⟩) (Nat.le_refl _) _).setCell (p := ⟨W.heap.size, 1, none⟩) (Nat.le_refl _) _).setCell (p := ⟨W.heap.size, 2, none⟩) (Nat.le_refl _) _⟩

set_option maxRecDepth 100000 in
set_option maxHeartbeats 400000 in
theorem greatest_fn : FnTot 133 (totP 5) := by
 intro l a cap W hk h0 h
 have eT : totP 5 l = (maxW l).1 := by rw [maxW_val l h0]; simp [totP]
 rw [eT]
 have hal : Below W.heap.size W (W.alloc (.cells #[.int .i64 0, .int .i64 0, .string ⟨#[]⟩] 24)) := (Below.refl _ _).alloc (Nat.le_refl _) _
 have q0 := heap_new W #[.int .i64 0, .int .i64 0, .string ⟨#[]⟩] 24
 have con := maxFunc_at 166 (enters_of Tryz.func166 (by kernel_rfl) rfl) byValue_at a cap l _ (h.next hal) h0 hk.len
 generalize maxW l = res at *
 unfold agV
 clear eT
 go_enter Tryz.func133, Tryz.ntmps133
 go_wp2_with fail
 generalize W.alloc (.cells #[.int .i64 0, .int .i64 0, .string ⟨#[]⟩] 24) = w0 at *
 refine con.mono ?_
 rintro e w2 ⟨rfl, hb2⟩
 clear con
 have q2 := (hb2.block _ (lt_of_heap q0)).trans q0
 have d0 : w2.cell? ⟨W.heap.size, 0, none⟩ = some (.int .i64 0) := cell_of (i := 0) q2 rfl
 have d1 : w2.cell? ⟨W.heap.size, 1, none⟩ = some (.int .i64 0) := cell_of (i := 1) q2 rfl
 have d2 : w2.cell? ⟨W.heap.size, 2, none⟩ = some (.string ⟨#[]⟩) := cell_of (i := 2) q2 rfl
 have f0 : w2.frozen? ⟨W.heap.size, 0, none⟩ = false := frozen_of_row w2 W.heap.size 0 _ _ q2
 have f1 : w2.frozen? ⟨W.heap.size, 1, none⟩ = false := frozen_of_row w2 W.heap.size 1 _ _ q2
 have f2 : w2.frozen? ⟨W.heap.size, 2, none⟩ = false := frozen_of_row w2 W.heap.size 2 _ _ q2
 have hA2 := chain hal hb2
 have hfw := field_w (.int .i64 res.1.1) (.int .i64 res.1.2.1) (.string res.1.2.2) (.int .i64 res.2) w2
 dsimp only
 go_wp2_with fail
 exact bodyPost_ret (v := .agg #[.int .i64 res.1.1, .int .i64 res.1.2.1, .string res.1.2.2]) (by simp [results, Tryz.results133, go_sem, d0, d1, d2]) rfl ⟨rfl, ((hA2.setCell (p := ⟨W.heap.size, 0, none⟩) (Nat.le_refl _) _).setCell (p := ⟨W.heap.size, 1, none⟩) (Nat.le_refl _) _).setCell (p := ⟨W.heap.size, 2, none⟩) (Nat.le_refl _) _⟩
theorem total4 : TotalOk 4 := total4_ok least_fn
theorem total5 : TotalOk 5 := total5_ok greatest_fn
end Go.Proofs.YtfojonhblblbjaaGreat
/- sum: upper and lower halves by themselves. -/
namespace Go.Proofs.YtfojonhblblbjaaGreat
open Go.RowKit Go.Lib Go.Shelf

def sumU : List Wp → Int
 | [] => 0
 | p :: r => p.2 * (p.1.2.1.tdiv 100000000) + sumU r
def sumV : List Wp → Int
 | [] => 0
 | p :: r => p.2 * (p.1.2.1.tmod 100000000) + sumV r
theorem sumU_take {l : List Wp} {k : Nat} (h : k < l.length) : sumU (l.take (k + 1)) = sumU (l.take k) + l[k].2 * (l[k].1.2.1.tdiv 100000000) := by
 have aux : ∀ (l : List Wp) (p : Wp), sumU (l ++ [p]) = sumU l + p.2 * (p.1.2.1.tdiv 100000000) := by
  intro l p
  induction l with
  | nil => simp [sumU]
  | cons q r ih => rw [List.cons_append, sumU, sumU, ih]; omega
 rw [List.take_succ_eq_append_getElem h, aux]
theorem sumV_take {l : List Wp} {k : Nat} (h : k < l.length) : sumV (l.take (k + 1)) = sumV (l.take k) + l[k].2 * (l[k].1.2.1.tmod 100000000) := by
 have aux : ∀ (l : List Wp) (p : Wp), sumV (l ++ [p]) = sumV l + p.2 * (p.1.2.1.tmod 100000000) := by
  intro l p
  induction l with
  | nil => simp [sumV]
  | cons q r ih => rw [List.cons_append, sumV, sumV, ih]; omega
 rw [List.take_succ_eq_append_getElem h, aux]
theorem sumUV : ∀ l : List Wp, sumU l * 100000000 + sumV l = sumN l
 | [] => rfl
 | p :: r => by
  have ih := sumUV r
  have e := Int.mul_tdiv_add_tmod p.1.2.1 100000000
  rw [sumU, sumV, sumN, ← ih]
  conv => rhs; rw [← e]
  rw [Int.mul_add, Int.add_mul, Int.mul_assoc p.2, Int.mul_comm (Int.tdiv _ _) 100000000]
  omega
theorem tdiv_bd {n : Int} (h : -1000000000000000 ≤ n ∧ n ≤ 1000000000000000) : -10000000 ≤ n.tdiv 100000000 ∧ n.tdiv 100000000 ≤ 10000000 := by
 by_cases h0 : 0 ≤ n
 ·rw [Int.tdiv_eq_ediv_of_nonneg h0]; omega
 ·have e := Int.neg_tdiv (-n) 100000000
  rw [Int.neg_neg] at e
  rw [e, Int.tdiv_eq_ediv_of_nonneg (by omega)]
  omega
theorem tmod_bd {n : Int} : -100000000 ≤ n.tmod 100000000 ∧ n.tmod 100000000 ≤ 100000000 := by
 by_cases h0 : 0 ≤ n
 ·rw [Int.tmod_eq_emod_of_nonneg h0]; omega
 ·have e := Int.neg_tmod (-n) 100000000
  rw [Int.neg_neg] at e
  rw [e, Int.tmod_eq_emod_of_nonneg (by omega)]
  omega
theorem tmod_bdS {n : Int} : -100000000 < n.tmod 100000000 ∧ n.tmod 100000000 < 100000000 := by
 by_cases h0 : 0 ≤ n
 ·rw [Int.tmod_eq_emod_of_nonneg h0]; omega
 ·have e := Int.neg_tmod (-n) 100000000
  rw [Int.neg_neg] at e
  rw [e, Int.tmod_eq_emod_of_nonneg (by omega)]
  omega
theorem mul_bd {x w B : Int} (h : 0 ≤ w ∧ w ≤ 1000000) (hx : -B ≤ x ∧ x ≤ B) (hB : 0 ≤ B) : -(1000000 * B) ≤ w * x ∧ w * x ≤ 1000000 * B := by
 constructor
 ·have h1 : w * (-B) ≤ w * x := Int.mul_le_mul_of_nonneg_left hx.1 h.1
  have h2 : w * B ≤ 1000000 * B := Int.mul_le_mul_of_nonneg_right h.2 hB
  rw [Int.mul_neg] at h1
  omega
 ·have h1 : w * x ≤ w * B := Int.mul_le_mul_of_nonneg_left hx.2 h.1
  have h2 : w * B ≤ 1000000 * B := Int.mul_le_mul_of_nonneg_right h.2 hB
  omega

set_option maxRecDepth 100000 in
set_option maxHeartbeats 2000000 in
theorem sum_fn : FnTot 131 (totP 3) := by
 intro l a cap W hok hl0 h
 have eT : totP 3 l = if inB (sumN l) = true then (3, sumN l, ⟨#[]⟩) else (1, 0, ⟨#[]⟩) := by
  have : ¬ l = [] := by intro e; rw [e] at hl0; simp at hl0
  simp only [totP, if_true, sumP]
  rw [if_neg this]
 have hl := hok.len
 have HK : Hid (WOk l) := hok
 generalize hres : totP 3 l = res
 have HRes : Hid (res = if inB (sumN l) = true then (3, sumN l, ⟨#[]⟩) else (1, 0, ⟨#[]⟩)) := by show _ = _; rw [← hres]; exact eT
 clear hok eT hres hl0
 have hal0 : Below W.heap.size W (W.alloc (.cells #[.int .i64 0, .int .i64 0, .string ⟨#[]⟩] 24)) := (Below.refl _ _).alloc (Nat.le_refl _) _
 have q00 := heap_new W #[.int .i64 0, .int .i64 0, .string ⟨#[]⟩] 24
 unfold agV
 go_enter Tryz.func131, Tryz.ntmps131
 go_wp2_with fail
 generalize W.alloc (.cells #[.int .i64 0, .int .i64 0, .string ⟨#[]⟩] 24) = w0 at *
 go_loopw [3, 4, 9] (fun vu vv i wr => ∃ (k : Nat) (u v : Int), k ≤ l.length ∧ i = .int .i64 k ∧ vu = .int .i64 u ∧ vv = .int .i64 v ∧ Hid (u = sumU (l.take k) ∧ v = sumV (l.take k)) ∧ -(10000000000000 * (k : Int)) ≤ u ∧ u ≤ 10000000000000 * (k : Int) ∧ -(100000000000000 * (k : Int)) ≤ v ∧ v ≤ 100000000000000 * (k : Int) ∧ Below w0.heap.size w0 wr) (fun _ _ i _ => l.length - (intOf i).toNat)
 case atStart => exact ⟨0, 0, 0, Nat.zero_le _, rfl, rfl, rfl, ⟨rfl, rfl⟩, by omega, by omega, by omega, by omega, Below.refl _ _⟩
 case round =>
  obtain ⟨k, u, v, hk, rfl, rfl, rfl, HN, hu0, hu1, hv0, hv1, hb⟩ := hrel
  have hA := chain hal0 hb
  by_cases hlt : k < l.length
  ·obtain ⟨b, off, rfl, hbl, c0, c1, c2, c3⟩ := (h.next hA).elem hlt
   have hw := HK.out.wt _ (List.getElem_mem hlt)
   have hn := num_bd (HK.out.right _ (List.getElem_mem hlt)) (HK.out.num _ (List.getElem_mem hlt))
   have hal : Below wr.heap.size wr (wr.alloc (.cells #[.int .i64 l[k].1.1, .int .i64 l[k].1.2.1, .string l[k].1.2.2, .int .i64 l[k].2] 161)) := (Below.refl _ _).alloc (Nat.le_refl _) _
   have b1 := mul_bd hw (tdiv_bd hn) (by decide)
   have b2 := mul_bd hw (tmod_bd (n := l[k].1.2.1)) (by decide)
   have HN' : Hid (u + l[k].2 * (l[k].1.2.1.tdiv 100000000) = sumU (l.take (k + 1)) ∧ v + l[k].2 * (l[k].1.2.1.tmod 100000000) = sumV (l.take (k + 1))) := ⟨by rw [sumU_take hlt, HN.out.1], by rw [sumV_take hlt, HN.out.2]⟩
   have t1 := tdiv_bd hn
   have t2 := tmod_bd (n := l[k].1.2.1)
   have hW1 : IntKind.i64.wrap (l[k].2 * (l[k].1.2.1.tdiv 100000000)) = l[k].2 * (l[k].1.2.1.tdiv 100000000) := IntWalk.i64_in _ ⟨by omega, by omega⟩
   have hW2 : IntKind.i64.wrap (l[k].2 * (l[k].1.2.1.tmod 100000000)) = l[k].2 * (l[k].1.2.1.tmod 100000000) := IntWalk.i64_in _ ⟨by omega, by omega⟩
   have hW3 : IntKind.i64.wrap (u + l[k].2 * (l[k].1.2.1.tdiv 100000000)) = u + l[k].2 * (l[k].1.2.1.tdiv 100000000) := IntWalk.i64_in _ ⟨by omega, by omega⟩
   have hW4 : IntKind.i64.wrap (v + l[k].2 * (l[k].1.2.1.tmod 100000000)) = v + l[k].2 * (l[k].1.2.1.tmod 100000000) := IntWalk.i64_in _ ⟨by omega, by omega⟩
   have hW5 : IntKind.i64.wrap (l[k].1.2.1.tdiv 100000000) = l[k].1.2.1.tdiv 100000000 := IntWalk.i64_in _ ⟨by omega, by omega⟩
   have hW6 : IntKind.i64.wrap (l[k].1.2.1.tmod 100000000) = l[k].1.2.1.tmod 100000000 := IntWalk.i64_in _ ⟨by omega, by omega⟩
   go_wp2_with fail
   go_roundw
   case rel => exact ⟨k + 1, u + l[k].2 * (l[k].1.2.1.tdiv 100000000), v + l[k].2 * (l[k].1.2.1.tmod 100000000), by omega, by go_num, rfl, rfl, HN', by omega, by omega, by omega, by omega, chain hb hal⟩
   case measure => simp [intOf]; omega
  ·have e : k = l.length := by omega
   subst e
   have es : sumN l = u * 100000000 + v := by
    have := HN.out
    rw [List.take_length] at this
    rw [this.1, this.2, sumUV]
   have ev := Int.mul_tdiv_add_tmod v 100000000
   have vb := tmod_bdS (n := v)
   have hn4 : (l.length : Int) ≤ 400 := by omega
   generalize hq : v.tdiv 100000000 = vq at *
   generalize hm : v.tmod 100000000 = vm at *
   have hs : sumN l = (u + vq) * 100000000 + vm := by omega
   have hW5 : IntKind.i64.wrap vq = vq := IntWalk.i64_in _ ⟨by omega, by omega⟩
   have hW6 : IntKind.i64.wrap vm = vm := IntWalk.i64_in _ ⟨by omega, by omega⟩
   have hW7 : IntKind.i64.wrap (u + vq) = u + vq := IntWalk.i64_in _ ⟨by omega, by omega⟩
   generalize hu : u + vq = u2 at *
   have HS : Hid (sumN l = u2 * 100000000 + vm) := hs
   clear HN es hs ev
   by_cases ho : u2 < -10000001 ∨ 10000001 < u2
   ·have er : res = (1, 0, ⟨#[]⟩) := by
     rw [HRes.out, HS.out]
     have : inB (u2 * 100000000 + vm) = false := by simp [inB]; omega
     rw [this]; rfl
    subst er
    clear HRes HS
    by_cases ho1 : u2 < -10000001
    ·go_wp2_with fail
     refine (null_any wr).mono ?_
     rintro e w2 ⟨rfl, hb2⟩
     have q2 := ((chain hb hb2).block _ (lt_of_heap q00)).trans q00
     have d0 : w2.cell? ⟨W.heap.size, 0, none⟩ = some (.int .i64 0) := cell_of (i := 0) q2 rfl
     have d1 : w2.cell? ⟨W.heap.size, 1, none⟩ = some (.int .i64 0) := cell_of (i := 1) q2 rfl
     have d2 : w2.cell? ⟨W.heap.size, 2, none⟩ = some (.string ⟨#[]⟩) := cell_of (i := 2) q2 rfl
     have f0 : w2.frozen? ⟨W.heap.size, 0, none⟩ = false := frozen_of_row w2 W.heap.size 0 _ _ q2
     have f1 : w2.frozen? ⟨W.heap.size, 1, none⟩ = false := frozen_of_row w2 W.heap.size 1 _ _ q2
     have f2 : w2.frozen? ⟨W.heap.size, 2, none⟩ = false := frozen_of_row w2 W.heap.size 2 _ _ q2
     have hA2 := chain hA hb2
     dsimp only
     go_wp2_with fail
     exact bodyPost_ret (v := .agg #[.int .i64 1, .int .i64 0, .string ⟨#[]⟩]) (by simp [results, Tryz.results131, go_sem, d0, d1, d2]) rfl ⟨rfl, ((hA2.setCell (p := ⟨W.heap.size, 0, none⟩) (Nat.le_refl _) _).setCell (p := ⟨W.heap.size, 1, none⟩) (Nat.le_refl _) _).setCell (p := ⟨W.heap.size, 2, none⟩) (Nat.le_refl _) _⟩
    ·have ho2 : 10000001 < u2 := by omega
     go_wp2_with fail
     refine (null_any wr).mono ?_
     rintro e w2 ⟨rfl, hb2⟩
     have q2 := ((chain hb hb2).block _ (lt_of_heap q00)).trans q00
     have d0 : w2.cell? ⟨W.heap.size, 0, none⟩ = some (.int .i64 0) := cell_of (i := 0) q2 rfl
     have d1 : w2.cell? ⟨W.heap.size, 1, none⟩ = some (.int .i64 0) := cell_of (i := 1) q2 rfl
     have d2 : w2.cell? ⟨W.heap.size, 2, none⟩ = some (.string ⟨#[]⟩) := cell_of (i := 2) q2 rfl
     have f0 : w2.frozen? ⟨W.heap.size, 0, none⟩ = false := frozen_of_row w2 W.heap.size 0 _ _ q2
     have f1 : w2.frozen? ⟨W.heap.size, 1, none⟩ = false := frozen_of_row w2 W.heap.size 1 _ _ q2
     have f2 : w2.frozen? ⟨W.heap.size, 2, none⟩ = false := frozen_of_row w2 W.heap.size 2 _ _ q2
     have hA2 := chain hA hb2
     dsimp only
     go_wp2_with fail
     exact bodyPost_ret (v := .agg #[.int .i64 1, .int .i64 0, .string ⟨#[]⟩]) (by simp [results, Tryz.results131, go_sem, d0, d1, d2]) rfl ⟨rfl, ((hA2.setCell (p := ⟨W.heap.size, 0, none⟩) (Nat.le_refl _) _).setCell (p := ⟨W.heap.size, 1, none⟩) (Nat.le_refl _) _).setCell (p := ⟨W.heap.size, 2, none⟩) (Nat.le_refl _) _⟩
   ·have ho1 : ¬ u2 < -10000001 := fun h => ho (.inl h)
    have ho2 : ¬ 10000001 < u2 := fun h => ho (.inr h)
    have hW8 : IntKind.i64.wrap (u2 * 100000000) = u2 * 100000000 := IntWalk.i64_in _ ⟨by omega, by omega⟩
    have hW9 : IntKind.i64.wrap (u2 * 100000000 + vm) = u2 * 100000000 + vm := IntWalk.i64_in _ ⟨by omega, by omega⟩
    have con : Calls Tryz.prog 164 #[.int .i64 (u2 * 100000000 + vm)] wr fun e w' => e = .returned (.agg #[.int .i64 res.1, .int .i64 res.2.1, .string res.2.2]) ∧ Below wr.heap.size wr w' := by
     rw [HRes.out, HS.out]
     cases hi : inB (u2 * 100000000 + vm) with
     | true => exact int_in _ wr hi
     | false => exact int_out _ wr hi
    clear HRes HS ho
    generalize hS : u2 * 100000000 + vm = s at *
    go_wp2_with fail
    refine con.mono ?_
    rintro e w2 ⟨rfl, hb2⟩
    clear con
    have q2 := ((chain hb hb2).block _ (lt_of_heap q00)).trans q00
    have d0 : w2.cell? ⟨W.heap.size, 0, none⟩ = some (.int .i64 0) := cell_of (i := 0) q2 rfl
    have d1 : w2.cell? ⟨W.heap.size, 1, none⟩ = some (.int .i64 0) := cell_of (i := 1) q2 rfl
    have d2 : w2.cell? ⟨W.heap.size, 2, none⟩ = some (.string ⟨#[]⟩) := cell_of (i := 2) q2 rfl
    have f0 : w2.frozen? ⟨W.heap.size, 0, none⟩ = false := frozen_of_row w2 W.heap.size 0 _ _ q2
    have f1 : w2.frozen? ⟨W.heap.size, 1, none⟩ = false := frozen_of_row w2 W.heap.size 1 _ _ q2
    have f2 : w2.frozen? ⟨W.heap.size, 2, none⟩ = false := frozen_of_row w2 W.heap.size 2 _ _ q2
    have hA2 := chain hA hb2
    dsimp only
    go_wp2_with fail
    exact bodyPost_ret (v := .agg #[.int .i64 res.1, .int .i64 res.2.1, .string res.2.2]) (by simp [results, Tryz.results131, go_sem, d0, d1, d2]) rfl ⟨rfl, ((hA2.setCell (p := ⟨W.heap.size, 0, none⟩) (Nat.le_refl _) _).setCell (p := ⟨W.heap.size, 1, none⟩) (Nat.le_refl _) _).setCell (p := ⟨W.heap.size, 2, none⟩) (Nat.le_refl _) _⟩
theorem total3 : TotalOk 3 := total3_ok sum_fn
/-- totalOf makes what it should of every kind that may be asked. -/
theorem total_all (k : Int) : TotalOk k := by
 by_cases h3 : k = 3
 ·subst h3; exact total3
 by_cases h4 : k = 4
 ·subst h4; exact total4
 by_cases h5 : k = 5
 ·subst h5; exact total5
 exact totalC_ok k h3 h4 h5
end Go.Proofs.YtfojonhblblbjaaGreat
/- What an aggregate of rows comes to, one by one: plain facts. -/
namespace Go.Proofs.YtfojonhblblbjaaGreat
open Go.RowKit

theorem sumW_snoc (l : List Wp) (p : Wp) : sumW (l ++ [p]) = sumW l + p.2 := by
 induction l with
 | nil => simp [sumW]
 | cons q r ih => rw [List.cons_append, sumW, sumW, ih]; omega
theorem sumN_snoc (l : List Wp) (p : Wp) : sumN (l ++ [p]) = sumN l + p.2 * p.1.2.1 := by
 induction l with
 | nil => simp [sumN]
 | cons q r ih => rw [List.cons_append, sumN, sumN, ih]; omega
/-- The best one, or the first one. -/
def bestP (k : Int) (l : List Wp) : Vl := if k = 4 then minP l else if k = 5 then maxP l else match l with
 | [] => (1, 0, ⟨#[]⟩)
 | p :: _ => p.1
theorem bestP_nil (k : Int) : bestP k [] = (1, 0, ⟨#[]⟩) := by
 unfold bestP
 split
 ·rfl
 ·split <;> rfl
theorem bestP_one (k : Int) (p : Wp) : bestP k [p] = p.1 := by
 unfold bestP
 split
 ·rfl
 ·split <;> rfl
theorem bestP_snoc (k : Int) {l : List Wp} (h : 0 < l.length) (p : Wp) : bestP k (l ++ [p]) = if (k = 4 ∧ cmpP p.1 (bestP k l) < 0) ∨ (k = 5 ∧ 0 < cmpP p.1 (bestP k l)) then p.1 else bestP k l := by
 match l, h with
 | q :: r, _ =>
  by_cases h4 : k = 4
  ·subst h4
   simp [bestP, minP, List.foldl_append]
  ·by_cases h5 : k = 5
   ·subst h5
    simp [bestP, maxP, List.foldl_append]
   ·simp [bestP, h4, h5]
def aggR (k : Int) (l : List Wp) : Vl := if k = 1 ∨ k = 2 then numP (sumW l) else if k = 3 ∧ 0 < l.length then numP (sumN l) else bestP k l
theorem aggR_tot {k : Int} {l : List Wp} (h1 : 1 ≤ k) (h5 : k ≤ 5) (hw : ∀ p ∈ l, 0 ≤ p.2 ∧ p.2 ≤ 1000000) (hl : l.length ≤ 400) : aggR k l = totP k l := by
 have hs := sumW_bd hw
 have hc : k = 1 ∨ k = 2 ∨ k = 3 ∨ k = 4 ∨ k = 5 := by omega
 have hb : inB (sumW l) = true := by simp [inB]; omega
 rcases hc with rfl | rfl | rfl | rfl | rfl
 ·simp [aggR, totP, numP, countP, hb]
 ·simp [aggR, totP, numP, countP, hb]
 ·by_cases h0 : l = []
  ·subst h0
   simp [aggR, totP, sumP, bestP]
  ·have : 0 < l.length := List.length_pos_iff.2 h0
   simp [aggR, totP, sumP, numP, h0, this]
 ·simp [aggR, totP, bestP]
 ·simp [aggR, totP, bestP]
end Go.Proofs.YtfojonhblblbjaaGreat
/- The document's answer, chapter 4: aggregates. -/
namespace Go.Proofs.YtfojonhblblbjaaGreat
open Go.RowKit Go.Lib Go.Shelf

theorem Own1.next {W w1 : World} {g : Nat} {l : List Int} (h : Own1 W g l) (hb : Below W.heap.size W w1) : Own1 w1 g l :=
 ⟨Nat.lt_of_lt_of_le h.lt hb.size, fun i hi => (hb.cell (p := ⟨g, i, none⟩) h.lt).trans (h.c i hi), fun i => (hb.frozen (p := ⟨g, i, none⟩) h.lt).trans (h.f i)⟩
/-- What Agg holds while it goes through rows: what is asked, the answer, the sum and the best one. -/
structure AgIn (w W : World) (a7 : Array Value) (b : Nat) (s : List Int) (v : Vl) : Prop where
 qa : W.heap[w.heap.size]? = some (.cells a7 96 (0, 0))
 qr : W.heap[w.heap.size + 1]? = some (.cells #[.int .i64 0, .int .i64 0, .string ⟨#[]⟩] 24 (0, 0))
 so : Own1 W (w.heap.size + 1 + 1) s
 gt : w.heap.size + 1 + 1 < b
 lt : b < W.heap.size
 c0 : W.cell? ⟨b, 0, none⟩ = some (.int .i64 v.1)
 c1 : W.cell? ⟨b, 1, none⟩ = some (.int .i64 v.2.1)
 c2 : W.cell? ⟨b, 2, none⟩ = some (.string v.2.2)
 f : ∀ i, W.frozen? ⟨b, i, none⟩ = false
 low : Below w.heap.size w W
theorem AgIn.next {w W w1 : World} {a7 : Array Value} {b : Nat} {s : List Int} {v : Vl} (h : AgIn w W a7 b s v) (hb : Below W.heap.size W w1) : AgIn w w1 a7 b s v :=
 ⟨(hb.block _ (lt_of_heap h.qa)).trans h.qa, (hb.block _ (lt_of_heap h.qr)).trans h.qr, h.so.next hb, h.gt, Nat.lt_of_lt_of_le h.lt hb.size, (hb.cell (p := ⟨b, 0, none⟩) h.lt).trans h.c0, (hb.cell (p := ⟨b, 1, none⟩) h.lt).trans h.c1, (hb.cell (p := ⟨b, 2, none⟩) h.lt).trans h.c2, fun i => (hb.frozen (p := ⟨b, i, none⟩) h.lt).trans (h.f i), chain h.low hb⟩
theorem AgIn.put {w W w1 : World} {a7 : Array Value} {b : Nat} {s L : List Int} {v : Vl} (h : AgIn w W a7 b s v) (hX : BelowX (w.heap.size + 1 + 1) W w1) (ho : Own1 w1 (w.heap.size + 1 + 1) L) : AgIn w w1 a7 b L v := by
 have hn : b ≠ w.heap.size + 1 + 1 := Nat.ne_of_gt h.gt
 exact ⟨(hX.2 _ (lt_of_heap h.qa) (by omega)).trans h.qa, (hX.2 _ (lt_of_heap h.qr) (by omega)).trans h.qr, ho, h.gt, Nat.lt_of_lt_of_le h.lt hX.size, (hX.cell (p := ⟨b, 0, none⟩) h.lt hn).trans h.c0, (hX.cell (p := ⟨b, 1, none⟩) h.lt hn).trans h.c1, (hX.cell (p := ⟨b, 2, none⟩) h.lt hn).trans h.c2, fun i => (hX.frozen (p := ⟨b, i, none⟩) h.lt hn).trans (h.f i), h.low.trans (hX.below (by omega))⟩
theorem AgIn.best {w W : World} {a7 : Array Value} {b : Nat} {s : List Int} {v : Vl} (h : AgIn w W a7 b s v) (u : Vl) : AgIn w (((W.setCell ⟨b, 0, none⟩ (.int .i64 u.1)).setCell ⟨b, 1, none⟩ (.int .i64 u.2.1)).setCell ⟨b, 2, none⟩ (.string u.2.2)) a7 b s u := by
 have hg := h.gt
 have X := (((BelowX.refl b W).set 0 (.int .i64 u.1)).set 1 (.int .i64 u.2.1)).set 2 (.string u.2.2)
 refine ⟨(X.2 _ (lt_of_heap h.qa) (by omega)).trans h.qa, (X.2 _ (lt_of_heap h.qr) (by omega)).trans h.qr, h.so.nextX X (by omega), h.gt, by simpa using h.lt, ?_, ?_, ?_, fun i => by rw [World.frozen?_setCell, World.frozen?_setCell, World.frozen?_setCell]; exact h.f i, h.low.trans (X.below (by omega))⟩
 ·simp [go_sem, h.c0]
 ·simp [go_sem, h.c1]
 ·simp [go_sem, h.c2]
theorem meas_kind {cols : List Int} {g : Ag} (h : measE cols g = 0) : 1 ≤ g.1 ∧ g.1 ≤ 5 ∧ (g.1 ≠ 1 → (typeTop cols g.2).2 = 0) := by
 unfold measE at h
 by_cases h1 : g.1 = 1
 ·exact ⟨by omega, by omega, fun c => absurd h1 c⟩
 ·rw [if_neg h1] at h
  by_cases h2 : g.1 < 2 ∨ 5 < g.1
  ·rw [if_pos h2] at h; cases h
  ·rw [if_neg h2] at h
   refine ⟨by omega, by omega, fun _ => ?_⟩
   by_cases h3 : (typeTop cols g.2).2 = 0
   ·exact h3
   ·rw [if_pos h3] at h; exact absurd h h3
theorem known_step (f : List Vl → Vl) {rows : List Zp} {k : Nat} (h : k < rows.length) (hn : ¬ (f rows[k].1).1 = 1) : knownL f (rows.take (k + 1)) = knownL f (rows.take k) ++ [(f rows[k].1, rows[k].2)] := by
 rw [knownL_take f h, if_neg hn]
set_option maxRecDepth 100000 in
set_option maxHeartbeats 8000000 in
theorem refAgg_at {cols : List Int} (kd : Int) (x : Ex) (hm : measE cols (kd, x) = 0) (rows : List Zp) (hr : ROk cols rows) (xa : Option Addr) (xcap : Nat) (a : Option Addr) (cap : Nat) (w : World) (hk0 : KsAt w.heap.size w xa x.ks) (h : ZsAt w a rows) :
  Calls Tryz.prog 59 #[.agg #[.int .i64 kd, .int .i64 x.k, .int .i64 x.v.1, .int .i64 x.v.2.1, .string x.v.2.2, .int .i64 x.c, .slice xa x.ks.length xcap], .slice a rows.length cap] w fun e w' => e = .returned (agV (aggP (kd, x) rows)) ∧ Below w.heap.size w w' := by
 obtain ⟨hg1, hg5, HTy0⟩ := meas_kind hm
 have HTy : Hid (kd ≠ 1 → (typeTop cols x).2 = 0) := HTy0
 have HMr : Hid (∀ row, FitP cols row → wrongP (measF (kd, x) row) = 0 ∧ NumB (measF (kd, x) row)) := measF_right hm
 have HOk : Hid (WOk (knownL (measF (kd, x)) rows)) := hr.known HMr.out
 have HR : Hid (ROk cols rows) := hr
 have hl4 := hr.len
 have HM : Hid (kd ≠ 1 → ∀ row, measF (kd, x) row = valX row x) := fun c row => by unfold measF; rw [if_neg c]
 have HM1 : Hid (kd = 1 → ∀ row, measF (kd, x) row = (2, 1, ⟨#[]⟩)) := fun c row => by unfold measF; rw [if_pos c]
 generalize hres : aggP (kd, x) rows = res
 have HRes : Hid (res = aggR kd (knownL (measF (kd, x)) rows)) := by
  show _ = _
  rw [← hres, aggR_tot (k := kd) hg1 hg5 HOk.out.wt HOk.out.len]
  rfl
 generalize hff : measF (kd, x) = ff at *
 clear HTy0 hr hres hm hff
 have hal1 : Below w.heap.size w (w.alloc (.cells #[.int .i64 kd, .int .i64 x.k, .int .i64 x.v.1, .int .i64 x.v.2.1, .string x.v.2.2, .int .i64 x.c, .slice xa x.ks.length xcap] 96)) := (Below.refl _ _).alloc (Nat.le_refl _) _
 have q1 := heap_new w #[.int .i64 kd, .int .i64 x.k, .int .i64 x.v.1, .int .i64 x.v.2.1, .string x.v.2.2, .int .i64 x.c, .slice xa x.ks.length xcap] 96
 have z1 : (w.alloc (.cells #[.int .i64 kd, .int .i64 x.k, .int .i64 x.v.1, .int .i64 x.v.2.1, .string x.v.2.2, .int .i64 x.c, .slice xa x.ks.length xcap] 96)).heap.size = w.heap.size + 1 := by simp
 unfold agV
 go_enter Tryz.func59, Tryz.ntmps59
 go_wp2_with fail
 generalize w.alloc (.cells #[.int .i64 kd, .int .i64 x.k, .int .i64 x.v.1, .int .i64 x.v.2.1, .string x.v.2.2, .int .i64 x.c, .slice xa x.ks.length xcap] 96) = W1 at *
 have hal2 : Below W1.heap.size W1 (W1.alloc (.cells #[.int .i64 0, .int .i64 0, .string ⟨#[]⟩] 24)) := (Below.refl _ _).alloc (Nat.le_refl _) _
 have q2 := heap_new W1 #[.int .i64 0, .int .i64 0, .string ⟨#[]⟩] 24
 have z2 : (W1.alloc (.cells #[.int .i64 0, .int .i64 0, .string ⟨#[]⟩] 24)).heap.size = W1.heap.size + 1 := by simp
 generalize W1.alloc (.cells #[.int .i64 0, .int .i64 0, .string ⟨#[]⟩] 24) = W2 at *
 have hal3 : Below W2.heap.size W2 (W2.alloc (.cells #[.int .i64 0, .int .i64 0, .int .i64 0, .int .i64 0, .int .i64 0, .int .i64 0, .int .i64 0, .int .i64 0, .int .i64 0] 133)) := (Below.refl _ _).alloc (Nat.le_refl _) _
 have q3 : Own1 (W2.alloc (.cells #[.int .i64 0, .int .i64 0, .int .i64 0, .int .i64 0, .int .i64 0, .int .i64 0, .int .i64 0, .int .i64 0, .int .i64 0] 133)) W2.heap.size (List.replicate 9 0) := Own1.new W2 9 133
 have z3 : (W2.alloc (.cells #[.int .i64 0, .int .i64 0, .int .i64 0, .int .i64 0, .int .i64 0, .int .i64 0, .int .i64 0, .int .i64 0, .int .i64 0] 133)).heap.size = W2.heap.size + 1 := by simp
 generalize W2.alloc (.cells #[.int .i64 0, .int .i64 0, .int .i64 0, .int .i64 0, .int .i64 0, .int .i64 0, .int .i64 0, .int .i64 0, .int .i64 0] 133) = W3 at *
 refine (refNull_any W3).mono ?_
 rintro e w1 ⟨rfl, hb1⟩
 dsimp only
 have hal4 : Below w1.heap.size w1 (w1.alloc (.cells #[.int .i64 1, .int .i64 0, .string ⟨#[]⟩] 24)) := (Below.refl _ _).alloc (Nat.le_refl _) _
 have q4 := heap_new w1 #[.int .i64 1, .int .i64 0, .string ⟨#[]⟩] 24
 have zb : w.heap.size + 1 + 1 < w1.heap.size := by have := hb1.size; omega
 have HI0 : AgIn w (w1.alloc (.cells #[.int .i64 1, .int .i64 0, .string ⟨#[]⟩] 24)) #[.int .i64 kd, .int .i64 x.k, .int .i64 x.v.1, .int .i64 x.v.2.1, .string x.v.2.2, .int .i64 x.c, .slice xa x.ks.length xcap] w1.heap.size (List.replicate 9 0) (1, 0, ⟨#[]⟩) := by
  have hA1 := chain (chain hal2 hal3) (chain hb1 hal4)
  have hA2 := chain hal3 (chain hb1 hal4)
  refine ⟨(hA1.block _ (lt_of_heap q1)).trans q1, ?_, ?_, zb, lt_of_heap q4, cell_of (i := 0) q4 rfl, cell_of (i := 1) q4 rfl, cell_of (i := 2) q4 rfl, fun i => frozen_of_row _ w1.heap.size i _ _ q4, chain hal1 hA1⟩
  ·rw [← z1]; exact (hA2.block _ (lt_of_heap q2)).trans q2
  ·rw [← z1, ← z2]; exact q3.next (chain hb1 hal4)
 clear hal1 hal2 hal3 q1 q2 q3 z1 z2 z3 hb1 hal4 q4
 go_wp2_with fail
 generalize w1.alloc (.cells #[.int .i64 1, .int .i64 0, .string ⟨#[]⟩] 24) = W4 at *
 generalize w1.heap.size = bb at *
 have hk1 : kd = 1 ∨ ¬ kd = 1 := Decidable.em _
 go_loopw [5, 8, 16] (fun vc vs vi wr => ∃ (k : Nat) (c : Int) (sb : Bool) (s : List Int) (v : Vl), k ≤ rows.length ∧ vi = .int .i64 k ∧ vc = .int .i64 c ∧ vs = .bool sb ∧ Hid (c = sumW (knownL ff (rows.take k))) ∧ (0 ≤ c ∧ c ≤ 1000000 * (k : Int)) ∧ Hid (kd ≠ 1 → valS s = sumN (knownL ff (rows.take k)) ∧ (sb = true ↔ 0 < (knownL ff (rows.take k)).length) ∧ v = bestP kd (knownL ff (rows.take k))) ∧ Hid (s.length = 9 ∧ ∀ (j : Nat) (h : j < s.length), -(1000000000 * (k : Int)) ≤ s[j] ∧ s[j] ≤ 1000000000 * (k : Int)) ∧ AgIn w wr #[.int .i64 kd, .int .i64 x.k, .int .i64 x.v.1, .int .i64 x.v.2.1, .string x.v.2.2, .int .i64 x.c, .slice xa x.ks.length xcap] bb s v) (fun _ _ i _ => rows.length - (intOf i).toNat)
 case atStart =>
  refine ⟨0, 0, false, _, _, Nat.zero_le _, rfl, rfl, rfl, rfl, by omega, ?_, ?_, HI0⟩
  ·intro _
   exact ⟨rfl, by simp [knownL], (bestP_nil kd).symm⟩
  ·refine ⟨rfl, fun j hj => ?_⟩
   rw [List.getElem_replicate]
   omega
 case round =>
  obtain ⟨k, c, sb, s, v, hk, rfl, rfl, rfl, HC, hcb, HV, HS, HI⟩ := hrel
  have hAr := HI.low
  have p0 : wr.cell? ⟨w.heap.size, 0, none⟩ = some (.int .i64 kd) := cell_of (i := 0) HI.qa rfl
  by_cases hlt : k < rows.length
  ·obtain ⟨b, off, rfl, hbl, c1, ar, cr, c0, sr⟩ := (h.next hAr).elem hlt
   have hal : Below wr.heap.size wr (wr.alloc (.cells #[.slice ar rows[k].1.length cr, .int .i64 rows[k].2] 53)) := (Below.refl _ _).alloc (Nat.le_refl _) _
   have q0 := heap_new wr #[.slice ar rows[k].1.length cr, .int .i64 rows[k].2] 53
   have HIk := HI.next hal
   have hAk := chain hAr hal
   have hwt := HR.out.wt rows[k] (List.getElem_mem hlt)
   have HFt : Hid (FitP cols rows[k].1) := HR.out.fit rows[k] (List.getElem_mem hlt)
   have HSr : Hid (SlAt (wr.alloc (.cells #[.slice ar rows[k].1.length cr, .int .i64 rows[k].2] 53)) ar rows[k].1) := sr.next hal
   have hcw : IntKind.i64.wrap (c + rows[k].2) = c + rows[k].2 := IntWalk.i64_in _ ⟨by omega, by omega⟩
   have hrn : wr.heap.size ≠ w.heap.size + 1 + 1 := Nat.ne_of_gt HI.so.lt
   clear p0 sr HI
   go_upto_region 8 with fail
   clear c0 c1
   generalize wr.alloc (.cells #[.slice ar rows[k].1.length cr, .int .i64 rows[k].2] 53) = wk at *
   have p0 : wk.cell? ⟨w.heap.size, 0, none⟩ = some (.int .i64 kd) := cell_of (i := 0) HIk.qa rfl
   have r1 : wk.cell? ⟨wr.heap.size, 1, none⟩ = some (.int .i64 rows[k].2) := cell_of (i := 1) q0 rfl
   rcases hk1 with hk1 | hk1
   ·have hkb : (kd == 1) = true := by simpa using hk1
    have HC' : Hid (c + rows[k].2 = sumW (knownL ff (rows.take (k + 1)))) := by
     show _ = _
     rw [known_step ff hlt (by rw [HM1.out hk1]; decide), sumW_snoc, ← HC.out]
    have HS' : Hid (s.length = 9 ∧ ∀ (j : Nat) (h : j < s.length), -(1000000000 * ((k + 1 : Nat) : Int)) ≤ s[j] ∧ s[j] ≤ 1000000000 * ((k + 1 : Nat) : Int)) := ⟨HS.out.1, fun j hj => by have := HS.out.2 j hj; omega⟩
    have hc' : 0 ≤ c + rows[k].2 ∧ c + rows[k].2 ≤ 1000000 * ((k + 1 : Nat) : Int) := by omega
    have HV' : Hid (kd ≠ 1 → valS s = sumN (knownL ff (rows.take (k + 1))) ∧ (sb = true ↔ 0 < (knownL ff (rows.take (k + 1))).length) ∧ v = bestP kd (knownL ff (rows.take (k + 1)))) := fun hn => absurd hk1 hn
    clear HV HS HC hk1
    go_wp2_with fail
    go_roundw
    case rel => exact ⟨k + 1, c + rows[k].2, sb, s, v, by omega, by go_num, rfl, rfl, HC', hc', HV', HS', HIk⟩
    case measure => simp [intOf]; omega
   ·have hkb : (kd == 1) = false := by rw [beq_eq_false_iff_ne]; exact hk1
    have p1 : wk.cell? ⟨w.heap.size, 1, none⟩ = some (.int .i64 x.k) := cell_of (i := 1) HIk.qa rfl
    have p2 : wk.cell? ⟨w.heap.size, 2, none⟩ = some (.int .i64 x.v.1) := cell_of (i := 2) HIk.qa rfl
    have p3 : wk.cell? ⟨w.heap.size, 3, none⟩ = some (.int .i64 x.v.2.1) := cell_of (i := 3) HIk.qa rfl
    have p4 : wk.cell? ⟨w.heap.size, 4, none⟩ = some (.string x.v.2.2) := cell_of (i := 4) HIk.qa rfl
    have p5 : wk.cell? ⟨w.heap.size, 5, none⟩ = some (.int .i64 x.c) := cell_of (i := 5) HIk.qa rfl
    have p6 : wk.cell? ⟨w.heap.size, 6, none⟩ = some (.slice xa x.ks.length xcap) := cell_of (i := 6) HIk.qa rfl
    have r0 : wk.cell? ⟨wr.heap.size, 0, none⟩ = some (.slice ar rows[k].1.length cr) := cell_of (i := 0) q0 rfl
    have con := of_any HFt.out x _ (typ_of (HTy.out hk1)) w.heap.size xa xcap ar cr wk (KsAt.next hAk (Nat.le_refl _) hk0) hAk.size HSr.out
    have hvr := HMr.out _ HFt.out
    have hfv : ff rows[k].1 = valX rows[k].1 x := HM.out hk1 _
    have HK1 : Hid (knownL ff (rows.take (k + 1)) = knownL ff (rows.take k) ++ (if (valX rows[k].1 x).1 = 1 then [] else [(valX rows[k].1 x, rows[k].2)])) := by
     show _ = _
     rw [knownL_take ff hlt, hfv]
    rw [hfv] at hvr
    have HVr : Hid (wrongP (valX rows[k].1 x) = 0 ∧ NumB (valX rows[k].1 x)) := hvr
    clear hfv hvr
    generalize valX rows[k].1 x = u at *
    generalize knownL ff (rows.take k) = acc at *
    have HVn := HV.out hk1
    have HVa : Hid (valS s = sumN acc) := HVn.1
    have HVb : Hid (sb = true ↔ 0 < acc.length) := HVn.2.1
    have HVc : Hid (v = bestP kd acc) := HVn.2.2
    clear HV HVn
    unfold agV at con
    unfold exV at con
    go_wp2_with fail
    refine con.mono ?_
    rintro e w2 ⟨rfl, hb2⟩
    clear con p0 p1 p2 p3 p4 p5 p6 r0 r1
    dsimp only
    have hal2 : Below w2.heap.size w2 (w2.alloc (.cells #[.int .i64 u.1, .int .i64 u.2.1, .string u.2.2] 24)) := (Below.refl _ _).alloc (Nat.le_refl _) _
    have qv := heap_new w2 #[.int .i64 u.1, .int .i64 u.2.1, .string u.2.2] 24
    have hb3 := chain hb2 hal2
    have HI3 := HIk.next hb3
    have qr := (hb3.block _ (lt_of_heap q0)).trans q0
    have hvn : w2.heap.size ≠ w.heap.size + 1 + 1 := by
     have := HIk.so.lt
     have := hb2.size
     omega
    clear HIk q0 hb2 hal2
    go_upto_region 11 with fail
    generalize w2.alloc (.cells #[.int .i64 u.1, .int .i64 u.2.1, .string u.2.2] 24) = w3 at *
    have v0 : w3.cell? ⟨w2.heap.size, 0, none⟩ = some (.int .i64 u.1) := cell_of (i := 0) qv rfl
    have v1 : w3.cell? ⟨w2.heap.size, 1, none⟩ = some (.int .i64 u.2.1) := cell_of (i := 1) qv rfl
    have r1 : w3.cell? ⟨wr.heap.size, 1, none⟩ = some (.int .i64 rows[k].2) := cell_of (i := 1) qr rfl
    by_cases hu : u.1 = 1
    ·have hub : (u.1 == 1) = true := by simpa using hu
     have HK1' : Hid (knownL ff (rows.take (k + 1)) = acc) := by show _ = _; rw [HK1.out, if_pos hu, List.append_nil]
     have HS' : Hid (s.length = 9 ∧ ∀ (j : Nat) (h : j < s.length), -(1000000000 * ((k + 1 : Nat) : Int)) ≤ s[j] ∧ s[j] ≤ 1000000000 * ((k + 1 : Nat) : Int)) := ⟨HS.out.1, fun j hj => by have := HS.out.2 j hj; omega⟩
     have hc' : 0 ≤ c ∧ c ≤ 1000000 * ((k + 1 : Nat) : Int) := by omega
     clear HK1 HS hu
     go_wp2_with fail
     go_roundw
     case rel => exact ⟨k + 1, c, sb, s, v, by omega, by go_num, rfl, rfl, by rw [HK1'.out]; exact HC, hc', by rw [HK1'.out]; exact fun _ => ⟨HVa.out, HVb.out, HVc.out⟩, HS', HI3⟩
     case measure => simp [intOf]; omega
    ·have hub : (u.1 == 1) = false := by rw [beq_eq_false_iff_ne]; exact hu
     have HK1' : Hid (knownL ff (rows.take (k + 1)) = acc ++ [(u, rows[k].2)]) := by show _ = _; rw [HK1.out, if_neg hu]
     have hnb := num_bd HVr.out.1 HVr.out.2
     have hkz : (k : Int) ≤ 400 := by omega
     have con := sumPut_at (1000000000 * (k : Int)) ⟨by omega, by omega⟩ (w.heap.size + 1 + 1) s u.2.1 rows[k].2 w3 HI3.so HS.out.1 hnb hwt HS.out.2
     have hkk := kind_ok HVr.out.1
     have HC' : Hid (c + rows[k].2 = sumW (knownL ff (rows.take (k + 1)))) := by
      show _ = _
      rw [HK1'.out, sumW_snoc, ← HC.out]
     have hc' : 0 ≤ c + rows[k].2 ∧ c + rows[k].2 ≤ 1000000 * ((k + 1 : Nat) : Int) := by omega
     clear HK1 hu HC
     go_wp2_with fail
     refine con.mono ?_
     rintro e w4 ⟨rfl, L, HP, HO, hX⟩
     clear con v0 v1 r1
     have HI4 := HI3.put hX HO
     have qv4 := (hX.2 _ (lt_of_heap qv) hvn).trans qv
     have v0 : w4.cell? ⟨w2.heap.size, 0, none⟩ = some (.int .i64 u.1) := cell_of (i := 0) qv4 rfl
     have v1 : w4.cell? ⟨w2.heap.size, 1, none⟩ = some (.int .i64 u.2.1) := cell_of (i := 1) qv4 rfl
     have v2 : w4.cell? ⟨w2.heap.size, 2, none⟩ = some (.string u.2.2) := cell_of (i := 2) qv4 rfl
     have b0 := HI4.c0
     have b1 := HI4.c1
     have b2 := HI4.c2
     have HPd : Hid (PutD (1000000000 * (k : Int)) s u.2.1 rows[k].2 L) := HP
     clear HP HO hX HI3 qv qr
     have con := refOrder_any u.1 u.2.1 v.1 v.2.1 u.2.2 v.2.2 w4 hkk.1 hkk.2
     have HO1 : Hid (cmpP u v = cmpV u.1 u.2.1 u.2.2 v.1 v.2.1 v.2.2) := rfl
     generalize cmpV u.1 u.2.1 u.2.2 v.1 v.2.1 v.2.2 = o at *
     dsimp only
     go_wp2_with fail
     refine con.mono ?_
     rintro e w5 ⟨rfl, hb5⟩
     clear con v0 v1 v2 b0 b1 b2
     have HI5 := HI4.next hb5
     have qv5 := (hb5.block _ (lt_of_heap qv4)).trans qv4
     have p0 : w5.cell? ⟨w.heap.size, 0, none⟩ = some (.int .i64 kd) := cell_of (i := 0) HI5.qa rfl
     have v0 : w5.cell? ⟨w2.heap.size, 0, none⟩ = some (.int .i64 u.1) := cell_of (i := 0) qv5 rfl
     have v1 : w5.cell? ⟨w2.heap.size, 1, none⟩ = some (.int .i64 u.2.1) := cell_of (i := 1) qv5 rfl
     have v2 : w5.cell? ⟨w2.heap.size, 2, none⟩ = some (.string u.2.2) := cell_of (i := 2) qv5 rfl
     have b0 := HI5.c0
     have b1 := HI5.c1
     have b2 := HI5.c2
     have f0 := HI5.f 0
     have f1 := HI5.f 1
     have f2 := HI5.f 2
     clear HI4 qv4 hb5
     have HSn : Hid (L.length = 9 ∧ ∀ (j : Nat) (h : j < L.length), -(1000000000 * ((k + 1 : Nat) : Int)) ≤ L[j] ∧ L[j] ≤ 1000000000 * ((k + 1 : Nat) : Int)) := ⟨HPd.out.len, fun j hj => by have := HPd.out.bd j hj; omega⟩
     have HVn : Hid (valS L = sumN (knownL ff (rows.take (k + 1)))) := by
      show _ = _
      rw [HK1'.out, sumN_snoc, HPd.out.val, HVa.out]
     have HLn : Hid (0 < (knownL ff (rows.take (k + 1))).length) := by show _ < _; rw [HK1'.out]; simp
     clear HPd HS HVa HVr
     dsimp only
     have take : (bestP kd (knownL ff (rows.take (k + 1))) = u ∧ (sb = false ∨ (sb = true ∧ kd = 4 ∧ o < 0) ∨ (sb = true ∧ kd = 5 ∧ 0 < o))) ∨ (bestP kd (knownL ff (rows.take (k + 1))) = v ∧ sb = true ∧ ((kd = 4 ∧ ¬ o < 0) ∨ (kd = 5 ∧ ¬ 0 < o) ∨ (¬ kd = 4 ∧ ¬ kd = 5))) := by
      cases sb with
      | false =>
       have e : acc = [] := by
        have : ¬ 0 < acc.length := fun c => by have := HVb.out.2 c; cases this
        exact List.eq_nil_of_length_eq_zero (by omega)
       left
       refine ⟨?_, .inl rfl⟩
       rw [HK1'.out, e]
       exact bestP_one kd _
      | true =>
       have e := bestP_snoc kd (HVb.out.1 rfl) (u, rows[k].2)
       rw [← HK1'.out, ← HVc.out, HO1.out] at e
       by_cases c1 : (kd = 4 ∧ o < 0) ∨ (kd = 5 ∧ 0 < o)
       ·rw [if_pos c1] at e
        left
        exact ⟨e, .inr (c1.imp (fun c => ⟨rfl, c⟩) (fun c => ⟨rfl, c⟩))⟩
       ·rw [if_neg c1] at e
        right
        refine ⟨e, rfl, ?_⟩
        by_cases h4 : kd = 4
        ·exact .inl ⟨h4, fun c => c1 (.inl ⟨h4, c⟩)⟩
        ·by_cases h5 : kd = 5
         ·exact .inr (.inl ⟨h5, fun c => c1 (.inr ⟨h5, c⟩)⟩)
         ·exact .inr (.inr ⟨h4, h5⟩)
     rcases take with ⟨eb, hcase⟩ | ⟨eb, rfl, hcase⟩
     ·have HVx : Hid (kd ≠ 1 → valS L = sumN (knownL ff (rows.take (k + 1))) ∧ (true = true ↔ 0 < (knownL ff (rows.take (k + 1))).length) ∧ u = bestP kd (knownL ff (rows.take (k + 1)))) := fun _ => ⟨HVn.out, ⟨fun _ => HLn.out, fun _ => rfl⟩, eb.symm⟩
      have HI6 := HI5.best u
      clear HVn HLn eb HVb HVc HK1' HO1 hkk hnb
      rcases hcase with rfl | ⟨rfl, rfl, ho⟩ | ⟨rfl, rfl, ho⟩
      all_goals (
       go_wp2_with fail
       go_roundw
       case rel => exact ⟨k + 1, c + rows[k].2, true, L, u, by omega, by go_num, rfl, rfl, HC', hc', HVx, HSn, HI6⟩
       case measure => simp [intOf]; omega)
     ·have HVx : Hid (kd ≠ 1 → valS L = sumN (knownL ff (rows.take (k + 1))) ∧ (true = true ↔ 0 < (knownL ff (rows.take (k + 1))).length) ∧ v = bestP kd (knownL ff (rows.take (k + 1)))) := fun _ => ⟨HVn.out, ⟨fun _ => HLn.out, fun _ => rfl⟩, eb.symm⟩
      clear HVn HLn eb HVb HVc HK1' HO1 hkk hnb
      rcases hcase with ⟨rfl, ho⟩ | ⟨rfl, ho⟩ | ⟨h4, h5⟩
      ·go_wp2_with fail
       go_roundw
       case rel => exact ⟨k + 1, c + rows[k].2, true, L, v, by omega, by go_num, rfl, rfl, HC', hc', HVx, HSn, HI5⟩
       case measure => simp [intOf]; omega
      ·go_wp2_with fail
       go_roundw
       case rel => exact ⟨k + 1, c + rows[k].2, true, L, v, by omega, by go_num, rfl, rfl, HC', hc', HVx, HSn, HI5⟩
       case measure => simp [intOf]; omega
      ·have h4b : (kd == 4) = false := by rw [beq_eq_false_iff_ne]; exact h4
       have h5b : (kd == 5) = false := by rw [beq_eq_false_iff_ne]; exact h5
       clear h4 h5
       go_wp2_with fail
       go_roundw
       case rel => exact ⟨k + 1, c + rows[k].2, true, L, v, by omega, by go_num, rfl, rfl, HC', hc', HVx, HSn, HI5⟩
       case measure => simp [intOf]; omega
  ·have e : k = rows.length := by omega
   subst e
   rw [List.take_length] at HC HV
   have hcase : (kd = 1 ∨ kd = 2) ∨ (kd = 3 ∧ sb = true) ∨ (¬ kd = 1 ∧ ¬ kd = 2 ∧ ¬ (kd = 3 ∧ sb = true)) := by
    by_cases c1 : kd = 1 ∨ kd = 2
    ·exact .inl c1
    ·by_cases c2 : kd = 3 ∧ sb = true
     ·exact .inr (.inl c2)
     ·exact .inr (.inr ⟨fun e => c1 (.inl e), fun e => c1 (.inr e), c2⟩)
   rcases hcase with hcase | ⟨rfl, rfl⟩ | ⟨n1, n2, n3⟩
   ·have er : res = numP c := by rw [HRes.out]; unfold aggR; rw [if_pos hcase, ← HC.out]
    have con := refNumber_at c wr
    rw [← er] at con
    unfold agV at con
    clear HRes er HC HV HS HTy HMr HOk HR HM HM1
    have hc2 : kd = 1 ∨ (¬ kd = 1 ∧ kd = 2) := by omega
    rcases hc2 with rfl | ⟨hn1, rfl⟩
    all_goals (
     go_wp2_with fail
     refine con.mono ?_
     rintro e w2 ⟨rfl, hb2⟩
     clear con p0
     have HI2 := HI.next hb2
     have qr := HI2.qr
     have hLow := HI2.low
     have d0 : w2.cell? ⟨w.heap.size + 1, 0, none⟩ = some (.int .i64 0) := cell_of (i := 0) qr rfl
     have d1 : w2.cell? ⟨w.heap.size + 1, 1, none⟩ = some (.int .i64 0) := cell_of (i := 1) qr rfl
     have d2 : w2.cell? ⟨w.heap.size + 1, 2, none⟩ = some (.string ⟨#[]⟩) := cell_of (i := 2) qr rfl
     have f0 : w2.frozen? ⟨w.heap.size + 1, 0, none⟩ = false := frozen_of_row w2 (w.heap.size + 1) 0 _ _ qr
     have f1 : w2.frozen? ⟨w.heap.size + 1, 1, none⟩ = false := frozen_of_row w2 (w.heap.size + 1) 1 _ _ qr
     have f2 : w2.frozen? ⟨w.heap.size + 1, 2, none⟩ = false := frozen_of_row w2 (w.heap.size + 1) 2 _ _ qr
     have hE := ((hLow.setCell (p := ⟨w.heap.size + 1, 0, none⟩) (Nat.le_succ _) (.int .i64 res.1)).setCell (p := ⟨w.heap.size + 1, 1, none⟩) (Nat.le_succ _) (.int .i64 res.2.1)).setCell (p := ⟨w.heap.size + 1, 2, none⟩) (Nat.le_succ _) (.string res.2.2)
     clear HI HI2 qr hLow
     dsimp only
     go_wp2_with fail
     exact bodyPost_ret (v := .agg #[.int .i64 res.1, .int .i64 res.2.1, .string res.2.2]) (by simp [results, Tryz.results59, go_sem, d0, d1, d2]) rfl ⟨rfl, hE⟩)
   ·have er : res = numP (sumN (knownL ff rows)) := by
     rw [HRes.out]
     unfold aggR
     rw [if_neg (by omega), if_pos ⟨rfl, (HV.out (by omega)).2.1.1 rfl⟩]
    have hsl : (rows.length : Int) ≤ 400 := by omega
    have con := sumVal_at (1000000000 * (rows.length : Int)) ⟨by omega, by omega⟩ (w.heap.size + 1 + 1) s wr HI.so HS.out.1 HS.out.2
    rw [(HV.out (by omega)).1, ← er] at con
    unfold agV at con
    clear HRes er HC HV HS HTy HMr HOk HR HM HM1
    go_wp2_with fail
    refine con.mono ?_
    rintro e w2 ⟨rfl, hX2⟩
    clear con p0
    have qr := (hX2.2 _ (lt_of_heap HI.qr) (by omega)).trans HI.qr
    have hLow := HI.low.trans (hX2.below (by omega))
    have d0 : w2.cell? ⟨w.heap.size + 1, 0, none⟩ = some (.int .i64 0) := cell_of (i := 0) qr rfl
    have d1 : w2.cell? ⟨w.heap.size + 1, 1, none⟩ = some (.int .i64 0) := cell_of (i := 1) qr rfl
    have d2 : w2.cell? ⟨w.heap.size + 1, 2, none⟩ = some (.string ⟨#[]⟩) := cell_of (i := 2) qr rfl
    have f0 : w2.frozen? ⟨w.heap.size + 1, 0, none⟩ = false := frozen_of_row w2 (w.heap.size + 1) 0 _ _ qr
    have f1 : w2.frozen? ⟨w.heap.size + 1, 1, none⟩ = false := frozen_of_row w2 (w.heap.size + 1) 1 _ _ qr
    have f2 : w2.frozen? ⟨w.heap.size + 1, 2, none⟩ = false := frozen_of_row w2 (w.heap.size + 1) 2 _ _ qr
    have hE := ((hLow.setCell (p := ⟨w.heap.size + 1, 0, none⟩) (Nat.le_succ _) (.int .i64 res.1)).setCell (p := ⟨w.heap.size + 1, 1, none⟩) (Nat.le_succ _) (.int .i64 res.2.1)).setCell (p := ⟨w.heap.size + 1, 2, none⟩) (Nat.le_succ _) (.string res.2.2)
    clear HI qr hLow
    dsimp only
    go_wp2_with fail
    exact bodyPost_ret (v := .agg #[.int .i64 res.1, .int .i64 res.2.1, .string res.2.2]) (by simp [results, Tryz.results59, go_sem, d0, d1, d2]) rfl ⟨rfl, hE⟩
   ·have er : res = v := by
     rw [HRes.out]
     unfold aggR
     have hv := HV.out n1
     rw [if_neg (by omega), if_neg, hv.2.2]
     rintro ⟨c1, c2⟩
     exact n3 ⟨c1, hv.2.1.2 c2⟩
    subst er
    clear HRes HC HV HS HTy HMr HOk HR HM HM1
    have qr := HI.qr
    have hLow := HI.low
    have b0 := HI.c0
    have b1 := HI.c1
    have b2 := HI.c2
    have d0 : wr.cell? ⟨w.heap.size + 1, 0, none⟩ = some (.int .i64 0) := cell_of (i := 0) qr rfl
    have d1 : wr.cell? ⟨w.heap.size + 1, 1, none⟩ = some (.int .i64 0) := cell_of (i := 1) qr rfl
    have d2 : wr.cell? ⟨w.heap.size + 1, 2, none⟩ = some (.string ⟨#[]⟩) := cell_of (i := 2) qr rfl
    have f0 : wr.frozen? ⟨w.heap.size + 1, 0, none⟩ = false := frozen_of_row wr (w.heap.size + 1) 0 _ _ qr
    have f1 : wr.frozen? ⟨w.heap.size + 1, 1, none⟩ = false := frozen_of_row wr (w.heap.size + 1) 1 _ _ qr
    have f2 : wr.frozen? ⟨w.heap.size + 1, 2, none⟩ = false := frozen_of_row wr (w.heap.size + 1) 2 _ _ qr
    have hE := ((hLow.setCell (p := ⟨w.heap.size + 1, 0, none⟩) (Nat.le_succ _) (.int .i64 res.1)).setCell (p := ⟨w.heap.size + 1, 1, none⟩) (Nat.le_succ _) (.int .i64 res.2.1)).setCell (p := ⟨w.heap.size + 1, 2, none⟩) (Nat.le_succ _) (.string res.2.2)
    clear HI qr hLow
    have n1b : (kd == 1) = false := by rw [beq_eq_false_iff_ne]; exact n1
    have n2b : (kd == 2) = false := by rw [beq_eq_false_iff_ne]; exact n2
    have h3 : kd = 3 ∨ ¬ kd = 3 := Decidable.em _
    rcases h3 with rfl | h3
    ·have hs : sb = false := by
      cases sb
      ·rfl
      ·exact absurd ⟨rfl, rfl⟩ n3
     subst hs
     go_wp2_with fail
     exact bodyPost_ret (v := .agg #[.int .i64 res.1, .int .i64 res.2.1, .string res.2.2]) (by simp [results, Tryz.results59, go_sem, d0, d1, d2]) rfl ⟨rfl, hE⟩
    ·have n3b : (kd == 3) = false := by rw [beq_eq_false_iff_ne]; exact h3
     go_wp2_with fail
     exact bodyPost_ret (v := .agg #[.int .i64 res.1, .int .i64 res.2.1, .string res.2.2]) (by simp [results, Tryz.results59, go_sem, d0, d1, d2]) rfl ⟨rfl, hE⟩
end Go.Proofs.YtfojonhblblbjaaGreat
/- Lists of keys of one's own. -/
namespace Go.Proofs.YtfojonhblblbjaaGreat
open Go.RowKit Go.Lib Go.Shelf

theorem infoH : (Tryz.prog.info? 51).map (fun i => (i.zero, i.size, i.bytes)) = some (some (.slice none 0 0), 1, 24) := by kernel_rfl
/-- Keys' values lie in blocks of values. -/
def EncH (W : World) (xs : List Value) (H : List (List Vl)) : Prop := xs.length = H.length ∧ ∀ i (hi : i < H.length), ∃ ka kc, xs[i]? = some (.slice ka H[i].length kc) ∧ SlAt W ka H[i] ∧ TyAt W ka
def OwnH (base : Nat) (W : World) (v : Value) (H : List (List Vl)) : Prop := ∃ xs, W.ownsRow base 51 1 v H.length xs ∧ EncH W xs H
theorem OwnH.nil (base : Nat) (W : World) : OwnH base W (.slice none 0 0) [] := ⟨[], by simpa using World.ownsRow_nil _ _ _ _, rfl, fun i hi => by simp at hi⟩
theorem EncH.next {W w1 : World} {xs : List Value} {H : List (List Vl)} (h : EncH W xs H) (hb : Below W.heap.size W w1) : EncH w1 xs H := by
 obtain ⟨h2, h3⟩ := h
 refine ⟨h2, fun i hi => ?_⟩
 obtain ⟨ka, kc, e0, e1, e2⟩ := h3 i hi
 exact ⟨ka, kc, e0, e1.next hb, e2.next hb⟩
theorem OwnH.next {W w1 : World} {base : Nat} {v : Value} {H : List (List Vl)} (h : OwnH base W v H) (hb : Below W.heap.size W w1) : OwnH base w1 v H := by
 obtain ⟨xs, h1, h2⟩ := h
 exact ⟨xs, own_next h1 hb, h2.next hb⟩
theorem sl_grown1 {W w1 : World} {base n : Nat} {v : Value} {xs : List Value} {a : Option Addr} {r : List Vl} (h : SlAt W a r) (ht : TyAt W a) (ho : W.ownsRow base 51 1 v n xs) (hg : W.grownBy w1 v.ownBlock) : SlAt w1 a r ∧ TyAt w1 a := by
 have key : ∀ b off, a = some ⟨b, off, none⟩ → w1.heap[b]? = W.heap[b]? := by
  intro b off e
  obtain ⟨c, z, h1⟩ := ht b off e
  have hlt : b < W.heap.size := lt_of_heap h1
  refine hg.block b hlt ?_
  obtain ⟨_, ⟨rfl, _⟩ | ⟨g, cap, cur, rfl, _, hh, _⟩⟩ := ho
  ·simp [Value.ownBlock]
  ·simp only [Value.ownBlock]
   intro e
   injection e with e
   subst e
   rw [hh] at h1
   simp at h1
 refine ⟨⟨h.1, ?_⟩, ?_⟩
 ·rcases h.2 with h | ⟨b, off, e, hr, hlt⟩
  ·exact .inl h
  ·refine .inr ⟨b, off, e, fun i hi => ?_, Nat.lt_of_lt_of_le hlt hg.size⟩
   have k := key b off e
   obtain ⟨c0, c1, c2⟩ := hr i hi
   exact ⟨(World.cell?_of_block (a := ⟨b, _, none⟩) k).trans c0, (World.cell?_of_block (a := ⟨b, _, none⟩) k).trans c1, (World.cell?_of_block (a := ⟨b, _, none⟩) k).trans c2⟩
 ·intro b off e
  obtain ⟨c, z, h1⟩ := ht b off e
  exact ⟨c, z, (key b off e).trans h1⟩
theorem OwnH.push {W w1 : World} {base : Nat} {v v' : Value} {xs : List Value} {H : List (List Vl)} {ka : Option Addr} {kc : Nat} {x : List Vl}
  (ho : W.ownsRow base 51 1 v H.length xs) (he : EncH W xs H) (hs : SlAt W ka x) (ht : TyAt W ka)
  (ho' : w1.ownsRow base 51 1 v' (H.length + 1) (xs ++ [.slice ka x.length kc])) (hg : W.grownBy w1 v.ownBlock) : OwnH base w1 v' (H ++ [x]) := by
 have lx := he.1
 refine ⟨_, by simpa using ho', by simp [he.1], ?_⟩
 intro i hi
 by_cases hi' : i < H.length
 ·obtain ⟨ka', kc', h1, h4, h5⟩ := he.2 i hi'
  have g := sl_grown1 h4 h5 ho hg
  rw [List.getElem_append_left hi']
  exact ⟨ka', kc', by rw [List.getElem?_append_left (by omega), h1], g⟩
 ·have : i = H.length := by simp at hi; omega
  subst this
  have g := sl_grown1 hs ht ho hg
  refine ⟨ka, kc, ?_, ?_⟩
  ·rw [List.getElem?_append_right (by omega)]; simp [lx]
  ·simpa using g
theorem OwnH.elem {W : World} {base : Nat} {v : Value} {H : List (List Vl)} (h : OwnH base W v H) : ∃ a c, v = .slice a H.length c ∧ ∀ i (hi : i < H.length), ∃ b off ka kc, a = some ⟨b, off, none⟩ ∧ W.cell? ⟨b, off + i, none⟩ = some (.slice ka H[i].length kc) ∧ SlAt W ka H[i] ∧ TyAt W ka := by
 obtain ⟨xs, ho, he⟩ := h
 have ho' := ho
 obtain ⟨a, c, rfl⟩ := own_shapeE ho
 refine ⟨a, c, rfl, fun i hi => ?_⟩
 obtain ⟨ka, kc, e0, e1, e2⟩ := he.2 i hi
 obtain ⟨_, ⟨hn, h0⟩ | ⟨g, c1, cur, hv, h1, h2, h3⟩⟩ := ho
 ·rw [h0] at hi; cases hi
 ·cases hv
  refine ⟨g, 0, ka, kc, rfl, ?_, e1, e2⟩
  rw [ho'.cellAt _ (by omega), ← e0]
  congr 1
  omega
theorem refL_take {xs : List Ex} {gs : List Ag} {z : List Zp} {H : List (List Vl)} {k : Nat} (h : k < H.length) : refL xs gs z (H.take (k + 1)) = refL xs gs z (H.take k) ++ [(H[k] ++ gs.map (fun g => aggP g (rowsR xs z H[k])), 1)] := by
 unfold refL
 rw [List.take_succ_eq_append_getElem h, List.map_append]
 rfl
end Go.Proofs.YtfojonhblblbjaaGreat
