/- What is wrong with a row, and with a weight: plain functions, and the walks of zsets.wrongRow, zsets.inRange and of their fellows in the document's answer. -/
import Derived.Test.YtibobmkelmalkaaRows2
import Derived.Test.YtibobmkelmalkaaW10
namespace Go.Proofs.Ytibobmkelmalkaa
open Go.RowKit

/-- The first thing that is wrong with values: 0, if nothing is. -/
def wrongL : List Vl → Int
  | [] => 0
  | v :: r => if wrongF v.1 v.2.1 v.2.2 = 0 then wrongL r else wrongF v.1 v.2.1 v.2.2
def wrongRowF (l : List Vl) : Int := if 8 < l.length then 5 else wrongL l
def inW (w : Int) : Bool := decide (-1000000 ≤ w) && decide (w ≤ 1000000)

theorem wrongL_drop (l : List Vl) (k : Nat) (h : k < l.length) : wrongL (l.drop k) = if wrongF l[k].1 l[k].2.1 l[k].2.2 = 0 then wrongL (l.drop (k + 1)) else wrongF l[k].1 l[k].2.1 l[k].2.2 := by
  rw [List.drop_eq_getElem_cons h]; rfl
theorem wrongL_end (l : List Vl) (k : Nat) (h : l.length ≤ k) : wrongL (l.drop k) = 0 := by rw [List.drop_eq_nil_of_le h]; rfl
theorem wrongL_right : ∀ (l : List Vl), wrongL l = 0 ↔ rightB l = true
  | [] => by simp [wrongL, rightB]
  | v :: r => by
    have ih := wrongL_right r
    unfold rightB at ih ⊢
    by_cases h : wrongF v.1 v.2.1 v.2.2 = 0 <;> simp [wrongL, h, ih]
theorem wrongRowF_zero (l : List Vl) : wrongRowF l = 0 ↔ l.length ≤ 8 ∧ rightB l = true := by
  unfold wrongRowF
  by_cases h : 8 < l.length
  · rw [if_pos h]
    constructor
    · intro h'; omega
    · rintro ⟨h', _⟩; omega
  · rw [if_neg h, wrongL_right]
    exact ⟨fun h' => ⟨by omega, h'⟩, fun h' => h'.2⟩

set_option maxHeartbeats 1000000 in
theorem wrongRow_at (a : Option Addr) (cap : Nat) (l : List Vl) (w : World) (h : SlAt w a l) :
    Calls Try.prog 38 #[.slice a l.length cap] w fun e w' => e = .returned (.int .i64 (wrongRowF l)) ∧ Below w.heap.size w w' := by
  have hl := h.1
  unfold maxLen at hl
  by_cases h8 : 8 < l.length
  · have e : wrongRowF l = 5 := by simp [wrongRowF, h8]
    rw [e]
    clear e
    go_enter Try.func38, Try.ntmps38
    go_wp2_with fail
    go_ret
    exact ⟨rfl, Below.refl _ _⟩
  · have e : wrongRowF l = wrongL l := by simp [wrongRowF, h8]
    rw [e]
    clear e
    go_enter Try.func38, Try.ntmps38
    go_wp2_with fail
    go_loopw [11] (fun i w1 => ∃ k : Nat, k ≤ l.length ∧ i = .int .i64 k ∧ Hid (wrongL l = wrongL (l.drop k)) ∧ Below w.heap.size w w1) (fun i _ => l.length - (intOf i).toNat)
    case atStart => exact ⟨0, Nat.zero_le _, rfl, rfl, Below.refl _ _⟩
    case round =>
      obtain ⟨k, hk, rfl, HC, hb⟩ := hrel
      have hz := hb.size
      by_cases hlt : k < l.length
      · obtain ⟨b, off, rfl, hbl, c0, c1, c2⟩ := (h.next hb).elem hlt
        by_cases hw : wrongF l[k].1 l[k].2.1 l[k].2.2 = 0
        · have Hw : Hid (wrongF l[k].1 l[k].2.1 l[k].2.2 = 0) := hw
          clear hw
          go_wp2_with fail
          refine (wrong_any _ _ _ _).mono ?_
          rintro e w1 ⟨rfl, hb1⟩
          rw [Hw.out]
          go_wp2_with fail
          go_roundw
          case rel => exact ⟨k + 1, by omega, by go_num, HC.out.trans (by rw [wrongL_drop l k hlt, if_pos Hw.out]), hb.trans (((Below.refl _ _).alloc hz _).trans (hb1.mono (by simp; omega)))⟩
          case measure => simp [intOf]; omega
        · have Hw : Hid (¬ wrongF l[k].1 l[k].2.1 l[k].2.2 = 0) := hw
          have hne : (wrongF l[k].1 l[k].2.1 l[k].2.2 != 0) = true := by simpa using hw
          clear hw
          go_wp2_with fail
          refine (wrong_any _ _ _ _).mono ?_
          rintro e w1 ⟨rfl, hb1⟩
          go_wp2_with fail
          go_ret
          exact ⟨ret_int (by rw [HC.out, wrongL_drop l k hlt, if_neg Hw.out]), hb.trans (((Below.refl _ _).alloc hz _).trans (hb1.mono (by simp; omega)))⟩
      · go_wp2_with fail
        go_ret
        exact ⟨ret_int (by rw [HC.out, wrongL_end l k (by omega)]), hb⟩

set_option maxHeartbeats 1000000 in
theorem refRow_at (a : Option Addr) (cap : Nat) (l : List Vl) (w : World) (h : SlAt w a l) :
    Calls Try.prog 44 #[.slice a l.length cap] w fun e w' => e = .returned (.int .i64 (wrongRowF l)) ∧ Below w.heap.size w w' := by
  have hl := h.1
  unfold maxLen at hl
  by_cases h8 : 8 < l.length
  · have e : wrongRowF l = 5 := by simp [wrongRowF, h8]
    rw [e]
    clear e
    go_enter Try.func44, Try.ntmps44
    go_wp2_with fail
    go_ret
    exact ⟨rfl, Below.refl _ _⟩
  · have e : wrongRowF l = wrongL l := by simp [wrongRowF, h8]
    rw [e]
    clear e
    go_enter Try.func44, Try.ntmps44
    go_wp2_with fail
    go_loopw [11] (fun i w1 => ∃ k : Nat, k ≤ l.length ∧ i = .int .i64 k ∧ Hid (wrongL l = wrongL (l.drop k)) ∧ Below w.heap.size w w1) (fun i _ => l.length - (intOf i).toNat)
    case atStart => exact ⟨0, Nat.zero_le _, rfl, rfl, Below.refl _ _⟩
    case round =>
      obtain ⟨k, hk, rfl, HC, hb⟩ := hrel
      have hz := hb.size
      by_cases hlt : k < l.length
      · obtain ⟨b, off, rfl, hbl, c0, c1, c2⟩ := (h.next hb).elem hlt
        by_cases hw : wrongF l[k].1 l[k].2.1 l[k].2.2 = 0
        · have Hw : Hid (wrongF l[k].1 l[k].2.1 l[k].2.2 = 0) := hw
          clear hw
          go_wp2_with fail
          refine (refWrong_any _ _ _ _).mono ?_
          rintro e w1 ⟨rfl, hb1⟩
          rw [Hw.out]
          go_wp2_with fail
          go_roundw
          case rel => exact ⟨k + 1, by omega, by go_num, HC.out.trans (by rw [wrongL_drop l k hlt, if_pos Hw.out]), hb.trans (((Below.refl _ _).alloc hz _).trans (hb1.mono (by simp; omega)))⟩
          case measure => simp [intOf]; omega
        · have Hw : Hid (¬ wrongF l[k].1 l[k].2.1 l[k].2.2 = 0) := hw
          have hne : (wrongF l[k].1 l[k].2.1 l[k].2.2 != 0) = true := by simpa using hw
          clear hw
          go_wp2_with fail
          refine (refWrong_any _ _ _ _).mono ?_
          rintro e w1 ⟨rfl, hb1⟩
          go_wp2_with fail
          go_ret
          exact ⟨ret_int (by rw [HC.out, wrongL_drop l k hlt, if_neg Hw.out]), hb.trans (((Below.refl _ _).alloc hz _).trans (hb1.mono (by simp; omega)))⟩
      · go_wp2_with fail
        go_ret
        exact ⟨ret_int (by rw [HC.out, wrongL_end l k (by omega)]), hb⟩

set_option maxHeartbeats 400000 in
theorem zInRange_any (n : Int) (w : World) :
    Calls Try.prog 30 #[.int .i64 n] w fun e w' => e = .returned (.bool (inW n)) ∧ w' = w := by
  by_cases h0 : -1000000 ≤ n
  · have e : inW n = decide (n ≤ 1000000) := by simp [inW, h0]
    rw [e]
    go_enter Try.func30, Try.ntmps30
    go_wp2
    go_ret
    exact ⟨rfl, rfl⟩
  · have e : inW n = false := by simp [inW, h0]
    rw [e]
    go_enter Try.func30, Try.ntmps30
    go_wp2
    go_ret
    exact ⟨rfl, rfl⟩

set_option maxHeartbeats 400000 in
theorem refBig_any (n : Int) (w : World) :
    Calls Try.prog 45 #[.int .i64 n] w fun e w' => e = .returned (.bool (!inW n)) ∧ w' = w := by
  by_cases h0 : n < -1000000
  · have e : inW n = false := by simp [inW]; omega
    rw [e]
    go_enter Try.func45, Try.ntmps45
    go_wp2
    go_ret
    exact ⟨rfl, rfl⟩
  · have e : (!inW n) = decide (1000000 < n) := by
      have : -1000000 ≤ n := by omega
      by_cases h1 : 1000000 < n
      · have : ¬ n ≤ 1000000 := by omega
        simp [inW, *]
      · have : n ≤ 1000000 := by omega
        simp [inW, *]
    rw [e]
    go_enter Try.func45, Try.ntmps45
    go_wp2
    go_ret
    exact ⟨rfl, rfl⟩
end Go.Proofs.Ytibobmkelmalkaa
