/- The walk of tideref8.Wrong. -/
import Derived.Test.YtibobmkelmalkaaSTA
import Derived.Test.YtibobmkelmalkaaRB
import Derived.Test.YtibobmkelmalkaaST6
namespace Go.Proofs.Ytibobmkelmalkaa
open Go.RowKit Go.Lib Go.Shelf

theorem eachF_many {n : Nat} {E : Nat → Int} (h : 30 < n) : eachF n E = (5, 0) := by unfold eachF; rw [if_pos h]

set_option maxRecDepth 100000 in
set_option maxHeartbeats 4000000 in
theorem refWrongs_at (l : List (List Zp)) (a : Option Addr) (cap : Nat) (w : World) (hD : DtAt w a l) :
    Calls Try.prog 21 #[.slice a l.length cap] w fun e w' => e = .returned (.agg #[.int .i64 (wrongsF l).1, .int .i64 (wrongsF l).2]) ∧ Below w.heap.size w w' := by
  generalize hF : wrongsF l = F
  have HF : Hid (eachF l.length (fun k => wrongZ (l.getD k [])) = F) := hF
  clear hF
  have Q0 := heap_new w #[.int .i64 0, .int .i64 0] 27
  have hA : Below w.heap.size w (w.alloc (.cells #[.int .i64 0, .int .i64 0] 27)) := (Below.refl _ _).alloc (Nat.le_refl _) _
  by_cases hn : 30 < l.length
  · have e1 : F = (5, 0) := by rw [← HF.out]; exact eachF_many hn
    subst e1
    have hnz : (30 : Int) < (l.length : Int) := by omega
    go_enter Try.func21, Try.ntmps21
    go_upto_region 1 with fail
    generalize w.alloc (.cells #[.int .i64 0, .int .i64 0] 27) = w1 at *
    have f0 := cell_of (i := 0) Q0 rfl
    have f1 := cell_of (i := 1) Q0 rfl
    have z0 := frozen_of_row w1 w.heap.size 0 _ _ Q0
    have z1 := frozen_of_row w1 w.heap.size 1 _ _ Q0
    have QR := fset (x := .int .i64 5) (y := .int .i64 0) Q0
    have hB := hA.trans (fset_below (B := w.heap.size) (x := .int .i64 5) (y := .int .i64 0) (Nat.le_refl _))
    have g0 := cell_of (i := 0) QR rfl
    have g1 := cell_of (i := 1) QR rfl
    clear QR
    go_wp2_with fail
    exact bodyPost_ret (v := .agg #[.int .i64 5, .int .i64 0]) (by simp [results, Try.results21, go_sem, g0, g1]) rfl ⟨rfl, hB⟩
  have hnz : ¬ (30 : Int) < (l.length : Int) := by omega
  go_enter Try.func21, Try.ntmps21
  go_upto_region 1 with fail
  generalize w.alloc (.cells #[.int .i64 0, .int .i64 0] 27) = w1 at *
  go_wp2_with fail
  go_loopw [11] (fun i wr => ∃ k : Nat, k ≤ l.length ∧ i = .int .i64 k ∧ Hid (∀ j, j < k → wrongZ (l.getD j []) = 0) ∧ Below w1.heap.size w1 wr) (fun i _ => l.length - (intOf i).toNat)
  case atStart => exact ⟨0, Nat.zero_le _, rfl, fun j hj => absurd hj (by omega), Below.refl _ _⟩
  case round =>
    obtain ⟨k, hk, rfl, HE, hb⟩ := hrel
    have QR := (hb.block _ (lt_of_heap Q0)).trans Q0
    have hAr := chain hA hb
    by_cases hlt : k < l.length
    · obtain ⟨b, off, ai, ci, rfl, hbl, c0, z0, n0⟩ := (hD.next hAr).elem hlt
      have hkz : (k : Int) < (l.length : Int) := by omega
      have con := refWrongZ_at ai ci l[k] wr z0
      have eg := getD_at hlt
      by_cases h0 : wrongZ l[k] = 0
      · rw [h0] at con
        have HE' : Hid (∀ j, j < k + 1 → wrongZ (l.getD j []) = 0) := fun j hj => by
          by_cases e : j = k
          · rw [e, eg]; exact h0
          · exact HE.out j (by omega)
        clear eg h0
        generalize l[k] = lk at *
        go_wp2_with fail
        refine con.mono ?_
        rintro e w2 ⟨rfl, hb2⟩
        have hb3 := chain hb hb2
        clear con QR
        go_wp2_with fail
        go_roundw
        case rel => exact ⟨k + 1, by omega, by go_num, HE', hb3⟩
        case measure => simp [intOf]; omega
      · have hne : (wrongZ l[k] != 0) = true := by simpa using h0
        have e1 : F = (wrongZ l[k], (k : Int)) := by
          rw [← HF.out, ← eg]
          exact eachF_at (by omega) hlt HE.out (by rw [eg]; exact h0)
        clear eg h0 HF
        generalize wrongZ l[k] = ek at *
        generalize l[k] = lk at *
        subst e1
        go_wp2_with fail
        refine con.mono ?_
        rintro e w2 ⟨rfl, hb2⟩
        have Q3 := (hb2.block _ (lt_of_heap QR)).trans QR
        have hA3 := chain hAr hb2
        clear con QR hAr
        have f0 := cell_of (i := 0) Q3 rfl
        have f1 := cell_of (i := 1) Q3 rfl
        have z0 := frozen_of_row w2 w.heap.size 0 _ _ Q3
        have z1 := frozen_of_row w2 w.heap.size 1 _ _ Q3
        have QF := fset (x := .int .i64 ek) (y := .int .i64 k) Q3
        have hB := hA3.trans (fset_below (B := w.heap.size) (x := .int .i64 ek) (y := .int .i64 k) (Nat.le_refl _))
        have g0 := cell_of (i := 0) QF rfl
        have g1 := cell_of (i := 1) QF rfl
        clear QF Q3 hA3
        go_wp2_with fail
        exact bodyPost_ret (v := .agg #[.int .i64 ek, .int .i64 k]) (by simp [results, Try.results21, go_sem, g0, g1]) rfl ⟨rfl, hB⟩
    · have hkn : ¬ (k : Int) < (l.length : Int) := by omega
      have e1 : F = (0, 0) := by rw [← HF.out]; exact eachF_all (by omega) (fun j hj => HE.out j (by omega))
      subst e1
      have f0 := cell_of (i := 0) QR rfl
      have f1 := cell_of (i := 1) QR rfl
      have z0 := frozen_of_row wr w.heap.size 0 _ _ QR
      have z1 := frozen_of_row wr w.heap.size 1 _ _ QR
      have QF := fset (x := .int .i64 0) (y := .int .i64 0) QR
      have hB := hAr.trans (fset_below (B := w.heap.size) (x := .int .i64 0) (y := .int .i64 0) (Nat.le_refl _))
      have g0 := cell_of (i := 0) QF rfl
      have g1 := cell_of (i := 1) QF rfl
      clear QF QR hAr
      go_wp2_with fail
      exact bodyPost_ret (v := .agg #[.int .i64 0, .int .i64 0]) (by simp [results, Try.results21, go_sem, g0, g1]) rfl ⟨rfl, hB⟩
end Go.Proofs.Ytibobmkelmalkaa
