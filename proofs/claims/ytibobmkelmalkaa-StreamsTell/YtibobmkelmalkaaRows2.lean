/- The walk of the document's answer for rows of right values, and of tidelaw1.ValsRows. -/
import Derived.Test.YtibobmkelmalkaaRows1
import Derived.Test.YtibobmkelmalkaaW11
import Derived.Test.YtibobmkelmalkaaPast
namespace Go.Proofs.Ytibobmkelmalkaa
open Go.RowKit

theorem right_elem {l : List Vl} (h : rightB l = true) {k : Nat} (hk : k < l.length) : 1 ≤ l[k].1 ∧ l[k].1 ≤ 4 := by
  unfold rightB at h
  rw [List.all_eq_true] at h
  have hw := h l[k] (List.getElem_mem hk)
  simp only [beq_iff_eq] at hw
  unfold wrongF at hw
  by_cases h1 : l[k].1 = 1
  · omega
  by_cases h2 : l[k].1 = 2
  · omega
  by_cases h3 : l[k].1 = 3
  · omega
  by_cases h4 : l[k].1 = 4
  · omega
  · simp [h1, h2, h3, h4] at hw

set_option maxHeartbeats 1000000 in
theorem refRows_at (a a' : Option Addr) (cap cap' : Nat) (l l' : List Vl) (w : World) (h : SlAt w a l) (h' : SlAt w a' l') (hr : rightB l = true) :
    Calls Try.prog 46 #[.slice a l.length cap, .slice a' l'.length cap'] w fun e w' => e = .returned (.int .i64 (cmpL l l')) ∧ Below w.heap.size w w' := by
  have hl := h.1
  have hl' := h'.1
  unfold maxLen at hl hl'
  have HR : Hid (rightB l = true) := hr
  clear hr
  go_enter Try.func46, Try.ntmps46
  go_wp2
  go_loopw [5] (fun i w1 => ∃ k : Nat, k ≤ l.length ∧ k ≤ l'.length ∧ i = .int .i64 k ∧ Hid (cmpL l l' = cmpL (l.drop k) (l'.drop k)) ∧ Below w.heap.size w w1) (fun i _ => l.length - (intOf i).toNat)
  case atStart => exact ⟨0, Nat.zero_le _, Nat.zero_le _, rfl, rfl, Below.refl _ _⟩
  case round =>
    obtain ⟨k, hk, hk', rfl, HC, hb⟩ := hrel
    have hz := hb.size
    by_cases hlt : k < l.length
    · have b1 : ((k : Int) == (l.length : Int)) = false := by simp; omega
      by_cases hlt' : k < l'.length
      · have b2 : ((k : Int) == (l'.length : Int)) = false := by simp; omega
        have i0 : (0 : Int) ≤ (k : Int) := by omega
        have i1 : (k : Int) < (l.length : Int) := by omega
        have i2 : (k : Int) < (l'.length : Int) := by omega
        obtain ⟨b, off, rfl, hbl, c0, c1, c2⟩ := (h.next hb).elem hlt
        obtain ⟨b', off', rfl, hbl', d0, d1, d2⟩ := (h'.next hb).elem hlt'
        have ⟨g0, g1⟩ := right_elem HR.out hlt
        have p0 := past_cell c0
        have p1 := past_cell c1
        have p2 := past_cell c2
        have p3 := past_cell d0
        have p4 := past_cell d1
        have p5 := past_cell d2
        haveI : Nonempty (Past wr) := ⟨⟨wr, Below.refl _ _⟩⟩
        by_cases e : cmpP l[k] l'[k] = 0
        · have E : Hid (cmpP l[k] l'[k] = 0) := e
          have E2 : cmpV l[k].1 l[k].2.1 l[k].2.2 l'[k].1 l'[k].2.1 l'[k].2.2 = 0 := e
          clear e
          go_wp2_with fail
          refine wp_region_past (by kernel_rfl) (by kernel_rfl) ?_
          repeat (go_big_quiet_step (first | (go_at_call 56; exact in_past (refOrder_any _ _ _ _ _ _ _ g0 g1))))
          refine wpQuiet_nil ?_
          rintro _ ⟨⟨w2, hb2⟩, rfl⟩
          go_wp2_with fail
          go_roundw
          case rel => exact ⟨k + 1, by omega, by omega, by go_num, HC.out.trans (by rw [cmpL_drop l l' k hlt hlt', if_pos E.out]), chain hb hb2⟩
          case measure => simp [intOf]; omega
        · have E : Hid (¬ cmpP l[k] l'[k] = 0) := e
          have E2 : (cmpV l[k].1 l[k].2.1 l[k].2.2 l'[k].1 l'[k].2.1 l'[k].2.2 != 0) = true := by simpa [cmpP] using e
          clear e
          go_wp2_with fail
          refine wp_region_past (by kernel_rfl) (by kernel_rfl) ?_
          repeat (go_big_quiet_step (first | (go_at_call 56; exact in_past (refOrder_any _ _ _ _ _ _ _ g0 g1))))
          refine wpQuiet_nil ?_
          rintro _ ⟨⟨w2, hb2⟩, rfl⟩
          go_wp2_with fail
          go_ret
          exact ⟨ret_int (by rw [HC.out, cmpL_drop l l' k hlt hlt', if_neg E.out]; rfl), chain hb hb2⟩
      · have b2 : ((k : Int) == (l'.length : Int)) = true := by simp; omega
        go_wp2_with fail
        go_ret
        exact ⟨ret_int (by rw [HC.out, cmpL_long l l' k hlt (by omega)]), hb⟩
    · have b1 : ((k : Int) == (l.length : Int)) = true := by simp; omega
      by_cases hlt' : k < l'.length
      · have b2 : ((k : Int) == (l'.length : Int)) = false := by simp; omega
        go_wp2_with fail
        go_ret
        exact ⟨ret_int (by rw [HC.out, cmpL_short l l' k (by omega) hlt']), hb⟩
      · have b2 : ((k : Int) == (l'.length : Int)) = true := by simp; omega
        go_wp2_with fail
        go_ret
        exact ⟨ret_int (by rw [HC.out, cmpL_same l l' k (by omega) (by omega)]), hb⟩

end Go.Proofs.Ytibobmkelmalkaa
