/- The walk of tidelaw1.right: whether all values of a row are right. -/
import Derived.Test.YtakeldogdolddaaW3
namespace Go.Proofs.Ytakeldogdolddaa
open Go.RowKit

/-- From its offset on a block holds these values, three cells each. -/
def Row (W : World) (b off : Nat) (l : List (Int × Int × ByteArray)) : Prop :=
  ∀ (i : Nat) (h : i < l.length), W.cell? ⟨b, off + i * 3, none⟩ = some (.int .i64 l[i].1) ∧ W.cell? ⟨b, off + i * 3 + 1, none⟩ = some (.int .i64 l[i].2.1) ∧ W.cell? ⟨b, off + i * 3 + 2, none⟩ = some (.string l[i].2.2)
def rightB (l : List (Int × Int × ByteArray)) : Bool := l.all fun v => wrongF v.1 v.2.1 v.2.2 == 0

theorem Row.next {W w1 : World} {b off : Nat} {l : List (Int × Int × ByteArray)} (h : Row W b off l) (hlt : b < W.heap.size) (hb : Below W.heap.size W w1) : Row w1 b off l :=
  fun i hi => ⟨(hb.cell (p := ⟨b, _, none⟩) hlt).trans (h i hi).1, (hb.cell (p := ⟨b, _, none⟩) hlt).trans (h i hi).2.1, (hb.cell (p := ⟨b, _, none⟩) hlt).trans (h i hi).2.2⟩

theorem right_snoc (l : List (Int × Int × ByteArray)) (k : Nat) (h : k < l.length) (hr : rightB (l.take k) = true) (hw : wrongF l[k].1 l[k].2.1 l[k].2.2 = 0) : rightB (l.take (k + 1)) = true := by
  unfold rightB at *
  rw [List.take_succ_eq_append_getElem h, List.all_append, hr]
  simp [hw]
theorem right_no (l : List (Int × Int × ByteArray)) (k : Nat) (h : k < l.length) (hw : ¬ wrongF l[k].1 l[k].2.1 l[k].2.2 = 0) : rightB l = false := by
  unfold rightB
  rw [List.all_eq_false]
  exact ⟨l[k], List.getElem_mem h, by simpa using hw⟩

set_option maxHeartbeats 400000 in
theorem right_row (l : List (Int × Int × ByteArray)) (b off cap : Nat) (w : World) (hrow : Row w b off l) (hlt : b < w.heap.size) (hlen : l.length ≤ maxLen) :
    Calls Try.prog 11 #[.slice (some ⟨b, off, none⟩) l.length cap] w fun e w' => e = .returned (.bool (rightB l)) ∧ Below w.heap.size w w' := by
  unfold maxLen at hlen
  have HR : Hid (Row w b off l) := hrow
  clear hrow
  go_enter Try.func11, Try.ntmps11
  go_wp2
  go_loopw [7] (fun i w1 => ∃ k : Nat, k ≤ l.length ∧ i = .int .i64 k ∧ rightB (l.take k) = true ∧ Below w.heap.size w w1) (fun i _ => l.length - (intOf i).toNat)
  case atStart => exact ⟨0, Nat.zero_le _, rfl, rfl, Below.refl _ _⟩
  case round =>
    obtain ⟨k, hk, rfl, hr, hb⟩ := hrel
    have HRr : Hid (rightB (l.take k) = true) := hr
    clear hr
    by_cases hkl : k < l.length
    · obtain ⟨c0, c1, c2⟩ := (HR.out.next hlt hb) k hkl
      by_cases hw : wrongF l[k].1 l[k].2.1 l[k].2.2 = 0
      · have Hw : Hid (wrongF l[k].1 l[k].2.1 l[k].2.2 = 0) := hw
        clear hw
        go_wp2_with fail
        refine (refWrong_any _ _ _ _).mono ?_
        rintro e w1 ⟨rfl, hb1⟩
        rw [Hw.out]
        go_wp2_with fail
        have hz := hb.size
        go_roundw
        case rel => exact ⟨k + 1, by omega, by go_num, right_snoc l k hkl HRr.out Hw.out, hb.trans (((Below.refl _ _).alloc hz _).trans (hb1.mono (by simp; omega)))⟩
        case measure => simp [intOf]; omega
      · have Hw : Hid (¬ wrongF l[k].1 l[k].2.1 l[k].2.2 = 0) := hw
        have hne : (wrongF l[k].1 l[k].2.1 l[k].2.2 != 0) = true := by simpa using hw
        clear hw
        go_wp2_with fail
        refine (refWrong_any _ _ _ _).mono ?_
        rintro e w1 ⟨rfl, hb1⟩
        go_wp2_with fail
        have hz := hb.size
        go_ret
        exact ⟨ret_bool (right_no l k hkl Hw.out).symm, hb.trans (((Below.refl _ _).alloc hz _).trans (hb1.mono (by simp; omega)))⟩
    · have e : k = l.length := by omega
      go_wp2_with fail
      go_ret
      exact ⟨ret_bool (by rw [← HRr.out, e, List.take_length]), hb⟩
end Go.Proofs.Ytakeldogdolddaa
