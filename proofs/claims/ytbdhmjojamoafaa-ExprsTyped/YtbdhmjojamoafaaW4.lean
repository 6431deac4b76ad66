/- The walk of tidelaw1.right: whether all values of a row are right. -/
import Derived.Test.YtbdhmjojamoafaaW3
namespace Go.Proofs.Ytbdhmjojamoafaa
open Go.RowKit

/-- From its offset on a block holds these values, three cells each. -/
def Row (W : World) (b off : Nat) (l : List (Int × Int × ByteArray)) : Prop :=
  ∀ (i : Nat) (h : i < l.length), W.cell? ⟨b, off + i * 3, none⟩ = some (.int .i64 l[i].1) ∧ W.cell? ⟨b, off + i * 3 + 1, none⟩ = some (.int .i64 l[i].2.1) ∧ W.cell? ⟨b, off + i * 3 + 2, none⟩ = some (.string l[i].2.2)
def rightB (l : List (Int × Int × ByteArray)) : Bool := l.all fun v => wrongF v.1 v.2.1 v.2.2 == 0

theorem Row.next {W w1 : World} {b off : Nat} {l : List (Int × Int × ByteArray)} (h : Row W b off l) (hlt : b < W.heap.size) (hb : Below W.heap.size W w1) : Row w1 b off l :=
  fun i hi => ⟨(hb.cell (p := ⟨b, _, none⟩) hlt).trans (h i hi).1, (hb.cell (p := ⟨b, _, none⟩) hlt).trans (h i hi).2.1, (hb.cell (p := ⟨b, _, none⟩) hlt).trans (h i hi).2.2⟩

theorem right_snoc (l : List (Int × Int × ByteArray)) (k : Nat) (h : k < l.length) (hr : rightB (l.take k) = true) (hw : wrongF l[k].1 l[k].2.1 l[k].2.2 = 0) : rightB (l.take (k + 1)) = true := by
  unfold rightB at *
  rw [List.take_succ_eq_append_getElem h, List.all_append, hr]
  simp [hw]
theorem right_no (l : List (Int × Int × ByteArray)) (k : Nat) (h : k < l.length) (hw : ¬ wrongF l[k].1 l[k].2.1 l[k].2.2 = 0) : rightB l = false := by
  unfold rightB
  rw [List.all_eq_false]
  exact ⟨l[k], List.getElem_mem h, by simpa using hw⟩

end Go.Proofs.Ytbdhmjojamoafaa
