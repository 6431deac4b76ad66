/-
  NARROWER THAN 'FOR EVERY INPUT', by the rows' own cells (each row's printed sentence says how): ExprsTell: loops · ExprsTyped: loops · ExprsTurned: loops · ExprsColumns: loops · ExprsKnow: loops · ExprsChoose: loops.
  DERIVED. THE GIVEN ROWS OF THIS SEAT. 6 by the template 'for every input the law returns true; each argument reads behind the call as it read before'; 0 by the template 'total and deterministic' (their statements: YtbdhmjojamoafaaTotals.lean).
  GIVEN WITH THE SEED: the statements are not yours to turn. If you find one false, say at which input.
  Laid BY PROGRAM, IN A SANDBOX (cutbox-rows.mjs): the forced cells as the released guide's own fill.sh prints them over the translation 61401c0b219ad55c… (all of the seat's roots in one cut). By AI agents, Wed Nov 11 2026. No macro, syntax, notation, axiom, sorry.
-/
import Derived.Test.YtbdhmjojamoafaaChecked
import GoSem.Claim
import GoSem.ClaimJoined
import GoSem.ClaimMapViews
import Derived.JoinedTies
import Derived.KernelRfl
namespace Go.Proofs.Ytbdhmjojamoafaa
/- THE CELL 'sum', in the pinned program and in every row, IS THE sha256 OF THE DUMP (.gsa) THAT YtbdhmjojamoafaaProg.lean LOADS. Nothing in Lean hashes anything: it is a label: what it is worth is what the hold of that sum in a sandbox is worth. -/
noncomputable def Try.pinned : Pinned := { name := "ytbdhmjojamoafaa", sum := "61401c0b219ad55ce573deae9019e0ee850abee153642dfd03b24e99032b8ba5", checked := Try.checked }
namespace Rows
def none {H : Type} : Left H := { results := [], args := [] }

/-- 'tidelaw3.ExprsTell': WHATEVER THE INPUT: true; the input reads as it did. -/
def exprsTellSpec : ChangeSpec := { name := "exprsTell", fn := fun _ => fun
  | [d1, d2, d3] => { results := [.lit (.bool true)], args := [d1, d2, d3] }
  | _ => none }
def exprsTellRow : OpenClaim := { program := "ytbdhmjojamoafaa", sum := "61401c0b219ad55ce573deae9019e0ee850abee153642dfd03b24e99032b8ba5", func := "tidemark/tidelaw3.ExprsTell", spec := "exprsTell", unfollowed := true, recurses := true, loops := true, apart := false }
def ExprsTellSaid : Prop := exprsTellRow.holds Try.pinned (OpenSpec.ofChange exprsTellSpec)

/-- ITS FALSE NEIGHBOUR: 'it returns false'. Refute it at one input. -/
def exprsTellWrong : ChangeSpec := { name := "exprsTell", fn := fun _ => fun
  | [d1, d2, d3] => { results := [.lit (.bool false)], args := [d1, d2, d3] }
  | _ => none }
def ExprsTellWrongFalsely : Prop := exprsTellRow.holds Try.pinned (OpenSpec.ofChange exprsTellWrong)

/-- 'tidelaw3.ExprsTyped': WHATEVER THE INPUT: true; the input reads as it did. -/
def exprsTypedSpec : ChangeSpec := { name := "exprsTyped", fn := fun _ => fun
  | [d1, d2, d3] => { results := [.lit (.bool true)], args := [d1, d2, d3] }
  | _ => none }
def exprsTypedRow : OpenClaim := { program := "ytbdhmjojamoafaa", sum := "61401c0b219ad55ce573deae9019e0ee850abee153642dfd03b24e99032b8ba5", func := "tidemark/tidelaw3.ExprsTyped", spec := "exprsTyped", unfollowed := true, recurses := true, loops := true, apart := false }
def ExprsTypedSaid : Prop := exprsTypedRow.holds Try.pinned (OpenSpec.ofChange exprsTypedSpec)

/-- ITS FALSE NEIGHBOUR: 'it returns false'. Refute it at one input. -/
def exprsTypedWrong : ChangeSpec := { name := "exprsTyped", fn := fun _ => fun
  | [d1, d2, d3] => { results := [.lit (.bool false)], args := [d1, d2, d3] }
  | _ => none }
def ExprsTypedWrongFalsely : Prop := exprsTypedRow.holds Try.pinned (OpenSpec.ofChange exprsTypedWrong)

/-- 'tidelaw3.ExprsTurned': WHATEVER THE INPUT: true; the input reads as it did. -/
def exprsTurnedSpec : ChangeSpec := { name := "exprsTurned", fn := fun _ => fun
  | [d1, d2, d3, d4] => { results := [.lit (.bool true)], args := [d1, d2, d3, d4] }
  | _ => none }
def exprsTurnedRow : OpenClaim := { program := "ytbdhmjojamoafaa", sum := "61401c0b219ad55ce573deae9019e0ee850abee153642dfd03b24e99032b8ba5", func := "tidemark/tidelaw3.ExprsTurned", spec := "exprsTurned", unfollowed := true, recurses := true, loops := true, apart := false }
def ExprsTurnedSaid : Prop := exprsTurnedRow.holds Try.pinned (OpenSpec.ofChange exprsTurnedSpec)

/-- ITS FALSE NEIGHBOUR: 'it returns false'. Refute it at one input. -/
def exprsTurnedWrong : ChangeSpec := { name := "exprsTurned", fn := fun _ => fun
  | [d1, d2, d3, d4] => { results := [.lit (.bool false)], args := [d1, d2, d3, d4] }
  | _ => none }
def ExprsTurnedWrongFalsely : Prop := exprsTurnedRow.holds Try.pinned (OpenSpec.ofChange exprsTurnedWrong)

/-- 'tidelaw3.ExprsColumns': WHATEVER THE INPUT: true; the input reads as it did. -/
def exprsColumnsSpec : ChangeSpec := { name := "exprsColumns", fn := fun _ => fun
  | [d1, d2, d3, d4, d5] => { results := [.lit (.bool true)], args := [d1, d2, d3, d4, d5] }
  | _ => none }
def exprsColumnsRow : OpenClaim := { program := "ytbdhmjojamoafaa", sum := "61401c0b219ad55ce573deae9019e0ee850abee153642dfd03b24e99032b8ba5", func := "tidemark/tidelaw3.ExprsColumns", spec := "exprsColumns", unfollowed := true, recurses := true, loops := true, apart := false }
def ExprsColumnsSaid : Prop := exprsColumnsRow.holds Try.pinned (OpenSpec.ofChange exprsColumnsSpec)

/-- ITS FALSE NEIGHBOUR: 'it returns false'. Refute it at one input. -/
def exprsColumnsWrong : ChangeSpec := { name := "exprsColumns", fn := fun _ => fun
  | [d1, d2, d3, d4, d5] => { results := [.lit (.bool false)], args := [d1, d2, d3, d4, d5] }
  | _ => none }
def ExprsColumnsWrongFalsely : Prop := exprsColumnsRow.holds Try.pinned (OpenSpec.ofChange exprsColumnsWrong)

/-- 'tidelaw3.ExprsKnow': WHATEVER THE INPUT: true; the input reads as it did. -/
def exprsKnowSpec : ChangeSpec := { name := "exprsKnow", fn := fun _ => fun
  | [d1, d2, d3, d4, d5] => { results := [.lit (.bool true)], args := [d1, d2, d3, d4, d5] }
  | _ => none }
def exprsKnowRow : OpenClaim := { program := "ytbdhmjojamoafaa", sum := "61401c0b219ad55ce573deae9019e0ee850abee153642dfd03b24e99032b8ba5", func := "tidemark/tidelaw3.ExprsKnow", spec := "exprsKnow", unfollowed := true, recurses := true, loops := true, apart := false }
def ExprsKnowSaid : Prop := exprsKnowRow.holds Try.pinned (OpenSpec.ofChange exprsKnowSpec)

/-- ITS FALSE NEIGHBOUR: 'it returns false'. Refute it at one input. -/
def exprsKnowWrong : ChangeSpec := { name := "exprsKnow", fn := fun _ => fun
  | [d1, d2, d3, d4, d5] => { results := [.lit (.bool false)], args := [d1, d2, d3, d4, d5] }
  | _ => none }
def ExprsKnowWrongFalsely : Prop := exprsKnowRow.holds Try.pinned (OpenSpec.ofChange exprsKnowWrong)

/-- 'tidelaw3.ExprsChoose': WHATEVER THE INPUT: true; the input reads as it did. -/
def exprsChooseSpec : ChangeSpec := { name := "exprsChoose", fn := fun _ => fun
  | [d1, d2, d3, d4, d5] => { results := [.lit (.bool true)], args := [d1, d2, d3, d4, d5] }
  | _ => none }
def exprsChooseRow : OpenClaim := { program := "ytbdhmjojamoafaa", sum := "61401c0b219ad55ce573deae9019e0ee850abee153642dfd03b24e99032b8ba5", func := "tidemark/tidelaw3.ExprsChoose", spec := "exprsChoose", unfollowed := true, recurses := true, loops := true, apart := false }
def ExprsChooseSaid : Prop := exprsChooseRow.holds Try.pinned (OpenSpec.ofChange exprsChooseSpec)

/-- ITS FALSE NEIGHBOUR: 'it returns false'. Refute it at one input. -/
def exprsChooseWrong : ChangeSpec := { name := "exprsChoose", fn := fun _ => fun
  | [d1, d2, d3, d4, d5] => { results := [.lit (.bool false)], args := [d1, d2, d3, d4, d5] }
  | _ => none }
def ExprsChooseWrongFalsely : Prop := exprsChooseRow.holds Try.pinned (OpenSpec.ofChange exprsChooseWrong)

/- THE SECOND FORM. 'bulk': how many values and letters a reading holds, each counted each time it is reached (what is shared counts as often as it is met; a slice's spare places count too). A statement '..UptoSaid' is the law's where the arguments, and the package variables that the reading takes, are together of bulk at most 1048576: NARROWER than '..Said'. Prove '..Said' where nothing that the law and all that it calls make is longer than what came in: it says more and counts as full. Else prove '..UptoSaid'. A law counts once. -/
mutual
def uptoBulk {H : Type} : DataW H → Nat
  | .lit (.string bytes) => bytes.length + 1
  | .lit _ => 1
  | .nil => 1
  | .ptr d => uptoBulk d + 1
  | .slice elems spare => uptoBulkAll elems + uptoBulkAll spare + 1
  | .agg parts => uptoBulkAll parts + 1
  | .iface _ d => uptoBulk d + 1
  | .map entries => uptoBulkEntries entries + 1
  | .held _ => 1
def uptoBulkAll {H : Type} : List (DataW H) → Nat
  | [] => 0
  | d :: r => uptoBulk d + uptoBulkAll r
def uptoBulkEntries {H : Type} : List (Lit × DataW H) → Nat
  | [] => 0
  | x :: r => uptoBulkEntry x + uptoBulkEntries r
def uptoBulkEntry {H : Type} : Lit × DataW H → Nat
  | (.string bytes, d) => bytes.length + uptoBulk d + 1
  | (_, d) => uptoBulk d + 1
 end
def uptoSmall : (H : Type) → List (DataW H) → Bool := fun _ ds => decide (uptoBulkAll ds ≤ 1048576)
def OpenSpec.upto (s : _root_.Go.ChangeSpec) : _root_.Go.OpenSpec := { _root_.Go.OpenSpec.ofChange s with cond := some uptoSmall }

/-- 'tidelaw3.ExprsTell', WHERE WHAT IT READS IS OF BULK AT MOST 1048576: true; the input reads as it did. -/
def exprsTellUptoRow : OpenClaim := { program := "ytbdhmjojamoafaa", sum := "61401c0b219ad55ce573deae9019e0ee850abee153642dfd03b24e99032b8ba5", func := "tidemark/tidelaw3.ExprsTell", spec := "exprsTell", unfollowed := true, recurses := true, loops := true, apart := false, narrowed := true }
def ExprsTellUptoSaid : Prop := exprsTellUptoRow.holds Try.pinned (OpenSpec.upto exprsTellSpec)

/-- 'tidelaw3.ExprsTyped', WHERE WHAT IT READS IS OF BULK AT MOST 1048576: true; the input reads as it did. -/
def exprsTypedUptoRow : OpenClaim := { program := "ytbdhmjojamoafaa", sum := "61401c0b219ad55ce573deae9019e0ee850abee153642dfd03b24e99032b8ba5", func := "tidemark/tidelaw3.ExprsTyped", spec := "exprsTyped", unfollowed := true, recurses := true, loops := true, apart := false, narrowed := true }
def ExprsTypedUptoSaid : Prop := exprsTypedUptoRow.holds Try.pinned (OpenSpec.upto exprsTypedSpec)

/-- 'tidelaw3.ExprsTurned', WHERE WHAT IT READS IS OF BULK AT MOST 1048576: true; the input reads as it did. -/
def exprsTurnedUptoRow : OpenClaim := { program := "ytbdhmjojamoafaa", sum := "61401c0b219ad55ce573deae9019e0ee850abee153642dfd03b24e99032b8ba5", func := "tidemark/tidelaw3.ExprsTurned", spec := "exprsTurned", unfollowed := true, recurses := true, loops := true, apart := false, narrowed := true }
def ExprsTurnedUptoSaid : Prop := exprsTurnedUptoRow.holds Try.pinned (OpenSpec.upto exprsTurnedSpec)

/-- 'tidelaw3.ExprsColumns', WHERE WHAT IT READS IS OF BULK AT MOST 1048576: true; the input reads as it did. -/
def exprsColumnsUptoRow : OpenClaim := { program := "ytbdhmjojamoafaa", sum := "61401c0b219ad55ce573deae9019e0ee850abee153642dfd03b24e99032b8ba5", func := "tidemark/tidelaw3.ExprsColumns", spec := "exprsColumns", unfollowed := true, recurses := true, loops := true, apart := false, narrowed := true }
def ExprsColumnsUptoSaid : Prop := exprsColumnsUptoRow.holds Try.pinned (OpenSpec.upto exprsColumnsSpec)

/-- 'tidelaw3.ExprsKnow', WHERE WHAT IT READS IS OF BULK AT MOST 1048576: true; the input reads as it did. -/
def exprsKnowUptoRow : OpenClaim := { program := "ytbdhmjojamoafaa", sum := "61401c0b219ad55ce573deae9019e0ee850abee153642dfd03b24e99032b8ba5", func := "tidemark/tidelaw3.ExprsKnow", spec := "exprsKnow", unfollowed := true, recurses := true, loops := true, apart := false, narrowed := true }
def ExprsKnowUptoSaid : Prop := exprsKnowUptoRow.holds Try.pinned (OpenSpec.upto exprsKnowSpec)

/-- 'tidelaw3.ExprsChoose', WHERE WHAT IT READS IS OF BULK AT MOST 1048576: true; the input reads as it did. -/
def exprsChooseUptoRow : OpenClaim := { program := "ytbdhmjojamoafaa", sum := "61401c0b219ad55ce573deae9019e0ee850abee153642dfd03b24e99032b8ba5", func := "tidemark/tidelaw3.ExprsChoose", spec := "exprsChoose", unfollowed := true, recurses := true, loops := true, apart := false, narrowed := true }
def ExprsChooseUptoSaid : Prop := exprsChooseUptoRow.holds Try.pinned (OpenSpec.upto exprsChooseSpec)

end Rows
end Go.Proofs.Ytbdhmjojamoafaa
