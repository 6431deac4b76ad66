/-
  NARROWER THAN 'FOR EVERY INPUT', by the rows' own cells (each row's printed sentence says how): WindowKeeps: loops · WindowNumbers: loops · WindowParts: loops · WindowLast: loops · WindowTells: loops.
  DERIVED. THE GIVEN ROWS OF THIS SEAT. 5 by the template 'for every input the law returns true; each argument reads behind the call as it read before'; 0 by the template 'total and deterministic' (their statements: YtcnmpiahcnkndaaGreatTotals.lean).
  GIVEN WITH THE SEED: the statements are not yours to turn. If you find one false, say at which input.
  Laid BY PROGRAM, IN A SANDBOX (cutbox-rows.mjs): the forced cells as the released guide's own fill.sh prints them over the translation 0988d46650008db8… (all of the seat's roots in one cut). By AI agents, Wed Nov 11 2026. No macro, syntax, notation, axiom, sorry.
-/
import Derived.Test.YtcnmpiahcnkndaaGreatChecked
import GoSem.Claim
import GoSem.ClaimJoined
import GoSem.ClaimMapViews
import Derived.JoinedTies
import Derived.KernelRfl
namespace Go.Proofs.YtcnmpiahcnkndaaGreat
/- THE CELL 'sum', in the pinned program and in every row, IS THE sha256 OF THE DUMP (.gsa) THAT YtcnmpiahcnkndaaGreatProg.lean LOADS. Nothing in Lean hashes anything: it is a label: what it is worth is what the hold of that sum in a sandbox is worth. -/
noncomputable def Tryz.pinned : Pinned := { name := "ytcnmpiahcnkndaagreat", sum := "0988d46650008db8db906963f0933699b1a84959773161372be9361464e32635", checked := Tryz.checked }
namespace Rows
def none {H : Type} : Left H := { results := [], args := [] }

/-- 'tidelaw15.WindowKeeps': WHATEVER THE INPUT: true; the input reads as it did. -/
def windowKeepsSpec : ChangeSpec := { name := "windowKeeps", fn := fun _ => fun
  | [d1, d2, d3, d4, d5] => { results := [.lit (.bool true)], args := [d1, d2, d3, d4, d5] }
  | _ => none }
def windowKeepsRow : OpenClaim := { program := "ytcnmpiahcnkndaagreat", sum := "0988d46650008db8db906963f0933699b1a84959773161372be9361464e32635", func := "tidemark/tidelaw15.WindowKeeps", spec := "windowKeeps", unfollowed := true, recurses := true, loops := true, apart := false }
def WindowKeepsSaid : Prop := windowKeepsRow.holds Tryz.pinned (OpenSpec.ofChange windowKeepsSpec)

/-- ITS FALSE NEIGHBOUR: 'it returns false'. Refute it at one input. -/
def windowKeepsWrong : ChangeSpec := { name := "windowKeeps", fn := fun _ => fun
  | [d1, d2, d3, d4, d5] => { results := [.lit (.bool false)], args := [d1, d2, d3, d4, d5] }
  | _ => none }
def WindowKeepsWrongFalsely : Prop := windowKeepsRow.holds Tryz.pinned (OpenSpec.ofChange windowKeepsWrong)

/-- 'tidelaw15.WindowNumbers': WHATEVER THE INPUT: true; the input reads as it did. -/
def windowNumbersSpec : ChangeSpec := { name := "windowNumbers", fn := fun _ => fun
  | [d1, d2, d3] => { results := [.lit (.bool true)], args := [d1, d2, d3] }
  | _ => none }
def windowNumbersRow : OpenClaim := { program := "ytcnmpiahcnkndaagreat", sum := "0988d46650008db8db906963f0933699b1a84959773161372be9361464e32635", func := "tidemark/tidelaw15.WindowNumbers", spec := "windowNumbers", unfollowed := true, recurses := true, loops := true, apart := false }
def WindowNumbersSaid : Prop := windowNumbersRow.holds Tryz.pinned (OpenSpec.ofChange windowNumbersSpec)

/-- ITS FALSE NEIGHBOUR: 'it returns false'. Refute it at one input. -/
def windowNumbersWrong : ChangeSpec := { name := "windowNumbers", fn := fun _ => fun
  | [d1, d2, d3] => { results := [.lit (.bool false)], args := [d1, d2, d3] }
  | _ => none }
def WindowNumbersWrongFalsely : Prop := windowNumbersRow.holds Tryz.pinned (OpenSpec.ofChange windowNumbersWrong)

/-- 'tidelaw15.WindowParts': WHATEVER THE INPUT: true; the input reads as it did. -/
def windowPartsSpec : ChangeSpec := { name := "windowParts", fn := fun _ => fun
  | [d1, d2, d3, d4, d5, d6] => { results := [.lit (.bool true)], args := [d1, d2, d3, d4, d5, d6] }
  | _ => none }
def windowPartsRow : OpenClaim := { program := "ytcnmpiahcnkndaagreat", sum := "0988d46650008db8db906963f0933699b1a84959773161372be9361464e32635", func := "tidemark/tidelaw15.WindowParts", spec := "windowParts", unfollowed := true, recurses := true, loops := true, apart := false }
def WindowPartsSaid : Prop := windowPartsRow.holds Tryz.pinned (OpenSpec.ofChange windowPartsSpec)

/-- ITS FALSE NEIGHBOUR: 'it returns false'. Refute it at one input. -/
def windowPartsWrong : ChangeSpec := { name := "windowParts", fn := fun _ => fun
  | [d1, d2, d3, d4, d5, d6] => { results := [.lit (.bool false)], args := [d1, d2, d3, d4, d5, d6] }
  | _ => none }
def WindowPartsWrongFalsely : Prop := windowPartsRow.holds Tryz.pinned (OpenSpec.ofChange windowPartsWrong)

/-- 'tidelaw15.WindowLast': WHATEVER THE INPUT: true; the input reads as it did. -/
def windowLastSpec : ChangeSpec := { name := "windowLast", fn := fun _ => fun
  | [d1, d2, d3, d4] => { results := [.lit (.bool true)], args := [d1, d2, d3, d4] }
  | _ => none }
def windowLastRow : OpenClaim := { program := "ytcnmpiahcnkndaagreat", sum := "0988d46650008db8db906963f0933699b1a84959773161372be9361464e32635", func := "tidemark/tidelaw15.WindowLast", spec := "windowLast", unfollowed := true, recurses := true, loops := true, apart := false }
def WindowLastSaid : Prop := windowLastRow.holds Tryz.pinned (OpenSpec.ofChange windowLastSpec)

/-- ITS FALSE NEIGHBOUR: 'it returns false'. Refute it at one input. -/
def windowLastWrong : ChangeSpec := { name := "windowLast", fn := fun _ => fun
  | [d1, d2, d3, d4] => { results := [.lit (.bool false)], args := [d1, d2, d3, d4] }
  | _ => none }
def WindowLastWrongFalsely : Prop := windowLastRow.holds Tryz.pinned (OpenSpec.ofChange windowLastWrong)

/-- 'tidelaw15.WindowTells': WHATEVER THE INPUT: true; the input reads as it did. -/
def windowTellsSpec : ChangeSpec := { name := "windowTells", fn := fun _ => fun
  | [d1, d2, d3, d4, d5] => { results := [.lit (.bool true)], args := [d1, d2, d3, d4, d5] }
  | _ => none }
def windowTellsRow : OpenClaim := { program := "ytcnmpiahcnkndaagreat", sum := "0988d46650008db8db906963f0933699b1a84959773161372be9361464e32635", func := "tidemark/tidelaw15.WindowTells", spec := "windowTells", unfollowed := true, recurses := true, loops := true, apart := false }
def WindowTellsSaid : Prop := windowTellsRow.holds Tryz.pinned (OpenSpec.ofChange windowTellsSpec)

/-- ITS FALSE NEIGHBOUR: 'it returns false'. Refute it at one input. -/
def windowTellsWrong : ChangeSpec := { name := "windowTells", fn := fun _ => fun
  | [d1, d2, d3, d4, d5] => { results := [.lit (.bool false)], args := [d1, d2, d3, d4, d5] }
  | _ => none }
def WindowTellsWrongFalsely : Prop := windowTellsRow.holds Tryz.pinned (OpenSpec.ofChange windowTellsWrong)

/- THE SECOND FORM. 'bulk': how many values and letters a reading holds, each counted each time it is reached (what is shared counts as often as it is met; a slice's spare places count too). A statement '..UptoSaid' is the law's where the arguments, and the package variables that the reading takes, are together of bulk at most 1048576: NARROWER than '..Said'. Prove '..Said' where nothing that the law and all that it calls make is longer than what came in: it says more and counts as full. Else prove '..UptoSaid'. A law counts once. -/
mutual
def uptoBulk {H : Type} : DataW H → Nat
  | .lit (.string bytes) => bytes.length + 1
  | .lit _ => 1
  | .nil => 1
  | .ptr d => uptoBulk d + 1
  | .slice elems spare => uptoBulkAll elems + uptoBulkAll spare + 1
  | .agg parts => uptoBulkAll parts + 1
  | .iface _ d => uptoBulk d + 1
  | .map entries => uptoBulkEntries entries + 1
  | .held _ => 1
def uptoBulkAll {H : Type} : List (DataW H) → Nat
  | [] => 0
  | d :: r => uptoBulk d + uptoBulkAll r
def uptoBulkEntries {H : Type} : List (Lit × DataW H) → Nat
  | [] => 0
  | x :: r => uptoBulkEntry x + uptoBulkEntries r
def uptoBulkEntry {H : Type} : Lit × DataW H → Nat
  | (.string bytes, d) => bytes.length + uptoBulk d + 1
  | (_, d) => uptoBulk d + 1
 end
def uptoSmall : (H : Type) → List (DataW H) → Bool := fun _ ds => decide (uptoBulkAll ds ≤ 1048576)
def OpenSpec.upto (s : _root_.Go.ChangeSpec) : _root_.Go.OpenSpec := { _root_.Go.OpenSpec.ofChange s with cond := some uptoSmall }

/-- 'tidelaw15.WindowKeeps', WHERE WHAT IT READS IS OF BULK AT MOST 1048576: true; the input reads as it did. -/
def windowKeepsUptoRow : OpenClaim := { program := "ytcnmpiahcnkndaagreat", sum := "0988d46650008db8db906963f0933699b1a84959773161372be9361464e32635", func := "tidemark/tidelaw15.WindowKeeps", spec := "windowKeeps", unfollowed := true, recurses := true, loops := true, apart := false, narrowed := true }
def WindowKeepsUptoSaid : Prop := windowKeepsUptoRow.holds Tryz.pinned (OpenSpec.upto windowKeepsSpec)

/-- 'tidelaw15.WindowNumbers', WHERE WHAT IT READS IS OF BULK AT MOST 1048576: true; the input reads as it did. -/
def windowNumbersUptoRow : OpenClaim := { program := "ytcnmpiahcnkndaagreat", sum := "0988d46650008db8db906963f0933699b1a84959773161372be9361464e32635", func := "tidemark/tidelaw15.WindowNumbers", spec := "windowNumbers", unfollowed := true, recurses := true, loops := true, apart := false, narrowed := true }
def WindowNumbersUptoSaid : Prop := windowNumbersUptoRow.holds Tryz.pinned (OpenSpec.upto windowNumbersSpec)

/-- 'tidelaw15.WindowParts', WHERE WHAT IT READS IS OF BULK AT MOST 1048576: true; the input reads as it did. -/
def windowPartsUptoRow : OpenClaim := { program := "ytcnmpiahcnkndaagreat", sum := "0988d46650008db8db906963f0933699b1a84959773161372be9361464e32635", func := "tidemark/tidelaw15.WindowParts", spec := "windowParts", unfollowed := true, recurses := true, loops := true, apart := false, narrowed := true }
def WindowPartsUptoSaid : Prop := windowPartsUptoRow.holds Tryz.pinned (OpenSpec.upto windowPartsSpec)

/-- 'tidelaw15.WindowLast', WHERE WHAT IT READS IS OF BULK AT MOST 1048576: true; the input reads as it did. -/
def windowLastUptoRow : OpenClaim := { program := "ytcnmpiahcnkndaagreat", sum := "0988d46650008db8db906963f0933699b1a84959773161372be9361464e32635", func := "tidemark/tidelaw15.WindowLast", spec := "windowLast", unfollowed := true, recurses := true, loops := true, apart := false, narrowed := true }
def WindowLastUptoSaid : Prop := windowLastUptoRow.holds Tryz.pinned (OpenSpec.upto windowLastSpec)

/-- 'tidelaw15.WindowTells', WHERE WHAT IT READS IS OF BULK AT MOST 1048576: true; the input reads as it did. -/
def windowTellsUptoRow : OpenClaim := { program := "ytcnmpiahcnkndaagreat", sum := "0988d46650008db8db906963f0933699b1a84959773161372be9361464e32635", func := "tidemark/tidelaw15.WindowTells", spec := "windowTells", unfollowed := true, recurses := true, loops := true, apart := false, narrowed := true }
def WindowTellsUptoSaid : Prop := windowTellsUptoRow.holds Tryz.pinned (OpenSpec.upto windowTellsSpec)

end Rows
end Go.Proofs.YtcnmpiahcnkndaaGreat
