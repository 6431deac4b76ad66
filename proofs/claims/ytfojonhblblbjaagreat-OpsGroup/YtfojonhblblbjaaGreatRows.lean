/-
  NARROWER THAN 'FOR EVERY INPUT', by the rows' own cells (each row's printed sentence says how): OpsRows: loops · OpsPairs: loops · OpsGroup: loops · OpsLinear: loops · OpsBilinear: loops · OpsParted: loops.
  DERIVED. THE GIVEN ROWS OF THIS SEAT. 6 by the template 'for every input the law returns true; each argument reads behind the call as it read before'; 0 by the template 'total and deterministic' (their statements: YtfojonhblblbjaaGreatTotals.lean).
  GIVEN WITH THE SEED: the statements are not yours to turn. If you find one false, say at which input.
  Laid BY PROGRAM, IN A SANDBOX (cutbox-rows.mjs): the forced cells as the released guide's own fill.sh prints them over the translation a5ced3c0538c30a8… (all of the seat's roots in one cut). By AI agents, Wed Nov 11 2026. No macro, syntax, notation, axiom, sorry.
-/
import Derived.Test.YtfojonhblblbjaaGreatChecked
import GoSem.Claim
import GoSem.ClaimJoined
import GoSem.ClaimMapViews
import Derived.JoinedTies
import Derived.KernelRfl
namespace Go.Proofs.YtfojonhblblbjaaGreat
/- THE CELL 'sum', in the pinned program and in every row, IS THE sha256 OF THE DUMP (.gsa) THAT YtfojonhblblbjaaGreatProg.lean LOADS. Nothing in Lean hashes anything: it is a label: what it is worth is what the hold of that sum in a sandbox is worth. -/
noncomputable def Tryz.pinned : Pinned := { name := "ytfojonhblblbjaagreat", sum := "a5ced3c0538c30a8d2ca1c99586e0384d0bdab53e01cb55bc59b59a101a79650", checked := Tryz.checked }
namespace Rows
def none {H : Type} : Left H := { results := [], args := [] }

/-- 'tidelaw4.OpsRows': WHATEVER THE INPUT: true; the input reads as it did. -/
def opsRowsSpec : ChangeSpec := { name := "opsRows", fn := fun _ => fun
  | [d1, d2, d3, d4, d5] => { results := [.lit (.bool true)], args := [d1, d2, d3, d4, d5] }
  | _ => none }
def opsRowsRow : OpenClaim := { program := "ytfojonhblblbjaagreat", sum := "a5ced3c0538c30a8d2ca1c99586e0384d0bdab53e01cb55bc59b59a101a79650", func := "tidemark/tidelaw4.OpsRows", spec := "opsRows", unfollowed := true, recurses := true, loops := true, apart := false }
def OpsRowsSaid : Prop := opsRowsRow.holds Tryz.pinned (OpenSpec.ofChange opsRowsSpec)

/-- ITS FALSE NEIGHBOUR: 'it returns false'. Refute it at one input. -/
def opsRowsWrong : ChangeSpec := { name := "opsRows", fn := fun _ => fun
  | [d1, d2, d3, d4, d5] => { results := [.lit (.bool false)], args := [d1, d2, d3, d4, d5] }
  | _ => none }
def OpsRowsWrongFalsely : Prop := opsRowsRow.holds Tryz.pinned (OpenSpec.ofChange opsRowsWrong)

/-- 'tidelaw4.OpsPairs': WHATEVER THE INPUT: true; the input reads as it did. -/
def opsPairsSpec : ChangeSpec := { name := "opsPairs", fn := fun _ => fun
  | [d1, d2, d3, d4, d5] => { results := [.lit (.bool true)], args := [d1, d2, d3, d4, d5] }
  | _ => none }
def opsPairsRow : OpenClaim := { program := "ytfojonhblblbjaagreat", sum := "a5ced3c0538c30a8d2ca1c99586e0384d0bdab53e01cb55bc59b59a101a79650", func := "tidemark/tidelaw4.OpsPairs", spec := "opsPairs", unfollowed := true, recurses := true, loops := true, apart := false }
def OpsPairsSaid : Prop := opsPairsRow.holds Tryz.pinned (OpenSpec.ofChange opsPairsSpec)

/-- ITS FALSE NEIGHBOUR: 'it returns false'. Refute it at one input. -/
def opsPairsWrong : ChangeSpec := { name := "opsPairs", fn := fun _ => fun
  | [d1, d2, d3, d4, d5] => { results := [.lit (.bool false)], args := [d1, d2, d3, d4, d5] }
  | _ => none }
def OpsPairsWrongFalsely : Prop := opsPairsRow.holds Tryz.pinned (OpenSpec.ofChange opsPairsWrong)

/-- 'tidelaw4.OpsGroup': WHATEVER THE INPUT: true; the input reads as it did. -/
def opsGroupSpec : ChangeSpec := { name := "opsGroup", fn := fun _ => fun
  | [d1, d2, d3, d4] => { results := [.lit (.bool true)], args := [d1, d2, d3, d4] }
  | _ => none }
def opsGroupRow : OpenClaim := { program := "ytfojonhblblbjaagreat", sum := "a5ced3c0538c30a8d2ca1c99586e0384d0bdab53e01cb55bc59b59a101a79650", func := "tidemark/tidelaw4.OpsGroup", spec := "opsGroup", unfollowed := true, recurses := true, loops := true, apart := false }
def OpsGroupSaid : Prop := opsGroupRow.holds Tryz.pinned (OpenSpec.ofChange opsGroupSpec)

/-- ITS FALSE NEIGHBOUR: 'it returns false'. Refute it at one input. -/
def opsGroupWrong : ChangeSpec := { name := "opsGroup", fn := fun _ => fun
  | [d1, d2, d3, d4] => { results := [.lit (.bool false)], args := [d1, d2, d3, d4] }
  | _ => none }
def OpsGroupWrongFalsely : Prop := opsGroupRow.holds Tryz.pinned (OpenSpec.ofChange opsGroupWrong)

/-- 'tidelaw4.OpsLinear': WHATEVER THE INPUT: true; the input reads as it did. -/
def opsLinearSpec : ChangeSpec := { name := "opsLinear", fn := fun _ => fun
  | [d1, d2, d3, d4, d5] => { results := [.lit (.bool true)], args := [d1, d2, d3, d4, d5] }
  | _ => none }
def opsLinearRow : OpenClaim := { program := "ytfojonhblblbjaagreat", sum := "a5ced3c0538c30a8d2ca1c99586e0384d0bdab53e01cb55bc59b59a101a79650", func := "tidemark/tidelaw4.OpsLinear", spec := "opsLinear", unfollowed := true, recurses := true, loops := true, apart := false }
def OpsLinearSaid : Prop := opsLinearRow.holds Tryz.pinned (OpenSpec.ofChange opsLinearSpec)

/-- ITS FALSE NEIGHBOUR: 'it returns false'. Refute it at one input. -/
def opsLinearWrong : ChangeSpec := { name := "opsLinear", fn := fun _ => fun
  | [d1, d2, d3, d4, d5] => { results := [.lit (.bool false)], args := [d1, d2, d3, d4, d5] }
  | _ => none }
def OpsLinearWrongFalsely : Prop := opsLinearRow.holds Tryz.pinned (OpenSpec.ofChange opsLinearWrong)

/-- 'tidelaw4.OpsBilinear': WHATEVER THE INPUT: true; the input reads as it did. -/
def opsBilinearSpec : ChangeSpec := { name := "opsBilinear", fn := fun _ => fun
  | [d1, d2, d3, d4, d5, d6, d7] => { results := [.lit (.bool true)], args := [d1, d2, d3, d4, d5, d6, d7] }
  | _ => none }
def opsBilinearRow : OpenClaim := { program := "ytfojonhblblbjaagreat", sum := "a5ced3c0538c30a8d2ca1c99586e0384d0bdab53e01cb55bc59b59a101a79650", func := "tidemark/tidelaw4.OpsBilinear", spec := "opsBilinear", unfollowed := true, recurses := true, loops := true, apart := false }
def OpsBilinearSaid : Prop := opsBilinearRow.holds Tryz.pinned (OpenSpec.ofChange opsBilinearSpec)

/-- ITS FALSE NEIGHBOUR: 'it returns false'. Refute it at one input. -/
def opsBilinearWrong : ChangeSpec := { name := "opsBilinear", fn := fun _ => fun
  | [d1, d2, d3, d4, d5, d6, d7] => { results := [.lit (.bool false)], args := [d1, d2, d3, d4, d5, d6, d7] }
  | _ => none }
def OpsBilinearWrongFalsely : Prop := opsBilinearRow.holds Tryz.pinned (OpenSpec.ofChange opsBilinearWrong)

/-- 'tidelaw4.OpsParted': WHATEVER THE INPUT: true; the input reads as it did. -/
def opsPartedSpec : ChangeSpec := { name := "opsParted", fn := fun _ => fun
  | [d1, d2, d3, d4, d5] => { results := [.lit (.bool true)], args := [d1, d2, d3, d4, d5] }
  | _ => none }
def opsPartedRow : OpenClaim := { program := "ytfojonhblblbjaagreat", sum := "a5ced3c0538c30a8d2ca1c99586e0384d0bdab53e01cb55bc59b59a101a79650", func := "tidemark/tidelaw4.OpsParted", spec := "opsParted", unfollowed := true, recurses := true, loops := true, apart := false }
def OpsPartedSaid : Prop := opsPartedRow.holds Tryz.pinned (OpenSpec.ofChange opsPartedSpec)

/-- ITS FALSE NEIGHBOUR: 'it returns false'. Refute it at one input. -/
def opsPartedWrong : ChangeSpec := { name := "opsParted", fn := fun _ => fun
  | [d1, d2, d3, d4, d5] => { results := [.lit (.bool false)], args := [d1, d2, d3, d4, d5] }
  | _ => none }
def OpsPartedWrongFalsely : Prop := opsPartedRow.holds Tryz.pinned (OpenSpec.ofChange opsPartedWrong)

/- THE SECOND FORM. 'bulk': how many values and letters a reading holds, each counted each time it is reached (what is shared counts as often as it is met; a slice's spare places count too). A statement '..UptoSaid' is the law's where the arguments, and the package variables that the reading takes, are together of bulk at most 1048576: NARROWER than '..Said'. Prove '..Said' where nothing that the law and all that it calls make is longer than what came in: it says more and counts as full. Else prove '..UptoSaid'. A law counts once. -/
mutual
def uptoBulk {H : Type} : DataW H → Nat
  | .lit (.string bytes) => bytes.length + 1
  | .lit _ => 1
  | .nil => 1
  | .ptr d => uptoBulk d + 1
  | .slice elems spare => uptoBulkAll elems + uptoBulkAll spare + 1
  | .agg parts => uptoBulkAll parts + 1
  | .iface _ d => uptoBulk d + 1
  | .map entries => uptoBulkEntries entries + 1
  | .held _ => 1
def uptoBulkAll {H : Type} : List (DataW H) → Nat
  | [] => 0
  | d :: r => uptoBulk d + uptoBulkAll r
def uptoBulkEntries {H : Type} : List (Lit × DataW H) → Nat
  | [] => 0
  | x :: r => uptoBulkEntry x + uptoBulkEntries r
def uptoBulkEntry {H : Type} : Lit × DataW H → Nat
  | (.string bytes, d) => bytes.length + uptoBulk d + 1
  | (_, d) => uptoBulk d + 1
 end
def uptoSmall : (H : Type) → List (DataW H) → Bool := fun _ ds => decide (uptoBulkAll ds ≤ 1048576)
def OpenSpec.upto (s : _root_.Go.ChangeSpec) : _root_.Go.OpenSpec := { _root_.Go.OpenSpec.ofChange s with cond := some uptoSmall }

/-- 'tidelaw4.OpsRows', WHERE WHAT IT READS IS OF BULK AT MOST 1048576: true; the input reads as it did. -/
def opsRowsUptoRow : OpenClaim := { program := "ytfojonhblblbjaagreat", sum := "a5ced3c0538c30a8d2ca1c99586e0384d0bdab53e01cb55bc59b59a101a79650", func := "tidemark/tidelaw4.OpsRows", spec := "opsRows", unfollowed := true, recurses := true, loops := true, apart := false, narrowed := true }
def OpsRowsUptoSaid : Prop := opsRowsUptoRow.holds Tryz.pinned (OpenSpec.upto opsRowsSpec)

/-- 'tidelaw4.OpsPairs', WHERE WHAT IT READS IS OF BULK AT MOST 1048576: true; the input reads as it did. -/
def opsPairsUptoRow : OpenClaim := { program := "ytfojonhblblbjaagreat", sum := "a5ced3c0538c30a8d2ca1c99586e0384d0bdab53e01cb55bc59b59a101a79650", func := "tidemark/tidelaw4.OpsPairs", spec := "opsPairs", unfollowed := true, recurses := true, loops := true, apart := false, narrowed := true }
def OpsPairsUptoSaid : Prop := opsPairsUptoRow.holds Tryz.pinned (OpenSpec.upto opsPairsSpec)

/-- 'tidelaw4.OpsGroup', WHERE WHAT IT READS IS OF BULK AT MOST 1048576: true; the input reads as it did. -/
def opsGroupUptoRow : OpenClaim := { program := "ytfojonhblblbjaagreat", sum := "a5ced3c0538c30a8d2ca1c99586e0384d0bdab53e01cb55bc59b59a101a79650", func := "tidemark/tidelaw4.OpsGroup", spec := "opsGroup", unfollowed := true, recurses := true, loops := true, apart := false, narrowed := true }
def OpsGroupUptoSaid : Prop := opsGroupUptoRow.holds Tryz.pinned (OpenSpec.upto opsGroupSpec)

/-- 'tidelaw4.OpsLinear', WHERE WHAT IT READS IS OF BULK AT MOST 1048576: true; the input reads as it did. -/
def opsLinearUptoRow : OpenClaim := { program := "ytfojonhblblbjaagreat", sum := "a5ced3c0538c30a8d2ca1c99586e0384d0bdab53e01cb55bc59b59a101a79650", func := "tidemark/tidelaw4.OpsLinear", spec := "opsLinear", unfollowed := true, recurses := true, loops := true, apart := false, narrowed := true }
def OpsLinearUptoSaid : Prop := opsLinearUptoRow.holds Tryz.pinned (OpenSpec.upto opsLinearSpec)

/-- 'tidelaw4.OpsBilinear', WHERE WHAT IT READS IS OF BULK AT MOST 1048576: true; the input reads as it did. -/
def opsBilinearUptoRow : OpenClaim := { program := "ytfojonhblblbjaagreat", sum := "a5ced3c0538c30a8d2ca1c99586e0384d0bdab53e01cb55bc59b59a101a79650", func := "tidemark/tidelaw4.OpsBilinear", spec := "opsBilinear", unfollowed := true, recurses := true, loops := true, apart := false, narrowed := true }
def OpsBilinearUptoSaid : Prop := opsBilinearUptoRow.holds Tryz.pinned (OpenSpec.upto opsBilinearSpec)

/-- 'tidelaw4.OpsParted', WHERE WHAT IT READS IS OF BULK AT MOST 1048576: true; the input reads as it did. -/
def opsPartedUptoRow : OpenClaim := { program := "ytfojonhblblbjaagreat", sum := "a5ced3c0538c30a8d2ca1c99586e0384d0bdab53e01cb55bc59b59a101a79650", func := "tidemark/tidelaw4.OpsParted", spec := "opsParted", unfollowed := true, recurses := true, loops := true, apart := false, narrowed := true }
def OpsPartedUptoSaid : Prop := opsPartedUptoRow.holds Tryz.pinned (OpenSpec.upto opsPartedSpec)

end Rows
end Go.Proofs.YtfojonhblblbjaaGreat
