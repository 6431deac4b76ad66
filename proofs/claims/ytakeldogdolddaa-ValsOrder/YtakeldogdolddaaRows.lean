/-
  No cell of these rows narrows 'for every input' (looked for: loops, veiled, ifaces, maps, wideKeys, modest, calm, conditions, laid).
  DERIVED. THE GIVEN ROWS OF THIS SEAT. 6 by the template 'for every input the law returns true; each argument reads behind the call as it read before'; 0 by the template 'total and deterministic' (their statements: YtakeldogdolddaaTotals.lean).
  GIVEN WITH THE SEED: the statements are not yours to turn. If you find one false, say at which input.
  Laid BY PROGRAM, IN A SANDBOX (cutbox-rows.mjs): the forced cells as the released guide's own fill.sh prints them over the translation 70c43a28e96b27ae… (all of the seat's roots in one cut). By AI agents, Wed Nov 11 2026. No macro, syntax, notation, axiom, sorry.
-/
import Derived.Test.YtakeldogdolddaaChecked
import GoSem.Claim
import GoSem.ClaimJoined
import GoSem.ClaimMapViews
import Derived.JoinedTies
import Derived.KernelRfl
namespace Go.Proofs.Ytakeldogdolddaa
/- THE CELL 'sum', in the pinned program and in every row, IS THE sha256 OF THE DUMP (.gsa) THAT YtakeldogdolddaaProg.lean LOADS. Nothing in Lean hashes anything: it is a label: what it is worth is what the hold of that sum in a sandbox is worth. -/
noncomputable def Try.pinned : Pinned := { name := "ytakeldogdolddaa", sum := "70c43a28e96b27aeaea66963a8fcd74722cc8210b9cda123062f8dc5d57b36a4", checked := Try.checked }
namespace Rows
def none {H : Type} : Left H := { results := [], args := [] }

/-- 'tidelaw1.ValsTell': WHATEVER THE INPUT: true; the input reads as it did. -/
def valsTellSpec : ChangeSpec := { name := "valsTell", fn := fun _ => fun
  | [d1, d2, d3] => { results := [.lit (.bool true)], args := [d1, d2, d3] }
  | _ => none }
def valsTellRow : OpenClaim := { program := "ytakeldogdolddaa", sum := "70c43a28e96b27aeaea66963a8fcd74722cc8210b9cda123062f8dc5d57b36a4", func := "tidemark/tidelaw1.ValsTell", spec := "valsTell", apart := false }
def ValsTellSaid : Prop := valsTellRow.holds Try.pinned (OpenSpec.ofChange valsTellSpec)

/-- ITS FALSE NEIGHBOUR: 'it returns false'. Refute it at one input. -/
def valsTellWrong : ChangeSpec := { name := "valsTell", fn := fun _ => fun
  | [d1, d2, d3] => { results := [.lit (.bool false)], args := [d1, d2, d3] }
  | _ => none }
def ValsTellWrongFalsely : Prop := valsTellRow.holds Try.pinned (OpenSpec.ofChange valsTellWrong)

/-- 'tidelaw1.ValsRows': WHATEVER THE INPUT: true; the input reads as it did. -/
def valsRowsSpec : ChangeSpec := { name := "valsRows", fn := fun _ => fun
  | [d1, d2] => { results := [.lit (.bool true)], args := [d1, d2] }
  | _ => none }
def valsRowsRow : OpenClaim := { program := "ytakeldogdolddaa", sum := "70c43a28e96b27aeaea66963a8fcd74722cc8210b9cda123062f8dc5d57b36a4", func := "tidemark/tidelaw1.ValsRows", spec := "valsRows", unfollowed := true, recurses := true, apart := false }
def ValsRowsSaid : Prop := valsRowsRow.holds Try.pinned (OpenSpec.ofChange valsRowsSpec)

/-- ITS FALSE NEIGHBOUR: 'it returns false'. Refute it at one input. -/
def valsRowsWrong : ChangeSpec := { name := "valsRows", fn := fun _ => fun
  | [d1, d2] => { results := [.lit (.bool false)], args := [d1, d2] }
  | _ => none }
def ValsRowsWrongFalsely : Prop := valsRowsRow.holds Try.pinned (OpenSpec.ofChange valsRowsWrong)

/-- 'tidelaw1.ValsLogic': WHATEVER THE INPUT: true; the input reads as it did. -/
def valsLogicSpec : ChangeSpec := { name := "valsLogic", fn := fun _ => fun
  | [d1, d2, d3] => { results := [.lit (.bool true)], args := [d1, d2, d3] }
  | _ => none }
def valsLogicRow : OpenClaim := { program := "ytakeldogdolddaa", sum := "70c43a28e96b27aeaea66963a8fcd74722cc8210b9cda123062f8dc5d57b36a4", func := "tidemark/tidelaw1.ValsLogic", spec := "valsLogic", unfollowed := true, recurses := true, apart := false }
def ValsLogicSaid : Prop := valsLogicRow.holds Try.pinned (OpenSpec.ofChange valsLogicSpec)

/-- ITS FALSE NEIGHBOUR: 'it returns false'. Refute it at one input. -/
def valsLogicWrong : ChangeSpec := { name := "valsLogic", fn := fun _ => fun
  | [d1, d2, d3] => { results := [.lit (.bool false)], args := [d1, d2, d3] }
  | _ => none }
def ValsLogicWrongFalsely : Prop := valsLogicRow.holds Try.pinned (OpenSpec.ofChange valsLogicWrong)

/-- 'tidelaw1.ValsKnows': WHATEVER THE INPUT: true; the input reads as it did. -/
def valsKnowsSpec : ChangeSpec := { name := "valsKnows", fn := fun _ => fun
  | [d1, d2] => { results := [.lit (.bool true)], args := [d1, d2] }
  | _ => none }
def valsKnowsRow : OpenClaim := { program := "ytakeldogdolddaa", sum := "70c43a28e96b27aeaea66963a8fcd74722cc8210b9cda123062f8dc5d57b36a4", func := "tidemark/tidelaw1.ValsKnows", spec := "valsKnows", unfollowed := true, recurses := true, apart := false }
def ValsKnowsSaid : Prop := valsKnowsRow.holds Try.pinned (OpenSpec.ofChange valsKnowsSpec)

/-- ITS FALSE NEIGHBOUR: 'it returns false'. Refute it at one input. -/
def valsKnowsWrong : ChangeSpec := { name := "valsKnows", fn := fun _ => fun
  | [d1, d2] => { results := [.lit (.bool false)], args := [d1, d2] }
  | _ => none }
def ValsKnowsWrongFalsely : Prop := valsKnowsRow.holds Try.pinned (OpenSpec.ofChange valsKnowsWrong)

/-- 'tidelaw1.ValsOrder': WHATEVER THE INPUT: true; the input reads as it did. -/
def valsOrderSpec : ChangeSpec := { name := "valsOrder", fn := fun _ => fun
  | [d1, d2, d3] => { results := [.lit (.bool true)], args := [d1, d2, d3] }
  | _ => none }
def valsOrderRow : OpenClaim := { program := "ytakeldogdolddaa", sum := "70c43a28e96b27aeaea66963a8fcd74722cc8210b9cda123062f8dc5d57b36a4", func := "tidemark/tidelaw1.ValsOrder", spec := "valsOrder", apart := false }
def ValsOrderSaid : Prop := valsOrderRow.holds Try.pinned (OpenSpec.ofChange valsOrderSpec)

/-- ITS FALSE NEIGHBOUR: 'it returns false'. Refute it at one input. -/
def valsOrderWrong : ChangeSpec := { name := "valsOrder", fn := fun _ => fun
  | [d1, d2, d3] => { results := [.lit (.bool false)], args := [d1, d2, d3] }
  | _ => none }
def ValsOrderWrongFalsely : Prop := valsOrderRow.holds Try.pinned (OpenSpec.ofChange valsOrderWrong)

/-- 'tidelaw1.ValsRing': WHATEVER THE INPUT: true; the input reads as it did. -/
def valsRingSpec : ChangeSpec := { name := "valsRing", fn := fun _ => fun
  | [d1, d2, d3] => { results := [.lit (.bool true)], args := [d1, d2, d3] }
  | _ => none }
def valsRingRow : OpenClaim := { program := "ytakeldogdolddaa", sum := "70c43a28e96b27aeaea66963a8fcd74722cc8210b9cda123062f8dc5d57b36a4", func := "tidemark/tidelaw1.ValsRing", spec := "valsRing", unfollowed := true, recurses := true, apart := false }
def ValsRingSaid : Prop := valsRingRow.holds Try.pinned (OpenSpec.ofChange valsRingSpec)

/-- ITS FALSE NEIGHBOUR: 'it returns false'. Refute it at one input. -/
def valsRingWrong : ChangeSpec := { name := "valsRing", fn := fun _ => fun
  | [d1, d2, d3] => { results := [.lit (.bool false)], args := [d1, d2, d3] }
  | _ => none }
def ValsRingWrongFalsely : Prop := valsRingRow.holds Try.pinned (OpenSpec.ofChange valsRingWrong)

/- THE SECOND FORM. 'bulk': how many values and letters a reading holds, each counted each time it is reached (what is shared counts as often as it is met; a slice's spare places count too). A statement '..UptoSaid' is the law's where the arguments, and the package variables that the reading takes, are together of bulk at most 1048576: NARROWER than '..Said'. Prove '..Said' where nothing that the law and all that it calls make is longer than what came in: it says more and counts as full. Else prove '..UptoSaid'. A law counts once. -/
mutual
def uptoBulk {H : Type} : DataW H → Nat
  | .lit (.string bytes) => bytes.length + 1
  | .lit _ => 1
  | .nil => 1
  | .ptr d => uptoBulk d + 1
  | .slice elems spare => uptoBulkAll elems + uptoBulkAll spare + 1
  | .agg parts => uptoBulkAll parts + 1
  | .iface _ d => uptoBulk d + 1
  | .map entries => uptoBulkEntries entries + 1
  | .held _ => 1
def uptoBulkAll {H : Type} : List (DataW H) → Nat
  | [] => 0
  | d :: r => uptoBulk d + uptoBulkAll r
def uptoBulkEntries {H : Type} : List (Lit × DataW H) → Nat
  | [] => 0
  | x :: r => uptoBulkEntry x + uptoBulkEntries r
def uptoBulkEntry {H : Type} : Lit × DataW H → Nat
  | (.string bytes, d) => bytes.length + uptoBulk d + 1
  | (_, d) => uptoBulk d + 1
 end
def uptoSmall : (H : Type) → List (DataW H) → Bool := fun _ ds => decide (uptoBulkAll ds ≤ 1048576)
def OpenSpec.upto (s : _root_.Go.ChangeSpec) : _root_.Go.OpenSpec := { _root_.Go.OpenSpec.ofChange s with cond := some uptoSmall }

/-- 'tidelaw1.ValsTell', WHERE WHAT IT READS IS OF BULK AT MOST 1048576: true; the input reads as it did. -/
def valsTellUptoRow : OpenClaim := { program := "ytakeldogdolddaa", sum := "70c43a28e96b27aeaea66963a8fcd74722cc8210b9cda123062f8dc5d57b36a4", func := "tidemark/tidelaw1.ValsTell", spec := "valsTell", apart := false, narrowed := true }
def ValsTellUptoSaid : Prop := valsTellUptoRow.holds Try.pinned (OpenSpec.upto valsTellSpec)

/-- 'tidelaw1.ValsRows', WHERE WHAT IT READS IS OF BULK AT MOST 1048576: true; the input reads as it did. -/
def valsRowsUptoRow : OpenClaim := { program := "ytakeldogdolddaa", sum := "70c43a28e96b27aeaea66963a8fcd74722cc8210b9cda123062f8dc5d57b36a4", func := "tidemark/tidelaw1.ValsRows", spec := "valsRows", unfollowed := true, recurses := true, apart := false, narrowed := true }
def ValsRowsUptoSaid : Prop := valsRowsUptoRow.holds Try.pinned (OpenSpec.upto valsRowsSpec)

/-- 'tidelaw1.ValsLogic', WHERE WHAT IT READS IS OF BULK AT MOST 1048576: true; the input reads as it did. -/
def valsLogicUptoRow : OpenClaim := { program := "ytakeldogdolddaa", sum := "70c43a28e96b27aeaea66963a8fcd74722cc8210b9cda123062f8dc5d57b36a4", func := "tidemark/tidelaw1.ValsLogic", spec := "valsLogic", unfollowed := true, recurses := true, apart := false, narrowed := true }
def ValsLogicUptoSaid : Prop := valsLogicUptoRow.holds Try.pinned (OpenSpec.upto valsLogicSpec)

/-- 'tidelaw1.ValsKnows', WHERE WHAT IT READS IS OF BULK AT MOST 1048576: true; the input reads as it did. -/
def valsKnowsUptoRow : OpenClaim := { program := "ytakeldogdolddaa", sum := "70c43a28e96b27aeaea66963a8fcd74722cc8210b9cda123062f8dc5d57b36a4", func := "tidemark/tidelaw1.ValsKnows", spec := "valsKnows", unfollowed := true, recurses := true, apart := false, narrowed := true }
def ValsKnowsUptoSaid : Prop := valsKnowsUptoRow.holds Try.pinned (OpenSpec.upto valsKnowsSpec)

/-- 'tidelaw1.ValsOrder', WHERE WHAT IT READS IS OF BULK AT MOST 1048576: true; the input reads as it did. -/
def valsOrderUptoRow : OpenClaim := { program := "ytakeldogdolddaa", sum := "70c43a28e96b27aeaea66963a8fcd74722cc8210b9cda123062f8dc5d57b36a4", func := "tidemark/tidelaw1.ValsOrder", spec := "valsOrder", apart := false, narrowed := true }
def ValsOrderUptoSaid : Prop := valsOrderUptoRow.holds Try.pinned (OpenSpec.upto valsOrderSpec)

/-- 'tidelaw1.ValsRing', WHERE WHAT IT READS IS OF BULK AT MOST 1048576: true; the input reads as it did. -/
def valsRingUptoRow : OpenClaim := { program := "ytakeldogdolddaa", sum := "70c43a28e96b27aeaea66963a8fcd74722cc8210b9cda123062f8dc5d57b36a4", func := "tidemark/tidelaw1.ValsRing", spec := "valsRing", unfollowed := true, recurses := true, apart := false, narrowed := true }
def ValsRingUptoSaid : Prop := valsRingUptoRow.holds Try.pinned (OpenSpec.upto valsRingSpec)

end Rows
end Go.Proofs.Ytakeldogdolddaa
