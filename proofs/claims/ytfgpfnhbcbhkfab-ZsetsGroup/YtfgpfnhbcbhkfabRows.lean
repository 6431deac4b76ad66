/-
  No cell of these rows narrows 'for every input' (looked for: loops, veiled, ifaces, maps, wideKeys, modest, calm, conditions, laid).
  DERIVED. THE GIVEN ROWS OF THIS SEAT. 6 by the template 'for every input the law returns true; each argument reads behind the call as it read before'; 0 by the template 'total and deterministic' (their statements: YtfgpfnhbcbhkfabTotals.lean).
  GIVEN WITH THE SEED: the statements are not yours to turn. If you find one false, say at which input.
  Laid BY PROGRAM, IN A SANDBOX (cutbox-rows.mjs): the forced cells as the released guide's own fill.sh prints them over the translation b6c0682aca82e797… (all of the seat's roots in one cut). By AI agents, Wed Nov 11 2026. No macro, syntax, notation, axiom, sorry.
-/
import Derived.Test.YtfgpfnhbcbhkfabChecked
import GoSem.Claim
import GoSem.ClaimJoined
import GoSem.ClaimMapViews
import Derived.JoinedTies
import Derived.KernelRfl
namespace Go.Proofs.Ytfgpfnhbcbhkfab
/- THE CELL 'sum', in the pinned program and in every row, IS THE sha256 OF THE DUMP (.gsa) THAT YtfgpfnhbcbhkfabProg.lean LOADS. Nothing in Lean hashes anything: it is a label: what it is worth is what the hold of that sum in a sandbox is worth. -/
noncomputable def Try.pinned : Pinned := { name := "ytfgpfnhbcbhkfab", sum := "b6c0682aca82e7971a526e8fed6b2ee5f3d2bde885a5245c190e23d888d48161", checked := Try.checked }
namespace Rows
def none {H : Type} : Left H := { results := [], args := [] }

/-- 'tidelaw2.ZsetsTell': WHATEVER THE INPUT: true; the input reads as it did. -/
def zsetsTellSpec : ChangeSpec := { name := "zsetsTell", fn := fun _ => fun
  | [d1, d2] => { results := [.lit (.bool true)], args := [d1, d2] }
  | _ => none }
def zsetsTellRow : OpenClaim := { program := "ytfgpfnhbcbhkfab", sum := "b6c0682aca82e7971a526e8fed6b2ee5f3d2bde885a5245c190e23d888d48161", func := "tidemark/tidelaw2.ZsetsTell", spec := "zsetsTell", unfollowed := true, recurses := true, apart := false }
def ZsetsTellSaid : Prop := zsetsTellRow.holds Try.pinned (OpenSpec.ofChange zsetsTellSpec)

/-- ITS FALSE NEIGHBOUR: 'it returns false'. Refute it at one input. -/
def zsetsTellWrong : ChangeSpec := { name := "zsetsTell", fn := fun _ => fun
  | [d1, d2] => { results := [.lit (.bool false)], args := [d1, d2] }
  | _ => none }
def ZsetsTellWrongFalsely : Prop := zsetsTellRow.holds Try.pinned (OpenSpec.ofChange zsetsTellWrong)

/-- 'tidelaw2.ZsetsReckon': WHATEVER THE INPUT: true; the input reads as it did. -/
def zsetsReckonSpec : ChangeSpec := { name := "zsetsReckon", fn := fun _ => fun
  | [d1, d2] => { results := [.lit (.bool true)], args := [d1, d2] }
  | _ => none }
def zsetsReckonRow : OpenClaim := { program := "ytfgpfnhbcbhkfab", sum := "b6c0682aca82e7971a526e8fed6b2ee5f3d2bde885a5245c190e23d888d48161", func := "tidemark/tidelaw2.ZsetsReckon", spec := "zsetsReckon", unfollowed := true, recurses := true, apart := false }
def ZsetsReckonSaid : Prop := zsetsReckonRow.holds Try.pinned (OpenSpec.ofChange zsetsReckonSpec)

/-- ITS FALSE NEIGHBOUR: 'it returns false'. Refute it at one input. -/
def zsetsReckonWrong : ChangeSpec := { name := "zsetsReckon", fn := fun _ => fun
  | [d1, d2] => { results := [.lit (.bool false)], args := [d1, d2] }
  | _ => none }
def ZsetsReckonWrongFalsely : Prop := zsetsReckonRow.holds Try.pinned (OpenSpec.ofChange zsetsReckonWrong)

/-- 'tidelaw2.ZsetsGroup': WHATEVER THE INPUT: true; the input reads as it did. -/
def zsetsGroupSpec : ChangeSpec := { name := "zsetsGroup", fn := fun _ => fun
  | [d1, d2, d3] => { results := [.lit (.bool true)], args := [d1, d2, d3] }
  | _ => none }
def zsetsGroupRow : OpenClaim := { program := "ytfgpfnhbcbhkfab", sum := "b6c0682aca82e7971a526e8fed6b2ee5f3d2bde885a5245c190e23d888d48161", func := "tidemark/tidelaw2.ZsetsGroup", spec := "zsetsGroup", unfollowed := true, recurses := true, apart := false }
def ZsetsGroupSaid : Prop := zsetsGroupRow.holds Try.pinned (OpenSpec.ofChange zsetsGroupSpec)

/-- ITS FALSE NEIGHBOUR: 'it returns false'. Refute it at one input. -/
def zsetsGroupWrong : ChangeSpec := { name := "zsetsGroup", fn := fun _ => fun
  | [d1, d2, d3] => { results := [.lit (.bool false)], args := [d1, d2, d3] }
  | _ => none }
def ZsetsGroupWrongFalsely : Prop := zsetsGroupRow.holds Try.pinned (OpenSpec.ofChange zsetsGroupWrong)

/-- 'tidelaw2.ZsetsPlaces': WHATEVER THE INPUT: true; the input reads as it did. -/
def zsetsPlacesSpec : ChangeSpec := { name := "zsetsPlaces", fn := fun _ => fun
  | [d1, d2, d3] => { results := [.lit (.bool true)], args := [d1, d2, d3] }
  | _ => none }
def zsetsPlacesRow : OpenClaim := { program := "ytfgpfnhbcbhkfab", sum := "b6c0682aca82e7971a526e8fed6b2ee5f3d2bde885a5245c190e23d888d48161", func := "tidemark/tidelaw2.ZsetsPlaces", spec := "zsetsPlaces", unfollowed := true, recurses := true, apart := false }
def ZsetsPlacesSaid : Prop := zsetsPlacesRow.holds Try.pinned (OpenSpec.ofChange zsetsPlacesSpec)

/-- ITS FALSE NEIGHBOUR: 'it returns false'. Refute it at one input. -/
def zsetsPlacesWrong : ChangeSpec := { name := "zsetsPlaces", fn := fun _ => fun
  | [d1, d2, d3] => { results := [.lit (.bool false)], args := [d1, d2, d3] }
  | _ => none }
def ZsetsPlacesWrongFalsely : Prop := zsetsPlacesRow.holds Try.pinned (OpenSpec.ofChange zsetsPlacesWrong)

/-- 'tidelaw2.ZsetsForm': WHATEVER THE INPUT: true; the input reads as it did. -/
def zsetsFormSpec : ChangeSpec := { name := "zsetsForm", fn := fun _ => fun
  | [d1, d2] => { results := [.lit (.bool true)], args := [d1, d2] }
  | _ => none }
def zsetsFormRow : OpenClaim := { program := "ytfgpfnhbcbhkfab", sum := "b6c0682aca82e7971a526e8fed6b2ee5f3d2bde885a5245c190e23d888d48161", func := "tidemark/tidelaw2.ZsetsForm", spec := "zsetsForm", unfollowed := true, recurses := true, apart := false }
def ZsetsFormSaid : Prop := zsetsFormRow.holds Try.pinned (OpenSpec.ofChange zsetsFormSpec)

/-- ITS FALSE NEIGHBOUR: 'it returns false'. Refute it at one input. -/
def zsetsFormWrong : ChangeSpec := { name := "zsetsForm", fn := fun _ => fun
  | [d1, d2] => { results := [.lit (.bool false)], args := [d1, d2] }
  | _ => none }
def ZsetsFormWrongFalsely : Prop := zsetsFormRow.holds Try.pinned (OpenSpec.ofChange zsetsFormWrong)

/-- 'tidelaw2.ZsetsOnce': WHATEVER THE INPUT: true; the input reads as it did. -/
def zsetsOnceSpec : ChangeSpec := { name := "zsetsOnce", fn := fun _ => fun
  | [d] => { results := [.lit (.bool true)], args := [d] }
  | _ => none }
def zsetsOnceRow : OpenClaim := { program := "ytfgpfnhbcbhkfab", sum := "b6c0682aca82e7971a526e8fed6b2ee5f3d2bde885a5245c190e23d888d48161", func := "tidemark/tidelaw2.ZsetsOnce", spec := "zsetsOnce", unfollowed := true, recurses := true, apart := false }
def ZsetsOnceSaid : Prop := zsetsOnceRow.holds Try.pinned (OpenSpec.ofChange zsetsOnceSpec)

/-- ITS FALSE NEIGHBOUR: 'it returns false'. Refute it at one input. -/
def zsetsOnceWrong : ChangeSpec := { name := "zsetsOnce", fn := fun _ => fun
  | [d] => { results := [.lit (.bool false)], args := [d] }
  | _ => none }
def ZsetsOnceWrongFalsely : Prop := zsetsOnceRow.holds Try.pinned (OpenSpec.ofChange zsetsOnceWrong)

/- THE SECOND FORM. 'bulk': how many values and letters a reading holds, each counted each time it is reached (what is shared counts as often as it is met; a slice's spare places count too). A statement '..UptoSaid' is the law's where the arguments, and the package variables that the reading takes, are together of bulk at most 1048576: NARROWER than '..Said'. Prove '..Said' where nothing that the law and all that it calls make is longer than what came in: it says more and counts as full. Else prove '..UptoSaid'. A law counts once. -/
mutual
def uptoBulk {H : Type} : DataW H → Nat
  | .lit (.string bytes) => bytes.length + 1
  | .lit _ => 1
  | .nil => 1
  | .ptr d => uptoBulk d + 1
  | .slice elems spare => uptoBulkAll elems + uptoBulkAll spare + 1
  | .agg parts => uptoBulkAll parts + 1
  | .iface _ d => uptoBulk d + 1
  | .map entries => uptoBulkEntries entries + 1
  | .held _ => 1
def uptoBulkAll {H : Type} : List (DataW H) → Nat
  | [] => 0
  | d :: r => uptoBulk d + uptoBulkAll r
def uptoBulkEntries {H : Type} : List (Lit × DataW H) → Nat
  | [] => 0
  | x :: r => uptoBulkEntry x + uptoBulkEntries r
def uptoBulkEntry {H : Type} : Lit × DataW H → Nat
  | (.string bytes, d) => bytes.length + uptoBulk d + 1
  | (_, d) => uptoBulk d + 1
 end
def uptoSmall : (H : Type) → List (DataW H) → Bool := fun _ ds => decide (uptoBulkAll ds ≤ 1048576)
def OpenSpec.upto (s : _root_.Go.ChangeSpec) : _root_.Go.OpenSpec := { _root_.Go.OpenSpec.ofChange s with cond := some uptoSmall }

/-- 'tidelaw2.ZsetsTell', WHERE WHAT IT READS IS OF BULK AT MOST 1048576: true; the input reads as it did. -/
def zsetsTellUptoRow : OpenClaim := { program := "ytfgpfnhbcbhkfab", sum := "b6c0682aca82e7971a526e8fed6b2ee5f3d2bde885a5245c190e23d888d48161", func := "tidemark/tidelaw2.ZsetsTell", spec := "zsetsTell", unfollowed := true, recurses := true, apart := false, narrowed := true }
def ZsetsTellUptoSaid : Prop := zsetsTellUptoRow.holds Try.pinned (OpenSpec.upto zsetsTellSpec)

/-- 'tidelaw2.ZsetsReckon', WHERE WHAT IT READS IS OF BULK AT MOST 1048576: true; the input reads as it did. -/
def zsetsReckonUptoRow : OpenClaim := { program := "ytfgpfnhbcbhkfab", sum := "b6c0682aca82e7971a526e8fed6b2ee5f3d2bde885a5245c190e23d888d48161", func := "tidemark/tidelaw2.ZsetsReckon", spec := "zsetsReckon", unfollowed := true, recurses := true, apart := false, narrowed := true }
def ZsetsReckonUptoSaid : Prop := zsetsReckonUptoRow.holds Try.pinned (OpenSpec.upto zsetsReckonSpec)

/-- 'tidelaw2.ZsetsGroup', WHERE WHAT IT READS IS OF BULK AT MOST 1048576: true; the input reads as it did. -/
def zsetsGroupUptoRow : OpenClaim := { program := "ytfgpfnhbcbhkfab", sum := "b6c0682aca82e7971a526e8fed6b2ee5f3d2bde885a5245c190e23d888d48161", func := "tidemark/tidelaw2.ZsetsGroup", spec := "zsetsGroup", unfollowed := true, recurses := true, apart := false, narrowed := true }
def ZsetsGroupUptoSaid : Prop := zsetsGroupUptoRow.holds Try.pinned (OpenSpec.upto zsetsGroupSpec)

/-- 'tidelaw2.ZsetsPlaces', WHERE WHAT IT READS IS OF BULK AT MOST 1048576: true; the input reads as it did. -/
def zsetsPlacesUptoRow : OpenClaim := { program := "ytfgpfnhbcbhkfab", sum := "b6c0682aca82e7971a526e8fed6b2ee5f3d2bde885a5245c190e23d888d48161", func := "tidemark/tidelaw2.ZsetsPlaces", spec := "zsetsPlaces", unfollowed := true, recurses := true, apart := false, narrowed := true }
def ZsetsPlacesUptoSaid : Prop := zsetsPlacesUptoRow.holds Try.pinned (OpenSpec.upto zsetsPlacesSpec)

/-- 'tidelaw2.ZsetsForm', WHERE WHAT IT READS IS OF BULK AT MOST 1048576: true; the input reads as it did. -/
def zsetsFormUptoRow : OpenClaim := { program := "ytfgpfnhbcbhkfab", sum := "b6c0682aca82e7971a526e8fed6b2ee5f3d2bde885a5245c190e23d888d48161", func := "tidemark/tidelaw2.ZsetsForm", spec := "zsetsForm", unfollowed := true, recurses := true, apart := false, narrowed := true }
def ZsetsFormUptoSaid : Prop := zsetsFormUptoRow.holds Try.pinned (OpenSpec.upto zsetsFormSpec)

/-- 'tidelaw2.ZsetsOnce', WHERE WHAT IT READS IS OF BULK AT MOST 1048576: true; the input reads as it did. -/
def zsetsOnceUptoRow : OpenClaim := { program := "ytfgpfnhbcbhkfab", sum := "b6c0682aca82e7971a526e8fed6b2ee5f3d2bde885a5245c190e23d888d48161", func := "tidemark/tidelaw2.ZsetsOnce", spec := "zsetsOnce", unfollowed := true, recurses := true, apart := false, narrowed := true }
def ZsetsOnceUptoSaid : Prop := zsetsOnceUptoRow.holds Try.pinned (OpenSpec.upto zsetsOnceSpec)

end Rows
end Go.Proofs.Ytfgpfnhbcbhkfab
