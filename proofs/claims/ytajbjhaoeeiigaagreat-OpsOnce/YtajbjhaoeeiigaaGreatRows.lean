/-
  NARROWER THAN 'FOR EVERY INPUT', by the rows' own cells (each row's printed sentence says how): OpsCounts: loops · OpsOnce: loops · QueryTells: loops · QueryTyped: loops · QueryPlaces: loops.
  DERIVED. THE GIVEN ROWS OF THIS SEAT. 6 by the template 'for every input the law returns true; each argument reads behind the call as it read before'; 0 by the template 'total and deterministic' (their statements: YtajbjhaoeeiigaaGreatTotals.lean).
  GIVEN WITH THE SEED: the statements are not yours to turn. If you find one false, say at which input.
  Laid BY PROGRAM, IN A SANDBOX (cutbox-rows.mjs): the forced cells as the released guide's own fill.sh prints them over the translation c061d9e045a6e373… (all of the seat's roots in one cut). By AI agents, Wed Nov 11 2026. No macro, syntax, notation, axiom, sorry.
-/
import Derived.Test.YtajbjhaoeeiigaaGreatChecked
import GoSem.Claim
import GoSem.ClaimJoined
import GoSem.ClaimMapViews
import Derived.JoinedTies
import Derived.KernelRfl
namespace Go.Proofs.YtajbjhaoeeiigaaGreat
/- THE CELL 'sum', in the pinned program and in every row, IS THE sha256 OF THE DUMP (.gsa) THAT YtajbjhaoeeiigaaGreatProg.lean LOADS. Nothing in Lean hashes anything: it is a label: what it is worth is what the hold of that sum in a sandbox is worth. -/
noncomputable def Tryz.pinned : Pinned := { name := "ytajbjhaoeeiigaagreat", sum := "c061d9e045a6e3739fb1f9991fcc24b832a40544144411754ab1e9c1bb8b1cbc", checked := Tryz.checked }
namespace Rows
def none {H : Type} : Left H := { results := [], args := [] }

/-- 'tidelaw4.OpsCounts': WHATEVER THE INPUT: true; the input reads as it did. -/
def opsCountsSpec : ChangeSpec := { name := "opsCounts", fn := fun _ => fun
  | [d1, d2, d3] => { results := [.lit (.bool true)], args := [d1, d2, d3] }
  | _ => none }
def opsCountsRow : OpenClaim := { program := "ytajbjhaoeeiigaagreat", sum := "c061d9e045a6e3739fb1f9991fcc24b832a40544144411754ab1e9c1bb8b1cbc", func := "tidemark/tidelaw4.OpsCounts", spec := "opsCounts", unfollowed := true, recurses := true, loops := true, apart := false }
def OpsCountsSaid : Prop := opsCountsRow.holds Tryz.pinned (OpenSpec.ofChange opsCountsSpec)

/-- ITS FALSE NEIGHBOUR: 'it returns false'. Refute it at one input. -/
def opsCountsWrong : ChangeSpec := { name := "opsCounts", fn := fun _ => fun
  | [d1, d2, d3] => { results := [.lit (.bool false)], args := [d1, d2, d3] }
  | _ => none }
def OpsCountsWrongFalsely : Prop := opsCountsRow.holds Tryz.pinned (OpenSpec.ofChange opsCountsWrong)

/-- 'tidelaw4.OpsFirst': WHATEVER THE INPUT: true; the input reads as it did. -/
def opsFirstSpec : ChangeSpec := { name := "opsFirst", fn := fun _ => fun
  | [d1, d2, d3, d4] => { results := [.lit (.bool true)], args := [d1, d2, d3, d4] }
  | _ => none }
def opsFirstRow : OpenClaim := { program := "ytajbjhaoeeiigaagreat", sum := "c061d9e045a6e3739fb1f9991fcc24b832a40544144411754ab1e9c1bb8b1cbc", func := "tidemark/tidelaw4.OpsFirst", spec := "opsFirst", unfollowed := true, recurses := true, apart := false }
def OpsFirstSaid : Prop := opsFirstRow.holds Tryz.pinned (OpenSpec.ofChange opsFirstSpec)

/-- ITS FALSE NEIGHBOUR: 'it returns false'. Refute it at one input. -/
def opsFirstWrong : ChangeSpec := { name := "opsFirst", fn := fun _ => fun
  | [d1, d2, d3, d4] => { results := [.lit (.bool false)], args := [d1, d2, d3, d4] }
  | _ => none }
def OpsFirstWrongFalsely : Prop := opsFirstRow.holds Tryz.pinned (OpenSpec.ofChange opsFirstWrong)

/-- 'tidelaw4.OpsOnce': WHATEVER THE INPUT: true; the input reads as it did. -/
def opsOnceSpec : ChangeSpec := { name := "opsOnce", fn := fun _ => fun
  | [d1, d2, d3, d4] => { results := [.lit (.bool true)], args := [d1, d2, d3, d4] }
  | _ => none }
def opsOnceRow : OpenClaim := { program := "ytajbjhaoeeiigaagreat", sum := "c061d9e045a6e3739fb1f9991fcc24b832a40544144411754ab1e9c1bb8b1cbc", func := "tidemark/tidelaw4.OpsOnce", spec := "opsOnce", unfollowed := true, recurses := true, loops := true, apart := false }
def OpsOnceSaid : Prop := opsOnceRow.holds Tryz.pinned (OpenSpec.ofChange opsOnceSpec)

/-- ITS FALSE NEIGHBOUR: 'it returns false'. Refute it at one input. -/
def opsOnceWrong : ChangeSpec := { name := "opsOnce", fn := fun _ => fun
  | [d1, d2, d3, d4] => { results := [.lit (.bool false)], args := [d1, d2, d3, d4] }
  | _ => none }
def OpsOnceWrongFalsely : Prop := opsOnceRow.holds Tryz.pinned (OpenSpec.ofChange opsOnceWrong)

/-- 'tidelaw5.QueryTells': WHATEVER THE INPUT: true; the input reads as it did. -/
def queryTellsSpec : ChangeSpec := { name := "queryTells", fn := fun _ => fun
  | [d1, d2, d3] => { results := [.lit (.bool true)], args := [d1, d2, d3] }
  | _ => none }
def queryTellsRow : OpenClaim := { program := "ytajbjhaoeeiigaagreat", sum := "c061d9e045a6e3739fb1f9991fcc24b832a40544144411754ab1e9c1bb8b1cbc", func := "tidemark/tidelaw5.QueryTells", spec := "queryTells", unfollowed := true, recurses := true, loops := true, apart := false }
def QueryTellsSaid : Prop := queryTellsRow.holds Tryz.pinned (OpenSpec.ofChange queryTellsSpec)

/-- ITS FALSE NEIGHBOUR: 'it returns false'. Refute it at one input. -/
def queryTellsWrong : ChangeSpec := { name := "queryTells", fn := fun _ => fun
  | [d1, d2, d3] => { results := [.lit (.bool false)], args := [d1, d2, d3] }
  | _ => none }
def QueryTellsWrongFalsely : Prop := queryTellsRow.holds Tryz.pinned (OpenSpec.ofChange queryTellsWrong)

/-- 'tidelaw5.QueryTyped': WHATEVER THE INPUT: true; the input reads as it did. -/
def queryTypedSpec : ChangeSpec := { name := "queryTyped", fn := fun _ => fun
  | [d1, d2, d3] => { results := [.lit (.bool true)], args := [d1, d2, d3] }
  | _ => none }
def queryTypedRow : OpenClaim := { program := "ytajbjhaoeeiigaagreat", sum := "c061d9e045a6e3739fb1f9991fcc24b832a40544144411754ab1e9c1bb8b1cbc", func := "tidemark/tidelaw5.QueryTyped", spec := "queryTyped", unfollowed := true, recurses := true, loops := true, apart := false }
def QueryTypedSaid : Prop := queryTypedRow.holds Tryz.pinned (OpenSpec.ofChange queryTypedSpec)

/-- ITS FALSE NEIGHBOUR: 'it returns false'. Refute it at one input. -/
def queryTypedWrong : ChangeSpec := { name := "queryTyped", fn := fun _ => fun
  | [d1, d2, d3] => { results := [.lit (.bool false)], args := [d1, d2, d3] }
  | _ => none }
def QueryTypedWrongFalsely : Prop := queryTypedRow.holds Tryz.pinned (OpenSpec.ofChange queryTypedWrong)

/-- 'tidelaw5.QueryPlaces': WHATEVER THE INPUT: true; the input reads as it did. -/
def queryPlacesSpec : ChangeSpec := { name := "queryPlaces", fn := fun _ => fun
  | [d1, d2, d3, d4, d5] => { results := [.lit (.bool true)], args := [d1, d2, d3, d4, d5] }
  | _ => none }
def queryPlacesRow : OpenClaim := { program := "ytajbjhaoeeiigaagreat", sum := "c061d9e045a6e3739fb1f9991fcc24b832a40544144411754ab1e9c1bb8b1cbc", func := "tidemark/tidelaw5.QueryPlaces", spec := "queryPlaces", unfollowed := true, recurses := true, loops := true, apart := false }
def QueryPlacesSaid : Prop := queryPlacesRow.holds Tryz.pinned (OpenSpec.ofChange queryPlacesSpec)

/-- ITS FALSE NEIGHBOUR: 'it returns false'. Refute it at one input. -/
def queryPlacesWrong : ChangeSpec := { name := "queryPlaces", fn := fun _ => fun
  | [d1, d2, d3, d4, d5] => { results := [.lit (.bool false)], args := [d1, d2, d3, d4, d5] }
  | _ => none }
def QueryPlacesWrongFalsely : Prop := queryPlacesRow.holds Tryz.pinned (OpenSpec.ofChange queryPlacesWrong)

/- THE SECOND FORM. 'bulk': how many values and letters a reading holds, each counted each time it is reached (what is shared counts as often as it is met; a slice's spare places count too). A statement '..UptoSaid' is the law's where the arguments, and the package variables that the reading takes, are together of bulk at most 1048576: NARROWER than '..Said'. Prove '..Said' where nothing that the law and all that it calls make is longer than what came in: it says more and counts as full. Else prove '..UptoSaid'. A law counts once. -/
mutual
def uptoBulk {H : Type} : DataW H → Nat
  | .lit (.string bytes) => bytes.length + 1
  | .lit _ => 1
  | .nil => 1
  | .ptr d => uptoBulk d + 1
  | .slice elems spare => uptoBulkAll elems + uptoBulkAll spare + 1
  | .agg parts => uptoBulkAll parts + 1
  | .iface _ d => uptoBulk d + 1
  | .map entries => uptoBulkEntries entries + 1
  | .held _ => 1
def uptoBulkAll {H : Type} : List (DataW H) → Nat
  | [] => 0
  | d :: r => uptoBulk d + uptoBulkAll r
def uptoBulkEntries {H : Type} : List (Lit × DataW H) → Nat
  | [] => 0
  | x :: r => uptoBulkEntry x + uptoBulkEntries r
def uptoBulkEntry {H : Type} : Lit × DataW H → Nat
  | (.string bytes, d) => bytes.length + uptoBulk d + 1
  | (_, d) => uptoBulk d + 1
 end
def uptoSmall : (H : Type) → List (DataW H) → Bool := fun _ ds => decide (uptoBulkAll ds ≤ 1048576)
def OpenSpec.upto (s : _root_.Go.ChangeSpec) : _root_.Go.OpenSpec := { _root_.Go.OpenSpec.ofChange s with cond := some uptoSmall }

/-- 'tidelaw4.OpsCounts', WHERE WHAT IT READS IS OF BULK AT MOST 1048576: true; the input reads as it did. -/
def opsCountsUptoRow : OpenClaim := { program := "ytajbjhaoeeiigaagreat", sum := "c061d9e045a6e3739fb1f9991fcc24b832a40544144411754ab1e9c1bb8b1cbc", func := "tidemark/tidelaw4.OpsCounts", spec := "opsCounts", unfollowed := true, recurses := true, loops := true, apart := false, narrowed := true }
def OpsCountsUptoSaid : Prop := opsCountsUptoRow.holds Tryz.pinned (OpenSpec.upto opsCountsSpec)

/-- 'tidelaw4.OpsFirst', WHERE WHAT IT READS IS OF BULK AT MOST 1048576: true; the input reads as it did. -/
def opsFirstUptoRow : OpenClaim := { program := "ytajbjhaoeeiigaagreat", sum := "c061d9e045a6e3739fb1f9991fcc24b832a40544144411754ab1e9c1bb8b1cbc", func := "tidemark/tidelaw4.OpsFirst", spec := "opsFirst", unfollowed := true, recurses := true, apart := false, narrowed := true }
def OpsFirstUptoSaid : Prop := opsFirstUptoRow.holds Tryz.pinned (OpenSpec.upto opsFirstSpec)

/-- 'tidelaw4.OpsOnce', WHERE WHAT IT READS IS OF BULK AT MOST 1048576: true; the input reads as it did. -/
def opsOnceUptoRow : OpenClaim := { program := "ytajbjhaoeeiigaagreat", sum := "c061d9e045a6e3739fb1f9991fcc24b832a40544144411754ab1e9c1bb8b1cbc", func := "tidemark/tidelaw4.OpsOnce", spec := "opsOnce", unfollowed := true, recurses := true, loops := true, apart := false, narrowed := true }
def OpsOnceUptoSaid : Prop := opsOnceUptoRow.holds Tryz.pinned (OpenSpec.upto opsOnceSpec)

/-- 'tidelaw5.QueryTells', WHERE WHAT IT READS IS OF BULK AT MOST 1048576: true; the input reads as it did. -/
def queryTellsUptoRow : OpenClaim := { program := "ytajbjhaoeeiigaagreat", sum := "c061d9e045a6e3739fb1f9991fcc24b832a40544144411754ab1e9c1bb8b1cbc", func := "tidemark/tidelaw5.QueryTells", spec := "queryTells", unfollowed := true, recurses := true, loops := true, apart := false, narrowed := true }
def QueryTellsUptoSaid : Prop := queryTellsUptoRow.holds Tryz.pinned (OpenSpec.upto queryTellsSpec)

/-- 'tidelaw5.QueryTyped', WHERE WHAT IT READS IS OF BULK AT MOST 1048576: true; the input reads as it did. -/
def queryTypedUptoRow : OpenClaim := { program := "ytajbjhaoeeiigaagreat", sum := "c061d9e045a6e3739fb1f9991fcc24b832a40544144411754ab1e9c1bb8b1cbc", func := "tidemark/tidelaw5.QueryTyped", spec := "queryTyped", unfollowed := true, recurses := true, loops := true, apart := false, narrowed := true }
def QueryTypedUptoSaid : Prop := queryTypedUptoRow.holds Tryz.pinned (OpenSpec.upto queryTypedSpec)

/-- 'tidelaw5.QueryPlaces', WHERE WHAT IT READS IS OF BULK AT MOST 1048576: true; the input reads as it did. -/
def queryPlacesUptoRow : OpenClaim := { program := "ytajbjhaoeeiigaagreat", sum := "c061d9e045a6e3739fb1f9991fcc24b832a40544144411754ab1e9c1bb8b1cbc", func := "tidemark/tidelaw5.QueryPlaces", spec := "queryPlaces", unfollowed := true, recurses := true, loops := true, apart := false, narrowed := true }
def QueryPlacesUptoSaid : Prop := queryPlacesUptoRow.holds Tryz.pinned (OpenSpec.upto queryPlacesSpec)

end Rows
end Go.Proofs.YtajbjhaoeeiigaaGreat
