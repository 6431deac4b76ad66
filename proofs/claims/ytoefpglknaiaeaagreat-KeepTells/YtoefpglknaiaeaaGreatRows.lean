/-
  NARROWER THAN 'FOR EVERY INPUT', by the rows' own cells (each row's printed sentence says how): QueryTells: loops · QueryTyped: loops · QueryPlaces: loops · QueryAlgebra: loops · DeltaTells: loops · DeltaRight: loops · DeltaNothing: loops · DeltaChain: loops · DeltaLinear: loops · KeepTells: loops · KeepRight: loops · KeepBack: loops · KeepOrder: loops.
  DERIVED. THE GIVEN ROWS OF THIS SEAT. 13 by the template 'for every input the law returns true; each argument reads behind the call as it read before'; 0 by the template 'total and deterministic' (their statements: YtoefpglknaiaeaaGreatTotals.lean).
  GIVEN WITH THE SEED: the statements are not yours to turn. If you find one false, say at which input.
  Laid BY PROGRAM, IN A SANDBOX (cutbox-rows.mjs): the forced cells as the released guide's own fill.sh prints them over the translation e32c6315f8b6ce29… (all of the seat's roots in one cut). By AI agents, Wed Nov 11 2026. No macro, syntax, notation, axiom, sorry.
-/
import Derived.Test.YtoefpglknaiaeaaGreatChecked
import GoSem.Claim
import GoSem.ClaimJoined
import GoSem.ClaimMapViews
import Derived.JoinedTies
import Derived.KernelRfl
namespace Go.Proofs.YtoefpglknaiaeaaGreat
/- THE CELL 'sum', in the pinned program and in every row, IS THE sha256 OF THE DUMP (.gsa) THAT YtoefpglknaiaeaaGreatProg.lean LOADS. Nothing in Lean hashes anything: it is a label: what it is worth is what the hold of that sum in a sandbox is worth. -/
noncomputable def Tryz.pinned : Pinned := { name := "ytoefpglknaiaeaagreat", sum := "e32c6315f8b6ce290f54669b1e6058c0f26d553420df93c23c6f5c7ccf819f2a", checked := Tryz.checked }
namespace Rows
def none {H : Type} : Left H := { results := [], args := [] }

/-- 'tidelaw5.QueryTells': WHATEVER THE INPUT: true; the input reads as it did. -/
def queryTellsSpec : ChangeSpec := { name := "queryTells", fn := fun _ => fun
  | [d1, d2, d3] => { results := [.lit (.bool true)], args := [d1, d2, d3] }
  | _ => none }
def queryTellsRow : OpenClaim := { program := "ytoefpglknaiaeaagreat", sum := "e32c6315f8b6ce290f54669b1e6058c0f26d553420df93c23c6f5c7ccf819f2a", func := "tidemark/tidelaw5.QueryTells", spec := "queryTells", unfollowed := true, recurses := true, loops := true, apart := false }
def QueryTellsSaid : Prop := queryTellsRow.holds Tryz.pinned (OpenSpec.ofChange queryTellsSpec)

/-- ITS FALSE NEIGHBOUR: 'it returns false'. Refute it at one input. -/
def queryTellsWrong : ChangeSpec := { name := "queryTells", fn := fun _ => fun
  | [d1, d2, d3] => { results := [.lit (.bool false)], args := [d1, d2, d3] }
  | _ => none }
def QueryTellsWrongFalsely : Prop := queryTellsRow.holds Tryz.pinned (OpenSpec.ofChange queryTellsWrong)

/-- 'tidelaw5.QueryTyped': WHATEVER THE INPUT: true; the input reads as it did. -/
def queryTypedSpec : ChangeSpec := { name := "queryTyped", fn := fun _ => fun
  | [d1, d2, d3] => { results := [.lit (.bool true)], args := [d1, d2, d3] }
  | _ => none }
def queryTypedRow : OpenClaim := { program := "ytoefpglknaiaeaagreat", sum := "e32c6315f8b6ce290f54669b1e6058c0f26d553420df93c23c6f5c7ccf819f2a", func := "tidemark/tidelaw5.QueryTyped", spec := "queryTyped", unfollowed := true, recurses := true, loops := true, apart := false }
def QueryTypedSaid : Prop := queryTypedRow.holds Tryz.pinned (OpenSpec.ofChange queryTypedSpec)

/-- ITS FALSE NEIGHBOUR: 'it returns false'. Refute it at one input. -/
def queryTypedWrong : ChangeSpec := { name := "queryTyped", fn := fun _ => fun
  | [d1, d2, d3] => { results := [.lit (.bool false)], args := [d1, d2, d3] }
  | _ => none }
def QueryTypedWrongFalsely : Prop := queryTypedRow.holds Tryz.pinned (OpenSpec.ofChange queryTypedWrong)

/-- 'tidelaw5.QueryPlaces': WHATEVER THE INPUT: true; the input reads as it did. -/
def queryPlacesSpec : ChangeSpec := { name := "queryPlaces", fn := fun _ => fun
  | [d1, d2, d3, d4, d5] => { results := [.lit (.bool true)], args := [d1, d2, d3, d4, d5] }
  | _ => none }
def queryPlacesRow : OpenClaim := { program := "ytoefpglknaiaeaagreat", sum := "e32c6315f8b6ce290f54669b1e6058c0f26d553420df93c23c6f5c7ccf819f2a", func := "tidemark/tidelaw5.QueryPlaces", spec := "queryPlaces", unfollowed := true, recurses := true, loops := true, apart := false }
def QueryPlacesSaid : Prop := queryPlacesRow.holds Tryz.pinned (OpenSpec.ofChange queryPlacesSpec)

/-- ITS FALSE NEIGHBOUR: 'it returns false'. Refute it at one input. -/
def queryPlacesWrong : ChangeSpec := { name := "queryPlaces", fn := fun _ => fun
  | [d1, d2, d3, d4, d5] => { results := [.lit (.bool false)], args := [d1, d2, d3, d4, d5] }
  | _ => none }
def QueryPlacesWrongFalsely : Prop := queryPlacesRow.holds Tryz.pinned (OpenSpec.ofChange queryPlacesWrong)

/-- 'tidelaw5.QueryAlgebra': WHATEVER THE INPUT: true; the input reads as it did. -/
def queryAlgebraSpec : ChangeSpec := { name := "queryAlgebra", fn := fun _ => fun
  | [d1, d2, d3, d4, d5] => { results := [.lit (.bool true)], args := [d1, d2, d3, d4, d5] }
  | _ => none }
def queryAlgebraRow : OpenClaim := { program := "ytoefpglknaiaeaagreat", sum := "e32c6315f8b6ce290f54669b1e6058c0f26d553420df93c23c6f5c7ccf819f2a", func := "tidemark/tidelaw5.QueryAlgebra", spec := "queryAlgebra", unfollowed := true, recurses := true, loops := true, apart := false }
def QueryAlgebraSaid : Prop := queryAlgebraRow.holds Tryz.pinned (OpenSpec.ofChange queryAlgebraSpec)

/-- ITS FALSE NEIGHBOUR: 'it returns false'. Refute it at one input. -/
def queryAlgebraWrong : ChangeSpec := { name := "queryAlgebra", fn := fun _ => fun
  | [d1, d2, d3, d4, d5] => { results := [.lit (.bool false)], args := [d1, d2, d3, d4, d5] }
  | _ => none }
def QueryAlgebraWrongFalsely : Prop := queryAlgebraRow.holds Tryz.pinned (OpenSpec.ofChange queryAlgebraWrong)

/-- 'tidelaw6.DeltaTells': WHATEVER THE INPUT: true; the input reads as it did. -/
def deltaTellsSpec : ChangeSpec := { name := "deltaTells", fn := fun _ => fun
  | [d1, d2, d3, d4] => { results := [.lit (.bool true)], args := [d1, d2, d3, d4] }
  | _ => none }
def deltaTellsRow : OpenClaim := { program := "ytoefpglknaiaeaagreat", sum := "e32c6315f8b6ce290f54669b1e6058c0f26d553420df93c23c6f5c7ccf819f2a", func := "tidemark/tidelaw6.DeltaTells", spec := "deltaTells", unfollowed := true, recurses := true, loops := true, apart := false }
def DeltaTellsSaid : Prop := deltaTellsRow.holds Tryz.pinned (OpenSpec.ofChange deltaTellsSpec)

/-- ITS FALSE NEIGHBOUR: 'it returns false'. Refute it at one input. -/
def deltaTellsWrong : ChangeSpec := { name := "deltaTells", fn := fun _ => fun
  | [d1, d2, d3, d4] => { results := [.lit (.bool false)], args := [d1, d2, d3, d4] }
  | _ => none }
def DeltaTellsWrongFalsely : Prop := deltaTellsRow.holds Tryz.pinned (OpenSpec.ofChange deltaTellsWrong)

/-- 'tidelaw6.DeltaRight': WHATEVER THE INPUT: true; the input reads as it did. -/
def deltaRightSpec : ChangeSpec := { name := "deltaRight", fn := fun _ => fun
  | [d1, d2, d3, d4] => { results := [.lit (.bool true)], args := [d1, d2, d3, d4] }
  | _ => none }
def deltaRightRow : OpenClaim := { program := "ytoefpglknaiaeaagreat", sum := "e32c6315f8b6ce290f54669b1e6058c0f26d553420df93c23c6f5c7ccf819f2a", func := "tidemark/tidelaw6.DeltaRight", spec := "deltaRight", unfollowed := true, recurses := true, loops := true, apart := false }
def DeltaRightSaid : Prop := deltaRightRow.holds Tryz.pinned (OpenSpec.ofChange deltaRightSpec)

/-- ITS FALSE NEIGHBOUR: 'it returns false'. Refute it at one input. -/
def deltaRightWrong : ChangeSpec := { name := "deltaRight", fn := fun _ => fun
  | [d1, d2, d3, d4] => { results := [.lit (.bool false)], args := [d1, d2, d3, d4] }
  | _ => none }
def DeltaRightWrongFalsely : Prop := deltaRightRow.holds Tryz.pinned (OpenSpec.ofChange deltaRightWrong)

/-- 'tidelaw6.DeltaNothing': WHATEVER THE INPUT: true; the input reads as it did. -/
def deltaNothingSpec : ChangeSpec := { name := "deltaNothing", fn := fun _ => fun
  | [d1, d2, d3] => { results := [.lit (.bool true)], args := [d1, d2, d3] }
  | _ => none }
def deltaNothingRow : OpenClaim := { program := "ytoefpglknaiaeaagreat", sum := "e32c6315f8b6ce290f54669b1e6058c0f26d553420df93c23c6f5c7ccf819f2a", func := "tidemark/tidelaw6.DeltaNothing", spec := "deltaNothing", unfollowed := true, recurses := true, loops := true, apart := false }
def DeltaNothingSaid : Prop := deltaNothingRow.holds Tryz.pinned (OpenSpec.ofChange deltaNothingSpec)

/-- ITS FALSE NEIGHBOUR: 'it returns false'. Refute it at one input. -/
def deltaNothingWrong : ChangeSpec := { name := "deltaNothing", fn := fun _ => fun
  | [d1, d2, d3] => { results := [.lit (.bool false)], args := [d1, d2, d3] }
  | _ => none }
def DeltaNothingWrongFalsely : Prop := deltaNothingRow.holds Tryz.pinned (OpenSpec.ofChange deltaNothingWrong)

/-- 'tidelaw6.DeltaChain': WHATEVER THE INPUT: true; the input reads as it did. -/
def deltaChainSpec : ChangeSpec := { name := "deltaChain", fn := fun _ => fun
  | [d1, d2, d3, d4, d5] => { results := [.lit (.bool true)], args := [d1, d2, d3, d4, d5] }
  | _ => none }
def deltaChainRow : OpenClaim := { program := "ytoefpglknaiaeaagreat", sum := "e32c6315f8b6ce290f54669b1e6058c0f26d553420df93c23c6f5c7ccf819f2a", func := "tidemark/tidelaw6.DeltaChain", spec := "deltaChain", unfollowed := true, recurses := true, loops := true, apart := false }
def DeltaChainSaid : Prop := deltaChainRow.holds Tryz.pinned (OpenSpec.ofChange deltaChainSpec)

/-- ITS FALSE NEIGHBOUR: 'it returns false'. Refute it at one input. -/
def deltaChainWrong : ChangeSpec := { name := "deltaChain", fn := fun _ => fun
  | [d1, d2, d3, d4, d5] => { results := [.lit (.bool false)], args := [d1, d2, d3, d4, d5] }
  | _ => none }
def DeltaChainWrongFalsely : Prop := deltaChainRow.holds Tryz.pinned (OpenSpec.ofChange deltaChainWrong)

/-- 'tidelaw6.DeltaLinear': WHATEVER THE INPUT: true; the input reads as it did. -/
def deltaLinearSpec : ChangeSpec := { name := "deltaLinear", fn := fun _ => fun
  | [d1, d2, d3, d4] => { results := [.lit (.bool true)], args := [d1, d2, d3, d4] }
  | _ => none }
def deltaLinearRow : OpenClaim := { program := "ytoefpglknaiaeaagreat", sum := "e32c6315f8b6ce290f54669b1e6058c0f26d553420df93c23c6f5c7ccf819f2a", func := "tidemark/tidelaw6.DeltaLinear", spec := "deltaLinear", unfollowed := true, recurses := true, loops := true, apart := false }
def DeltaLinearSaid : Prop := deltaLinearRow.holds Tryz.pinned (OpenSpec.ofChange deltaLinearSpec)

/-- ITS FALSE NEIGHBOUR: 'it returns false'. Refute it at one input. -/
def deltaLinearWrong : ChangeSpec := { name := "deltaLinear", fn := fun _ => fun
  | [d1, d2, d3, d4] => { results := [.lit (.bool false)], args := [d1, d2, d3, d4] }
  | _ => none }
def DeltaLinearWrongFalsely : Prop := deltaLinearRow.holds Tryz.pinned (OpenSpec.ofChange deltaLinearWrong)

/-- 'tidelaw7.KeepTells': WHATEVER THE INPUT: true; the input reads as it did. -/
def keepTellsSpec : ChangeSpec := { name := "keepTells", fn := fun _ => fun
  | [d1, d2, d3, d4] => { results := [.lit (.bool true)], args := [d1, d2, d3, d4] }
  | _ => none }
def keepTellsRow : OpenClaim := { program := "ytoefpglknaiaeaagreat", sum := "e32c6315f8b6ce290f54669b1e6058c0f26d553420df93c23c6f5c7ccf819f2a", func := "tidemark/tidelaw7.KeepTells", spec := "keepTells", unfollowed := true, recurses := true, loops := true, apart := false }
def KeepTellsSaid : Prop := keepTellsRow.holds Tryz.pinned (OpenSpec.ofChange keepTellsSpec)

/-- ITS FALSE NEIGHBOUR: 'it returns false'. Refute it at one input. -/
def keepTellsWrong : ChangeSpec := { name := "keepTells", fn := fun _ => fun
  | [d1, d2, d3, d4] => { results := [.lit (.bool false)], args := [d1, d2, d3, d4] }
  | _ => none }
def KeepTellsWrongFalsely : Prop := keepTellsRow.holds Tryz.pinned (OpenSpec.ofChange keepTellsWrong)

/-- 'tidelaw7.KeepRight': WHATEVER THE INPUT: true; the input reads as it did. -/
def keepRightSpec : ChangeSpec := { name := "keepRight", fn := fun _ => fun
  | [d1, d2, d3, d4] => { results := [.lit (.bool true)], args := [d1, d2, d3, d4] }
  | _ => none }
def keepRightRow : OpenClaim := { program := "ytoefpglknaiaeaagreat", sum := "e32c6315f8b6ce290f54669b1e6058c0f26d553420df93c23c6f5c7ccf819f2a", func := "tidemark/tidelaw7.KeepRight", spec := "keepRight", unfollowed := true, recurses := true, loops := true, apart := false }
def KeepRightSaid : Prop := keepRightRow.holds Tryz.pinned (OpenSpec.ofChange keepRightSpec)

/-- ITS FALSE NEIGHBOUR: 'it returns false'. Refute it at one input. -/
def keepRightWrong : ChangeSpec := { name := "keepRight", fn := fun _ => fun
  | [d1, d2, d3, d4] => { results := [.lit (.bool false)], args := [d1, d2, d3, d4] }
  | _ => none }
def KeepRightWrongFalsely : Prop := keepRightRow.holds Tryz.pinned (OpenSpec.ofChange keepRightWrong)

/-- 'tidelaw7.KeepBack': WHATEVER THE INPUT: true; the input reads as it did. -/
def keepBackSpec : ChangeSpec := { name := "keepBack", fn := fun _ => fun
  | [d1, d2, d3, d4] => { results := [.lit (.bool true)], args := [d1, d2, d3, d4] }
  | _ => none }
def keepBackRow : OpenClaim := { program := "ytoefpglknaiaeaagreat", sum := "e32c6315f8b6ce290f54669b1e6058c0f26d553420df93c23c6f5c7ccf819f2a", func := "tidemark/tidelaw7.KeepBack", spec := "keepBack", unfollowed := true, recurses := true, loops := true, apart := false }
def KeepBackSaid : Prop := keepBackRow.holds Tryz.pinned (OpenSpec.ofChange keepBackSpec)

/-- ITS FALSE NEIGHBOUR: 'it returns false'. Refute it at one input. -/
def keepBackWrong : ChangeSpec := { name := "keepBack", fn := fun _ => fun
  | [d1, d2, d3, d4] => { results := [.lit (.bool false)], args := [d1, d2, d3, d4] }
  | _ => none }
def KeepBackWrongFalsely : Prop := keepBackRow.holds Tryz.pinned (OpenSpec.ofChange keepBackWrong)

/-- 'tidelaw7.KeepOrder': WHATEVER THE INPUT: true; the input reads as it did. -/
def keepOrderSpec : ChangeSpec := { name := "keepOrder", fn := fun _ => fun
  | [d1, d2, d3, d4, d5] => { results := [.lit (.bool true)], args := [d1, d2, d3, d4, d5] }
  | _ => none }
def keepOrderRow : OpenClaim := { program := "ytoefpglknaiaeaagreat", sum := "e32c6315f8b6ce290f54669b1e6058c0f26d553420df93c23c6f5c7ccf819f2a", func := "tidemark/tidelaw7.KeepOrder", spec := "keepOrder", unfollowed := true, recurses := true, loops := true, apart := false }
def KeepOrderSaid : Prop := keepOrderRow.holds Tryz.pinned (OpenSpec.ofChange keepOrderSpec)

/-- ITS FALSE NEIGHBOUR: 'it returns false'. Refute it at one input. -/
def keepOrderWrong : ChangeSpec := { name := "keepOrder", fn := fun _ => fun
  | [d1, d2, d3, d4, d5] => { results := [.lit (.bool false)], args := [d1, d2, d3, d4, d5] }
  | _ => none }
def KeepOrderWrongFalsely : Prop := keepOrderRow.holds Tryz.pinned (OpenSpec.ofChange keepOrderWrong)

/- THE SECOND FORM. 'bulk': how many values and letters a reading holds, each counted each time it is reached (what is shared counts as often as it is met; a slice's spare places count too). A statement '..UptoSaid' is the law's where the arguments, and the package variables that the reading takes, are together of bulk at most 1048576: NARROWER than '..Said'. Prove '..Said' where nothing that the law and all that it calls make is longer than what came in: it says more and counts as full. Else prove '..UptoSaid'. A law counts once. -/
mutual
def uptoBulk {H : Type} : DataW H → Nat
  | .lit (.string bytes) => bytes.length + 1
  | .lit _ => 1
  | .nil => 1
  | .ptr d => uptoBulk d + 1
  | .slice elems spare => uptoBulkAll elems + uptoBulkAll spare + 1
  | .agg parts => uptoBulkAll parts + 1
  | .iface _ d => uptoBulk d + 1
  | .map entries => uptoBulkEntries entries + 1
  | .held _ => 1
def uptoBulkAll {H : Type} : List (DataW H) → Nat
  | [] => 0
  | d :: r => uptoBulk d + uptoBulkAll r
def uptoBulkEntries {H : Type} : List (Lit × DataW H) → Nat
  | [] => 0
  | x :: r => uptoBulkEntry x + uptoBulkEntries r
def uptoBulkEntry {H : Type} : Lit × DataW H → Nat
  | (.string bytes, d) => bytes.length + uptoBulk d + 1
  | (_, d) => uptoBulk d + 1
 end
def uptoSmall : (H : Type) → List (DataW H) → Bool := fun _ ds => decide (uptoBulkAll ds ≤ 1048576)
def OpenSpec.upto (s : _root_.Go.ChangeSpec) : _root_.Go.OpenSpec := { _root_.Go.OpenSpec.ofChange s with cond := some uptoSmall }

/-- 'tidelaw5.QueryTells', WHERE WHAT IT READS IS OF BULK AT MOST 1048576: true; the input reads as it did. -/
def queryTellsUptoRow : OpenClaim := { program := "ytoefpglknaiaeaagreat", sum := "e32c6315f8b6ce290f54669b1e6058c0f26d553420df93c23c6f5c7ccf819f2a", func := "tidemark/tidelaw5.QueryTells", spec := "queryTells", unfollowed := true, recurses := true, loops := true, apart := false, narrowed := true }
def QueryTellsUptoSaid : Prop := queryTellsUptoRow.holds Tryz.pinned (OpenSpec.upto queryTellsSpec)

/-- 'tidelaw5.QueryTyped', WHERE WHAT IT READS IS OF BULK AT MOST 1048576: true; the input reads as it did. -/
def queryTypedUptoRow : OpenClaim := { program := "ytoefpglknaiaeaagreat", sum := "e32c6315f8b6ce290f54669b1e6058c0f26d553420df93c23c6f5c7ccf819f2a", func := "tidemark/tidelaw5.QueryTyped", spec := "queryTyped", unfollowed := true, recurses := true, loops := true, apart := false, narrowed := true }
def QueryTypedUptoSaid : Prop := queryTypedUptoRow.holds Tryz.pinned (OpenSpec.upto queryTypedSpec)

/-- 'tidelaw5.QueryPlaces', WHERE WHAT IT READS IS OF BULK AT MOST 1048576: true; the input reads as it did. -/
def queryPlacesUptoRow : OpenClaim := { program := "ytoefpglknaiaeaagreat", sum := "e32c6315f8b6ce290f54669b1e6058c0f26d553420df93c23c6f5c7ccf819f2a", func := "tidemark/tidelaw5.QueryPlaces", spec := "queryPlaces", unfollowed := true, recurses := true, loops := true, apart := false, narrowed := true }
def QueryPlacesUptoSaid : Prop := queryPlacesUptoRow.holds Tryz.pinned (OpenSpec.upto queryPlacesSpec)

/-- 'tidelaw5.QueryAlgebra', WHERE WHAT IT READS IS OF BULK AT MOST 1048576: true; the input reads as it did. -/
def queryAlgebraUptoRow : OpenClaim := { program := "ytoefpglknaiaeaagreat", sum := "e32c6315f8b6ce290f54669b1e6058c0f26d553420df93c23c6f5c7ccf819f2a", func := "tidemark/tidelaw5.QueryAlgebra", spec := "queryAlgebra", unfollowed := true, recurses := true, loops := true, apart := false, narrowed := true }
def QueryAlgebraUptoSaid : Prop := queryAlgebraUptoRow.holds Tryz.pinned (OpenSpec.upto queryAlgebraSpec)

/-- 'tidelaw6.DeltaTells', WHERE WHAT IT READS IS OF BULK AT MOST 1048576: true; the input reads as it did. -/
def deltaTellsUptoRow : OpenClaim := { program := "ytoefpglknaiaeaagreat", sum := "e32c6315f8b6ce290f54669b1e6058c0f26d553420df93c23c6f5c7ccf819f2a", func := "tidemark/tidelaw6.DeltaTells", spec := "deltaTells", unfollowed := true, recurses := true, loops := true, apart := false, narrowed := true }
def DeltaTellsUptoSaid : Prop := deltaTellsUptoRow.holds Tryz.pinned (OpenSpec.upto deltaTellsSpec)

/-- 'tidelaw6.DeltaRight', WHERE WHAT IT READS IS OF BULK AT MOST 1048576: true; the input reads as it did. -/
def deltaRightUptoRow : OpenClaim := { program := "ytoefpglknaiaeaagreat", sum := "e32c6315f8b6ce290f54669b1e6058c0f26d553420df93c23c6f5c7ccf819f2a", func := "tidemark/tidelaw6.DeltaRight", spec := "deltaRight", unfollowed := true, recurses := true, loops := true, apart := false, narrowed := true }
def DeltaRightUptoSaid : Prop := deltaRightUptoRow.holds Tryz.pinned (OpenSpec.upto deltaRightSpec)

/-- 'tidelaw6.DeltaNothing', WHERE WHAT IT READS IS OF BULK AT MOST 1048576: true; the input reads as it did. -/
def deltaNothingUptoRow : OpenClaim := { program := "ytoefpglknaiaeaagreat", sum := "e32c6315f8b6ce290f54669b1e6058c0f26d553420df93c23c6f5c7ccf819f2a", func := "tidemark/tidelaw6.DeltaNothing", spec := "deltaNothing", unfollowed := true, recurses := true, loops := true, apart := false, narrowed := true }
def DeltaNothingUptoSaid : Prop := deltaNothingUptoRow.holds Tryz.pinned (OpenSpec.upto deltaNothingSpec)

/-- 'tidelaw6.DeltaChain', WHERE WHAT IT READS IS OF BULK AT MOST 1048576: true; the input reads as it did. -/
def deltaChainUptoRow : OpenClaim := { program := "ytoefpglknaiaeaagreat", sum := "e32c6315f8b6ce290f54669b1e6058c0f26d553420df93c23c6f5c7ccf819f2a", func := "tidemark/tidelaw6.DeltaChain", spec := "deltaChain", unfollowed := true, recurses := true, loops := true, apart := false, narrowed := true }
def DeltaChainUptoSaid : Prop := deltaChainUptoRow.holds Tryz.pinned (OpenSpec.upto deltaChainSpec)

/-- 'tidelaw6.DeltaLinear', WHERE WHAT IT READS IS OF BULK AT MOST 1048576: true; the input reads as it did. -/
def deltaLinearUptoRow : OpenClaim := { program := "ytoefpglknaiaeaagreat", sum := "e32c6315f8b6ce290f54669b1e6058c0f26d553420df93c23c6f5c7ccf819f2a", func := "tidemark/tidelaw6.DeltaLinear", spec := "deltaLinear", unfollowed := true, recurses := true, loops := true, apart := false, narrowed := true }
def DeltaLinearUptoSaid : Prop := deltaLinearUptoRow.holds Tryz.pinned (OpenSpec.upto deltaLinearSpec)

/-- 'tidelaw7.KeepTells', WHERE WHAT IT READS IS OF BULK AT MOST 1048576: true; the input reads as it did. -/
def keepTellsUptoRow : OpenClaim := { program := "ytoefpglknaiaeaagreat", sum := "e32c6315f8b6ce290f54669b1e6058c0f26d553420df93c23c6f5c7ccf819f2a", func := "tidemark/tidelaw7.KeepTells", spec := "keepTells", unfollowed := true, recurses := true, loops := true, apart := false, narrowed := true }
def KeepTellsUptoSaid : Prop := keepTellsUptoRow.holds Tryz.pinned (OpenSpec.upto keepTellsSpec)

/-- 'tidelaw7.KeepRight', WHERE WHAT IT READS IS OF BULK AT MOST 1048576: true; the input reads as it did. -/
def keepRightUptoRow : OpenClaim := { program := "ytoefpglknaiaeaagreat", sum := "e32c6315f8b6ce290f54669b1e6058c0f26d553420df93c23c6f5c7ccf819f2a", func := "tidemark/tidelaw7.KeepRight", spec := "keepRight", unfollowed := true, recurses := true, loops := true, apart := false, narrowed := true }
def KeepRightUptoSaid : Prop := keepRightUptoRow.holds Tryz.pinned (OpenSpec.upto keepRightSpec)

/-- 'tidelaw7.KeepBack', WHERE WHAT IT READS IS OF BULK AT MOST 1048576: true; the input reads as it did. -/
def keepBackUptoRow : OpenClaim := { program := "ytoefpglknaiaeaagreat", sum := "e32c6315f8b6ce290f54669b1e6058c0f26d553420df93c23c6f5c7ccf819f2a", func := "tidemark/tidelaw7.KeepBack", spec := "keepBack", unfollowed := true, recurses := true, loops := true, apart := false, narrowed := true }
def KeepBackUptoSaid : Prop := keepBackUptoRow.holds Tryz.pinned (OpenSpec.upto keepBackSpec)

/-- 'tidelaw7.KeepOrder', WHERE WHAT IT READS IS OF BULK AT MOST 1048576: true; the input reads as it did. -/
def keepOrderUptoRow : OpenClaim := { program := "ytoefpglknaiaeaagreat", sum := "e32c6315f8b6ce290f54669b1e6058c0f26d553420df93c23c6f5c7ccf819f2a", func := "tidemark/tidelaw7.KeepOrder", spec := "keepOrder", unfollowed := true, recurses := true, loops := true, apart := false, narrowed := true }
def KeepOrderUptoSaid : Prop := keepOrderUptoRow.holds Tryz.pinned (OpenSpec.upto keepOrderSpec)

end Rows
end Go.Proofs.YtoefpglknaiaeaaGreat
