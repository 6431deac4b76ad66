/- Opening arguments: slices of rows with weights; a nil one has no room. -/
import Derived.Test.YtibobmkelmalkaaZOpen
namespace Go.Proofs.Ytibobmkelmalkaa
open Go.ChangeShapes Go.WideShapes Go.ChangeAt Go.RowKit Go.Joins

set_option maxRecDepth 100000 in
theorem open_zrows2 {H : Type} {enc : TypeId × Value → H} {W : World} {r : Reach} {b0 : Nat} {v : Value} {d : DataW H} {p : List MemPlace}
    (hv : Value.okWide Try.prog W r b0 34 v) (h : DataW.Trod enc Try.prog W 0 (fun _ => true) true 34 v d p) : ∃ (a : Option Addr) (cap : Nat) (l : List Zp), v = .slice a l.length cap ∧ ZsAt W a l ∧ (a = none → cap = 0) := by
  obtain ⟨a, cap, l, rfl, hz⟩ := open_zrows hv h
  refine ⟨a, cap, l, rfl, hz, ?_⟩
  intro e
  subst e
  obtain ⟨fuel, hf⟩ := h
  rcases Go.Deep.open_slice Try.underlying34 hf with ⟨hcs, _⟩ | ⟨a, len', cap', m, n, D, Pl, hcs, _⟩
  · simp [Value.cells] at hcs
    exact hcs.2
  · simp [Value.cells] at hcs
end Go.Proofs.Ytibobmkelmalkaa
