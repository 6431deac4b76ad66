/- Opening streams. -/
import Derived.Test.YtibobmkelmalkaaZOpen2
import Derived.Test.YtibobmkelmalkaaST0
namespace Go.Proofs.Ytibobmkelmalkaa
open Go.ChangeShapes Go.WideShapes Go.ChangeAt Go.RowKit Go.Joins

theorem qZ : Try.prog.cellsOf 45 = 2 := by kernel_rfl
theorem qZs : Try.prog.cellsOf 34 = 1 := by kernel_rfl
theorem qDs : Try.prog.cellsOf 22 = 1 := by kernel_rfl
set_option maxRecDepth 100000 in
theorem open_zrowsT {H : Type} {enc : TypeId × Value → H} {W : World} {hd : Bool} {fuel : Nat} {cs : List Value} {x : DataW H × List MemPlace}
    (hf : DataW.trod enc Try.prog W 0 (fun _ => true) hd fuel 34 cs = some x) : ∃ (a : Option Addr) (cap : Nat) (l : List Zp), cs = [.slice a l.length cap] ∧ ZsAt W a l ∧ (a = none → cap = 0) := by
  rcases Go.Deep.open_slice Try.underlying34 hf with ⟨hcs, _⟩ | ⟨a, len, cap, m, n, D, Pl, hcs, _, hl, hm, hmm, _, hx⟩
  · exact ⟨none, 0, [], hcs, ⟨by simp, .inl rfl⟩, fun _ => rfl⟩
  · rw [qZ] at hx
    simp only [if_true] at hmm
    obtain ⟨f, hf'⟩ := Go.Deep.choose_lt (α := Zp) (n := len) (p := fun i (z : Zp) => W.cell? ((a.add (i * 2)).add 1) = some (.int .i64 z.2) ∧ ∃ ai cap, W.cell? ((a.add (i * 2)).add 0) = some (.slice ai z.1.length cap) ∧ SlAt W ai z.1) (fun i hi => by
      obtain ⟨cs', h1, h2⟩ := hx i (by omega)
      exact open_zrow h1 h2)
    refine ⟨some a, cap, (List.range len).map f, by simpa using hcs, ⟨?_, ?_⟩, fun h => by cases h⟩
    · simp; omega
    by_cases h0 : len = 0
    · left; simp [h0]
    · right
      obtain ⟨b, off, spot⟩ := a
      obtain ⟨_, _, hc, _⟩ := (hf' 0 (by omega)).2
      have hspot : spot = none := by simpa [Addr.add] using World.cell?_spot hc
      subst hspot
      refine ⟨b, off, rfl, ?_, fun i hi => ?_⟩
      · exact World.block_lt_of_cell? W _ (by simpa [Addr.add] using hc)
      · have hi' : i < len := by simpa using hi
        have := hf' i hi'
        simp only [addr_add] at this
        simp only [List.getElem_map, List.getElem_range]
        exact this
set_option maxRecDepth 100000 in
theorem open_dataT {H : Type} {enc : TypeId × Value → H} {W : World} {hd : Bool} {fuel : Nat} {cs : List Value} {x : DataW H × List MemPlace}
    (hf : DataW.trod enc Try.prog W 0 (fun _ => true) hd fuel 22 cs = some x) : ∃ (a : Option Addr) (cap : Nat) (l : List (List Zp)), cs = [.slice a l.length cap] ∧ DtAt W a l := by
  rcases Go.Deep.open_slice Try.underlying22 hf with ⟨hcs, _⟩ | ⟨a, len, cap, m, n, D, Pl, hcs, _, hl, hm, hmm, _, hx⟩
  · exact ⟨none, 0, [], hcs, .inl rfl⟩
  · rw [qZs] at hx
    simp only [if_true] at hmm
    obtain ⟨f, hf'⟩ := Go.Deep.choose_lt (α := List Zp × Option Addr × Nat) (n := len) (p := fun i y => W.cell? ((a.add (i * 1)).add 0) = some (.slice y.2.1 y.1.length y.2.2) ∧ ZsAt W y.2.1 y.1 ∧ (y.2.1 = none → y.2.2 = 0)) (fun i hi => by
      obtain ⟨cs', h1, h2⟩ := hx i (by omega)
      obtain ⟨_, _, hcell⟩ := World.cells?_some h1
      obtain ⟨ai, ci, l, rfl, hz, hn⟩ := open_zrowsT h2
      exact ⟨(l, ai, ci), hcell 0 (by simp), hz, hn⟩)
    refine ⟨some a, cap, (List.range len).map fun i => (f i).1, by simpa using hcs, ?_⟩
    by_cases h0 : len = 0
    · left; simp [h0]
    · obtain ⟨b, off, spot⟩ := a
      have hc := (hf' 0 (by omega)).1
      have hspot : spot = none := by simpa [Addr.add] using World.cell?_spot hc
      subst hspot
      refine .inr ⟨b, off, fun i => (f i).2.1, fun i => (f i).2.2, rfl, World.block_lt_of_cell? W _ (by simpa [Addr.add] using hc), fun i hi => ?_⟩
      have hi' : i < len := by simpa using hi
      obtain ⟨g0, g1, g2⟩ := hf' i hi'
      simp only [addr_add, Nat.mul_one, Nat.add_zero] at g0
      simp only [List.getElem_map, List.getElem_range]
      exact ⟨g0, g1, g2⟩
set_option maxRecDepth 100000 in
theorem open_stream {H : Type} {enc : TypeId × Value → H} {W : World} {r : Reach} {b0 : Nat} {v : Value} {d : DataW H} {p : List MemPlace}
    (hv : Value.okWide Try.prog W r b0 22 v) (h : DataW.Trod enc Try.prog W 0 (fun _ => true) true 22 v d p) : ∃ (a : Option Addr) (cap : Nat) (l : List (List Zp)), v = .slice a l.length cap ∧ DtAt W a l ∧ l.length ≤ cap := by
  obtain ⟨a0, len, cap, rfl⟩ := okWide_slice Try.underlying22 hv
  obtain ⟨fuel, hf⟩ := h
  obtain ⟨a, c, l, e, hs⟩ := open_dataT hf
  refine ⟨a, c, l, by simpa [Value.cells] using e, hs, ?_⟩
  rcases Go.Deep.open_slice Try.underlying22 hf with ⟨hcs, _⟩ | ⟨a', len', cap', m, n, D, Pl, hcs, _, hl, _⟩
  · rw [e] at hcs
    injection hcs with hcs _
    injection hcs with _ h1 h2
    omega
  · rw [e] at hcs
    injection hcs with hcs _
    injection hcs with _ h1 h2
    omega
end Go.Proofs.Ytibobmkelmalkaa
