/- A row copied by append, and one of its values changed. -/
import Derived.Test.YtbdhmjojamoafaaYE
namespace Go.Proofs.Ytbdhmjojamoafaa
open Go.RowKit

theorem info24 : (Try.prog.info? 24).map (fun i => (i.zero, i.size, i.bytes)) = some (some (.agg #[.int .i64 0, .int .i64 0, .string ⟨#[]⟩]), 3, 32) := by kernel_rfl
/-- A row's cells. -/
def rowCells : List Vl → List Value
  | [] => []
  | v :: r => .int .i64 v.1 :: .int .i64 v.2.1 :: .string v.2.2 :: rowCells r
theorem rowCells_len : ∀ l : List Vl, (rowCells l).length = l.length * 3
  | [] => rfl
  | v :: r => by rw [rowCells]; simp [rowCells_len r]; omega
theorem rowCells_one : ∀ l : List Vl, ∀ u ∈ rowCells l, u.oneCell' = true
  | [], u, h => by simp [rowCells] at h
  | v :: r, u, h => by
    rw [rowCells] at h
    simp only [List.mem_cons] at h
    rcases h with rfl | rfl | rfl | h
    · rfl
    · rfl
    · rfl
    · exact rowCells_one r u h
theorem rowCells_get : ∀ (l : List Vl) (i : Nat) (h : i < l.length), (rowCells l)[i * 3]? = some (.int .i64 l[i].1) ∧ (rowCells l)[i * 3 + 1]? = some (.int .i64 l[i].2.1) ∧ (rowCells l)[i * 3 + 2]? = some (.string l[i].2.2)
  | [], i, h => by simp at h
  | v :: r, 0, _ => by simp [rowCells]
  | v :: r, i + 1, h => by
    have := rowCells_get r i (by simpa using h)
    rw [rowCells, show (i + 1) * 3 = i * 3 + 3 by omega]
    simpa using this
theorem rowCells_at (W : World) (b off : Nat) : ∀ (l : List Vl) (j : Nat) (u : Value), (∀ (i : Nat) (h : i < l.length), W.cell? ⟨b, off + i * 3, none⟩ = some (.int .i64 l[i].1) ∧ W.cell? ⟨b, off + i * 3 + 1, none⟩ = some (.int .i64 l[i].2.1) ∧ W.cell? ⟨b, off + i * 3 + 2, none⟩ = some (.string l[i].2.2)) →
    (rowCells l)[j]? = some u → W.cell? ⟨b, off + j, none⟩ = some u := by
  intro l j u hr hj
  have hl : j < (rowCells l).length := by
    rcases Nat.lt_or_ge j (rowCells l).length with h | h
    · exact h
    · rw [List.getElem?_eq_none h] at hj; simp at hj
  rw [rowCells_len] at hl
  obtain ⟨g0, g1, g2⟩ := rowCells_get l (j / 3) (by omega)
  obtain ⟨r0, r1, r2⟩ := hr (j / 3) (by omega)
  have e : j = j / 3 * 3 ∨ j = j / 3 * 3 + 1 ∨ j = j / 3 * 3 + 2 := by omega
  rcases e with e | e | e
  · rw [e, g0] at hj
    rw [e, ← hj]; exact r0
  · rw [e, g1] at hj
    rw [e, ← hj]; exact r1
  · rw [e, g2] at hj
    rw [e, ← hj]; exact r2

/-- A row of one's own. -/
structure Own3 (W : World) (g : Nat) (l : List Vl) : Prop where
  lt : g < W.heap.size
  c : ∀ (i : Nat) (h : i < l.length), W.cell? ⟨g, i * 3, none⟩ = some (.int .i64 l[i].1) ∧ W.cell? ⟨g, i * 3 + 1, none⟩ = some (.int .i64 l[i].2.1) ∧ W.cell? ⟨g, i * 3 + 2, none⟩ = some (.string l[i].2.2)
  f : ∀ j : Nat, W.frozen? ⟨g, j, none⟩ = false
theorem Own3.of {W : World} {base g n c : Nat} {l : List Vl} (h : W.ownsRow base 24 3 (.slice (some ⟨g, 0, none⟩) n c) n (rowCells l)) (hn : n = l.length) (hg : g < W.heap.size) : Own3 W g l := by
  subst hn
  refine ⟨hg, fun i hi => ?_, fun j => h.frozenAt j⟩
  obtain ⟨g0, g1, g2⟩ := rowCells_get l i hi
  exact ⟨(h.cellAt _ (by omega)).trans g0, (h.cellAt _ (by omega)).trans g1, (h.cellAt _ (by omega)).trans g2⟩
theorem Own3.sl {W : World} {g : Nat} {l : List Vl} (h : Own3 W g l) (hl : l.length ≤ maxLen) : SlAt W (some ⟨g, 0, none⟩) l :=
  ⟨hl, .inr ⟨g, 0, rfl, fun i hi => by simpa using h.c i hi, h.lt⟩⟩
theorem cell_off {W : World} {g o p : Nat} {u : Value} (hn : o ≠ p) : (W.setCell ⟨g, o, none⟩ u).cell? ⟨g, p, none⟩ = W.cell? ⟨g, p, none⟩ :=
  World.cell?_setCell_other _ _ _ _ (by intro h; injection h with _ h; exact hn h)
theorem Own3.set {W : World} {g : Nat} {l : List Vl} (h : Own3 W g l) (k : Nat) (hk : k < l.length) (v : Vl) :
    Own3 (((W.setCell ⟨g, k * 3, none⟩ (.int .i64 v.1)).setCell ⟨g, k * 3 + 1, none⟩ (.int .i64 v.2.1)).setCell ⟨g, k * 3 + 2, none⟩ (.string v.2.2)) g (l.set k v) := by
  refine ⟨by simpa using h.lt, fun i hi => ?_, fun j => by simpa using h.f j⟩
  have hi' : i < l.length := by simpa using hi
  obtain ⟨c0, c1, c2⟩ := h.c i hi'
  by_cases e : i = k
  · subst e
    refine ⟨?_, ?_, ?_⟩
    · rw [cell_off (by omega), cell_off (by omega), World.cell?_setCell_same _ _ _ c0]; simp
    · rw [cell_off (by omega), World.cell?_setCell_same _ _ _ (u := .int .i64 l[i].2.1) (by rw [cell_off (by omega)]; exact c1)]; simp
    · rw [World.cell?_setCell_same _ _ _ (u := .string l[i].2.2) (by rw [cell_off (by omega), cell_off (by omega)]; exact c2)]; simp
  · have e' : ¬ k = i := fun q => e q.symm
    rw [cell_off (by omega), cell_off (by omega), cell_off (by omega), cell_off (by omega), cell_off (by omega), cell_off (by omega), cell_off (by omega), cell_off (by omega), cell_off (by omega), c0, c1, c2]
    simp [List.getElem_set_ne e']
theorem below_row {B g k : Nat} {w w2 : World} {x y z : Value} (h : Below B w w2) (hB : B ≤ g) :
    Below B w (((w2.setCell ⟨g, k * 3, none⟩ x).setCell ⟨g, k * 3 + 1, none⟩ y).setCell ⟨g, k * 3 + 2, none⟩ z) :=
  ((h.setCell hB _).setCell hB _).setCell hB _
theorem own3_some {W : World} {base n : Nat} {v : Value} {xs : List Value} (h : W.ownsRow base 24 3 v n xs) (hn : 0 < n) : ∃ g c, v = .slice (some ⟨g, 0, none⟩) n c ∧ base ≤ g ∧ g < W.heap.size := by
  have h' := h
  obtain ⟨_, ⟨rfl, h0⟩ | ⟨g, c1, cur, rfl, hg, _⟩⟩ := h
  · omega
  · exact ⟨g, c1, rfl, hg, (h'.lt g rfl).2⟩
end Go.Proofs.Ytbdhmjojamoafaa
