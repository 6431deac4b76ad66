/- Slices of numbers; allOf, colType, litType, kidsType. -/
import Derived.Test.YtibobmkelmalkaaY1
namespace Go.Proofs.Ytibobmkelmalkaa
open Go.RowKit

/-- A slice holds these numbers, and lies below B. -/
def IsAt (B : Nat) (W : World) (a : Option Addr) (l : List Int) : Prop :=
  l.length ≤ maxLen ∧ (l = [] ∨ ∃ b off, a = some ⟨b, off, none⟩ ∧ b < B ∧ ∀ (i : Nat) (h : i < l.length), W.cell? ⟨b, off + i, none⟩ = some (.int .i64 l[i]))
theorem IsAt.next {B B' : Nat} {W w1 : World} {a : Option Addr} {l : List Int} (h : IsAt B W a l) (hb : Below B' W w1) (hB : B ≤ B') : IsAt B w1 a l := by
  obtain ⟨h0, h | ⟨b, off, e, hlt, hr⟩⟩ := h
  · exact ⟨h0, .inl h⟩
  · exact ⟨h0, .inr ⟨b, off, e, hlt, fun i hi => (hb.cell (p := ⟨b, _, none⟩) (Nat.lt_of_lt_of_le hlt hB)).trans (hr i hi)⟩⟩
theorem IsAt.up {B B' : Nat} {W : World} {a : Option Addr} {l : List Int} (h : IsAt B W a l) (hB : B ≤ B') : IsAt B' W a l := by
  obtain ⟨h0, h | ⟨b, off, e, hlt, hr⟩⟩ := h
  · exact ⟨h0, .inl h⟩
  · exact ⟨h0, .inr ⟨b, off, e, Nat.lt_of_lt_of_le hlt hB, hr⟩⟩
theorem IsAt.elem {B : Nat} {W : World} {a : Option Addr} {l : List Int} (h : IsAt B W a l) {k : Nat} (hk : k < l.length) :
    ∃ b off, a = some ⟨b, off, none⟩ ∧ b < B ∧ W.cell? ⟨b, off + k, none⟩ = some (.int .i64 l[k]) := by
  obtain ⟨_, h | ⟨b, off, e, hlt, hr⟩⟩ := h
  · subst h; simp at hk
  · exact ⟨b, off, e, hlt, hr k hk⟩

theorem allO_end (t : Int) (l : List Int) (k : Nat) (h : l.length ≤ k) : allO t (l.drop k) = some t := by rw [List.drop_eq_nil_of_le h]; simp [allO]
theorem allO_no (t : Int) (l : List Int) (k : Nat) (h : k < l.length) (e : tog l[k] t = none) : allO t (l.drop k) = none := by
  rw [List.drop_eq_getElem_cons h, allO, List.all_cons, e]; rfl
theorem allO_next (t : Int) (l : List Int) (k : Nat) (h : k < l.length) {u : Int} (e : tog l[k] t = some u) : allO t (l.drop k) = allO t (l.drop (k + 1)) := by
  rw [List.drop_eq_getElem_cons h, allO, List.all_cons, e, allO]; rfl

end Go.Proofs.Ytibobmkelmalkaa
