/- The walks of zsets.Neg, Positive, Distinct and Weight, and of the document's Same at sets that are the same. -/
import Derived.Test.YtibobmkelmalkaaZA
namespace Go.Proofs.Ytibobmkelmalkaa
open Go.RowKit Go.Lib Go.Shelf

/-- The place of a row. -/
def PlaceOf (l : List Zp) (r : List Vl) (i : Nat) : Prop := i ≤ l.length ∧ (∀ t (h : t < l.length), t < i → cmpL l[t].1 r < 0) ∧ ∀ t (h : t < l.length), i ≤ t → 0 ≤ cmpL l[t].1 r
theorem rise_get {l : List Zp} (h : Rise l) {i j : Nat} (hi : i < l.length) (hj : j < l.length) (hij : i < j) : cmpL l[i].1 l[j].1 < 0 := List.pairwise_iff_getElem.1 h i j hi hj hij
theorem wt_found {l : List Zp} {r : List Vl} {i : Nat} (h : Rise l) (hi : i < l.length) (hc : cmpL l[i].1 r = 0) : wt l r = l[i].2 := by
  rw [← wt_mem h l[i] (List.getElem_mem hi)]
  exact (wt_congr (q := l[i].1) (q' := r) hc l).symm
theorem wt_lost {l : List Zp} {r : List Vl} {i : Nat} (h : Rise l) (hp : PlaceOf l r i) (hc : ∀ hi : i < l.length, ¬ cmpL l[i].1 r = 0) : wt l r = 0 := by
  refine wt_none fun x hx => ?_
  obtain ⟨t, ht, rfl⟩ := List.getElem_of_mem hx
  rcases Nat.lt_trichotomy t i with g | g | g
  · have := hp.2.1 t ht g; omega
  · subst g; exact hc ht
  · have h1 := hp.2.2 i (by omega) (Nat.le_refl _)
    have h2 := rise_get h (i := i) (j := t) (by omega) ht g
    have h3 := cmpL_neg l[i].1 r
    have h4 := cmpL_neg l[t].1 r
    have h5 := cmpL_le_lt (a := r) (b := l[i].1) (c := l[t].1) (by omega) h2
    omega

end Go.Proofs.Ytibobmkelmalkaa
