/- The walks of zsets.Of, zsets.weighedSet and what is built on it. -/
import Derived.Test.YtibobmkelmalkaaZ9
import Derived.Shelf.SlSortCmp.NoneTotal
namespace Go.Proofs.Ytibobmkelmalkaa
open Go.RowKit Go.Lib Go.Shelf

theorem sort_none (p : Option Addr) (cap : Nat) (fv : Value) (w : World) : Calls Try.prog 41 #[.slice p 0 cap, fv] w fun e w' => e = .returned (.tuple #[]) ∧ w' = w :=
  AnyF.slices_SortFunc_none Try.sortZ p cap fv w

set_option maxHeartbeats 1000000 in
theorem summed_none (a : Option Addr) (cap : Nat) (w : World) : Calls Try.prog 29 #[.slice a 0 cap] w (Summed [] w) := by
  unfold Summed
  go_enter Try.func29, Try.ntmps29
  go_wp2_with fail
  refine (clone_at a cap [] w #[] rfl (by simp) (.inl rfl)).mono ?_
  rintro e w1 ⟨v, rfl, hown, hb1⟩
  obtain ⟨a1, c1, rfl⟩ := own_shape hown
  simp only [List.length_nil]
  go_wp2_with fail
  refine (sort_none _ _ _ _).mono ?_
  rintro e w2 ⟨rfl, rfl⟩
  go_wp2_with fail
  refine wp_loop_rounds 1 ?_
  rw [rounds_succ]
  go_wp2_with fail
  go_ret
  exact ⟨[], none, 0, rfl, List.Perm.refl _, List.Pairwise.nil, ⟨by simp [mergedL], .inl rfl⟩, hb1⟩
theorem summed_at (a : Option Addr) (cap : Nat) (l : List Zp) (w : World) (h : ZsAt w a l) (hl : l.length ≤ 200000) (hw : ∀ x ∈ l, bigW x.2 = true) :
    Calls Try.prog 29 #[.slice a l.length cap] w (Summed l w) := by
  by_cases hn : 0 < l.length
  · exact summed_some a cap l w h hl hn hw
  · have e : l = [] := List.eq_nil_of_length_eq_zero (by omega)
    subst e
    exact summed_none a cap w
theorem gathered_at (a : Option Addr) (cap : Nat) (l : List Zp) (w : World) (h : ZsAt w a l) (hl : l.length ≤ 200000) (hw : ∀ x ∈ l, bigW x.2 = true) (h8 : ∀ x ∈ l, x.1.length ≤ 8) :
    Calls Try.prog 20 #[.slice a l.length cap] w fun e w' => ∃ v, e = .returned (.tuple #[v, .int .i64 (gatherE l)]) ∧ OwnZ w.heap.size w' v (gatherZ l) ∧ Below w.heap.size w w' :=
  gathered_of a cap l w (summed_at a cap l w h hl hw) hl h8

/-- What is wrong with rows that are to make a set. -/
def goO : List Zp → Int
  | [] => 0
  | x :: r => if wrongRowF x.1 = 0 then (if inW x.2 = false then 3 else goO r) else wrongRowF x.1
theorem goO_end (l : List Zp) (k : Nat) (h : l.length ≤ k) : goO (l.drop k) = 0 := by rw [List.drop_eq_nil_of_le h]; rfl
theorem goO_row (l : List Zp) (k : Nat) (h : k < l.length) (hw : ¬ wrongRowF l[k].1 = 0) : goO (l.drop k) = wrongRowF l[k].1 := by
  rw [List.drop_eq_getElem_cons h, goO, if_neg hw]
theorem goO_w (l : List Zp) (k : Nat) (h : k < l.length) (hw : wrongRowF l[k].1 = 0) (h0 : inW l[k].2 = false) : goO (l.drop k) = 3 := by
  rw [List.drop_eq_getElem_cons h, goO, if_pos hw, if_pos h0]
theorem goO_next (l : List Zp) (k : Nat) (h : k < l.length) (hw : wrongRowF l[k].1 = 0) (h0 : inW l[k].2 = true) : goO (l.drop k) = goO (l.drop (k + 1)) := by
  rw [List.drop_eq_getElem_cons h, goO, if_pos hw, if_neg (by simp [h0])]
theorem goO_iff : ∀ l : List Zp, goO l = 0 ↔ ∀ x ∈ l, wrongRowF x.1 = 0 ∧ inW x.2 = true
  | [] => by simp [goO]
  | x :: r => by
    have ih := goO_iff r
    rw [goO]
    by_cases hw : wrongRowF x.1 = 0
    · cases h0 : inW x.2
      · simp [hw, h0]
      · rw [if_pos hw, if_neg (by decide), ih]
        simp [hw, h0]
    · rw [if_neg hw]
      simp [hw]
def ofE (l : List Zp) : Int := if 1600 < l.length then 5 else if goO l = 0 then gatherE l else goO l
def ofZ (l : List Zp) : List Zp := if ofE l = 0 then canon l else []

theorem goW_iff : ∀ (l : List Zp) (p : Option (List Vl)), goW p l = 0 ↔ (∀ x ∈ l, wrongRowF x.1 = 0 ∧ x.2 ≠ 0 ∧ inW x.2 = true) ∧ Rise l ∧ ∀ q, p = some q → ∀ x ∈ l, cmpL q x.1 < 0
  | [], p => by simp [goW, Rise]
  | x :: r, p => by
    have ih := goW_iff r (some x.1)
    rw [goW]
    by_cases hw : wrongRowF x.1 = 0
    · rw [if_pos hw]
      by_cases h0 : x.2 = 0 ∨ inW x.2 = false
      · rw [if_pos h0]
        constructor
        · intro h; omega
        · rintro ⟨h, _⟩
          have := h x (by simp)
          rcases h0 with h0 | h0
          · exact absurd h0 this.2.1
          · rw [h0] at this; exact absurd this.2.2 (by decide)
      · rw [if_neg h0]
        have n0 : x.2 ≠ 0 := fun h => h0 (.inl h)
        have n1 : inW x.2 = true := by
          cases h : inW x.2
          · exact absurd (.inr h) h0
          · rfl
        by_cases hc : ∃ q, p = some q ∧ 0 ≤ cmpL q x.1
        · rw [if_pos hc]
          constructor
          · intro h; omega
          · rintro ⟨_, _, h⟩
            obtain ⟨q, e, hq⟩ := hc
            have := h q e x (by simp)
            omega
        · rw [if_neg hc, ih]
          have hc' : ∀ q, p = some q → cmpL q x.1 < 0 := fun q e => by
            by_cases h : 0 ≤ cmpL q x.1
            · exact absurd ⟨q, e, h⟩ hc
            · omega
          constructor
          · rintro ⟨h1, h2, h3⟩
            have h3 := h3 x.1 rfl
            refine ⟨?_, List.pairwise_cons.2 ⟨h3, h2⟩, ?_⟩
            · intro y hy
              rcases List.mem_cons.1 hy with rfl | hy
              · exact ⟨hw, n0, n1⟩
              · exact h1 y hy
            · intro q e y hy
              rcases List.mem_cons.1 hy with rfl | hy
              · exact hc' q e
              · exact cmpL_lt_le (hc' q e) (by have := h3 y hy; omega)
          · rintro ⟨h1, h2, h3⟩
            have p := List.pairwise_cons.1 h2
            exact ⟨fun y hy => h1 y (by simp [hy]), p.2, fun q e y hy => by injection e with e; subst e; exact p.1 y hy⟩
    · rw [if_neg hw]
      constructor
      · intro h; exact absurd h hw
      · rintro ⟨h, _⟩; exact (h x (by simp)).1
theorem wrongZ_iff (l : List Zp) : wrongZ l = 0 ↔ l.length ≤ 400 ∧ (∀ x ∈ l, wrongRowF x.1 = 0 ∧ x.2 ≠ 0 ∧ inW x.2 = true) ∧ Rise l := by
  unfold wrongZ
  by_cases h : 400 < l.length
  · rw [if_pos h]
    constructor
    · intro h; omega
    · rintro ⟨h', _⟩; omega
  · rw [if_neg h, goW_iff]
    constructor
    · rintro ⟨h1, h2, _⟩; exact ⟨by omega, h1, h2⟩
    · rintro ⟨_, h1, h2⟩; exact ⟨h1, h2, fun q e => by cases e⟩

def setZ (f : Int → Int) (l : List Zp) : List Zp := if wrongZ l = 0 then weighL f l else []

def posF (w : Int) : Int := if w < 0 then 0 else w
def oneF (w : Int) : Int := if 0 < w then 1 else 0
end Go.Proofs.Ytibobmkelmalkaa
