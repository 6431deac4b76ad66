/- Plain facts of streams: added up and told apart. -/
import Derived.Test.YtibobmkelmalkaaST5
namespace Go.Proofs.Ytibobmkelmalkaa
open Go.RowKit

theorem along_ok {l : List (List Zp)} {E : Nat → Int} (h : (alongF l E).1 = 0) : l.length ≤ 30 ∧ (∀ z ∈ l, wrongZ z = 0) ∧ (∀ k, k < l.length → E k = 0) ∧ alongF l E = (0, 0) ∧ ∀ Z, alongZ l E Z = (List.range l.length).map Z := by
  have hw : (wrongsF l).1 = 0 := by
    by_cases e : (wrongsF l).1 = 0
    · exact e
    · unfold alongF at h
      rw [if_neg e] at h
      exact absurd h e
  have he : alongF l E = eachF l.length E := by unfold alongF; rw [if_pos hw]
  rw [he] at h
  obtain ⟨h1, h2⟩ := eachF_ok h
  refine ⟨h1, (wrongs_ok hw).2, h2, he.trans (eachF_all h1 h2), fun Z => ?_⟩
  rw [alongZ_each hw]
  exact eachZ_all h1 h2
theorem along_of {l : List (List Zp)} {E : Nat → Int} (h1 : l.length ≤ 30) (h2 : ∀ z ∈ l, wrongZ z = 0) (h3 : ∀ k, k < l.length → E k = 0) : (alongF l E).1 = 0 ∧ ∀ Z, alongZ l E Z = (List.range l.length).map Z := by
  have hw : wrongsF l = (0, 0) := eachF_all h1 fun k hk => by rw [getD_at hk]; exact h2 _ (List.getElem_mem hk)
  have h : (alongF l E).1 = 0 := by unfold alongF; rw [hw, if_pos rfl, eachF_all h1 h3]
  exact ⟨h, (along_ok h).2.2.2.2⟩
theorem canon_weigh {z : List Zp} (h : Rise z) : weighL (fun w => w) z = canon z := canon_of (weighL_set _ _ h) fun q => weighL_wt (fun w => w) rfl q z h
theorem canon_right {z : List Zp} (h : wrongZ z = 0) : wrongZ (canon z) = 0 := by
  obtain ⟨h1, h2, h3⟩ := (wrongZ_iff z).1 h
  rw [← canon_weigh h3]
  refine (wrongZ_iff _).2 ⟨by have := weighL_len (fun w => w) z; omega, fun x hx => ?_, weighL_rise _ _ h3⟩
  obtain ⟨y, hy, rfl, h0⟩ := weighL_mem _ _ x hx
  exact ⟨(wrongRow_bare _).2 (h2 y hy).1, h0, (h2 y hy).2.2⟩
theorem bare_eq {z : List Zp} (h : wrongZ z = 0) : bothE 1 z [] = 0 ∧ bothZ 1 z [] = canon z := both_of h wrong_nil (canon_set z) (canon_right h) fun k => by rw [canon_wt]; simp [wt]
theorem canon_nil : canon [] = [] := rfl
theorem getD_map {n k : Nat} (Z : Nat → List Zp) (h : k < n) : ((List.range n).map Z).getD k [] = Z k := by
  rw [getD_at (by simpa using h)]; simp
theorem mem_range_map {n : Nat} {Z : Nat → List Zp} {z : List Zp} (h : z ∈ (List.range n).map Z) : ∃ k, k < n ∧ z = Z k := by
  obtain ⟨k, hk, rfl⟩ := List.mem_map.1 h
  exact ⟨k, List.mem_range.1 hk, rfl⟩
/-- What is added up, set by set. -/
theorem int_step {l : List (List Zp)} (h : ∀ k, k < l.length → intE l k = 0) : ∀ k, k ≤ l.length → IsSet (intS l k) ∧ wrongZ (intS l k) = 0
  | 0, _ => ⟨set_nil, wrong_nil⟩
  | k + 1, hk => by
    obtain ⟨_, _, h3, h4, _⟩ := both_inv (h k (by omega))
    exact ⟨h3, h4⟩
theorem int_wt {l : List (List Zp)} {k : Nat} (h : intE l k = 0) (q : List Vl) : wt (intS l (k + 1)) q = wt (intS l k) q + 1 * wt (l.getD k []) q := (both_inv h).2.2.2.2 q
theorem ahead_int {l : List (List Zp)} {n k : Nat} (h : k < n) : aheadL ((List.range n).map fun k => intS l (k + 1)) k = intS l k := by
  cases k with
  | zero => rfl
  | succ k => exact getD_map _ (by omega)
theorem undo1 {l : List (List Zp)} (h : (alongF l (intE l)).1 = 0) : l.length ≤ 30 ∧ (alongF (alongZ l (intE l) fun k => intS l (k + 1)) (difE (alongZ l (intE l) fun k => intS l (k + 1)))).1 = 0 ∧ alongZ (alongZ l (intE l) fun k => intS l (k + 1)) (difE (alongZ l (intE l) fun k => intS l (k + 1))) (difS (alongZ l (intE l) fun k => intS l (k + 1))) = bareZ l := by
  obtain ⟨h1, h2, h3, _, h5⟩ := along_ok h
  rw [h5]
  have st := int_step h3
  have key : ∀ k, k < l.length → difE ((List.range l.length).map fun k => intS l (k + 1)) k = 0 ∧ difS ((List.range l.length).map fun k => intS l (k + 1)) k = canon (l.getD k []) := fun k hk => by
    unfold difE difS
    rw [getD_map _ hk, ahead_int hk]
    have hr := h2 _ (List.getElem_mem hk)
    refine both_of (st (k + 1) (by omega)).2 (st k (by omega)).2 (canon_set _) (canon_right (by rw [getD_at hk]; exact hr)) fun q => ?_
    rw [canon_wt, int_wt (h3 k hk)]
    omega
  obtain ⟨e1, e2⟩ := along_of (l := (List.range l.length).map fun k => intS l (k + 1)) (E := difE ((List.range l.length).map fun k => intS l (k + 1))) (by simpa using h1) (fun z hz => by
    obtain ⟨k, hk, rfl⟩ := mem_range_map hz
    exact (st (k + 1) (by omega)).2) (fun k hk => (key k (by simpa using hk)).1)
  refine ⟨h1, e1, ?_⟩
  rw [e2]
  refine List.ext_getElem (by simp [bareZ]) fun k hk hk' => ?_
  have hk2 : k < l.length := by simpa using hk
  simp only [List.getElem_map, List.getElem_range, bareZ]
  rw [(key k hk2).2, (bare_eq (h2 _ (List.getElem_mem hk2))).2, getD_at hk2]
theorem undo2 {l : List (List Zp)} (h : (alongF l (difE l)).1 = 0) : l.length ≤ 30 ∧ (alongF (alongZ l (difE l) (difS l)) (intE (alongZ l (difE l) (difS l)))).1 = 0 ∧ alongZ (alongZ l (difE l) (difS l)) (intE (alongZ l (difE l) (difS l))) (fun k => intS (alongZ l (difE l) (difS l)) (k + 1)) = bareZ l := by
  obtain ⟨h1, h2, h3, _, h5⟩ := along_ok h
  rw [h5]
  have hin : ∀ k, k < l.length → IsSet (difS l k) ∧ wrongZ (difS l k) = 0 ∧ ∀ q, wt (difS l k) q = wt (l.getD k []) q + (-1) * wt (aheadL l k) q := fun k hk => by
    obtain ⟨_, _, a3, a4, a5⟩ := both_inv (h3 k hk)
    exact ⟨a3, a4, a5⟩
  have step : ∀ k, k < l.length → intS ((List.range l.length).map (difS l)) k = canon (aheadL l k) → intE ((List.range l.length).map (difS l)) k = 0 ∧ intS ((List.range l.length).map (difS l)) (k + 1) = canon (l.getD k []) := fun k hk hs => by
    show bothE 1 (intS _ k) (((List.range l.length).map (difS l)).getD k []) = 0 ∧ bothZ 1 (intS _ k) (((List.range l.length).map (difS l)).getD k []) = _
    rw [hs, getD_map _ hk]
    obtain ⟨a3, a4, a5⟩ := hin k hk
    refine both_of (canon_right (ahead_right h2 k)) a4 (canon_set _) (canon_right (by rw [getD_at hk]; exact h2 _ (List.getElem_mem hk))) fun q => ?_
    rw [canon_wt, canon_wt, a5]
    omega
  have all : ∀ k, k ≤ l.length → intS ((List.range l.length).map (difS l)) k = canon (aheadL l k) := by
    intro k
    induction k with
    | zero => intro _; rfl
    | succ k ih => intro hk; exact (step k (by omega) (ih (by omega))).2
  obtain ⟨e1, e2⟩ := along_of (l := (List.range l.length).map (difS l)) (E := intE ((List.range l.length).map (difS l))) (by simpa using h1) (fun z hz => by
    obtain ⟨k, hk, rfl⟩ := mem_range_map hz
    exact (hin k hk).2.1) (fun k hk => (step k (by simpa using hk) (all k (Nat.le_of_lt (by simpa using hk)))).1)
  refine ⟨h1, e1, ?_⟩
  rw [e2]
  refine List.ext_getElem (by simp [bareZ]) fun k hk hk' => ?_
  have hk2 : k < l.length := by simpa using hk
  simp only [List.getElem_map, List.getElem_range, bareZ]
  rw [(step k hk2 (all k (by omega))).2, (bare_eq (h2 _ (List.getElem_mem hk2))).2, getD_at hk2]
/-- Told apart it is it less it one later. -/
theorem later1 {l : List (List Zp)} (hd : (alongF l (delE l)).1 = 0) (h : (alongF l (difE l)).1 = 0) {k : Nat} (hk : k < l.length) : bothE (-1) l[k] (delS l k) = 0 ∧ bothZ (-1) l[k] (delS l k) = difS l k := by
  obtain ⟨_, h2, h3, _, _⟩ := along_ok h
  obtain ⟨_, _, d3, _, _⟩ := along_ok hd
  have e := d3 k hk
  have es : delS l k = canon (aheadL l k) := by unfold delS gatherZ; exact if_pos e
  obtain ⟨_, _, a3, a4, a5⟩ := both_inv (h3 k hk)
  rw [es]
  refine both_of (h2 _ (List.getElem_mem hk)) (canon_right (ahead_right h2 k)) a3 a4 fun q => ?_
  rw [canon_wt, ← getD_at hk]
  exact a5 q
/-- What is added up is what comes, and what was added up one ahead. -/
theorem later2 {l : List (List Zp)} (h : (alongF l (intE l)).1 = 0) : (alongF (alongZ l (intE l) fun k => intS l (k + 1)) (delE (alongZ l (intE l) fun k => intS l (k + 1)))).1 = 0 ∧ ∀ k (hk : k < l.length), delS (alongZ l (intE l) fun k => intS l (k + 1)) k = intS l k ∧ bothE 1 l[k] (intS l k) = 0 ∧ bothZ 1 l[k] (intS l k) = intS l (k + 1) := by
  obtain ⟨h1, h2, h3, _, h5⟩ := along_ok h
  rw [h5]
  have st := int_step h3
  have key : ∀ k, k < l.length → delE ((List.range l.length).map fun k => intS l (k + 1)) k = 0 ∧ delS ((List.range l.length).map fun k => intS l (k + 1)) k = intS l k := fun k hk => by
    unfold delE delS
    rw [ahead_int hk]
    exact gather_right (st k (by omega)).2 (st k (by omega)).1
  obtain ⟨e1, e2⟩ := along_of (l := (List.range l.length).map fun k => intS l (k + 1)) (E := delE ((List.range l.length).map fun k => intS l (k + 1))) (by simpa using h1) (fun z hz => by
    obtain ⟨k, hk, rfl⟩ := mem_range_map hz
    exact (st (k + 1) (by omega)).2) (fun k hk => (key k (by simpa using hk)).1)
  refine ⟨e1, fun k hk => ⟨(key k hk).2, ?_⟩⟩
  refine both_of (h2 _ (List.getElem_mem hk)) (st k (by omega)).2 (st (k + 1) (by omega)).1 (st (k + 1) (by omega)).2 fun q => ?_
  rw [int_wt (h3 k hk), getD_at hk]
  omega
end Go.Proofs.Ytibobmkelmalkaa
