/- The walk of tidelaw2.ZsetsForm. -/
import Derived.Test.YtibobmkelmalkaaZC
namespace Go.Proofs.Ytibobmkelmalkaa
open Go.RowKit Go.Lib Go.Shelf

theorem putL_mem (r : List Vl) (w : Int) : ∀ z : List Zp, ∀ y ∈ putL z r w, y ∈ z ∨ y.1 = bareL r
  | [] => by
    unfold putL
    split
    · simp
    · intro y hy; simp at hy; subst hy; exact .inr rfl
  | x :: t => by
    have ih := putL_mem r w t
    unfold putL
    split
    · intro y hy
      rcases List.mem_cons.1 hy with rfl | hy
      · exact .inl (by simp)
      · rcases ih y hy with h | h
        · exact .inl (by simp [h])
        · exact .inr h
    · split
      · split
        · intro y hy; exact .inl (by simp [hy])
        · intro y hy
          rcases List.mem_cons.1 hy with rfl | hy
          · exact .inr rfl
          · exact .inl (by simp [hy])
      · split
        · intro y hy; exact .inl hy
        · intro y hy
          rcases List.mem_cons.1 hy with rfl | hy
          · exact .inr rfl
          · exact .inl hy
theorem canonF_row (l : List Zp) : ∀ z : List Zp, ∀ y ∈ l.foldl (fun z x => putL z x.1 x.2) z, y ∈ z ∨ ∃ x ∈ l, y.1 = bareL x.1 := by
  induction l with
  | nil => intro z y hy; exact .inl hy
  | cons x r ih =>
    intro z y hy
    rcases ih _ y hy with h | ⟨u, hu, e⟩
    · rcases putL_mem _ _ _ y h with h | h
      · exact .inl h
      · exact .inr ⟨x, by simp, h⟩
    · exact .inr ⟨u, by simp [hu], e⟩
theorem canon_row (l : List Zp) : ∀ y ∈ canon l, ∃ x ∈ l, y.1 = bareL x.1 := fun y hy => by
  rcases canonF_row l [] y hy with h | h
  · cases h
  · exact h
theorem canon_congr {l t : List Zp} (h : ∀ q, wt l q = wt t q) : canon l = canon t :=
  set_unique _ _ (canon_set l) (canon_set t) fun q => by rw [canon_wt, canon_wt, h]
theorem canon_self {z : List Zp} (h : IsSet z) : canon z = z := (canon_of h fun _ => rfl).symm
theorem gather_ok {l : List Zp} (h : gatherE l = 0) : outW (canon l) = false ∧ (canon l).length ≤ 400 := by
  unfold gatherE at h
  by_cases h1 : outW (canon l) = true
  · rw [if_pos h1] at h; omega
  · rw [if_neg h1] at h
    by_cases h2 : 400 < (canon l).length
    · rw [if_pos h2] at h; omega
    · exact ⟨by simpa using h1, by omega⟩
theorem outW_in {z : List Zp} (h : outW z = false) : ∀ x ∈ z, inW x.2 = true := by
  unfold outW at h
  rw [List.any_eq_false] at h
  intro x hx
  simpa using h x hx
theorem wrong_canon {l : List Zp} (hr : ∀ x ∈ l, wrongRowF x.1 = 0) (h : gatherE l = 0) : wrongZ (canon l) = 0 := by
  obtain ⟨h1, h2⟩ := gather_ok h
  refine (wrongZ_iff _).2 ⟨h2, fun y hy => ?_, (canon_set l).rise⟩
  obtain ⟨x, hx, e⟩ := canon_row l y hy
  refine ⟨?_, (canon_set l).ne y hy, outW_in h1 y hy⟩
  rw [e, wrongRow_bare]
  exact hr x hx
theorem of_ok {l : List Zp} (h : ofE l = 0) : l.length ≤ 1600 ∧ goO l = 0 ∧ gatherE l = 0 := by
  unfold ofE at h
  by_cases h1 : 1600 < l.length
  · rw [if_pos h1] at h; omega
  · rw [if_neg h1] at h
    by_cases h2 : goO l = 0
    · rw [if_pos h2] at h; exact ⟨by omega, h2, h⟩
    · rw [if_neg h2] at h; exact absurd h h2
theorem of_set {z : List Zp} (h : wrongZ z = 0) (hs : IsSet z) : ofE z = 0 ∧ ofZ z = z := by
  obtain ⟨h1, h2, h3⟩ := (wrongZ_iff z).1 h
  have g : goO z = 0 := (goO_iff z).2 fun x hx => ⟨(h2 x hx).1, (h2 x hx).2.2⟩
  have e : ofE z = 0 := by
    unfold ofE gatherE
    rw [if_neg (by omega), if_pos g, canon_self hs]
    have : outW z = false := by
      unfold outW
      rw [List.any_eq_false]
      intro x hx
      simp [(h2 x hx).2.2]
    rw [this, if_neg (by decide), if_neg (by omega)]
  exact ⟨e, by unfold ofZ; rw [if_pos e, canon_self hs]⟩

def piece (at_ : Int) (m : Nat) (x : Zp) : List Zp := if (m : Int) = at_ ∧ 1 < x.2 then [(x.1, x.2 - 1), (x.1, 1)] else [x]
def backF (at_ : Int) : Nat → List Zp → List Zp
  | _, [] => []
  | m, x :: r => backF at_ (m + 1) r ++ piece at_ m x
theorem backF_step (at_ : Int) (l : List Zp) (k : Nat) (h : k < l.length) : backF at_ k (l.drop k) = backF at_ (k + 1) (l.drop (k + 1)) ++ piece at_ k l[k] := by
  rw [List.drop_eq_getElem_cons h]; rfl
theorem piece_wt (at_ : Int) (m : Nat) (x : Zp) (q : List Vl) : wt (piece at_ m x) q = wt [x] q := by
  unfold piece
  split
  · simp only [wt]; split <;> omega
  · rfl
theorem backF_wt (at_ : Int) (q : List Vl) : ∀ (t : List Zp) (m : Nat), wt (backF at_ m t) q = wt t q
  | [], _ => rfl
  | x :: r, m => by
    have ih := backF_wt at_ q r (m + 1)
    rw [backF, wt_append, ih, piece_wt]
    simp only [wt]; omega
theorem backF_in (at_ : Int) : ∀ (t : List Zp) (m : Nat), (∀ x ∈ t, wrongRowF x.1 = 0 ∧ inW x.2 = true) → ∀ x ∈ backF at_ m t, wrongRowF x.1 = 0 ∧ inW x.2 = true
  | [], _, _ => by simp [backF]
  | y :: r, m, h => by
    have ih := backF_in at_ r (m + 1) (fun x hx => h x (by simp [hx]))
    have hy := h y (by simp)
    intro x hx
    rw [backF] at hx
    rcases List.mem_append.1 hx with hx | hx
    · exact ih x hx
    · unfold piece at hx
      have := (inW_iff _).1 hy.2
      split at hx
      · simp at hx
        rcases hx with rfl | rfl
        · exact ⟨hy.1, (inW_iff _).2 (by simp only; omega)⟩
        · exact ⟨hy.1, (inW_iff _).2 (by simp only; omega)⟩
      · simp at hx; subst hx; exact hy
theorem backF_len (at_ : Int) : ∀ (t : List Zp) (m : Nat), (backF at_ m t).length ≤ t.length * 2
  | [], _ => by simp [backF]
  | y :: r, m => by
    have ih := backF_len at_ r (m + 1)
    rw [backF, List.length_append]
    have : (piece at_ m y).length ≤ 2 := by unfold piece; split <;> simp
    simp; omega
theorem back_of {l : List Zp} (at_ : Int) (h : ofE l = 0) (hl : (backF at_ 0 l).length ≤ 1600) : ofE (backF at_ 0 l) = 0 ∧ ofZ (backF at_ 0 l) = canon l := by
  obtain ⟨h1, h2, h3⟩ := of_ok h
  have hc : canon (backF at_ 0 l) = canon l := canon_congr fun q => backF_wt at_ q l 0
  have g : goO (backF at_ 0 l) = 0 := (goO_iff _).2 (backF_in at_ l 0 ((goO_iff l).1 h2))
  have ge : gatherE (backF at_ 0 l) = 0 := by
    unfold gatherE at h3 ⊢
    rw [hc]; exact h3
  have e : ofE (backF at_ 0 l) = 0 := by
    unfold ofE
    rw [if_neg (by omega), if_pos g, ge]
  exact ⟨e, by unfold ofZ; rw [if_pos e, hc]⟩

theorem news2 {W : World} {B : Nat} (hB : W.heap.size = B) (u0 u1 : Value) : ∀ j u, [u0, u1][j]? = some u → (W.alloc (.cells #[u0, u1] 45)).cell? ((⟨B, 0, none⟩ : Addr).add j) = some u := by
  subst hB
  intro j u hj
  have hn := heap_alloc_new W (.cells #[u0, u1] 45)
  match j, hj with
  | 0, hj => simp at hj; subst hj; simp [Addr.add]
  | 1, hj => simp at hj; subst hj; simp [Addr.add]
theorem one2 (a : Option Addr) (m c : Nat) (x : Int) : ∀ u ∈ [Value.slice a m c, .int .i64 x], u.oneCell' = true := by
  intro u hu; simp at hu; rcases hu with rfl | rfl <;> rfl

theorem box_ne {W : World} {base n B : Nat} {v : Value} {xs : List Value} {a : Option Addr} {m c : Nat} {x y : Int} (ho : W.ownsRow base 45 2 v n (xs ++ [.slice a m c, .int .i64 y])) (hbox : W.heap[B]? = some (.cells #[.slice a m c, .int .i64 x] 45 (0, 0))) (hne : y ≠ x) : v.ownBlock ≠ some B := by
  obtain ⟨hl, ⟨rfl, _⟩ | ⟨g, cap, cur, rfl, _, hh, hn, hc, hs, ht⟩⟩ := ho
  · simp [Value.ownBlock]
  · simp only [Value.ownBlock]
    intro e
    injection e with e
    subst e
    rw [hbox] at hh
    simp only [Option.some.injEq, Obj.cells.injEq, and_true] at hh
    subst hh
    simp at hs hl
    have n1 : n = 1 := by omega
    subst n1
    have x0 : xs = [] := List.eq_nil_of_length_eq_zero (by omega)
    subst x0
    simp at ht
    exact hne ht.symm

end Go.Proofs.Ytibobmkelmalkaa
