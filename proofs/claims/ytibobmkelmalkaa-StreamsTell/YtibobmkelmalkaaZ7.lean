/- The walk of zsets.summed. -/
import Derived.Test.YtibobmkelmalkaaZ6
namespace Go.Proofs.Ytibobmkelmalkaa
open Go.RowKit Go.Lib Go.Shelf

theorem mergedL_bd (m : Int) (hm : 0 ≤ m) : ∀ l : List Zp, (∀ x ∈ l, -m ≤ x.2 ∧ x.2 ≤ m) → ∀ y ∈ mergedL l, -(m * l.length) ≤ y.2 ∧ y.2 ≤ m * l.length := by
  refine snoc_rec (by simp [mergedL]) ?_
  intro l x ih h y hy
  have hx := h x (by simp)
  have ih := ih (fun u hu => h u (by simp [hu]))
  rw [mergedL_snoc] at hy
  have e : m * ((l ++ [x]).length : Int) = m * l.length + m := by
    simp only [List.length_append, List.length_singleton]
    rw [Int.natCast_add, Int.mul_add]; simp
  rw [e]
  have hp : 0 ≤ m * (l.length : Int) := Int.mul_nonneg hm (by omega)
  rcases List.eq_nil_or_concat (mergedL l) with e' | ⟨a, u, e'⟩
  · rw [e', mergeTo_nil] at hy
    simp at hy; subst hy; omega
  · rw [e', List.concat_eq_append, mergeTo_snoc] at hy
    have hu := ih u (by rw [e']; simp)
    split at hy
    · simp at hy
      rcases hy with hy | rfl
      · have := ih y (by rw [e']; simp [hy]); omega
      · simp only; omega
    · rcases List.mem_append.1 hy with hy | hy
      · have := ih y (by rw [e', List.concat_eq_append]; exact hy); omega
      · simp at hy; subst hy; omega

theorem sorted_list {w : World} {d d' : Array (Zg w)} {n : Nat} (hn : d.size = n) (hp : Go.Sort.PermIn 0 n d d') (hs : Go.Sort.SortedIn (ltOf (cfG w)) 0 n d') :
    d'.size = n ∧ (d'.toList.map (plG w)).Perm (d.toList.map (plG w)) ∧ (d'.toList.map (plG w)).Pairwise fun x y => cmpL x.1 y.1 ≤ 0 := by
  obtain ⟨h1, _, h3⟩ := hp
  have e1 : d'.size = n := h1.trans hn
  have x1 : d'.extract 0 n = d' := by rw [← e1]; exact Array.extract_size
  have x2 : d.extract 0 n = d := by rw [← hn]; exact Array.extract_size
  rw [x1, x2] at h3
  refine ⟨e1, h3.map _, ?_⟩
  rw [List.pairwise_map, List.pairwise_iff_getElem]
  intro i j hi hj hij
  have hi' : i < d'.size := by simpa using hi
  have hj' : j < d'.size := by simpa using hj
  have := of_decide_eq_false (hs i j (Nat.zero_le _) hij (by omega))
  rw [getElem!_pos d' i hi', getElem!_pos d' j hj'] at this
  simp only [Array.getElem_toList, plG]
  simp only [cfG] at this
  have n1 := cmpL_neg d'[i].1.row d'[j].1.row
  omega

/-- Cells that hold rows with weights, whose values lie in a world. -/
def EncB (W : World) (xs : List Value) (l : List Zp) : Prop :=
  xs.length = l.length * 2 ∧ ∀ (i : Nat) (h : i < l.length), ∃ a cap, xs[i * 2]? = some (.slice a l[i].1.length cap) ∧ xs[i * 2 + 1]? = some (.int .i64 l[i].2) ∧ SlAt W a l[i].1
theorem EncB.push {W : World} {xs : List Value} {l : List Zp} (h : EncB W xs l) {a : Option Addr} {cap : Nat} {x : Zp} (hs : SlAt W a x.1) : EncB W (xs ++ [.slice a x.1.length cap, .int .i64 x.2]) (l ++ [x]) := by
  have lx := h.1
  refine ⟨by simp [lx]; omega, fun i hi => ?_⟩
  by_cases hi' : i < l.length
  · obtain ⟨a', c', h1, h2, h3⟩ := h.2 i hi'
    refine ⟨a', c', ?_, ?_, ?_⟩
    · rw [List.getElem?_append_left (by omega), h1, List.getElem_append_left hi']
    · rw [List.getElem?_append_left (by omega), h2, List.getElem_append_left hi']
    · rw [List.getElem_append_left hi']; exact h3
  · have : i = l.length := by simp at hi; omega
    subst this
    refine ⟨a, cap, ?_, ?_, ?_⟩
    · rw [List.getElem?_append_right (by omega)]; simp [lx]
    · rw [List.getElem?_append_right (by omega)]; simp [lx]
    · simpa using hs
theorem EncB.last {W : World} {xs : List Value} {l : List Zp} {y : Zp} (h : EncB W xs (l ++ [y])) (z : Int) : EncB W (xs.set (l.length * 2 + 1) (.int .i64 z)) (l ++ [(y.1, z)]) := by
  have lx := h.1
  refine ⟨by simpa using lx, fun i hi => ?_⟩
  have hi0 : i < (l ++ [y]).length := by simpa using hi
  obtain ⟨a', c', h1, h2, h3⟩ := h.2 i hi0
  by_cases hi' : i < l.length
  · rw [List.getElem_append_left hi'] at h1 h2 h3 ⊢
    refine ⟨a', c', ?_, ?_, h3⟩
    · rw [List.getElem?_set_ne (by omega)]; exact h1
    · rw [List.getElem?_set_ne (by omega)]; exact h2
  · have : i = l.length := by simp at hi; omega
    subst this
    simp only [List.getElem_concat_length] at h1 h2 h3 ⊢
    refine ⟨a', c', ?_, ?_, h3⟩
    · rw [List.getElem?_set_ne (by omega)]; exact h1
    · rw [List.getElem?_set_self (by rw [lx]; simp; omega)]
theorem own_shape {W : World} {base n : Nat} {v : Value} {xs : List Value} (h : W.ownsRow base 45 2 v n xs) : ∃ a c, v = .slice a n c := by
  obtain ⟨_, ⟨rfl, h0⟩ | ⟨g, c1, cur, rfl, _⟩⟩ := h
  · exact ⟨none, 0, by rw [h0]⟩
  · exact ⟨_, c1, rfl⟩
theorem own_some {W : World} {base n : Nat} {v : Value} {xs : List Value} (h : W.ownsRow base 45 2 v n xs) (hn : 0 < n) : ∃ g c, v = .slice (some ⟨g, 0, none⟩) n c ∧ base ≤ g ∧ g < W.heap.size := by
  have h' := h
  obtain ⟨_, ⟨rfl, h0⟩ | ⟨g, c1, cur, rfl, hg, _⟩⟩ := h
  · omega
  · exact ⟨g, c1, rfl, hg, (h'.lt g rfl).2⟩
theorem own_zsB {W w2 : World} {base n : Nat} {v : Value} {xs : List Value} {l : List Zp} (h : W.ownsRow base 45 2 v n xs) (hn : n = l.length) (he : EncB w2 xs l) (hb : Below w2.heap.size w2 W) : ∃ a cap, v = .slice a l.length cap ∧ ZsAt W a l := by
  subst hn
  have h1' := h
  obtain ⟨hx, h1 | ⟨g, cap, cur, e, hg, hh, hn, hc, hs, ht⟩⟩ := h
  · obtain ⟨rfl, h0⟩ := h1
    have : l = [] := List.eq_nil_of_length_eq_zero h0
    subst this
    exact ⟨none, 0, rfl, Nat.zero_le _, .inl rfl⟩
  · subst e
    refine ⟨_, cap, rfl, Nat.le_trans hn hc, .inr ⟨g, 0, rfl, (h1'.lt g rfl).2, ?_⟩⟩
    intro i hi
    obtain ⟨a, cp, e0, e1, e2⟩ := he.2 i hi
    refine ⟨?_, a, cp, ?_, e2.next hb⟩
    · rw [h1'.cellAt _ (by omega), ← e1]; congr 1; omega
    · rw [h1'.cellAt _ (by omega), ← e0]; congr 1; omega

/-- What the loop has come to. -/
def SumTo (w2 wr : World) (v : Value) (acc : List Zp) : Prop := ∃ xs, wr.ownsRow w2.heap.size 45 2 v acc.length xs ∧ EncB w2 xs acc
theorem SumTo.next {w2 wr w3 : World} {v : Value} {acc : List Zp} (h : SumTo w2 wr v acc) (hb : Below wr.heap.size wr w3) : SumTo w2 w3 v acc := by
  obtain ⟨xs, h1, h2⟩ := h
  exact ⟨xs, own_next h1 hb, h2⟩
theorem SumTo.last {w2 wr : World} {g c : Nat} {a : List Zp} {y : Zp} (h : SumTo w2 wr (.slice (some ⟨g, 0, none⟩) (a.length + 1) c) (a ++ [y])) (z : Int) :
    SumTo w2 (wr.setCell ⟨g, a.length * 2 + 1, none⟩ (.int .i64 z)) (.slice (some ⟨g, 0, none⟩) (a.length + 1) c) (a ++ [(y.1, z)]) := by
  obtain ⟨xs, h1, h2⟩ := h
  have e : (a ++ [y]).length = a.length + 1 := by simp
  rw [e] at h1
  refine ⟨_, ?_, h2.last z⟩
  have := (h1.stored (a.length * 2 + 1) (.int .i64 z)).1
  simpa using this

end Go.Proofs.Ytibobmkelmalkaa
