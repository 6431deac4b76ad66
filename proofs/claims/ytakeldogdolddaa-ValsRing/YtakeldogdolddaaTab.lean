/- The same for a great region: what each operation writes, looks at and waits for is read off once into a table of numbers, and the order of the text is judged by the table. -/
import Derived.Test.YtakeldogdolddaaPast
namespace Go.Proofs.Ytakeldogdolddaa
open Go.RowKit

/-- What an operation writes; what it looks at; for which it waits. -/
abbrev Line : Type := Option Nat × List Nat × List Nat
def lineOf (ops : Array Oper) (o : Oper) : Line := (o.dst, o.looksAt ops, (o.after.toList.filter (Region.binds .any ·)).map (·.on))
def apartT (x y : Line) : Bool :=
  (match x.1 with
   | some d => !y.2.1.contains d && y.1 != some d
   | none => true) &&
  (match y.1 with
   | some d => !x.2.1.contains d
   | none => true)
def lexT : Nat → List Line → Bool
  | _, [] => true
  | i, x :: r => x.2.2.all (fun j => Nat.blt j i) && r.all (fun y => y.2.2.contains i || apartT x y) && lexT (i + 1) r

theorem apartT_eq (ops : Array Oper) (x y : Oper) : apartT (lineOf ops x) (lineOf ops y) = x.apart ops y := rfl

theorem lexT_spec : ∀ (T : List Line) (k : Nat), lexT k T = true → ∀ (i : Nat) (x : Line), T[i]? = some x → (∀ e ∈ x.2.2, e < k + i) ∧ ∀ (j : Nat) (y : Line), i < j → T[j]? = some y → (k + i) ∈ y.2.2 ∨ apartT x y = true
  | [], _, _, i, x, h => by simp at h
  | x0 :: r, k, hT, 0, x, h => by
    simp only [lexT, Bool.and_eq_true, List.all_eq_true] at hT
    simp at h; subst h
    refine ⟨fun e he => by have := hT.1.1 e he; rw [Nat.blt_eq] at this; omega, fun j y hj hy => ?_⟩
    obtain ⟨j, rfl⟩ : ∃ m, j = m + 1 := ⟨j - 1, by omega⟩
    simp at hy
    have := hT.1.2 y (List.mem_of_getElem? hy)
    simpa using this
  | x0 :: r, k, hT, i + 1, x, h => by
    simp only [lexT, Bool.and_eq_true] at hT
    simp at h
    have := lexT_spec r (k + 1) hT.2 i x h
    refine ⟨fun e he => by have := this.1 e he; omega, fun j y hj hy => ?_⟩
    obtain ⟨j, rfl⟩ : ∃ m, j = m + 1 := ⟨j - 1, by omega⟩
    simp at hy
    have := this.2 j y (by omega) hy
    rwa [show k + 1 + i = k + (i + 1) from by omega] at this

section
variable {P : Program} {ops : Array Oper} {C : World → Prop}

/-- Just the first k have come up. -/
def Inv (ops : Array Oper) (k : Nat) (listed : Array Bool) : Prop := listed.size = ops.size ∧ ∀ j, j < ops.size → listed[j]? = some (decide (j < k))

theorem Inv.next {k : Nat} {listed : Array Bool} (h : Inv ops k listed) : Inv ops (k + 1) (listed.setIfInBounds k true) := by
  refine ⟨by simp [h.1], fun j hj => ?_⟩
  by_cases e : k = j
  · subst e
    simp [h.1, hj]
  · rw [Array.getElem?_setIfInBounds_ne e, h.2 j hj]
    congr 1
    have : (j < k) ↔ (j < k + 1) := by omega
    simp [this]

theorem wpAnyQ_tab {Q : Act → Prop} (hs : Region.noSelect ops = true) (hT : lexT 0 (ops.toList.map (lineOf ops)) = true) : ∀ (l : List Oper) (k : Nat) (listed : Array Bool) (a : Act), (∀ j, l[j]? = ops[k + j]?) →
    Inv ops k listed → wpQuiet P ops C Q l a → wpAnyQ P .any ops C Q l.length listed a
  | [], k, listed, a, hl, hI, h => by
    refine ⟨?_, h⟩
    rw [List.eq_nil_iff_forall_not_mem]
    intro j hj
    obtain ⟨hun, o, ho, _⟩ := mem_ready.1 hj
    have hlt : j < ops.size := (Array.getElem?_eq_some_iff.1 ho).1
    have hk : ¬ j < k := by
      intro hjk
      have := hI.2 j hlt
      simp [this, hjk] at hun
    have := hl (j - k)
    rw [show k + (j - k) = j from by omega, ho] at this
    simp at this
  | o :: l, k, listed, a, hl, hI, h => by
    have h0 : ops[k]? = some o := by simpa using (hl 0).symm
    have hk : k < ops.size := (Array.getElem?_eq_some_iff.1 h0).1
    have hg : ∀ j oj, ops[j]? = some oj → (ops.toList.map (lineOf ops))[j]? = some (lineOf ops oj) := fun j oj hj => by rw [List.getElem?_map, Array.getElem?_toList, hj]; rfl
    have hst : qOp P ops C k (wpQuiet P ops C Q l) a := by unfold qOp; simp only [h0]; exact h
    obtain ⟨v, hy, hK⟩ := yieldsIn_of_qOp h0 hst
    have hsp := lexT_spec _ 0 hT k _ (hg k o h0)
    simp only [Nat.zero_add] at hsp
    refine wpAnyQ_first h0 (Region.noSelect_spec hs) l.length listed a ?_ ?_ hy (wpAnyQ_tab hs hT l (k + 1) _ _ (fun j => by have := hl (j + 1); simpa [Nat.add_assoc, Nat.add_comm 1 j] using this) hI.next hK)
    · intro j oj hj hne hun hno
      have hlt : j < ops.size := (Array.getElem?_eq_some_iff.1 hj).1
      have hkj : k < j := by
        have := hI.2 j hlt
        simp [this] at hun
        omega
      rcases hsp.2 j _ hkj (hg j oj hj) with h' | h'
      · simp only [lineOf, List.mem_map, List.mem_filter] at h'
        obtain ⟨e, ⟨he, hb⟩, hon⟩ := h'
        exact absurd hon (hno e (by simpa using he) hb)
      · rw [apartT_eq] at h'; exact h'
    · rw [mem_ready]
      refine ⟨by simp [hI.2 k hk], o, h0, fun e he hb => ?_⟩
      have hlt : e.on < k := hsp.1 e.on (by
        simp only [lineOf, List.mem_map, List.mem_filter]
        exact ⟨e, ⟨by simpa using he, hb⟩, rfl⟩)
      simp [hI.2 e.on (by omega), hlt]

theorem wp_region_tab {id : Nat} {Q : Exit → Act → World → Prop} {a : Act} {w : World} {l : List Oper} (T : List Line) (hm : P.follows .mixedOrders = true) (hs : Region.noSelect l.toArray = true) (ht : l.map (lineOf l.toArray) = T) (hT : lexT 0 T = true)
    (h : wpQuiet P l.toArray (fun w' => ∃ n : Past w, w' = n.now) (fun a' => ∀ w', (∃ n : Past w, w' = n.now) → Q .normal a' w') l a) : (Code.region id l.toArray true).wp P Q a w := by
  refine wp_region_any hm (wpAny_of_quiet (C := fun w' => ∃ n : Past w, w' = n.now) (Q := fun a' => ∀ w', (∃ n : Past w, w' = n.now) → Q .normal a' w') (fun _ w' hw' h => h w' hw') _ _ _ _ ⟨⟨w.drew, (Below.refl _ _).drew⟩, rfl⟩ ?_)
  have := wpAnyQ_tab (P := P) (C := fun w' => ∃ n : Past w, w' = n.now) (ops := l.toArray) hs (by simpa [ht] using hT) l 0 (Array.replicate l.toArray.size false) a (by simp) ⟨by simp, fun j hj => by rw [Array.getElem?_replicate, if_pos hj]; simp⟩ h
  simpa using this
end
end Go.Proofs.Ytakeldogdolddaa
