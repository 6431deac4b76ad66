/- The order of rows: plain facts; the walks of slices.CompareFunc over values and of vals.Rows. -/
import Derived.Test.YtbdhmjojamoafaaW4
import Derived.Test.YtbdhmjojamoafaaW5
import Derived.Test.YtbdhmjojamoafaaOrd
namespace Go.Proofs.Ytbdhmjojamoafaa
open Go.RowKit

abbrev Vl : Type := Int × Int × ByteArray
def cmpP (x y : Vl) : Int := cmpV x.1 x.2.1 x.2.2 y.1 y.2.1 y.2.2
def cmpL : List Vl → List Vl → Int
  | [], [] => 0
  | [], _ :: _ => -1
  | _ :: _, [] => 1
  | x :: r, y :: t => if cmpP x y = 0 then cmpL r t else cmpP x y

theorem cmpI_bd (a b : Int) : -1 ≤ cmpI a b ∧ cmpI a b ≤ 1 := by unfold cmpI; split <;> (try split) <;> omega
theorem cmpS_bd (a b : ByteArray) : -1 ≤ cmpS a b ∧ cmpS a b ≤ 1 := by unfold cmpS; split <;> (try split) <;> omega
theorem cmpP_bd (x y : Vl) : -1 ≤ cmpP x y ∧ cmpP x y ≤ 1 := by
  unfold cmpP cmpV
  split
  · exact cmpI_bd _ _
  · split
    · exact cmpI_bd _ _
    · split
      · exact cmpS_bd _ _
      · omega
theorem cmpL_bd : ∀ l t : List Vl, -1 ≤ cmpL l t ∧ cmpL l t ≤ 1
  | [], [] => by simp [cmpL]
  | [], _ :: _ => by simp [cmpL]
  | _ :: _, [] => by simp [cmpL]
  | x :: r, y :: t => by
    unfold cmpL
    split
    · exact cmpL_bd r t
    · exact cmpP_bd x y
theorem cmpP_neg (x y : Vl) : cmpP x y = -cmpP y x := cmpV_neg _ _ _ _ _ _
theorem cmpL_neg : ∀ l t : List Vl, cmpL t l = -cmpL l t
  | [], [] => rfl
  | [], _ :: _ => rfl
  | _ :: _, [] => rfl
  | x :: r, y :: t => by
    have h := cmpP_neg x y
    unfold cmpL
    by_cases e : cmpP y x = 0
    · have e' : cmpP x y = 0 := by omega
      simp only [e, e', if_true]
      exact cmpL_neg r t
    · have e' : ¬ cmpP x y = 0 := by omega
      simp only [e, e', if_false]
      omega
theorem cmpL_drop (l t : List Vl) (k : Nat) (h : k < l.length) (h' : k < t.length) : cmpL (l.drop k) (t.drop k) = if cmpP l[k] t[k] = 0 then cmpL (l.drop (k + 1)) (t.drop (k + 1)) else cmpP l[k] t[k] := by
  rw [List.drop_eq_getElem_cons h, List.drop_eq_getElem_cons h']
  rfl
theorem cmpL_long (l t : List Vl) (k : Nat) (h : k < l.length) (h' : t.length ≤ k) : cmpL (l.drop k) (t.drop k) = 1 := by
  rw [List.drop_eq_getElem_cons h, List.drop_eq_nil_of_le h']
  rfl
theorem cmpL_short (l t : List Vl) (k : Nat) (h : l.length ≤ k) (h' : k < t.length) : cmpL (l.drop k) (t.drop k) = -1 := by
  rw [List.drop_eq_getElem_cons h', List.drop_eq_nil_of_le h]
  rfl
theorem cmpL_same (l t : List Vl) (k : Nat) (h : l.length ≤ k) (h' : t.length ≤ k) : cmpL (l.drop k) (t.drop k) = 0 := by
  rw [List.drop_eq_nil_of_le h, List.drop_eq_nil_of_le h']
  rfl

/-- A slice holds these values: it is empty, or leads to them. -/
def SlAt (W : World) (a : Option Addr) (l : List Vl) : Prop :=
  l.length ≤ maxLen ∧ (l = [] ∨ ∃ b off, a = some ⟨b, off, none⟩ ∧ Row W b off l ∧ b < W.heap.size)
theorem SlAt.next {W w1 : World} {a : Option Addr} {l : List Vl} (h : SlAt W a l) (hb : Below W.heap.size W w1) : SlAt w1 a l := by
  obtain ⟨h0, h | ⟨b, off, e, hr, hlt⟩⟩ := h
  · exact ⟨h0, .inl h⟩
  · exact ⟨h0, .inr ⟨b, off, e, hr.next hlt hb, Nat.lt_of_lt_of_le hlt hb.size⟩⟩
theorem SlAt.elem {W : World} {a : Option Addr} {l : List Vl} (h : SlAt W a l) {k : Nat} (hk : k < l.length) :
    ∃ b off, a = some ⟨b, off, none⟩ ∧ b < W.heap.size ∧ W.cell? ⟨b, off + k * 3, none⟩ = some (.int .i64 l[k].1) ∧ W.cell? ⟨b, off + k * 3 + 1, none⟩ = some (.int .i64 l[k].2.1) ∧ W.cell? ⟨b, off + k * 3 + 2, none⟩ = some (.string l[k].2.2) := by
  obtain ⟨_, h | ⟨b, off, e, hr, hlt⟩⟩ := h
  · subst h; simp at hk
  · exact ⟨b, off, e, hlt, hr k hk⟩

end Go.Proofs.Ytbdhmjojamoafaa
