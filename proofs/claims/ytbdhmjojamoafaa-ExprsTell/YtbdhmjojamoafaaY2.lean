/- Slices of numbers; allOf, colType, litType, kidsType. -/
import Derived.Test.YtbdhmjojamoafaaY1
namespace Go.Proofs.Ytbdhmjojamoafaa
open Go.RowKit

/-- A slice holds these numbers, and lies below B. -/
def IsAt (B : Nat) (W : World) (a : Option Addr) (l : List Int) : Prop :=
  l.length ≤ maxLen ∧ (l = [] ∨ ∃ b off, a = some ⟨b, off, none⟩ ∧ b < B ∧ ∀ (i : Nat) (h : i < l.length), W.cell? ⟨b, off + i, none⟩ = some (.int .i64 l[i]))
theorem IsAt.next {B B' : Nat} {W w1 : World} {a : Option Addr} {l : List Int} (h : IsAt B W a l) (hb : Below B' W w1) (hB : B ≤ B') : IsAt B w1 a l := by
  obtain ⟨h0, h | ⟨b, off, e, hlt, hr⟩⟩ := h
  · exact ⟨h0, .inl h⟩
  · exact ⟨h0, .inr ⟨b, off, e, hlt, fun i hi => (hb.cell (p := ⟨b, _, none⟩) (Nat.lt_of_lt_of_le hlt hB)).trans (hr i hi)⟩⟩
theorem IsAt.up {B B' : Nat} {W : World} {a : Option Addr} {l : List Int} (h : IsAt B W a l) (hB : B ≤ B') : IsAt B' W a l := by
  obtain ⟨h0, h | ⟨b, off, e, hlt, hr⟩⟩ := h
  · exact ⟨h0, .inl h⟩
  · exact ⟨h0, .inr ⟨b, off, e, Nat.lt_of_lt_of_le hlt hB, hr⟩⟩
theorem IsAt.elem {B : Nat} {W : World} {a : Option Addr} {l : List Int} (h : IsAt B W a l) {k : Nat} (hk : k < l.length) :
    ∃ b off, a = some ⟨b, off, none⟩ ∧ b < B ∧ W.cell? ⟨b, off + k, none⟩ = some (.int .i64 l[k]) := by
  obtain ⟨_, h | ⟨b, off, e, hlt, hr⟩⟩ := h
  · subst h; simp at hk
  · exact ⟨b, off, e, hlt, hr k hk⟩

theorem allO_end (t : Int) (l : List Int) (k : Nat) (h : l.length ≤ k) : allO t (l.drop k) = some t := by rw [List.drop_eq_nil_of_le h]; simp [allO]
theorem allO_no (t : Int) (l : List Int) (k : Nat) (h : k < l.length) (e : tog l[k] t = none) : allO t (l.drop k) = none := by
  rw [List.drop_eq_getElem_cons h, allO, List.all_cons, e]; rfl
theorem allO_next (t : Int) (l : List Int) (k : Nat) (h : k < l.length) {u : Int} (e : tog l[k] t = some u) : allO t (l.drop k) = allO t (l.drop (k + 1)) := by
  rw [List.drop_eq_getElem_cons h, allO, List.all_cons, e, allO]; rfl

set_option maxHeartbeats 1000000 in
theorem allOf_at (t : Int) (B : Nat) (a : Option Addr) (cap : Nat) (l : List Int) (w : World) (hB : B ≤ w.heap.size) (h : IsAt B w a l) :
    Calls Try.prog 49 #[.int .i64 t, .slice a l.length cap] w fun e w' => e = .returned (.tuple #[.int .i64 (resT (allO t l)).1, .int .i64 (resT (allO t l)).2]) ∧ Below w.heap.size w w' := by
  have hl := h.1
  unfold maxLen at hl
  go_enter Try.func49, Try.ntmps49
  go_wp2_with fail
  go_loopw [12] (fun i wr => ∃ k : Nat, k ≤ l.length ∧ i = .int .i64 k ∧ Hid (allO t l = allO t (l.drop k)) ∧ Below w.heap.size w wr) (fun i _ => l.length - (intOf i).toNat)
  case atStart => exact ⟨0, Nat.zero_le _, rfl, rfl, Below.refl _ _⟩
  case round =>
    obtain ⟨k, hk, rfl, HE, hb⟩ := hrel
    by_cases hlt : k < l.length
    · obtain ⟨b, off, rfl, hbl, c⟩ := (h.next hb hB).elem hlt
      rcases ht : tog l[k] t with _ | u
      · have hR : togR l[k] t = (0, 9) := by simp [togR, ht, resT]
        have HT : Hid (tog l[k] t = none) := ht
        clear ht
        go_wp2_with fail
        refine (together_at _ _ _).mono ?_
        rintro e w1 ⟨rfl, hb1⟩
        simp only [hR]
        go_wp2_with fail
        exact bodyPost_ret (v := .tuple #[.int .i64 0, .int .i64 9]) (by simp [results, Try.results49, go_sem]) rfl ⟨by rw [HE.out, allO_no t l k hlt HT.out]; rfl, chain hb hb1⟩
      · have hR : togR l[k] t = (u, 0) := by simp [togR, ht, resT]
        have HT : Hid (tog l[k] t = some u) := ht
        clear ht
        go_wp2_with fail
        refine (together_at _ _ _).mono ?_
        rintro e w1 ⟨rfl, hb1⟩
        simp only [hR]
        go_wp2_with fail
        go_roundw
        case rel => exact ⟨k + 1, by omega, by go_num, HE.out.trans (allO_next t l k hlt HT.out), chain hb hb1⟩
        case measure => simp [intOf]; omega
    · go_wp2_with fail
      exact bodyPost_ret (v := .tuple #[.int .i64 t, .int .i64 0]) (by simp [results, Try.results49, go_sem]) rfl ⟨by rw [HE.out, allO_end t l k (by omega)]; rfl, hb⟩

theorem colType_at (B : Nat) (a : Option Addr) (cap : Nat) (l : List Int) (c : Int) (w : World) (h : IsAt B w a l) :
    Calls Try.prog 33 #[.slice a l.length cap, .int .i64 c] w fun e w' => e = .returned (.tuple #[.int .i64 (colT l c).1, .int .i64 (colT l c).2]) ∧ Below w.heap.size w w' := by
  by_cases h1 : c < 0
  · have e : colT l c = (0, 7) := by simp [colT, h1]
    rw [e]
    go_enter Try.func33, Try.ntmps33
    go_wp2_with fail
    exact bodyPost_ret (v := .tuple #[.int .i64 0, .int .i64 7]) (by simp [results, Try.results33, go_sem]) rfl ⟨rfl, Below.refl _ _⟩
  by_cases h2 : l.length ≤ c
  · have e : colT l c = (0, 7) := by simp [colT, h2]
    rw [e]
    go_enter Try.func33, Try.ntmps33
    go_wp2_with fail
    exact bodyPost_ret (v := .tuple #[.int .i64 0, .int .i64 7]) (by simp [results, Try.results33, go_sem]) rfl ⟨rfl, Below.refl _ _⟩
  obtain ⟨j, rfl⟩ : ∃ j : Nat, c = j := ⟨c.toNat, by omega⟩
  have hj : j < l.length := by omega
  have e : colT l j = (l[j], 0) := by simp [colT, h2, List.getD, hj]
  rw [e]
  obtain ⟨b, off, rfl, hbl, cc⟩ := h.elem hj
  go_enter Try.func33, Try.ntmps33
  go_wp2_with fail
  exact bodyPost_ret (v := .tuple #[.int .i64 l[j], .int .i64 0]) (by simp [results, Try.results33, go_sem]) rfl ⟨rfl, Below.refl _ _⟩

theorem litType_at (v : Vl) (w : World) :
    Calls Try.prog 32 #[agV v] w fun e w' => e = .returned (.tuple #[.int .i64 (litT v).1, .int .i64 (litT v).2]) ∧ Below w.heap.size w w' := by
  obtain ⟨k, n, s⟩ := v
  by_cases h : wrongF k n s = 0
  · have e : litT (k, n, s) = (k, 0) := by simp [litT, wrongP, h]
    rw [e]
    clear e
    go_enter Try.func32, Try.ntmps32
    go_wp2_with fail
    have A0 := Box.new w (.int .i64 k) (.int .i64 n) (.string s) 24
    refine (wrong_any _ _ _ _).mono ?_
    rintro e w1 ⟨rfl, hb1⟩
    rw [h]
    have ⟨a0, a1, a2, a3, a4, a5, a6⟩ := A0.next hb1
    go_wp2_with fail
    exact bodyPost_ret (v := .tuple #[.int .i64 k, .int .i64 0]) (by simp [results, Try.results32, go_sem]) rfl ⟨rfl, below1 hb1⟩
  · have e : litT (k, n, s) = (0, wrongF k n s) := by simp [litT, wrongP, h]
    rw [e]
    clear e
    go_enter Try.func32, Try.ntmps32
    go_wp2_with fail
    refine (wrong_any _ _ _ _).mono ?_
    rintro e w1 ⟨rfl, hb1⟩
    have q : (wrongF k n s != 0) = true := by simpa using h
    go_wp2_with fail
    exact bodyPost_ret (v := .tuple #[.int .i64 0, .int .i64 (wrongF k n s)]) (by simp [results, Try.results32, go_sem]) rfl ⟨rfl, below1 hb1⟩
end Go.Proofs.Ytbdhmjojamoafaa
