/- What two values are made to: And, Or, .. as function values; denied, turned, reckoned, firstKnown, ofTwo. -/
import Derived.Test.YtbdhmjojamoafaaY1
import Derived.Test.YtbdhmjojamoafaaX1
import Derived.Test.YtbdhmjojamoafaaW2
import Derived.Shelf.Abstract
namespace Go.Proofs.Ytbdhmjojamoafaa
open Go.RowKit

theorem wrong_text {v : Vl} (h : wrongP v = 0) : v.1 = 4 → v.2.2.size ≤ 60 := by
  obtain ⟨k, n, s⟩ := v
  intro e
  simp only at e
  subst e
  unfold wrongP wrongF at h
  simp at h
  exact h
theorem wrong_num {v : Vl} (h : wrongP v = 0) : v.1 = 3 → -1000000000000000 ≤ v.2.1 ∧ v.2.1 ≤ 1000000000000000 := by
  obtain ⟨k, n, s⟩ := v
  intro e
  simp only at e
  subst e
  unfold wrongP wrongF at h
  simp at h
  exact h
theorem wrong_tru {v : Vl} (h : wrongP v = 0) : Tru v.1 v.2.1 := by
  obtain ⟨k, n, s⟩ := v
  intro e
  simp only at e
  subst e
  unfold wrongP wrongF at h
  simp at h
  show n = 0 ∨ n = 1
  omega

/-- All blocks from lo on are as they were. -/
def Since (lo : Nat) (w W : World) : Prop := w.heap.size ≤ W.heap.size ∧ ∀ k, lo ≤ k → k < w.heap.size → W.heap[k]? = w.heap[k]?
theorem Since.refl (lo : Nat) (w : World) : Since lo w w := ⟨Nat.le_refl _, fun _ _ _ => rfl⟩
theorem Since.trans {lo : Nat} {a b c : World} (h : Since lo a b) (k : Since lo b c) : Since lo a c :=
  ⟨Nat.le_trans h.1 k.1, fun i hi hl => (k.2 i hi (Nat.lt_of_lt_of_le hl h.1)).trans (h.2 i hi hl)⟩
theorem Since.of {lo : Nat} {w W : World} (h : Below w.heap.size w W) : Since lo w W := ⟨h.size, fun k _ hk => h.block k hk⟩
theorem Since.up {lo lo' : Nat} {w W : World} (h : Since lo w W) (hl : lo ≤ lo') : Since lo' w W := ⟨h.1, fun k hk => h.2 k (Nat.le_trans hl hk)⟩
theorem Since.cell {lo : Nat} {w W : World} (h : Since lo w W) {p : Addr} (h1 : lo ≤ p.block) (h2 : p.block < w.heap.size) : W.cell? p = w.cell? p := World.cell?_of_block (w := w) (h.2 p.block h1 h2)
theorem Since.set {lo : Nat} {w W : World} (h : Since lo w W) (g o : Nat) (u : Value) (hg : g < lo) : Since lo w (W.setCell ⟨g, o, none⟩ u) :=
  ⟨by simpa using h.1, fun k hk hl => (Below.heap_setCell W ⟨g, o, none⟩ u k (by show k ≠ g; omega)).trans (h.2 k hk hl)⟩
/-- A function value makes f of two right values, as long as all from lo on is as it was. -/
def Fn2 (lo : Nat) (u : Value) (f : Vl → Vl → Vl) (w : World) : Prop :=
  ∃ g cb, u = .func (.func g) #[] cb ∧ (∀ args w, (callFunc g args).run Try.prog w = .ok (.enter g args) w) ∧
    ∀ (p q : Vl) (W : World), wrongP p = 0 → wrongP q = 0 → Since lo w W → Calls Try.prog g (#[agV p, agV q] ++ cb) W fun e w' => e = .returned (agV (f p q)) ∧ Below W.heap.size W w'
theorem Fn2.next {lo : Nat} {u : Value} {f : Vl → Vl → Vl} {w w1 : World} (h : Fn2 lo u f w) (hb : Since lo w w1) : Fn2 lo u f w1 := by
  obtain ⟨g, cb, e, eg, hd⟩ := h
  exact ⟨g, cb, e, eg, fun p q W hp hq hW => hd p q W hp hq (hb.trans hW)⟩

theorem fn_and (lo : Nat) (w : World) : Fn2 lo (.func (.func 69) #[] #[]) andP w :=
  ⟨69, #[], rfl, enters_of Try.func69 (by kernel_rfl) rfl, fun p q W _ _ _ => by rw [Array.append_empty]; exact and_any p.1 p.2.1 q.1 q.2.1 p.2.2 q.2.2 W⟩
theorem fn_or (lo : Nat) (w : World) : Fn2 lo (.func (.func 70) #[] #[]) orP w :=
  ⟨70, #[], rfl, enters_of Try.func70 (by kernel_rfl) rfl, fun p q W _ _ _ => by rw [Array.append_empty]; exact or_any p.1 p.2.1 q.1 q.2.1 p.2.2 q.2.2 W⟩
theorem fn_eq (lo : Nat) (w : World) : Fn2 lo (.func (.func 71) #[] #[]) eqP w :=
  ⟨71, #[], rfl, enters_of Try.func71 (by kernel_rfl) rfl, fun p q W _ _ _ => by rw [Array.append_empty]; exact equal_any p.1 p.2.1 q.1 q.2.1 p.2.2 q.2.2 W⟩
theorem fn_lt (lo : Nat) (w : World) : Fn2 lo (.func (.func 73) #[] #[]) ltP w :=
  ⟨73, #[], rfl, enters_of Try.func73 (by kernel_rfl) rfl, fun p q W _ _ _ => by rw [Array.append_empty]; exact less_any p.1 p.2.1 q.1 q.2.1 p.2.2 q.2.2 W⟩
theorem fn_join (lo : Nat) (w : World) : Fn2 lo (.func (.func 76) #[] #[]) joinP w :=
  ⟨76, #[], rfl, enters_of Try.func76 (by kernel_rfl) rfl, fun p q W hp hq _ => by rw [Array.append_empty]; exact join_any p.1 p.2.1 q.1 q.2.1 p.2.2 q.2.2 W (wrong_text hp) (wrong_text hq)⟩

set_option maxHeartbeats 800000 in
theorem first_at (p q : Vl) (w : World) : Calls Try.prog 77 #[agV p, agV q] w fun e w' => e = .returned (agV (coalP p q)) ∧ Below w.heap.size w w' := by
  obtain ⟨k, n, s⟩ := p
  obtain ⟨k', n', s'⟩ := q
  by_cases h : k = 1
  · subst h
    have e : coalP (1, n, s) (k', n', s') = (k', n', s') := rfl
    rw [e]
    go_enter Try.func77, Try.ntmps77
    go_wp2_with fail
    have A0 := ((Box.new w (.int .i64 1) (.int .i64 n) (.string s) 24).alloc (.cells #[.int .i64 k', .int .i64 n', .string s'] 24)).alloc (.cells #[.int .i64 0, .int .i64 0, .string ⟨#[]⟩] 24)
    have B0 := (Box.new (w.alloc (.cells #[.int .i64 1, .int .i64 n, .string s] 24)) (.int .i64 k') (.int .i64 n') (.string s') 24).alloc (.cells #[.int .i64 0, .int .i64 0, .string ⟨#[]⟩] 24)
    have R0 := Box.new ((w.alloc (.cells #[.int .i64 1, .int .i64 n, .string s] 24)).alloc (.cells #[.int .i64 k', .int .i64 n', .string s'] 24)) (.int .i64 0) (.int .i64 0) (.string ⟨#[]⟩) 24
    simp only [World.size_alloc] at B0 R0
    refine (isNull_at _ _ _ _).mono ?_
    rintro e w1 ⟨rfl, hb1⟩
    have ⟨b0, b1, b2, b3, b4, b5, b6⟩ := B0.next hb1
    have ⟨r0, r1, r2, r3, r4, r5, r6⟩ := R0.next hb1
    have z1 := hb1.size
    simp at z1
    go_wp2_with fail
    exact bodyPost_ret (v := .agg #[.int .i64 k', .int .i64 n', .string s']) (by simp [results, Try.results77, go_sem, r1, r2, r3]) rfl ⟨rfl, below_set3 (below3 hb1) (by omega)⟩
  · have e : coalP (k, n, s) (k', n', s') = (k, n, s) := by simp [coalP, h]
    rw [e]
    have q1 : (k == 1) = false := by simpa using h
    go_enter Try.func77, Try.ntmps77
    go_wp2_with fail
    have A0 := ((Box.new w (.int .i64 k) (.int .i64 n) (.string s) 24).alloc (.cells #[.int .i64 k', .int .i64 n', .string s'] 24)).alloc (.cells #[.int .i64 0, .int .i64 0, .string ⟨#[]⟩] 24)
    have R0 := Box.new ((w.alloc (.cells #[.int .i64 k, .int .i64 n, .string s] 24)).alloc (.cells #[.int .i64 k', .int .i64 n', .string s'] 24)) (.int .i64 0) (.int .i64 0) (.string ⟨#[]⟩) 24
    simp only [World.size_alloc] at R0
    refine (isNull_at _ _ _ _).mono ?_
    rintro e w1 ⟨rfl, hb1⟩
    rw [q1]
    have ⟨b0, b1, b2, b3, b4, b5, b6⟩ := A0.next hb1
    have ⟨r0, r1, r2, r3, r4, r5, r6⟩ := R0.next hb1
    have z1 := hb1.size
    simp at z1
    go_wp2_with fail
    exact bodyPost_ret (v := .agg #[.int .i64 k, .int .i64 n, .string s]) (by simp [results, Try.results77, go_sem, r1, r2, r3]) rfl ⟨rfl, below_set3 (below3 hb1) (by omega)⟩
theorem fn_coal (lo : Nat) (w : World) : Fn2 lo (.func (.func 77) #[] #[]) coalP w :=
  ⟨77, #[], rfl, enters_of Try.func77 (by kernel_rfl) rfl, fun p q W _ _ _ => by rw [Array.append_empty]; exact first_at p q W⟩
end Go.Proofs.Ytbdhmjojamoafaa
