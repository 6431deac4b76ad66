/- Expressions in memory; what a walk with a counter of its own leaves as it was. -/
import Derived.Test.YtbdhmjojamoafaaY3
namespace Go.Proofs.Ytbdhmjojamoafaa
open Go.RowKit

/-- Expressions lie in a slice, and their kids behind them, all below B. -/
inductive KsAt (B : Nat) (W : World) : Option Addr → List Ex → Prop
  | nil (a : Option Addr) : KsAt B W a []
  | some (b off : Nat) (l : List Ex) (ai : Nat → Option Addr) (cap : Nat → Nat) (hb : b < B)
      (hc : ∀ (i : Nat) (h : i < l.length), Six W b (off + i * 6) l[i].k l[i].v l[i].c (ai i) l[i].ks.length (cap i))
      (hk : ∀ (i : Nat) (h : i < l.length), KsAt B W (ai i) l[i].ks) : KsAt B W (some ⟨b, off, none⟩) l
theorem KsAt.next {B B' : Nat} {W w1 : World} (hb : Below B' W w1) (hB : B ≤ B') {a : Option Addr} {l : List Ex} (h : KsAt B W a l) : KsAt B w1 a l := by
  induction h with
  | nil a => exact .nil a
  | some b off l ai cap hlt hc _ ih => exact .some b off l ai cap hlt (fun i hi => (hc i hi).next hb (Nat.lt_of_lt_of_le hlt hB)) ih
theorem KsAt.up {B B' : Nat} {W : World} (hB : B ≤ B') {a : Option Addr} {l : List Ex} (h : KsAt B W a l) : KsAt B' W a l := by
  induction h with
  | nil a => exact .nil a
  | some b off l ai cap hlt hc _ ih => exact .some b off l ai cap (Nat.lt_of_lt_of_le hlt hB) hc ih
theorem KsAt.elem {B : Nat} {W : World} {a : Option Addr} {l : List Ex} (h : KsAt B W a l) {k : Nat} (hk : k < l.length) :
    ∃ b off ai cap, a = Option.some ⟨b, off, none⟩ ∧ b < B ∧ Six W b (off + k * 6) l[k].k l[k].v l[k].c ai l[k].ks.length cap ∧ KsAt B W ai l[k].ks := by
  cases h with
  | nil => simp at hk
  | some b off l ai cap hlt hc hh => exact ⟨b, off, ai k, cap k, rfl, hlt, hc k hk, hh k hk⟩

/-- As 'Below' of all that was there, but for block t. -/
def BelowX (t : Nat) (w w' : World) : Prop := Below t w w' ∧ ∀ k, k < w.heap.size → k ≠ t → w'.heap[k]? = w.heap[k]?
theorem BelowX.refl (t : Nat) (w : World) : BelowX t w w := ⟨Below.refl _ _, fun _ _ _ => rfl⟩
theorem BelowX.size {t : Nat} {a b : World} (h : BelowX t a b) : a.heap.size ≤ b.heap.size := h.1.size
theorem BelowX.trans {t : Nat} {a b c : World} (h : BelowX t a b) (k : BelowX t b c) : BelowX t a c :=
  ⟨h.1.trans k.1, fun i hi hn => (k.2 i (Nat.lt_of_lt_of_le hi h.size) hn).trans (h.2 i hi hn)⟩
theorem BelowX.of {t : Nat} {a b : World} (h : Below a.heap.size a b) (ht : t ≤ a.heap.size) : BelowX t a b := ⟨h.mono ht, fun k hk _ => h.block k hk⟩
theorem BelowX.set {t : Nat} {a b : World} (h : BelowX t a b) (o : Nat) (u : Value) : BelowX t a (b.setCell ⟨t, o, none⟩ u) :=
  ⟨h.1.setCell (Nat.le_refl _) u, fun k hk hn => (Below.heap_setCell b ⟨t, o, none⟩ u k hn).trans (h.2 k hk hn)⟩
/-- A store into a block that is newer. -/
theorem BelowX.setNew {t : Nat} {a b : World} (h : BelowX t a b) (g o : Nat) (u : Value) (hg : a.heap.size ≤ g) (ht : t ≤ a.heap.size) : BelowX t a (b.setCell ⟨g, o, none⟩ u) :=
  ⟨h.1.setCell (Nat.le_trans ht hg) u, fun k hk hn => (Below.heap_setCell b ⟨g, o, none⟩ u k (by show k ≠ g; omega)).trans (h.2 k hk hn)⟩
theorem BelowX.cell {t : Nat} {a b : World} (h : BelowX t a b) {p : Addr} (hp : p.block < a.heap.size) (hn : p.block ≠ t) : b.cell? p = a.cell? p := World.cell?_of_block (w := a) (h.2 p.block hp hn)
theorem BelowX.frozen {t : Nat} {a b : World} (h : BelowX t a b) {p : Addr} (hp : p.block < a.heap.size) (hn : p.block ≠ t) : b.frozen? p = a.frozen? p := World.frozen?_of_block (w := a) (h.2 p.block hp hn)
theorem BelowX.below {t B : Nat} {a b : World} (h : BelowX t a b) (hB : B ≤ t) : Below B a b := h.1.mono hB
theorem Six.nextX {W w1 : World} {t b off : Nat} {k : Int} {v : Vl} {c : Int} {a : Option Addr} {n cap : Nat} (h : Six W b off k v c a n cap) (hb : BelowX t W w1) (hB : b < W.heap.size) (hn : b ≠ t) : Six w1 b off k v c a n cap :=
  ⟨(hb.cell (p := ⟨b, _, none⟩) hB hn).trans h.c0, (hb.cell (p := ⟨b, _, none⟩) hB hn).trans h.c1, (hb.cell (p := ⟨b, _, none⟩) hB hn).trans h.c2, (hb.cell (p := ⟨b, _, none⟩) hB hn).trans h.c3, (hb.cell (p := ⟨b, _, none⟩) hB hn).trans h.c4, (hb.cell (p := ⟨b, _, none⟩) hB hn).trans h.c5⟩

/-- One who counts: the columns, and how many nodes so far. -/
structure TyAt (W : World) (t : Nat) (ca : Option Addr) (n cap : Nat) (m : Int) : Prop where
  lt : t < W.heap.size
  c0 : W.cell? ⟨t, 0, none⟩ = some (.slice ca n cap)
  c1 : W.cell? ⟨t, 1, none⟩ = some (.int .i64 m)
  f1 : W.frozen? ⟨t, 1, none⟩ = false
theorem TyAt.next {W w1 : World} {t : Nat} {ca : Option Addr} {n cap : Nat} {m : Int} (h : TyAt W t ca n cap m) (hb : Below W.heap.size W w1) : TyAt w1 t ca n cap m :=
  ⟨Nat.lt_of_lt_of_le h.lt hb.size, (hb.cell (p := ⟨t, 0, none⟩) h.lt).trans h.c0, (hb.cell (p := ⟨t, 1, none⟩) h.lt).trans h.c1, (hb.frozen (p := ⟨t, 1, none⟩) h.lt).trans h.f1⟩
theorem TyAt.count {W : World} {t : Nat} {ca : Option Addr} {n cap : Nat} {m : Int} (h : TyAt W t ca n cap m) (m' : Int) : TyAt (W.setCell ⟨t, 1, none⟩ (.int .i64 m')) t ca n cap m' := by
  obtain ⟨lt, c0, c1, f1⟩ := h
  refine ⟨by simpa using lt, ?_, ?_, ?_⟩
  · rw [World.cell?_setCell_other _ _ _ _ (by simp)]
    exact c0
  · exact World.cell?_setCell_same _ _ _ c1
  · simpa using f1
/-- Numbers of one's own. -/
structure Own1 (W : World) (g : Nat) (l : List Int) : Prop where
  lt : g < W.heap.size
  c : ∀ (i : Nat) (h : i < l.length), W.cell? ⟨g, i, none⟩ = some (.int .i64 l[i])
  f : ∀ i : Nat, W.frozen? ⟨g, i, none⟩ = false
theorem Own1.nextX {t : Nat} {W w1 : World} {g : Nat} {l : List Int} (h : Own1 W g l) (hb : BelowX t W w1) (hn : g ≠ t) : Own1 w1 g l :=
  ⟨Nat.lt_of_lt_of_le h.lt hb.size, fun i hi => (hb.cell (p := ⟨g, i, none⟩) h.lt hn).trans (h.c i hi), fun i => (hb.frozen (p := ⟨g, i, none⟩) h.lt hn).trans (h.f i)⟩
theorem Own1.set {W : World} {g : Nat} {l : List Int} (h : Own1 W g l) (i : Nat) (hi : i < l.length) (u : Int) : Own1 (W.setCell ⟨g, i, none⟩ (.int .i64 u)) g (l.set i u) := by
  refine ⟨by simpa using h.lt, fun j hj => ?_, fun j => by simpa using h.f j⟩
  have hj' : j < l.length := by simpa using hj
  by_cases e : i = j
  · subst e
    rw [World.cell?_setCell_same _ _ _ (h.c i hi)]
    simp
  · rw [World.cell?_setCell_other _ _ _ _ (by intro h; injection h with _ h; exact e h), h.c j hj']
    simp [List.getElem_set_ne e]
theorem Own1.is {W : World} {g : Nat} {l : List Int} (h : Own1 W g l) (hl : l.length ≤ maxLen) : IsAt W.heap.size W (some ⟨g, 0, none⟩) l :=
  ⟨hl, .inr ⟨g, 0, rfl, h.lt, fun i hi => by simpa using h.c i hi⟩⟩
theorem Own1.new (w : World) (n t : Nat) : Own1 (w.alloc (.cells (Array.replicate n (.int .i64 0)) t)) w.heap.size (List.replicate n 0) :=
  ⟨by simp, fun i hi => by have : i < n := by simpa using hi
                           simp [this], fun i => by simp⟩
/-- 'make' of no more than three numbers. -/
theorem make_ints {n : Nat} (h : n ≤ 3) (w : World) : (Instr.makeSlice 22 (.int .i64 n) (.int .i64 n)).run Try.prog w = .ok (.slice (some ⟨w.heap.size, 0, none⟩) n n) (w.alloc (.cells (Array.replicate n (.int .i64 0)) 3)) := by
  obtain rfl | rfl | rfl | rfl : n = 0 ∨ n = 1 ∨ n = 2 ∨ n = 3 := by omega
  all_goals kernel_rfl
theorem kidsN_le (k : Int) : kidsN k ≤ 3 := by
  unfold kidsN
  repeat' split
  all_goals omega
end Go.Proofs.Ytbdhmjojamoafaa
