/- Lists of sets in memory, for a seat without plans. -/
import Derived.Test.YtibobmkelmalkaaZG
import Derived.Test.YtibobmkelmalkaaForm
import Derived.Test.YtibobmkelmalkaaPast
namespace Go.Proofs.Ytibobmkelmalkaa
open Go.RowKit Go.Lib Go.Shelf

theorem cell_of {W : World} {b : Nat} {xs : Array Value} {T : TypeId} {i : Nat} {v : Value} (h : W.heap[b]? = some (.cells xs T (0, 0))) (hv : xs[i]? = some v) : W.cell? ⟨b, i, none⟩ = some v := by
  simp [World.cell?, h, hv]
theorem heap_new (W : World) (xs : Array Value) (T : TypeId) : (W.alloc (.cells xs T)).heap[W.heap.size]? = some (.cells xs T (0, 0)) := by
  show (W.heap.push (.cells xs T (0, 0)))[W.heap.size]? = _
  exact Array.getElem?_push_size
theorem lt_of_heap {W : World} {b : Nat} {o : Obj} (h : W.heap[b]? = some o) : b < W.heap.size := by
  rcases Nat.lt_or_ge b W.heap.size with h' | h'
  · exact h'
  · rw [Array.getElem?_eq_none h'] at h; cases h
/-- All blocks from lo on are as they were. -/
def Since (lo : Nat) (w W : World) : Prop := w.heap.size ≤ W.heap.size ∧ ∀ k, lo ≤ k → k < w.heap.size → W.heap[k]? = w.heap[k]?
theorem Since.refl (lo : Nat) (w : World) : Since lo w w := ⟨Nat.le_refl _, fun _ _ _ => rfl⟩
theorem Since.trans {lo : Nat} {a b c : World} (h : Since lo a b) (k : Since lo b c) : Since lo a c :=
  ⟨Nat.le_trans h.1 k.1, fun i hi hl => (k.2 i hi (Nat.lt_of_lt_of_le hl h.1)).trans (h.2 i hi hl)⟩
theorem Since.of {lo : Nat} {w W : World} (h : Below w.heap.size w W) : Since lo w W := ⟨h.size, fun k _ hk => h.block k hk⟩
theorem Since.up {lo lo' : Nat} {w W : World} (h : Since lo w W) (hl : lo ≤ lo') : Since lo' w W := ⟨h.1, fun k hk => h.2 k (Nat.le_trans hl hk)⟩
theorem Since.cell {lo : Nat} {w W : World} (h : Since lo w W) {p : Addr} (h1 : lo ≤ p.block) (h2 : p.block < w.heap.size) : W.cell? p = w.cell? p := World.cell?_of_block (w := w) (h.2 p.block h1 h2)
theorem Since.set {lo : Nat} {w W : World} (h : Since lo w W) (g o : Nat) (u : Value) (hg : g < lo) : Since lo w (W.setCell ⟨g, o, none⟩ u) :=
  ⟨by simpa using h.1, fun k hk hl => (Below.heap_setCell W ⟨g, o, none⟩ u k (by show k ≠ g; omega)).trans (h.2 k hk hl)⟩
theorem own_since {lo base e size n : Nat} {W w1 : World} {v : Value} {xs : List Value} (h : W.ownsRow base e size v n xs) (hl : lo ≤ base) (hs : Since lo W w1) : w1.ownsRow base e size v n xs := by
  have h' := h
  obtain ⟨hx, h1 | ⟨g, cap, cur, rfl, hg, hh, rest⟩⟩ := h
  · exact ⟨hx, .inl h1⟩
  · exact ⟨hx, .inr ⟨g, cap, cur, rfl, hg, by rw [hs.2 g (by omega) (h'.lt g rfl).2]; exact hh, rest⟩⟩
/-- Lists of rows with weights. -/
def DtAt (W : World) (a : Option Addr) (l : List (List Zp)) : Prop := l = [] ∨ ∃ (b off : Nat) (ai : Nat → Option Addr) (ci : Nat → Nat), a = some ⟨b, off, none⟩ ∧ b < W.heap.size ∧ ∀ (i : Nat) (h : i < l.length), W.cell? ⟨b, off + i, none⟩ = some (.slice (ai i) l[i].length (ci i)) ∧ ZsAt W (ai i) l[i] ∧ (ai i = none → ci i = 0)
theorem DtAt.next {W w1 : World} {a : Option Addr} {l : List (List Zp)} (h : DtAt W a l) (hb : Below W.heap.size W w1) : DtAt w1 a l := by
  rcases h with h | ⟨b, off, ai, ci, e, hlt, h⟩
  · exact .inl h
  · exact .inr ⟨b, off, ai, ci, e, Nat.lt_of_lt_of_le hlt hb.size, fun i hi => ⟨(hb.cell (p := ⟨b, _, none⟩) hlt).trans (h i hi).1, (h i hi).2.1.next hb, (h i hi).2.2⟩⟩
theorem DtAt.elem {W : World} {a : Option Addr} {l : List (List Zp)} (h : DtAt W a l) {i : Nat} (hi : i < l.length) : ∃ b off ai ci, a = some ⟨b, off, none⟩ ∧ b < W.heap.size ∧ W.cell? ⟨b, off + i, none⟩ = some (.slice ai l[i].length ci) ∧ ZsAt W ai l[i] ∧ (ai = none → ci = 0) := by
  rcases h with h | ⟨b, off, ai, ci, e, hlt, h⟩
  · subst h; simp at hi
  · exact ⟨b, off, ai i, ci i, e, hlt, h i hi⟩
theorem infoS : (Try.prog.info? 34).map (fun i => (i.zero, i.size, i.bytes)) = some (some (.slice none 0 0), 1, 24) := by kernel_rfl
theorem bothE_inv {t : Int} {a b : List Zp} (h : bothE t a b = 0) : wrongZ a = 0 ∧ wrongZ b = 0 ∧ gatherE (a ++ weighL (timesF t) b) = 0 ∧ bothZ t a b = canon (a ++ weighL (timesF t) b) := by
  have e : bothZ t a b = canon (a ++ weighL (timesF t) b) := by unfold bothZ; rw [if_pos h]
  unfold bothE at h
  by_cases h1 : wrongZ a = 0
  · rw [if_pos h1] at h
    by_cases h2 : wrongZ b = 0
    · rw [if_pos h2] at h
      exact ⟨h1, h2, h, e⟩
    · rw [if_neg h2] at h; exact absurd h h2
  · rw [if_neg h1] at h; exact absurd h h1
theorem times_wt {t : Int} {q : List Zp} (h : wrongZ q = 0) (k : List Vl) : wt (weighL (timesF t) q) k = t * wt q k := by
  rw [weighL_wt (timesF t) (by simp [timesF]) k q ((wrongZ_iff q).1 h).2.2]
  rfl
theorem both_inv {t : Int} {p q : List Zp} (h : bothE t p q = 0) : wrongZ p = 0 ∧ wrongZ q = 0 ∧ IsSet (bothZ t p q) ∧ wrongZ (bothZ t p q) = 0 ∧ ∀ k, wt (bothZ t p q) k = wt p k + t * wt q k := by
  obtain ⟨h1, h2, h3, e⟩ := bothE_inv h
  rw [e]
  refine ⟨h1, h2, canon_set _, wrong_canon (fun y hy => ?_) h3, fun k => ?_⟩
  · rcases List.mem_append.1 hy with hy | hy
    · exact (((wrongZ_iff p).1 h1).2.1 y hy).1
    · obtain ⟨x, hx, rfl, _⟩ := weighL_mem _ _ y hy
      exact (wrongRow_bare _).2 (((wrongZ_iff q).1 h2).2.1 x hx).1
  · rw [canon_wt, wt_append, times_wt h2]
/-- What two right sets make, once it is known. -/
theorem both_of {t : Int} {p q r : List Zp} (hp : wrongZ p = 0) (hq : wrongZ q = 0) (hs : IsSet r) (hr : wrongZ r = 0) (e : ∀ k, wt r k = wt p k + t * wt q k) : bothE t p q = 0 ∧ bothZ t p q = r := by
  have er : r = canon (p ++ weighL (timesF t) q) := canon_of hs fun k => by rw [e, wt_append, times_wt hq]
  obtain ⟨r1, r2, _⟩ := (wrongZ_iff r).1 hr
  have g : gatherE (p ++ weighL (timesF t) q) = 0 := by
    unfold gatherE
    rw [← er, outW_ok (fun j hj => (r2 _ (List.getElem_mem hj)).2.2), if_neg (by decide), if_neg (by omega)]
  have b : bothE t p q = 0 := by unfold bothE; rw [if_pos hp, if_pos hq, g]
  exact ⟨b, by unfold bothZ; rw [if_pos b, ← er]⟩
theorem wrong_nil : wrongZ [] = 0 := by rfl
/-! ### tables that are the same -/
theorem sl_one (w : World) (v : Vl) : SlAt (w.alloc (.cells #[.int .i64 v.1, .int .i64 v.2.1, .string v.2.2] 47)) (some ⟨w.heap.size, 0, none⟩) [v] :=
  ⟨by unfold maxLen; simp, .inr ⟨w.heap.size, 0, rfl, fun i hi => by
    match i, hi with
    | 0, _ => exact ⟨by simp, by simp, by simp⟩, by simp⟩⟩
theorem zs_one {w : World} {a : Option Addr} {r : List Vl} {cap : Nat} (h : SlAt w a r) (n : Int) : ZsAt (w.alloc (.cells #[.slice a r.length cap, .int .i64 n] 45)) (some ⟨w.heap.size, 0, none⟩) [(r, n)] := by
  have hb : Below w.heap.size w (w.alloc (.cells #[.slice a r.length cap, .int .i64 n] 45)) := (Below.refl _ _).alloc (Nat.le_refl _) _
  refine ⟨by simp [maxLen], .inr ⟨w.heap.size, 0, rfl, by simp, fun i hi => ?_⟩⟩
  match i, hi with
  | 0, _ => exact ⟨by simp, a, cap, by simp, h.next hb⟩
theorem gather_right {z : List Zp} (h : wrongZ z = 0) (hs : IsSet z) : gatherE z = 0 ∧ gatherZ z = z := by
  have e := canon_self hs
  obtain ⟨r1, r2, _⟩ := (wrongZ_iff z).1 h
  have g : gatherE z = 0 := by
    unfold gatherE
    rw [e, outW_ok (fun j hj => (r2 _ (List.getElem_mem hj)).2.2), if_neg (by decide), if_neg (by omega)]
  exact ⟨g, by unfold gatherZ; rw [if_pos g, e]⟩
end Go.Proofs.Ytibobmkelmalkaa
