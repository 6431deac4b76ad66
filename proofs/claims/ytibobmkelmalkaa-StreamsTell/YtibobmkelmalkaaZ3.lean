/- Rows with weights in memory of a call's own; the walk of zsets.bareRow. -/
import Derived.Test.YtibobmkelmalkaaZ2
namespace Go.Proofs.Ytibobmkelmalkaa
open Go.RowKit

theorem Try.info42 : (Try.prog.info? 45).map (fun i => (i.zero, i.size, i.bytes)) = some (some (.agg #[.slice none 0 0, .int .i64 0]), 2, 32) := by kernel_rfl
theorem Try.info49 : (Try.prog.info? 47).map (fun i => (i.zero, i.size, i.bytes)) = some (some (.agg #[.int .i64 0, .int .i64 0, .string ⟨#[]⟩]), 3, 32) := by kernel_rfl

def bareP (v : Vl) : Vl := (v.1, bareN v.1 v.2.1, bareS v.1 v.2.2)
def bareL (l : List Vl) : List Vl := l.map bareP

/-- The block to which a slice of values leads is one of values. -/
def TyAt (W : World) (a : Option Addr) : Prop := ∀ b off, a = some ⟨b, off, none⟩ → ∃ c z, W.heap[b]? = some (.cells c 47 z)
theorem TyAt.next {W w1 : World} {a : Option Addr} (h : TyAt W a) (hb : Below W.heap.size W w1) : TyAt w1 a := by
  intro b off e
  obtain ⟨c, z, h1⟩ := h b off e
  have hlt : b < W.heap.size := by
    rcases Nat.lt_or_ge b W.heap.size with h | h
    · exact h
    · rw [Array.getElem?_eq_none h] at h1; cases h1
  exact ⟨c, z, (hb.block b hlt).trans h1⟩

theorem grown_of_below {W w1 : World} (hb : Below W.heap.size W w1) (row : Option Nat) : W.grownBy w1 row := ⟨hb.os, hb.tape, hb.output, hb.size, fun k hk _ => hb.block k hk⟩
theorem own_next {W w1 : World} {base e size n : Nat} {v : Value} {xs : List Value} (h : W.ownsRow base e size v n xs) (hb : Below W.heap.size W w1) : w1.ownsRow base e size v n xs := by
  refine h.kept (grown_of_below hb none) ?_
  cases v.ownBlock <;> simp

/-- Cells that hold rows with weights, whose values lie in blocks of values. -/
def EncT (W : World) (xs : List Value) (l : List Zp) : Prop :=
  xs.length = l.length * 2 ∧ ∀ (i : Nat) (h : i < l.length), ∃ a cap, xs[i * 2]? = some (.slice a l[i].1.length cap) ∧ xs[i * 2 + 1]? = some (.int .i64 l[i].2) ∧ SlAt W a l[i].1 ∧ TyAt W a
theorem EncT.next {W w1 : World} {xs : List Value} {l : List Zp} (h : EncT W xs l) (hb : Below W.heap.size W w1) : EncT w1 xs l :=
  ⟨h.1, fun i hi => by
    obtain ⟨a, cap, h1, h2, h3, h4⟩ := h.2 i hi
    exact ⟨a, cap, h1, h2, h3.next hb, h4.next hb⟩⟩
/-- A slice of a call's own holds these rows. -/
def OwnZ (base : Nat) (W : World) (v : Value) (l : List Zp) : Prop := ∃ xs, W.ownsRow base 45 2 v l.length xs ∧ EncT W xs l
theorem OwnZ.next {base : Nat} {W w1 : World} {v : Value} {l : List Zp} (h : OwnZ base W v l) (hb : Below W.heap.size W w1) : OwnZ base w1 v l := by
  obtain ⟨xs, h1, h2⟩ := h
  exact ⟨xs, own_next h1 hb, h2.next hb⟩
theorem OwnZ.mono {base base' : Nat} {W : World} {v : Value} {l : List Zp} (h : OwnZ base W v l) (hb : base' ≤ base) : OwnZ base' W v l := by
  obtain ⟨xs, ⟨h0, h1⟩, h2⟩ := h
  refine ⟨xs, ⟨h0, ?_⟩, h2⟩
  rcases h1 with h1 | ⟨g, cap, cur, e, hg, h3⟩
  · exact .inl h1
  · exact .inr ⟨g, cap, cur, e, Nat.le_trans hb hg, h3⟩
theorem OwnZ.zs {base : Nat} {W : World} {v : Value} {l : List Zp} (h : OwnZ base W v l) : ∃ a cap, v = .slice a l.length cap ∧ ZsAt W a l := by
  obtain ⟨xs, h1, h2⟩ := h
  have h1' := h1
  obtain ⟨hx, h1 | ⟨g, cap, cur, e, hg, hh, hn, hc, hs, ht⟩⟩ := h1
  · obtain ⟨rfl, h0⟩ := h1
    have : l = [] := List.eq_nil_of_length_eq_zero h0
    subst this
    exact ⟨none, 0, rfl, Nat.zero_le _, .inl rfl⟩
  · subst e
    refine ⟨_, cap, rfl, Nat.le_trans hn hc, .inr ⟨g, 0, rfl, ?_, ?_⟩⟩
    · exact (h1'.lt g rfl).2
    · intro i hi
      obtain ⟨a, cp, e0, e1, e2, e3⟩ := h2.2 i hi
      refine ⟨?_, a, cp, ?_, e2⟩
      · rw [h1'.cellAt _ (by omega), ← e1]; congr 1; omega
      · rw [h1'.cellAt _ (by omega), ← e0]; congr 1; omega

theorem sl_grown {W w1 : World} {base n : Nat} {v : Value} {xs : List Value} {a : Option Addr} {r : List Vl} (h : SlAt W a r) (ht : TyAt W a) (ho : W.ownsRow base 45 2 v n xs) (hg : W.grownBy w1 v.ownBlock) : SlAt w1 a r ∧ TyAt w1 a := by
  have key : ∀ b off, a = some ⟨b, off, none⟩ → w1.heap[b]? = W.heap[b]? := by
    intro b off e
    obtain ⟨c, z, h1⟩ := ht b off e
    have hlt : b < W.heap.size := by
      rcases Nat.lt_or_ge b W.heap.size with h | h
      · exact h
      · rw [Array.getElem?_eq_none h] at h1; cases h1
    refine hg.block b hlt ?_
    obtain ⟨_, ⟨rfl, _⟩ | ⟨g, cap, cur, rfl, _, hh, _⟩⟩ := ho
    · simp [Value.ownBlock]
    · simp only [Value.ownBlock]
      intro e
      injection e with e
      subst e
      rw [hh] at h1
      simp at h1
  refine ⟨⟨h.1, ?_⟩, ?_⟩
  · rcases h.2 with h | ⟨b, off, e, hr, hlt⟩
    · exact .inl h
    · refine .inr ⟨b, off, e, fun i hi => ?_, Nat.lt_of_lt_of_le hlt hg.size⟩
      have k := key b off e
      obtain ⟨c0, c1, c2⟩ := hr i hi
      exact ⟨(World.cell?_of_block (a := ⟨b, _, none⟩) k).trans c0, (World.cell?_of_block (a := ⟨b, _, none⟩) k).trans c1, (World.cell?_of_block (a := ⟨b, _, none⟩) k).trans c2⟩
  · intro b off e
    obtain ⟨c, z, h1⟩ := ht b off e
    exact ⟨c, z, (key b off e).trans h1⟩
/-- One row more. -/
theorem own_push {W w1 : World} {base : Nat} {v v' : Value} {xs : List Value} {l : List Zp} {a : Option Addr} {cap : Nat} {r : List Vl} {x : Int}
    (ho : W.ownsRow base 45 2 v l.length xs) (he : EncT W xs l) (hs : SlAt W a r) (ht : TyAt W a)
    (ho' : w1.ownsRow base 45 2 v' (l.length + 1) (xs ++ [.slice a r.length cap, .int .i64 x])) (hg : W.grownBy w1 v.ownBlock) : OwnZ base w1 v' (l ++ [(r, x)]) := by
  refine ⟨_, by simpa using ho', by simp [he.1]; omega, ?_⟩
  intro i hi
  by_cases hi' : i < l.length
  · obtain ⟨a', c', h1, h2, h3, h4⟩ := he.2 i hi'
    have g := sl_grown h3 h4 ho hg
    have lx := he.1
    refine ⟨a', c', ?_, ?_, ?_, g.2⟩
    · rw [List.getElem?_append_left (by omega), h1, List.getElem_append_left hi']
    · rw [List.getElem?_append_left (by omega), h2, List.getElem_append_left hi']
    · rw [List.getElem_append_left hi']; exact g.1
  · have : i = l.length := by simp at hi; omega
    subst this
    have lx := he.1
    have g := sl_grown hs ht ho hg
    refine ⟨a, cap, ?_, ?_, ?_, g.2⟩
    · rw [List.getElem?_append_right (by omega)]; simp [lx]
    · rw [List.getElem?_append_right (by omega)]; simp [lx]
    · simpa using g.1

theorem ret_val {u v : Value} (h : u = v) : Ending.returned u = .returned v := by rw [h]

/-- What the making of bare values has come to: k of them are there. -/
def BareTo (W : World) (B n : Nat) (l : List Vl) (k : Nat) : Prop := ∃ xs, W.ownsRow B 47 3 (.slice (some ⟨B, 0, none⟩) n n) n xs ∧ ∀ (j : Nat) (h : j < l.length), j < k → xs[j * 3]? = some (.int .i64 (bareP l[j]).1) ∧ xs[j * 3 + 1]? = some (.int .i64 (bareP l[j]).2.1) ∧ xs[j * 3 + 2]? = some (.string (bareP l[j]).2.2)
theorem BareTo.step {W : World} {B n : Nat} {l : List Vl} {k : Nat} (h : BareTo W B n l k) (hk : k < l.length) (hn : n = l.length) :
    BareTo (((W.setCell ⟨B, k * 3, none⟩ (.int .i64 (bareP l[k]).1)).setCell ⟨B, k * 3 + 1, none⟩ (.int .i64 (bareP l[k]).2.1)).setCell ⟨B, k * 3 + 2, none⟩ (.string (bareP l[k]).2.2)) B n l (k + 1) := by
  obtain ⟨xs, h1, h2⟩ := h
  have lx := h1.1
  refine ⟨_, ((((h1.stored (k * 3) _).1.stored (k * 3 + 1) _).1).stored (k * 3 + 2) _).1, ?_⟩
  intro j hj hjk
  by_cases e : j = k
  · subst e
    refine ⟨?_, ?_, ?_⟩ <;> simp [List.getElem?_set, lx, hn] <;> omega
  · obtain ⟨g0, g1, g2⟩ := h2 j hj (by omega)
    refine ⟨?_, ?_, ?_⟩
    · rw [List.getElem?_set_ne (by omega), List.getElem?_set_ne (by omega), List.getElem?_set_ne (by omega)]; exact g0
    · rw [List.getElem?_set_ne (by omega), List.getElem?_set_ne (by omega), List.getElem?_set_ne (by omega)]; exact g1
    · rw [List.getElem?_set_ne (by omega), List.getElem?_set_ne (by omega), List.getElem?_set_ne (by omega)]; exact g2
theorem BareTo.next {W w1 : World} {B n : Nat} {l : List Vl} {k : Nat} (h : BareTo W B n l k) (hb : Below W.heap.size W w1) : BareTo w1 B n l k := by
  obtain ⟨xs, h1, h2⟩ := h
  exact ⟨xs, own_next h1 hb, h2⟩
theorem BareTo.cells {W : World} {B n : Nat} {l : List Vl} {k : Nat} (h : BareTo W B n l k) (hk : k < n) : (∃ u0 u1 u2, W.cell? ⟨B, k * 3, none⟩ = some u0 ∧ W.cell? ⟨B, k * 3 + 1, none⟩ = some u1 ∧ W.cell? ⟨B, k * 3 + 2, none⟩ = some u2) ∧ W.frozen? ⟨B, k * 3, none⟩ = false ∧ W.frozen? ⟨B, k * 3 + 1, none⟩ = false ∧ W.frozen? ⟨B, k * 3 + 2, none⟩ = false ∧ B < W.heap.size := by
  obtain ⟨xs, h1, h2⟩ := h
  have lx := h1.1
  refine ⟨⟨xs[k * 3]'(by omega), xs[k * 3 + 1]'(by omega), xs[k * 3 + 2]'(by omega), ?_, ?_, ?_⟩, h1.frozenAt _, h1.frozenAt _, h1.frozenAt _, (h1.lt B rfl).2⟩
  · rw [h1.cellAt _ (by omega)]; exact List.getElem?_eq_getElem (by omega)
  · rw [h1.cellAt _ (by omega)]; exact List.getElem?_eq_getElem (by omega)
  · rw [h1.cellAt _ (by omega)]; exact List.getElem?_eq_getElem (by omega)
theorem BareTo.done {W : World} {B n : Nat} {l : List Vl} (h : BareTo W B n l l.length) (hn : n = l.length) (h8 : l.length ≤ 8) : SlAt W (some ⟨B, 0, none⟩) (bareL l) ∧ TyAt W (some ⟨B, 0, none⟩) := by
  obtain ⟨xs, h1, h2⟩ := h
  subst hn
  refine ⟨⟨by simp [bareL, maxLen]; omega, .inr ⟨B, 0, rfl, ?_, (h1.lt B rfl).2⟩⟩, ?_⟩
  · intro i hi
    have hi' : i < l.length := by simpa [bareL] using hi
    obtain ⟨g0, g1, g2⟩ := h2 i hi' hi'
    simp only [bareL, List.getElem_map]
    refine ⟨?_, ?_, ?_⟩
    · rw [h1.cellAt _ (by omega), ← g0]; congr 1; omega
    · rw [h1.cellAt _ (by omega), ← g1]; congr 1; omega
    · rw [h1.cellAt _ (by omega), ← g2]; congr 1; omega
  · intro b off e
    obtain ⟨_, ⟨e', _⟩ | ⟨g, cap, cur, e', _, hh, _⟩⟩ := h1
    · cases e'
    · simp only [Value.slice.injEq, Option.some.injEq, Addr.mk.injEq] at e e'
      obtain ⟨rfl, _⟩ := e
      rw [← e'.1.1] at hh
      exact ⟨_, _, hh⟩

set_option maxHeartbeats 400000 in
theorem bareRow_at (a : Option Addr) (cap : Nat) (l : List Vl) (w : World) (h : SlAt w a l) (h8 : l.length ≤ 8) :
    Calls Try.prog 43 #[.slice a l.length cap] w fun e w' => e = .returned (.slice (some ⟨w.heap.size, 0, none⟩) l.length l.length) ∧ (SlAt w' (some ⟨w.heap.size, 0, none⟩) (bareL l) ∧ TyAt w' (some ⟨w.heap.size, 0, none⟩)) ∧ Below w.heap.size w w' := by
  obtain ⟨i0, hi, hz0, hz1, hz2⟩ := info_parts Try.info49
  go_enter Try.func43, Try.ntmps43
  go_wp2_with (first | (at_make; refine wpList_make_full _ rfl _ _ 43 rfl w.heap.size 47 i0 _ 3 Try.underlying43 hi hz0 hz1 .i64 .i64 l.length l.length l.length rfl rfl rfl rfl (by rw [hz2]; omega) (by unfold maxLen; omega) (Nat.le_refl _) ?_))
  intro w1 hown hgrow
  have hb0 : Below w.heap.size w w1 := (Below.refl _ _).grown hgrow (Nat.le_refl _) (by simp)
  have hB0 : BareTo w1 w.heap.size l.length l 0 := ⟨_, hown, fun j _ hj => absurd hj (Nat.not_lt_zero _)⟩
  clear hown hgrow
  go_wp2_with fail
  go_loopw [11] (fun i wr => ∃ k : Nat, k ≤ l.length ∧ i = .int .i64 k ∧ BareTo wr w.heap.size l.length l k ∧ Below w.heap.size w wr) (fun i _ => l.length - (intOf i).toNat)
  case atStart => exact ⟨0, Nat.zero_le _, rfl, hB0, hb0⟩
  case round =>
    obtain ⟨k, hk, rfl, HB, hb⟩ := hrel
    have hz := hb.size
    by_cases hlt : k < l.length
    · obtain ⟨b, off, rfl, hbl, c0, c1, c2⟩ := (h.next hb).elem hlt
      have i0 : (0 : Int) ≤ (k : Int) := by omega
      have i1 : (k : Int) < (l.length : Int) := by omega
      go_wp2_with fail
      refine (bare_any _ _ _ _).mono ?_
      rintro e w2 ⟨rfl, hb2⟩
      have HB2 := (HB.next ((Below.refl _ _).alloc (Nat.le_refl _) _)).next hb2
      obtain ⟨⟨u0, u1, u2, d0, d1, d2⟩, f0, f1, f2, hlb⟩ := HB2.cells hlt
      go_wp2_with fail
      go_roundw
      case rel =>
        refine ⟨k + 1, by omega, by go_num, ?_, ?_⟩
        · exact HB2.step hlt rfl
        · exact (((chain2 hb hb2).setCell (p := ⟨w.heap.size, k * 3, none⟩) (Nat.le_refl _) _).setCell (p := ⟨w.heap.size, k * 3 + 1, none⟩) (Nat.le_refl _) _).setCell (p := ⟨w.heap.size, k * 3 + 2, none⟩) (Nat.le_refl _) _
      case measure => simp [intOf]; omega
    · have e : k = l.length := by omega
      subst e
      go_wp2_with fail
      go_ret
      exact ⟨rfl, HB.done rfl h8, hb⟩
end Go.Proofs.Ytibobmkelmalkaa
