/- Lists of sets that grow; what changes beside sets; the walk of streams.each over sets. -/
import Derived.Test.YtibobmkelmalkaaST0
import Derived.Deep.Cut
namespace Go.Proofs.Ytibobmkelmalkaa
open Go.RowKit Go.Lib Go.Shelf

theorem addr_zero (g i : Nat) : (⟨g, 0, none⟩ : Addr).add i = ⟨g, i, none⟩ := by
  unfold Addr.add
  by_cases h : i = 0 <;> simp [h]
/-- All blocks of values and of rows are as they were. -/
structure KeepT (W W' : World) : Prop where
  size : W.heap.size ≤ W'.heap.size
  keep : ∀ (k : Nat) (c : Array Value) (T : TypeId) (y : Nat × Nat), W.heap[k]? = some (.cells c T y) → (T = 47 ∨ T = 45) → W'.heap[k]? = W.heap[k]?
theorem KeepT.refl (W : World) : KeepT W W := ⟨Nat.le_refl _, fun _ _ _ _ _ _ => rfl⟩
theorem KeepT.trans {a b c : World} (h : KeepT a b) (k : KeepT b c) : KeepT a c :=
  ⟨Nat.le_trans h.size k.size, fun i x T y hq hT => by
    have e := h.keep i x T y hq hT
    exact (k.keep i x T y (e.trans hq) hT).trans e⟩
theorem KeepT.of {W W' : World} (h : Below W.heap.size W W') : KeepT W W' := ⟨h.size, fun k _ _ _ hq _ => h.block k (lt_of_heap hq)⟩
theorem KeepT.set {W W' : World} (h : KeepT W W') {g : Nat} {c : Array Value} {T : TypeId} {y : Nat × Nat} (hq : W'.heap[g]? = some (.cells c T y)) (h1 : T ≠ 47) (h2 : T ≠ 45) (o : Nat) (u : Value) : KeepT W (W'.setCell ⟨g, o, none⟩ u) :=
  h.trans ⟨by simp, fun k x T' y' hk hT => Below.heap_setCell W' ⟨g, o, none⟩ u k (by
    show k ≠ g
    intro e
    subst e
    rw [hq] at hk
    have := Option.some.inj hk
    injection this with _ e2
    subst e2
    rcases hT with e | e
    · exact h1 e
    · exact h2 e)⟩
theorem KeepT.own {W W' : World} {base e size n : Nat} {v : Value} {xs : List Value} (h : W.ownsRow base e size v n xs) (h1 : e ≠ 47) (h2 : e ≠ 45) (hg : W.grownBy W' v.ownBlock) : KeepT W W' :=
  ⟨hg.size, fun k x T y hk hT => hg.block k (lt_of_heap hk) (by
    obtain ⟨_, ⟨rfl, _⟩ | ⟨g, cap, cur, rfl, _, hh, _⟩⟩ := h
    · simp [Value.ownBlock]
    · simp only [Value.ownBlock]
      intro e'
      injection e' with e'
      subst e'
      rw [hh] at hk
      have := Option.some.inj hk
      injection this with _ e2
      subst e2
      rcases hT with e | e
      · exact h1 e
      · exact h2 e)⟩
theorem sl_keep {W w1 : World} (hk : KeepT W w1) {a : Option Addr} {r : List Vl} (h : SlAt W a r) (ht : TyAt W a) : SlAt w1 a r ∧ TyAt w1 a := by
  have key : ∀ b off, a = some ⟨b, off, none⟩ → w1.heap[b]? = W.heap[b]? := by
    intro b off e
    obtain ⟨c', z, h1⟩ := ht b off e
    exact hk.keep b _ _ _ h1 (.inl rfl)
  refine ⟨⟨h.1, ?_⟩, ?_⟩
  · rcases h.2 with h | ⟨b, off, e, hr, hlt⟩
    · exact .inl h
    · refine .inr ⟨b, off, e, fun i hi => ?_, Nat.lt_of_lt_of_le hlt hk.size⟩
      have k := key b off e
      obtain ⟨c0, c1, c2⟩ := hr i hi
      exact ⟨(World.cell?_of_block (a := ⟨b, _, none⟩) k).trans c0, (World.cell?_of_block (a := ⟨b, _, none⟩) k).trans c1, (World.cell?_of_block (a := ⟨b, _, none⟩) k).trans c2⟩
  · intro b off e
    obtain ⟨c', z, h1⟩ := ht b off e
    exact ⟨c', z, (key b off e).trans h1⟩
theorem OwnZ.keep {W w1 : World} {base : Nat} {v : Value} {l : List Zp} (h : OwnZ base W v l) (hk : KeepT W w1) : OwnZ base w1 v l := by
  obtain ⟨xs, ⟨h0, h1⟩, h2, h3⟩ := h
  refine ⟨xs, ⟨h0, ?_⟩, h2, fun i hi => ?_⟩
  · rcases h1 with h1 | ⟨g, cap, cur, e1, e2, e3, e4⟩
    · exact .inl h1
    · exact .inr ⟨g, cap, cur, e1, e2, (hk.keep g _ _ _ e3 (.inr rfl)).trans e3, e4⟩
  · obtain ⟨a, cap, e0, e1, e2, e3⟩ := h3 i hi
    have := sl_keep hk e2 e3
    exact ⟨a, cap, e0, e1, this.1, this.2⟩
/-- A list of sets of one's own. -/
def OwnL (base : Nat) (W : World) (v : Value) (zs : List (List Zp)) : Prop := ∃ cs, W.ownsRow base 34 1 v zs.length cs ∧ ∀ (i : Nat) (h : i < zs.length), ∃ u, cs[i]? = some u ∧ OwnZ 0 W u zs[i]
theorem OwnL.nil (base : Nat) (W : World) : OwnL base W (.slice none 0 0) [] := ⟨[], World.ownsRow_nil _ _ _ _, fun i hi => by cases hi⟩
theorem OwnL.move {base lo : Nat} {W w1 : World} {v : Value} {zs : List (List Zp)} (h : OwnL base W v zs) (hl : lo ≤ base) (hs : Since lo W w1) (hk : KeepT W w1) : OwnL base w1 v zs := by
  obtain ⟨cs, h1, h2⟩ := h
  refine ⟨cs, own_since h1 hl hs, fun i hi => ?_⟩
  obtain ⟨u, e, o⟩ := h2 i hi
  exact ⟨u, e, o.keep hk⟩
theorem OwnL.next {base : Nat} {W w1 : World} {v : Value} {zs : List (List Zp)} (h : OwnL base W v zs) (hb : Below W.heap.size W w1) : OwnL base w1 v zs := h.move (Nat.le_refl _) (Since.of hb) (KeepT.of hb)
theorem OwnL.mono {base base' : Nat} {W : World} {v : Value} {zs : List (List Zp)} (h : OwnL base W v zs) (hb : base' ≤ base) : OwnL base' W v zs := by
  obtain ⟨cs, ⟨h0, h1⟩, h2⟩ := h
  refine ⟨cs, ⟨h0, ?_⟩, h2⟩
  rcases h1 with h1 | ⟨g, cap, cur, e, hg, h3⟩
  · exact .inl h1
  · exact .inr ⟨g, cap, cur, e, Nat.le_trans hb hg, h3⟩
theorem OwnL.dt {base : Nat} {W : World} {v : Value} {zs : List (List Zp)} (h : OwnL base W v zs) : ∃ a c, v = .slice a zs.length c ∧ DtAt W a zs ∧ (a = none → c = 0) := by
  obtain ⟨cs, h1, h2⟩ := h
  have h1' := h1
  obtain ⟨hx, ⟨rfl, h0⟩ | ⟨g, cap, cur, rfl, hg, hh, hn, hc, hs, ht⟩⟩ := h1
  · have : zs = [] := List.eq_nil_of_length_eq_zero h0
    subst this
    exact ⟨none, 0, rfl, .inl rfl, fun _ => rfl⟩
  · refine ⟨_, cap, rfl, ?_, fun h => by cases h⟩
    by_cases hz : zs = []
    · exact .inl hz
    · have key : ∀ (i : Nat) (h : i < zs.length), ∃ y : Option Addr × Nat, W.cell? ⟨g, 0 + i, none⟩ = some (.slice y.1 zs[i].length y.2) ∧ ZsAt W y.1 zs[i] ∧ (y.1 = none → y.2 = 0) := fun i hi => by
        obtain ⟨u, e, o⟩ := h2 i hi
        obtain ⟨a, c, rfl, z, n⟩ := o.zs2
        have := World.ownsRow.cells h1' (g := g) rfl i _ e
        exact ⟨(a, c), by rw [addr_zero] at this; rw [Nat.zero_add]; exact this, z, n⟩
      refine .inr ⟨g, 0, fun i => if h : i < zs.length then (Classical.choose (key i h)).1 else none, fun i => if h : i < zs.length then (Classical.choose (key i h)).2 else 0, rfl, lt_of_heap hh, fun i hi => ?_⟩
      simp only [dif_pos hi]
      exact Classical.choose_spec (key i hi)
theorem OwnL.push {base : Nat} {W W1 : World} {v v' u : Value} {zs : List (List Zp)} {z : List Zp} {cs : List Value} (h0 : W.ownsRow base 34 1 v zs.length cs) (h2 : ∀ (i : Nat) (h : i < zs.length), ∃ u, cs[i]? = some u ∧ OwnZ 0 W u zs[i]) (hz : OwnZ 0 W u z)
    (ho : W1.ownsRow base 34 1 v' (zs.length + 1) (cs ++ [u])) (hg : W.grownBy W1 v.ownBlock) : OwnL base W1 v' (zs ++ [z]) := by
  have hk := KeepT.own h0 (by decide) (by decide) hg
  have hcl : cs.length = zs.length := by have := h0.1; omega
  refine ⟨cs ++ [u], by rw [List.length_append]; exact ho, fun i hi => ?_⟩
  by_cases e : i < zs.length
  · obtain ⟨u', e1, o1⟩ := h2 i e
    rw [List.getElem_append_left e]
    exact ⟨u', by rw [List.getElem?_append_left (by omega)]; exact e1, o1.keep hk⟩
  · have e : i = zs.length := by simp at hi; omega
    subst e
    exact ⟨u, by rw [List.getElem?_append_right (by omega)]; simp [hcl], by simpa using hz.keep hk⟩

/-- The first error, and where it is. -/
def firstF (E : Nat → Int) : Nat → Nat → Int × Int
  | 0, _ => (0, 0)
  | n + 1, i => if E i = 0 then firstF E n (i + 1) else (E i, (i : Int))
def eachF (n : Nat) (E : Nat → Int) : Int × Int := if 30 < n then (5, 0) else firstF E n 0
def eachZ (n : Nat) (E : Nat → Int) (Z : Nat → List Zp) : List (List Zp) := if (eachF n E).1 = 0 then (List.range n).map Z else []
theorem firstF_zero (E : Nat → Int) : ∀ n i, (firstF E n i).1 = 0 → ∀ k, i ≤ k → k < i + n → E k = 0
  | 0, i, _, k, h1, h2 => by omega
  | n + 1, i, h, k, h1, h2 => by
    unfold firstF at h
    by_cases e : E i = 0
    · rw [if_pos e] at h
      by_cases ek : k = i
      · rw [ek]; exact e
      · exact firstF_zero E n (i + 1) h k (by omega) (by omega)
    · rw [if_neg e] at h
      exact absurd h e
theorem firstF_all (E : Nat → Int) : ∀ n i, (∀ k, i ≤ k → k < i + n → E k = 0) → firstF E n i = (0, 0)
  | 0, i, _ => rfl
  | n + 1, i, h => by
    unfold firstF
    rw [if_pos (h i (Nat.le_refl _) (by omega))]
    exact firstF_all E n (i + 1) fun k h1 h2 => h k (by omega) (by omega)
theorem eachF_ok {n : Nat} {E : Nat → Int} (h : (eachF n E).1 = 0) : n ≤ 30 ∧ ∀ k, k < n → E k = 0 := by
  unfold eachF at h
  by_cases e : 30 < n
  · rw [if_pos e] at h; simp at h
  · rw [if_neg e] at h
    exact ⟨by omega, fun k hk => firstF_zero E n 0 h k (Nat.zero_le _) (by omega)⟩
theorem eachF_all {n : Nat} {E : Nat → Int} (hn : n ≤ 30) (h : ∀ k, k < n → E k = 0) : eachF n E = (0, 0) := by
  unfold eachF
  rw [if_neg (by omega)]
  exact firstF_all E n 0 fun k _ hk => h k (by omega)
theorem eachZ_all {n : Nat} {E : Nat → Int} {Z : Nat → List Zp} (hn : n ≤ 30) (h : ∀ k, k < n → E k = 0) : eachZ n E Z = (List.range n).map Z := by
  unfold eachZ
  rw [if_pos (by rw [eachF_all hn h])]
theorem eachF_at {n : Nat} {E : Nat → Int} {k : Nat} (hn : n ≤ 30) (hk : k < n) (h : ∀ i, i < k → E i = 0) (h0 : E k ≠ 0) : eachF n E = (E k, (k : Int)) := by
  have key : ∀ m i, i ≤ k → k < i + m → firstF E m i = (E k, (k : Int)) := by
    intro m
    induction m with
    | zero => intro i h1 h2; omega
    | succ m ih =>
      intro i h1 h2
      unfold firstF
      by_cases e : i = k
      · subst e; rw [if_neg h0]
      · rw [if_pos (h i (by omega))]
        exact ih (i + 1) (by omega) (by omega)
  unfold eachF
  rw [if_neg (by omega)]
  exact key n 0 (Nat.zero_le _) (by omega)
end Go.Proofs.Ytibobmkelmalkaa
