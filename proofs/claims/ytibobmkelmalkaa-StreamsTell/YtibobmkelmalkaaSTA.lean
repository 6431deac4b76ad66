/- A list of sets of one's own in a block of slices alone: no set lies in it. -/
import Derived.Test.YtibobmkelmalkaaST5
namespace Go.Proofs.Ytibobmkelmalkaa
open Go.RowKit Go.Lib Go.Shelf

def IsSl (u : Value) : Prop := ∃ a n c, u = Value.slice a n c
/-- All cells of a block are slices. -/
def AllS (W : World) (g : Nat) : Prop := ∃ (cur : Array Value) (T : TypeId), W.heap[g]? = some (.cells cur T (0, 0)) ∧ ∀ u ∈ cur.toList, IsSl u
theorem AllS.cell {W : World} {g o : Nat} {u : Value} (h : AllS W g) (hc : W.cell? ⟨g, o, none⟩ = some u) : IsSl u := by
  obtain ⟨cur, T, h1, h2⟩ := h
  simp only [World.cell?, h1] at hc
  have hc : cur[o]? = some u := by simpa using hc
  exact h2 u (by rw [Array.mem_toList_iff]; exact Array.mem_of_getElem? hc)
theorem AllS.same {W W' : World} {g : Nat} (h : AllS W g) (e : W'.heap[g]? = W.heap[g]?) : AllS W' g := by
  obtain ⟨cur, T, h1, h2⟩ := h
  exact ⟨cur, T, e.trans h1, h2⟩
theorem sl_off {W W' : World} {g : Nat} (hs : AllS W g) (hz : W.heap.size ≤ W'.heap.size) (hk : ∀ b, b < W.heap.size → b ≠ g → W'.heap[b]? = W.heap[b]?) {a : Option Addr} {r : List Vl} (h : SlAt W a r) : SlAt W' a r := by
  refine ⟨h.1, ?_⟩
  rcases h.2 with h | ⟨b, off, e, hr, hlt⟩
  · exact .inl h
  · by_cases h0 : r = []
    · exact .inl h0
    · have hne : b ≠ g := by
        rintro rfl
        obtain ⟨a', n', c', e'⟩ := hs.cell (hr 0 (List.length_pos_iff.2 h0)).1
        cases e'
      have k := hk b hlt hne
      refine .inr ⟨b, off, e, fun i hi => ?_, Nat.lt_of_lt_of_le hlt hz⟩
      obtain ⟨c0, c1, c2⟩ := hr i hi
      exact ⟨(World.cell?_of_block (a := ⟨b, _, none⟩) k).trans c0, (World.cell?_of_block (a := ⟨b, _, none⟩) k).trans c1, (World.cell?_of_block (a := ⟨b, _, none⟩) k).trans c2⟩
theorem zs_off {W W' : World} {g : Nat} (hs : AllS W g) (hz : W.heap.size ≤ W'.heap.size) (hk : ∀ b, b < W.heap.size → b ≠ g → W'.heap[b]? = W.heap[b]?) {a : Option Addr} {z : List Zp} (h : ZsAt W a z) : ZsAt W' a z := by
  refine ⟨h.1, ?_⟩
  rcases h.2 with h | ⟨b, off, e, hlt, hr⟩
  · exact .inl h
  · by_cases h0 : z = []
    · exact .inl h0
    · have hne : b ≠ g := by
        rintro rfl
        obtain ⟨a', n', c', e'⟩ := hs.cell (hr 0 (List.length_pos_iff.2 h0)).1
        cases e'
      have k := hk b hlt hne
      refine .inr ⟨b, off, e, Nat.lt_of_lt_of_le hlt hz, fun i hi => ?_⟩
      obtain ⟨c0, ar, cr, c1, s⟩ := hr i hi
      exact ⟨(World.cell?_of_block (a := ⟨b, _, none⟩) k).trans c0, ar, cr, (World.cell?_of_block (a := ⟨b, _, none⟩) k).trans c1, sl_off hs hz hk s⟩
theorem zero_sl {k : Nat} {u : Value} (h : u ∈ (Builtin.zeroCells (Value.cells (.slice none 0 0)) k).toList) : IsSl u := by
  unfold Builtin.zeroCells at h
  simp [Value.cells] at h
  obtain ⟨j, _, e⟩ := h
  simp [Nat.mod_one] at e
  exact ⟨_, _, _, e.symm⟩
/-- Appending one slice to a list of slices. -/
theorem run_append_sl {P : Program} (w : World) (base : Nat) (t ty e : TypeId) (i : TypeInfo) (ht : P.underlying t = some (.slice e)) (hi : P.info? e = some i) (hz : i.zero = some (.slice none 0 0)) (hsize : i.size = 1) (hby : i.bytes = 24)
    (v : Value) (n : Nat) (xs : List Value) (hown : w.ownsRow base e 1 v n xs) (hall : ∀ g, v.ownBlock = some g → AllS w g)
    (a : Addr) (u : Value) (hu : IsSl u) (hc : w.cell? a = some u) (c : Nat) (hn : n ≤ 1000000) (hbase : base ≤ w.heap.size) :
    ∃ v' w', (Builtin.append_ #[t, t] ty #[v, .slice (some a) 1 c]).run P w = .ok v' w' ∧ w'.ownsRow base e 1 v' (n + 1) (xs ++ [u]) ∧ w.grownBy w' v.ownBlock ∧ ∀ g, v'.ownBlock = some g → AllS w' g := by
  have hnews : ∀ j u', [u][j]? = some u' → w.cell? (a.add j) = some u' := fun j u' hj => by
    cases j with
    | zero => simp at hj; subst hj; simpa [Addr.add] using hc
    | succ j => simp at hj
  have h1 : ∀ u' ∈ [u], u'.oneCell' = true := fun u' h => by
    obtain ⟨x, y, z, rfl⟩ := hu
    simp at h; subst h; rfl
  have hl : [u].length = 1 * i.size := by rw [hsize]; rfl
  obtain ⟨v', w', hr, ho, hg, _⟩ := run_append_own (P := P) w base t ty e i _ 1 24 ht hi hz hsize hby rfl (by decide) v n xs hown a 1 c [u] rfl hnews h1 (by unfold maxLen; omega) (by omega) hbase
  refine ⟨v', w', hr, ho, hg, ?_⟩
  obtain ⟨hx, ⟨rfl, rfl⟩ | ⟨g, cap, cur, rfl, hg0, hh, hn0, hc0, hs0, hk0⟩⟩ := hown
  · have hr2 := run_append_nil (P := P) w t ty e i _ ht hi hz a 1 c [u] hl hnews (by decide) (by decide) (by rw [hby]; decide)
    rw [hr] at hr2
    injection hr2 with e1 e2
    subst e1 e2
    intro g hg'
    simp only [Value.ownBlock] at hg'
    injection hg' with hg'
    subst hg'
    refine ⟨_, e, heap_alloc_new w.drew _, fun u' h => ?_⟩
    rw [Array.toList_append] at h
    rcases List.mem_append.1 h with h | h
    · simp at h; subst h; exact hu
    · exact zero_sl h
  · obtain ⟨cur', T', q1, q2⟩ := hall g rfl
    rw [hh] at q1
    have q1 := Option.some.inj q1
    injection q1 with q1 _
    subst q1
    by_cases room : n + 1 ≤ cap
    · have hr2 := run_append_room (P := P) w t ty e i ht hi g n cap cur hh a 1 c [u] hl hnews h1 room (by rw [hsize, hs0]; simp; omega)
      rw [hr] at hr2
      injection hr2 with e1 e2
      subst e1 e2
      intro g' hg'
      simp only [Value.ownBlock] at hg'
      injection hg' with hg'
      subst hg'
      refine ⟨_, e, setRow_heap w g cur _ e _ hh, fun u' h => ?_⟩
      have h : u' ∈ List.take (n * i.size) cur.toList ∨ u' = u ∨ u' ∈ List.drop (n * i.size + 1) cur.toList := by simpa using h
      rcases h with h | rfl | h
      · exact q2 u' (List.mem_of_mem_take h)
      · exact hu
      · exact q2 u' (List.mem_of_mem_drop h)
    · have holds : ∀ j v, xs[j]? = some v → w.cell? ((⟨g, 0, none⟩ : Addr).add j) = some v := World.ownsRow.cells (w := w) (base := base) (e := e) (size := 1) (v := .slice (some ⟨g, 0, none⟩) n cap) (n := n) ⟨hx, .inr ⟨g, cap, cur, rfl, hg0, hh, hn0, hc0, hs0, hk0⟩⟩ rfl
      have hr2 := run_append_grow (P := P) w t ty e i _ ht hi hz ⟨g, 0, none⟩ n cap xs (by rw [hsize]; exact hx) holds a 1 c [u] hl hnews (by omega) (by omega) (by rw [hby]; exact growslice_fits (by omega) (by omega))
      rw [hr] at hr2
      injection hr2 with e1 e2
      subst e1 e2
      intro g' hg'
      simp only [Value.ownBlock] at hg'
      injection hg' with hg'
      subst hg'
      refine ⟨_, e, heap_alloc_new w.drew _, fun u' h => ?_⟩
      rw [Array.toList_append, Array.toList_append] at h
      rcases List.mem_append.1 h with h | h
      · rcases List.mem_append.1 h with h | h
        · refine q2 u' ?_
          have h : u' ∈ xs := by simpa using h
          rw [← hk0] at h
          exact List.mem_of_mem_take h
        · simp at h; subst h; exact hu
      · exact zero_sl h
theorem wpList_append_sl {P : Program} {w : World} {ops : Array Oper} {rest : List Oper} {o : Oper} {a : Act} {Q : Exit → Act → World → Prop} (hgd : o.guard = none) (s x : Operand) (t : TypeId)
    (ho : o.op = .call { callee := .builtin .append, args := #[s, x], argTypes := #[t, t] })
    (base : Nat) (e : TypeId) (i : TypeInfo) (ht : P.underlying t = some (.slice e)) (hi : P.info? e = some i) (hz : i.zero = some (.slice none 0 0)) (hsize : i.size = 1) (hby : i.bytes = 24)
    (v : Value) (n : Nat) (xs : List Value) (hs : a.eval s = v) (hown : w.ownsRow base e 1 v n xs) (hall : ∀ g, v.ownBlock = some g → AllS w g)
    (ad : Addr) (u : Value) (hu : IsSl u) (hc : w.cell? ad = some u) (c : Nat) (hx : a.eval x = .slice (some ad) 1 c) (hn : n ≤ 1000000) (hbase : base ≤ w.heap.size)
    (h : ∀ v' w', w'.ownsRow base e 1 v' (n + 1) (xs ++ [u]) → w.grownBy w' v.ownBlock → (∀ g, v'.ownBlock = some g → AllS w' g) → wpList P ops Q rest (a.put o.dst v') w') : wpList P ops Q (o :: rest) a w := by
  refine wpList_plain hgd fun K hK => ?_
  obtain ⟨v', w', hr, ho', hgr, hd⟩ := run_append_sl (P := P) w base t o.type e i ht hi hz hsize hby v n xs hown hall ad u hu hc c hn hbase
  unfold Oper.wp
  simp [execOp, ho, resolve, invoke, builtin, hs, hx, hr, Result.andThen]
  exact hK _ _ (h v' w' ho' hgr hd)
/-- A list of sets of one's own, whatever the sets lie in. -/
structure OwnQ (base : Nat) (W : World) (v : Value) (zs : List (List Zp)) (cs : List Value) : Prop where
  own : W.ownsRow base 34 1 v zs.length cs
  all : ∀ g, v.ownBlock = some g → AllS W g
  at_ : ∀ (i : Nat) (h : i < zs.length), ∃ a c, cs[i]? = some (.slice a zs[i].length c) ∧ ZsAt W a zs[i]
theorem OwnQ.nil (base : Nat) (W : World) : OwnQ base W (.slice none 0 0) [] [] := ⟨World.ownsRow_nil _ _ _ _, fun g h => by simp [Value.ownBlock] at h, fun i hi => by cases hi⟩
theorem OwnQ.next {base : Nat} {W w1 : World} {v : Value} {zs : List (List Zp)} {cs : List Value} (h : OwnQ base W v zs cs) (hb : Below W.heap.size W w1) : OwnQ base w1 v zs cs :=
  ⟨own_next h.own hb, fun g hg => (h.all g hg).same (hb.block g (h.own.lt g hg).2), fun i hi => by
    obtain ⟨a, c, h1, h2⟩ := h.at_ i hi
    exact ⟨a, c, h1, h2.next hb⟩⟩
theorem OwnQ.push {base : Nat} {W W1 : World} {v v' : Value} {zs : List (List Zp)} {z : List Zp} {cs : List Value} {a : Option Addr} {c : Nat} (h : OwnQ base W v zs cs) (hz : ZsAt W a z)
    (ho : W1.ownsRow base 34 1 v' (zs.length + 1) (cs ++ [.slice a z.length c])) (hg : W.grownBy W1 v.ownBlock) (ha : ∀ g, v'.ownBlock = some g → AllS W1 g) : OwnQ base W1 v' (zs ++ [z]) (cs ++ [.slice a z.length c]) := by
  have hcl : cs.length = zs.length := by have := h.own.1; omega
  have mv : ∀ {a : Option Addr} {z : List Zp}, ZsAt W a z → ZsAt W1 a z := fun hz => by
    cases hv : v.ownBlock with
    | none =>
      rw [hv] at hg
      exact hz.next ⟨hg.os, hg.tape, hg.output, hg.size, fun k hk => hg.block k hk (by simp)⟩
    | some g =>
      rw [hv] at hg
      exact zs_off (h.all g hv) hg.size (fun b hb hne => hg.block b hb (by intro e; exact hne (Option.some.inj e))) hz
  refine ⟨by rw [List.length_append]; exact ho, ha, fun i hi => ?_⟩
  by_cases e : i < zs.length
  · obtain ⟨a', c', e1, o1⟩ := h.at_ i e
    rw [List.getElem_append_left e]
    exact ⟨a', c', by rw [List.getElem?_append_left (by omega)]; exact e1, mv o1⟩
  · have e : i = zs.length := by simp at hi; omega
    subst e
    exact ⟨a, c, by rw [List.getElem?_append_right (by omega)]; simp [hcl], by simpa using mv hz⟩
theorem OwnQ.dt {base : Nat} {W : World} {v : Value} {zs : List (List Zp)} {cs : List Value} (h : OwnQ base W v zs cs) : ∃ a c, v = .slice a zs.length c ∧ DtW W a zs := by
  have h1' := h.own
  obtain ⟨hx, ⟨rfl, h0⟩ | ⟨g, cap, cur, rfl, hg, hh, hn, hc, hs, ht⟩⟩ := h.own
  · have : zs = [] := List.eq_nil_of_length_eq_zero h0
    subst this
    exact ⟨none, 0, rfl, .inl rfl⟩
  · refine ⟨_, cap, rfl, ?_⟩
    by_cases hz : zs = []
    · exact .inl hz
    · have key : ∀ (i : Nat) (h : i < zs.length), ∃ y : Option Addr × Nat, W.cell? ⟨g, 0 + i, none⟩ = some (.slice y.1 zs[i].length y.2) ∧ ZsAt W y.1 zs[i] := fun i hi => by
        obtain ⟨a, c, e, o⟩ := h.at_ i hi
        have := World.ownsRow.cells h1' (g := g) rfl i _ e
        exact ⟨(a, c), by rw [addr_zero] at this; rw [Nat.zero_add]; exact this, o⟩
      refine .inr ⟨g, 0, fun i => if h : i < zs.length then (Classical.choose (key i h)).1 else none, fun i => if h : i < zs.length then (Classical.choose (key i h)).2 else 0, rfl, lt_of_heap hh, fun i hi => ?_⟩
      simp only [dif_pos hi]
      exact Classical.choose_spec (key i hi)
end Go.Proofs.Ytibobmkelmalkaa
