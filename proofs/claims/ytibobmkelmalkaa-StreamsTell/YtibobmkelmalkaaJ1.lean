/- Slices as cells; appending whatever slice, a nil one too. -/
import Derived.Test.YtibobmkelmalkaaZ3
import Derived.Test.YtibobmkelmalkaaZ4
import Derived.Test.YtibobmkelmalkaaZ4
import Derived.Laws.AppendOwnNone
namespace Go.Proofs.Ytibobmkelmalkaa
open Go.RowKit Go.Lib

theorem run_append_none2 {P : Program} {w : World} (base : Nat) (t ty e : TypeId) (i : TypeInfo) (size : Nat) (ht : P.underlying t = some (.slice e)) (hi : P.info? e = some i)
    (v : Value) (n : Nat) (xs : List Value) (hown : w.ownsRow base e size v n xs) (c : Nat) : (Builtin.append_ #[t, t] ty #[v, .slice none 0 c]).run P w = .ok v w := by
  rcases hown.2 with ⟨rfl, rfl⟩ | ⟨g, cap, cur, rfl, _, _, hnc, _⟩
  · simp [Builtin.append_, run_underlying ht, sizeOf, typeInfo, hi, Builtin.lenOf, Builtin.firstCells]
  · simp [Builtin.append_, run_underlying ht, sizeOf, typeInfo, hi, Builtin.lenOf, Builtin.firstCells, hnc, storeCells]

/-- Cells behind a slice: n elements of so many cells each. -/
structure Raw (W : World) (a : Option Addr) (n size : Nat) (xs : List Value) : Prop where
  len : xs.length = n * size
  one : ∀ u ∈ xs, u.oneCell' = true
  nil : a = none → n = 0
  at_ : ∀ ad, a = some ad → ∀ j u, xs[j]? = some u → W.cell? (ad.add j) = some u
theorem Raw.next {W w1 : World} {a : Option Addr} {n size : Nat} {xs : List Value} (h : Raw W a n size xs) (hb : Below W.heap.size W w1) : Raw w1 a n size xs :=
  ⟨h.len, h.one, h.nil, fun ad e j u hj => (hb.cell (World.block_lt_of_cell? _ _ (h.at_ ad e j u hj))).trans (h.at_ ad e j u hj)⟩
theorem Raw.alloc {W : World} {a : Option Addr} {n size : Nat} {xs : List Value} (h : Raw W a n size xs) (o : Obj) : Raw (W.alloc o) a n size xs := h.next ((Below.refl _ _).alloc (Nat.le_refl _) _)

theorem wpList_append_raw {P : Program} {w : World} {ops : Array Oper} {rest : List Oper} {o : Oper} {a : Act} {Q : Exit → Act → World → Prop} (hgd : o.guard = none) (s x : Operand) (t : TypeId)
    (ho : o.op = .call { callee := .builtin .append, args := #[s, x], argTypes := #[t, t] })
    (base : Nat) (e : TypeId) (i : TypeInfo) (z : Value) (size bytes : Nat) (ht : P.underlying t = some (.slice e)) (hi : P.info? e = some i) (hz : i.zero = some z)
    (hsize : i.size = size) (hby : i.bytes = bytes) (hzs : z.cells.size = size) (hsz : 0 < size)
    (v : Value) (n : Nat) (xs : List Value) (hs : a.eval s = v) (hown : w.ownsRow base e size v n xs)
    (ao : Option Addr) (m c : Nat) (news : List Value) (hx : a.eval x = .slice ao m c) (hr : Raw w ao m size news)
    (h63 : n + m ≤ maxLen) (hbytes : (n + m) * bytes ≤ 140737488355328) (hbase : base ≤ w.heap.size)
    (h : ∀ v' w', w'.ownsRow base e size v' (n + m) (xs ++ news) → w.grownBy w' v.ownBlock → wpList P ops Q rest (a.put o.dst v') w') : wpList P ops Q (o :: rest) a w := by
  rcases ao with _ | ad
  · have hm := hr.nil rfl
    subst hm
    have hnews : news = [] := List.eq_nil_of_length_eq_zero (by simpa using hr.len)
    subst hnews
    refine wpList_plain hgd fun K hK' => ?_
    have hrun := run_append_none2 (P := P) (w := w) base t o.type e i size ht hi v n xs hown c
    unfold Oper.wp
    simp [execOp, ho, resolve, invoke, builtin, hs, hx, hrun, Result.andThen]
    exact hK' _ _ (by simpa using h v w (by simpa using hown) (World.grownBy.refl _ _))
  · exact wpList_append_own _ hgd s x t ho base e i z size bytes ht hi hz hsize hby hzs hsz v n xs hs hown ad m c news hx hr.len (hr.at_ ad rfl) hr.one h63 hbytes hbase (fun v' w' h1 h2 _ => h v' w' h1 h2)
/-- .. within what there is room for. -/
theorem wpList_append_in {P : Program} (w : World) {ops : Array Oper} {rest : List Oper} {o : Oper} {a : Act} {Q : Exit → Act → World → Prop}
    (hg : o.guard = none) (s x : Operand) (t : TypeId) (hop : o.op = Op.call { callee := Callee.builtin Builtin.append, args := #[s, x], argTypes := #[t, t] })
    (base : Nat) (e : TypeId) (i : TypeInfo) (size : Nat) (h1 : P.underlying t = some (.slice e)) (h2 : P.info? e = some i) (h4 : i.size = size)
    (g k cap : Nat) (xs : List Value) (hs : a.eval s = .slice (some ⟨g, 0, none⟩) k cap) (hown : w.ownsRow base e size (.slice (some ⟨g, 0, none⟩) k cap) k xs) (ao : Option Addr) (m c : Nat) (news : List Value) (hx : a.eval x = .slice ao m c) (hr : Raw w ao m size news) (b1 : k + m ≤ cap)
    (hK : ∀ w', w'.ownsRow base e size (.slice (some ⟨g, 0, none⟩) (k + m) cap) (k + m) (xs ++ news) → w.grownBy w' (some g) → wpList P ops Q rest (a.put o.dst (.slice (some ⟨g, 0, none⟩) (k + m) cap)) w') :
    wpList P ops Q (o :: rest) a w := by
  rcases ao with _ | ad
  · have hm := hr.nil rfl
    subst hm
    have hnews : news = [] := List.eq_nil_of_length_eq_zero (by simpa using hr.len)
    subst hnews
    refine wpList_plain hg fun K hK' => ?_
    have hrun := run_append_none2 (P := P) (w := w) base t o.type e i size h1 h2 _ k xs hown c
    unfold Oper.wp
    simp [execOp, hop, resolve, invoke, builtin, hs, hx, hrun, Result.andThen]
    exact hK' _ _ (by simpa using hK w (by simpa using hown) (World.grownBy.refl _ _))
  · exact wpList_append_fits w hg s x t hop base e i size h1 h2 h4 g k cap xs hs hown ad m c news hx hr.len (hr.at_ ad rfl) hr.one b1 hK

theorem addr_addJ (b off i : Nat) : (⟨b, off, none⟩ : Addr).add i = ⟨b, off + i, none⟩ := by
  unfold Addr.add
  by_cases h : i = 0 <;> simp [h]
/-- The cells of values. -/
def flatV : List Vl → List Value
  | [] => []
  | v :: r => .int .i64 v.1 :: .int .i64 v.2.1 :: .string v.2.2 :: flatV r
theorem flatV_len : ∀ l, (flatV l).length = l.length * 3
  | [] => rfl
  | v :: r => by simp only [flatV, List.length_cons, flatV_len r]; omega
theorem flatV_append : ∀ l t, flatV (l ++ t) = flatV l ++ flatV t
  | [], _ => rfl
  | v :: r, t => by simp only [List.cons_append, flatV, flatV_append r t]
theorem flatV_get : ∀ (l : List Vl) (j : Nat) (h : j < l.length), (flatV l)[j * 3]? = some (.int .i64 l[j].1) ∧ (flatV l)[j * 3 + 1]? = some (.int .i64 l[j].2.1) ∧ (flatV l)[j * 3 + 2]? = some (.string l[j].2.2)
  | [], _, h => by simp at h
  | v :: r, 0, _ => by simp [flatV]
  | v :: r, j + 1, h => by
    have ih := flatV_get r j (by simpa using h)
    have e0 : (j + 1) * 3 = j * 3 + 1 + 1 + 1 := by omega
    have e1 : (j + 1) * 3 + 1 = j * 3 + 1 + 1 + 1 + 1 := by omega
    have e2 : (j + 1) * 3 + 2 = j * 3 + 2 + 1 + 1 + 1 := by omega
    rw [e1, e2, e0]
    simp only [flatV, List.getElem?_cons_succ, List.getElem_cons_succ]
    exact ih
theorem flatV_one : ∀ l, ∀ u ∈ flatV l, u.oneCell' = true
  | [], u, h => by simp [flatV] at h
  | v :: r, u, h => by
    simp only [flatV, List.mem_cons] at h
    rcases h with rfl | rfl | rfl | h
    · rfl
    · rfl
    · rfl
    · exact flatV_one r u h
theorem raw_vals {W : World} {a : Option Addr} {l : List Vl} (h : SlAt W a l) : Raw W a l.length 3 (flatV l) := by
  refine ⟨flatV_len l, flatV_one l, ?_, ?_⟩
  · intro e
    rcases h.2 with h | ⟨b, off, e', _⟩
    · rw [h]; rfl
    · rw [e] at e'; cases e'
  · intro ad e j u hj
    have hlt : j < l.length * 3 := by
      rcases Nat.lt_or_ge j (l.length * 3) with h | h
      · exact h
      · rw [List.getElem?_eq_none (by rw [flatV_len]; exact h)] at hj; cases hj
    obtain ⟨b, off, e', _, c0, c1, c2⟩ := h.elem (k := j / 3) (by omega)
    rw [e] at e'
    have e' := Option.some.inj e'
    subst e'
    rw [addr_addJ]
    obtain ⟨g0, g1, g2⟩ := flatV_get l (j / 3) (by omega)
    have hm : j % 3 = 0 ∨ j % 3 = 1 ∨ j % 3 = 2 := by omega
    rcases hm with hm | hm | hm
    · have ej : j = j / 3 * 3 := by omega
      rw [ej, g0] at hj
      rw [← hj, ← c0]; congr 2; omega
    · have ej : j = j / 3 * 3 + 1 := by omega
      rw [ej, g1] at hj
      rw [← hj, ← c1]; congr 2; omega
    · have ej : j = j / 3 * 3 + 2 := by omega
      rw [ej, g2] at hj
      rw [← hj, ← c2]; congr 2; omega
theorem own_vals {W : World} {B n : Nat} {v : Value} {l : List Vl} (ho : W.ownsRow B 47 3 v n (flatV l)) (hn : n = l.length) : ∃ a cap, v = .slice a l.length cap ∧ SlAt W a l ∧ TyAt W a ∧ (l.length ≤ cap ∨ a = none) := by
  subst hn
  have ho' := ho
  obtain ⟨hx, ⟨rfl, h0⟩ | ⟨g, cap, cur, rfl, hg, hh, hn, hc, hs, ht⟩⟩ := ho
  · have : l = [] := List.eq_nil_of_length_eq_zero h0
    subst this
    exact ⟨none, 0, rfl, ⟨by simp, .inl rfl⟩, (fun b off e => by cases e), .inr rfl⟩
  · refine ⟨_, cap, rfl, ⟨by omega, .inr ⟨g, 0, rfl, fun i hi => ?_, (ho'.lt g rfl).2⟩⟩, ?_, .inl hn⟩
    · obtain ⟨g0, g1, g2⟩ := flatV_get l i hi
      refine ⟨?_, ?_, ?_⟩
      · rw [ho'.cellAt _ (by omega), ← g0]; congr 1; omega
      · rw [ho'.cellAt _ (by omega), ← g1]; congr 1; omega
      · rw [ho'.cellAt _ (by omega), ← g2]; congr 1; omega
    · intro b off e
      have e := Option.some.inj e
      injection e with e1 e2
      subst e1
      exact ⟨_, _, hh⟩
end Go.Proofs.Ytibobmkelmalkaa
