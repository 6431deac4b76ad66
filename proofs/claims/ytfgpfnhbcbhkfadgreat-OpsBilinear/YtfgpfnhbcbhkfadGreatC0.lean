/- Together: J1, J2, J3, J4, J5, J6, Ext2, J7, J8. -/
import Derived.Laws.AppendOwnNone
import Derived.Laws.EntriesVeiled
import Derived.OrdersHeld
import Derived.RegionTactic
import Derived.Maps.AppendAt
import Derived.Test.YtfgpfnhbcbhkfadGreatB1
import Derived.Test.YtfgpfnhbcbhkfadGreatB3
import Derived.Test.YtfgpfnhbcbhkfadGreatB4
import Derived.Test.YtfgpfnhbcbhkfadGreatB6
/- Slices as cells; appending whatever slice, a nil one too. -/
namespace Go.Proofs.YtfgpfnhbcbhkfadGreat
open Go.RowKit Go.Lib

theorem run_append_none2 {P : Program} {w : World} (base : Nat) (t ty e : TypeId) (i : TypeInfo) (size : Nat) (ht : P.underlying t = some (.slice e)) (hi : P.info? e = some i)
    (v : Value) (n : Nat) (xs : List Value) (hown : w.ownsRow base e size v n xs) (c : Nat) : (Builtin.append_ #[t, t] ty #[v, .slice none 0 c]).run P w = .ok v w := by
  rcases hown.2 with ⟨rfl, rfl⟩ | ⟨g, cap, cur, rfl, _, _, hnc, _⟩
  · simp [Builtin.append_, run_underlying ht, sizeOf, typeInfo, hi, Builtin.lenOf, Builtin.firstCells]
  · simp [Builtin.append_, run_underlying ht, sizeOf, typeInfo, hi, Builtin.lenOf, Builtin.firstCells, hnc, storeCells]

/-- Cells behind a slice: n elements of so many cells each. -/
structure Raw (W : World) (a : Option Addr) (n size : Nat) (xs : List Value) : Prop where
  len : xs.length = n * size
  one : ∀ u ∈ xs, u.oneCell' = true
  nil : a = none → n = 0
  at_ : ∀ ad, a = some ad → ∀ j u, xs[j]? = some u → W.cell? (ad.add j) = some u
theorem Raw.next {W w1 : World} {a : Option Addr} {n size : Nat} {xs : List Value} (h : Raw W a n size xs) (hb : Below W.heap.size W w1) : Raw w1 a n size xs :=
  ⟨h.len, h.one, h.nil, fun ad e j u hj => (hb.cell (World.block_lt_of_cell? _ _ (h.at_ ad e j u hj))).trans (h.at_ ad e j u hj)⟩
theorem Raw.alloc {W : World} {a : Option Addr} {n size : Nat} {xs : List Value} (h : Raw W a n size xs) (o : Obj) : Raw (W.alloc o) a n size xs := h.next ((Below.refl _ _).alloc (Nat.le_refl _) _)

theorem wpList_append_raw {P : Program} {w : World} {ops : Array Oper} {rest : List Oper} {o : Oper} {a : Act} {Q : Exit → Act → World → Prop} (hgd : o.guard = none) (s x : Operand) (t : TypeId)
    (ho : o.op = .call { callee := .builtin .append, args := #[s, x], argTypes := #[t, t] })
    (base : Nat) (e : TypeId) (i : TypeInfo) (z : Value) (size bytes : Nat) (ht : P.underlying t = some (.slice e)) (hi : P.info? e = some i) (hz : i.zero = some z)
    (hsize : i.size = size) (hby : i.bytes = bytes) (hzs : z.cells.size = size) (hsz : 0 < size)
    (v : Value) (n : Nat) (xs : List Value) (hs : a.eval s = v) (hown : w.ownsRow base e size v n xs)
    (ao : Option Addr) (m c : Nat) (news : List Value) (hx : a.eval x = .slice ao m c) (hr : Raw w ao m size news)
    (h63 : n + m ≤ maxLen) (hbytes : (n + m) * bytes ≤ 140737488355328) (hbase : base ≤ w.heap.size)
    (h : ∀ v' w', w'.ownsRow base e size v' (n + m) (xs ++ news) → w.grownBy w' v.ownBlock → wpList P ops Q rest (a.put o.dst v') w') : wpList P ops Q (o :: rest) a w := by
  rcases ao with _ | ad
  · have hm := hr.nil rfl
    subst hm
    have hnews : news = [] := List.eq_nil_of_length_eq_zero (by simpa using hr.len)
    subst hnews
    refine wpList_plain hgd fun K hK' => ?_
    have hrun := run_append_none2 (P := P) (w := w) base t o.type e i size ht hi v n xs hown c
    unfold Oper.wp
    simp [execOp, ho, resolve, invoke, builtin, hs, hx, hrun, Result.andThen]
    exact hK' _ _ (by simpa using h v w (by simpa using hown) (World.grownBy.refl _ _))
  · exact wpList_append_own _ hgd s x t ho base e i z size bytes ht hi hz hsize hby hzs hsz v n xs hs hown ad m c news hx hr.len (hr.at_ ad rfl) hr.one h63 hbytes hbase (fun v' w' h1 h2 _ => h v' w' h1 h2)
/-- .. within what there is room for. -/
theorem wpList_append_in {P : Program} (w : World) {ops : Array Oper} {rest : List Oper} {o : Oper} {a : Act} {Q : Exit → Act → World → Prop}
    (hg : o.guard = none) (s x : Operand) (t : TypeId) (hop : o.op = Op.call { callee := Callee.builtin Builtin.append, args := #[s, x], argTypes := #[t, t] })
    (base : Nat) (e : TypeId) (i : TypeInfo) (size : Nat) (h1 : P.underlying t = some (.slice e)) (h2 : P.info? e = some i) (h4 : i.size = size)
    (g k cap : Nat) (xs : List Value) (hs : a.eval s = .slice (some ⟨g, 0, none⟩) k cap) (hown : w.ownsRow base e size (.slice (some ⟨g, 0, none⟩) k cap) k xs) (ao : Option Addr) (m c : Nat) (news : List Value) (hx : a.eval x = .slice ao m c) (hr : Raw w ao m size news) (b1 : k + m ≤ cap)
    (hK : ∀ w', w'.ownsRow base e size (.slice (some ⟨g, 0, none⟩) (k + m) cap) (k + m) (xs ++ news) → w.grownBy w' (some g) → wpList P ops Q rest (a.put o.dst (.slice (some ⟨g, 0, none⟩) (k + m) cap)) w') :
    wpList P ops Q (o :: rest) a w := by
  rcases ao with _ | ad
  · have hm := hr.nil rfl
    subst hm
    have hnews : news = [] := List.eq_nil_of_length_eq_zero (by simpa using hr.len)
    subst hnews
    refine wpList_plain hg fun K hK' => ?_
    have hrun := run_append_none2 (P := P) (w := w) base t o.type e i size h1 h2 _ k xs hown c
    unfold Oper.wp
    simp [execOp, hop, resolve, invoke, builtin, hs, hx, hrun, Result.andThen]
    exact hK' _ _ (by simpa using hK w (by simpa using hown) (World.grownBy.refl _ _))
  · exact wpList_append_fits w hg s x t hop base e i size h1 h2 h4 g k cap xs hs hown ad m c news hx hr.len (hr.at_ ad rfl) hr.one b1 hK

theorem addr_addJ (b off i : Nat) : (⟨b, off, none⟩ : Addr).add i = ⟨b, off + i, none⟩ := by
  unfold Addr.add
  by_cases h : i = 0 <;> simp [h]
/-- The cells of values. -/
def flatV : List Vl → List Value
  | [] => []
  | v :: r => .int .i64 v.1 :: .int .i64 v.2.1 :: .string v.2.2 :: flatV r
theorem flatV_len : ∀ l, (flatV l).length = l.length * 3
  | [] => rfl
  | v :: r => by simp only [flatV, List.length_cons, flatV_len r]; omega
theorem flatV_append : ∀ l t, flatV (l ++ t) = flatV l ++ flatV t
  | [], _ => rfl
  | v :: r, t => by simp only [List.cons_append, flatV, flatV_append r t]
theorem flatV_get : ∀ (l : List Vl) (j : Nat) (h : j < l.length), (flatV l)[j * 3]? = some (.int .i64 l[j].1) ∧ (flatV l)[j * 3 + 1]? = some (.int .i64 l[j].2.1) ∧ (flatV l)[j * 3 + 2]? = some (.string l[j].2.2)
  | [], _, h => by simp at h
  | v :: r, 0, _ => by simp [flatV]
  | v :: r, j + 1, h => by
    have ih := flatV_get r j (by simpa using h)
    have e0 : (j + 1) * 3 = j * 3 + 1 + 1 + 1 := by omega
    have e1 : (j + 1) * 3 + 1 = j * 3 + 1 + 1 + 1 + 1 := by omega
    have e2 : (j + 1) * 3 + 2 = j * 3 + 2 + 1 + 1 + 1 := by omega
    rw [e1, e2, e0]
    simp only [flatV, List.getElem?_cons_succ, List.getElem_cons_succ]
    exact ih
theorem flatV_one : ∀ l, ∀ u ∈ flatV l, u.oneCell' = true
  | [], u, h => by simp [flatV] at h
  | v :: r, u, h => by
    simp only [flatV, List.mem_cons] at h
    rcases h with rfl | rfl | rfl | h
    · rfl
    · rfl
    · rfl
    · exact flatV_one r u h
theorem raw_vals {W : World} {a : Option Addr} {l : List Vl} (h : SlAt W a l) : Raw W a l.length 3 (flatV l) := by
  refine ⟨flatV_len l, flatV_one l, ?_, ?_⟩
  · intro e
    rcases h.2 with h | ⟨b, off, e', _⟩
    · rw [h]; rfl
    · rw [e] at e'; cases e'
  · intro ad e j u hj
    have hlt : j < l.length * 3 := by
      rcases Nat.lt_or_ge j (l.length * 3) with h | h
      · exact h
      · rw [List.getElem?_eq_none (by rw [flatV_len]; exact h)] at hj; cases hj
    obtain ⟨b, off, e', _, c0, c1, c2⟩ := h.elem (k := j / 3) (by omega)
    rw [e] at e'
    have e' := Option.some.inj e'
    subst e'
    rw [addr_addJ]
    obtain ⟨g0, g1, g2⟩ := flatV_get l (j / 3) (by omega)
    have hm : j % 3 = 0 ∨ j % 3 = 1 ∨ j % 3 = 2 := by omega
    rcases hm with hm | hm | hm
    · have ej : j = j / 3 * 3 := by omega
      rw [ej, g0] at hj
      rw [← hj, ← c0]; congr 2; omega
    · have ej : j = j / 3 * 3 + 1 := by omega
      rw [ej, g1] at hj
      rw [← hj, ← c1]; congr 2; omega
    · have ej : j = j / 3 * 3 + 2 := by omega
      rw [ej, g2] at hj
      rw [← hj, ← c2]; congr 2; omega
theorem raw_ints {B : Nat} {W : World} {a : Option Addr} {l : List Int} (h : IsAt B W a l) : Raw W a l.length 1 (l.map (Value.int .i64)) := by
  refine ⟨by simp, by intro u hu; obtain ⟨x, _, rfl⟩ := List.mem_map.1 hu; rfl, ?_, ?_⟩
  · intro e
    rcases h.2 with h | ⟨b, off, e', _⟩
    · rw [h]; rfl
    · rw [e] at e'; cases e'
  · intro ad e j u hj
    have hlt : j < l.length := by
      rcases Nat.lt_or_ge j l.length with h | h
      · exact h
      · rw [List.getElem?_eq_none (by simpa using h)] at hj; cases hj
    obtain ⟨b, off, e', _, c0⟩ := h.elem hlt
    rw [e] at e'
    have e' := Option.some.inj e'
    subst e'
    rw [addr_addJ, c0]
    simpa [hlt] using hj
theorem own_vals {W : World} {B n : Nat} {v : Value} {l : List Vl} (ho : W.ownsRow B 24 3 v n (flatV l)) (hn : n = l.length) : ∃ a cap, v = .slice a l.length cap ∧ SlAt W a l ∧ TyAt W a ∧ (l.length ≤ cap ∨ a = none) := by
  subst hn
  have ho' := ho
  obtain ⟨hx, ⟨rfl, h0⟩ | ⟨g, cap, cur, rfl, hg, hh, hn, hc, hs, ht⟩⟩ := ho
  · have : l = [] := List.eq_nil_of_length_eq_zero h0
    subst this
    exact ⟨none, 0, rfl, ⟨by simp, .inl rfl⟩, (fun b off e => by cases e), .inr rfl⟩
  · refine ⟨_, cap, rfl, ⟨by omega, .inr ⟨g, 0, rfl, fun i hi => ?_, (ho'.lt g rfl).2⟩⟩, ?_, .inl hn⟩
    · obtain ⟨g0, g1, g2⟩ := flatV_get l i hi
      refine ⟨?_, ?_, ?_⟩
      · rw [ho'.cellAt _ (by omega), ← g0]; congr 1; omega
      · rw [ho'.cellAt _ (by omega), ← g1]; congr 1; omega
      · rw [ho'.cellAt _ (by omega), ← g2]; congr 1; omega
    · intro b off e
      have e := Option.some.inj e
      injection e with e1 e2
      subst e1
      exact ⟨_, _, hh⟩
theorem own_ints {W : World} {B n : Nat} {v : Value} {l : List Int} (ho : W.ownsRow B 3 1 v n (l.map (Value.int .i64))) (hn : n = l.length) : ∃ a cap, v = .slice a l.length cap ∧ IsAt W.heap.size W a l := by
  subst hn
  have ho' := ho
  obtain ⟨hx, ⟨rfl, h0⟩ | ⟨g, cap, cur, rfl, hg, hh, hn, hc, hs, ht⟩⟩ := ho
  · have : l = [] := List.eq_nil_of_length_eq_zero h0
    subst this
    exact ⟨none, 0, rfl, ⟨by simp, .inl rfl⟩⟩
  · refine ⟨_, cap, rfl, ⟨by omega, .inr ⟨g, 0, rfl, (ho'.lt g rfl).2, fun i hi => ?_⟩⟩⟩
    have := ho'.cellAt i (by omega)
    rw [Nat.zero_add, this]
    simp [hi]
end Go.Proofs.YtfgpfnhbcbhkfadGreat
/- slices.Concat at values and at numbers, as cells. -/
namespace Go.Proofs.YtfgpfnhbcbhkfadGreat
open Go.RowKit Go.Lib

def catC (xs ys : List Value) : Nat → List Value
  | 0 => []
  | 1 => xs
  | _ => xs ++ ys
def catN (n m : Nat) : Nat → Nat
  | 0 => 0
  | 1 => n
  | _ => n + m
theorem catN_le (n m k : Nat) : catN n m k ≤ n + m := by
  match k with
  | 0 => simp [catN]
  | 1 => simp [catN]
  | j + 2 => simp [catN]
/-- Two slices lie beside each other. -/
structure PairC (w : World) (B size n m : Nat) (xs ys : List Value) : Prop where
  lt : B < w.heap.size
  at_ : ∀ k, k < 2 → ∃ a cap q cs, w.cell? ⟨B, k, none⟩ = some (.slice a q cap) ∧ Raw w a q size cs ∧ catC xs ys (k + 1) = catC xs ys k ++ cs ∧ catN n m (k + 1) = catN n m k + q
theorem PairC.new {w : World} {size n m : Nat} {xs ys : List Value} {a b : Option Addr} (ca cb : Nat) (h : Raw w a n size xs) (k : Raw w b m size ys) (T : TypeId) :
    PairC (w.alloc (.cells #[.slice a n ca, .slice b m cb] T)) w.heap.size size n m xs ys :=
  ⟨by simp, fun j hj => by
    match j, hj with
    | 0, _ => exact ⟨a, ca, n, xs, by simp, h.alloc _, by simp [catC], by simp [catN]⟩
    | 1, _ => exact ⟨b, cb, m, ys, by simp, k.alloc _, by simp [catC], by simp [catN]⟩⟩
theorem PairC.next {w w1 : World} {B size n m : Nat} {xs ys : List Value} (h : PairC w B size n m xs ys) (hb : Below w.heap.size w w1) : PairC w1 B size n m xs ys :=
  ⟨Nat.lt_of_lt_of_le h.lt hb.size, fun k hk => by
    obtain ⟨a, cap, q, cs, h1, h2, h3, h4⟩ := h.at_ k hk
    exact ⟨a, cap, q, cs, (hb.cell (p := ⟨B, k, none⟩) h.lt).trans h1, h2.next hb, h3, h4⟩⟩
end Go.Proofs.YtfgpfnhbcbhkfadGreat
namespace Go.Proofs
open Go.Shelf Go.RowKit Go.Lib
shelf_lay_g Lays8.n4 Nm8 4 at Tryz 97 as Tryz.growV
end Go.Proofs
namespace Go.Proofs.YtfgpfnhbcbhkfadGreat
open Go.RowKit Go.Lib Go.Shelf
theorem infoV : (Tryz.prog.info? 24).map (fun i => (i.zero, i.size, i.bytes)) = some (some (.agg #[.int .i64 0, .int .i64 0, .string ⟨#[]⟩]), 3, 32) := by kernel_rfl
theorem growV_at (n : Nat) (hn : n ≤ 1000) (w : World) :
    Calls Tryz.prog 97 #[.slice none 0 0, .int .i64 n] w fun e w' => ∃ v, e = .returned v ∧ w'.ownsRow w.heap.size 24 3 v 0 [] ∧ Below w.heap.size w w' := by
  obtain ⟨i0, hi, hj0, hj1, hj2⟩ := info_parts infoV
  by_cases h0 : n = 0
  · subst h0
    refine (Any8.slices_Grow_room Tryz.growV none 0 0 0 w (by omega) (by omega) (by omega) (by omega)).mono ?_
    rintro e w' ⟨rfl, rfl⟩
    exact ⟨_, rfl, World.ownsRow_nil _ _ _ _, Below.refl _ _⟩
  · refine (Any8.slices_Grow_grow Tryz.growV i0 _ hi hj0 (by rw [hj1]; omega) none 0 0 n [] w (by omega) (by omega) (by rw [hj2]; omega) (by omega) (by simp) (by simp) (by intro a e; cases e)).mono ?_
    rintro e w' ⟨rfl, rfl⟩
    refine ⟨_, rfl, ?_, ((Below.refl _ _).drew).alloc (Nat.le_refl _) _⟩
    rw [Nat.zero_add]
    have hc := grownCap_ge w n 0 24
    have hm := grownCap_le_maxLen w n 0 24 (by unfold maxLen; omega)
    have := World.ownsRow_made (w := w.drew) (base := w.heap.size) (e := 24) (size := 3) (cur := [].toArray ++ Builtin.zeroCells (Value.agg #[.int .i64 0, .int .i64 0, .string ⟨#[]⟩]).cells (n - 0) ++ Builtin.zeroCells (Value.agg #[.int .i64 0, .int .i64 0, .string ⟨#[]⟩]).cells (grownCap w n 0 24 - n)) (cap := grownCap w n 0 24) (Nat.le_refl _) hm (by simp [size_zeroCells, Value.cells]; omega)
    exact this

set_option maxRecDepth 100000 in
set_option maxHeartbeats 4000000 in
theorem concatV_at (B : Nat) (n m : Nat) (xs ys : List Value) (w : World) (h : PairC w B 3 n m xs ys) (hl : n + m ≤ 1000) :
    Calls Tryz.prog 57 #[.slice (some ⟨B, 0, none⟩) 2 2] w fun e w' => ∃ v, e = .returned v ∧ w'.ownsRow w.heap.size 24 3 v (n + m) (xs ++ ys) ∧ Below w.heap.size w w' := by
  obtain ⟨i0, hi, hj0, hj1, hj2⟩ := info_parts infoV
  go_enter Tryz.func57, Tryz.ntmps57
  go_wp2_with fail
  go_loopw [3, 11] (fun sz i wr => ∃ k : Nat, k ≤ 2 ∧ i = .int .i64 k ∧ sz = .int .i64 (catN n m k : Int) ∧ wr = w) (fun _ i _ => 2 - (intOf i).toNat)
  case atStart => exact ⟨0, by omega, rfl, rfl, rfl⟩
  case round =>
    obtain ⟨k, hk, rfl, rfl, rfl⟩ := hrel
    have hcl := catN_le n m k
    by_cases hlt : k < 2
    · obtain ⟨a, cap, q, cs, c0, zs, hcat, hcn⟩ := h.at_ k hlt
      have hcl2 := catN_le n m (k + 1)
      rw [hcn] at hcl2
      have HCat : Hid (catN n m (k + 1) = catN n m k + q) := hcn
      clear hcat hcn
      generalize hq : catN n m k = r at *
      have HQ : Hid (catN n m k = r) := hq
      clear hq
      go_wp2_with fail
      go_roundw
      case rel => exact ⟨k + 1, by omega, by go_num, by rw [HCat.out]; go_num, by first | rfl | trivial⟩
      case measure => simp [intOf]; omega
    · have e : k = 2 := by omega
      subst e
      have el : (catN n m 2 : Int) = ((n + m : Nat) : Int) := rfl
      have gc := growV_at (n + m) (by omega) wr
      rw [Int.natCast_add] at gc
      rw [Int.natCast_add] at el
      go_wp2_with fail
      refine gc.mono ?_
      clear gc el
      rintro e w1 ⟨v, rfl, ho, hb1⟩
      have hsh : ∃ a c, v = .slice a 0 c := by
        obtain ⟨_, ⟨rfl, h0⟩ | ⟨g, c1, cur, rfl, _⟩⟩ := ho
        · exact ⟨none, 0, rfl⟩
        · exact ⟨_, c1, rfl⟩
      obtain ⟨a1, c1, rfl⟩ := hsh
      go_wp2_with fail
      generalize hw0 : wr = w0 at *
      have HW0 : Hid (wr = w0) := hw0
      clear hw0
      go_loopw [6, 27] (fun v i ws => ∃ k : Nat, k ≤ 2 ∧ i = .int .i64 k ∧ ws.ownsRow w0.heap.size 24 3 v (catN n m k) (catC xs ys k) ∧ Below w0.heap.size w0 ws) (fun _ i _ => 2 - (intOf i).toNat)
      case atStart => exact ⟨0, by omega, rfl, ho, hb1⟩
      case round =>
        clear ho
        obtain ⟨k, hk, rfl, ho, hb⟩ := hrel
        have hz := hb.size
        by_cases hlt : k < 2
        · obtain ⟨a, cap, q, cs, c0, zs, hcat, hcn⟩ := h.at_ k hlt
          have hcl2 := catN_le n m (k + 1)
          rw [hcn] at hcl2
          have HCat : Hid (catC xs ys (k + 1) = catC xs ys k ++ cs) := hcat
          have HCn : Hid (catN n m (k + 1) = catN n m k + q) := hcn
          clear hcat hcn
          have c0' := (hb.cell (p := ⟨B, k, none⟩) h.lt).trans c0
          have zs' : Raw wr a q 3 cs := ⟨zs.len, zs.one, zs.nil, fun ad e j u hj => (hb.cell (World.block_lt_of_cell? _ _ (zs.at_ ad e j u hj))).trans (zs.at_ ad e j u hj)⟩
          clear c0 zs
          generalize catC xs ys k = xk at *
          generalize catN n m k = nk at *
          go_wp2_with (at_builtin; refine wpList_append_raw rfl _ _ 51 rfl w0.heap.size 24 i0 _ 3 32 Tryz.underlying51 hi hj0 hj1 hj2 rfl (by decide) _ _ _ rfl ho a q cap cs rfl zs' (by unfold maxLen; omega) (by omega) (by omega) ?_)
          intro v' w5 ho5 hg5
          have hb5 : Below w0.heap.size w0 w5 := hb.grown hg5 hz (fun q hq => (ho.lt q hq).1)
          clear hg5 ho
          go_wp2_with fail
          go_roundw
          case rel => exact ⟨k + 1, by omega, by go_num, by rw [HCat.out, HCn.out]; exact ho5, hb5⟩
          case measure => simp [intOf]; omega
        · have e : k = 2 := by omega
          subst e
          have hsh : ∃ a c, u6 = .slice a (n + m) c := by
            obtain ⟨_, ⟨e, h0⟩ | ⟨g, c1, cur, e, _⟩⟩ := ho
            · have h0 : n + m = 0 := h0
              exact ⟨none, 0, by rw [e, h0]⟩
            · exact ⟨_, c1, e⟩
          obtain ⟨a6, c6, rfl⟩ := hsh
          go_wp2_with fail
          go_ret
          exact ⟨_, rfl, by rw [HW0.out]; exact ho, by rw [HW0.out]; exact hb⟩
end Go.Proofs.YtfgpfnhbcbhkfadGreat
/- slices.Concat at numbers. -/
namespace Go.Proofs
open Go.Shelf Go.RowKit Go.Lib
shelf_lay_g Lays8.n4 Nm8 4 at Tryz 158 as Tryz.growI
end Go.Proofs
namespace Go.Proofs.YtfgpfnhbcbhkfadGreat
open Go.RowKit Go.Lib Go.Shelf
theorem infoI : (Tryz.prog.info? 3).map (fun i => (i.zero, i.size, i.bytes)) = some (some (.int .i64 0), 1, 8) := by kernel_rfl
theorem growI_at (n : Nat) (hn : n ≤ 1000) (w : World) :
    Calls Tryz.prog 158 #[.slice none 0 0, .int .i64 n] w fun e w' => ∃ v, e = .returned v ∧ w'.ownsRow w.heap.size 3 1 v 0 [] ∧ Below w.heap.size w w' := by
  obtain ⟨i0, hi, hj0, hj1, hj2⟩ := info_parts infoI
  by_cases h0 : n = 0
  · subst h0
    refine (Any8.slices_Grow_room Tryz.growI none 0 0 0 w (by omega) (by omega) (by omega) (by omega)).mono ?_
    rintro e w' ⟨rfl, rfl⟩
    exact ⟨_, rfl, World.ownsRow_nil _ _ _ _, Below.refl _ _⟩
  · refine (Any8.slices_Grow_grow Tryz.growI i0 _ hi hj0 (by rw [hj1]; omega) none 0 0 n [] w (by omega) (by omega) (by rw [hj2]; omega) (by omega) (by simp) (by simp) (by intro a e; cases e)).mono ?_
    rintro e w' ⟨rfl, rfl⟩
    refine ⟨_, rfl, ?_, ((Below.refl _ _).drew).alloc (Nat.le_refl _) _⟩
    rw [Nat.zero_add]
    have hc := grownCap_ge w n 0 3
    have hm := grownCap_le_maxLen w n 0 3 (by unfold maxLen; omega)
    have := World.ownsRow_made (w := w.drew) (base := w.heap.size) (e := 3) (size := 1) (cur := [].toArray ++ Builtin.zeroCells (Value.int .i64 0).cells (n - 0) ++ Builtin.zeroCells (Value.int .i64 0).cells (grownCap w n 0 3 - n)) (cap := grownCap w n 0 3) (Nat.le_refl _) hm (by simp [size_zeroCells, Value.cells]; omega)
    exact this

set_option maxRecDepth 100000 in
set_option maxHeartbeats 4000000 in
theorem concatI_at (B : Nat) (n m : Nat) (xs ys : List Value) (w : World) (h : PairC w B 1 n m xs ys) (hl : n + m ≤ 1000) :
    Calls Tryz.prog 123 #[.slice (some ⟨B, 0, none⟩) 2 2] w fun e w' => ∃ v, e = .returned v ∧ w'.ownsRow w.heap.size 3 1 v (n + m) (xs ++ ys) ∧ Below w.heap.size w w' := by
  obtain ⟨i0, hi, hj0, hj1, hj2⟩ := info_parts infoI
  go_enter Tryz.func123, Tryz.ntmps123
  go_wp2_with fail
  go_loopw [3, 11] (fun sz i wr => ∃ k : Nat, k ≤ 2 ∧ i = .int .i64 k ∧ sz = .int .i64 (catN n m k : Int) ∧ wr = w) (fun _ i _ => 2 - (intOf i).toNat)
  case atStart => exact ⟨0, by omega, rfl, rfl, rfl⟩
  case round =>
    obtain ⟨k, hk, rfl, rfl, rfl⟩ := hrel
    have hcl := catN_le n m k
    by_cases hlt : k < 2
    · obtain ⟨a, cap, q, cs, c0, zs, hcat, hcn⟩ := h.at_ k hlt
      have hcl2 := catN_le n m (k + 1)
      rw [hcn] at hcl2
      have HCat : Hid (catN n m (k + 1) = catN n m k + q) := hcn
      clear hcat hcn
      generalize hq : catN n m k = r at *
      have HQ : Hid (catN n m k = r) := hq
      clear hq
      go_wp2_with fail
      go_roundw
      case rel => exact ⟨k + 1, by omega, by go_num, by rw [HCat.out]; go_num, by first | rfl | trivial⟩
      case measure => simp [intOf]; omega
    · have e : k = 2 := by omega
      subst e
      have el : (catN n m 2 : Int) = ((n + m : Nat) : Int) := rfl
      have gc := growI_at (n + m) (by omega) wr
      rw [Int.natCast_add] at gc
      rw [Int.natCast_add] at el
      go_wp2_with fail
      refine gc.mono ?_
      clear gc el
      rintro e w1 ⟨v, rfl, ho, hb1⟩
      have hsh : ∃ a c, v = .slice a 0 c := by
        obtain ⟨_, ⟨rfl, h0⟩ | ⟨g, c1, cur, rfl, _⟩⟩ := ho
        · exact ⟨none, 0, rfl⟩
        · exact ⟨_, c1, rfl⟩
      obtain ⟨a1, c1, rfl⟩ := hsh
      go_wp2_with fail
      generalize hw0 : wr = w0 at *
      have HW0 : Hid (wr = w0) := hw0
      clear hw0
      go_loopw [6, 27] (fun v i ws => ∃ k : Nat, k ≤ 2 ∧ i = .int .i64 k ∧ ws.ownsRow w0.heap.size 3 1 v (catN n m k) (catC xs ys k) ∧ Below w0.heap.size w0 ws) (fun _ i _ => 2 - (intOf i).toNat)
      case atStart => exact ⟨0, by omega, rfl, ho, hb1⟩
      case round =>
        clear ho
        obtain ⟨k, hk, rfl, ho, hb⟩ := hrel
        have hz := hb.size
        by_cases hlt : k < 2
        · obtain ⟨a, cap, q, cs, c0, zs, hcat, hcn⟩ := h.at_ k hlt
          have hcl2 := catN_le n m (k + 1)
          rw [hcn] at hcl2
          have HCat : Hid (catC xs ys (k + 1) = catC xs ys k ++ cs) := hcat
          have HCn : Hid (catN n m (k + 1) = catN n m k + q) := hcn
          clear hcat hcn
          have c0' := (hb.cell (p := ⟨B, k, none⟩) h.lt).trans c0
          have zs' : Raw wr a q 1 cs := ⟨zs.len, zs.one, zs.nil, fun ad e j u hj => (hb.cell (World.block_lt_of_cell? _ _ (zs.at_ ad e j u hj))).trans (zs.at_ ad e j u hj)⟩
          clear c0 zs
          generalize catC xs ys k = xk at *
          generalize catN n m k = nk at *
          go_wp2_with (at_builtin; refine wpList_append_raw rfl _ _ 22 rfl w0.heap.size 3 i0 _ 1 8 Tryz.underlying22 hi hj0 hj1 hj2 rfl (by decide) _ _ _ rfl ho a q cap cs rfl zs' (by unfold maxLen; omega) (by omega) (by omega) ?_)
          intro v' w5 ho5 hg5
          have hb5 : Below w0.heap.size w0 w5 := hb.grown hg5 hz (fun q hq => (ho.lt q hq).1)
          clear hg5 ho
          go_wp2_with fail
          go_roundw
          case rel => exact ⟨k + 1, by omega, by go_num, by rw [HCat.out, HCn.out]; exact ho5, hb5⟩
          case measure => simp [intOf]; omega
        · have e : k = 2 := by omega
          subst e
          have hsh : ∃ a c, u6 = .slice a (n + m) c := by
            obtain ⟨_, ⟨e, h0⟩ | ⟨g, c1, cur, e, _⟩⟩ := ho
            · have h0 : n + m = 0 := h0
              exact ⟨none, 0, by rw [e, h0]⟩
            · exact ⟨_, c1, e⟩
          obtain ⟨a6, c6, rfl⟩ := hsh
          go_wp2_with fail
          go_ret
          exact ⟨_, rfl, by rw [HW0.out]; exact ho, by rw [HW0.out]; exact hb⟩
end Go.Proofs.YtfgpfnhbcbhkfadGreat
/- Pairs: two sets, and whether rows of them hold with each other; all pairs are laid into one room. -/
namespace Go.Proofs.YtfgpfnhbcbhkfadGreat
open Go.RowKit Go.Lib Go.Shelf

/-- What all that asks of pairs leaves as it was: all but the room R and the variable rv that leads to it. -/
structure PInv (wp : World) (R rv : Nat) (W : World) : Prop where
  os : W.os = wp.os
  tape : W.tape = wp.tape
  output : W.output = wp.output
  size : wp.heap.size ≤ W.heap.size
  block : ∀ k, k < wp.heap.size → k ≠ R → k ≠ rv → W.heap[k]? = wp.heap[k]?
  var : ∃ n, W.cell? ⟨rv, 0, none⟩ = some (.slice (some ⟨R, 0, none⟩) n 8)
  warm : W.frozen? ⟨rv, 0, none⟩ = false
  room : ∃ cur, W.heap[R]? = some (.cells cur 24 (0, 0)) ∧ cur.size = 24
/-- The room and its variable are the newest. -/
structure PNew (wp : World) (R rv : Nat) : Prop where
  r : R < rv
  v : rv < wp.heap.size
theorem PInv.below {wp W : World} {R rv : Nat} (h : PInv wp R rv W) (hn : PNew wp R rv) : Below R wp W :=
  ⟨h.os, h.tape, h.output, h.size, fun k hk => h.block k (by have := hn.r; have := hn.v; omega) (by omega) (by have := hn.r; omega)⟩
theorem PInv.later {wp W W' : World} {R rv : Nat} (h : PInv wp R rv W) (hn : PNew wp R rv) {B : Nat} (hB : wp.heap.size ≤ B) (hb : Below B W W') : PInv wp R rv W' := by
  have hr := hn.r
  have hv := hn.v
  obtain ⟨n, hc⟩ := h.var
  obtain ⟨cur, hh, hs⟩ := h.room
  refine ⟨hb.os.trans h.os, hb.tape.trans h.tape, hb.output.trans h.output, Nat.le_trans h.size hb.size, fun k hk h1 h2 => (hb.block k (by omega)).trans (h.block k hk h1 h2), ⟨n, (hb.cell (p := ⟨rv, 0, none⟩) (by show rv < B; omega)).trans hc⟩, (hb.frozen (p := ⟨rv, 0, none⟩) (by show rv < B; omega)).trans h.warm, cur, (hb.block R (by omega)).trans hh, hs⟩
theorem PInv.sz {wp W : World} {R rv : Nat} (h : PInv wp R rv W) (hn : PNew wp R rv) : rv < W.heap.size := Nat.lt_of_lt_of_le hn.v h.size

set_option maxRecDepth 100000 in
set_option maxHeartbeats 2000000 in
theorem both1_at (cols : List Int) (lo : Nat) (x : Ex) (wc wp w0 : World) (R rv hv : Nat) (u : Value) (hn : PNew wp R rv) (hv0 : hv < R) (hc : wp.cell? ⟨hv, 0, none⟩ = some u) (hC : Conds cols lo u x wc) (hcR : wc.heap.size ≤ R) (hcp : Since lo wc wp) (h0 : w0.heap.size ≤ R) (h0p : Below w0.heap.size w0 wp)
    (a b : Option Addr) (ca cb : Nat) (l r : List Vl) (W : World) (hI : PInv wp R rv W) (s1 : SlAt w0 a l) (s2 : SlAt w0 b r) (h8 : l.length + r.length ≤ 8) (hf : FitP cols (l ++ r)) :
    Calls Tryz.prog 159 #[.slice a l.length ca, .slice b r.length cb, .pointer (some ⟨rv, 0, none⟩), .pointer (some ⟨hv, 0, none⟩)] W fun e w' => e = .returned (.bool (holdsP x (l ++ r))) ∧ PInv wp R rv w' ∧ Since (rv + 1) W w' := by
  obtain ⟨i0, hi, hj0, hj1, hj2⟩ := info_parts Tryz.info49
  obtain ⟨g, cbs, rfl, eg, d⟩ := hC
  have HD : Hid _ := d
  clear d
  have hrR := hn.r
  have hb0 := hI.below hn
  have d0 : Below w0.heap.size w0 W := h0p.trans (hb0.mono h0)
  have r1 := raw_vals (s1.next d0)
  have c3 : W.cell? ⟨hv, 0, none⟩ = some (.func (.func g) #[] cbs) := (hb0.cell (p := ⟨hv, 0, none⟩) hv0).trans hc
  obtain ⟨n, hc2⟩ := hI.var
  obtain ⟨cur, hh, hs⟩ := hI.room
  have hsz := hI.sz hn
  have hfz := hI.warm
  have own : W.ownsRow R 24 3 (.slice (some ⟨R, 0, none⟩) 0 8) 0 [] := ⟨rfl, .inr ⟨R, 8, cur, rfl, Nat.le_refl _, hh, by omega, by unfold maxLen; omega, by omega, by simp⟩⟩
  generalize ht : holdsP x (l ++ r) = t
  have HT : Hid (holdsP x (l ++ r) = t) := ht
  clear ht
  go_enter Tryz.func159, Tryz.ntmps159
  go_wp2_with (at_builtin; refine wpList_append_in _ rfl _ _ 51 rfl R 24 i0 3 Tryz.underlying51 hi hj1 R 0 8 _ rfl own a l.length ca _ rfl r1 (by omega) ?_)
  intro w1 own1 g1
  have k1 : ∀ k, k < W.heap.size → k ≠ R → w1.heap[k]? = W.heap[k]? := fun k hk hne => g1.block k hk (by intro e; exact hne (Option.some.inj e))
  have z1 := g1.size
  have d1 : Below w0.heap.size w0 w1 := ⟨g1.os.trans d0.os, g1.tape.trans d0.tape, g1.output.trans d0.output, Nat.le_trans d0.size z1, fun k hk => (k1 k (by have := d0.size; omega) (by omega)).trans (d0.block k hk)⟩
  have r2 := raw_vals (s2.next d1)
  clear own r1
  go_wp2_with (at_builtin; refine wpList_append_in _ rfl _ _ 51 rfl R 24 i0 3 Tryz.underlying51 hi hj1 R l.length 8 _ rfl own1 b r.length cb _ rfl r2 (by omega) ?_)
  intro w2 own2 g2
  have k2 : ∀ k, k < W.heap.size → k ≠ R → w2.heap[k]? = W.heap[k]? := fun k hk hne => (g2.block k (by omega) (by intro e; exact hne (Option.some.inj e))).trans (k1 k hk hne)
  have z2 := g2.size
  have o2 : w2.os = W.os ∧ w2.tape = W.tape ∧ w2.output = W.output := ⟨g2.os.trans g1.os, g2.tape.trans g1.tape, g2.output.trans g1.output⟩
  have cv : w2.cell? ⟨rv, 0, none⟩ = some (.slice (some ⟨R, 0, none⟩) n 8) := (World.cell?_of_block (w := W) (k2 rv hsz (by omega))).trans hc2
  have fv : w2.frozen? ⟨rv, 0, none⟩ = false := (World.frozen?_of_block (w := W) (k2 rv hsz (by omega))).trans hfz
  have ch : w2.cell? ⟨hv, 0, none⟩ = some (.func (.func g) #[] cbs) := (World.cell?_of_block (w := W) (k2 hv (by omega) (by omega))).trans c3
  have k3 : ∀ k, k ≠ rv → (w2.setCell ⟨rv, 0, none⟩ (.slice (some ⟨R, 0, none⟩) (l.length + r.length) 8)).heap[k]? = w2.heap[k]? := fun k hne => Below.heap_setCell w2 ⟨rv, 0, none⟩ _ k hne
  have cv3 : (w2.setCell ⟨rv, 0, none⟩ (.slice (some ⟨R, 0, none⟩) (l.length + r.length) 8)).cell? ⟨rv, 0, none⟩ = some (.slice (some ⟨R, 0, none⟩) (l.length + r.length) 8) := World.cell?_setCell_same' _ _ _ (by rw [cv]; rfl)
  have fv3 : (w2.setCell ⟨rv, 0, none⟩ (.slice (some ⟨R, 0, none⟩) (l.length + r.length) 8)).frozen? ⟨rv, 0, none⟩ = false := by rw [World.frozen?_setCell]; exact fv
  have ch3 : (w2.setCell ⟨rv, 0, none⟩ (.slice (some ⟨R, 0, none⟩) (l.length + r.length) 8)).cell? ⟨hv, 0, none⟩ = some (.func (.func g) #[] cbs) := (World.cell?_of_block (w := w2) (k3 hv (by omega))).trans ch
  have z3 : (w2.setCell ⟨rv, 0, none⟩ (.slice (some ⟨R, 0, none⟩) (l.length + r.length) 8)).heap.size = w2.heap.size := by simp
  have o3 : (w2.setCell ⟨rv, 0, none⟩ (.slice (some ⟨R, 0, none⟩) (l.length + r.length) 8)).os = w2.os ∧ (w2.setCell ⟨rv, 0, none⟩ (.slice (some ⟨R, 0, none⟩) (l.length + r.length) 8)).tape = w2.tape ∧ (w2.setCell ⟨rv, 0, none⟩ (.slice (some ⟨R, 0, none⟩) (l.length + r.length) 8)).output = w2.output := by
    have := (Below.refl rv w2).setCell (p := ⟨rv, 0, none⟩) (Nat.le_refl _) (.slice (some ⟨R, 0, none⟩) (l.length + r.length) 8)
    exact ⟨this.os, this.tape, this.output⟩
  have HO2 : Hid (w2.ownsRow R 24 3 (.slice (some ⟨R, 0, none⟩) (l.length + r.length) 8) (l.length + r.length) (flatV l ++ flatV r)) := own2
  clear own2 own1
  go_wp2_with fail
  have own2 := HO2.out
  obtain ⟨hx2, ⟨e2, _⟩ | ⟨gg, cap2, cur2, e2, hg2, hh2, hn2, hm2, hs2, ht2⟩⟩ := own2
  · cases e2
  injection e2 with e2a e2b e2c
  have e2a := Option.some.inj e2a
  injection e2a with e2a
  subst e2a e2c
  generalize w2.setCell ⟨rv, 0, none⟩ (.slice (some ⟨R, 0, none⟩) (l.length + r.length) 8) = w3 at *
  have hR3 : w3.heap[R]? = some (.cells cur2 24 (0, 0)) := (k3 R (by omega)).trans hh2
  have own3 : w3.ownsRow R 24 3 (.slice (some ⟨R, 0, none⟩) (l.length + r.length) 8) (l.length + r.length) (flatV (l ++ r)) := ⟨by rw [flatV_append]; exact hx2, .inr ⟨R, 8, cur2, rfl, Nat.le_refl _, hR3, hn2, hm2, hs2, by rw [flatV_append]; exact ht2⟩⟩
  obtain ⟨a3, c3', e3, sl3, _, _⟩ := own_vals own3 (by simp)
  injection e3 with e3a e3b e3c
  subst e3a e3c
  have kk : ∀ k, k < W.heap.size → k ≠ R → k ≠ rv → w3.heap[k]? = W.heap[k]? := fun k hk h1 h2 => (k3 k h2).trans (k2 k hk h1)
  have I3 : PInv wp R rv w3 := ⟨o3.1.trans (o2.1.trans hI.os), o3.2.1.trans (o2.2.1.trans hI.tape), o3.2.2.trans (o2.2.2.trans hI.output), by have := hI.size; omega, fun k hk h1 h2 => (kk k (by have := hI.size; omega) h1 h2).trans (hI.block k hk h1 h2), ⟨_, cv3⟩, fv3, cur2, hR3, by omega⟩
  have S3 : Since (rv + 1) W w3 := ⟨by omega, fun k h1 h2 => kk k h2 (by omega) (by omega)⟩
  have dc : Since lo wc w3 := ⟨by have := hcp.1; have := hI.size; omega, fun k h1 h2 => by
    rw [(I3.below hn).block k (by omega)]
    exact hcp.2 k h1 h2⟩
  have d := HD.out (l ++ r) (some ⟨R, 0, none⟩) 8 w3 hf sl3 dc
  rw [List.length_append, HT.out] at d
  refine d.mono ?_
  rintro e w4 ⟨rfl, hb4⟩
  have FI : Hid (PInv wp R rv w4) := I3.later hn (by have := I3.size; omega) hb4
  have FS : Hid (Since (rv + 1) W w4) := S3.trans (Since.of hb4)
  clear g1 g2 r2 k1 k2 kk hh hI hx2 ht2 hR3 hh2 own3 d k3 e2b e3b o2 o3 sl3 dc z1 z2 z3 I3 S3 cv fv ch cv3 fv3 ch3 HO2 hn2 hm2 hs2 d0 d1 hb0 c3 hc2 hfz hj0 hj1 hj2 hi
  dsimp only
  go_wp2_with fail
  go_ret
  exact ⟨rfl, FI.out, FS.out⟩
end Go.Proofs.YtfgpfnhbcbhkfadGreat
/- The walks of ops.ofBoth and ops.paired. -/
namespace Go.Proofs.YtfgpfnhbcbhkfadGreat
open Go.RowKit Go.Lib Go.Shelf

/-- What is handed on of two sets: they lie in w0; who asks of pairs leaves all but a room as it was in wp. -/
structure PairsOk (cols : List Int) (x : Ex) (w0 wp : World) (a b : Option Addr) (ca cb : Nat) (l r : List Zp) (v : Value) : Prop where
  ex : ∃ (lo : Nat) (wc : World) (R rv hv : Nat) (u : Value), v = .agg #[.slice a l.length ca, .slice b r.length cb, .func (.func 159) #[] #[.pointer (some ⟨rv, 0, none⟩), .pointer (some ⟨hv, 0, none⟩)]] ∧
    PNew wp R rv ∧ hv < R ∧ wp.cell? ⟨hv, 0, none⟩ = some u ∧ Conds cols lo u x wc ∧ wc.heap.size ≤ R ∧ Since lo wc wp ∧ w0.heap.size ≤ R ∧ Below w0.heap.size w0 wp ∧ PInv wp R rv wp

set_option maxHeartbeats 1000000 in
theorem ofBoth_at (u : Value) (w : World) (hu : ∃ g cb, u = .func (.func g) #[] cb) :
    Calls Tryz.prog 124 #[u] w fun e w' => ∃ rv, e = .returned (.func (.func 159) #[] #[.pointer (some ⟨rv, 0, none⟩), .pointer (some ⟨w.heap.size, 0, none⟩)]) ∧ w'.cell? ⟨w.heap.size, 0, none⟩ = some u ∧ PNew w' (w.heap.size + 1) rv ∧ PInv w' (w.heap.size + 1) rv w' ∧ Below w.heap.size w w' := by
  obtain ⟨g, cb, rfl⟩ := hu
  obtain ⟨i0, hi, hj0, hj1, hj2⟩ := info_parts Tryz.info49
  have h1 : Below w.heap.size w (w.alloc (.cells #[.func (.func g) #[] cb] 55)) := (Below.refl _ _).alloc (Nat.le_refl _) _
  have c1 : (w.alloc (.cells #[.func (.func g) #[] cb] 55)).cell? ⟨w.heap.size, 0, none⟩ = some (.func (.func g) #[] cb) := by simp
  have z1 : (w.alloc (.cells #[.func (.func g) #[] cb] 55)).heap.size = w.heap.size + 1 := by simp
  go_enter Tryz.func124, Tryz.ntmps124
  go_wp2_with (first | (at_make; refine wpList_make_own _ rfl _ _ 51 rfl (w.heap.size + 1) 24 i0 _ 3 Tryz.underlying51 hi hj0 hj1 .i64 .i64 8 8 rfl rfl rfl (by rw [hj2]; omega) (by unfold maxLen; omega) (by simp) ?_))
  generalize w.alloc (.cells #[.func (.func g) #[] cb] 55) = w1 at *
  intro w2 own2 g2
  have z2 := g2.size
  obtain ⟨hx2, ⟨e2, _⟩ | ⟨gg, cap2, cur2, e2, hg2, hh2, hn2, hm2, hs2, ht2⟩⟩ := own2
  · cases e2
  injection e2 with e2a e2b e2c
  have e2a := Option.some.inj e2a
  injection e2a with e2a
  subst e2c
  subst e2a
  have b2 : Below w1.heap.size w1 w2 := (Below.refl _ _).grown g2 (Nat.le_refl _) (by simp)
  have c2 := (b2.cell (p := ⟨w.heap.size, 0, none⟩) (by show w.heap.size < _; omega)).trans c1
  have lt2 : w.heap.size + 1 < w2.heap.size := by
    rcases Nat.lt_or_ge (w.heap.size + 1) w2.heap.size with h | h
    · exact h
    · rw [Array.getElem?_eq_none h] at hh2; cases hh2
  have h3 : Below w2.heap.size w2 (w2.alloc (.cells #[.slice (some ⟨w.heap.size + 1, 0, none⟩) 0 8] 51)) := (Below.refl _ _).alloc (Nat.le_refl _) _
  have z3 : (w2.alloc (.cells #[.slice (some ⟨w.heap.size + 1, 0, none⟩) 0 8] 51)).heap.size = w2.heap.size + 1 := by simp
  have v3 : (w2.alloc (.cells #[.slice (some ⟨w.heap.size + 1, 0, none⟩) 0 8] 51)).cell? ⟨w2.heap.size, 0, none⟩ = some (.slice (some ⟨w.heap.size + 1, 0, none⟩) 0 8) := by simp
  have f3 : (w2.alloc (.cells #[.slice (some ⟨w.heap.size + 1, 0, none⟩) 0 8] 51)).frozen? ⟨w2.heap.size, 0, none⟩ = false := by simp
  have r3 := (h3.block (w.heap.size + 1) lt2).trans hh2
  have c3 := (h3.cell (p := ⟨w.heap.size, 0, none⟩) (by show w.heap.size < _; omega)).trans c2
  have HP : Hid (∀ W, W = w2.alloc (.cells #[.slice (some ⟨w.heap.size + 1, 0, none⟩) 0 8] 51) → W.cell? ⟨w.heap.size, 0, none⟩ = some (.func (.func g) #[] cb) ∧ PNew W (w.heap.size + 1) w2.heap.size ∧ PInv W (w.heap.size + 1) w2.heap.size W ∧ Below w.heap.size w W) := fun W hW => by
    subst hW
    exact ⟨c3, ⟨lt2, by omega⟩, ⟨rfl, rfl, rfl, Nat.le_refl _, fun _ _ _ _ => rfl, ⟨0, v3⟩, f3, cur2, r3, hs2⟩, chain (chain h1 b2) h3⟩
  clear v3 f3 r3 c3 h3 g2 hh2 hx2 ht2
  go_wp2_with fail
  go_ret
  exact ⟨_, rfl, HP.out _ rfl⟩
end Go.Proofs.YtfgpfnhbcbhkfadGreat
/- The walk of ops.paired. -/
namespace Go.Proofs.YtfgpfnhbcbhkfadGreat
open Go.RowKit Go.Lib Go.Shelf

theorem put3_at {W : World} {k : Nat} {v0 v1 v2 : Value} (u0 u1 u2 : Value) (h0 : W.cell? ⟨k, 0, none⟩ = some v0) (h1 : W.cell? ⟨k, 1, none⟩ = some v1) (h2 : W.cell? ⟨k, 2, none⟩ = some v2) :
    (((W.setCell ⟨k, 0, none⟩ u0).setCell ⟨k, 1, none⟩ u1).setCell ⟨k, 2, none⟩ u2).cell? ⟨k, 0, none⟩ = some u0 ∧ (((W.setCell ⟨k, 0, none⟩ u0).setCell ⟨k, 1, none⟩ u1).setCell ⟨k, 2, none⟩ u2).cell? ⟨k, 1, none⟩ = some u1 ∧ (((W.setCell ⟨k, 0, none⟩ u0).setCell ⟨k, 1, none⟩ u1).setCell ⟨k, 2, none⟩ u2).cell? ⟨k, 2, none⟩ = some u2 := by
  have ne : ∀ i j : Nat, i ≠ j → (⟨k, i, none⟩ : Addr) ≠ ⟨k, j, none⟩ := fun i j h e => h (congrArg Addr.off e)
  have t0 := World.cell?_setCell_same W ⟨k, 0, none⟩ u0 h0
  have t1 := (World.cell?_setCell_other W _ _ u0 (ne 0 1 (by decide))).trans h1
  have t2 := (World.cell?_setCell_other W _ _ u0 (ne 0 2 (by decide))).trans h2
  have m0 := (World.cell?_setCell_other (W.setCell ⟨k, 0, none⟩ u0) _ _ u1 (ne 1 0 (by decide))).trans t0
  have m1 := World.cell?_setCell_same (W.setCell ⟨k, 0, none⟩ u0) _ u1 t1
  have m2 := (World.cell?_setCell_other (W.setCell ⟨k, 0, none⟩ u0) _ _ u1 (ne 1 2 (by decide))).trans t2
  exact ⟨(World.cell?_setCell_other _ _ _ _ (ne 2 0 (by decide))).trans m0, (World.cell?_setCell_other _ _ _ _ (ne 2 1 (by decide))).trans m1, World.cell?_setCell_same _ _ _ m2⟩
theorem put3_below {B : Nat} {w W : World} {k : Nat} (u0 u1 u2 : Value) (h : Below B w W) (hk : B ≤ k) : Below B w (((W.setCell ⟨k, 0, none⟩ u0).setCell ⟨k, 1, none⟩ u1).setCell ⟨k, 2, none⟩ u2) :=
  ((h.setCell (p := ⟨k, 0, none⟩) hk _).setCell (p := ⟨k, 1, none⟩) hk _).setCell (p := ⟨k, 2, none⟩) hk _
theorem put3_block {W : World} {k : Nat} (u0 u1 u2 : Value) (j : Nat) (hj : j ≠ k) : (((W.setCell ⟨k, 0, none⟩ u0).setCell ⟨k, 1, none⟩ u1).setCell ⟨k, 2, none⟩ u2).heap[j]? = W.heap[j]? := by
  rw [Below.heap_setCell _ ⟨k, 2, none⟩ _ j hj, Below.heap_setCell _ ⟨k, 1, none⟩ _ j hj, Below.heap_setCell _ ⟨k, 0, none⟩ _ j hj]
theorem put3_size {W : World} {k : Nat} (u0 u1 u2 : Value) : (((W.setCell ⟨k, 0, none⟩ u0).setCell ⟨k, 1, none⟩ u1).setCell ⟨k, 2, none⟩ u2).heap.size = W.heap.size := by simp

set_option maxRecDepth 100000 in
set_option maxHeartbeats 8000000 in
theorem paired_at (left right : List Int) (x : Ex) (la : Option Addr) (lcap : Nat) (ra : Option Addr) (rcap : Nat) (xa : Option Addr) (xcap : Nat) (a : Option Addr) (ca : Nat) (l : List Zp) (b : Option Addr) (cb : Nat) (r : List Zp) (w : World)
    (hcl : IsAt w.heap.size w la left) (hcr : IsAt w.heap.size w ra right) (hx : KsAt w.heap.size w xa x.ks) (h : ZsAt w a l) (h' : ZsAt w b r) (hll : left.length ≤ 100000000000000) (hrl : right.length ≤ 100000000000000) :
    Calls Tryz.prog 86 #[.slice la left.length lcap, .slice ra right.length rcap, exV x.k x.v x.c xa x.ks.length xcap, .slice a l.length ca, .slice b r.length cb] w fun e w' => ∃ v, e = .returned (.tuple #[v, .int .i64 (twoE left right x l r)]) ∧ ((twoE left right x l r = 0 ∧ PairsOk (left ++ right) x w w' a b ca cb l r v) ∨ (¬ twoE left right x l r = 0 ∧ v = .agg #[.slice none 0 0, .slice none 0 0, .nilFunc])) ∧ Below w.heap.size w w' := by
  have h1 : Below w.heap.size w (w.alloc (.cells #[.int .i64 x.k, .int .i64 x.v.1, .int .i64 x.v.2.1, .string x.v.2.2, .int .i64 x.c, .slice xa x.ks.length xcap] 27)) := (Below.refl _ _).alloc (Nat.le_refl _) _
  have S1 := Six.new w x.k x.v x.c xa x.ks.length xcap 27
  have z1 : (w.alloc (.cells #[.int .i64 x.k, .int .i64 x.v.1, .int .i64 x.v.2.1, .string x.v.2.2, .int .i64 x.c, .slice xa x.ks.length xcap] 27)).heap.size = w.heap.size + 1 := by simp
  have h2 : Below (w.alloc (.cells #[.int .i64 x.k, .int .i64 x.v.1, .int .i64 x.v.2.1, .string x.v.2.2, .int .i64 x.c, .slice xa x.ks.length xcap] 27)).heap.size (w.alloc (.cells #[.int .i64 x.k, .int .i64 x.v.1, .int .i64 x.v.2.1, .string x.v.2.2, .int .i64 x.c, .slice xa x.ks.length xcap] 27)) ((w.alloc (.cells #[.int .i64 x.k, .int .i64 x.v.1, .int .i64 x.v.2.1, .string x.v.2.2, .int .i64 x.c, .slice xa x.ks.length xcap] 27)).alloc (.cells #[.slice none 0 0, .slice none 0 0, .nilFunc] 79)) := (Below.refl _ _).alloc (Nat.le_refl _) _
  have z2 : ((w.alloc (.cells #[.int .i64 x.k, .int .i64 x.v.1, .int .i64 x.v.2.1, .string x.v.2.2, .int .i64 x.c, .slice xa x.ks.length xcap] 27)).alloc (.cells #[.slice none 0 0, .slice none 0 0, .nilFunc] 79)).heap.size = w.heap.size + 2 := by simp
  have S2 := S1.next h2 (by omega)
  have b0 : ((w.alloc (.cells #[.int .i64 x.k, .int .i64 x.v.1, .int .i64 x.v.2.1, .string x.v.2.2, .int .i64 x.c, .slice xa x.ks.length xcap] 27)).alloc (.cells #[.slice none 0 0, .slice none 0 0, .nilFunc] 79)).cell? ⟨w.heap.size + 1, 0, none⟩ = some (.slice none 0 0) := by rw [World.cell?_alloc_at _ _ _ _ (by simp)]; rfl
  have b1 : ((w.alloc (.cells #[.int .i64 x.k, .int .i64 x.v.1, .int .i64 x.v.2.1, .string x.v.2.2, .int .i64 x.c, .slice xa x.ks.length xcap] 27)).alloc (.cells #[.slice none 0 0, .slice none 0 0, .nilFunc] 79)).cell? ⟨w.heap.size + 1, 1, none⟩ = some (.slice none 0 0) := by rw [World.cell?_alloc_at _ _ _ _ (by simp)]; rfl
  have b2 : ((w.alloc (.cells #[.int .i64 x.k, .int .i64 x.v.1, .int .i64 x.v.2.1, .string x.v.2.2, .int .i64 x.c, .slice xa x.ks.length xcap] 27)).alloc (.cells #[.slice none 0 0, .slice none 0 0, .nilFunc] 79)).cell? ⟨w.heap.size + 1, 2, none⟩ = some (.nilFunc) := by rw [World.cell?_alloc_at _ _ _ _ (by simp)]; rfl
  have f0 : ((w.alloc (.cells #[.int .i64 x.k, .int .i64 x.v.1, .int .i64 x.v.2.1, .string x.v.2.2, .int .i64 x.c, .slice xa x.ks.length xcap] 27)).alloc (.cells #[.slice none 0 0, .slice none 0 0, .nilFunc] 79)).frozen? ⟨w.heap.size + 1, 0, none⟩ = false := World.frozen?_alloc_at _ _ _ _ (by simp)
  have f1 : ((w.alloc (.cells #[.int .i64 x.k, .int .i64 x.v.1, .int .i64 x.v.2.1, .string x.v.2.2, .int .i64 x.c, .slice xa x.ks.length xcap] 27)).alloc (.cells #[.slice none 0 0, .slice none 0 0, .nilFunc] 79)).frozen? ⟨w.heap.size + 1, 1, none⟩ = false := World.frozen?_alloc_at _ _ _ _ (by simp)
  have f2 : ((w.alloc (.cells #[.int .i64 x.k, .int .i64 x.v.1, .int .i64 x.v.2.1, .string x.v.2.2, .int .i64 x.c, .slice xa x.ks.length xcap] 27)).alloc (.cells #[.slice none 0 0, .slice none 0 0, .nilFunc] 79)).frozen? ⟨w.heap.size + 1, 2, none⟩ = false := World.frozen?_alloc_at _ _ _ _ (by simp)
  have hA := chain h1 h2
  generalize ht : twoE left right x l r = te
  have HT : Hid (twoE left right x l r = te) := ht
  clear ht S1
  by_cases h8 : 8 < left.length + right.length
  · have e : te = 5 := by rw [← HT.out]; simp [twoE, h8]
    subst e
    have hz : (8 : Int) < (left.length : Int) + (right.length : Int) := by omega
    go_enter Tryz.func86, Tryz.ntmps86
    go_wp2_with fail
    exact bodyPost_ret (v := .tuple #[.agg #[.slice none 0 0, .slice none 0 0, .nilFunc], .int .i64 5]) (by simp [results, Tryz.results86, go_sem]) rfl ⟨_, rfl, .inr ⟨by decide, rfl⟩, by first | exact hA | exact (hA.setCell (p := ⟨w.heap.size + 1, 0, none⟩) (by show w.heap.size ≤ w.heap.size + 1; omega) _)⟩
  have hz : ¬ (8 : Int) < (left.length : Int) + (right.length : Int) := by omega
  have H8 : Hid (¬ 8 < left.length + right.length) := h8
  have p0 := past_cell S2.c0
  have p1 := past_cell S2.c1
  have p2 := past_cell S2.c2
  have p3 := past_cell S2.c3
  have p4 := past_cell S2.c4
  have p5 := past_cell S2.c5
  simp only [Nat.zero_add] at p1 p2 p3 p4 p5
  by_cases hcond : condE (left ++ right) x = 0
  · go_enter Tryz.func86, Tryz.ntmps86
    go_wp2_with fail
    generalize (w.alloc (.cells #[.int .i64 x.k, .int .i64 x.v.1, .int .i64 x.v.2.1, .string x.v.2.2, .int .i64 x.c, .slice xa x.ks.length xcap] 27)).alloc (.cells #[.slice none 0 0, .slice none 0 0, .nilFunc] 79) = w2 at *
    have hB0 : Below w2.heap.size w2 w2.drew := (Below.refl _ _).drew
    refine wp_region_ext (by kernel_rfl) ?_
    refine wpX_take (some 24) (i := 0) (v := .slice la left.length lcap) rfl rfl (by kernel_rfl) (by kernel_rfl) (by kernel_rfl) (fun _ _ _ h => h) (Or.inl ⟨rfl, fun n => ?_⟩) hB0 ?_
    · go_simp
    simp only [Act.put, List.setIfInBounds_toArray, List.set_cons_zero, List.set_cons_succ]
    refine wpX_take (some 25) (i := 1) (v := .slice ra right.length rcap) rfl rfl (by kernel_rfl) (by kernel_rfl) (by kernel_rfl) (fun _ _ _ h => h) (Or.inl ⟨rfl, fun n => ?_⟩) hB0 ?_
    · go_simp
    simp only [Act.put, List.setIfInBounds_toArray, List.set_cons_zero, List.set_cons_succ]
    refine wpX_take (some 28) (i := 4) (v := exV x.k x.v x.c xa x.ks.length xcap) rfl rfl (by kernel_rfl) (by kernel_rfl) (by kernel_rfl) (fun _ _ _ h => h) (Or.inl ⟨rfl, fun n => ?_⟩) hB0 ?_
    · go_simp
    simp only [Act.put, List.setIfInBounds_toArray, List.set_cons_zero, List.set_cons_succ]
    clear p0 p1 p2 p3 p4 p5
    refine wpX_step (rs := [2]) (by kernel_rfl) (by simp) ?_
    intro w3 hb3 j hj
    obtain rfl : j = 2 := by simpa using hj
    clear hj
    have D3 := hB0.trans (hb3.mono hB0.size)
    refine wpOp_step rfl (fun K hK => ?_)
    go_simp
    have hal3 : Below w3.heap.size w3 (w3.alloc (.cells #[.slice la left.length lcap, .slice ra right.length rcap] 22)) := (Below.refl _ _).alloc (Nat.le_refl _) _
    have PC := PairC.new lcap rcap (raw_ints (hcl.next (chain hA D3) (Nat.le_refl _))) (raw_ints (hcr.next (chain hA D3) (Nat.le_refl _))) 22
    have D4 := D3.trans (hal3.mono D3.size)
    refine hK _ _ ⟨D4, ?_⟩
    clear hK K
    generalize w3.alloc (.cells #[.slice la left.length lcap, .slice ra right.length rcap] 22) = w4 at *
    refine wpX_step (rs := [3]) (by kernel_rfl) (by simp) ?_
    intro w5 hb5 j hj
    obtain rfl : j = 3 := by simpa using hj
    clear hj
    have D5 := D4.trans (hb5.mono D4.size)
    refine wpOp_step rfl (fun K hK => ?_)
    go_simp
    refine (concatI_at _ _ _ _ _ w5 (PC.next hb5) (by omega)).mono ?_
    rintro e w6 ⟨v6, rfl, O6, hb6⟩
    rw [← List.map_append] at O6
    obtain ⟨a6, c6, rfl, I6⟩ := own_ints O6 (by simp)
    have D6 := D5.trans (hb6.mono D5.size)
    refine hK _ _ ⟨D6, ?_⟩
    clear hK K PC O6
    refine wpX_step (rs := [5]) (by kernel_rfl) (by simp) ?_
    intro w7 hb7 j hj
    obtain rfl : j = 5 := by simpa using hj
    clear hj
    have D7 := D6.trans (hb7.mono D6.size)
    refine wpOp_step rfl (fun K hK => ?_)
    go_simp
    have hA7 := chain hA D7
    have con := condOk_at (left ++ right) x a6 c6 xa xcap w7 ((KsAt.next hA7 (Nat.le_refl _) hx).up hA7.size) ((I6.next hb7 (Nat.le_refl _)).up hb7.size) hcond
    rw [List.length_append] at con
    refine con.mono ?_
    clear con
    rintro e w8 ⟨u8, rfl, hC8, hb8⟩
    obtain ⟨ug, ucb, rfl⟩ : ∃ g cb, u8 = .func (.func g) #[] cb := by obtain ⟨g, cb, e, _⟩ := hC8; exact ⟨g, cb, e⟩
    have D8 := D7.trans (hb8.mono D7.size)
    refine hK _ _ ⟨D8, ?_⟩
    clear hK K
    refine wpX_take (some 23) (i := 6) (v := .tuple #[.func (.func ug) #[] ucb, .int .i64 0]) rfl rfl (by kernel_rfl) (by kernel_rfl) (by kernel_rfl) (fun _ _ _ h => h) (Or.inl ⟨rfl, fun n => ?_⟩) D8 ?_
    · go_simp
    simp only [Act.put, List.setIfInBounds_toArray, List.set_cons_zero, List.set_cons_succ]
    refine wpX_take (some 30) (i := 7) (v := .func (.func ug) #[] ucb) rfl rfl (by kernel_rfl) (by kernel_rfl) (by kernel_rfl) (fun _ _ _ h => h) (Or.inl ⟨rfl, fun n => ?_⟩) D8 ?_
    · go_simp
    simp only [Act.put, List.setIfInBounds_toArray, List.set_cons_zero, List.set_cons_succ]
    refine wpX_take (some 31) (i := 8) (v := .int .i64 0) rfl rfl (by kernel_rfl) (by kernel_rfl) (by kernel_rfl) (fun _ _ _ h => h) (Or.inl ⟨rfl, fun n => ?_⟩) D8 ?_
    · go_simp
    simp only [Act.put, List.setIfInBounds_toArray, List.set_cons_zero, List.set_cons_succ]
    refine wpX_take (some 12) (i := 9) (v := .func (.func ug) #[] ucb) rfl rfl (by kernel_rfl) (by kernel_rfl) (by kernel_rfl) (fun _ _ _ h => h) (Or.inl ⟨rfl, fun n => ?_⟩) D8 ?_
    · go_simp
    simp only [Act.put, List.setIfInBounds_toArray, List.set_cons_zero, List.set_cons_succ]
    refine wpX_take (some 13) (i := 10) (v := .int .i64 0) rfl rfl (by kernel_rfl) (by kernel_rfl) (by kernel_rfl) (fun _ _ _ h => h) (Or.inl ⟨rfl, fun n => ?_⟩) D8 ?_
    · go_simp
    simp only [Act.put, List.setIfInBounds_toArray, List.set_cons_zero, List.set_cons_succ]
    refine wpX_done (by kernel_rfl) ?_
    intro w9 hb9
    have D9 := D8.trans (hb9.mono D8.size)
    have hA9 := chain hA D9
    have q0 := (D9.cell (p := ⟨w.heap.size + 1, 0, none⟩) (by show w.heap.size + 1 < _; omega)).trans b0
    have q1 := (D9.cell (p := ⟨w.heap.size + 1, 1, none⟩) (by show w.heap.size + 1 < _; omega)).trans b1
    have q2 := (D9.cell (p := ⟨w.heap.size + 1, 2, none⟩) (by show w.heap.size + 1 < _; omega)).trans b2
    have g0 := (D9.frozen (p := ⟨w.heap.size + 1, 0, none⟩) (by show w.heap.size + 1 < _; omega)).trans f0
    have g1 := (D9.frozen (p := ⟨w.heap.size + 1, 1, none⟩) (by show w.heap.size + 1 < _; omega)).trans f1
    have g2 := (D9.frozen (p := ⟨w.heap.size + 1, 2, none⟩) (by show w.heap.size + 1 < _; omega)).trans f2
    have con := wrongS_at left la lcap a ca l w9 ((hcl.next hA9 (Nat.le_refl _)).up hA9.size) (h.next hA9)
    have lt9 : w.heap.size + 1 < w9.heap.size := by have := D9.size; omega
    clear b0 b1 b2 f0 f1 f2 S2
    by_cases hi1 : inpE left l = 0
    · go_wp2_with fail
      rw [hi1] at con
      refine con.mono ?_
      clear con
      rintro e w10 ⟨rfl, hb10⟩
      have hA10 := chain hA9 hb10
      have lt10 : w.heap.size + 1 < w10.heap.size := by have := hb10.size; omega
      have q0 := (hb10.cell (p := ⟨w.heap.size + 1, 0, none⟩) lt9).trans q0
      have q1 := (hb10.cell (p := ⟨w.heap.size + 1, 1, none⟩) lt9).trans q1
      have q2 := (hb10.cell (p := ⟨w.heap.size + 1, 2, none⟩) lt9).trans q2
      have g0 := (hb10.frozen (p := ⟨w.heap.size + 1, 0, none⟩) lt9).trans g0
      have g1 := (hb10.frozen (p := ⟨w.heap.size + 1, 1, none⟩) lt9).trans g1
      have g2 := (hb10.frozen (p := ⟨w.heap.size + 1, 2, none⟩) lt9).trans g2
      have con := wrongS_at right ra rcap b cb r w10 ((hcr.next hA10 (Nat.le_refl _)).up hA10.size) (h'.next hA10)
      by_cases hi2 : inpE right r = 0
      · go_wp2_with fail
        rw [hi2] at con
        refine con.mono ?_
        clear con
        have e0 : te = 0 := by rw [← HT.out]; unfold twoE; rw [if_neg H8.out, if_neg (by simp [hcond]), if_neg (by simp [hi1])]; exact hi2
        subst e0
        rintro e w11 ⟨rfl, hb11⟩
        have hA11 := chain hA10 hb11
        have lt11 : w.heap.size + 1 < w11.heap.size := by have := hb11.size; omega
        have q0 := (hb11.cell (p := ⟨w.heap.size + 1, 0, none⟩) lt10).trans q0
        have q1 := (hb11.cell (p := ⟨w.heap.size + 1, 1, none⟩) lt10).trans q1
        have q2 := (hb11.cell (p := ⟨w.heap.size + 1, 2, none⟩) lt10).trans q2
        have g0 := (hb11.frozen (p := ⟨w.heap.size + 1, 0, none⟩) lt10).trans g0
        have g1 := (hb11.frozen (p := ⟨w.heap.size + 1, 1, none⟩) lt10).trans g1
        have g2 := (hb11.frozen (p := ⟨w.heap.size + 1, 2, none⟩) lt10).trans g2
        go_wp2_with fail
        refine (ofBoth_at (.func (.func ug) #[] ucb) w11 ⟨_, _, rfl⟩).mono ?_
        rintro e w12 ⟨rv, rfl, hv12, N12, I12, hb12⟩
        have hA12 := chain hA11 hb12
        have lt12 : w.heap.size + 1 < w12.heap.size := by have := hb12.size; omega
        have q0 := (hb12.cell (p := ⟨w.heap.size + 1, 0, none⟩) lt11).trans q0
        have q1 := (hb12.cell (p := ⟨w.heap.size + 1, 1, none⟩) lt11).trans q1
        have q2 := (hb12.cell (p := ⟨w.heap.size + 1, 2, none⟩) lt11).trans q2
        have g0 := (hb12.frozen (p := ⟨w.heap.size + 1, 0, none⟩) lt11).trans g0
        have g1 := (hb12.frozen (p := ⟨w.heap.size + 1, 1, none⟩) lt11).trans g1
        have g2 := (hb12.frozen (p := ⟨w.heap.size + 1, 2, none⟩) lt11).trans g2
        have d12 : Below w8.heap.size w8 w12 := chain (chain (chain hb9 hb10) hb11) hb12
        have F7 : Hid (w.heap.size + 2 ≤ w7.heap.size) := by show w.heap.size + 2 ≤ w7.heap.size; have := D7.size; omega
        have HC8 : Hid (Conds (left ++ right) w7.heap.size (.func (.func ug) #[] ucb) x w8) := hC8
        have HZ : Hid (w8.heap.size ≤ w11.heap.size) := by show w8.heap.size ≤ w11.heap.size; have := (chain (chain hb9 hb10) hb11).size; omega
        clear hC8
        go_wp2_with fail
        obtain ⟨r0, r1, r2⟩ := put3_at (.slice a l.length ca) (.slice b r.length cb) (.func (.func 159) #[] #[.pointer (some ⟨rv, 0, none⟩), .pointer (some ⟨w11.heap.size, 0, none⟩)]) q0 q1 q2
        have hE := put3_below (.slice a l.length ca) (.slice b r.length cb) (.func (.func 159) #[] #[.pointer (some ⟨rv, 0, none⟩), .pointer (some ⟨w11.heap.size, 0, none⟩)]) hA12 (show w.heap.size ≤ w.heap.size + 1 by omega)
        have hK := put3_block (W := w12) (k := w.heap.size + 1) (.slice a l.length ca) (.slice b r.length cb) (.func (.func 159) #[] #[.pointer (some ⟨rv, 0, none⟩), .pointer (some ⟨w11.heap.size, 0, none⟩)])
        have hS := put3_size (W := w12) (k := w.heap.size + 1) (.slice a l.length ca) (.slice b r.length cb) (.func (.func 159) #[] #[.pointer (some ⟨rv, 0, none⟩), .pointer (some ⟨w11.heap.size, 0, none⟩)])
        generalize ((w12.setCell ⟨w.heap.size + 1, 0, none⟩ (.slice a l.length ca)).setCell ⟨w.heap.size + 1, 1, none⟩ (.slice b r.length cb)).setCell ⟨w.heap.size + 1, 2, none⟩ (.func (.func 159) #[] #[.pointer (some ⟨rv, 0, none⟩), .pointer (some ⟨w11.heap.size, 0, none⟩)]) = wE at *
        have hr12 := N12.r
        have hv12' := N12.v
        have hz := HZ.out
        have h7 := F7.out
        obtain ⟨n12, hvar⟩ := I12.var
        obtain ⟨cur12, hroom, hcs⟩ := I12.room
        refine bodyPost_ret (v := .tuple #[.agg #[.slice a l.length ca, .slice b r.length cb, .func (.func 159) #[] #[.pointer (some ⟨rv, 0, none⟩), .pointer (some ⟨w11.heap.size, 0, none⟩)]], .int .i64 0]) (by simp [results, Tryz.results86, go_sem, r0, r1, r2]) rfl ⟨_, rfl, ⟨⟨w7.heap.size, w8, w11.heap.size + 1, rv, w11.heap.size, _, rfl, ⟨by omega, by omega⟩, by omega, (World.cell?_of_block (w := w12) (hK w11.heap.size (by omega))).trans hv12, HC8.out, by omega, ⟨by have := d12.size; omega, fun k k1 k2 => (hK k (by omega)).trans (d12.block k k2)⟩, by omega, hE, ?_⟩⟩, hE⟩
        exact ⟨rfl, rfl, rfl, Nat.le_refl _, fun _ _ _ _ => rfl, ⟨n12, (World.cell?_of_block (w := w12) (hK rv (by omega))).trans hvar⟩, (World.frozen?_of_block (w := w12) (hK rv (by omega))).trans I12.warm, cur12, (hK _ (by omega)).trans hroom, hcs⟩
      · go_wp2_with fail
        refine con.mono ?_
        clear con
        have e0 : te = inpE right r := by rw [← HT.out]; unfold twoE; rw [if_neg H8.out, if_neg (by simp [hcond]), if_neg (by simp [hi1])]
        rw [← e0] at hi2 ⊢
        have hne : (te != 0) = true := by simpa using hi2
        clear e0
        rintro e w11 ⟨rfl, hb11⟩
        have hA11 := chain hA10 hb11
        have q0 := (hb11.cell (p := ⟨w.heap.size + 1, 0, none⟩) lt10).trans q0
        have q1 := (hb11.cell (p := ⟨w.heap.size + 1, 1, none⟩) lt10).trans q1
        have q2 := (hb11.cell (p := ⟨w.heap.size + 1, 2, none⟩) lt10).trans q2
        have g0 := (hb11.frozen (p := ⟨w.heap.size + 1, 0, none⟩) lt10).trans g0
        have g1 := (hb11.frozen (p := ⟨w.heap.size + 1, 1, none⟩) lt10).trans g1
        have g2 := (hb11.frozen (p := ⟨w.heap.size + 1, 2, none⟩) lt10).trans g2
        go_wp2_with fail
        obtain ⟨r0, r1, r2⟩ := put3_at (.slice none 0 0) (.slice none 0 0) .nilFunc q0 q1 q2
        have hE := put3_below (.slice none 0 0) (.slice none 0 0) .nilFunc hA11 (show w.heap.size ≤ w.heap.size + 1 by omega)
        generalize ((w11.setCell ⟨w.heap.size + 1, 0, none⟩ (.slice none 0 0)).setCell ⟨w.heap.size + 1, 1, none⟩ (.slice none 0 0)).setCell ⟨w.heap.size + 1, 2, none⟩ .nilFunc = wE at *
        exact bodyPost_ret (v := .tuple #[.agg #[.slice none 0 0, .slice none 0 0, .nilFunc], .int .i64 te]) (by simp [results, Tryz.results86, go_sem, r0, r1, r2]) rfl ⟨_, rfl, .inr ⟨hi2, rfl⟩, hE⟩
    · go_wp2_with fail
      refine con.mono ?_
      clear con
      have e0 : te = inpE left l := by rw [← HT.out]; unfold twoE; rw [if_neg H8.out, if_neg (by simp [hcond]), if_pos hi1]
      rw [← e0] at hi1 ⊢
      have hne : (te != 0) = true := by simpa using hi1
      clear e0
      rintro e w10 ⟨rfl, hb10⟩
      have hA10 := chain hA9 hb10
      have q0 := (hb10.cell (p := ⟨w.heap.size + 1, 0, none⟩) lt9).trans q0
      have q1 := (hb10.cell (p := ⟨w.heap.size + 1, 1, none⟩) lt9).trans q1
      have q2 := (hb10.cell (p := ⟨w.heap.size + 1, 2, none⟩) lt9).trans q2
      have g0 := (hb10.frozen (p := ⟨w.heap.size + 1, 0, none⟩) lt9).trans g0
      have g1 := (hb10.frozen (p := ⟨w.heap.size + 1, 1, none⟩) lt9).trans g1
      have g2 := (hb10.frozen (p := ⟨w.heap.size + 1, 2, none⟩) lt9).trans g2
      go_wp2_with fail
      obtain ⟨r0, r1, r2⟩ := put3_at (.slice none 0 0) (.slice none 0 0) .nilFunc q0 q1 q2
      have hE := put3_below (.slice none 0 0) (.slice none 0 0) .nilFunc hA10 (show w.heap.size ≤ w.heap.size + 1 by omega)
      generalize ((w10.setCell ⟨w.heap.size + 1, 0, none⟩ (.slice none 0 0)).setCell ⟨w.heap.size + 1, 1, none⟩ (.slice none 0 0)).setCell ⟨w.heap.size + 1, 2, none⟩ .nilFunc = wE at *
      exact bodyPost_ret (v := .tuple #[.agg #[.slice none 0 0, .slice none 0 0, .nilFunc], .int .i64 te]) (by simp [results, Tryz.results86, go_sem, r0, r1, r2]) rfl ⟨_, rfl, .inr ⟨hi1, rfl⟩, hE⟩
  · have e0 : te = condE (left ++ right) x := by rw [← HT.out]; unfold twoE; rw [if_neg H8.out, if_pos hcond]
    have e1 : ¬ te = 0 := by rw [e0]; exact hcond
    have hne : (te != 0) = true := by simpa using e1
    have HC : Hid (condE (left ++ right) x = te) := e0.symm
    clear e0
    go_enter Tryz.func86, Tryz.ntmps86
    go_wp2_with fail
    generalize (w.alloc (.cells #[.int .i64 x.k, .int .i64 x.v.1, .int .i64 x.v.2.1, .string x.v.2.2, .int .i64 x.c, .slice xa x.ks.length xcap] 27)).alloc (.cells #[.slice none 0 0, .slice none 0 0, .nilFunc] 79) = w2 at *
    have hB0 : Below w2.heap.size w2 w2.drew := (Below.refl _ _).drew
    refine wp_region_ext (by kernel_rfl) ?_
    refine wpX_take (some 24) (i := 0) (v := .slice la left.length lcap) rfl rfl (by kernel_rfl) (by kernel_rfl) (by kernel_rfl) (fun _ _ _ h => h) (Or.inl ⟨rfl, fun n => ?_⟩) hB0 ?_
    · go_simp
    simp only [Act.put, List.setIfInBounds_toArray, List.set_cons_zero, List.set_cons_succ]
    refine wpX_take (some 25) (i := 1) (v := .slice ra right.length rcap) rfl rfl (by kernel_rfl) (by kernel_rfl) (by kernel_rfl) (fun _ _ _ h => h) (Or.inl ⟨rfl, fun n => ?_⟩) hB0 ?_
    · go_simp
    simp only [Act.put, List.setIfInBounds_toArray, List.set_cons_zero, List.set_cons_succ]
    refine wpX_take (some 28) (i := 4) (v := exV x.k x.v x.c xa x.ks.length xcap) rfl rfl (by kernel_rfl) (by kernel_rfl) (by kernel_rfl) (fun _ _ _ h => h) (Or.inl ⟨rfl, fun n => ?_⟩) hB0 ?_
    · go_simp
    simp only [Act.put, List.setIfInBounds_toArray, List.set_cons_zero, List.set_cons_succ]
    clear p0 p1 p2 p3 p4 p5
    refine wpX_step (rs := [2]) (by kernel_rfl) (by simp) ?_
    intro w3 hb3 j hj
    obtain rfl : j = 2 := by simpa using hj
    clear hj
    have D3 := hB0.trans (hb3.mono hB0.size)
    refine wpOp_step rfl (fun K hK => ?_)
    go_simp
    have hal3 : Below w3.heap.size w3 (w3.alloc (.cells #[.slice la left.length lcap, .slice ra right.length rcap] 22)) := (Below.refl _ _).alloc (Nat.le_refl _) _
    have PC := PairC.new lcap rcap (raw_ints (hcl.next (chain hA D3) (Nat.le_refl _))) (raw_ints (hcr.next (chain hA D3) (Nat.le_refl _))) 22
    have D4 := D3.trans (hal3.mono D3.size)
    refine hK _ _ ⟨D4, ?_⟩
    clear hK K
    generalize w3.alloc (.cells #[.slice la left.length lcap, .slice ra right.length rcap] 22) = w4 at *
    refine wpX_step (rs := [3]) (by kernel_rfl) (by simp) ?_
    intro w5 hb5 j hj
    obtain rfl : j = 3 := by simpa using hj
    clear hj
    have D5 := D4.trans (hb5.mono D4.size)
    refine wpOp_step rfl (fun K hK => ?_)
    go_simp
    refine (concatI_at _ _ _ _ _ w5 (PC.next hb5) (by omega)).mono ?_
    rintro e w6 ⟨v6, rfl, O6, hb6⟩
    rw [← List.map_append] at O6
    obtain ⟨a6, c6, rfl, I6⟩ := own_ints O6 (by simp)
    have D6 := D5.trans (hb6.mono D5.size)
    refine hK _ _ ⟨D6, ?_⟩
    clear hK K PC O6
    refine wpX_step (rs := [5]) (by kernel_rfl) (by simp) ?_
    intro w7 hb7 j hj
    obtain rfl : j = 5 := by simpa using hj
    clear hj
    have D7 := D6.trans (hb7.mono D6.size)
    refine wpOp_step rfl (fun K hK => ?_)
    go_simp
    have hA7 := chain hA D7
    have con := condBad_at (left ++ right) x a6 c6 xa xcap w7 ((KsAt.next hA7 (Nat.le_refl _) hx).up hA7.size) ((I6.next hb7 (Nat.le_refl _)).up hb7.size) hcond
    rw [HC.out, List.length_append] at con
    refine con.mono ?_
    clear con
    rintro e w8 ⟨rfl, hb8⟩
    have D8 := D7.trans (hb8.mono D7.size)
    refine hK _ _ ⟨D8, ?_⟩
    clear hK K
    refine wpX_take (some 23) (i := 6) (v := .tuple #[.nilFunc, .int .i64 te]) rfl rfl (by kernel_rfl) (by kernel_rfl) (by kernel_rfl) (fun _ _ _ h => h) (Or.inl ⟨rfl, fun n => ?_⟩) D8 ?_
    · go_simp
    simp only [Act.put, List.setIfInBounds_toArray, List.set_cons_zero, List.set_cons_succ]
    refine wpX_take (some 30) (i := 7) (v := .nilFunc) rfl rfl (by kernel_rfl) (by kernel_rfl) (by kernel_rfl) (fun _ _ _ h => h) (Or.inl ⟨rfl, fun n => ?_⟩) D8 ?_
    · go_simp
    simp only [Act.put, List.setIfInBounds_toArray, List.set_cons_zero, List.set_cons_succ]
    refine wpX_take (some 31) (i := 8) (v := .int .i64 te) rfl rfl (by kernel_rfl) (by kernel_rfl) (by kernel_rfl) (fun _ _ _ h => h) (Or.inl ⟨rfl, fun n => ?_⟩) D8 ?_
    · go_simp
    simp only [Act.put, List.setIfInBounds_toArray, List.set_cons_zero, List.set_cons_succ]
    refine wpX_take (some 12) (i := 9) (v := .nilFunc) rfl rfl (by kernel_rfl) (by kernel_rfl) (by kernel_rfl) (fun _ _ _ h => h) (Or.inl ⟨rfl, fun n => ?_⟩) D8 ?_
    · go_simp
    simp only [Act.put, List.setIfInBounds_toArray, List.set_cons_zero, List.set_cons_succ]
    refine wpX_take (some 13) (i := 10) (v := .int .i64 te) rfl rfl (by kernel_rfl) (by kernel_rfl) (by kernel_rfl) (fun _ _ _ h => h) (Or.inl ⟨rfl, fun n => ?_⟩) D8 ?_
    · go_simp
    simp only [Act.put, List.setIfInBounds_toArray, List.set_cons_zero, List.set_cons_succ]
    refine wpX_done (by kernel_rfl) ?_
    intro w9 hb9
    have D9 := D8.trans (hb9.mono D8.size)
    have hA9 := chain hA D9
    have q0 := (D9.cell (p := ⟨w.heap.size + 1, 0, none⟩) (by show w.heap.size + 1 < _; omega)).trans b0
    have q1 := (D9.cell (p := ⟨w.heap.size + 1, 1, none⟩) (by show w.heap.size + 1 < _; omega)).trans b1
    have q2 := (D9.cell (p := ⟨w.heap.size + 1, 2, none⟩) (by show w.heap.size + 1 < _; omega)).trans b2
    have g0 := (D9.frozen (p := ⟨w.heap.size + 1, 0, none⟩) (by show w.heap.size + 1 < _; omega)).trans f0
    have g1 := (D9.frozen (p := ⟨w.heap.size + 1, 1, none⟩) (by show w.heap.size + 1 < _; omega)).trans f1
    have g2 := (D9.frozen (p := ⟨w.heap.size + 1, 2, none⟩) (by show w.heap.size + 1 < _; omega)).trans f2
    go_wp2_with fail
    obtain ⟨r0, r1, r2⟩ := put3_at (.slice none 0 0) (.slice none 0 0) .nilFunc q0 q1 q2
    have hE := put3_below (.slice none 0 0) (.slice none 0 0) .nilFunc hA9 (show w.heap.size ≤ w.heap.size + 1 by omega)
    generalize ((w9.setCell ⟨w.heap.size + 1, 0, none⟩ (.slice none 0 0)).setCell ⟨w.heap.size + 1, 1, none⟩ (.slice none 0 0)).setCell ⟨w.heap.size + 1, 2, none⟩ .nilFunc = wE at *
    exact bodyPost_ret (v := .tuple #[.agg #[.slice none 0 0, .slice none 0 0, .nilFunc], .int .i64 te]) (by simp [results, Tryz.results86, go_sem, r0, r1, r2]) rfl ⟨_, rfl, .inr ⟨e1, rfl⟩, hE⟩
end Go.Proofs.YtfgpfnhbcbhkfadGreat
/- As ..Ext, over whatever class of worlds that is kept as worlds grow: whatever only reads what was there, and calls that make memory alone, may be taken first, if what is left goes through in every world that has grown since. -/
namespace Go.Proofs.YtfgpfnhbcbhkfadGreat
open Go.RowKit

section
variable {P : Program} {ops : Array Oper} {Q : Exit → Act → World → Prop} {md : Region.Mode} {C : World → Prop}

/-- In every world that has grown of the class the operation leaves v in its temporary, and a world that has grown out of that one. -/
def GrowsC (P : Program) (ops : Array Oper) (C : World → Prop) (o : Oper) (v : Value) (a : Act) : Prop :=
  (Region.wanted o (yielded ops a.tmps) = true ∧ ∀ n : World, C n → Oper.quietUpon P (fun w' => Below n.heap.size n w') n v ((execOp a.eval o).run P n)) ∨
  (Region.wanted o (yielded ops a.tmps) = false ∧ v = undef)

theorem GrowsC.of_same {o : Oper} {v : Value} {a a' : Act} (hy : GrowsC P ops C o v a) (he : execOp a'.eval o = execOp a.eval o)
    (hw : Region.wanted o (yielded ops a'.tmps) = Region.wanted o (yielded ops a.tmps)) : GrowsC P ops C o v a' := by
  unfold GrowsC at *
  rw [he, hw]
  exact hy

theorem GrowsC.wpOp {i : Nat} {o : Oper} {v : Value} {a : Act} (hi : ops[i]? = some o) (hy : GrowsC P ops C o v a)
    {K : Act → World → Prop} {w : World} (hB : C w) (h : ∀ w', Below w.heap.size w w' → K (a.put o.dst v) w') : wpOp P ops Q i K a w := by
  unfold Go.wpOp
  simp only [hi]
  rcases hy with ⟨hw, hv⟩ | ⟨hw, rfl⟩
  · simp only [hw, if_true]
    left
    have h3 := hv w hB
    unfold Oper.wp
    generalize (execOp a.eval o).run P w = r at *
    cases r with
    | ok n w' =>
      cases n <;> simp only [Oper.quietUpon] at h3 <;> simp only [Oper.upon]
      case value u =>
        obtain ⟨e1, e2⟩ := h3
        rw [e1, e2]
        exact h _ (Below.refl _ _)
      case skip =>
        obtain ⟨e1, e2⟩ := h3
        rw [e1, ← e2]
        exact h _ (Below.refl _ _)
      case enter f args =>
        obtain ⟨e1, hc⟩ := h3
        rw [e1]
        exact hc.mono fun e w'' ⟨he, hw''⟩ => by subst he; exact h _ hw''
    | halt x w' => simp only [Oper.quietUpon] at h3
  · simp only [hw, Bool.false_eq_true, if_false]
    exact h _ (Below.refl _ _)

/-- One operation, apart from another one: whether that one's value is there already makes no difference to it. -/
theorem wpOp_putC {Φ : Act → Prop} {j : Nat} {oi oj : Oper} {v : Value} (hj : ops[j]? = some oj) (hap : oi.apart ops oj = true)
    (hsj : ∀ cs b, oj.op ≠ .select cs b) (hQ : ∀ c a w, Q (.panic c) (a.put oi.dst v) w → Q (.panic c) a w)
    (keep : ∀ (a : Act), Φ a → ∀ u, Φ (a.put oj.dst u)) (keepD : ∀ (a : Act) (d : Deferred), Φ a → Φ { a with defers := d :: a.defers })
    {K : Act → World → Prop} {a : Act} {w : World} (hy : Φ a) (h : wpOp P ops Q j K (a.put oi.dst v) w) :
    wpOp P ops Q j (fun a' w' => Φ a' ∧ K (a'.put oi.dst v) w') a w := by
  obtain ⟨h1, h2, _⟩ := Oper.apart_spec hap
  unfold wpOp at *
  simp only [hj] at *
  rw [wanted_put oj a oi.dst v h1] at h
  split
  · rename_i hw
    simp only [hw, if_true] at h
    rcases h with h | ⟨hasks, hlets⟩
    case inr => exact .inr ⟨by unfold Oper.asks at *; rw [execOp_put oj hsj a oi.dst v h1] at hasks; exact hasks, hlets⟩
    refine .inl ?_
    unfold Oper.wp at *
    rw [execOp_put oj hsj a oi.dst v h1] at h
    generalize (execOp a.eval oj).run P w = r at *
    cases r with
    | ok n w' =>
      cases n <;> simp only [Oper.upon] at h ⊢
      case value u => exact ⟨keep a hy u, by rw [← Act.put_comm a v u h2]; exact h⟩
      case skip => exact ⟨keep a hy _, by rw [← Act.put_comm a v undef h2]; exact h⟩
      case defer d =>
        refine ⟨keep _ (keepD a d hy) _, ?_⟩
        rw [← Act.put_comm _ v undef h2, ← Act.put_defers]
        exact h
      case enter f args =>
        refine Calls.mono h fun e w'' he => ?_
        cases e with
        | returned u => exact ⟨keep a hy u, by rw [← Act.put_comm a v u h2]; exact he⟩
        | panicked c => exact hQ _ _ _ he
        | outgrown => exact he
      case row row args => exact Rows.mono h fun u w'' he => ⟨keep a hy u, by rw [← Act.put_comm a v u h2]; exact he⟩
    | halt x w' =>
      cases x <;> simp only [Oper.upon] at h ⊢
      case panic u => exact hQ _ _ _ h
  · rename_i hw
    simp only [hw] at h
    exact ⟨keep a hy _, by rw [← Act.put_comm a v undef h2]; exact h⟩

/-- Whatever order is picked from here on, and however the world grows ahead of each operation. -/
def wpY (P : Program) (md : Region.Mode) (ops : Array Oper) (Q : Exit → Act → World → Prop) (C : World → Prop) : Nat → Array Bool → Act → World → Prop
  | 0, listed, a, w => Region.ready md ops listed = [] ∧ ∀ w', Below w.heap.size w w' → Q .normal a w'
  | fuel + 1, listed, a, w => ∀ w', Below w.heap.size w w' → (Region.ready md ops listed = [] → Q .normal a w') ∧
    ∀ i ∈ Region.ready md ops listed, wpOp P ops Q i (fun a' w'' => C w'' ∧ wpY P md ops Q C fuel (listed.setIfInBounds i true) a' w'') a w'

theorem wpY.later : ∀ (fuel : Nat) {listed : Array Bool} {a : Act} {w w1 : World}, wpY P md ops Q C fuel listed a w → Below w.heap.size w w1 → wpY P md ops Q C fuel listed a w1
  | 0, _, _, _, _, h, hb => ⟨h.1, fun w' hw' => h.2 w' (chain hb hw')⟩
  | _ + 1, _, _, _, _, h, hb => fun w' hw' => h w' (chain hb hw')

theorem wpAny_of_wpY : ∀ (fuel : Nat) (listed : Array Bool) (a : Act) (w : World), wpY P md ops Q C fuel listed a w → wpAny P md ops Q fuel listed a w
  | 0, _, _, _, h => ⟨h.1, h.2 _ (Below.refl _ _)⟩
  | fuel + 1, _, _, w, h => ⟨(h w (Below.refl _ _)).1, fun i hi => wpOp_mono (fun a' w' h' => wpAny_of_wpY fuel _ a' w' h'.2) ((h w (Below.refl _ _)).2 i hi)⟩

theorem wpY_first (hC : ∀ w w', C w → Below w.heap.size w w' → C w') {i : Nat} {oi : Oper} {v : Value} (hi : ops[i]? = some oi) (hsel : ∀ (j : Nat) (o : Oper) cs b, ops[j]? = some o → o.op ≠ .select cs b)
    (hQ : ∀ c a w, Q (.panic c) (a.put oi.dst v) w → Q (.panic c) a w) :
    ∀ (fuel : Nat) (listed : Array Bool) (a : Act) (w : World),
      (∀ j oj, ops[j]? = some oj → j ≠ i → listed.getD j true = false → (∀ e ∈ oj.after, Region.binds md e = true → e.on ≠ i) → oi.apart ops oj = true) →
      i ∈ Region.ready md ops listed → GrowsC P ops C oi v a → C w →
      wpY P md ops Q C fuel (listed.setIfInBounds i true) (a.put oi.dst v) w → wpY P md ops Q C (fuel + 1) listed a w := by
  intro fuel
  induction fuel with
  | zero =>
    intro listed a w _ hr hy hB H w' hw'
    refine ⟨fun h => (by rw [h] at hr; cases hr), fun j hj => ?_⟩
    by_cases hji : j = i
    · subst hji
      exact hy.wpOp hi (hC _ _ hB hw') fun w'' hw'' => ⟨hC _ _ (hC _ _ hB hw') hw'', H.later 0 (chain hw' hw'')⟩
    · have := ready_mono hj hji
      rw [H.1] at this
      cases this
  | succ fuel ih =>
    intro listed a w hfree hr hy hB H w' hw'
    refine ⟨fun h => (by rw [h] at hr; cases hr), fun j hj => ?_⟩
    by_cases hji : j = i
    · subst hji
      exact hy.wpOp hi (hC _ _ hB hw') fun w'' hw'' => ⟨hC _ _ (hC _ _ hB hw') hw'', H.later (fuel + 1) (chain hw' hw'')⟩
    · have h1 := (H w' hw').2 j (ready_mono hj hji)
      obtain ⟨hjun, oj, hoj, hall⟩ := mem_ready.1 hj
      have hnot : ∀ e ∈ oj.after, Region.binds md e = true → e.on ≠ i := fun e he hb heq => by
        have h1 := hall e he hb
        have h0 := (mem_ready.1 hr).1
        rw [heq] at h1
        rcases Nat.lt_or_ge i listed.size with h' | h'
        · simp [h'] at h0 h1; rw [h0] at h1; cases h1
        · simp [Array.getElem?_eq_none h'] at h1
      have hap := hfree j oj hoj hji hjun hnot
      obtain ⟨_, _, h3⟩ := Oper.apart_spec hap
      have h2 := wpOp_putC (Φ := GrowsC P ops C oi v) hoj hap (fun cs b => hsel j oj cs b hoj) hQ
        (fun a hy u => hy.of_same (execOp_put oi (fun cs b => hsel i oi cs b hi) a oj.dst u h3) (wanted_put oi a oj.dst u h3)) (fun a d hy => hy.of_same rfl rfl) hy h1
      have hfree' : ∀ k ok, ops[k]? = some ok → k ≠ i → (listed.setIfInBounds j true).getD k true = false →
          (∀ e ∈ ok.after, Region.binds md e = true → e.on ≠ i) → oi.apart ops ok = true := fun k ok hk hki hun hno => by
        refine hfree k ok hk hki ?_ hno
        by_cases hjk : j = k
        · subst hjk; exact hjun
        · rw [getD_set_ne true hjk] at hun; exact hun
      refine wpOp_mono (fun a' w'' h4 => ⟨h4.2.1, ih (listed.setIfInBounds j true) a' w'' hfree' (ready_mono hr (Ne.symm hji)) h4.1 h4.2.1 ?_⟩) h2
      rw [Array.setIfInBounds_comm _ _ hji]
      exact h4.2.2

theorem wpY_take (hC : ∀ w w', C w → Below w.heap.size w w' → C w') {i : Nat} {oi : Oper} {v : Value} {fuel : Nat} {listed : Array Bool} {a : Act} {w : World} (d : Option Tmp) (hi : ops[i]? = some oi) (hd : oi.dst = d)
    (hs : Region.noSelect ops = true) (hf : Region.free md ops listed i = true) (hr : (Region.ready md ops listed).contains i = true)
    (hQ : ∀ c a w, Q (.panic c) (a.put oi.dst v) w → Q (.panic c) a w) (hy : GrowsC P ops C oi v a) (hB : C w)
    (h : wpY P md ops Q C fuel (listed.setIfInBounds i true) (a.put d v) w) : wpY P md ops Q C (fuel + 1) listed a w := by
  subst hd
  exact wpY_first hC hi (Region.noSelect_spec hs) hQ fuel listed a w (Region.free_spec hi hf) (by simpa using hr) hy hB h

theorem wpY_step {rs : List Nat} {fuel : Nat} {listed : Array Bool} {a : Act} {w : World} (hr : Region.ready md ops listed = rs) (hne : rs ≠ [])
    (h : ∀ w', Below w.heap.size w w' → ∀ i ∈ rs, wpOp P ops Q i (fun a' w'' => C w'' ∧ wpY P md ops Q C fuel (listed.setIfInBounds i true) a' w'') a w') : wpY P md ops Q C (fuel + 1) listed a w :=
  fun w' hw' => ⟨fun h0 => absurd (hr ▸ h0) hne, hr ▸ h w' hw'⟩
theorem wpY_done {listed : Array Bool} {a : Act} {w : World} (hr : Region.ready md ops listed = []) (h : ∀ w', Below w.heap.size w w' → Q .normal a w') : wpY P md ops Q C 0 listed a w := ⟨hr, h⟩

theorem wp_region_cls {id : Nat} {a : Act} {w : World} (C : World → Prop) (hm : P.follows .mixedOrders = true)
    (h : wpY P .any ops Q C ops.size (Array.replicate ops.size false) a w.drew) : (Code.region id ops true).wp P Q a w :=
  wp_region_any hm (wpAny_of_wpY _ _ _ _ h)
end
end Go.Proofs.YtfgpfnhbcbhkfadGreat
/- Rows that are gathered one by one beside others that are asked. -/
namespace Go.Proofs.YtfgpfnhbcbhkfadGreat
open Go.RowKit Go.Lib Go.Shelf

/-- Rows in a slice of one's own, whose values lie in blocks of values, all from base on. -/
def OwnJ (base : Nat) (W : World) (v : Value) (l : List Zp) : Prop := ∃ xs, W.ownsRow base 53 2 v l.length xs ∧ EncT W xs l ∧ ∀ (i : Nat) (b o cap n : Nat), i < l.length → xs[i * 2]? = some (.slice (some ⟨b, o, none⟩) n cap) → base ≤ b
theorem OwnJ.z {base : Nat} {W : World} {v : Value} {l : List Zp} (h : OwnJ base W v l) : OwnZ base W v l := by
  obtain ⟨xs, h1, h2, _⟩ := h
  exact ⟨xs, h1, h2⟩
theorem sl_since {lo : Nat} {W w1 : World} {a : Option Addr} {r : List Vl} (h : SlAt W a r) (ht : TyAt W a) (hb : ∀ b o, a = some ⟨b, o, none⟩ → lo ≤ b) (hs : Since lo W w1) : SlAt w1 a r ∧ TyAt w1 a := by
  have key : ∀ b off, a = some ⟨b, off, none⟩ → w1.heap[b]? = W.heap[b]? := by
    intro b off e
    obtain ⟨c, z, h1⟩ := ht b off e
    have hlt : b < W.heap.size := by
      rcases Nat.lt_or_ge b W.heap.size with h | h
      · exact h
      · rw [Array.getElem?_eq_none h] at h1; cases h1
    exact hs.2 b (hb b off e) hlt
  refine ⟨⟨h.1, ?_⟩, ?_⟩
  · rcases h.2 with h | ⟨b, off, e, hr, hlt⟩
    · exact .inl h
    · refine .inr ⟨b, off, e, fun i hi => ?_, Nat.lt_of_lt_of_le hlt hs.1⟩
      have k := key b off e
      obtain ⟨c0, c1, c2⟩ := hr i hi
      exact ⟨(World.cell?_of_block (a := ⟨b, _, none⟩) k).trans c0, (World.cell?_of_block (a := ⟨b, _, none⟩) k).trans c1, (World.cell?_of_block (a := ⟨b, _, none⟩) k).trans c2⟩
  · intro b off e
    obtain ⟨c, z, h1⟩ := ht b off e
    exact ⟨c, z, (key b off e).trans h1⟩
theorem OwnJ.since {base lo : Nat} {W w1 : World} {v : Value} {l : List Zp} (h : OwnJ base W v l) (hl : lo ≤ base) (hs : Since lo W w1) : OwnJ base w1 v l := by
  obtain ⟨xs, h1, h2, h3⟩ := h
  refine ⟨xs, own_since h1 hl hs, ⟨h2.1, fun i hi => ?_⟩, h3⟩
  obtain ⟨a, cap, e0, e1, e2, e3⟩ := h2.2 i hi
  obtain ⟨g0, g1⟩ := sl_since e2 e3 (fun b o e => by subst e; exact Nat.le_trans hl (h3 i b o cap _ hi e0)) hs
  exact ⟨a, cap, e0, e1, g0, g1⟩
theorem OwnJ.nil (base : Nat) (W : World) : OwnJ base W (.slice none 0 0) [] := ⟨[], by simpa using World.ownsRow_nil _ _ _ _, ⟨rfl, fun i hi => by simp at hi⟩, fun i b o cap n hi => by simp at hi⟩
theorem OwnJ.slice {base : Nat} {W : World} {v : Value} {l : List Zp} (h : OwnJ base W v l) : ∃ a cap, v = .slice a l.length cap := by
  obtain ⟨a, cap, e, _⟩ := h.z.zs
  exact ⟨a, cap, e⟩
theorem OwnJ.push {W w1 : World} {base : Nat} {v v' : Value} {xs : List Value} {l : List Zp} {a : Option Addr} {cap : Nat} {r : List Vl} {x : Int}
    (ho : W.ownsRow base 53 2 v l.length xs) (he : EncT W xs l) (hb : ∀ (i : Nat) (b o cap n : Nat), i < l.length → xs[i * 2]? = some (.slice (some ⟨b, o, none⟩) n cap) → base ≤ b) (hs : SlAt W a r) (ht : TyAt W a) (ha : ∀ b o, a = some ⟨b, o, none⟩ → base ≤ b)
    (ho' : w1.ownsRow base 53 2 v' (l.length + 1) (xs ++ [.slice a r.length cap, .int .i64 x])) (hg : W.grownBy w1 v.ownBlock) : OwnJ base w1 v' (l ++ [(r, x)]) := by
  have lx := he.1
  refine ⟨_, by simpa using ho', ⟨by simp [he.1]; omega, ?_⟩, ?_⟩
  · intro i hi
    by_cases hi' : i < l.length
    · obtain ⟨a', c', h1, h2, h3, h4⟩ := he.2 i hi'
      have g := sl_grown h3 h4 ho hg
      refine ⟨a', c', ?_, ?_, ?_, g.2⟩
      · rw [List.getElem?_append_left (by omega), h1, List.getElem_append_left hi']
      · rw [List.getElem?_append_left (by omega), h2, List.getElem_append_left hi']
      · rw [List.getElem_append_left hi']; exact g.1
    · have : i = l.length := by simp at hi; omega
      subst this
      have g := sl_grown hs ht ho hg
      refine ⟨a, cap, ?_, ?_, ?_, g.2⟩
      · rw [List.getElem?_append_right (by omega)]; simp [lx]
      · rw [List.getElem?_append_right (by omega)]; simp [lx]
      · simpa using g.1
  · intro i b o c n hi h
    by_cases hi' : i < l.length
    · rw [List.getElem?_append_left (by omega)] at h
      exact hb i b o c n hi' h
    · have : i = l.length := by simp at hi; omega
      subst this
      rw [List.getElem?_append_right (by omega)] at h
      simp [lx] at h
      exact ha b o h.1
theorem OwnJ.lt {base : Nat} {W : World} {v : Value} {l : List Zp} (h : OwnJ base W v l) {g : Nat} (hg : v.ownBlock = some g) : base ≤ g ∧ g < W.heap.size := by
  obtain ⟨xs, h1, _⟩ := h
  exact h1.lt g hg
theorem wp_append_at {P : Program} {w : World} {o : Oper} {a : Act} {K : Act → World → Prop} {Q : Exit → Act → World → Prop} (d : Option Tmp) (hd : o.dst = d) (s x : Operand) (t : TypeId)
    (ho : o.op = .call { callee := .builtin .append, args := #[s, x], argTypes := #[t, t] })
    (base : Nat) (e : TypeId) (i : TypeInfo) (z : Value) (size bytes : Nat) (ht : P.underlying t = some (.slice e)) (hi : P.info? e = some i) (hz : i.zero = some z)
    (hsize : i.size = size) (hby : i.bytes = bytes) (hzs : z.cells.size = size) (hsz : 0 < size)
    (v : Value) (n : Nat) (xs : List Value) (hs : a.eval s = v) (hown : w.ownsRow base e size v n xs)
    (ad : Addr) (m c : Nat) (news : List Value) (hx : a.eval x = .slice (some ad) m c) (hl : news.length = m * size) (hnews : ∀ j u, news[j]? = some u → w.cell? (ad.add j) = some u) (h1 : ∀ u ∈ news, u.oneCell' = true)
    (h63 : n + m ≤ maxLen) (hbytes : (n + m) * bytes ≤ 140737488355328) (hbase : base ≤ w.heap.size)
    (h : ∀ v' w', w'.ownsRow base e size v' (n + m) (xs ++ news) → w.grownBy w' v.ownBlock → (v'.ownBlock = v.ownBlock ∨ v'.ownBlock = some w.heap.size) → K (a.put d v') w') : o.wp P a w K Q := by
  subst hd
  obtain ⟨v', w', hr, h2, h3, _, h5⟩ := run_append_own_at (P := P) w base t o.type e i z size bytes ht hi hz hsize hby hzs hsz v n xs hown ad m c news hl hnews h1 h63 hbytes hbase
  unfold Oper.wp execOp
  simp only [ho, resolve, invoke, builtin, Sem.run_bind, Sem.run_pure, Result.andThen_ok, List.map_toArray, List.map_cons, List.map_nil, hs, hx, hr]
  exact h v' w' h2 h3 h5
/-- The rows that stand in a set, one after the other. -/
theorem joinL_take (x : Ex) {l r : List Zp} {k : Nat} (h : k < l.length) : joinL x (l.take (k + 1)) r = joinL x (l.take k) r ++ pairsOf x l[k] r := by
  unfold joinL
  rw [List.take_succ_eq_append_getElem h, List.flatMap_append]
  simp
theorem pairsOf_take (x : Ex) (p : Zp) {r : List Zp} {k : Nat} (h : k < r.length) : pairsOf x p (r.take (k + 1)) = pairsOf x p (r.take k) ++ (if holdsP x (p.1 ++ r[k].1) = true then [(p.1 ++ r[k].1, p.2 * r[k].2)] else []) := by
  unfold pairsOf
  rw [List.take_succ_eq_append_getElem h, List.filter_append, List.map_append, List.filter_cons]
  congr 1
  split <;> rfl
theorem pairsOf_len (x : Ex) (p : Zp) (r : List Zp) : (pairsOf x p r).length ≤ r.length := by
  unfold pairsOf
  rw [List.length_map]
  exact List.length_filter_le _ _
theorem joinL_len (x : Ex) : ∀ (l r : List Zp), (joinL x l r).length ≤ l.length * r.length
  | [], _ => by simp [joinL]
  | p :: t, r => by
    have h1 := joinL_len x t r
    have h2 := pairsOf_len x p r
    unfold joinL at h1 ⊢
    rw [List.flatMap_cons, List.length_append, List.length_cons, Nat.add_mul, Nat.one_mul]
    omega
theorem cell_of {W : World} {b : Nat} {xs : Array Value} {T : TypeId} {i : Nat} {v : Value} (h : W.heap[b]? = some (.cells xs T (0, 0))) (hv : xs[i]? = some v) : W.cell? ⟨b, i, none⟩ = some v := by
  simp [World.cell?, h, hv]
theorem heap_new (W : World) (xs : Array Value) (T : TypeId) : (W.alloc (.cells xs T)).heap[W.heap.size]? = some (.cells xs T (0, 0)) := by
  show (W.heap.push (.cells xs T (0, 0)))[W.heap.size]? = _
  exact Array.getElem?_push_size
theorem lt_of_heap {W : World} {b : Nat} {o : Obj} (h : W.heap[b]? = some o) : b < W.heap.size := by
  rcases Nat.lt_or_ge b W.heap.size with h' | h'
  · exact h'
  · rw [Array.getElem?_eq_none h'] at h; cases h
end Go.Proofs.YtfgpfnhbcbhkfadGreat
/- The walk of ops.joined. -/
namespace Go.Proofs.YtfgpfnhbcbhkfadGreat
open Go.RowKit Go.Lib Go.Shelf

/-- What is handed on of two sets, with the room and its variable named. -/
def PairsIn (cols : List Int) (x : Ex) (w0 wp : World) (a b : Option Addr) (ca cb : Nat) (l r : List Zp) (v : Value) (R rv : Nat) : Prop :=
  ∃ (lo : Nat) (wc : World) (hv : Nat) (u : Value), v = .agg #[.slice a l.length ca, .slice b r.length cb, .func (.func 159) #[] #[.pointer (some ⟨rv, 0, none⟩), .pointer (some ⟨hv, 0, none⟩)]] ∧
    PNew wp R rv ∧ hv < R ∧ wp.cell? ⟨hv, 0, none⟩ = some u ∧ Conds cols lo u x wc ∧ wc.heap.size ≤ R ∧ Since lo wc wp ∧ w0.heap.size ≤ R ∧ Below w0.heap.size w0 wp
theorem PairsOk.in_ {cols : List Int} {x : Ex} {w0 wp : World} {a b : Option Addr} {ca cb : Nat} {l r : List Zp} {v : Value} (h : PairsOk cols x w0 wp a b ca cb l r v) : ∃ R rv, PairsIn cols x w0 wp a b ca cb l r v R rv ∧ PInv wp R rv wp := by
  obtain ⟨lo, wc, R, rv, hv, u, e, h1, h2, h3, h4, h5, h6, h7, h8, h9⟩ := h.ex
  exact ⟨R, rv, ⟨lo, wc, hv, u, e, h1, h2, h3, h4, h5, h6, h7, h8⟩, h9⟩
/-- All pairs of two sets may be asked. -/
structure Askable (cols : List Int) (l r : List Zp) : Prop where
  ll : l.length ≤ 400
  rl : r.length ≤ 400
  row : ∀ p ∈ l, ∀ q ∈ r, p.1.length + q.1.length ≤ 8
  fit : ∀ p ∈ l, ∀ q ∈ r, FitP cols (p.1 ++ q.1)
  mul : ∀ p ∈ l, ∀ q ∈ r, -1000000000000 ≤ p.2 * q.2 ∧ p.2 * q.2 ≤ 1000000000000

set_option maxRecDepth 100000 in
set_option maxHeartbeats 8000000 in
theorem joined_at (cols : List Int) (x : Ex) (w0 wp w : World) (a b : Option Addr) (ca cb : Nat) (l r : List Zp) (v : Value) (R rv : Nat) (hP : PairsIn cols x w0 wp a b ca cb l r v R rv) (hI : PInv wp R rv w) (za : ZsAt w0 a l) (zb : ZsAt w0 b r) (hq : Askable cols l r) :
    Calls Tryz.prog 46 #[v] w fun e w' => ∃ u, e = .returned u ∧ OwnJ (w.heap.size + 1) w' u (joinL x l r) ∧ PInv wp R rv w' ∧ w.heap.size ≤ w'.heap.size := by
  obtain ⟨lo, wc, hv, u, rfl, hn, hv0, hc, hC, hcR, hcp, h0, h0p⟩ := hP
  obtain ⟨i0, hi, hj0, hj1, hj2⟩ := info_parts Tryz.info42
  have hrv := hI.sz hn
  have hrr := hn.r
  have hl := hq.ll
  have hr := hq.rl
  have HQ : Hid (Askable cols l r) := hq
  have h1 : Below w.heap.size w (w.alloc (.cells #[.slice a l.length ca, .slice b r.length cb, .func (.func 159) #[] #[.pointer (some ⟨rv, 0, none⟩), .pointer (some ⟨hv, 0, none⟩)]] 79)) := (Below.refl _ _).alloc (Nat.le_refl _) _
  have p1 := heap_new w #[.slice a l.length ca, .slice b r.length cb, .func (.func 159) #[] #[.pointer (some ⟨rv, 0, none⟩), .pointer (some ⟨hv, 0, none⟩)]] 79
  have I1 : PInv wp R rv (w.alloc (.cells #[.slice a l.length ca, .slice b r.length cb, .func (.func 159) #[] #[.pointer (some ⟨rv, 0, none⟩), .pointer (some ⟨hv, 0, none⟩)]] 79)) := hI.later hn hI.size h1
  have z1 : (w.alloc (.cells #[.slice a l.length ca, .slice b r.length cb, .func (.func 159) #[] #[.pointer (some ⟨rv, 0, none⟩), .pointer (some ⟨hv, 0, none⟩)]] 79)).heap.size = w.heap.size + 1 := by simp
  clear hq
  go_enter Tryz.func46, Tryz.ntmps46
  go_wp2_with fail
  go_loopw [3, 11] (fun v i wr => ∃ k : Nat, k ≤ l.length ∧ i = .int .i64 k ∧ OwnJ (w.heap.size + 1) wr v (joinL x (l.take k) r) ∧ Hid (PInv wp R rv wr) ∧ wr.heap[w.heap.size]? = some (.cells #[.slice a l.length ca, .slice b r.length cb, .func (.func 159) #[] #[.pointer (some ⟨rv, 0, none⟩), .pointer (some ⟨hv, 0, none⟩)]] 79 (0, 0))) (fun _ i _ => l.length - (intOf i).toNat)
  case atStart => exact ⟨0, Nat.zero_le _, rfl, OwnJ.nil _ _, I1, p1⟩
  case round =>
    obtain ⟨k, hk, rfl, HO, HI, hp⟩ := hrel
    clear h1 p1 I1 z1
    by_cases hlt : k < l.length
    · obtain ⟨wl, hwl⟩ : ∃ z, z = wr := ⟨_, rfl⟩
      obtain ⟨uo, huo⟩ : ∃ z, z = u3 := ⟨_, rfl⟩
      subst hwl huo
      have hpl := lt_of_heap hp
      obtain ⟨bl, off, rfl, hbl, d1, ar, cr, d0, sr⟩ := za.elem hlt
      have hB : Below w0.heap.size w0 wl := h0p.trans ((HI.out.below hn).mono h0)
      have c1 := (hB.cell (p := ⟨bl, _, none⟩) hbl).trans d1
      have c0 := (hB.cell (p := ⟨bl, _, none⟩) hbl).trans d0
      have hbl' : bl < wl.heap.size := Nat.lt_of_lt_of_le hbl hB.size
      have hal : Below wl.heap.size wl (wl.alloc (.cells #[.slice ar l[k].1.length cr, .int .i64 l[k].2] 53)) := (Below.refl _ _).alloc (Nat.le_refl _) _
      have pa := (hal.block w.heap.size hpl).trans hp
      have q5 := heap_new wl #[.slice ar l[k].1.length cr, .int .i64 l[k].2] 53
      have x1 : (wl.alloc (.cells #[.slice ar l[k].1.length cr, .int .i64 l[k].2] 53)).cell? ⟨w.heap.size, 1, none⟩ = some (.slice b r.length cb) := cell_of (i := 1) pa rfl
      have IA : Hid (PInv wp R rv (wl.alloc (.cells #[.slice ar l[k].1.length cr, .int .i64 l[k].2] 53))) := HI.out.later hn HI.out.size hal
      have OA := HO.since (lo := 0) (Nat.zero_le _) (Since.of hal)
      have HS : Hid (SlAt w0 ar l[k].1) := sr
      have nb : ∀ g, uo.ownBlock = some g → g ≠ wl.heap.size := fun g hg => by have := (HO.lt hg).2; omega
      have HT : Hid (joinL x (l.take (k + 1)) r = joinL x (l.take k) r ++ pairsOf x l[k] r) := joinL_take x hlt
      have HL : Hid ((joinL x (l.take k) r).length ≤ 160000) := by
        show (joinL x (l.take k) r).length ≤ 160000
        have h1 := joinL_len x (l.take k) r
        have h2 : (l.take k).length * r.length ≤ 400 * 400 := Nat.mul_le_mul (by simp; omega) hr
        omega
      clear d0 d1 sr
      go_wp2_with fail
      go_loopw [3, 18] (fun v i ws => ∃ m : Nat, m ≤ r.length ∧ i = .int .i64 m ∧ OwnJ (w.heap.size + 1) ws v (joinL x (l.take k) r ++ pairsOf x l[k] (r.take m)) ∧ Hid (PInv wp R rv ws) ∧ ws.heap[w.heap.size]? = some (.cells #[.slice (some ⟨bl, off, none⟩) l.length ca, .slice b r.length cb, .func (.func 159) #[] #[.pointer (some ⟨rv, 0, none⟩), .pointer (some ⟨hv, 0, none⟩)]] 79 (0, 0)) ∧ ws.heap[wl.heap.size]? = some (.cells #[.slice ar l[k].1.length cr, .int .i64 l[k].2] 53 (0, 0)) ∧ Hid (∀ g, v.ownBlock = some g → g ≠ wl.heap.size)) (fun _ i _ => r.length - (intOf i).toNat)
      case atStart => exact ⟨0, Nat.zero_le _, rfl, by simpa [pairsOf] using OA, IA, pa, q5, nb⟩
      case round =>
        clear IA OA nb x1 pa q5 hal HO HI hp
        obtain ⟨m, hm, rfl, HO, HI, hp, hq5, hnb⟩ := hrel
        by_cases hmt : m < r.length
        · obtain ⟨bl2, off2, rfl, hbl2, d1, br, cr2, d0, sr⟩ := zb.elem hmt
          have hB : Below w0.heap.size w0 wr := h0p.trans ((HI.out.below hn).mono h0)
          have e1 := (hB.cell (p := ⟨bl2, _, none⟩) hbl2).trans d1
          have e0 := (hB.cell (p := ⟨bl2, _, none⟩) hbl2).trans d0
          have hlw : wl.heap.size < wr.heap.size := lt_of_heap hq5
          have hbl2' : bl2 < wr.heap.size := Nat.lt_of_lt_of_le hbl2 hB.size
          have hal : Below wr.heap.size wr (wr.alloc (.cells #[.slice br r[m].1.length cr2, .int .i64 r[m].2] 53)) := (Below.refl _ _).alloc (Nat.le_refl _) _
          have z7 : (wr.alloc (.cells #[.slice br r[m].1.length cr2, .int .i64 r[m].2] 53)).heap.size = wr.heap.size + 1 := by simp
          have pA := (hal.block w.heap.size (by omega)).trans hp
          have q5A := (hal.block wl.heap.size hlw).trans hq5
          have q7A := heap_new wr #[.slice br r[m].1.length cr2, .int .i64 r[m].2] 53
          have x2 : (wr.alloc (.cells #[.slice br r[m].1.length cr2, .int .i64 r[m].2] 53)).cell? ⟨w.heap.size, 2, none⟩ = some (.func (.func 159) #[] #[.pointer (some ⟨rv, 0, none⟩), .pointer (some ⟨hv, 0, none⟩)]) := cell_of (i := 2) pA rfl
          have y0 : (wr.alloc (.cells #[.slice br r[m].1.length cr2, .int .i64 r[m].2] 53)).cell? ⟨wl.heap.size, 0, none⟩ = some (.slice ar l[k].1.length cr) := cell_of (i := 0) q5A rfl
          have con := both1_at cols lo x wc wp w0 R rv hv u hn hv0 hc hC hcR hcp h0 h0p ar br cr cr2 l[k].1 r[m].1 _ (HI.out.later hn HI.out.size hal) HS.out sr (HQ.out.row _ (List.getElem_mem hlt) _ (List.getElem_mem hmt)) (HQ.out.fit _ (List.getElem_mem hlt) _ (List.getElem_mem hmt))
          have OA := HO.since (lo := 0) (Nat.zero_le _) (Since.of hal)
          have HM := HQ.out.mul _ (List.getElem_mem hlt) _ (List.getElem_mem hmt)
          have HR : Hid (SlAt w0 br r[m].1) := sr
          have HT2 : Hid (pairsOf x l[k] (r.take (m + 1)) = pairsOf x l[k] (r.take m) ++ (if holdsP x (l[k].1 ++ r[m].1) = true then [(l[k].1 ++ r[m].1, l[k].2 * r[m].2)] else [])) := pairsOf_take x l[k] hmt
          have hrow := HQ.out.row _ (List.getElem_mem hlt) _ (List.getElem_mem hmt)
          have hnb7 : Hid (∀ g, u3.ownBlock = some g → w.heap.size + 1 ≤ g ∧ g < wr.heap.size) := fun g hg => HO.lt hg
          have hlen : (joinL x (l.take k) r ++ pairsOf x l[k] (r.take m)).length ≤ 160400 := by
            have h1 := HL.out
            have h2 := pairsOf_len x l[k] (r.take m)
            simp only [List.length_append, List.length_take] at h2 ⊢
            omega
          clear HO d0 d1 sr hp hq5 HI hC c1 c0
          by_cases hh : holdsP x (l[k].1 ++ r[m].1) = true
          · rw [hh] at con
            have HH : Hid (holdsP x (l[k].1 ++ r[m].1) = true) := hh
            clear hh
            go_wp2_with fail
            refine con.mono ?_
            rintro e w1 ⟨rfl, I1, s1⟩
            have HI1 : Hid (PInv wp R rv w1) := I1
            have OB := OA.since (by omega) s1
            have pB := (s1.2 w.heap.size (by omega) (by omega)).trans pA
            have q5B := (s1.2 wl.heap.size (by omega) (by omega)).trans q5A
            have q7B := (s1.2 wr.heap.size (by omega) (by omega)).trans q7A
            have zB := s1.1
            clear con I1 s1 OA pA q5A q7A x2 y0 hal
            dsimp only
            go_wp2_with fail
            have hCC : ∀ W W' : World, (W.heap[wl.heap.size]? = some (.cells #[.slice ar l[k].1.length cr, .int .i64 l[k].2] 53 (0, 0)) ∧ W.heap[wr.heap.size]? = some (.cells #[.slice br r[m].1.length cr2, .int .i64 r[m].2] 53 (0, 0))) → Below W.heap.size W W' → (W'.heap[wl.heap.size]? = some (.cells #[.slice ar l[k].1.length cr, .int .i64 l[k].2] 53 (0, 0)) ∧ W'.heap[wr.heap.size]? = some (.cells #[.slice br r[m].1.length cr2, .int .i64 r[m].2] 53 (0, 0))) := fun W W' h hb => ⟨(hb.block _ (lt_of_heap h.1)).trans h.1, (hb.block _ (lt_of_heap h.2)).trans h.2⟩
            have hd : Below w1.heap.size w1 w1.drew := (Below.refl _ _).drew
            have CW : w1.drew.heap[wl.heap.size]? = some (.cells #[.slice ar l[k].1.length cr, .int .i64 l[k].2] 53 (0, 0)) ∧ w1.drew.heap[wr.heap.size]? = some (.cells #[.slice br r[m].1.length cr2, .int .i64 r[m].2] 53 (0, 0)) := hCC _ _ ⟨q5B, q7B⟩ hd
            have HW : IntKind.i64.wrap (l[k].2 * r[m].2) = l[k].2 * r[m].2 := IntWalk.i64_in _ ⟨by omega, by omega⟩
            refine wp_region_cls (fun W => W.heap[wl.heap.size]? = some (.cells #[.slice ar l[k].1.length cr, .int .i64 l[k].2] 53 (0, 0)) ∧ W.heap[wr.heap.size]? = some (.cells #[.slice br r[m].1.length cr2, .int .i64 r[m].2] 53 (0, 0))) (by kernel_rfl) ?_
            refine wpY_take hCC (some 29) (i := 0) (v := u3) rfl rfl (by kernel_rfl) (by kernel_rfl) (by kernel_rfl) (fun _ _ _ h => h) (Or.inl ⟨rfl, fun n hn => ?_⟩) CW ?_
            · go_simp
            simp only [Act.put, List.setIfInBounds_toArray, List.set_cons_zero, List.set_cons_succ]
            refine wpY_take hCC (some 30) (i := 1) (v := .pointer (some ⟨wl.heap.size, 0, none⟩)) rfl rfl (by kernel_rfl) (by kernel_rfl) (by kernel_rfl) (fun _ _ _ h => h) (Or.inl ⟨rfl, fun n hn => ?_⟩) CW ?_
            · go_simp
            simp only [Act.put, List.setIfInBounds_toArray, List.set_cons_zero, List.set_cons_succ]
            refine wpY_take hCC (some 31) (i := 2) (v := .slice ar l[k].1.length cr) rfl rfl (by kernel_rfl) (by kernel_rfl) (by kernel_rfl) (fun _ _ _ h => h) (Or.inl ⟨rfl, fun n hn => ?_⟩) CW ?_
            · have hcell : n.cell? ⟨wl.heap.size, 0, none⟩ = some (.slice ar l[k].1.length cr) := cell_of (i := 0) hn.1 rfl
              go_simp
            simp only [Act.put, List.setIfInBounds_toArray, List.set_cons_zero, List.set_cons_succ]
            refine wpY_take hCC (some 32) (i := 3) (v := .pointer (some ⟨wr.heap.size, 0, none⟩)) rfl rfl (by kernel_rfl) (by kernel_rfl) (by kernel_rfl) (fun _ _ _ h => h) (Or.inl ⟨rfl, fun n hn => ?_⟩) CW ?_
            · go_simp
            simp only [Act.put, List.setIfInBounds_toArray, List.set_cons_zero, List.set_cons_succ]
            refine wpY_take hCC (some 33) (i := 4) (v := .slice br r[m].1.length cr2) rfl rfl (by kernel_rfl) (by kernel_rfl) (by kernel_rfl) (fun _ _ _ h => h) (Or.inl ⟨rfl, fun n hn => ?_⟩) CW ?_
            · have hcell : n.cell? ⟨wr.heap.size, 0, none⟩ = some (.slice br r[m].1.length cr2) := cell_of (i := 0) hn.2 rfl
              go_simp
            simp only [Act.put, List.setIfInBounds_toArray, List.set_cons_zero, List.set_cons_succ]
            refine wpY_take hCC (some 36) (i := 7) (v := .pointer (some ⟨wl.heap.size, 1, none⟩)) rfl rfl (by kernel_rfl) (by kernel_rfl) (by kernel_rfl) (fun _ _ _ h => h) (Or.inl ⟨rfl, fun n hn => ?_⟩) CW ?_
            · go_simp
            simp only [Act.put, List.setIfInBounds_toArray, List.set_cons_zero, List.set_cons_succ]
            refine wpY_take hCC (some 37) (i := 8) (v := .int .i64 l[k].2) rfl rfl (by kernel_rfl) (by kernel_rfl) (by kernel_rfl) (fun _ _ _ h => h) (Or.inl ⟨rfl, fun n hn => ?_⟩) CW ?_
            · have hcell : n.cell? ⟨wl.heap.size, 1, none⟩ = some (.int .i64 l[k].2) := cell_of (i := 1) hn.1 rfl
              go_simp
            simp only [Act.put, List.setIfInBounds_toArray, List.set_cons_zero, List.set_cons_succ]
            refine wpY_take hCC (some 38) (i := 9) (v := .pointer (some ⟨wr.heap.size, 1, none⟩)) rfl rfl (by kernel_rfl) (by kernel_rfl) (by kernel_rfl) (fun _ _ _ h => h) (Or.inl ⟨rfl, fun n hn => ?_⟩) CW ?_
            · go_simp
            simp only [Act.put, List.setIfInBounds_toArray, List.set_cons_zero, List.set_cons_succ]
            refine wpY_take hCC (some 39) (i := 10) (v := .int .i64 r[m].2) rfl rfl (by kernel_rfl) (by kernel_rfl) (by kernel_rfl) (fun _ _ _ h => h) (Or.inl ⟨rfl, fun n hn => ?_⟩) CW ?_
            · have hcell : n.cell? ⟨wr.heap.size, 1, none⟩ = some (.int .i64 r[m].2) := cell_of (i := 1) hn.2 rfl
              go_simp
            simp only [Act.put, List.setIfInBounds_toArray, List.set_cons_zero, List.set_cons_succ]
            refine wpY_take hCC (some 40) (i := 11) (v := .int .i64 (l[k].2 * r[m].2)) rfl rfl (by kernel_rfl) (by kernel_rfl) (by kernel_rfl) (fun _ _ _ h => h) (Or.inl ⟨rfl, fun n hn => ?_⟩) CW ?_
            · go_simp
            simp only [Act.put, List.setIfInBounds_toArray, List.set_cons_zero, List.set_cons_succ]
            refine wpY_step (rs := [5]) (by kernel_rfl) (by simp) ?_
            intro w3 hb3 jj hj
            obtain rfl : jj = 5 := by simpa using hj
            clear hj
            refine wpOp_step rfl (fun K hK => ?_)
            go_simp
            have D3 := chain hd hb3
            have CW3 := hCC _ _ CW hb3
            have B3 : Below w0.heap.size w0 w3 := (h0p.trans ((HI1.out.below hn).mono h0)).trans (D3.mono (by have := HI1.out.size; have := h0p.size; omega))
            have hal3 : Below w3.heap.size w3 (w3.alloc (.cells #[.slice ar l[k].1.length cr, .slice br r[m].1.length cr2] 51)) := (Below.refl _ _).alloc (Nat.le_refl _) _
            have PC := PairC.new cr cr2 (raw_vals (HS.out.next B3)) (raw_vals (HR.out.next B3)) 51
            have D4 := chain D3 hal3
            have CW4 := hCC _ _ CW3 hal3
            refine hK _ _ ⟨CW4, ?_⟩
            clear hK K hal3 hb3 CW CW3
            generalize w3.alloc (.cells #[.slice ar l[k].1.length cr, .slice br r[m].1.length cr2] 51) = w4 at *
            refine wpY_step (rs := [6]) (by kernel_rfl) (by simp) ?_
            intro w5 hb5 jj hj
            obtain rfl : jj = 6 := by simpa using hj
            clear hj
            refine wpOp_step rfl (fun K hK => ?_)
            go_simp
            have D5 := chain D4 hb5
            have CW5 := hCC _ _ CW4 hb5
            refine (concatV_at _ _ _ _ _ w5 (PC.next hb5) (by omega)).mono ?_
            rintro e w6 ⟨v6, rfl, O6, hb6⟩
            rw [← flatV_append] at O6
            have ge6 : ∀ b o n c, v6 = .slice (some ⟨b, o, none⟩) n c → w.heap.size + 1 ≤ b := fun b o n c e => by
              subst e
              have := (O6.lt b rfl).1
              have := D5.size
              omega
            obtain ⟨a6, c6, rfl, S6, T6, _⟩ := own_vals O6 (by simp)
            have D6 := chain D5 hb6
            have CW6 := hCC _ _ CW5 hb6
            refine hK _ _ ⟨CW6, ?_⟩
            clear hK K PC O6 CW4 CW5
            refine wpY_take hCC (some 41) (i := 12) (v := .agg #[.slice a6 (l[k].1 ++ r[m].1).length c6, .int .i64 (l[k].2 * r[m].2)]) rfl rfl (by kernel_rfl) (by kernel_rfl) (by kernel_rfl) (fun _ _ _ h => h) (Or.inl ⟨rfl, fun n hn => ?_⟩) CW6 ?_
            · go_simp
            simp only [Act.put, List.setIfInBounds_toArray, List.set_cons_zero, List.set_cons_succ]
            refine wpY_step (rs := [13]) (by kernel_rfl) (by simp) ?_
            intro w7 hb7 jj hj
            obtain rfl : jj = 13 := by simpa using hj
            clear hj
            refine wpOp_step rfl (fun K hK => ?_)
            go_simp
            have D7 := chain D6 hb7
            have CW7 := hCC _ _ CW6 hb7
            have hal7 : Below w7.heap.size w7 (w7.alloc (.cells #[.slice a6 (l[k].1.length + r[m].1.length) c6, .int .i64 (l[k].2 * r[m].2)] 53)) := (Below.refl _ _).alloc (Nat.le_refl _) _
            have q8 := heap_new w7 #[.slice a6 (l[k].1.length + r[m].1.length) c6, .int .i64 (l[k].2 * r[m].2)] 53
            have D8 := chain D7 hal7
            have CW8 := hCC _ _ CW7 hal7
            have S8 := (S6.next hb7).next hal7
            have T8 := (T6.next hb7).next hal7
            refine hK _ _ ⟨CW8, ?_⟩
            clear hK K CW6 CW7 S6 T6
            generalize hw8 : w7.alloc (.cells #[.slice a6 (l[k].1.length + r[m].1.length) c6, .int .i64 (l[k].2 * r[m].2)] 53) = w8 at *
            clear hw8
            refine wpY_step (rs := [14]) (by kernel_rfl) (by simp) ?_
            intro w9 hb9 jj hj
            obtain rfl : jj = 14 := by simpa using hj
            clear hj
            have D9 := chain D8 hb9
            have CW9 := hCC _ _ CW8 hb9
            have S9 := S8.next hb9
            have T9 := T8.next hb9
            have q9 := (hb9.block _ (lt_of_heap q8)).trans q8
            obtain ⟨xs, o9, en9, bb9⟩ := OB.since (lo := 0) (Nat.zero_le _) (Since.of D9)
            have zz := D9.size
            refine wpOp_step rfl (fun K hK => ?_)
            refine Eq.mpr (if_pos (by kernel_rfl)) ?_
            refine wp_append_at (some 43) rfl (Operand.tmp 29) (Operand.tmp 42) 28 rfl (w.heap.size + 1) 53 i0 _ 2 32 Tryz.underlying28 hi hj0 hj1 hj2 rfl (by decide) u3 _ xs rfl o9 ⟨w7.heap.size, 0, none⟩ 1 1 [.slice a6 (l[k].1.length + r[m].1.length) c6, .int .i64 (l[k].2 * r[m].2)] rfl rfl ?Ac1 ?Ac2 ?Ac3 ?Ac4 ?Ac5 ?_
            case Ac1 =>
              intro j u hj
              match j, hj with
              | 0, hj => simp at hj; subst hj; exact cell_of (i := 0) q9 rfl
              | 1, hj => simp at hj; subst hj; exact cell_of (i := 1) q9 rfl
            case Ac2 => intro u hu; simp at hu; rcases hu with rfl | rfl <;> rfl
            case Ac3 => unfold maxLen; omega
            case Ac4 => omega
            case Ac5 => omega
            intro v' w10 o10 g10 at10
            have CW10 : w10.heap[wl.heap.size]? = some (.cells #[.slice ar l[k].1.length cr, .int .i64 l[k].2] 53 (0, 0)) ∧ w10.heap[wr.heap.size]? = some (.cells #[.slice br r[m].1.length cr2, .int .i64 r[m].2] 53 (0, 0)) := ⟨(g10.block _ (lt_of_heap CW9.1) (fun e => hnb.out _ e.symm rfl)).trans CW9.1, (g10.block _ (lt_of_heap CW9.2) (fun e => by have := (hnb7.out _ e.symm).2; omega)).trans CW9.2⟩
            have p10 := (g10.block w.heap.size (by omega) (fun e => by have := (hnb7.out _ e.symm).1; omega)).trans ((D9.block w.heap.size (by omega)).trans pB)
            have OJ10 : OwnJ (w.heap.size + 1) w10 v' ((joinL x (l.take k) r ++ pairsOf x l[k] (r.take m)) ++ [(l[k].1 ++ r[m].1, l[k].2 * r[m].2)]) := OwnJ.push o9 en9 bb9 S9 T9 (fun b o e => ge6 b o _ _ (by rw [e])) (by simpa using o10) g10
            have b10 : Below wp.heap.size w9 w10 := (Below.refl _ _).grown g10 (by have := HI1.out.size; omega) (fun q hq => by have := (hnb7.out q hq).1; have := hI.size; omega)
            have I10 : PInv wp R rv w10 := (HI1.out.later hn HI1.out.size D9).later hn (Nat.le_refl _) b10
            have nb10 : ∀ g, v'.ownBlock = some g → g ≠ wl.heap.size := fun g hg => by
              rcases at10 with e | e
              · exact hnb.out g (by rw [← e]; exact hg)
              · rw [hg] at e; have := Option.some.inj e; omega
            refine hK _ _ ⟨CW10, ?_⟩
            clear hK K CW9 CW8 S9 T9 S8 T8 o9 en9 bb9 o10 at10 D9 D8 D7 D6 D5 D4 D3 q8 q9 OB
            simp only [Act.put, List.setIfInBounds_toArray, List.set_cons_zero, List.set_cons_succ]
            refine wpY_take hCC (some 3) (i := 15) (v := v') rfl rfl (by kernel_rfl) (by kernel_rfl) (by kernel_rfl) (fun _ _ _ h => h) (Or.inl ⟨rfl, fun n hn => ?_⟩) CW10 ?_
            · go_simp
            simp only [Act.put, List.setIfInBounds_toArray, List.set_cons_zero, List.set_cons_succ]
            refine wpY_done (by kernel_rfl) ?_
            intro w11 hb11
            have OJ11 := OJ10.since (lo := 0) (Nat.zero_le _) (Since.of hb11)
            have I11 : Hid (PInv wp R rv w11) := I10.later hn I10.size hb11
            have CW11 := hCC _ _ CW10 hb11
            have p11 := (hb11.block _ (lt_of_heap p10)).trans p10
            have nb11 : Hid (∀ g, v'.ownBlock = some g → g ≠ wl.heap.size) := nb10
            clear I10 OJ10 CW10 p10 hb11 g10 b10 nb10
            go_wp2_with fail
            go_roundw
            case rel => exact ⟨m + 1, by omega, by go_num, by rw [HT2.out, HH.out, if_pos rfl, ← List.append_assoc]; exact OJ11, I11, p11, CW11.1, nb11⟩
            case measure => simp [intOf]; omega
          · have hh : holdsP x (l[k].1 ++ r[m].1) = false := by simpa using hh
            rw [hh] at con
            have HH : Hid (holdsP x (l[k].1 ++ r[m].1) = false) := hh
            clear hh
            go_wp2_with fail
            refine con.mono ?_
            rintro e w1 ⟨rfl, I1, s1⟩
            have HI1 : Hid (PInv wp R rv w1) := I1
            have OB := OA.since (by omega) s1
            have pB := (s1.2 w.heap.size (by omega) (by omega)).trans pA
            have q5B := (s1.2 wl.heap.size (by omega) (by omega)).trans q5A
            clear con I1 s1 OA pA q5A q7A x2 y0 hal
            dsimp only
            go_wp2_with fail
            go_roundw
            case rel => exact ⟨m + 1, by omega, by go_num, by rw [HT2.out, HH.out, if_neg (by decide), List.append_nil]; exact OB, HI1, pB, q5B, hnb⟩
            case measure => simp [intOf]; omega
        · have e : m = r.length := by omega
          subst e
          rw [List.take_length] at HO
          have HO' : OwnJ (w.heap.size + 1) wr u3 (joinL x (l.take (k + 1)) r) := by rw [HT.out]; exact HO
          go_wp2_with fail
          go_roundw
          case rel => exact ⟨k + 1, by omega, by go_num, HO', HI, hp⟩
          case measure => simp [intOf]; omega
    · have e : k = l.length := by omega
      subst e
      rw [List.take_length] at HO
      obtain ⟨av, cv, rfl⟩ := HO.slice
      go_wp2_with fail
      go_ret
      exact ⟨_, rfl, HO, HI.out, Nat.le_of_lt (lt_of_heap hp)⟩
end Go.Proofs.YtfgpfnhbcbhkfadGreat
