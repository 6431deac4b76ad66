/- Opening arguments: numbers, values, expressions. -/
import Derived.Test.YtbdhmjojamoafaaY4
import Derived.Deep.Slices
import Derived.Deep.Strs
import Derived.ProofKit
import Derived.OpenShut
import Derived.ChangeOld
import Derived.Lib.SmallJoins
namespace Go.Proofs.Ytbdhmjojamoafaa
open Go.ChangeShapes Go.WideShapes Go.ChangeAt Go.RowKit Go.Joins

theorem addr_add (b off i : Nat) : (⟨b, off, none⟩ : Addr).add i = ⟨b, off + i, none⟩ := by
  unfold Addr.add
  by_cases h : i = 0 <;> simp [h]
theorem q3 : Try.prog.cellsOf 3 = 1 := by kernel_rfl
theorem q2 : Try.prog.cellsOf 2 = 1 := by kernel_rfl
theorem q9 : Try.prog.cellsOf 9 = 1 := by kernel_rfl
theorem q24 : Try.prog.cellsOf 24 = 3 := by kernel_rfl
theorem q25 : Try.prog.cellsOf 25 = 1 := by kernel_rfl
theorem q27 : Try.prog.cellsOf 27 = 6 := by kernel_rfl
theorem open_valT {H : Type} {enc : TypeId × Value → H} {W : World} {base : Nat} {sp : Nat → Bool} {hd : Bool} {fuel : Nat} {cs : List Value} {x : DataW H × List MemPlace}
    (h : DataW.trod enc Try.prog W base sp hd fuel 24 cs = some x) : ∃ v : Vl, cs = [.int .i64 v.1, .int .i64 v.2.1, .string v.2.2] := by
  obtain ⟨y0, y1, y2, m, _, hlen, h0, h1, h2⟩ := Go.Deep.trod_struct3 Try.underlying24 h
  rw [q24] at hlen
  match cs, hlen with
  | [c0, c1, c2], _ =>
    simp only [q3, q2, q9] at h0 h1 h2
    obtain ⟨k, e0, _, _⟩ := DataW.trod_int Try.underlying3 h0
    obtain ⟨n, e1, _, _⟩ := DataW.trod_int Try.underlying2 h1
    obtain ⟨s, e2, _, _⟩ := DataW.trod_string Try.underlying9 h2
    simp at e0 e1 e2
    subst e0 e1 e2
    exact ⟨(k, n, s), rfl⟩
theorem open_row {H : Type} {enc : TypeId × Value → H} {W : World} {base : Nat} {sp : Nat → Bool} {hd : Bool} {fuel : Nat} {cs : List Value} {x : DataW H × List MemPlace} {a : Addr}
    (hc : W.cells? base a 3 = some cs) (h : DataW.trod enc Try.prog W base sp hd fuel 24 cs = some x) :
    ∃ v : Vl, W.cell? (a.add 0) = some (.int .i64 v.1) ∧ W.cell? (a.add 1) = some (.int .i64 v.2.1) ∧ W.cell? (a.add 2) = some (.string v.2.2) := by
  obtain ⟨_, hlen, hcell⟩ := World.cells?_some hc
  obtain ⟨v, rfl⟩ := open_valT h
  exact ⟨v, hcell 0 (by simp), hcell 1 (by simp), hcell 2 (by simp)⟩
theorem open_vals {H : Type} {enc : TypeId × Value → H} {W : World} {r : Reach} {b0 : Nat} {v : Value} {d : DataW H} {p : List MemPlace}
    (hv : Value.okWide Try.prog W r b0 28 v) (h : DataW.Trod enc Try.prog W 0 (fun _ => true) true 28 v d p) : ∃ (a : Option Addr) (cap : Nat) (l : List Vl), v = .slice a l.length cap ∧ SlAt W a l ∧ (a = none → cap = 0) := by
  obtain ⟨a0, len, cap, rfl⟩ := okWide_slice Try.underlying28 hv
  obtain ⟨fuel, hf⟩ := h
  rcases Go.Deep.open_slice Try.underlying28 hf with ⟨hcs, _⟩ | ⟨a, len', cap', m, n, D, Pl, hcs, _, hl, hm, hmm, _, hx⟩
  · simp [Value.cells] at hcs
    obtain ⟨rfl, rfl, rfl⟩ := hcs
    exact ⟨none, 0, [], rfl, ⟨by simp, .inl rfl⟩, fun _ => rfl⟩
  · simp [Value.cells] at hcs
    obtain ⟨rfl, rfl, rfl⟩ := hcs
    rw [q24] at hx
    simp only [if_true] at hmm
    obtain ⟨f, hf'⟩ := Go.Deep.choose_lt (α := Vl) (n := len) (p := fun i (v : Vl) => W.cell? ((a.add (i * 3)).add 0) = some (.int .i64 v.1) ∧ W.cell? ((a.add (i * 3)).add 1) = some (.int .i64 v.2.1) ∧ W.cell? ((a.add (i * 3)).add 2) = some (.string v.2.2)) (fun i hi => by
      obtain ⟨cs', h1, h2⟩ := hx i (by omega)
      exact open_row h1 h2)
    refine ⟨some a, cap, (List.range len).map f, by simp, ⟨?_, ?_⟩, fun e => by cases e⟩
    · simp; omega
    by_cases h0 : len = 0
    · left; simp [h0]
    · right
      obtain ⟨b, off, spot⟩ := a
      have hc := (hf' 0 (by omega)).1
      have hspot : spot = none := by simpa [Addr.add] using World.cell?_spot hc
      subst hspot
      refine ⟨b, off, rfl, fun i hi => ?_, ?_⟩
      · have hi' : i < len := by simpa using hi
        have := hf' i hi'
        simp only [addr_add] at this
        simp only [List.getElem_map, List.getElem_range]
        exact this
      · exact World.block_lt_of_cell? W _ (by simpa [Addr.add] using hc)
theorem open_ints {H : Type} {enc : TypeId × Value → H} {W : World} {r : Reach} {b0 : Nat} {v : Value} {d : DataW H} {p : List MemPlace}
    (hv : Value.okWide Try.prog W r b0 22 v) (h : DataW.Trod enc Try.prog W 0 (fun _ => true) true 22 v d p) : ∃ (a : Option Addr) (cap : Nat) (l : List Int), v = .slice a l.length cap ∧ IsAt W.heap.size W a l := by
  obtain ⟨a0, len, cap, rfl⟩ := okWide_slice Try.underlying22 hv
  obtain ⟨fuel, hf⟩ := h
  rcases Go.Deep.open_slice1 Try.underlying22 q3 hf with ⟨hcs, _⟩ | ⟨a, len', cap', m, n, V, D, Pl, hcs, _, hl, hm, hmm, _, hx⟩
  · simp [Value.cells] at hcs
    obtain ⟨rfl, rfl, rfl⟩ := hcs
    exact ⟨none, 0, [], rfl, by simp, .inl rfl⟩
  · simp [Value.cells] at hcs
    obtain ⟨rfl, rfl, rfl⟩ := hcs
    simp only [if_true] at hmm
    obtain ⟨f, hf'⟩ := Go.Deep.choose_lt (α := Int) (n := len) (p := fun i (k : Int) => W.cell? (a.add i) = some (.int .i64 k)) (fun i hi => by
      obtain ⟨h1, h2⟩ := hx i (by omega)
      obtain ⟨k, e0, _, _⟩ := DataW.trod_int Try.underlying3 h2
      simp at e0
      exact ⟨k, by rw [h1, e0]⟩)
    refine ⟨some a, cap, (List.range len).map f, by simp, ?_, ?_⟩
    · simp; omega
    by_cases h0 : len = 0
    · left; simp [h0]
    · right
      obtain ⟨b, off, spot⟩ := a
      have hc := hf' 0 (by omega)
      have hspot : spot = none := by simpa [Addr.add] using World.cell?_spot hc
      subst hspot
      refine ⟨b, off, rfl, World.block_lt_of_cell? W _ (by simpa [Addr.add] using hc), fun i hi => ?_⟩
      have hi' : i < len := by simpa using hi
      have := hf' i hi'
      simp only [addr_add] at this
      simp only [List.getElem_map, List.getElem_range]
      exact this
theorem open_val {H : Type} {enc : TypeId × Value → H} {W : World} {base : Nat} {sp : Nat → Bool} {hd : Bool} {r : Reach} {b0 : Nat} {v : Value} {d : DataW H} {p : List MemPlace}
    (hv : Value.okWide Try.prog W r b0 24 v) (h : DataW.Trod enc Try.prog W base sp hd 24 v d p) : ∃ u : Vl, v = agV u := by
  obtain ⟨cs, rfl, _⟩ := okWide_struct Try.underlying24 hv
  obtain ⟨fuel, hf⟩ := h
  obtain ⟨u, e⟩ := open_valT hf
  refine ⟨u, ?_⟩
  have e' : cs.toList = [.int .i64 u.1, .int .i64 u.2.1, .string u.2.2] := by simpa [Value.cells] using e
  exact congrArg Value.agg (Array.toList_inj.mp e')

instance : Inhabited Ex := ⟨.mk 0 (0, 0, ⟨#[]⟩) 0 []⟩
/-- The kids' opening, at less fuel. -/
def KidsOpen {H : Type} (enc : TypeId × Value → H) (W : World) (hd : Bool) (m : Nat) : Prop :=
  ∀ cs x, DataW.trod enc Try.prog W 0 (fun _ => true) hd m 25 cs = some x → ∃ (a : Option Addr) (cap : Nat) (l : List Ex), cs = [.slice a l.length cap] ∧ KsAt W.heap.size W a l
theorem open_exprT {H : Type} {enc : TypeId × Value → H} {W : World} {hd : Bool} {fuel : Nat} (ih : ∀ m, m < fuel → KidsOpen enc W hd m) {cs : List Value} {x : DataW H × List MemPlace}
    (h : DataW.trod enc Try.prog W 0 (fun _ => true) hd fuel 27 cs = some x) :
    ∃ (e : Ex) (a : Option Addr) (cap : Nat), cs = [.int .i64 e.k, .int .i64 e.v.1, .int .i64 e.v.2.1, .string e.v.2.2, .int .i64 e.c, .slice a e.ks.length cap] ∧ KsAt W.heap.size W a e.ks := by
  obtain ⟨xs, n, hn, _, hl, hlen, hf⟩ := DataW.trod_struct Try.underlying27 h
  rw [q27] at hl
  match xs, hlen with
  | [y0, y1, y2, y3], _ =>
    have h0 := hf 0 _ rfl
    have h1 := hf 1 _ rfl
    have h2 := hf 2 _ rfl
    have h3 := hf 3 _ rfl
    match cs, hl with
    | [c0, c1, c2, c3, c4, c5], _ =>
      simp [q3, q24, q25] at h0 h1 h2 h3
      obtain ⟨k, e0, _, _⟩ := DataW.trod_int Try.underlying3 h0
      obtain ⟨v, e1⟩ := open_valT h1
      obtain ⟨c, e2, _, _⟩ := DataW.trod_int Try.underlying3 h2
      obtain ⟨a, cap, l, e3, hk⟩ := ih n (by omega) _ _ h3
      simp at e0 e1 e2 e3
      obtain ⟨r1, r2, r3⟩ := e1
      subst e0 r1 r2 r3 e2 e3
      exact ⟨.mk k v c l, a, cap, rfl, hk⟩
theorem kidsOpen {H : Type} (enc : TypeId × Value → H) (W : World) (hd : Bool) (fuel : Nat) : KidsOpen enc W hd fuel := by
  induction fuel using Nat.strongRecOn with
  | ind fuel ih =>
    intro cs x h
    rcases DataW.trod_slice Try.underlying25 h with ⟨hcs, _⟩ | ⟨a, len, cap, elems, rest, n, hn, hcs, _, _, _, _, hlen, hel, _, _⟩
    · exact ⟨none, 0, [], hcs, .nil _⟩
    · rw [q27] at hel
      obtain ⟨f, hf⟩ := Go.Deep.choose_lt (α := Ex × Option Addr × Nat) (n := len) (p := fun i (y : Ex × Option Addr × Nat) =>
          (W.cell? ((a.add (i * 6)).add 0) = some (.int .i64 y.1.k) ∧ W.cell? ((a.add (i * 6)).add 1) = some (.int .i64 y.1.v.1) ∧ W.cell? ((a.add (i * 6)).add 2) = some (.int .i64 y.1.v.2.1) ∧ W.cell? ((a.add (i * 6)).add 3) = some (.string y.1.v.2.2) ∧
            W.cell? ((a.add (i * 6)).add 4) = some (.int .i64 y.1.c) ∧ W.cell? ((a.add (i * 6)).add 5) = some (.slice y.2.1 y.1.ks.length y.2.2)) ∧ KsAt W.heap.size W y.2.1 y.1.ks) (fun i hi => by
        have key := hel i hi
        rw [List.getElem?_eq_getElem (by omega)] at key
        obtain ⟨cs', h1, h2⟩ := Option.bind_eq_some_iff.1 key
        obtain ⟨_, hl6, hcell⟩ := World.cells?_some h1
        obtain ⟨e, ai, ci, rfl, hk⟩ := open_exprT (fun m hm => ih m (by omega)) h2
        exact ⟨(e, ai, ci), ⟨hcell 0 (by simp), hcell 1 (by simp), hcell 2 (by simp), hcell 3 (by simp), hcell 4 (by simp), hcell 5 (by simp)⟩, hk⟩)
      refine ⟨some a, cap, (List.range len).map fun i => (f i).1, by simpa using hcs, ?_⟩
      by_cases h0 : len = 0
      · subst h0; exact .nil _
      · obtain ⟨b, off, spot⟩ := a
        have hc := (hf 0 (by omega)).1.1
        have hspot : spot = none := by simpa [Addr.add] using World.cell?_spot hc
        subst hspot
        refine .some b off _ (fun i => (f i).2.1) (fun i => (f i).2.2) (World.block_lt_of_cell? W _ (by simpa [Addr.add] using hc)) (fun i hi => ?_) (fun i hi => ?_)
        · have hi' : i < len := by simpa using hi
          have := (hf i hi').1
          simp only [addr_add] at this
          simp only [List.getElem_map, List.getElem_range]
          exact ⟨this.1, this.2.1, this.2.2.1, this.2.2.2.1, this.2.2.2.2.1, this.2.2.2.2.2⟩
        · have hi' : i < len := by simpa using hi
          simp only [List.getElem_map, List.getElem_range]
          exact (hf i hi').2
theorem open_expr {H : Type} {enc : TypeId × Value → H} {W : World} {r : Reach} {b0 : Nat} {v : Value} {d : DataW H} {p : List MemPlace}
    (hv : Value.okWide Try.prog W r b0 27 v) (h : DataW.Trod enc Try.prog W 0 (fun _ => true) true 27 v d p) : ∃ (e : Ex) (a : Option Addr) (cap : Nat), v = exV e.k e.v e.c a e.ks.length cap ∧ KsAt W.heap.size W a e.ks := by
  obtain ⟨cs, rfl, _⟩ := okWide_struct Try.underlying27 hv
  obtain ⟨fuel, hf⟩ := h
  obtain ⟨e, a, cap, he, hk⟩ := open_exprT (fun m _ => kidsOpen enc W true m) hf
  refine ⟨e, a, cap, ?_, hk⟩
  have e' : cs.toList = [.int .i64 e.k, .int .i64 e.v.1, .int .i64 e.v.2.1, .string e.v.2.2, .int .i64 e.c, .slice a e.ks.length cap] := by simpa [Value.cells] using he
  exact congrArg Value.agg (Array.toList_inj.mp e')
end Go.Proofs.Ytbdhmjojamoafaa
