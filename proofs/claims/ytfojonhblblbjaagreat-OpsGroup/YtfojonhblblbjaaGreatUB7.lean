/- Together: J4, K7, ZF, ZG, Q2, K8, J5, Ext2, J7. -/
import Derived.Laws.EntriesVeiled
import Derived.OrdersHeld
import Derived.RegionTactic
import Derived.Maps.AppendAt
import Derived.Test.YtfojonhblblbjaaGreatUB6
import Derived.Test.YtfojonhblblbjaaGreatUB1
/- Pairs: two sets, and whether rows of them hold with each other; all pairs are laid into one room. -/
namespace Go.Proofs.YtfojonhblblbjaaGreat
open Go.RowKit Go.Lib Go.Shelf

/-- What all that asks of pairs leaves as it was: all but the room R and the variable rv that leads to it. -/
structure PInv (wp : World) (R rv : Nat) (W : World) : Prop where
 os : W.os = wp.os
 tape : W.tape = wp.tape
 output : W.output = wp.output
 size : wp.heap.size ≤ W.heap.size
 block : ∀ k, k < wp.heap.size → k ≠ R → k ≠ rv → W.heap[k]? = wp.heap[k]?
 var : ∃ n, W.cell? ⟨rv, 0, none⟩ = some (.slice (some ⟨R, 0, none⟩) n 8)
 warm : W.frozen? ⟨rv, 0, none⟩ = false
 room : ∃ cur, W.heap[R]? = some (.cells cur 24 (0, 0)) ∧ cur.size = 24
/-- The room and its variable are the newest. -/
structure PNew (wp : World) (R rv : Nat) : Prop where
 r : R < rv
 v : rv < wp.heap.size
theorem PInv.below {wp W : World} {R rv : Nat} (h : PInv wp R rv W) (hn : PNew wp R rv) : Below R wp W :=
 ⟨h.os, h.tape, h.output, h.size, fun k hk => h.block k (by have := hn.r; have := hn.v; omega) (by omega) (by have := hn.r; omega)⟩
theorem PInv.later {wp W W' : World} {R rv : Nat} (h : PInv wp R rv W) (hn : PNew wp R rv) {B : Nat} (hB : wp.heap.size ≤ B) (hb : Below B W W') : PInv wp R rv W' := by
 have hr := hn.r
 have hv := hn.v
 obtain ⟨n, hc⟩ := h.var
 obtain ⟨cur, hh, hs⟩ := h.room
 refine ⟨hb.os.trans h.os, hb.tape.trans h.tape, hb.output.trans h.output, Nat.le_trans h.size hb.size, fun k hk h1 h2 => (hb.block k (by omega)).trans (h.block k hk h1 h2), ⟨n, (hb.cell (p := ⟨rv, 0, none⟩) (by show rv < B; omega)).trans hc⟩, (hb.frozen (p := ⟨rv, 0, none⟩) (by show rv < B; omega)).trans h.warm, cur, (hb.block R (by omega)).trans hh, hs⟩
theorem PInv.sz {wp W : World} {R rv : Nat} (h : PInv wp R rv W) (hn : PNew wp R rv) : rv < W.heap.size := Nat.lt_of_lt_of_le hn.v h.size

end Go.Proofs.YtfojonhblblbjaaGreat
/- The walk of ops.Filter. -/
namespace Go.Proofs.YtfojonhblblbjaaGreat
open Go.RowKit Go.Lib Go.Shelf

theorem set_in {cols : List Int} {z : List Zp} (h : InpOk cols z) : ∀ x ∈ z, inW x.2 = true := fun x hx => (((wrongZ_iff z).1 h.set).2.1 x hx).2.2
theorem set_len {cols : List Int} {z : List Zp} (h : InpOk cols z) : z.length ≤ 400 := ((wrongZ_iff z).1 h.set).1

end Go.Proofs.YtfojonhblblbjaaGreat
/- The walk of slices.Concat at two slices of rows. -/
namespace Go.Proofs.YtfojonhblblbjaaGreat
open Go.RowKit Go.Lib Go.Shelf

/-- What has been laid behind each other so far. -/
def catTo (l l' : List Zp) : Nat → List Zp
 | 0 => []
 | 1 => l
 | _ => l ++ l'
structure Pair (w : World) (B : Nat) (l l' : List Zp) : Prop where
 lt : B < w.heap.size
 at_ : ∀ k, k < 2 → ∃ a cap ls, w.cell? ⟨B, k, none⟩ = some (.slice a ls.length cap) ∧ ZsAt w a ls ∧ (a = none → cap = 0) ∧ catTo l l' (k + 1) = catTo l l' k ++ ls
theorem Pair.next {w w1 : World} {B : Nat} {l l' : List Zp} (h : Pair w B l l') (hb : Below w.heap.size w w1) : Pair w1 B l l' :=
 ⟨Nat.lt_of_lt_of_le h.lt hb.size, fun k hk => by
  obtain ⟨a, cap, ls, h1, h2, h3, h4⟩ := h.at_ k hk
  exact ⟨a, cap, ls, (hb.cell (p := ⟨B, k, none⟩) h.lt).trans h1, h2.next hb, h3, h4⟩⟩
end Go.Proofs.YtfojonhblblbjaaGreat
/- The walks of zsets.withTimes, zsets.Add and zsets.Sub. -/
namespace Go.Proofs.YtfojonhblblbjaaGreat
open Go.RowKit Go.Lib Go.Shelf

theorem OwnZ.zs2 {base : Nat} {W : World} {v : Value} {l : List Zp} (h : OwnZ base W v l) : ∃ a cap, v = .slice a l.length cap ∧ ZsAt W a l ∧ (a = none → cap = 0) := by
 obtain ⟨a, cap, rfl, z⟩ := h.zs
 refine ⟨a, cap, rfl, z, ?_⟩
 intro e
 subst e
 obtain ⟨xs, ⟨_, ⟨e4, _⟩ | ⟨g, c1, cur, e4, _⟩⟩, _⟩ := h
 ·injection e4
 ·injection e4 with e4; cases e4

end Go.Proofs.YtfojonhblblbjaaGreat
/- Sums of filters, maps and pairs, plainly. No program in sight. -/
namespace Go.Proofs.YtfojonhblblbjaaGreat

structure TwoOk (l r : List Int) (x : Ex) (a b : List Zp) : Prop where
 len : l.length + r.length ≤ 8
 cond : condE (l ++ r) x = 0
 left : InpOk l a
 right : InpOk r b
end Go.Proofs.YtfojonhblblbjaaGreat
/- The walk of ops.Map. -/
namespace Go.Proofs.YtfojonhblblbjaaGreat
open Go.RowKit Go.Lib Go.Shelf

/-- Rows with weights in a slice of one's own that was made at once: k of them are there. -/
def MTo (W : World) (B n : Nat) (f : Nat → Zp) (k : Nat) : Prop := ∃ xs, W.ownsRow B 53 2 (.slice (some ⟨B, 0, none⟩) n n) n xs ∧ ∀ j : Nat, j < n → j < k → ∃ a cap, xs[j * 2]? = some (.slice a (f j).1.length cap) ∧ xs[j * 2 + 1]? = some (.int .i64 (f j).2) ∧ SlAt W a (f j).1 ∧ TyAt W a
theorem MTo.next {W w1 : World} {B n : Nat} {f : Nat → Zp} {k : Nat} (h : MTo W B n f k) (hb : Below W.heap.size W w1) : MTo w1 B n f k := by
 obtain ⟨xs, h1, h2⟩ := h
 refine ⟨xs, own_next h1 hb, fun j hj hk => ?_⟩
 obtain ⟨a, cap, e0, e1, e2, e3⟩ := h2 j hj hk
 exact ⟨a, cap, e0, e1, e2.next hb, e3.next hb⟩
theorem MTo.step {W : World} {B n : Nat} {f : Nat → Zp} {k : Nat} (h : MTo W B n f k) (hk : k < n) {a : Option Addr} {cap : Nat} (hs : SlAt W a (f k).1) (ht : TyAt W a) :
  MTo ((W.setCell ⟨B, k * 2, none⟩ (.slice a (f k).1.length cap)).setCell ⟨B, k * 2 + 1, none⟩ (.int .i64 (f k).2)) B n f (k + 1) := by
 obtain ⟨xs, h1, h2⟩ := h
 have lx := h1.1
 obtain ⟨o1, g1⟩ := h1.stored (k * 2) (.slice a (f k).1.length cap)
 obtain ⟨o2, g2⟩ := o1.stored (k * 2 + 1) (.int .i64 (f k).2)
 have go : ∀ {b : Option Addr} {r : List Vl}, SlAt W b r → TyAt W b → SlAt ((W.setCell ⟨B, k * 2, none⟩ (.slice a (f k).1.length cap)).setCell ⟨B, k * 2 + 1, none⟩ (.int .i64 (f k).2)) b r ∧ TyAt ((W.setCell ⟨B, k * 2, none⟩ (.slice a (f k).1.length cap)).setCell ⟨B, k * 2 + 1, none⟩ (.int .i64 (f k).2)) b := fun hs ht => by
  obtain ⟨s1, t1⟩ := sl_grown hs ht h1 g1
  exact sl_grown s1 t1 o1 g2
 refine ⟨_, o2, ?_⟩
 intro j hj hjk
 by_cases e : j = k
 ·subst e
  refine ⟨a, cap, ?_, ?_, (go hs ht).1, (go hs ht).2⟩
  ·rw [List.getElem?_set_ne (by omega)]; simp [List.getElem?_set, lx]; omega
  ·simp [List.getElem?_set, lx]; omega
 ·obtain ⟨b, c, e0, e1, e2, e3⟩ := h2 j hj (by omega)
  refine ⟨b, c, ?_, ?_, (go e2 e3).1, (go e2 e3).2⟩
  ·rw [List.getElem?_set_ne (by omega), List.getElem?_set_ne (by omega)]; exact e0
  ·rw [List.getElem?_set_ne (by omega), List.getElem?_set_ne (by omega)]; exact e1
theorem MTo.cells {W : World} {B n : Nat} {f : Nat → Zp} {k : Nat} (h : MTo W B n f k) (hk : k < n) : (∃ u0 u1, W.cell? ⟨B, k * 2, none⟩ = some u0 ∧ W.cell? ⟨B, k * 2 + 1, none⟩ = some u1) ∧ W.frozen? ⟨B, k * 2, none⟩ = false ∧ W.frozen? ⟨B, k * 2 + 1, none⟩ = false ∧ B < W.heap.size := by
 obtain ⟨xs, h1, h2⟩ := h
 have lx := h1.1
 refine ⟨⟨xs[k * 2]'(by omega), xs[k * 2 + 1]'(by omega), ?_, ?_⟩, h1.frozenAt _, h1.frozenAt _, (h1.lt B rfl).2⟩
 ·rw [h1.cellAt _ (by omega)]; exact List.getElem?_eq_getElem (by omega)
 ·rw [h1.cellAt _ (by omega)]; exact List.getElem?_eq_getElem (by omega)
theorem MTo.done {W : World} {B n : Nat} {f : Nat → Zp} (h : MTo W B n f n) (l : List Zp) (hn : n = l.length) (hv : ∀ j (hj : j < l.length), f j = l[j]) (h8 : l.length ≤ 200000) : ZsAt W (some ⟨B, 0, none⟩) l := by
 obtain ⟨xs, h1, h2⟩ := h
 subst hn
 refine ⟨by unfold maxLen; omega, .inr ⟨B, 0, rfl, (h1.lt B rfl).2, ?_⟩⟩
 intro i hi
 obtain ⟨a, cap, g0, g1, g2, _⟩ := h2 i hi hi
 rw [hv i hi] at g0 g1 g2
 refine ⟨?_, a, cap, ?_, g2⟩
 ·rw [h1.cellAt _ (by omega), ← g1]; congr 1; omega
 ·rw [h1.cellAt _ (by omega), ← g0]; congr 1; omega

end Go.Proofs.YtfojonhblblbjaaGreat
/- The walks of ops.ofBoth and ops.paired. -/
namespace Go.Proofs.YtfojonhblblbjaaGreat
open Go.RowKit Go.Lib Go.Shelf

/-- What is handed on of two sets: they lie in w0; who asks of pairs leaves all but a room as it was in wp. -/
structure PairsOk (cols : List Int) (x : Ex) (w0 wp : World) (a b : Option Addr) (ca cb : Nat) (l r : List Zp) (v : Value) : Prop where
 ex : ∃ (lo : Nat) (wc : World) (R rv hv : Nat) (u : Value), v = .agg #[.slice a l.length ca, .slice b r.length cb, .func (.func 159) #[] #[.pointer (some ⟨rv, 0, none⟩), .pointer (some ⟨hv, 0, none⟩)]] ∧
  PNew wp R rv ∧ hv < R ∧ wp.cell? ⟨hv, 0, none⟩ = some u ∧ Conds cols lo u x wc ∧ wc.heap.size ≤ R ∧ Since lo wc wp ∧ w0.heap.size ≤ R ∧ Below w0.heap.size w0 wp ∧ PInv wp R rv wp

end Go.Proofs.YtfojonhblblbjaaGreat
/- As ..Ext, over whatever class of worlds that is kept as worlds grow: whatever only reads what was there, and calls that make memory alone, may be taken first, if what is left goes through in every world that has grown since. -/
namespace Go.Proofs.YtfojonhblblbjaaGreat
open Go.RowKit

section
variable {P : Program} {ops : Array Oper} {Q : Exit → Act → World → Prop} {md : Region.Mode} {C : World → Prop}

/-- In every world that has grown of the class the operation leaves v in its temporary, and a world that has grown out of that one. -/
def GrowsC (P : Program) (ops : Array Oper) (C : World → Prop) (o : Oper) (v : Value) (a : Act) : Prop :=
 (Region.wanted o (yielded ops a.tmps) = true ∧ ∀ n : World, C n → Oper.quietUpon P (fun w' => Below n.heap.size n w') n v ((execOp a.eval o).run P n)) ∨
 (Region.wanted o (yielded ops a.tmps) = false ∧ v = undef)

theorem GrowsC.of_same {o : Oper} {v : Value} {a a' : Act} (hy : GrowsC P ops C o v a) (he : execOp a'.eval o = execOp a.eval o)
  (hw : Region.wanted o (yielded ops a'.tmps) = Region.wanted o (yielded ops a.tmps)) : GrowsC P ops C o v a' := by
 unfold GrowsC at *
 rw [he, hw]
 exact hy

theorem GrowsC.wpOp {i : Nat} {o : Oper} {v : Value} {a : Act} (hi : ops[i]? = some o) (hy : GrowsC P ops C o v a)
  {K : Act → World → Prop} {w : World} (hB : C w) (h : ∀ w', Below w.heap.size w w' → K (a.put o.dst v) w') : wpOp P ops Q i K a w := by
 unfold Go.wpOp
 simp only [hi]
 rcases hy with ⟨hw, hv⟩ | ⟨hw, rfl⟩
 ·simp only [hw, if_true]
  left
  have h3 := hv w hB
  unfold Oper.wp
  generalize (execOp a.eval o).run P w = r at *
  cases r with
  | ok n w' =>
   cases n <;> simp only [Oper.quietUpon] at h3 <;> simp only [Oper.upon]
   case value u =>
    obtain ⟨e1, e2⟩ := h3
    rw [e1, e2]
    exact h _ (Below.refl _ _)
   case skip =>
    obtain ⟨e1, e2⟩ := h3
    rw [e1, ← e2]
    exact h _ (Below.refl _ _)
   case enter f args =>
    obtain ⟨e1, hc⟩ := h3
    rw [e1]
    exact hc.mono fun e w'' ⟨he, hw''⟩ => by subst he; exact h _ hw''
  | halt x w' => simp only [Oper.quietUpon] at h3
 ·simp only [hw, Bool.false_eq_true, if_false]
  exact h _ (Below.refl _ _)

/-- One operation, apart from another one: whether that one's value is there already makes no difference to it. -/
theorem wpOp_putC {Φ : Act → Prop} {j : Nat} {oi oj : Oper} {v : Value} (hj : ops[j]? = some oj) (hap : oi.apart ops oj = true)
  (hsj : ∀ cs b, oj.op ≠ .select cs b) (hQ : ∀ c a w, Q (.panic c) (a.put oi.dst v) w → Q (.panic c) a w)
  (keep : ∀ (a : Act), Φ a → ∀ u, Φ (a.put oj.dst u)) (keepD : ∀ (a : Act) (d : Deferred), Φ a → Φ { a with defers := d :: a.defers })
  {K : Act → World → Prop} {a : Act} {w : World} (hy : Φ a) (h : wpOp P ops Q j K (a.put oi.dst v) w) :
  wpOp P ops Q j (fun a' w' => Φ a' ∧ K (a'.put oi.dst v) w') a w := by
 obtain ⟨h1, h2, _⟩ := Oper.apart_spec hap
 unfold wpOp at *
 simp only [hj] at *
 rw [wanted_put oj a oi.dst v h1] at h
 split
 ·rename_i hw
  simp only [hw, if_true] at h
  rcases h with h | ⟨hasks, hlets⟩
  case inr => exact .inr ⟨by unfold Oper.asks at *; rw [execOp_put oj hsj a oi.dst v h1] at hasks; exact hasks, hlets⟩
  refine .inl ?_
  unfold Oper.wp at *
  rw [execOp_put oj hsj a oi.dst v h1] at h
  generalize (execOp a.eval oj).run P w = r at *
  cases r with
  | ok n w' =>
   cases n <;> simp only [Oper.upon] at h ⊢
   case value u => exact ⟨keep a hy u, by rw [← Act.put_comm a v u h2]; exact h⟩
   case skip => exact ⟨keep a hy _, by rw [← Act.put_comm a v undef h2]; exact h⟩
   case defer d =>
    refine ⟨keep _ (keepD a d hy) _, ?_⟩
    rw [← Act.put_comm _ v undef h2, ← Act.put_defers]
    exact h
   case enter f args =>
    refine Calls.mono h fun e w'' he => ?_
    cases e with
    | returned u => exact ⟨keep a hy u, by rw [← Act.put_comm a v u h2]; exact he⟩
    | panicked c => exact hQ _ _ _ he
    | outgrown => exact he
   case row row args => exact Rows.mono h fun u w'' he => ⟨keep a hy u, by rw [← Act.put_comm a v u h2]; exact he⟩
  | halt x w' =>
   cases x <;> simp only [Oper.upon] at h ⊢
   case panic u => exact hQ _ _ _ h
 ·rename_i hw
  simp only [hw] at h
  exact ⟨keep a hy _, by rw [← Act.put_comm a v undef h2]; exact h⟩

/-- Whatever order is picked from here on, and however the world grows ahead of each operation. -/
def wpY (P : Program) (md : Region.Mode) (ops : Array Oper) (Q : Exit → Act → World → Prop) (C : World → Prop) : Nat → Array Bool → Act → World → Prop
 | 0, listed, a, w => Region.ready md ops listed = [] ∧ ∀ w', Below w.heap.size w w' → Q .normal a w'
 | fuel + 1, listed, a, w => ∀ w', Below w.heap.size w w' → (Region.ready md ops listed = [] → Q .normal a w') ∧
  ∀ i ∈ Region.ready md ops listed, wpOp P ops Q i (fun a' w'' => C w'' ∧ wpY P md ops Q C fuel (listed.setIfInBounds i true) a' w'') a w'

theorem wpY.later : ∀ (fuel : Nat) {listed : Array Bool} {a : Act} {w w1 : World}, wpY P md ops Q C fuel listed a w → Below w.heap.size w w1 → wpY P md ops Q C fuel listed a w1
 | 0, _, _, _, _, h, hb => ⟨h.1, fun w' hw' => h.2 w' (chain hb hw')⟩
 | _ + 1, _, _, _, _, h, hb => fun w' hw' => h w' (chain hb hw')

theorem wpAny_of_wpY : ∀ (fuel : Nat) (listed : Array Bool) (a : Act) (w : World), wpY P md ops Q C fuel listed a w → wpAny P md ops Q fuel listed a w
 | 0, _, _, _, h => ⟨h.1, h.2 _ (Below.refl _ _)⟩
 | fuel + 1, _, _, w, h => ⟨(h w (Below.refl _ _)).1, fun i hi => wpOp_mono (fun a' w' h' => wpAny_of_wpY fuel _ a' w' h'.2) ((h w (Below.refl _ _)).2 i hi)⟩

theorem wpY_first (hC : ∀ w w', C w → Below w.heap.size w w' → C w') {i : Nat} {oi : Oper} {v : Value} (hi : ops[i]? = some oi) (hsel : ∀ (j : Nat) (o : Oper) cs b, ops[j]? = some o → o.op ≠ .select cs b)
  (hQ : ∀ c a w, Q (.panic c) (a.put oi.dst v) w → Q (.panic c) a w) :
  ∀ (fuel : Nat) (listed : Array Bool) (a : Act) (w : World),
   (∀ j oj, ops[j]? = some oj → j ≠ i → listed.getD j true = false → (∀ e ∈ oj.after, Region.binds md e = true → e.on ≠ i) → oi.apart ops oj = true) →
   i ∈ Region.ready md ops listed → GrowsC P ops C oi v a → C w →
   wpY P md ops Q C fuel (listed.setIfInBounds i true) (a.put oi.dst v) w → wpY P md ops Q C (fuel + 1) listed a w := by
 intro fuel
 induction fuel with
 | zero =>
  intro listed a w _ hr hy hB H w' hw'
  refine ⟨fun h => (by rw [h] at hr; cases hr), fun j hj => ?_⟩
  by_cases hji : j = i
  ·subst hji
   exact hy.wpOp hi (hC _ _ hB hw') fun w'' hw'' => ⟨hC _ _ (hC _ _ hB hw') hw'', H.later 0 (chain hw' hw'')⟩
  ·have := ready_mono hj hji
   rw [H.1] at this
   cases this
 | succ fuel ih =>
  intro listed a w hfree hr hy hB H w' hw'
  refine ⟨fun h => (by rw [h] at hr; cases hr), fun j hj => ?_⟩
  by_cases hji : j = i
  ·subst hji
   exact hy.wpOp hi (hC _ _ hB hw') fun w'' hw'' => ⟨hC _ _ (hC _ _ hB hw') hw'', H.later (fuel + 1) (chain hw' hw'')⟩
  ·have h1 := (H w' hw').2 j (ready_mono hj hji)
   obtain ⟨hjun, oj, hoj, hall⟩ := mem_ready.1 hj
   have hnot : ∀ e ∈ oj.after, Region.binds md e = true → e.on ≠ i := fun e he hb heq => by
    have h1 := hall e he hb
    have h0 := (mem_ready.1 hr).1
    rw [heq] at h1
    rcases Nat.lt_or_ge i listed.size with h' | h'
    ·simp [h'] at h0 h1; rw [h0] at h1; cases h1
    ·simp [Array.getElem?_eq_none h'] at h1
   have hap := hfree j oj hoj hji hjun hnot
   obtain ⟨_, _, h3⟩ := Oper.apart_spec hap
   have h2 := wpOp_putC (Φ := GrowsC P ops C oi v) hoj hap (fun cs b => hsel j oj cs b hoj) hQ
    (fun a hy u => hy.of_same (execOp_put oi (fun cs b => hsel i oi cs b hi) a oj.dst u h3) (wanted_put oi a oj.dst u h3)) (fun a d hy => hy.of_same rfl rfl) hy h1
   have hfree' : ∀ k ok, ops[k]? = some ok → k ≠ i → (listed.setIfInBounds j true).getD k true = false →
     (∀ e ∈ ok.after, Region.binds md e = true → e.on ≠ i) → oi.apart ops ok = true := fun k ok hk hki hun hno => by
    refine hfree k ok hk hki ?_ hno
    by_cases hjk : j = k
    ·subst hjk; exact hjun
    ·rw [getD_set_ne true hjk] at hun; exact hun
   refine wpOp_mono (fun a' w'' h4 => ⟨h4.2.1, ih (listed.setIfInBounds j true) a' w'' hfree' (ready_mono hr (Ne.symm hji)) h4.1 h4.2.1 ?_⟩) h2
   rw [Array.setIfInBounds_comm _ _ hji]
   exact h4.2.2

theorem wpY_take (hC : ∀ w w', C w → Below w.heap.size w w' → C w') {i : Nat} {oi : Oper} {v : Value} {fuel : Nat} {listed : Array Bool} {a : Act} {w : World} (d : Option Tmp) (hi : ops[i]? = some oi) (hd : oi.dst = d)
  (hs : Region.noSelect ops = true) (hf : Region.free md ops listed i = true) (hr : (Region.ready md ops listed).contains i = true)
  (hQ : ∀ c a w, Q (.panic c) (a.put oi.dst v) w → Q (.panic c) a w) (hy : GrowsC P ops C oi v a) (hB : C w)
  (h : wpY P md ops Q C fuel (listed.setIfInBounds i true) (a.put d v) w) : wpY P md ops Q C (fuel + 1) listed a w := by
 subst hd
 exact wpY_first hC hi (Region.noSelect_spec hs) hQ fuel listed a w (Region.free_spec hi hf) (by simpa using hr) hy hB h

theorem wpY_step {rs : List Nat} {fuel : Nat} {listed : Array Bool} {a : Act} {w : World} (hr : Region.ready md ops listed = rs) (hne : rs ≠ [])
  (h : ∀ w', Below w.heap.size w w' → ∀ i ∈ rs, wpOp P ops Q i (fun a' w'' => C w'' ∧ wpY P md ops Q C fuel (listed.setIfInBounds i true) a' w'') a w') : wpY P md ops Q C (fuel + 1) listed a w :=
 fun w' hw' => ⟨fun h0 => absurd (hr ▸ h0) hne, hr ▸ h w' hw'⟩
theorem wpY_done {listed : Array Bool} {a : Act} {w : World} (hr : Region.ready md ops listed = []) (h : ∀ w', Below w.heap.size w w' → Q .normal a w') : wpY P md ops Q C 0 listed a w := ⟨hr, h⟩

theorem wp_region_cls {id : Nat} {a : Act} {w : World} (C : World → Prop) (hm : P.follows .mixedOrders = true)
  (h : wpY P .any ops Q C ops.size (Array.replicate ops.size false) a w.drew) : (Code.region id ops true).wp P Q a w :=
 wp_region_any hm (wpAny_of_wpY _ _ _ _ h)
end
end Go.Proofs.YtfojonhblblbjaaGreat
/- Rows that are gathered one by one beside others that are asked. -/
namespace Go.Proofs.YtfojonhblblbjaaGreat
open Go.RowKit Go.Lib Go.Shelf

/-- Rows in a slice of one's own, whose values lie in blocks of values, all from base on. -/
def OwnJ (base : Nat) (W : World) (v : Value) (l : List Zp) : Prop := ∃ xs, W.ownsRow base 53 2 v l.length xs ∧ EncT W xs l ∧ ∀ (i : Nat) (b o cap n : Nat), i < l.length → xs[i * 2]? = some (.slice (some ⟨b, o, none⟩) n cap) → base ≤ b
theorem OwnJ.z {base : Nat} {W : World} {v : Value} {l : List Zp} (h : OwnJ base W v l) : OwnZ base W v l := by
 obtain ⟨xs, h1, h2, _⟩ := h
 exact ⟨xs, h1, h2⟩
theorem sl_since {lo : Nat} {W w1 : World} {a : Option Addr} {r : List Vl} (h : SlAt W a r) (ht : TyAt W a) (hb : ∀ b o, a = some ⟨b, o, none⟩ → lo ≤ b) (hs : Since lo W w1) : SlAt w1 a r ∧ TyAt w1 a := by
 have key : ∀ b off, a = some ⟨b, off, none⟩ → w1.heap[b]? = W.heap[b]? := by
  intro b off e
  obtain ⟨c, z, h1⟩ := ht b off e
  have hlt : b < W.heap.size := by
   rcases Nat.lt_or_ge b W.heap.size with h | h
   ·exact h
   ·rw [Array.getElem?_eq_none h] at h1; cases h1
  exact hs.2 b (hb b off e) hlt
 refine ⟨⟨h.1, ?_⟩, ?_⟩
 ·rcases h.2 with h | ⟨b, off, e, hr, hlt⟩
  ·exact .inl h
  ·refine .inr ⟨b, off, e, fun i hi => ?_, Nat.lt_of_lt_of_le hlt hs.1⟩
   have k := key b off e
   obtain ⟨c0, c1, c2⟩ := hr i hi
   exact ⟨(World.cell?_of_block (a := ⟨b, _, none⟩) k).trans c0, (World.cell?_of_block (a := ⟨b, _, none⟩) k).trans c1, (World.cell?_of_block (a := ⟨b, _, none⟩) k).trans c2⟩
 ·intro b off e
  obtain ⟨c, z, h1⟩ := ht b off e
  exact ⟨c, z, (key b off e).trans h1⟩
theorem OwnJ.since {base lo : Nat} {W w1 : World} {v : Value} {l : List Zp} (h : OwnJ base W v l) (hl : lo ≤ base) (hs : Since lo W w1) : OwnJ base w1 v l := by
 obtain ⟨xs, h1, h2, h3⟩ := h
 refine ⟨xs, own_since h1 hl hs, ⟨h2.1, fun i hi => ?_⟩, h3⟩
 obtain ⟨a, cap, e0, e1, e2, e3⟩ := h2.2 i hi
 obtain ⟨g0, g1⟩ := sl_since e2 e3 (fun b o e => by subst e; exact Nat.le_trans hl (h3 i b o cap _ hi e0)) hs
 exact ⟨a, cap, e0, e1, g0, g1⟩
theorem OwnJ.nil (base : Nat) (W : World) : OwnJ base W (.slice none 0 0) [] := ⟨[], by simpa using World.ownsRow_nil _ _ _ _, ⟨rfl, fun i hi => by simp at hi⟩, fun i b o cap n hi => by simp at hi⟩
theorem OwnJ.slice {base : Nat} {W : World} {v : Value} {l : List Zp} (h : OwnJ base W v l) : ∃ a cap, v = .slice a l.length cap := by
 obtain ⟨a, cap, e, _⟩ := h.z.zs
 exact ⟨a, cap, e⟩
theorem OwnJ.push {W w1 : World} {base : Nat} {v v' : Value} {xs : List Value} {l : List Zp} {a : Option Addr} {cap : Nat} {r : List Vl} {x : Int}
  (ho : W.ownsRow base 53 2 v l.length xs) (he : EncT W xs l) (hb : ∀ (i : Nat) (b o cap n : Nat), i < l.length → xs[i * 2]? = some (.slice (some ⟨b, o, none⟩) n cap) → base ≤ b) (hs : SlAt W a r) (ht : TyAt W a) (ha : ∀ b o, a = some ⟨b, o, none⟩ → base ≤ b)
  (ho' : w1.ownsRow base 53 2 v' (l.length + 1) (xs ++ [.slice a r.length cap, .int .i64 x])) (hg : W.grownBy w1 v.ownBlock) : OwnJ base w1 v' (l ++ [(r, x)]) := by
 have lx := he.1
 refine ⟨_, by simpa using ho', ⟨by simp [he.1]; omega, ?_⟩, ?_⟩
 ·intro i hi
  by_cases hi' : i < l.length
  ·obtain ⟨a', c', h1, h2, h3, h4⟩ := he.2 i hi'
   have g := sl_grown h3 h4 ho hg
   refine ⟨a', c', ?_, ?_, ?_, g.2⟩
   ·rw [List.getElem?_append_left (by omega), h1, List.getElem_append_left hi']
   ·rw [List.getElem?_append_left (by omega), h2, List.getElem_append_left hi']
   ·rw [List.getElem_append_left hi']; exact g.1
  ·have : i = l.length := by simp at hi; omega
   subst this
   have g := sl_grown hs ht ho hg
   refine ⟨a, cap, ?_, ?_, ?_, g.2⟩
   ·rw [List.getElem?_append_right (by omega)]; simp [lx]
   ·rw [List.getElem?_append_right (by omega)]; simp [lx]
   ·simpa using g.1
 ·intro i b o c n hi h
  by_cases hi' : i < l.length
  ·rw [List.getElem?_append_left (by omega)] at h
   exact hb i b o c n hi' h
  ·have : i = l.length := by simp at hi; omega
   subst this
   rw [List.getElem?_append_right (by omega)] at h
   simp [lx] at h
   exact ha b o h.1
theorem OwnJ.lt {base : Nat} {W : World} {v : Value} {l : List Zp} (h : OwnJ base W v l) {g : Nat} (hg : v.ownBlock = some g) : base ≤ g ∧ g < W.heap.size := by
 obtain ⟨xs, h1, _⟩ := h
 exact h1.lt g hg
theorem wp_append_at {P : Program} {w : World} {o : Oper} {a : Act} {K : Act → World → Prop} {Q : Exit → Act → World → Prop} (d : Option Tmp) (hd : o.dst = d) (s x : Operand) (t : TypeId)
  (ho : o.op = .call { callee := .builtin .append, args := #[s, x], argTypes := #[t, t] })
  (base : Nat) (e : TypeId) (i : TypeInfo) (z : Value) (size bytes : Nat) (ht : P.underlying t = some (.slice e)) (hi : P.info? e = some i) (hz : i.zero = some z)
  (hsize : i.size = size) (hby : i.bytes = bytes) (hzs : z.cells.size = size) (hsz : 0 < size)
  (v : Value) (n : Nat) (xs : List Value) (hs : a.eval s = v) (hown : w.ownsRow base e size v n xs)
  (ad : Addr) (m c : Nat) (news : List Value) (hx : a.eval x = .slice (some ad) m c) (hl : news.length = m * size) (hnews : ∀ j u, news[j]? = some u → w.cell? (ad.add j) = some u) (h1 : ∀ u ∈ news, u.oneCell' = true)
  (h63 : n + m ≤ maxLen) (hbytes : (n + m) * bytes ≤ 140737488355328) (hbase : base ≤ w.heap.size)
  (h : ∀ v' w', w'.ownsRow base e size v' (n + m) (xs ++ news) → w.grownBy w' v.ownBlock → (v'.ownBlock = v.ownBlock ∨ v'.ownBlock = some w.heap.size) → K (a.put d v') w') : o.wp P a w K Q := by
 subst hd
 obtain ⟨v', w', hr, h2, h3, _, h5⟩ := run_append_own_at (P := P) w base t o.type e i z size bytes ht hi hz hsize hby hzs hsz v n xs hown ad m c news hl hnews h1 h63 hbytes hbase
 unfold Oper.wp execOp
 simp only [ho, resolve, invoke, builtin, Sem.run_bind, Sem.run_pure, Result.andThen_ok, List.map_toArray, List.map_cons, List.map_nil, hs, hx, hr]
 exact h v' w' h2 h3 h5
theorem cell_of {W : World} {b : Nat} {xs : Array Value} {T : TypeId} {i : Nat} {v : Value} (h : W.heap[b]? = some (.cells xs T (0, 0))) (hv : xs[i]? = some v) : W.cell? ⟨b, i, none⟩ = some v := by
 simp [World.cell?, h, hv]
theorem heap_new (W : World) (xs : Array Value) (T : TypeId) : (W.alloc (.cells xs T)).heap[W.heap.size]? = some (.cells xs T (0, 0)) := by
 show (W.heap.push (.cells xs T (0, 0)))[W.heap.size]? = _
 exact Array.getElem?_push_size
theorem lt_of_heap {W : World} {b : Nat} {o : Obj} (h : W.heap[b]? = some o) : b < W.heap.size := by
 rcases Nat.lt_or_ge b W.heap.size with h' | h'
 ·exact h'
 ·rw [Array.getElem?_eq_none h'] at h; cases h
end Go.Proofs.YtfojonhblblbjaaGreat
