/- Together: Q1, K4, K5, Y7, K6, J1, ZE, J2, J3. -/
import Derived.Laws.AppendOwnNone
import Derived.Shelf.Spec.SlicesGrow
import Derived.Ground.Names8Prog
import Derived.Test.YtfojonhblblbjaaGreatUB3
import Derived.Test.YtfojonhblblbjaaGreatUB5
import Derived.Test.YtfojonhblblbjaaGreatUB4
import Derived.Test.YtfojonhblblbjaaGreatUB2
/- What is done with sets, plainly: conditions, filters, lists, pairs; sums over sets. No program in sight. -/
namespace Go.Proofs.YtfojonhblblbjaaGreat

/-! ### What is wrong -/
def condE (cols : List Int) (x : Ex) : Int := if (typeTop cols x).2 ≠ 0 then (typeTop cols x).2 else if (typeTop cols x).1 ≠ 2 ∧ (typeTop cols x).1 ≠ 1 then 9 else 0
def fitsZ (cols : List Int) : List Zp → Int
 | [] => 0
 | x :: r => if fitsL cols x.1 = 0 then fitsZ cols r else fitsL cols x.1
def inpE (cols : List Int) (z : List Zp) : Int := if 8 < cols.length then 5 else if wrongZ z ≠ 0 then wrongZ z else fitsZ cols z
def typesE (cols : List Int) : List Ex → Int
 | [] => 0
 | x :: r => if (typeTop cols x).2 = 0 then typesE cols r else (typeTop cols x).2
def listE (cols : List Int) (xs : List Ex) : Int := if 8 < xs.length then 5 else typesE cols xs
theorem fitsZ_end (cols : List Int) (z : List Zp) (k : Nat) (h : z.length ≤ k) : fitsZ cols (z.drop k) = 0 := by rw [List.drop_eq_nil_of_le h]; rfl
theorem fitsZ_bad (cols : List Int) (z : List Zp) (k : Nat) (h : k < z.length) (e : ¬ fitsL cols z[k].1 = 0) : fitsZ cols (z.drop k) = fitsL cols z[k].1 := by
 rw [List.drop_eq_getElem_cons h, fitsZ, if_neg e]
theorem fitsZ_next (cols : List Int) (z : List Zp) (k : Nat) (h : k < z.length) (e : fitsL cols z[k].1 = 0) : fitsZ cols (z.drop k) = fitsZ cols (z.drop (k + 1)) := by
 rw [List.drop_eq_getElem_cons h, fitsZ, if_pos e]
theorem typesE_end (cols : List Int) (z : List Ex) (k : Nat) (h : z.length ≤ k) : typesE cols (z.drop k) = 0 := by rw [List.drop_eq_nil_of_le h]; rfl
theorem typesE_bad (cols : List Int) (z : List Ex) (k : Nat) (h : k < z.length) (e : ¬ (typeTop cols z[k]).2 = 0) : typesE cols (z.drop k) = (typeTop cols z[k]).2 := by
 rw [List.drop_eq_getElem_cons h, typesE, if_neg e]
theorem typesE_next (cols : List Int) (z : List Ex) (k : Nat) (h : k < z.length) (e : (typeTop cols z[k]).2 = 0) : typesE cols (z.drop k) = typesE cols (z.drop (k + 1)) := by
 rw [List.drop_eq_getElem_cons h, typesE, if_pos e]
theorem fitsZ_ok (cols : List Int) : ∀ z : List Zp, fitsZ cols z = 0 ↔ ∀ x ∈ z, FitP cols x.1
 | [] => by simp [fitsZ]
 | x :: r => by
  have ih := fitsZ_ok cols r
  rw [fitsZ]
  by_cases h : fitsL cols x.1 = 0
  ·rw [if_pos h, ih]
   simp [(fitsL_ok cols x.1).1 h]
  ·rw [if_neg h]
   constructor
   ·intro e; exact absurd e h
   ·intro e; exact absurd ((fitsL_ok cols x.1).2 (e x (by simp))) h
theorem typesE_ok (cols : List Int) : ∀ z : List Ex, typesE cols z = 0 ↔ ∀ x ∈ z, (typeTop cols x).2 = 0
 | [] => by simp [typesE]
 | x :: r => by
  have ih := typesE_ok cols r
  rw [typesE]
  by_cases h : (typeTop cols x).2 = 0
  ·rw [if_pos h, ih]
   simp [h]
  ·rw [if_neg h]
   simp [h]
structure InpOk (cols : List Int) (z : List Zp) : Prop where
 cols8 : cols.length ≤ 8
 set : wrongZ z = 0
 fit : ∀ x ∈ z, FitP cols x.1
theorem inpE_ok (cols : List Int) (z : List Zp) : inpE cols z = 0 ↔ InpOk cols z := by
 unfold inpE
 by_cases h8 : 8 < cols.length
 ·rw [if_pos h8]
  constructor
  ·intro h; omega
  ·rintro ⟨h, _, _⟩; omega
 ·rw [if_neg h8]
  by_cases hw : wrongZ z = 0
  ·rw [if_neg (by simpa using hw), fitsZ_ok]
   exact ⟨fun h => ⟨by omega, hw, h⟩, fun h => h.fit⟩
  ·rw [if_pos (by simpa using hw)]
   exact ⟨fun h => absurd h hw, fun h => h.set⟩
theorem typ_of {cols : List Int} {x : Ex} (h : (typeTop cols x).2 = 0) : typP cols x = some (typeTop cols x).1 := ((typeTop_ok cols x).1 h).ty

/-! ### What expressions come to hangs on bare rows alone -/
def holdsP (x : Ex) (row : List Vl) : Bool := clsP (valX row x) == some true
def rowX (xs : List Ex) (row : List Vl) : List Vl := xs.map (valX row)
def tot (g : List Vl → Int) : List Zp → Int
 | [] => 0
 | x :: r => g x.1 * x.2 + tot g r
theorem listE_ok {cols : List Int} {xs : List Ex} (h : listE cols xs = 0) : xs.length ≤ 8 ∧ ∀ x ∈ xs, (typeTop cols x).2 = 0 := by
 unfold listE at h
 by_cases h8 : 8 < xs.length
 ·rw [if_pos h8] at h; omega
 ·rw [if_neg h8, typesE_ok] at h
  exact ⟨by omega, h⟩
end Go.Proofs.YtfojonhblblbjaaGreat
/- Ready, and conditions. -/
namespace Go.Proofs.YtfojonhblblbjaaGreat
open Go.RowKit

set_option maxHeartbeats 1000000 in
theorem readyOk_at (cols : List Int) (x : Ex) (ca : Option Addr) (ccap : Nat) (a : Option Addr) (cap : Nat) (w : World) (hk : KsAt w.heap.size w a x.ks) (hc : IsAt w.heap.size w ca cols) (h0 : (typeTop cols x).2 = 0) :
  Calls Tryz.prog 65 #[.slice ca cols.length ccap, exV x.k x.v x.c a x.ks.length cap] w fun e w' => ∃ u, e = .returned (.tuple #[.int .i64 (typeTop cols x).1, u, .int .i64 0]) ∧ Asks cols w.heap.size u (fun row => valX row x) w' ∧ Below w.heap.size w w' := by
 have S0 := Six.new w x.k x.v x.c a x.ks.length cap 27
 have hal : Below w.heap.size w (w.alloc (.cells #[.int .i64 x.k, .int .i64 x.v.1, .int .i64 x.v.2.1, .string x.v.2.2, .int .i64 x.c, .slice a x.ks.length cap] 27)) := (Below.refl _ _).alloc (Nat.le_refl _) _
 have z1 : (w.alloc (.cells #[.int .i64 x.k, .int .i64 x.v.1, .int .i64 x.v.2.1, .string x.v.2.2, .int .i64 x.c, .slice a x.ks.length cap] 27)).heap.size = w.heap.size + 1 := by simp
 have con := type_at cols x ca ccap a cap _ ((KsAt.next hal (Nat.le_refl _) hk).up hal.size) ((hc.next hal (Nat.le_refl _)).up hal.size)
 have ra := ready_any cols x _ (typ_of h0)
 rw [h0] at con
 generalize (typeTop cols x).1 = t at *
 go_enter Tryz.func65, Tryz.ntmps65
 go_wp2_with fail
 generalize w.alloc (.cells #[.int .i64 x.k, .int .i64 x.v.1, .int .i64 x.v.2.1, .string x.v.2.2, .int .i64 x.c, .slice a x.ks.length cap] 27) = w1 at *
 refine con.mono ?_
 rintro e w2 ⟨rfl, hb2⟩
 have hA := chain hal hb2
 obtain ⟨s0, s1, s2, s3, s4, s5⟩ := S0.next hb2 (by omega)
 simp only [Nat.zero_add] at s1 s2 s3 s4 s5
 have con2 := ra w.heap.size a cap w2 (KsAt.next hA (Nat.le_refl _) hk) hA.size
 clear con ra S0
 go_wp2_with fail
 refine con2.mono ?_
 rintro e w3 ⟨u, rfl, hA3, hb3⟩
 clear s0 s1 s2 s3 s4 s5 con2
 obtain ⟨g, cb, rfl⟩ : ∃ g cb, u = .func (.func g) #[] cb := by obtain ⟨g, cb, e, _⟩ := hA3; exact ⟨g, cb, e⟩
 go_wp2_with fail
 exact bodyPost_ret (v := .tuple #[.int .i64 t, .func (.func g) #[] cb, .int .i64 0]) (by simp [results, Tryz.results65, go_sem]) rfl ⟨_, rfl, hA3.down hA.size, chain hA hb3⟩

set_option maxHeartbeats 1000000 in
theorem readyBad_at (cols : List Int) (x : Ex) (ca : Option Addr) (ccap : Nat) (a : Option Addr) (cap : Nat) (w : World) (hk : KsAt w.heap.size w a x.ks) (hc : IsAt w.heap.size w ca cols) (h0 : ¬ (typeTop cols x).2 = 0) :
  Calls Tryz.prog 65 #[.slice ca cols.length ccap, exV x.k x.v x.c a x.ks.length cap] w fun e w' => e = .returned (.tuple #[.int .i64 0, .nilFunc, .int .i64 (typeTop cols x).2]) ∧ Below w.heap.size w w' := by
 have hal : Below w.heap.size w (w.alloc (.cells #[.int .i64 x.k, .int .i64 x.v.1, .int .i64 x.v.2.1, .string x.v.2.2, .int .i64 x.c, .slice a x.ks.length cap] 27)) := (Below.refl _ _).alloc (Nat.le_refl _) _
 have con := type_at cols x ca ccap a cap _ ((KsAt.next hal (Nat.le_refl _) hk).up hal.size) ((hc.next hal (Nat.le_refl _)).up hal.size)
 have q : ((typeTop cols x).2 != 0) = true := by simpa using h0
 generalize (typeTop cols x).1 = t at *
 generalize (typeTop cols x).2 = t2 at *
 go_enter Tryz.func65, Tryz.ntmps65
 go_wp2_with fail
 generalize w.alloc (.cells #[.int .i64 x.k, .int .i64 x.v.1, .int .i64 x.v.2.1, .string x.v.2.2, .int .i64 x.c, .slice a x.ks.length cap] 27) = w1 at *
 refine con.mono ?_
 rintro e w2 ⟨rfl, hb2⟩
 have hA := chain hal hb2
 clear con
 go_wp2_with fail
 exact bodyPost_ret (v := .tuple #[.int .i64 0, .nilFunc, .int .i64 t2]) (by simp [results, Tryz.results65, go_sem]) rfl ⟨rfl, hA⟩

/-- A function value tells whether x is true of each row that fits, as long as all from lo on is as it was. -/
def Conds (cols : List Int) (lo : Nat) (u : Value) (x : Ex) (w : World) : Prop :=
 ∃ g cb, u = .func (.func g) #[] cb ∧ (∀ args w, (callFunc g args).run Tryz.prog w = .ok (.enter g args) w) ∧
  ∀ (row : List Vl) (a : Option Addr) (cap : Nat) (W : World), FitP cols row → SlAt W a row → Since lo w W →
   Calls Tryz.prog g (#[.slice a row.length cap] ++ cb) W fun e w' => e = .returned (.bool (holdsP x row)) ∧ Below W.heap.size W w'
theorem Conds.next {cols : List Int} {lo : Nat} {u : Value} {x : Ex} {w w1 : World} (h : Conds cols lo u x w) (hb : Since lo w w1) : Conds cols lo u x w1 := by
 obtain ⟨g, cb, e, eg, hd⟩ := h
 exact ⟨g, cb, e, eg, fun row a cap W hf hs hW => hd row a cap W hf hs (hb.trans hW)⟩
theorem Conds.down {cols : List Int} {lo lo' : Nat} {u : Value} {x : Ex} {w : World} (h : Conds cols lo u x w) (hl : lo' ≤ lo) : Conds cols lo' u x w := by
 obtain ⟨g, cb, e, eg, hd⟩ := h
 exact ⟨g, cb, e, eg, fun row a cap W hf hs hW => hd row a cap W hf hs (hW.up hl)⟩

end Go.Proofs.YtfojonhblblbjaaGreat
/- Lists of expressions: what they come to, each time in new memory. -/
namespace Go.Proofs.YtfojonhblblbjaaGreat
open Go.RowKit

/-- What the making of values has come to: k of them are there. -/
def VTo (W : World) (B n : Nat) (f : Nat → Vl) (k : Nat) : Prop := ∃ xs, W.ownsRow B 24 3 (.slice (some ⟨B, 0, none⟩) n n) n xs ∧ ∀ j : Nat, j < n → j < k → xs[j * 3]? = some (.int .i64 (f j).1) ∧ xs[j * 3 + 1]? = some (.int .i64 (f j).2.1) ∧ xs[j * 3 + 2]? = some (.string (f j).2.2)
theorem VTo.step {W : World} {B n : Nat} {f : Nat → Vl} {k : Nat} (h : VTo W B n f k) (hk : k < n) :
  VTo (((W.setCell ⟨B, k * 3, none⟩ (.int .i64 (f k).1)).setCell ⟨B, k * 3 + 1, none⟩ (.int .i64 (f k).2.1)).setCell ⟨B, k * 3 + 2, none⟩ (.string (f k).2.2)) B n f (k + 1) := by
 obtain ⟨xs, h1, h2⟩ := h
 have lx := h1.1
 refine ⟨_, ((((h1.stored (k * 3) _).1.stored (k * 3 + 1) _).1).stored (k * 3 + 2) _).1, ?_⟩
 intro j hj hjk
 by_cases e : j = k
 ·subst e
  refine ⟨?_, ?_, ?_⟩ <;> simp [List.getElem?_set, lx] <;> omega
 ·obtain ⟨g0, g1, g2⟩ := h2 j hj (by omega)
  refine ⟨?_, ?_, ?_⟩
  ·rw [List.getElem?_set_ne (by omega), List.getElem?_set_ne (by omega), List.getElem?_set_ne (by omega)]; exact g0
  ·rw [List.getElem?_set_ne (by omega), List.getElem?_set_ne (by omega), List.getElem?_set_ne (by omega)]; exact g1
  ·rw [List.getElem?_set_ne (by omega), List.getElem?_set_ne (by omega), List.getElem?_set_ne (by omega)]; exact g2
theorem VTo.next {W w1 : World} {B n : Nat} {f : Nat → Vl} {k : Nat} (h : VTo W B n f k) (hb : Below W.heap.size W w1) : VTo w1 B n f k := by
 obtain ⟨xs, h1, h2⟩ := h
 exact ⟨xs, own_next h1 hb, h2⟩
theorem VTo.cells {W : World} {B n : Nat} {f : Nat → Vl} {k : Nat} (h : VTo W B n f k) (hk : k < n) : (∃ u0 u1 u2, W.cell? ⟨B, k * 3, none⟩ = some u0 ∧ W.cell? ⟨B, k * 3 + 1, none⟩ = some u1 ∧ W.cell? ⟨B, k * 3 + 2, none⟩ = some u2) ∧ W.frozen? ⟨B, k * 3, none⟩ = false ∧ W.frozen? ⟨B, k * 3 + 1, none⟩ = false ∧ W.frozen? ⟨B, k * 3 + 2, none⟩ = false ∧ B < W.heap.size := by
 obtain ⟨xs, h1, h2⟩ := h
 have lx := h1.1
 refine ⟨⟨xs[k * 3]'(by omega), xs[k * 3 + 1]'(by omega), xs[k * 3 + 2]'(by omega), ?_, ?_, ?_⟩, h1.frozenAt _, h1.frozenAt _, h1.frozenAt _, (h1.lt B rfl).2⟩
 ·rw [h1.cellAt _ (by omega)]; exact List.getElem?_eq_getElem (by omega)
 ·rw [h1.cellAt _ (by omega)]; exact List.getElem?_eq_getElem (by omega)
 ·rw [h1.cellAt _ (by omega)]; exact List.getElem?_eq_getElem (by omega)
theorem VTo.done {W : World} {B n : Nat} {f : Nat → Vl} (h : VTo W B n f n) (vs : List Vl) (hn : n = vs.length) (hv : ∀ j (hj : j < vs.length), f j = vs[j]) (h8 : vs.length ≤ 100) : SlAt W (some ⟨B, 0, none⟩) vs ∧ TyAt W (some ⟨B, 0, none⟩) := by
 obtain ⟨xs, h1, h2⟩ := h
 subst hn
 refine ⟨⟨by unfold maxLen; omega, .inr ⟨B, 0, rfl, ?_, (h1.lt B rfl).2⟩⟩, ?_⟩
 ·intro i hi
  obtain ⟨g0, g1, g2⟩ := h2 i hi hi
  rw [hv i hi] at g0 g1 g2
  refine ⟨?_, ?_, ?_⟩
  ·rw [h1.cellAt _ (by omega), ← g0]; congr 1; omega
  ·rw [h1.cellAt _ (by omega), ← g1]; congr 1; omega
  ·rw [h1.cellAt _ (by omega), ← g2]; congr 1; omega
 ·intro b off e
  obtain ⟨_, ⟨e', _⟩ | ⟨g, cap, cur, e', _, hh, _⟩⟩ := h1
  ·cases e'
  ·simp only [Value.slice.injEq, Option.some.injEq, Addr.mk.injEq] at e e'
   obtain ⟨rfl, _⟩ := e
   rw [← e'.1.1] at hh
   exact ⟨_, _, hh⟩

/-- A slice of new memory holds these values. -/
def RowNew (B : Nat) (W : World) (l : List Vl) : Prop := SlAt W (some ⟨B, 0, none⟩) l ∧ TyAt W (some ⟨B, 0, none⟩)
/-- A function value makes rows of what xs come to, as long as all from lo on is as it was. -/
def ListF (cols : List Int) (lo : Nat) (u : Value) (xs : List Ex) (w : World) : Prop :=
 ∃ g cb, u = .func (.func g) #[] cb ∧ (∀ args w, (callFunc g args).run Tryz.prog w = .ok (.enter g args) w) ∧
  ∀ (row : List Vl) (a : Option Addr) (cap : Nat) (W : World), FitP cols row → SlAt W a row → Since lo w W →
   Calls Tryz.prog g (#[.slice a row.length cap] ++ cb) W fun e w' => e = .returned (.slice (some ⟨W.heap.size, 0, none⟩) xs.length xs.length) ∧ RowNew W.heap.size w' (rowX xs row) ∧ Below W.heap.size W w'
theorem ListF.next {cols : List Int} {lo : Nat} {u : Value} {xs : List Ex} {w w1 : World} (h : ListF cols lo u xs w) (hb : Since lo w w1) : ListF cols lo u xs w1 := by
 obtain ⟨g, cb, e, eg, hd⟩ := h
 exact ⟨g, cb, e, eg, fun row a cap W hf hs hW => hd row a cap W hf hs (hb.trans hW)⟩
theorem ListF.down {cols : List Int} {lo lo' : Nat} {u : Value} {xs : List Ex} {w : World} (h : ListF cols lo u xs w) (hl : lo' ≤ lo) : ListF cols lo' u xs w := by
 obtain ⟨g, cb, e, eg, hd⟩ := h
 exact ⟨g, cb, e, eg, fun row a cap W hf hs hW => hd row a cap W hf hs (hW.up hl)⟩

set_option maxHeartbeats 1000000 in
theorem list1_at (cols : List Int) (lo : Nat) (vb : Nat) (xs : List Ex) (a : Option Addr) (row : List Vl) (cap : Nat) (W : World) (hK : KidsF cols lo W vb xs) (h8 : xs.length ≤ 8) (hf : FitP cols row) (hs : SlAt W a row) :
  Calls Tryz.prog 79 #[.slice a row.length cap, .pointer (some ⟨vb, 0, none⟩)] W fun e w' => e = .returned (.slice (some ⟨W.heap.size, 0, none⟩) xs.length xs.length) ∧ RowNew W.heap.size w' (rowX xs row) ∧ Below W.heap.size W w' := by
 obtain ⟨i0, hi, hz0, hz1, hz2⟩ := info_parts Tryz.info49
 obtain ⟨K, k1, k2, k3, k4, k5, k6⟩ := hK
 have HK : Hid (∀ (i : Nat) (h : i < xs.length), ∃ u, W.cell? ⟨K, i, none⟩ = some u ∧ Asks cols lo u (fun row => valX row xs[i]) W) := k6
 go_enter Tryz.func79, Tryz.ntmps79
 go_wp2_with (first | (at_make; refine wpList_make_full _ rfl _ _ 51 rfl W.heap.size 24 i0 _ 3 Tryz.underlying51 hi hz0 hz1 .i64 .i64 xs.length xs.length xs.length rfl rfl rfl rfl (by rw [hz2]; omega) (by unfold maxLen; omega) (Nat.le_refl _) ?_))
 intro w1 hown hgrow
 have hb0 : Below W.heap.size W w1 := (Below.refl _ _).grown hgrow (Nat.le_refl _) (by simp)
 have hB0 : VTo w1 W.heap.size xs.length (fun j => valX row (xs.getD j (.mk 0 vl0 0 []))) 0 := ⟨_, hown, fun j _ hj => absurd hj (Nat.not_lt_zero _)⟩
 have c1 := (hb0.cell (p := ⟨vb, 0, none⟩) k2).trans k5
 clear hown hgrow k5 k6
 go_wp2_with fail
 clear c1
 go_loopw [12] (fun i wr => ∃ k : Nat, k ≤ xs.length ∧ i = .int .i64 k ∧ VTo wr W.heap.size xs.length (fun j => valX row (xs.getD j (.mk 0 vl0 0 []))) k ∧ Below W.heap.size W wr) (fun i _ => xs.length - (intOf i).toNat)
 case atStart => exact ⟨0, Nat.zero_le _, rfl, hB0, hb0⟩
 case round =>
  obtain ⟨k, hk, rfl, HB, hb⟩ := hrel
  have hz := hb.size
  by_cases hlt : k < xs.length
  ·obtain ⟨u, cu, A⟩ := HK.out k hlt
   have cu := (hb.cell (p := ⟨K, k, none⟩) k4).trans cu
   obtain ⟨g, cb, rfl, eg, d⟩ := A
   have d := d row a cap wr hf (hs.next hb) (Since.of hb)
   dsimp only at d
   have ev : valX row xs[k] = (fun j => valX row (xs.getD j (.mk 0 vl0 0 []))) k := by simp [List.getD, hlt]
   rw [ev] at d
   generalize (fun j => valX row (xs.getD j (.mk 0 vl0 0 []))) = f at *
   have i0 : (0 : Int) ≤ (k : Int) := by omega
   have i1 : (k : Int) < (xs.length : Int) := by omega
   go_wp2_with (go_at_fn g; refine d.mono ?_; rintro e w2 ⟨rfl, hb2⟩; have HB2 := HB.next hb2; obtain ⟨⟨u0, u1, u2, d0, d1, d2⟩, f0, f1, f2, hlb⟩ := HB2.cells hlt; have zz := hb2.size)
   go_roundw
   case rel =>
    refine ⟨k + 1, by omega, by go_num, ?_, ?_⟩
    ·exact HB2.step hlt
    ·exact (((chain hb hb2).setCell (p := ⟨W.heap.size, k * 3, none⟩) (Nat.le_refl _) _).setCell (p := ⟨W.heap.size, k * 3 + 1, none⟩) (Nat.le_refl _) _).setCell (p := ⟨W.heap.size, k * 3 + 2, none⟩) (Nat.le_refl _) _
   case measure => simp [intOf]; omega
  ·have e : k = xs.length := by omega
   subst e
   go_wp2_with fail
   go_ret
   exact ⟨rfl, HB.done (rowX xs row) (by simp [rowX]) (fun j hj => by simp [rowX] at hj; simp [rowX, List.getD, hj]) (by simp [rowX]; omega), hb⟩

theorem FTo.new2 {cols : List Int} {w : World} {n : Nat} (ks : List Ex) (hn : n = ks.length) (T T' : TypeId) :
  FTo cols w.heap.size (w.heap.size + 1) (w.heap.size + 2) ((w.alloc (.cells (Array.replicate n Value.nilFunc) T)).alloc (.cells #[.slice (some ⟨w.heap.size, 0, none⟩) n n] T')) ks 0 := by
 subst hn
 refine ⟨⟨by omega, by omega, by omega, by simp⟩, ?_, fun i hi => ⟨⟨Value.nilFunc, ?_⟩, ?_⟩, fun i _ h => absurd h (Nat.not_lt_zero _)⟩
 ·rw [World.cell?_alloc_at _ _ _ _ (by simp)]; rfl
 ·rw [World.cell?_alloc_past _ _ _ (by simp), World.cell?_alloc_at _ _ _ _ rfl]
  simp [hi]
 ·rw [World.frozen?_alloc_past _ _ _ (by simp)]
  exact World.frozen?_alloc_at _ _ _ _ rfl

set_option maxHeartbeats 2000000 in
theorem list_at (cols : List Int) (xs : List Ex) (ca : Option Addr) (ccap : Nat) (xa : Option Addr) (xcap : Nat) (w : World) (hk : KsAt w.heap.size w xa xs) (hc : IsAt w.heap.size w ca cols) :
  Calls Tryz.prog 39 #[.slice ca cols.length ccap, .slice xa xs.length xcap] w fun e w' => ∃ u, e = .returned (.tuple #[u, .int .i64 (listE cols xs)]) ∧ ((listE cols xs = 0 ∧ ListF cols w.heap.size u xs w') ∨ (¬ listE cols xs = 0 ∧ u = .nilFunc)) ∧ Below w.heap.size w w' := by
 by_cases h8 : 8 < xs.length
 ·have e : listE cols xs = 5 := by simp [listE, h8]
  rw [e]
  have hz : (8 : Int) < (xs.length : Int) := by omega
  go_enter Tryz.func39, Tryz.ntmps39
  go_wp2_with fail
  exact bodyPost_ret (v := .tuple #[.nilFunc, .int .i64 5]) (by simp [results, Tryz.results39, go_sem]) rfl ⟨_, rfl, .inr ⟨by decide, rfl⟩, Below.refl _ _⟩
 ·have e : listE cols xs = typesE cols xs := by simp [listE, h8]
  have HE : Hid (listE cols xs = typesE cols xs) := e
  generalize listE cols xs = le at *
  clear e
  have hmk := make_funcs (show xs.length ≤ 8 by omega)
  have F0 : FTo cols w.heap.size (w.heap.size + 1) (w.heap.size + 2) ((w.alloc (.cells (Array.replicate xs.length Value.nilFunc) 103)).alloc (.cells #[.slice (some ⟨w.heap.size, 0, none⟩) xs.length xs.length] 116)) xs 0 := FTo.new2 xs rfl _ _
  have hA : Below w.heap.size w ((w.alloc (.cells (Array.replicate xs.length Value.nilFunc) 103)).alloc (.cells #[.slice (some ⟨w.heap.size, 0, none⟩) xs.length xs.length] 116)) := ((Below.refl _ _).alloc (Nat.le_refl _) _).alloc (by simp) _
  have hz : ¬ (8 : Int) < (xs.length : Int) := by omega
  go_enter Tryz.func39, Tryz.ntmps39
  go_wp2_with fail
  generalize (w.alloc (.cells (Array.replicate xs.length Value.nilFunc) 103)).alloc (.cells #[.slice (some ⟨w.heap.size, 0, none⟩) xs.length xs.length] 116) = w2 at *
  clear hmk
  go_loopw [20] (fun i wr => ∃ j : Nat, j ≤ xs.length ∧ i = .int .i64 j ∧ FTo cols w.heap.size (w.heap.size + 1) (w.heap.size + 2) wr xs j ∧ Hid (typesE cols xs = typesE cols (xs.drop j)) ∧ Below w.heap.size w wr) (fun i _ => xs.length - (intOf i).toNat)
  case atStart => exact ⟨0, Nat.zero_le _, rfl, F0, rfl, hA⟩
  case round =>
   clear F0 hA
   obtain ⟨j, hj, rfl, F, HT, hb⟩ := hrel
   have hz := hb.size
   have hzF := F.lt.2.2.2
   by_cases hlt : j < xs.length
   ·obtain ⟨b, off, ai, ci, rfl, hbl, sx, kx⟩ := (KsAt.next hb (Nat.le_refl _) hk).elem hlt
    obtain ⟨x0, x1, x2, x3, x4, x5⟩ := sx
    have hal : Below wr.heap.size wr (wr.alloc (.cells #[.int .i64 xs[j].k, .int .i64 xs[j].v.1, .int .i64 xs[j].v.2.1, .string xs[j].v.2.2, .int .i64 xs[j].c, .slice ai xs[j].ks.length ci] 27)) := (Below.refl _ _).alloc (Nat.le_refl _) _
    have Fk := F.next hal
    have Sk := Six.new wr xs[j].k xs[j].v xs[j].c ai xs[j].ks.length ci 27
    have zk : (wr.alloc (.cells #[.int .i64 xs[j].k, .int .i64 xs[j].v.1, .int .i64 xs[j].v.2.1, .string xs[j].v.2.2, .int .i64 xs[j].c, .slice ai xs[j].ks.length ci] 27)).heap.size = wr.heap.size + 1 := by simp
    have kk := (KsAt.next hal hz kx).up (show w.heap.size ≤ (wr.alloc (.cells #[.int .i64 xs[j].k, .int .i64 xs[j].v.1, .int .i64 xs[j].v.2.1, .string xs[j].v.2.2, .int .i64 xs[j].c, .slice ai xs[j].ks.length ci] 27)).heap.size by omega)
    have cc := ((hc.next hb (Nat.le_refl _)).next hal hz).up (show w.heap.size ≤ (wr.alloc (.cells #[.int .i64 xs[j].k, .int .i64 xs[j].v.1, .int .i64 xs[j].v.2.1, .string xs[j].v.2.2, .int .i64 xs[j].c, .slice ai xs[j].ks.length ci] 27)).heap.size by omega)
    obtain ⟨k0, k1, k2, k3, k4, k5⟩ := Sk
    simp only [Nat.zero_add] at k1 k2 k3 k4 k5
    have hjz : (j : Int) < xs.length := by omega
    by_cases h0 : (typeTop cols xs[j]).2 = 0
    ·have con := readyOk_at cols xs[j] ca ccap ai ci _ kk cc h0
     have H0 : Hid ((typeTop cols xs[j]).2 = 0) := h0
     clear h0
     generalize (typeTop cols xs[j]).1 = t at *
     go_wp2_with fail
     clear x0 x1 x2 x3 x4 x5 kx k0 k1 k2 k3 k4 k5 kk cc
     generalize wr.alloc (.cells #[.int .i64 xs[j].k, .int .i64 xs[j].v.1, .int .i64 xs[j].v.2.1, .string xs[j].v.2.2, .int .i64 xs[j].c, .slice ai xs[j].ks.length ci] 27) = wk at *
     refine con.mono ?_
     rintro e w3 ⟨u, rfl, hA3, hb3⟩
     clear con
     have F3 := Fk.next hb3
     have q1 := F3.box
     obtain ⟨⟨un, q2⟩, q3⟩ := F3.room j hlt
     obtain ⟨ug, ucb, rfl⟩ : ∃ g cb, u = .func (.func g) #[] cb := by obtain ⟨g, cb, e, _⟩ := hA3; exact ⟨g, cb, e⟩
     go_wp2_with fail
     go_roundw
     case rel => exact ⟨j + 1, by omega, by go_num, F3.store hlt (hA3.down (by omega)), HT.out.trans (typesE_next cols xs j hlt H0.out), (chain (chain hb hal) hb3).setCell (p := ⟨w.heap.size, j, none⟩) (Nat.le_refl _) _⟩
     case measure => simp [intOf]; omega
    ·have con := readyBad_at cols xs[j] ca ccap ai ci _ kk cc h0
     have HN : Hid (le = (typeTop cols xs[j]).2) := HE.out.trans (HT.out.trans (typesE_bad cols xs j hlt h0))
     have q : ((typeTop cols xs[j]).2 != 0) = true := by simpa using h0
     generalize (typeTop cols xs[j]).2 = t2 at *
     go_wp2_with fail
     clear x0 x1 x2 x3 x4 x5 kx k0 k1 k2 k3 k4 k5 kk cc
     generalize wr.alloc (.cells #[.int .i64 xs[j].k, .int .i64 xs[j].v.1, .int .i64 xs[j].v.2.1, .string xs[j].v.2.2, .int .i64 xs[j].c, .slice ai xs[j].ks.length ci] 27) = wk at *
     refine con.mono ?_
     rintro e w3 ⟨rfl, hb3⟩
     clear con
     go_wp2_with fail
     exact bodyPost_ret (v := .tuple #[.nilFunc, .int .i64 t2]) (by simp [results, Tryz.results39, go_sem]) rfl ⟨_, by rw [HN.out], .inr ⟨by rw [HN.out]; exact h0, rfl⟩, chain (chain hb hal) hb3⟩
   ·have e : j = xs.length := by omega
    subst e
    have HN : Hid (le = 0) := HE.out.trans (HT.out.trans (typesE_end cols xs _ (Nat.le_refl _)))
    have KF : Hid (KidsF cols w.heap.size wr (w.heap.size + 1) xs) := F.kids (Nat.le_refl _) (by omega)
    go_wp2_with fail
    refine bodyPost_ret (v := .tuple #[.func (.func 79) #[] #[.pointer (some ⟨w.heap.size + 1, 0, none⟩)], .int .i64 0]) (by simp [results, Tryz.results39, go_sem]) rfl ⟨_, by rw [HN.out], .inl ⟨HN.out, 79, _, rfl, enters_of Tryz.func79 (by kernel_rfl) rfl, fun row a cap W hf hs hW => ?_⟩, hb⟩
    exact list1_at cols w.heap.size (w.heap.size + 1) xs a row cap W (KF.out.next hW) (by omega) hf hs
end Go.Proofs.YtfojonhblblbjaaGreat
/- The walk of exprs.Fits. -/
namespace Go.Proofs.YtfojonhblblbjaaGreat
open Go.RowKit

theorem fitsG_end (cols : List Int) (row : List Vl) (k : Nat) (h : row.length ≤ k) : fitsG (cols.drop k) (row.drop k) = 0 := by
 rw [List.drop_eq_nil_of_le h]; cases cols.drop k <;> rfl
theorem fitsG_wrong (cols : List Int) (row : List Vl) (k : Nat) (h : k < row.length) (h' : k < cols.length) (e : ¬ wrongP row[k] = 0) : fitsG (cols.drop k) (row.drop k) = wrongP row[k] := by
 rw [List.drop_eq_getElem_cons h, List.drop_eq_getElem_cons h', fitsG, if_pos e]
theorem fitsG_type (cols : List Int) (row : List Vl) (k : Nat) (h : k < row.length) (h' : k < cols.length) (e : wrongP row[k] = 0) (e1 : ¬ row[k].1 = 1) (e2 : ¬ row[k].1 = cols[k]) : fitsG (cols.drop k) (row.drop k) = 9 := by
 rw [List.drop_eq_getElem_cons h, List.drop_eq_getElem_cons h', fitsG, if_neg (by simp [e]), if_pos ⟨e1, e2⟩]
theorem fitsG_next (cols : List Int) (row : List Vl) (k : Nat) (h : k < row.length) (h' : k < cols.length) (e : wrongP row[k] = 0) (e1 : row[k].1 = 1 ∨ row[k].1 = cols[k]) : fitsG (cols.drop k) (row.drop k) = fitsG (cols.drop (k + 1)) (row.drop (k + 1)) := by
 rw [List.drop_eq_getElem_cons h, List.drop_eq_getElem_cons h', fitsG, if_neg (by simp [e]), if_neg (by omega)]

set_option maxHeartbeats 2000000 in
theorem fits_at (cols : List Int) (row : List Vl) (ca : Option Addr) (ccap : Nat) (ra : Option Addr) (rcap : Nat) (w : World) (hc : IsAt w.heap.size w ca cols) (hs : SlAt w ra row) :
  Calls Tryz.prog 69 #[.slice ca cols.length ccap, .slice ra row.length rcap] w fun e w' => e = .returned (.int .i64 (fitsL cols row)) ∧ Below w.heap.size w w' := by
 have hl := hs.1
 unfold maxLen at hl
 generalize hr : fitsL cols row = r
 have HR : Hid (fitsL cols row = r) := hr
 clear hr
 by_cases hlen : row.length = cols.length
 ·have HG : Hid (fitsG cols row = r) := by show fitsG cols row = r; rw [← HR.out, fitsL, if_neg (by simp [hlen])]
  have HL : Hid (row.length = cols.length) := hlen
  have q : ((row.length : Int) != (cols.length : Int)) = false := by simp; omega
  clear HR hlen
  go_enter Tryz.func69, Tryz.ntmps69
  go_wp2_with fail
  go_loopw [15] (fun i wr => ∃ j : Nat, j ≤ row.length ∧ i = .int .i64 j ∧ Hid (fitsG cols row = fitsG (cols.drop j) (row.drop j)) ∧ Below w.heap.size w wr) (fun i _ => row.length - (intOf i).toNat)
  case atStart => exact ⟨0, Nat.zero_le _, rfl, rfl, Below.refl _ _⟩
  case round =>
   obtain ⟨j, hj, rfl, HE, hb⟩ := hrel
   have hz := hb.size
   by_cases hlt : j < row.length
   ·have hlt' : j < cols.length := by have := HL.out; omega
    obtain ⟨b, off, rfl, hbl, r0, r1, r2⟩ := (hs.next hb).elem hlt
    obtain ⟨b', off', rfl, hbl', c0⟩ := (hc.next hb (Nat.le_refl _)).elem hlt'
    generalize hv : row[j] = v at *
    generalize hcj : cols[j] = cj at *
    have HV : Hid (row[j] = v) := hv
    have HC : Hid (cols[j] = cj) := hcj
    clear hv hcj
    obtain ⟨k, n, s⟩ := v
    have A0 := Box.new wr (.int .i64 k) (.int .i64 n) (.string s) 24
    have d0 : (wr.alloc (.cells #[.int .i64 k, .int .i64 n, .string s] 24)).cell? ⟨b', off' + j, none⟩ = some (.int .i64 cj) := by
     rw [World.cell?_alloc_lt _ _ _ (by show b' < wr.heap.size; omega)]; exact c0
    go_wp2_with fail
    refine (wrong_any _ _ _ _).mono ?_
    rintro e w1 ⟨rfl, hb1⟩
    have hb1' := hb.trans (below1 hb1 |>.mono hz)
    have A1 := A0.next hb1
    have c1 := (hb1.cell (p := ⟨b', off' + j, none⟩) (by simp; omega)).trans d0
    clear r0 r1 r2 c0 A0 d0
    by_cases hw : wrongF k n s = 0
    ·rw [hw]
     have HW : Hid (wrongP row[j] = 0) := by show wrongP row[j] = 0; rw [HV.out]; exact hw
     clear hw
     have p0 := past_cell A1.c0
     have p1 := past_cell c1
     haveI : Nonempty (Past w1) := ⟨⟨_, Below.refl _ _⟩⟩
     by_cases k1 : k = 1
     ·subst k1
      have HN : Hid (fitsG (cols.drop j) (row.drop j) = fitsG (cols.drop (j + 1)) (row.drop (j + 1))) := fitsG_next cols row j hlt hlt' HW.out (.inl (by rw [HV.out]))
      go_wp2_with fail
      refine wp_region_past (by kernel_rfl) (by kernel_rfl) ?_
      repeat (go_big_quiet_step (fail))
      refine wpQuiet_nil ?_
      rintro w2 ⟨⟨v2, hb2⟩, h2⟩
      obtain rfl : w2 = v2 := h2
      clear p0 p1 A1 c1
      go_wp2_with fail
      go_roundw
      case rel => exact ⟨j + 1, by omega, by go_num, HE.out.trans HN.out, chain hb1' hb2⟩
      case measure => simp [intOf]; omega
     have q1 : (k != 1) = true := by simpa using k1
     by_cases kc : k = cj
     ·subst kc
      have HN : Hid (fitsG (cols.drop j) (row.drop j) = fitsG (cols.drop (j + 1)) (row.drop (j + 1))) := fitsG_next cols row j hlt hlt' HW.out (.inr (by rw [HV.out, HC.out]))
      go_wp2_with fail
      refine wp_region_past (by kernel_rfl) (by kernel_rfl) ?_
      repeat (go_big_quiet_step (fail))
      refine wpQuiet_nil ?_
      rintro w2 ⟨⟨v2, hb2⟩, h2⟩
      obtain rfl : w2 = v2 := h2
      clear p0 p1 A1 c1
      go_wp2_with fail
      go_roundw
      case rel => exact ⟨j + 1, by omega, by go_num, HE.out.trans HN.out, chain hb1' hb2⟩
      case measure => simp [intOf]; omega
     have q2 : (k != cj) = true := by simpa using kc
     have er : r = 9 := by rw [← HG.out, HE.out, fitsG_type cols row j hlt hlt' HW.out (by rw [HV.out]; exact k1) (by rw [HV.out, HC.out]; exact kc)]
     subst er
     clear HG HE
     go_wp2_with fail
     refine wp_region_past (by kernel_rfl) (by kernel_rfl) ?_
     repeat (go_big_quiet_step (fail))
     refine wpQuiet_nil ?_
     rintro w2 ⟨⟨v2, hb2⟩, h2⟩
     obtain rfl : w2 = v2 := h2
     clear p0 p1 A1 c1
     go_wp2_with fail
     go_ret
     exact ⟨rfl, chain hb1' hb2⟩
    ·have er : r = wrongF k n s := by rw [← HG.out, HE.out, fitsG_wrong cols row j hlt hlt' (by rw [HV.out]; exact hw), HV.out]; rfl
     subst er
     clear HG HE
     have q3 : (wrongF k n s != 0) = true := by simpa using hw
     go_wp2_with fail
     go_ret
     exact ⟨rfl, hb1'⟩
   ·have er : r = 0 := by rw [← HG.out, HE.out, fitsG_end cols row j (by omega)]
    subst er
    clear HG HE
    go_wp2_with fail
    go_ret
    exact ⟨rfl, hb⟩
 ·have er : r = 8 := by rw [← HR.out, fitsL, if_pos hlen]
  subst er
  have q : ((row.length : Int) != (cols.length : Int)) = true := by simp; omega
  clear HR
  go_enter Tryz.func69, Tryz.ntmps69
  go_wp2_with fail
  go_ret
  exact ⟨rfl, Below.refl _ _⟩
end Go.Proofs.YtfojonhblblbjaaGreat
/- What is wrong with a set of rows of columns; the rows that are asked for. -/
namespace Go.Proofs.YtfojonhblblbjaaGreat
open Go.RowKit Go.Lib Go.Shelf

set_option maxHeartbeats 2000000 in
theorem wrongS_at (cols : List Int) (ca : Option Addr) (ccap : Nat) (a : Option Addr) (cap : Nat) (l : List Zp) (w : World) (hc : IsAt w.heap.size w ca cols) (h : ZsAt w a l) :
  Calls Tryz.prog 31 #[.slice ca cols.length ccap, .slice a l.length cap] w fun e w' => e = .returned (.int .i64 (inpE cols l)) ∧ Below w.heap.size w w' := by
 have hl := h.1
 unfold maxLen at hl
 have hcl := hc.1
 unfold maxLen at hcl
 by_cases h8 : 8 < cols.length
 ·have e : inpE cols l = 5 := by simp [inpE, h8]
  rw [e]
  have hz : (8 : Int) < (cols.length : Int) := by omega
  go_enter Tryz.func31, Tryz.ntmps31
  go_wp2_with fail
  go_ret
  exact ⟨rfl, Below.refl _ _⟩
 have hz : ¬ (8 : Int) < (cols.length : Int) := by omega
 by_cases hw : wrongZ l = 0
 ·have e : inpE cols l = fitsZ cols l := by simp [inpE, h8, hw]
  rw [e]
  clear e
  have Hw : Hid (wrongZ l = 0) := hw
  clear hw
  go_enter Tryz.func31, Tryz.ntmps31
  go_wp2_with fail
  refine (zWrong_at _ _ _ _ h).mono ?_
  rintro e w1 ⟨rfl, hb1⟩
  rw [Hw.out]
  go_wp2_with fail
  go_loopw [19] (fun i wr => ∃ k : Nat, k ≤ l.length ∧ i = .int .i64 k ∧ Hid (fitsZ cols l = fitsZ cols (l.drop k)) ∧ Below w.heap.size w wr) (fun i _ => l.length - (intOf i).toNat)
  case atStart => exact ⟨0, Nat.zero_le _, rfl, rfl, hb1⟩
  case round =>
   obtain ⟨k, hk, rfl, HC, hb⟩ := hrel
   have hz := hb.size
   by_cases hlt : k < l.length
   ·obtain ⟨b, off, rfl, hbl, c1, ar, cr, c0, sr⟩ := (h.next hb).elem hlt
    have hA := hb.alloc hz (.cells #[.slice ar l[k].1.length cr, .int .i64 l[k].2] 53)
    have hal : Below wr.heap.size wr (wr.alloc (.cells #[.slice ar l[k].1.length cr, .int .i64 l[k].2] 53)) := (Below.refl _ _).alloc (Nat.le_refl _) _
    have con := fits_at cols l[k].1 ca ccap ar cr _ ((hc.next hA (Nat.le_refl _)).up hA.size) (sr.next hal)
    by_cases hw : fitsL cols l[k].1 = 0
    ·have Hw : Hid (fitsL cols l[k].1 = 0) := hw
     rw [hw] at con
     clear hw
     go_wp2_with fail
     refine con.mono ?_
     rintro e w2 ⟨rfl, hb2⟩
     go_wp2_with fail
     go_roundw
     case rel => exact ⟨k + 1, by omega, by go_num, HC.out.trans (fitsZ_next cols l k hlt Hw.out), chain2 hb hb2⟩
     case measure => simp [intOf]; omega
    ·have HN : Hid (fitsZ cols l = fitsL cols l[k].1) := HC.out.trans (fitsZ_bad cols l k hlt hw)
     have hne : (fitsL cols l[k].1 != 0) = true := by simpa using hw
     generalize fitsL cols l[k].1 = t at *
     go_wp2_with fail
     refine con.mono ?_
     rintro e w2 ⟨rfl, hb2⟩
     go_wp2_with fail
     go_ret
     exact ⟨ret_int HN.out.symm, chain2 hb hb2⟩
   ·have HN : Hid (fitsZ cols l = 0) := HC.out.trans (fitsZ_end cols l k (by omega))
    go_wp2_with fail
    go_ret
    exact ⟨ret_int HN.out.symm, hb⟩
 ·have e : inpE cols l = wrongZ l := by simp [inpE, h8, hw]
  rw [e]
  have hne : (wrongZ l != 0) = true := by simpa using hw
  go_enter Tryz.func31, Tryz.ntmps31
  go_wp2_with fail
  refine (zWrong_at _ _ _ _ h).mono ?_
  rintro e w1 ⟨rfl, hb1⟩
  go_wp2_with fail
  go_ret
  exact ⟨rfl, hb1⟩

/-- A slice of one's own, whose rows' values lie in w0. -/
def OwnB (w0 : World) (base : Nat) (W : World) (v : Value) (l : List Zp) : Prop := ∃ xs, W.ownsRow base 53 2 v l.length xs ∧ EncB w0 xs l
theorem OwnB.next {w0 W w1 : World} {base : Nat} {v : Value} {l : List Zp} (h : OwnB w0 base W v l) (hb : Below W.heap.size W w1) : OwnB w0 base w1 v l := by
 obtain ⟨xs, h1, h2⟩ := h
 exact ⟨xs, own_next h1 hb, h2⟩
theorem OwnB.zs {w0 W : World} {base : Nat} {v : Value} {l : List Zp} (h : OwnB w0 base W v l) (hb : Below w0.heap.size w0 W) : ∃ a cap, v = .slice a l.length cap ∧ ZsAt W a l ∧ (a = none → cap = 0) := by
 obtain ⟨xs, h1, h2⟩ := h
 have h1' := h1
 obtain ⟨hx, ⟨rfl, h0⟩ | ⟨g, cap, cur, rfl, hg, hh, hn, hc, hs, ht⟩⟩ := h1
 ·have : l = [] := List.eq_nil_of_length_eq_zero h0
  subst this
  exact ⟨none, 0, rfl, ⟨by simp, .inl rfl⟩, fun _ => rfl⟩
 ·refine ⟨_, cap, rfl, ⟨by omega, .inr ⟨g, 0, rfl, (h1'.lt g rfl).2, fun i hi => ?_⟩⟩, fun e => by cases e⟩
  obtain ⟨a, cp, e0, e1, e2⟩ := h2.2 i hi
  refine ⟨?_, a, cp, ?_, e2.next hb⟩
  ·rw [h1'.cellAt _ (by omega), ← e1]; congr 1; omega
  ·rw [h1'.cellAt _ (by omega), ← e0]; congr 1; omega
theorem own_since {lo base e size n : Nat} {W w1 : World} {v : Value} {xs : List Value} (h : W.ownsRow base e size v n xs) (hl : lo ≤ base) (hs : Since lo W w1) : w1.ownsRow base e size v n xs := by
 have h' := h
 obtain ⟨hx, h1 | ⟨g, cap, cur, rfl, hg, hh, rest⟩⟩ := h
 ·exact ⟨hx, .inl h1⟩
 ·exact ⟨hx, .inr ⟨g, cap, cur, rfl, hg, by rw [hs.2 g (by omega) (h'.lt g rfl).2]; exact hh, rest⟩⟩
theorem filter_take {l : List Zp} (p : Zp → Bool) {k : Nat} (h : k < l.length) : (l.take (k + 1)).filter p = (l.take k).filter p ++ (if p l[k] = true then [l[k]] else []) := by
 rw [List.take_succ_eq_append_getElem h, List.filter_append]
 congr 1
 rw [List.filter_cons]
 rfl

set_option maxHeartbeats 4000000 in
theorem picked_at (g : Nat) (cb : Array Value) (p : Zp → Bool) (a : Option Addr) (cap : Nat) (l : List Zp) (w0 w : World) (Inv : World → Prop) (h : ZsAt w0 a l) (hl : l.length ≤ 100000)
  (eg : ∀ args w, (callFunc g args).run Tryz.prog w = .ok (.enter g args) w) (hI0 : Inv w) (hI1 : ∀ W, Inv W → Below w0.heap.size w0 W) (hI2 : ∀ W W', Inv W → Below w.heap.size W W' → Inv W')
  (hcall : ∀ x ∈ l, ∀ (ra : Option Addr) (rc : Nat) (W : World), Inv W → SlAt w0 ra x.1 → w.heap.size ≤ W.heap.size → Calls Tryz.prog g (#[.agg #[.slice ra x.1.length rc, .int .i64 x.2]] ++ cb) W fun e w' => e = .returned (.bool (p x)) ∧ Inv w' ∧ Since w.heap.size W w') :
  Calls Tryz.prog 33 #[.slice a l.length cap, .func (.func g) #[] cb] w fun e w' => ∃ v, e = .returned v ∧ OwnB w0 w.heap.size w' v (l.filter p) ∧ Inv w' ∧ w.heap.size ≤ w'.heap.size := by
 obtain ⟨i0, hi, hj0, hj1, hj2⟩ := info_parts Tryz.info42
 have HC : Hid (∀ x ∈ l, ∀ (ra : Option Addr) (rc : Nat) (W : World), Inv W → SlAt w0 ra x.1 → w.heap.size ≤ W.heap.size → Calls Tryz.prog g (#[.agg #[.slice ra x.1.length rc, .int .i64 x.2]] ++ cb) W fun e w' => e = .returned (.bool (p x)) ∧ Inv w' ∧ Since w.heap.size W w') := hcall
 have H1 : Hid (∀ W, Inv W → Below w0.heap.size w0 W) := hI1
 have H2 : Hid (∀ W W', Inv W → Below w.heap.size W W' → Inv W') := hI2
 clear hcall hI1 hI2
 go_enter Tryz.func33, Tryz.ntmps33
 go_wp2_with fail
 go_loopw [5, 10] (fun v i wr => ∃ k : Nat, k ≤ l.length ∧ i = .int .i64 k ∧ OwnB w0 w.heap.size wr v ((l.take k).filter p) ∧ Hid (Inv wr) ∧ w.heap.size ≤ wr.heap.size) (fun _ i _ => l.length - (intOf i).toNat)
 case atStart => exact ⟨0, Nat.zero_le _, rfl, ⟨[], by simpa using World.ownsRow_nil _ _ _ _, by simp [EncB]⟩, hI0, Nat.le_refl _⟩
 case round =>
  clear hI0
  obtain ⟨k, hk, rfl, HO, HI, hz⟩ := hrel
  by_cases hlt : k < l.length
  ·obtain ⟨b, off, rfl, hbl, d1, ar, cr, d0, sr⟩ := h.elem hlt
   have hB := H1.out _ HI.out
   have c1 := (hB.cell (p := ⟨b, _, none⟩) hbl).trans d1
   have c0 := (hB.cell (p := ⟨b, _, none⟩) hbl).trans d0
   have hbl' : b < wr.heap.size := Nat.lt_of_lt_of_le hbl hB.size
   have hlen : ((l.take k).filter p).length ≤ k := by have := List.length_filter_le p (l.take k); simp only [List.length_take] at this; omega
   have hal : Below wr.heap.size wr (wr.alloc (.cells #[.slice ar l[k].1.length cr, .int .i64 l[k].2] 53)) := (Below.refl _ _).alloc (Nat.le_refl _) _
   have IA : Inv (wr.alloc (.cells #[.slice ar l[k].1.length cr, .int .i64 l[k].2] 53)) := H2.out _ _ HI.out (hal.mono hz)
   have con := HC.out l[k] (List.getElem_mem hlt) ar cr _ IA sr (Nat.le_trans hz hal.size)
   have q0 : (wr.alloc (.cells #[.slice ar l[k].1.length cr, .int .i64 l[k].2] 53)).cell? ⟨wr.heap.size, 0, none⟩ = some (.slice ar l[k].1.length cr) := by simp
   have q1 : (wr.alloc (.cells #[.slice ar l[k].1.length cr, .int .i64 l[k].2] 53)).cell? ⟨wr.heap.size, 1, none⟩ = some (.int .i64 l[k].2) := by simp
   have za : (wr.alloc (.cells #[.slice ar l[k].1.length cr, .int .i64 l[k].2] 53)).heap.size = wr.heap.size + 1 := by simp
   have HS : Hid (SlAt w0 ar l[k].1) := sr
   obtain ⟨xs, ho, he⟩ := HO
   have HE : Hid (EncB w0 xs ((l.take k).filter p)) := he
   have ho1 := own_next ho hal
   clear d0 d1 sr he ho IA
   by_cases hp : p l[k] = true
   ·rw [hp] at con
    have HP : Hid (p l[k] = true) := hp
    clear hp
    go_wp2_with (first | (go_at_fn g; refine con.mono ?_; rintro e w1 ⟨rfl, I1, s1⟩; have r0 := (s1.cell (p := ⟨wr.heap.size, 0, none⟩) hz (by show wr.heap.size < _; omega)).trans q0; have r1 := (s1.cell (p := ⟨wr.heap.size, 1, none⟩) hz (by show wr.heap.size < _; omega)).trans q1; have z1 := s1.1; have o1 := own_since ho1 (Nat.le_refl _) s1) | (at_builtin; refine wpList_append_own _ rfl _ _ 28 rfl w.heap.size 53 i0 _ 2 32 Tryz.underlying28 hi hj0 hj1 hj2 rfl (by decide) _ _ _ rfl (o1.alloc _) ⟨w1.heap.size, 0, none⟩ 1 1 [.slice ar l[k].1.length cr, .int .i64 l[k].2] rfl rfl ?Ac1 ?Ac2 ?Ac3 ?Ac4 ?Ac5 ?_))
    case Ac1 =>
     intro j u hj
     match j, hj with
     | 0, hj => simp at hj; subst hj; simp [Addr.add]
     | 1, hj => simp at hj; subst hj; simp [Addr.add]
    case Ac2 => intro u hu; simp at hu; rcases hu with rfl | rfl <;> rfl
    case Ac3 => unfold maxLen; omega
    case Ac4 => omega
    case Ac5 => simp; omega
    intro v' w5 ho5 hg5 _
    have hb5 : Below w.heap.size w1 w5 := ((Below.refl w.heap.size w1).alloc (by omega) _).grown hg5 (by simp; omega) (fun q hq => ((o1.alloc (.cells #[.slice ar l[k].1.length cr, .int .i64 l[k].2] 53)).lt q hq).1)
    have HI1 : Hid (Inv w5) := H2.out _ _ I1 hb5
    have z5 := hb5.size
    clear hg5 o1 I1 con q0 q1 ho1
    go_wp2_with fail
    go_roundw
    case rel => exact ⟨k + 1, by omega, by go_num, by rw [filter_take p hlt, if_pos HP.out]; exact ⟨_, by simpa using ho5, HE.out.push HS.out⟩, HI1, by omega⟩
    case measure => simp [intOf]; omega
   ·have hp : p l[k] = false := by simpa using hp
    rw [hp] at con
    have HP : Hid (p l[k] = false) := hp
    clear hp
    go_wp2_with (go_at_fn g; refine con.mono ?_; rintro e w1 ⟨rfl, I1, s1⟩)
    have o1 := own_since ho1 (Nat.le_refl _) s1
    have z1 := s1.1
    have HI1 : Hid (Inv w1) := I1
    clear con q0 q1 ho1 I1
    go_roundw
    case rel => exact ⟨k + 1, by omega, by go_num, by rw [filter_take p hlt, HP.out, if_neg (by decide), List.append_nil]; exact ⟨_, o1, HE.out⟩, HI1, by omega⟩
    case measure => simp [intOf]; omega
  ·have e : k = l.length := by omega
   subst e
   rw [List.take_length] at HO
   obtain ⟨av, cv, rfl, _⟩ := HO.zs (H1.out _ HI.out)
   go_wp2_with fail
   go_ret
   exact ⟨_, rfl, HO, HI.out, hz⟩
end Go.Proofs.YtfojonhblblbjaaGreat
/- Slices as cells; appending whatever slice, a nil one too. -/
namespace Go.Proofs.YtfojonhblblbjaaGreat
open Go.RowKit Go.Lib

theorem run_append_none2 {P : Program} {w : World} (base : Nat) (t ty e : TypeId) (i : TypeInfo) (size : Nat) (ht : P.underlying t = some (.slice e)) (hi : P.info? e = some i)
  (v : Value) (n : Nat) (xs : List Value) (hown : w.ownsRow base e size v n xs) (c : Nat) : (Builtin.append_ #[t, t] ty #[v, .slice none 0 c]).run P w = .ok v w := by
 rcases hown.2 with ⟨rfl, rfl⟩ | ⟨g, cap, cur, rfl, _, _, hnc, _⟩
 ·simp [Builtin.append_, run_underlying ht, sizeOf, typeInfo, hi, Builtin.lenOf, Builtin.firstCells]
 ·simp [Builtin.append_, run_underlying ht, sizeOf, typeInfo, hi, Builtin.lenOf, Builtin.firstCells, hnc, storeCells]

/-- Cells behind a slice: n elements of so many cells each. -/
structure Raw (W : World) (a : Option Addr) (n size : Nat) (xs : List Value) : Prop where
 len : xs.length = n * size
 one : ∀ u ∈ xs, u.oneCell' = true
 nil : a = none → n = 0
 at_ : ∀ ad, a = some ad → ∀ j u, xs[j]? = some u → W.cell? (ad.add j) = some u
theorem Raw.next {W w1 : World} {a : Option Addr} {n size : Nat} {xs : List Value} (h : Raw W a n size xs) (hb : Below W.heap.size W w1) : Raw w1 a n size xs :=
 ⟨h.len, h.one, h.nil, fun ad e j u hj => (hb.cell (World.block_lt_of_cell? _ _ (h.at_ ad e j u hj))).trans (h.at_ ad e j u hj)⟩
theorem Raw.alloc {W : World} {a : Option Addr} {n size : Nat} {xs : List Value} (h : Raw W a n size xs) (o : Obj) : Raw (W.alloc o) a n size xs := h.next ((Below.refl _ _).alloc (Nat.le_refl _) _)

theorem wpList_append_raw {P : Program} {w : World} {ops : Array Oper} {rest : List Oper} {o : Oper} {a : Act} {Q : Exit → Act → World → Prop} (hgd : o.guard = none) (s x : Operand) (t : TypeId)
  (ho : o.op = .call { callee := .builtin .append, args := #[s, x], argTypes := #[t, t] })
  (base : Nat) (e : TypeId) (i : TypeInfo) (z : Value) (size bytes : Nat) (ht : P.underlying t = some (.slice e)) (hi : P.info? e = some i) (hz : i.zero = some z)
  (hsize : i.size = size) (hby : i.bytes = bytes) (hzs : z.cells.size = size) (hsz : 0 < size)
  (v : Value) (n : Nat) (xs : List Value) (hs : a.eval s = v) (hown : w.ownsRow base e size v n xs)
  (ao : Option Addr) (m c : Nat) (news : List Value) (hx : a.eval x = .slice ao m c) (hr : Raw w ao m size news)
  (h63 : n + m ≤ maxLen) (hbytes : (n + m) * bytes ≤ 140737488355328) (hbase : base ≤ w.heap.size)
  (h : ∀ v' w', w'.ownsRow base e size v' (n + m) (xs ++ news) → w.grownBy w' v.ownBlock → wpList P ops Q rest (a.put o.dst v') w') : wpList P ops Q (o :: rest) a w := by
 rcases ao with _ | ad
 ·have hm := hr.nil rfl
  subst hm
  have hnews : news = [] := List.eq_nil_of_length_eq_zero (by simpa using hr.len)
  subst hnews
  refine wpList_plain hgd fun K hK' => ?_
  have hrun := run_append_none2 (P := P) (w := w) base t o.type e i size ht hi v n xs hown c
  unfold Oper.wp
  simp [execOp, ho, resolve, invoke, builtin, hs, hx, hrun, Result.andThen]
  exact hK' _ _ (by simpa using h v w (by simpa using hown) (World.grownBy.refl _ _))
 ·exact wpList_append_own _ hgd s x t ho base e i z size bytes ht hi hz hsize hby hzs hsz v n xs hs hown ad m c news hx hr.len (hr.at_ ad rfl) hr.one h63 hbytes hbase (fun v' w' h1 h2 _ => h v' w' h1 h2)
theorem addr_addJ (b off i : Nat) : (⟨b, off, none⟩ : Addr).add i = ⟨b, off + i, none⟩ := by
 unfold Addr.add
 by_cases h : i = 0 <;> simp [h]
/-- The cells of values. -/
def flatV : List Vl → List Value
 | [] => []
 | v :: r => .int .i64 v.1 :: .int .i64 v.2.1 :: .string v.2.2 :: flatV r
theorem flatV_len : ∀ l, (flatV l).length = l.length * 3
 | [] => rfl
 | v :: r => by simp only [flatV, List.length_cons, flatV_len r]; omega
theorem flatV_append : ∀ l t, flatV (l ++ t) = flatV l ++ flatV t
 | [], _ => rfl
 | v :: r, t => by simp only [List.cons_append, flatV, flatV_append r t]
theorem flatV_get : ∀ (l : List Vl) (j : Nat) (h : j < l.length), (flatV l)[j * 3]? = some (.int .i64 l[j].1) ∧ (flatV l)[j * 3 + 1]? = some (.int .i64 l[j].2.1) ∧ (flatV l)[j * 3 + 2]? = some (.string l[j].2.2)
 | [], _, h => by simp at h
 | v :: r, 0, _ => by simp [flatV]
 | v :: r, j + 1, h => by
  have ih := flatV_get r j (by simpa using h)
  have e0 : (j + 1) * 3 = j * 3 + 1 + 1 + 1 := by omega
  have e1 : (j + 1) * 3 + 1 = j * 3 + 1 + 1 + 1 + 1 := by omega
  have e2 : (j + 1) * 3 + 2 = j * 3 + 2 + 1 + 1 + 1 := by omega
  rw [e1, e2, e0]
  simp only [flatV, List.getElem?_cons_succ, List.getElem_cons_succ]
  exact ih
theorem flatV_one : ∀ l, ∀ u ∈ flatV l, u.oneCell' = true
 | [], u, h => by simp [flatV] at h
 | v :: r, u, h => by
  simp only [flatV, List.mem_cons] at h
  rcases h with rfl | rfl | rfl | h
  ·rfl
  ·rfl
  ·rfl
  ·exact flatV_one r u h
theorem raw_vals {W : World} {a : Option Addr} {l : List Vl} (h : SlAt W a l) : Raw W a l.length 3 (flatV l) := by
 refine ⟨flatV_len l, flatV_one l, ?_, ?_⟩
 ·intro e
  rcases h.2 with h | ⟨b, off, e', _⟩
  ·rw [h]; rfl
  ·rw [e] at e'; cases e'
 ·intro ad e j u hj
  have hlt : j < l.length * 3 := by
   rcases Nat.lt_or_ge j (l.length * 3) with h | h
   ·exact h
   ·rw [List.getElem?_eq_none (by rw [flatV_len]; exact h)] at hj; cases hj
  obtain ⟨b, off, e', _, c0, c1, c2⟩ := h.elem (k := j / 3) (by omega)
  rw [e] at e'
  have e' := Option.some.inj e'
  subst e'
  rw [addr_addJ]
  obtain ⟨g0, g1, g2⟩ := flatV_get l (j / 3) (by omega)
  have hm : j % 3 = 0 ∨ j % 3 = 1 ∨ j % 3 = 2 := by omega
  rcases hm with hm | hm | hm
  ·have ej : j = j / 3 * 3 := by omega
   rw [ej, g0] at hj
   rw [← hj, ← c0]; congr 2; omega
  ·have ej : j = j / 3 * 3 + 1 := by omega
   rw [ej, g1] at hj
   rw [← hj, ← c1]; congr 2; omega
  ·have ej : j = j / 3 * 3 + 2 := by omega
   rw [ej, g2] at hj
   rw [← hj, ← c2]; congr 2; omega
theorem own_vals {W : World} {B n : Nat} {v : Value} {l : List Vl} (ho : W.ownsRow B 24 3 v n (flatV l)) (hn : n = l.length) : ∃ a cap, v = .slice a l.length cap ∧ SlAt W a l ∧ TyAt W a ∧ (l.length ≤ cap ∨ a = none) := by
 subst hn
 have ho' := ho
 obtain ⟨hx, ⟨rfl, h0⟩ | ⟨g, cap, cur, rfl, hg, hh, hn, hc, hs, ht⟩⟩ := ho
 ·have : l = [] := List.eq_nil_of_length_eq_zero h0
  subst this
  exact ⟨none, 0, rfl, ⟨by simp, .inl rfl⟩, (fun b off e => by cases e), .inr rfl⟩
 ·refine ⟨_, cap, rfl, ⟨by omega, .inr ⟨g, 0, rfl, fun i hi => ?_, (ho'.lt g rfl).2⟩⟩, ?_, .inl hn⟩
  ·obtain ⟨g0, g1, g2⟩ := flatV_get l i hi
   refine ⟨?_, ?_, ?_⟩
   ·rw [ho'.cellAt _ (by omega), ← g0]; congr 1; omega
   ·rw [ho'.cellAt _ (by omega), ← g1]; congr 1; omega
   ·rw [ho'.cellAt _ (by omega), ← g2]; congr 1; omega
  ·intro b off e
   have e := Option.some.inj e
   injection e with e1 e2
   subst e1
   exact ⟨_, _, hh⟩
end Go.Proofs.YtfojonhblblbjaaGreat
/- The walks of slices.Grow and slices.Concat at rows. -/
namespace Go.Proofs
open Go.Shelf Go.RowKit Go.Lib
shelf_lay_g Lays8.n4 Nm8 4 at Tryz 89 as Tryz.growZ
end Go.Proofs
namespace Go.Proofs.YtfojonhblblbjaaGreat
open Go.RowKit Go.Lib Go.Shelf

theorem src_of {w : World} {a : Option Addr} {l : List Zp} (h : ZsAt w a l) : ∃ news, EncB w news l ∧ (∀ u ∈ news, u.oneCell' = true) ∧ (a = none → l = []) ∧ ∀ ad, a = some ad → ∀ j u, news[j]? = some u → w.cell? (ad.add j) = some u := by
 obtain ⟨d, hd, hdl, hc⟩ := h.arr
 refine ⟨(Go.Sort.flatK (encG w) 2 d).toList, ⟨by simp [hd], fun i hi => ?_⟩, ?_, ?_, ?_⟩
 ·have hi' : i < d.size := by omega
  have e : d[i]! = d[i] := getElem!_pos d i hi'
  have el : plG w d[i] = l[i] := by
   have : l[i] = (d.toList.map (plG w))[i]'(by simpa using hi') := by simp [hdl]
   rw [this]; simp
  refine ⟨d[i].1.a, d[i].1.cap, ?_, ?_, ?_⟩
  ·rw [Array.getElem?_toList, Array.getElem?_eq_getElem (by simp; omega), ← getElem!_pos, flat_even d i hi', e, ← el]; rfl
  ·rw [Array.getElem?_toList, Array.getElem?_eq_getElem (by simp; omega), ← getElem!_pos, flat_odd d i hi', e, ← el]; rfl
  ·rw [← el]; exact d[i].2
 ·intro u hu
  obtain ⟨j, hj, rfl⟩ := List.getElem_of_mem hu
  have hj' : j < d.size * 2 := by simpa using hj
  have e : (Go.Sort.flatK (encG w) 2 d).toList[j] = (Go.Sort.flatK (encG w) 2 d)[j]! := by
   rw [Array.getElem_toList, getElem!_pos]
  rw [e, Go.Sort.get_flatK _ _ _ _ hj']
  rcases Nat.mod_two_eq_zero_or_one j with h0 | h1
  ·rw [h0]; rfl
  ·rw [h1]; rfl
 ·intro e
  rcases hc with h | ⟨b, off, e', _⟩
  ·exact h
  ·rw [e] at e'; cases e'
 ·intro ad e j u hj
  have hj' : j < d.size * 2 := by
   rcases Nat.lt_or_ge j (d.size * 2) with h | h
   ·exact h
   ·rw [List.getElem?_eq_none (by simpa using h)] at hj; cases hj
  rcases hc with h | ⟨b, off, e', hlt, hc⟩
  ·subst h; simp at hd; subst hd; simp at hj'
  ·rw [e] at e'
   injection e' with e'
   subst e'
   rw [addr_add']
   rw [Array.getElem?_toList, Array.getElem?_eq_getElem (by simpa using hj')] at hj
   injection hj with hj
   have := hc j (by omega)
   rwa [getElem!_pos _ _ (by simpa using hj'), hj] at this
end Go.Proofs.YtfojonhblblbjaaGreat
/- slices.Concat at values and at numbers, as cells. -/
namespace Go.Proofs.YtfojonhblblbjaaGreat
open Go.RowKit Go.Lib

def catC (xs ys : List Value) : Nat → List Value
 | 0 => []
 | 1 => xs
 | _ => xs ++ ys
def catN (n m : Nat) : Nat → Nat
 | 0 => 0
 | 1 => n
 | _ => n + m
theorem catN_le (n m k : Nat) : catN n m k ≤ n + m := by
 match k with
 | 0 => simp [catN]
 | 1 => simp [catN]
 | j + 2 => simp [catN]
/-- Two slices lie beside each other. -/
structure PairC (w : World) (B size n m : Nat) (xs ys : List Value) : Prop where
 lt : B < w.heap.size
 at_ : ∀ k, k < 2 → ∃ a cap q cs, w.cell? ⟨B, k, none⟩ = some (.slice a q cap) ∧ Raw w a q size cs ∧ catC xs ys (k + 1) = catC xs ys k ++ cs ∧ catN n m (k + 1) = catN n m k + q
theorem PairC.new {w : World} {size n m : Nat} {xs ys : List Value} {a b : Option Addr} (ca cb : Nat) (h : Raw w a n size xs) (k : Raw w b m size ys) (T : TypeId) :
  PairC (w.alloc (.cells #[.slice a n ca, .slice b m cb] T)) w.heap.size size n m xs ys :=
 ⟨by simp, fun j hj => by
  match j, hj with
  | 0, _ => exact ⟨a, ca, n, xs, by simp, h.alloc _, by simp [catC], by simp [catN]⟩
  | 1, _ => exact ⟨b, cb, m, ys, by simp, k.alloc _, by simp [catC], by simp [catN]⟩⟩
theorem PairC.next {w w1 : World} {B size n m : Nat} {xs ys : List Value} (h : PairC w B size n m xs ys) (hb : Below w.heap.size w w1) : PairC w1 B size n m xs ys :=
 ⟨Nat.lt_of_lt_of_le h.lt hb.size, fun k hk => by
  obtain ⟨a, cap, q, cs, h1, h2, h3, h4⟩ := h.at_ k hk
  exact ⟨a, cap, q, cs, (hb.cell (p := ⟨B, k, none⟩) h.lt).trans h1, h2.next hb, h3, h4⟩⟩
end Go.Proofs.YtfojonhblblbjaaGreat
namespace Go.Proofs
open Go.Shelf Go.RowKit Go.Lib
shelf_lay_g Lays8.n4 Nm8 4 at Tryz 97 as Tryz.growV
end Go.Proofs
namespace Go.Proofs.YtfojonhblblbjaaGreat
open Go.RowKit Go.Lib Go.Shelf
theorem infoV : (Tryz.prog.info? 24).map (fun i => (i.zero, i.size, i.bytes)) = some (some (.agg #[.int .i64 0, .int .i64 0, .string ⟨#[]⟩]), 3, 32) := by kernel_rfl
theorem growV_at (n : Nat) (hn : n ≤ 1000) (w : World) :
  Calls Tryz.prog 97 #[.slice none 0 0, .int .i64 n] w fun e w' => ∃ v, e = .returned v ∧ w'.ownsRow w.heap.size 24 3 v 0 [] ∧ Below w.heap.size w w' := by
 obtain ⟨i0, hi, hj0, hj1, hj2⟩ := info_parts infoV
 by_cases h0 : n = 0
 ·subst h0
  refine (Any8.slices_Grow_room Tryz.growV none 0 0 0 w (by omega) (by omega) (by omega) (by omega)).mono ?_
  rintro e w' ⟨rfl, rfl⟩
  exact ⟨_, rfl, World.ownsRow_nil _ _ _ _, Below.refl _ _⟩
 ·refine (Any8.slices_Grow_grow Tryz.growV i0 _ hi hj0 (by rw [hj1]; omega) none 0 0 n [] w (by omega) (by omega) (by rw [hj2]; omega) (by omega) (by simp) (by simp) (by intro a e; cases e)).mono ?_
  rintro e w' ⟨rfl, rfl⟩
  refine ⟨_, rfl, ?_, ((Below.refl _ _).drew).alloc (Nat.le_refl _) _⟩
  rw [Nat.zero_add]
  have hc := grownCap_ge w n 0 24
  have hm := grownCap_le_maxLen w n 0 24 (by unfold maxLen; omega)
  have := World.ownsRow_made (w := w.drew) (base := w.heap.size) (e := 24) (size := 3) (cur := [].toArray ++ Builtin.zeroCells (Value.agg #[.int .i64 0, .int .i64 0, .string ⟨#[]⟩]).cells (n - 0) ++ Builtin.zeroCells (Value.agg #[.int .i64 0, .int .i64 0, .string ⟨#[]⟩]).cells (grownCap w n 0 24 - n)) (cap := grownCap w n 0 24) (Nat.le_refl _) hm (by simp [size_zeroCells, Value.cells]; omega)
  exact this

set_option maxRecDepth 100000 in
set_option maxHeartbeats 4000000 in
theorem concatV_at (B : Nat) (n m : Nat) (xs ys : List Value) (w : World) (h : PairC w B 3 n m xs ys) (hl : n + m ≤ 1000) :
  Calls Tryz.prog 57 #[.slice (some ⟨B, 0, none⟩) 2 2] w fun e w' => ∃ v, e = .returned v ∧ w'.ownsRow w.heap.size 24 3 v (n + m) (xs ++ ys) ∧ Below w.heap.size w w' := by
 obtain ⟨i0, hi, hj0, hj1, hj2⟩ := info_parts infoV
 go_enter Tryz.func57, Tryz.ntmps57
 go_wp2_with fail
 go_loopw [3, 11] (fun sz i wr => ∃ k : Nat, k ≤ 2 ∧ i = .int .i64 k ∧ sz = .int .i64 (catN n m k : Int) ∧ wr = w) (fun _ i _ => 2 - (intOf i).toNat)
 case atStart => exact ⟨0, by omega, rfl, rfl, rfl⟩
 case round =>
  obtain ⟨k, hk, rfl, rfl, rfl⟩ := hrel
  have hcl := catN_le n m k
  by_cases hlt : k < 2
  ·obtain ⟨a, cap, q, cs, c0, zs, hcat, hcn⟩ := h.at_ k hlt
   have hcl2 := catN_le n m (k + 1)
   rw [hcn] at hcl2
   have HCat : Hid (catN n m (k + 1) = catN n m k + q) := hcn
   clear hcat hcn
   generalize hq : catN n m k = r at *
   have HQ : Hid (catN n m k = r) := hq
   clear hq
   go_wp2_with fail
   go_roundw
   case rel => exact ⟨k + 1, by omega, by go_num, by rw [HCat.out]; go_num, by first | rfl | trivial⟩
   case measure => simp [intOf]; omega
  ·have e : k = 2 := by omega
   subst e
   have el : (catN n m 2 : Int) = ((n + m : Nat) : Int) := rfl
   have gc := growV_at (n + m) (by omega) wr
   rw [Int.natCast_add] at gc
   rw [Int.natCast_add] at el
   go_wp2_with fail
   refine gc.mono ?_
   clear gc el
   rintro e w1 ⟨v, rfl, ho, hb1⟩
   have hsh : ∃ a c, v = .slice a 0 c := by
    obtain ⟨_, ⟨rfl, h0⟩ | ⟨g, c1, cur, rfl, _⟩⟩ := ho
    ·exact ⟨none, 0, rfl⟩
    ·exact ⟨_, c1, rfl⟩
   obtain ⟨a1, c1, rfl⟩ := hsh
   go_wp2_with fail
   generalize hw0 : wr = w0 at *
   have HW0 : Hid (wr = w0) := hw0
   clear hw0
   go_loopw [6, 27] (fun v i ws => ∃ k : Nat, k ≤ 2 ∧ i = .int .i64 k ∧ ws.ownsRow w0.heap.size 24 3 v (catN n m k) (catC xs ys k) ∧ Below w0.heap.size w0 ws) (fun _ i _ => 2 - (intOf i).toNat)
   case atStart => exact ⟨0, by omega, rfl, ho, hb1⟩
   case round =>
    clear ho
    obtain ⟨k, hk, rfl, ho, hb⟩ := hrel
    have hz := hb.size
    by_cases hlt : k < 2
    ·obtain ⟨a, cap, q, cs, c0, zs, hcat, hcn⟩ := h.at_ k hlt
     have hcl2 := catN_le n m (k + 1)
     rw [hcn] at hcl2
     have HCat : Hid (catC xs ys (k + 1) = catC xs ys k ++ cs) := hcat
     have HCn : Hid (catN n m (k + 1) = catN n m k + q) := hcn
     clear hcat hcn
     have c0' := (hb.cell (p := ⟨B, k, none⟩) h.lt).trans c0
     have zs' : Raw wr a q 3 cs := ⟨zs.len, zs.one, zs.nil, fun ad e j u hj => (hb.cell (World.block_lt_of_cell? _ _ (zs.at_ ad e j u hj))).trans (zs.at_ ad e j u hj)⟩
     clear c0 zs
     generalize catC xs ys k = xk at *
     generalize catN n m k = nk at *
     go_wp2_with (at_builtin; refine wpList_append_raw rfl _ _ 51 rfl w0.heap.size 24 i0 _ 3 32 Tryz.underlying51 hi hj0 hj1 hj2 rfl (by decide) _ _ _ rfl ho a q cap cs rfl zs' (by unfold maxLen; omega) (by omega) (by omega) ?_)
     intro v' w5 ho5 hg5
     have hb5 : Below w0.heap.size w0 w5 := hb.grown hg5 hz (fun q hq => (ho.lt q hq).1)
     clear hg5 ho
     go_wp2_with fail
     go_roundw
     case rel => exact ⟨k + 1, by omega, by go_num, by rw [HCat.out, HCn.out]; exact ho5, hb5⟩
     case measure => simp [intOf]; omega
    ·have e : k = 2 := by omega
     subst e
     have hsh : ∃ a c, u6 = .slice a (n + m) c := by
      obtain ⟨_, ⟨e, h0⟩ | ⟨g, c1, cur, e, _⟩⟩ := ho
      ·have h0 : n + m = 0 := h0
       exact ⟨none, 0, by rw [e, h0]⟩
      ·exact ⟨_, c1, e⟩
     obtain ⟨a6, c6, rfl⟩ := hsh
     go_wp2_with fail
     go_ret
     exact ⟨_, rfl, by rw [HW0.out]; exact ho, by rw [HW0.out]; exact hb⟩
end Go.Proofs.YtfojonhblblbjaaGreat
/- slices.Concat at numbers. -/
namespace Go.Proofs
open Go.Shelf Go.RowKit Go.Lib
shelf_lay_g Lays8.n4 Nm8 4 at Tryz 158 as Tryz.growI
end Go.Proofs
namespace Go.Proofs.YtfojonhblblbjaaGreat
open Go.RowKit Go.Lib Go.Shelf
theorem infoI : (Tryz.prog.info? 3).map (fun i => (i.zero, i.size, i.bytes)) = some (some (.int .i64 0), 1, 8) := by kernel_rfl
end Go.Proofs.YtfojonhblblbjaaGreat
