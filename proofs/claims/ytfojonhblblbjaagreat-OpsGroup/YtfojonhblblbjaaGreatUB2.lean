/- Together: Z2, Z3, X0, W2, Y1, W6, W7. -/
import Derived.Test.YtfojonhblblbjaaGreatUB1
import Derived.Test.YtfojonhblblbjaaGreatUB0
/- Rows with weights in memory; the walks of zsets.Wrong and of its fellow in the document's answer. -/
namespace Go.Proofs.YtfojonhblblbjaaGreat
open Go.RowKit

/-- A row with its weight. -/
abbrev Zp : Type := List Vl × Int
/-- A row's two cells at a place. -/
def ElAt (W : World) (b off : Nat) (x : Zp) : Prop :=
 W.cell? ⟨b, off + 1, none⟩ = some (.int .i64 x.2) ∧ ∃ a cap, W.cell? ⟨b, off, none⟩ = some (.slice a x.1.length cap) ∧ SlAt W a x.1
theorem ElAt.next {W w1 : World} {b off : Nat} {x : Zp} (h : ElAt W b off x) (hlt : b < W.heap.size) (hb : Below W.heap.size W w1) : ElAt w1 b off x := by
 obtain ⟨h1, a, cap, h2, h3⟩ := h
 exact ⟨(hb.cell (p := ⟨b, _, none⟩) hlt).trans h1, a, cap, (hb.cell (p := ⟨b, _, none⟩) hlt).trans h2, h3.next hb⟩
/-- A slice holds these rows: it is empty, or leads to them. -/
def ZsAt (W : World) (a : Option Addr) (l : List Zp) : Prop :=
 l.length ≤ maxLen ∧ (l = [] ∨ ∃ b off, a = some ⟨b, off, none⟩ ∧ b < W.heap.size ∧ ∀ (i : Nat) (h : i < l.length), ElAt W b (off + i * 2) l[i])
theorem ZsAt.next {W w1 : World} {a : Option Addr} {l : List Zp} (h : ZsAt W a l) (hb : Below W.heap.size W w1) : ZsAt w1 a l := by
 obtain ⟨h0, h | ⟨b, off, e, hlt, hr⟩⟩ := h
 ·exact ⟨h0, .inl h⟩
 ·exact ⟨h0, .inr ⟨b, off, e, Nat.lt_of_lt_of_le hlt hb.size, fun i hi => (hr i hi).next hlt hb⟩⟩
theorem ZsAt.elem {W : World} {a : Option Addr} {l : List Zp} (h : ZsAt W a l) {k : Nat} (hk : k < l.length) :
  ∃ b off, a = some ⟨b, off, none⟩ ∧ b < W.heap.size ∧ ElAt W b (off + k * 2) l[k] := by
 obtain ⟨_, h | ⟨b, off, e, hlt, hr⟩⟩ := h
 ·subst h; simp at hk
 ·exact ⟨b, off, e, hlt, hr k hk⟩
/-- .. at two places. -/
theorem ZsAt.elem2 {W : World} {a : Option Addr} {l : List Zp} (h : ZsAt W a l) {j k : Nat} (hj : j < l.length) (hk : k < l.length) :
  ∃ b off, a = some ⟨b, off, none⟩ ∧ b < W.heap.size ∧ ElAt W b (off + j * 2) l[j] ∧ ElAt W b (off + k * 2) l[k] := by
 obtain ⟨_, h | ⟨b, off, e, hlt, hr⟩⟩ := h
 ·subst h; simp at hk
 ·exact ⟨b, off, e, hlt, hr j hj, hr k hk⟩

/-- What is wrong with rows behind a row: 0, if nothing is. -/
def goW : Option (List Vl) → List Zp → Int
 | _, [] => 0
 | p, x :: r => if wrongRowF x.1 = 0 then (if x.2 = 0 ∨ inW x.2 = false then 3 else if ∃ q, p = some q ∧ 0 ≤ cmpL q x.1 then 2 else goW (some x.1) r) else wrongRowF x.1
def wrongZ (l : List Zp) : Int := if 400 < l.length then 5 else goW none l
def prevOf (l : List Zp) (k : Nat) : Option (List Vl) := if k = 0 then none else (l[k - 1]?).map (·.1)
theorem prevOf_succ (l : List Zp) (k : Nat) (h : k < l.length) : prevOf l (k + 1) = some l[k].1 := by simp [prevOf, h]
theorem prevOf_pos (l : List Zp) (k : Nat) (h : k < l.length) (h0 : 0 < k) : prevOf l k = some (l[k - 1]'(by omega)).1 := by
 obtain ⟨j, rfl⟩ : ∃ j, k = j + 1 := ⟨k - 1, by omega⟩
 exact prevOf_succ l j (by omega)
theorem goW_end (l : List Zp) (k : Nat) (h : l.length ≤ k) : goW (prevOf l k) (l.drop k) = 0 := by rw [List.drop_eq_nil_of_le h]; rfl
theorem goW_row (l : List Zp) (k : Nat) (h : k < l.length) (hw : ¬ wrongRowF l[k].1 = 0) : goW (prevOf l k) (l.drop k) = wrongRowF l[k].1 := by
 rw [List.drop_eq_getElem_cons h, goW, if_neg hw]
theorem goW_zero (l : List Zp) (k : Nat) (h : k < l.length) (hw : wrongRowF l[k].1 = 0) (h0 : l[k].2 = 0 ∨ inW l[k].2 = false) : goW (prevOf l k) (l.drop k) = 3 := by
 rw [List.drop_eq_getElem_cons h, goW, if_pos hw, if_pos h0]
theorem goW_form (l : List Zp) (k : Nat) (h : k < l.length) (hw : wrongRowF l[k].1 = 0) (h0 : ¬ l[k].2 = 0) (h1 : inW l[k].2 = true) (hp : 0 < k) (hc : 0 ≤ cmpL (l[k - 1]'(by omega)).1 l[k].1) : goW (prevOf l k) (l.drop k) = 2 := by
 rw [List.drop_eq_getElem_cons h, goW, if_pos hw, if_neg (by simp [h0, h1]), if_pos ⟨_, prevOf_pos l k h hp, hc⟩]
theorem goW_next (l : List Zp) (k : Nat) (h : k < l.length) (hw : wrongRowF l[k].1 = 0) (h0 : ¬ l[k].2 = 0) (h1 : inW l[k].2 = true) (hc : ∀ _ : 0 < k, ¬ 0 ≤ cmpL (l[k - 1]'(by omega)).1 l[k].1) : goW (prevOf l k) (l.drop k) = goW (prevOf l (k + 1)) (l.drop (k + 1)) := by
 rw [List.drop_eq_getElem_cons h, goW, if_pos hw, if_neg (by simp [h0, h1]), prevOf_succ l k h]
 rw [if_neg]
 rintro ⟨q, hq, hc'⟩
 by_cases hp : 0 < k
 ·rw [prevOf_pos l k h hp] at hq
  injection hq with hq
  subst hq
  exact hc hp hc'
 ·have : k = 0 := by omega
  subst this
  simp [prevOf] at hq

theorem chain2 {w wr w2 : World} {o : Obj} (hb : Below w.heap.size w wr) (h2 : Below (wr.alloc o).heap.size (wr.alloc o) w2) : Below w.heap.size w w2 :=
 hb.trans (((Below.refl _ _).alloc hb.size _).trans (h2.mono (by have := hb.size; simp; omega)))
theorem chain1 {w wr w2 : World} (hb : Below w.heap.size w wr) (h2 : Below wr.heap.size wr w2) : Below w.heap.size w w2 :=
 hb.trans (h2.mono hb.size)

set_option maxHeartbeats 2000000 in
theorem zWrong_at (a : Option Addr) (cap : Nat) (l : List Zp) (w : World) (h : ZsAt w a l) :
  Calls Tryz.prog 68 #[.slice a l.length cap] w fun e w' => e = .returned (.int .i64 (wrongZ l)) ∧ Below w.heap.size w w' := by
 have hl := h.1
 unfold maxLen at hl
 by_cases h8 : 400 < l.length
 ·have e : wrongZ l = 5 := by simp [wrongZ, h8]
  rw [e]
  clear e
  go_enter Tryz.func68, Tryz.ntmps68
  go_wp2_with fail
  go_ret
  exact ⟨rfl, Below.refl _ _⟩
 ·have e : wrongZ l = goW none l := by simp [wrongZ, h8]
  rw [e]
  clear e
  go_enter Tryz.func68, Tryz.ntmps68
  go_wp2_with fail
  go_loopw [11] (fun i w1 => ∃ k : Nat, k ≤ l.length ∧ i = .int .i64 k ∧ Hid (goW none l = goW (prevOf l k) (l.drop k)) ∧ Below w.heap.size w w1) (fun i _ => l.length - (intOf i).toNat)
  case atStart => exact ⟨0, Nat.zero_le _, rfl, rfl, Below.refl _ _⟩
  case round =>
   obtain ⟨k, hk, rfl, HC, hb⟩ := hrel
   have hz := hb.size
   by_cases hlt : k < l.length
   ·obtain ⟨b, off, rfl, hbl, c1, ar, cr, c0, sr⟩ := (h.next hb).elem hlt
    have HZ : Hid (ZsAt w (some ⟨b, off, none⟩) l) := h
    clear h
    by_cases hw : wrongRowF l[k].1 = 0
    ·have Hw : Hid (wrongRowF l[k].1 = 0) := hw
     clear hw
     go_wp2_with fail
     refine (wrongRow_at _ _ _ _ (sr.next ((Below.refl _ _).alloc (Nat.le_refl _) _))).mono ?_
     rintro e w1 ⟨rfl, hb1⟩
     rw [Hw.out]
     have hb1' := chain2 hb hb1
     have hz1 : wr.heap.size < w1.heap.size := by have := hb1.size; simp at this; omega
     have e0 : w1.cell? ⟨wr.heap.size, 0, none⟩ = some (.slice ar l[k].1.length cr) := (hb1.cell (p := ⟨wr.heap.size, 0, none⟩) (by simp)).trans (by simp)
     have e1 : w1.cell? ⟨wr.heap.size, 1, none⟩ = some (.int .i64 l[k].2) := (hb1.cell (p := ⟨wr.heap.size, 1, none⟩) (by simp)).trans (by simp)
     by_cases h0 : l[k].2 = 0
     ·have HN : Hid (goW none l = 3) := HC.out.trans (goW_zero l k hlt Hw.out (.inl h0))
      go_wp2_with fail
      go_ret
      exact ⟨ret_int HN.out.symm, hb1'⟩
     ·have g0 : (l[k].2 == 0) = false := by simpa using h0
      cases h1 : inW l[k].2
      ·have HN : Hid (goW none l = 3) := HC.out.trans (goW_zero l k hlt Hw.out (.inr h1))
       have H1 : Hid (inW l[k].2 = false) := h1
       clear h1
       go_wp2_with fail
       refine (zInRange_any _ _).mono ?_
       rintro e w2 ⟨rfl, rfl⟩
       rw [H1.out]
       go_wp2_with fail
       go_ret
       exact ⟨ret_int HN.out.symm, hb1'⟩
      ·have H1 : Hid (inW l[k].2 = true) := h1
       clear h1
       by_cases hp : 0 < k
       ·obtain ⟨b', off', hh, hbl', ⟨d1, ap, cp, d0, sp⟩, -⟩ := (HZ.out.next hb1').elem2 (j := k - 1) (k := k) (by omega) hlt
        simp only [Option.some.injEq, Addr.mk.injEq] at hh
        obtain ⟨rfl, rfl, -⟩ := hh
        have sr1 := (sr.next ((Below.refl _ _).alloc (Nat.le_refl _) _)).next hb1
        have i0 : (0 : Int) < (k : Int) := by omega
        have i1 : (0 : Int) ≤ (k : Int) - 1 := by omega
        have i2 : (k : Int) - 1 < (l.length : Int) := by omega
        have i3 : ((k : Int) - 1).toNat = k - 1 := by omega
        have p0 := past_cell d0
        have p1 := past_cell e0
        have p2 := past_cell e1
        haveI : Nonempty (Past w1) := ⟨⟨w1, Below.refl _ _⟩⟩
        by_cases hc : 0 ≤ cmpL (l[k - 1]'(by omega)).1 l[k].1
        ·have HN : Hid (goW none l = 2) := HC.out.trans (goW_form l k hlt Hw.out h0 H1.out hp hc)
         go_wp2_with fail
         refine (zInRange_any _ _).mono ?_
         rintro e w2 ⟨rfl, rfl⟩
         rw [H1.out]
         go_wp2_with fail
         refine wp_region_past (by kernel_rfl) (by kernel_rfl) ?_
         repeat (go_big_quiet_step (first | (go_at_call 84; exact in_past (rows_at _ _ _ _ _ _ _ (sp.next (Past.ok _)) (sr1.next (Past.ok _))))))
         refine wpQuiet_nil ?_
         rintro _ ⟨⟨w2, hb2⟩, rfl⟩
         go_wp2_with fail
         go_ret
         exact ⟨ret_int HN.out.symm, chain1 hb1' hb2⟩
        ·have HN : Hid (goW none l = goW (prevOf l (k + 1)) (l.drop (k + 1))) := HC.out.trans (goW_next l k hlt Hw.out h0 H1.out (fun _ => hc))
         have hc' : cmpL (l[k - 1]'(by omega)).1 l[k].1 < 0 := by omega
         go_wp2_with fail
         refine (zInRange_any _ _).mono ?_
         rintro e w2 ⟨rfl, rfl⟩
         rw [H1.out]
         go_wp2_with fail
         refine wp_region_past (by kernel_rfl) (by kernel_rfl) ?_
         repeat (go_big_quiet_step (first | (go_at_call 84; exact in_past (rows_at _ _ _ _ _ _ _ (sp.next (Past.ok _)) (sr1.next (Past.ok _))))))
         refine wpQuiet_nil ?_
         rintro _ ⟨⟨w2, hb2⟩, rfl⟩
         go_wp2_with fail
         go_roundw
         case rel => exact ⟨k + 1, by omega, by go_num, HN.out, chain1 hb1' hb2⟩
         case measure => simp [intOf]; omega
       ·have k0 : k = 0 := by omega
        subst k0
        have HN : Hid (goW none l = goW (prevOf l (0 + 1)) (l.drop (0 + 1))) := HC.out.trans (goW_next l 0 hlt Hw.out h0 H1.out (fun h => absurd h hp))
        haveI : Nonempty (Past w1) := ⟨⟨w1, Below.refl _ _⟩⟩
        go_wp2_with fail
        refine (zInRange_any _ _).mono ?_
        rintro e w2 ⟨rfl, rfl⟩
        rw [H1.out]
        go_wp2_with fail
        refine wp_region_past (by kernel_rfl) (by kernel_rfl) ?_
        repeat (go_big_quiet_step (fail))
        refine wpQuiet_nil ?_
        rintro _ ⟨⟨w2, hb2⟩, rfl⟩
        go_wp2_with fail
        go_roundw
        case rel => exact ⟨0 + 1, by omega, by go_num, HN.out, chain1 hb1' hb2⟩
        case measure => simp [intOf]; omega
    ·have Hw : Hid (¬ wrongRowF l[k].1 = 0) := hw
     have hne : (wrongRowF l[k].1 != 0) = true := by simpa using hw
     have HN : Hid (goW none l = wrongRowF l[k].1) := HC.out.trans (goW_row l k hlt hw)
     clear hw
     go_wp2_with fail
     refine (wrongRow_at _ _ _ _ (sr.next ((Below.refl _ _).alloc (Nat.le_refl _) _))).mono ?_
     rintro e w1 ⟨rfl, hb1⟩
     go_wp2_with fail
     go_ret
     exact ⟨ret_int HN.out.symm, chain2 hb hb1⟩
   ·go_wp2_with fail
    go_ret
    exact ⟨ret_int (by rw [HC.out, goW_end l k (by omega)]), hb⟩
end Go.Proofs.YtfojonhblblbjaaGreat
/- Rows with weights in memory of a call's own; the walk of zsets.bareRow. -/
namespace Go.Proofs.YtfojonhblblbjaaGreat
open Go.RowKit

theorem Tryz.info42 : (Tryz.prog.info? 53).map (fun i => (i.zero, i.size, i.bytes)) = some (some (.agg #[.slice none 0 0, .int .i64 0]), 2, 32) := by kernel_rfl
theorem Tryz.info49 : (Tryz.prog.info? 24).map (fun i => (i.zero, i.size, i.bytes)) = some (some (.agg #[.int .i64 0, .int .i64 0, .string ⟨#[]⟩]), 3, 32) := by kernel_rfl

def bareP (v : Vl) : Vl := (v.1, bareN v.1 v.2.1, bareS v.1 v.2.2)
def bareL (l : List Vl) : List Vl := l.map bareP

/-- The block to which a slice of values leads is one of values. -/
def TyAt (W : World) (a : Option Addr) : Prop := ∀ b off, a = some ⟨b, off, none⟩ → ∃ c z, W.heap[b]? = some (.cells c 24 z)
theorem TyAt.next {W w1 : World} {a : Option Addr} (h : TyAt W a) (hb : Below W.heap.size W w1) : TyAt w1 a := by
 intro b off e
 obtain ⟨c, z, h1⟩ := h b off e
 have hlt : b < W.heap.size := by
  rcases Nat.lt_or_ge b W.heap.size with h | h
  ·exact h
  ·rw [Array.getElem?_eq_none h] at h1; cases h1
 exact ⟨c, z, (hb.block b hlt).trans h1⟩

theorem grown_of_below {W w1 : World} (hb : Below W.heap.size W w1) (row : Option Nat) : W.grownBy w1 row := ⟨hb.os, hb.tape, hb.output, hb.size, fun k hk _ => hb.block k hk⟩
theorem own_next {W w1 : World} {base e size n : Nat} {v : Value} {xs : List Value} (h : W.ownsRow base e size v n xs) (hb : Below W.heap.size W w1) : w1.ownsRow base e size v n xs := by
 refine h.kept (grown_of_below hb none) ?_
 cases v.ownBlock <;> simp

/-- Cells that hold rows with weights, whose values lie in blocks of values. -/
def EncT (W : World) (xs : List Value) (l : List Zp) : Prop :=
 xs.length = l.length * 2 ∧ ∀ (i : Nat) (h : i < l.length), ∃ a cap, xs[i * 2]? = some (.slice a l[i].1.length cap) ∧ xs[i * 2 + 1]? = some (.int .i64 l[i].2) ∧ SlAt W a l[i].1 ∧ TyAt W a
theorem EncT.next {W w1 : World} {xs : List Value} {l : List Zp} (h : EncT W xs l) (hb : Below W.heap.size W w1) : EncT w1 xs l :=
 ⟨h.1, fun i hi => by
  obtain ⟨a, cap, h1, h2, h3, h4⟩ := h.2 i hi
  exact ⟨a, cap, h1, h2, h3.next hb, h4.next hb⟩⟩
/-- A slice of a call's own holds these rows. -/
def OwnZ (base : Nat) (W : World) (v : Value) (l : List Zp) : Prop := ∃ xs, W.ownsRow base 53 2 v l.length xs ∧ EncT W xs l
theorem OwnZ.next {base : Nat} {W w1 : World} {v : Value} {l : List Zp} (h : OwnZ base W v l) (hb : Below W.heap.size W w1) : OwnZ base w1 v l := by
 obtain ⟨xs, h1, h2⟩ := h
 exact ⟨xs, own_next h1 hb, h2.next hb⟩
theorem OwnZ.mono {base base' : Nat} {W : World} {v : Value} {l : List Zp} (h : OwnZ base W v l) (hb : base' ≤ base) : OwnZ base' W v l := by
 obtain ⟨xs, ⟨h0, h1⟩, h2⟩ := h
 refine ⟨xs, ⟨h0, ?_⟩, h2⟩
 rcases h1 with h1 | ⟨g, cap, cur, e, hg, h3⟩
 ·exact .inl h1
 ·exact .inr ⟨g, cap, cur, e, Nat.le_trans hb hg, h3⟩
theorem OwnZ.zs {base : Nat} {W : World} {v : Value} {l : List Zp} (h : OwnZ base W v l) : ∃ a cap, v = .slice a l.length cap ∧ ZsAt W a l := by
 obtain ⟨xs, h1, h2⟩ := h
 have h1' := h1
 obtain ⟨hx, h1 | ⟨g, cap, cur, e, hg, hh, hn, hc, hs, ht⟩⟩ := h1
 ·obtain ⟨rfl, h0⟩ := h1
  have : l = [] := List.eq_nil_of_length_eq_zero h0
  subst this
  exact ⟨none, 0, rfl, Nat.zero_le _, .inl rfl⟩
 ·subst e
  refine ⟨_, cap, rfl, Nat.le_trans hn hc, .inr ⟨g, 0, rfl, ?_, ?_⟩⟩
  ·exact (h1'.lt g rfl).2
  ·intro i hi
   obtain ⟨a, cp, e0, e1, e2, e3⟩ := h2.2 i hi
   refine ⟨?_, a, cp, ?_, e2⟩
   ·rw [h1'.cellAt _ (by omega), ← e1]; congr 1; omega
   ·rw [h1'.cellAt _ (by omega), ← e0]; congr 1; omega

theorem sl_grown {W w1 : World} {base n : Nat} {v : Value} {xs : List Value} {a : Option Addr} {r : List Vl} (h : SlAt W a r) (ht : TyAt W a) (ho : W.ownsRow base 53 2 v n xs) (hg : W.grownBy w1 v.ownBlock) : SlAt w1 a r ∧ TyAt w1 a := by
 have key : ∀ b off, a = some ⟨b, off, none⟩ → w1.heap[b]? = W.heap[b]? := by
  intro b off e
  obtain ⟨c, z, h1⟩ := ht b off e
  have hlt : b < W.heap.size := by
   rcases Nat.lt_or_ge b W.heap.size with h | h
   ·exact h
   ·rw [Array.getElem?_eq_none h] at h1; cases h1
  refine hg.block b hlt ?_
  obtain ⟨_, ⟨rfl, _⟩ | ⟨g, cap, cur, rfl, _, hh, _⟩⟩ := ho
  ·simp [Value.ownBlock]
  ·simp only [Value.ownBlock]
   intro e
   injection e with e
   subst e
   rw [hh] at h1
   simp at h1
 refine ⟨⟨h.1, ?_⟩, ?_⟩
 ·rcases h.2 with h | ⟨b, off, e, hr, hlt⟩
  ·exact .inl h
  ·refine .inr ⟨b, off, e, fun i hi => ?_, Nat.lt_of_lt_of_le hlt hg.size⟩
   have k := key b off e
   obtain ⟨c0, c1, c2⟩ := hr i hi
   exact ⟨(World.cell?_of_block (a := ⟨b, _, none⟩) k).trans c0, (World.cell?_of_block (a := ⟨b, _, none⟩) k).trans c1, (World.cell?_of_block (a := ⟨b, _, none⟩) k).trans c2⟩
 ·intro b off e
  obtain ⟨c, z, h1⟩ := ht b off e
  exact ⟨c, z, (key b off e).trans h1⟩
/-- One row more. -/
theorem own_push {W w1 : World} {base : Nat} {v v' : Value} {xs : List Value} {l : List Zp} {a : Option Addr} {cap : Nat} {r : List Vl} {x : Int}
  (ho : W.ownsRow base 53 2 v l.length xs) (he : EncT W xs l) (hs : SlAt W a r) (ht : TyAt W a)
  (ho' : w1.ownsRow base 53 2 v' (l.length + 1) (xs ++ [.slice a r.length cap, .int .i64 x])) (hg : W.grownBy w1 v.ownBlock) : OwnZ base w1 v' (l ++ [(r, x)]) := by
 refine ⟨_, by simpa using ho', by simp [he.1]; omega, ?_⟩
 intro i hi
 by_cases hi' : i < l.length
 ·obtain ⟨a', c', h1, h2, h3, h4⟩ := he.2 i hi'
  have g := sl_grown h3 h4 ho hg
  have lx := he.1
  refine ⟨a', c', ?_, ?_, ?_, g.2⟩
  ·rw [List.getElem?_append_left (by omega), h1, List.getElem_append_left hi']
  ·rw [List.getElem?_append_left (by omega), h2, List.getElem_append_left hi']
  ·rw [List.getElem_append_left hi']; exact g.1
 ·have : i = l.length := by simp at hi; omega
  subst this
  have lx := he.1
  have g := sl_grown hs ht ho hg
  refine ⟨a, cap, ?_, ?_, ?_, g.2⟩
  ·rw [List.getElem?_append_right (by omega)]; simp [lx]
  ·rw [List.getElem?_append_right (by omega)]; simp [lx]
  ·simpa using g.1

/-- What the making of bare values has come to: k of them are there. -/
def BareTo (W : World) (B n : Nat) (l : List Vl) (k : Nat) : Prop := ∃ xs, W.ownsRow B 24 3 (.slice (some ⟨B, 0, none⟩) n n) n xs ∧ ∀ (j : Nat) (h : j < l.length), j < k → xs[j * 3]? = some (.int .i64 (bareP l[j]).1) ∧ xs[j * 3 + 1]? = some (.int .i64 (bareP l[j]).2.1) ∧ xs[j * 3 + 2]? = some (.string (bareP l[j]).2.2)
theorem BareTo.step {W : World} {B n : Nat} {l : List Vl} {k : Nat} (h : BareTo W B n l k) (hk : k < l.length) (hn : n = l.length) :
  BareTo (((W.setCell ⟨B, k * 3, none⟩ (.int .i64 (bareP l[k]).1)).setCell ⟨B, k * 3 + 1, none⟩ (.int .i64 (bareP l[k]).2.1)).setCell ⟨B, k * 3 + 2, none⟩ (.string (bareP l[k]).2.2)) B n l (k + 1) := by
 obtain ⟨xs, h1, h2⟩ := h
 have lx := h1.1
 refine ⟨_, ((((h1.stored (k * 3) _).1.stored (k * 3 + 1) _).1).stored (k * 3 + 2) _).1, ?_⟩
 intro j hj hjk
 by_cases e : j = k
 ·subst e
  refine ⟨?_, ?_, ?_⟩ <;> simp [List.getElem?_set, lx, hn] <;> omega
 ·obtain ⟨g0, g1, g2⟩ := h2 j hj (by omega)
  refine ⟨?_, ?_, ?_⟩
  ·rw [List.getElem?_set_ne (by omega), List.getElem?_set_ne (by omega), List.getElem?_set_ne (by omega)]; exact g0
  ·rw [List.getElem?_set_ne (by omega), List.getElem?_set_ne (by omega), List.getElem?_set_ne (by omega)]; exact g1
  ·rw [List.getElem?_set_ne (by omega), List.getElem?_set_ne (by omega), List.getElem?_set_ne (by omega)]; exact g2
theorem BareTo.next {W w1 : World} {B n : Nat} {l : List Vl} {k : Nat} (h : BareTo W B n l k) (hb : Below W.heap.size W w1) : BareTo w1 B n l k := by
 obtain ⟨xs, h1, h2⟩ := h
 exact ⟨xs, own_next h1 hb, h2⟩
theorem BareTo.cells {W : World} {B n : Nat} {l : List Vl} {k : Nat} (h : BareTo W B n l k) (hk : k < n) : (∃ u0 u1 u2, W.cell? ⟨B, k * 3, none⟩ = some u0 ∧ W.cell? ⟨B, k * 3 + 1, none⟩ = some u1 ∧ W.cell? ⟨B, k * 3 + 2, none⟩ = some u2) ∧ W.frozen? ⟨B, k * 3, none⟩ = false ∧ W.frozen? ⟨B, k * 3 + 1, none⟩ = false ∧ W.frozen? ⟨B, k * 3 + 2, none⟩ = false ∧ B < W.heap.size := by
 obtain ⟨xs, h1, h2⟩ := h
 have lx := h1.1
 refine ⟨⟨xs[k * 3]'(by omega), xs[k * 3 + 1]'(by omega), xs[k * 3 + 2]'(by omega), ?_, ?_, ?_⟩, h1.frozenAt _, h1.frozenAt _, h1.frozenAt _, (h1.lt B rfl).2⟩
 ·rw [h1.cellAt _ (by omega)]; exact List.getElem?_eq_getElem (by omega)
 ·rw [h1.cellAt _ (by omega)]; exact List.getElem?_eq_getElem (by omega)
 ·rw [h1.cellAt _ (by omega)]; exact List.getElem?_eq_getElem (by omega)
theorem BareTo.done {W : World} {B n : Nat} {l : List Vl} (h : BareTo W B n l l.length) (hn : n = l.length) (h8 : l.length ≤ 8) : SlAt W (some ⟨B, 0, none⟩) (bareL l) ∧ TyAt W (some ⟨B, 0, none⟩) := by
 obtain ⟨xs, h1, h2⟩ := h
 subst hn
 refine ⟨⟨by simp [bareL, maxLen]; omega, .inr ⟨B, 0, rfl, ?_, (h1.lt B rfl).2⟩⟩, ?_⟩
 ·intro i hi
  have hi' : i < l.length := by simpa [bareL] using hi
  obtain ⟨g0, g1, g2⟩ := h2 i hi' hi'
  simp only [bareL, List.getElem_map]
  refine ⟨?_, ?_, ?_⟩
  ·rw [h1.cellAt _ (by omega), ← g0]; congr 1; omega
  ·rw [h1.cellAt _ (by omega), ← g1]; congr 1; omega
  ·rw [h1.cellAt _ (by omega), ← g2]; congr 1; omega
 ·intro b off e
  obtain ⟨_, ⟨e', _⟩ | ⟨g, cap, cur, e', _, hh, _⟩⟩ := h1
  ·cases e'
  ·simp only [Value.slice.injEq, Option.some.injEq, Addr.mk.injEq] at e e'
   obtain ⟨rfl, _⟩ := e
   rw [← e'.1.1] at hh
   exact ⟨_, _, hh⟩

set_option maxHeartbeats 400000 in
theorem bareRow_at (a : Option Addr) (cap : Nat) (l : List Vl) (w : World) (h : SlAt w a l) (h8 : l.length ≤ 8) :
  Calls Tryz.prog 108 #[.slice a l.length cap] w fun e w' => e = .returned (.slice (some ⟨w.heap.size, 0, none⟩) l.length l.length) ∧ (SlAt w' (some ⟨w.heap.size, 0, none⟩) (bareL l) ∧ TyAt w' (some ⟨w.heap.size, 0, none⟩)) ∧ Below w.heap.size w w' := by
 obtain ⟨i0, hi, hz0, hz1, hz2⟩ := info_parts Tryz.info49
 go_enter Tryz.func108, Tryz.ntmps108
 go_wp2_with (first | (at_make; refine wpList_make_full _ rfl _ _ 51 rfl w.heap.size 24 i0 _ 3 Tryz.underlying51 hi hz0 hz1 .i64 .i64 l.length l.length l.length rfl rfl rfl rfl (by rw [hz2]; omega) (by unfold maxLen; omega) (Nat.le_refl _) ?_))
 intro w1 hown hgrow
 have hb0 : Below w.heap.size w w1 := (Below.refl _ _).grown hgrow (Nat.le_refl _) (by simp)
 have hB0 : BareTo w1 w.heap.size l.length l 0 := ⟨_, hown, fun j _ hj => absurd hj (Nat.not_lt_zero _)⟩
 clear hown hgrow
 go_wp2_with fail
 go_loopw [11] (fun i wr => ∃ k : Nat, k ≤ l.length ∧ i = .int .i64 k ∧ BareTo wr w.heap.size l.length l k ∧ Below w.heap.size w wr) (fun i _ => l.length - (intOf i).toNat)
 case atStart => exact ⟨0, Nat.zero_le _, rfl, hB0, hb0⟩
 case round =>
  obtain ⟨k, hk, rfl, HB, hb⟩ := hrel
  have hz := hb.size
  by_cases hlt : k < l.length
  ·obtain ⟨b, off, rfl, hbl, c0, c1, c2⟩ := (h.next hb).elem hlt
   have i0 : (0 : Int) ≤ (k : Int) := by omega
   have i1 : (k : Int) < (l.length : Int) := by omega
   go_wp2_with fail
   refine (bare_any _ _ _ _).mono ?_
   rintro e w2 ⟨rfl, hb2⟩
   have HB2 := (HB.next ((Below.refl _ _).alloc (Nat.le_refl _) _)).next hb2
   obtain ⟨⟨u0, u1, u2, d0, d1, d2⟩, f0, f1, f2, hlb⟩ := HB2.cells hlt
   go_wp2_with fail
   go_roundw
   case rel =>
    refine ⟨k + 1, by omega, by go_num, ?_, ?_⟩
    ·exact HB2.step hlt rfl
    ·exact (((chain2 hb hb2).setCell (p := ⟨w.heap.size, k * 3, none⟩) (Nat.le_refl _) _).setCell (p := ⟨w.heap.size, k * 3 + 1, none⟩) (Nat.le_refl _) _).setCell (p := ⟨w.heap.size, k * 3 + 2, none⟩) (Nat.le_refl _) _
   case measure => simp [intOf]; omega
  ·have e : k = l.length := by omega
   subst e
   go_wp2_with fail
   go_ret
   exact ⟨rfl, HB.done rfl h8, hb⟩
end Go.Proofs.YtfojonhblblbjaaGreat
/- Expressions, their types, what they come to. No program in sight. -/
namespace Go.Proofs.YtfojonhblblbjaaGreat

/-- An expression. -/
inductive Ex where
 | mk (k : Int) (v : Vl) (c : Int) (ks : List Ex)
def Ex.k : Ex → Int | .mk k _ _ _ => k
def Ex.v : Ex → Vl | .mk _ v _ _ => v
def Ex.c : Ex → Int | .mk _ _ c _ => c
def Ex.ks : Ex → List Ex | .mk _ _ _ ks => ks

mutual
theorem Ex.ind {P : Ex → Prop} (h : ∀ k v c ks, (∀ x ∈ ks, P x) → P (.mk k v c ks)) : ∀ x, P x
 | .mk k v c ks => h k v c ks (Ex.inds h ks)
theorem Ex.inds {P : Ex → Prop} (h : ∀ k v c ks, (∀ x ∈ ks, P x) → P (.mk k v c ks)) : ∀ ks : List Ex, ∀ x ∈ ks, P x
 | [], _, hx => by simp at hx
 | y :: r, x, hx => by
  rcases List.mem_cons.mp hx with e | hx
  ·exact e ▸ Ex.ind h y
  ·exact Ex.inds h r x hx
end

/-! Types. -/
def kidsN (k : Int) : Nat := if k = 1 ∨ k = 2 then 0 else if k = 3 ∨ k = 16 then 1 else if k = 17 then 3 else 2
def nodeW (k : Int) (len : Nat) (n d : Int) : Int := if 200 < n ∨ 20 < d then 4 else if k < 1 ∨ 18 < k then 1 else if len ≠ kidsN k then 5 else 0
def tog (a b : Int) : Option Int := if a = b ∨ b = 1 then some a else if a = 1 then some b else none
def resT : Option Int → Int × Int | some t => (t, 0) | none => (0, 9)
def allO (t : Int) (ts : List Int) : Option Int := if ts.all (fun k => (tog k t).isSome) then some t else none
def kidsT (k : Int) (ts : List Int) : Option Int :=
 if k = 3 ∨ k = 4 ∨ k = 5 then allO 2 ts
 else if 6 ≤ k ∧ k ≤ 11 then (if (tog (ts.getD 0 0) (ts.getD 1 0)).isSome then some 2 else none)
 else if k = 12 ∨ k = 13 ∨ k = 14 then allO 3 ts
 else if k = 15 then allO 4 ts
 else if k = 16 then some 2
 else if k = 17 then (if (tog (ts.getD 0 0) 2).isSome then tog (ts.getD 1 0) (ts.getD 2 0) else none)
 else tog (ts.getD 0 0) (ts.getD 1 0)
def wrongP (v : Vl) : Int := wrongF v.1 v.2.1 v.2.2
def litT (v : Vl) : Int × Int := if wrongP v = 0 then (v.1, 0) else (0, wrongP v)
def colT (cols : List Int) (c : Int) : Int × Int := if c < 0 ∨ cols.length ≤ c then (0, 7) else (cols.getD c.toNat 0, 0)
def nodeT (cols : List Int) (k : Int) (v : Vl) (c : Int) (ts : List Int) : Int × Int :=
 if k = 1 then litT v else if k = 2 then colT cols c else resT (kidsT k ts)
mutual
/-- Type, what is wrong, how many nodes so far. -/
def typeX (cols : List Int) : Ex → Int → Int → Int × Int × Int
 | .mk k v c ks, n, d =>
  if nodeW k ks.length (n + 1) d ≠ 0 then (0, nodeW k ks.length (n + 1) d, n + 1)
  else if (typesX cols ks [] (n + 1) (d + 1)).1 ≠ 0 then (0, (typesX cols ks [] (n + 1) (d + 1)).1, (typesX cols ks [] (n + 1) (d + 1)).2.2)
  else ((nodeT cols k v c (typesX cols ks [] (n + 1) (d + 1)).2.1).1, (nodeT cols k v c (typesX cols ks [] (n + 1) (d + 1)).2.1).2, (typesX cols ks [] (n + 1) (d + 1)).2.2)
def typesX (cols : List Int) : List Ex → List Int → Int → Int → Int × List Int × Int
 | [], acc, n, _ => (0, acc, n)
 | x :: r, acc, n, d =>
  if (typeX cols x n d).2.1 ≠ 0 then ((typeX cols x n d).2.1, acc, (typeX cols x n d).2.2)
  else typesX cols r (acc ++ [(typeX cols x n d).1]) (typeX cols x n d).2.2 d
end
mutual
def sizeX : Ex → Nat | .mk _ _ _ ks => 1 + sizesX ks
def sizesX : List Ex → Nat | [] => 0 | x :: r => sizeX x + sizesX r
end
mutual
def deepX : Ex → Nat | .mk _ _ _ ks => 1 + deepsX ks
def deepsX : List Ex → Nat | [] => 0 | x :: r => max (deepX x) (deepsX r)
end
mutual
/-- The type alone: nothing is counted. -/
def typP (cols : List Int) : Ex → Option Int
 | .mk k v c ks => if k < 1 ∨ 18 < k ∨ ks.length ≠ kidsN k then none else
  (typsP cols ks).bind fun ts => if (nodeT cols k v c ts).2 = 0 then some (nodeT cols k v c ts).1 else none
def typsP (cols : List Int) : List Ex → Option (List Int)
 | [] => some []
 | x :: r => (typP cols x).bind fun t => (typsP cols r).map fun ts => t :: ts
end

theorem sizeX_pos : ∀ x : Ex, 1 ≤ sizeX x | .mk _ _ _ ks => by rw [sizeX]; omega
theorem typesX_ok (cols : List Int) : ∀ (ks : List Ex), (∀ x ∈ ks, ∀ n d t n', typeX cols x n d = (t, 0, n') ↔ typP cols x = some t ∧ n' = n + sizeX x ∧ n' ≤ 200 ∧ d + deepX x ≤ 21) →
  ∀ acc n d ts n', n ≤ 200 → d ≤ 21 → (typesX cols ks acc n d = (0, acc ++ ts, n') ↔ typsP cols ks = some ts ∧ n' = n + sizesX ks ∧ n' ≤ 200 ∧ d + deepsX ks ≤ 21)
 | [], _, acc, n, d, ts, n', hn, hd => by
  simp only [typesX, typsP, sizesX, deepsX, Prod.mk.injEq, true_and, Option.some.injEq]
  constructor
  ·rintro ⟨h, rfl⟩
   have : ts = [] := by simpa using h
   exact ⟨this.symm, by simp, hn, by simpa using hd⟩
  ·rintro ⟨rfl, h, _⟩
   exact ⟨by simp, by simpa using h.symm⟩
 | x :: r, hx, acc, n, d, ts, n', hn, hd => by
  have ih := typesX_ok cols r (fun y hy => hx y (List.mem_cons_of_mem _ hy))
  have h0 := hx x (List.mem_cons_self ..) n d
  rcases hq : typeX cols x n d with ⟨t, e, m⟩
  rw [typesX, hq, typsP, sizesX, deepsX]
  have hs := sizeX_pos x
  by_cases he : e = 0
  ·subst he
   have h1 := (h0 t m).1 hq
   obtain ⟨p1, p2, p3, p4⟩ := h1
   simp only [ne_eq, not_true, if_false, p1, Option.bind_some]
   constructor
   ·intro h
    match ts, h with
    | [], h =>
     exfalso
     have := congrArg (fun z => z.2.1.length) h
     have hl : ∀ (l : List Ex) acc n d, (typesX cols l acc n d).1 = 0 → acc.length ≤ (typesX cols l acc n d).2.1.length := by
      intro l
      induction l with
      | nil => intro acc n d _; simp [typesX]
      | cons y l ihl =>
       intro acc n d h
       rw [typesX] at h ⊢
       split at h
       ·rename_i hne
        exact absurd h hne
       ·rename_i hne
        rw [if_neg hne]
        have := ihl _ _ _ h
        simp at this
        omega
     have h2 := hl r (acc ++ [t]) m d (by rw [h])
     rw [h] at h2
     simp at h2
     omega
    | u :: us, h =>
     have hu : u = t := by
      have hl : ∀ (l : List Ex) acc n d, (typesX cols l acc n d).1 = 0 → acc <+: (typesX cols l acc n d).2.1 := by
       intro l
       induction l with
       | nil => intro acc n d _; simp [typesX]
       | cons y l ihl =>
        intro acc n d h
        rw [typesX] at h ⊢
        split at h
        ·rename_i hne
         exact absurd h hne
        ·rename_i hne
         rw [if_neg hne]
         exact (List.prefix_append _ _).trans (ihl _ _ _ h)
      have h2 := hl r (acc ++ [t]) m d (by rw [h])
      rw [h] at h2
      simp only [List.prefix_append_right_inj] at h2
      exact (List.cons_prefix_cons.mp h2).1.symm
     subst hu
     have h' : typesX cols r (acc ++ [u]) m d = (0, (acc ++ [u]) ++ us, n') := by simpa using h
     obtain ⟨q1, q2, q3, q4⟩ := (ih (acc ++ [u]) m d us n' p3 hd).1 h'
     refine ⟨by simp [q1], by omega, q3, by omega⟩
   ·rintro ⟨q1, q2, q3, q4⟩
    rw [Option.map_eq_some_iff] at q1
    obtain ⟨us, q1, rfl⟩ := q1
    have := (ih (acc ++ [t]) m d us n' p3 hd).2 ⟨q1, by omega, q3, by omega⟩
    simpa using this
  ·simp only [ne_eq, he, not_false_eq_true, if_true, Prod.mk.injEq, false_and, false_iff]
   rintro ⟨q1, q2, q3, q4⟩
   rw [Option.bind_eq_some_iff] at q1
   obtain ⟨u, q1, _⟩ := q1
   have := (h0 u (n + sizeX x)).2 ⟨q1, rfl, by omega, by omega⟩
   rw [hq] at this
   simp at this
   exact he this.2.1

theorem typeX_ok (cols : List Int) : ∀ x n d t n', typeX cols x n d = (t, 0, n') ↔ typP cols x = some t ∧ n' = n + sizeX x ∧ n' ≤ 200 ∧ d + deepX x ≤ 21 := by
 refine Ex.ind fun k v c ks ih n d t n' => ?_
 have hk := typesX_ok cols ks (fun x hx => ih x hx) [] (n + 1) (d + 1)
 rw [typeX, typP, sizeX, deepX]
 by_cases hw : nodeW k ks.length (n + 1) d = 0
 ·have hw' : ¬ (200 < n + 1 ∨ 20 < d) ∧ ¬ (k < 1 ∨ 18 < k) ∧ ks.length = kidsN k := by
   unfold nodeW at hw
   by_cases h1 : 200 < n + 1 ∨ 20 < d
   ·simp [h1] at hw
   by_cases h2 : k < 1 ∨ 18 < k
   ·simp [h1, h2] at hw
   by_cases h3 : ks.length = kidsN k
   ·exact ⟨h1, h2, h3⟩
   ·simp [h1, h2, h3] at hw
  obtain ⟨h1, h2, h3⟩ := hw'
  rw [if_neg (by simp [hw]), if_neg (show ¬ (k < 1 ∨ 18 < k ∨ ks.length ≠ kidsN k) by simp [h3]; omega)]
  rcases hq : typesX cols ks [] (n + 1) (d + 1) with ⟨e, ts, m⟩
  by_cases he : e = 0
  ·subst he
   obtain ⟨p1, p2, p3, p4⟩ := (hk ts m (by omega) (by omega)).1 (by simpa using hq)
   simp only [ne_eq, not_true, if_false, p1, Option.bind_some]
   by_cases hn : (nodeT cols k v c ts).2 = 0
   ·simp only [hn, if_true, Prod.mk.injEq, true_and, Option.some.injEq]
    constructor
    ·rintro ⟨rfl, rfl⟩
     exact ⟨rfl, by omega, p3, by omega⟩
    ·rintro ⟨rfl, q2, q3, q4⟩
     exact ⟨rfl, by omega⟩
   ·simp [hn]
  ·simp only [ne_eq, he, not_false_eq_true, if_true, Prod.mk.injEq, false_and, and_false, false_iff]
   rintro ⟨q1, q2, q3, q4⟩
   rw [Option.bind_eq_some_iff] at q1
   obtain ⟨us, q1, _⟩ := q1
   have := (hk us (n + 1 + sizesX ks) (by omega) (by omega)).2 ⟨q1, rfl, by omega, by omega⟩
   rw [hq] at this
   simp at this
   exact he this.1
 ·rw [if_pos hw]
  simp only [Prod.mk.injEq, hw, false_and, and_false, false_iff]
  rintro ⟨q1, q2, q3, q4⟩
  apply hw
  split at q1
  ·simp at q1
  ·rename_i hc
   unfold nodeW
   rw [if_neg (by omega), if_neg (by omega), if_neg (by simp; omega)]
/-- What the count is, where all goes well. -/
theorem typeX_n {cols : List Int} {x : Ex} {n d : Int} (h : (typeX cols x n d).2.1 = 0) : (typeX cols x n d).2.2 ≤ 200 ∧ n < (typeX cols x n d).2.2 := by
 have := (typeX_ok cols x n d (typeX cols x n d).1 (typeX cols x n d).2.2).1 (by rw [← h])
 have := sizeX_pos x
 omega
end Go.Proofs.YtfojonhblblbjaaGreat
/- The walks of vals.And, vals.Or, vals.Not: what each answers, by what its arguments say. -/
namespace Go.Proofs.YtfojonhblblbjaaGreat
open Go.RowKit

set_option maxHeartbeats 400000 in
theorem and_f (k n k' n' : Int) (s s' : ByteArray) (w : World) (f1 : (cls k n == some false) = true) :
  Calls Tryz.prog 176 #[.agg #[.int .i64 k, .int .i64 n, .string s], .agg #[.int .i64 k', .int .i64 n', .string s']] w fun e w' => e = .returned (.agg #[.int .i64 2, .int .i64 0, .string ⟨#[]⟩]) ∧ Below w.heap.size w w' := by
 go_enter Tryz.func176, Tryz.ntmps176
 go_wp2_with fail
 have A0 := ((Box.new w (.int .i64 k) (.int .i64 n) (.string s) 24).alloc (.cells #[.int .i64 k', .int .i64 n', .string s'] 24)).alloc (.cells #[.int .i64 0, .int .i64 0, .string ⟨#[]⟩] 24)
 have B0 := (Box.new (w.alloc (.cells #[.int .i64 k, .int .i64 n, .string s] 24)) (.int .i64 k') (.int .i64 n') (.string s') 24).alloc (.cells #[.int .i64 0, .int .i64 0, .string ⟨#[]⟩] 24)
 have R0 := Box.new ((w.alloc (.cells #[.int .i64 k, .int .i64 n, .string s] 24)).alloc (.cells #[.int .i64 k', .int .i64 n', .string s'] 24)) (.int .i64 0) (.int .i64 0) (.string ⟨#[]⟩) 24
 simp only [World.size_alloc] at B0 R0
 refine (isFalse_any _ _ _ _).mono ?_
 rintro e w1 ⟨rfl, hb1⟩
 rw [f1]
 have A1 := A0.next hb1
 have B1 := B0.next hb1
 have R1 := R0.next hb1
 have ⟨a0, a1, a2, a3, a4, a5, a6⟩ := A1
 have ⟨b0, b1, b2, b3, b4, b5, b6⟩ := B1
 have ⟨r0, r1, r2, r3, r4, r5, r6⟩ := R1
 go_wp2_with fail
 refine (bool_false _).mono ?_
 rintro e w2 ⟨rfl, hb2⟩
 clear a0 a1 a2 a3 a4 a5 a6 b0 b1 b2 b3 b4 b5 b6 r0 r1 r2 r3 r4 r5 r6
 have A2 := A1.next hb2
 have B2 := B1.next hb2
 have R2 := R1.next hb2
 have ⟨a0, a1, a2, a3, a4, a5, a6⟩ := A2
 have ⟨b0, b1, b2, b3, b4, b5, b6⟩ := B2
 have ⟨r0, r1, r2, r3, r4, r5, r6⟩ := R2
 go_wp2_with fail
 have z1 := hb1.size
 have z2 := hb2.size
 simp at z1
 exact bodyPost_ret (v := .agg #[.int .i64 2, .int .i64 0, .string ⟨#[]⟩]) (by simp [results, Tryz.results176, go_sem, r1, r2, r3]) rfl ⟨rfl, below_set3 ((below3 hb1).trans (hb2.mono (by omega))) (by omega)⟩

set_option maxHeartbeats 400000 in
theorem and_xf (k n k' n' : Int) (s s' : ByteArray) (w : World) (f1 : (cls k n == some false) = false) (f2 : (cls k' n' == some false) = true) :
  Calls Tryz.prog 176 #[.agg #[.int .i64 k, .int .i64 n, .string s], .agg #[.int .i64 k', .int .i64 n', .string s']] w fun e w' => e = .returned (.agg #[.int .i64 2, .int .i64 0, .string ⟨#[]⟩]) ∧ Below w.heap.size w w' := by
 go_enter Tryz.func176, Tryz.ntmps176
 go_wp2_with fail
 have A0 := ((Box.new w (.int .i64 k) (.int .i64 n) (.string s) 24).alloc (.cells #[.int .i64 k', .int .i64 n', .string s'] 24)).alloc (.cells #[.int .i64 0, .int .i64 0, .string ⟨#[]⟩] 24)
 have B0 := (Box.new (w.alloc (.cells #[.int .i64 k, .int .i64 n, .string s] 24)) (.int .i64 k') (.int .i64 n') (.string s') 24).alloc (.cells #[.int .i64 0, .int .i64 0, .string ⟨#[]⟩] 24)
 have R0 := Box.new ((w.alloc (.cells #[.int .i64 k, .int .i64 n, .string s] 24)).alloc (.cells #[.int .i64 k', .int .i64 n', .string s'] 24)) (.int .i64 0) (.int .i64 0) (.string ⟨#[]⟩) 24
 simp only [World.size_alloc] at B0 R0
 refine (isFalse_any _ _ _ _).mono ?_
 rintro e w1 ⟨rfl, hb1⟩
 rw [f1]
 have A1 := A0.next hb1
 have B1 := B0.next hb1
 have R1 := R0.next hb1
 have ⟨a0, a1, a2, a3, a4, a5, a6⟩ := A1
 have ⟨b0, b1, b2, b3, b4, b5, b6⟩ := B1
 have ⟨r0, r1, r2, r3, r4, r5, r6⟩ := R1
 go_wp2_with fail
 refine (isFalse_any _ _ _ _).mono ?_
 rintro e w2 ⟨rfl, hb2⟩
 rw [f2]
 clear a0 a1 a2 a3 a4 a5 a6 b0 b1 b2 b3 b4 b5 b6 r0 r1 r2 r3 r4 r5 r6
 have A2 := A1.next hb2
 have B2 := B1.next hb2
 have R2 := R1.next hb2
 have ⟨a0, a1, a2, a3, a4, a5, a6⟩ := A2
 have ⟨b0, b1, b2, b3, b4, b5, b6⟩ := B2
 have ⟨r0, r1, r2, r3, r4, r5, r6⟩ := R2
 go_wp2_with fail
 refine (bool_false _).mono ?_
 rintro e w3 ⟨rfl, hb3⟩
 clear a0 a1 a2 a3 a4 a5 a6 b0 b1 b2 b3 b4 b5 b6 r0 r1 r2 r3 r4 r5 r6
 have A3 := A2.next hb3
 have B3 := B2.next hb3
 have R3 := R2.next hb3
 have ⟨a0, a1, a2, a3, a4, a5, a6⟩ := A3
 have ⟨b0, b1, b2, b3, b4, b5, b6⟩ := B3
 have ⟨r0, r1, r2, r3, r4, r5, r6⟩ := R3
 go_wp2_with fail
 have z1 := hb1.size
 have z2 := hb2.size
 have z3 := hb3.size
 simp at z1
 exact bodyPost_ret (v := .agg #[.int .i64 2, .int .i64 0, .string ⟨#[]⟩]) (by simp [results, Tryz.results176, go_sem, r1, r2, r3]) rfl ⟨rfl, below_set3 (((below3 hb1).trans (hb2.mono (by omega))).trans (hb3.mono (by omega))) (by omega)⟩

set_option maxHeartbeats 400000 in
theorem and_tt (k n k' n' : Int) (s s' : ByteArray) (w : World) (f1 : (cls k n == some false) = false) (f2 : (cls k' n' == some false) = false) (t1 : (cls k n == some true) = true) (t2 : (cls k' n' == some true) = true) :
  Calls Tryz.prog 176 #[.agg #[.int .i64 k, .int .i64 n, .string s], .agg #[.int .i64 k', .int .i64 n', .string s']] w fun e w' => e = .returned (.agg #[.int .i64 2, .int .i64 1, .string ⟨#[]⟩]) ∧ Below w.heap.size w w' := by
 go_enter Tryz.func176, Tryz.ntmps176
 go_wp2_with fail
 have A0 := ((Box.new w (.int .i64 k) (.int .i64 n) (.string s) 24).alloc (.cells #[.int .i64 k', .int .i64 n', .string s'] 24)).alloc (.cells #[.int .i64 0, .int .i64 0, .string ⟨#[]⟩] 24)
 have B0 := (Box.new (w.alloc (.cells #[.int .i64 k, .int .i64 n, .string s] 24)) (.int .i64 k') (.int .i64 n') (.string s') 24).alloc (.cells #[.int .i64 0, .int .i64 0, .string ⟨#[]⟩] 24)
 have R0 := Box.new ((w.alloc (.cells #[.int .i64 k, .int .i64 n, .string s] 24)).alloc (.cells #[.int .i64 k', .int .i64 n', .string s'] 24)) (.int .i64 0) (.int .i64 0) (.string ⟨#[]⟩) 24
 simp only [World.size_alloc] at B0 R0
 refine (isFalse_any _ _ _ _).mono ?_
 rintro e w1 ⟨rfl, hb1⟩
 rw [f1]
 have A1 := A0.next hb1
 have B1 := B0.next hb1
 have R1 := R0.next hb1
 have ⟨a0, a1, a2, a3, a4, a5, a6⟩ := A1
 have ⟨b0, b1, b2, b3, b4, b5, b6⟩ := B1
 have ⟨r0, r1, r2, r3, r4, r5, r6⟩ := R1
 go_wp2_with fail
 refine (isFalse_any _ _ _ _).mono ?_
 rintro e w2 ⟨rfl, hb2⟩
 rw [f2]
 clear a0 a1 a2 a3 a4 a5 a6 b0 b1 b2 b3 b4 b5 b6 r0 r1 r2 r3 r4 r5 r6
 have A2 := A1.next hb2
 have B2 := B1.next hb2
 have R2 := R1.next hb2
 have ⟨a0, a1, a2, a3, a4, a5, a6⟩ := A2
 have ⟨b0, b1, b2, b3, b4, b5, b6⟩ := B2
 have ⟨r0, r1, r2, r3, r4, r5, r6⟩ := R2
 go_wp2_with fail
 refine (true_any _ _ _ _).mono ?_
 rintro e w3 ⟨rfl, hb3⟩
 rw [t1]
 clear a0 a1 a2 a3 a4 a5 a6 b0 b1 b2 b3 b4 b5 b6 r0 r1 r2 r3 r4 r5 r6
 have A3 := A2.next hb3
 have B3 := B2.next hb3
 have R3 := R2.next hb3
 have ⟨a0, a1, a2, a3, a4, a5, a6⟩ := A3
 have ⟨b0, b1, b2, b3, b4, b5, b6⟩ := B3
 have ⟨r0, r1, r2, r3, r4, r5, r6⟩ := R3
 go_wp2_with fail
 refine (true_any _ _ _ _).mono ?_
 rintro e w4 ⟨rfl, hb4⟩
 rw [t2]
 clear a0 a1 a2 a3 a4 a5 a6 b0 b1 b2 b3 b4 b5 b6 r0 r1 r2 r3 r4 r5 r6
 have A4 := A3.next hb4
 have B4 := B3.next hb4
 have R4 := R3.next hb4
 have ⟨a0, a1, a2, a3, a4, a5, a6⟩ := A4
 have ⟨b0, b1, b2, b3, b4, b5, b6⟩ := B4
 have ⟨r0, r1, r2, r3, r4, r5, r6⟩ := R4
 go_wp2_with fail
 refine (bool_true _).mono ?_
 rintro e w5 ⟨rfl, hb5⟩
 clear a0 a1 a2 a3 a4 a5 a6 b0 b1 b2 b3 b4 b5 b6 r0 r1 r2 r3 r4 r5 r6
 have A5 := A4.next hb5
 have B5 := B4.next hb5
 have R5 := R4.next hb5
 have ⟨a0, a1, a2, a3, a4, a5, a6⟩ := A5
 have ⟨b0, b1, b2, b3, b4, b5, b6⟩ := B5
 have ⟨r0, r1, r2, r3, r4, r5, r6⟩ := R5
 go_wp2_with fail
 have z1 := hb1.size
 have z2 := hb2.size
 have z3 := hb3.size
 have z4 := hb4.size
 have z5 := hb5.size
 simp at z1
 exact bodyPost_ret (v := .agg #[.int .i64 2, .int .i64 1, .string ⟨#[]⟩]) (by simp [results, Tryz.results176, go_sem, r1, r2, r3]) rfl ⟨rfl, below_set3 (((((below3 hb1).trans (hb2.mono (by omega))).trans (hb3.mono (by omega))).trans (hb4.mono (by omega))).trans (hb5.mono (by omega))) (by omega)⟩

set_option maxHeartbeats 400000 in
theorem and_tx (k n k' n' : Int) (s s' : ByteArray) (w : World) (f1 : (cls k n == some false) = false) (f2 : (cls k' n' == some false) = false) (t1 : (cls k n == some true) = true) (t2 : (cls k' n' == some true) = false) :
  Calls Tryz.prog 176 #[.agg #[.int .i64 k, .int .i64 n, .string s], .agg #[.int .i64 k', .int .i64 n', .string s']] w fun e w' => e = .returned (.agg #[.int .i64 1, .int .i64 0, .string ⟨#[]⟩]) ∧ Below w.heap.size w w' := by
 go_enter Tryz.func176, Tryz.ntmps176
 go_wp2_with fail
 have A0 := ((Box.new w (.int .i64 k) (.int .i64 n) (.string s) 24).alloc (.cells #[.int .i64 k', .int .i64 n', .string s'] 24)).alloc (.cells #[.int .i64 0, .int .i64 0, .string ⟨#[]⟩] 24)
 have B0 := (Box.new (w.alloc (.cells #[.int .i64 k, .int .i64 n, .string s] 24)) (.int .i64 k') (.int .i64 n') (.string s') 24).alloc (.cells #[.int .i64 0, .int .i64 0, .string ⟨#[]⟩] 24)
 have R0 := Box.new ((w.alloc (.cells #[.int .i64 k, .int .i64 n, .string s] 24)).alloc (.cells #[.int .i64 k', .int .i64 n', .string s'] 24)) (.int .i64 0) (.int .i64 0) (.string ⟨#[]⟩) 24
 simp only [World.size_alloc] at B0 R0
 refine (isFalse_any _ _ _ _).mono ?_
 rintro e w1 ⟨rfl, hb1⟩
 rw [f1]
 have A1 := A0.next hb1
 have B1 := B0.next hb1
 have R1 := R0.next hb1
 have ⟨a0, a1, a2, a3, a4, a5, a6⟩ := A1
 have ⟨b0, b1, b2, b3, b4, b5, b6⟩ := B1
 have ⟨r0, r1, r2, r3, r4, r5, r6⟩ := R1
 go_wp2_with fail
 refine (isFalse_any _ _ _ _).mono ?_
 rintro e w2 ⟨rfl, hb2⟩
 rw [f2]
 clear a0 a1 a2 a3 a4 a5 a6 b0 b1 b2 b3 b4 b5 b6 r0 r1 r2 r3 r4 r5 r6
 have A2 := A1.next hb2
 have B2 := B1.next hb2
 have R2 := R1.next hb2
 have ⟨a0, a1, a2, a3, a4, a5, a6⟩ := A2
 have ⟨b0, b1, b2, b3, b4, b5, b6⟩ := B2
 have ⟨r0, r1, r2, r3, r4, r5, r6⟩ := R2
 go_wp2_with fail
 refine (true_any _ _ _ _).mono ?_
 rintro e w3 ⟨rfl, hb3⟩
 rw [t1]
 clear a0 a1 a2 a3 a4 a5 a6 b0 b1 b2 b3 b4 b5 b6 r0 r1 r2 r3 r4 r5 r6
 have A3 := A2.next hb3
 have B3 := B2.next hb3
 have R3 := R2.next hb3
 have ⟨a0, a1, a2, a3, a4, a5, a6⟩ := A3
 have ⟨b0, b1, b2, b3, b4, b5, b6⟩ := B3
 have ⟨r0, r1, r2, r3, r4, r5, r6⟩ := R3
 go_wp2_with fail
 refine (true_any _ _ _ _).mono ?_
 rintro e w4 ⟨rfl, hb4⟩
 rw [t2]
 clear a0 a1 a2 a3 a4 a5 a6 b0 b1 b2 b3 b4 b5 b6 r0 r1 r2 r3 r4 r5 r6
 have A4 := A3.next hb4
 have B4 := B3.next hb4
 have R4 := R3.next hb4
 have ⟨a0, a1, a2, a3, a4, a5, a6⟩ := A4
 have ⟨b0, b1, b2, b3, b4, b5, b6⟩ := B4
 have ⟨r0, r1, r2, r3, r4, r5, r6⟩ := R4
 go_wp2_with fail
 refine (null_any _).mono ?_
 rintro e w5 ⟨rfl, hb5⟩
 clear a0 a1 a2 a3 a4 a5 a6 b0 b1 b2 b3 b4 b5 b6 r0 r1 r2 r3 r4 r5 r6
 have A5 := A4.next hb5
 have B5 := B4.next hb5
 have R5 := R4.next hb5
 have ⟨a0, a1, a2, a3, a4, a5, a6⟩ := A5
 have ⟨b0, b1, b2, b3, b4, b5, b6⟩ := B5
 have ⟨r0, r1, r2, r3, r4, r5, r6⟩ := R5
 go_wp2_with fail
 have z1 := hb1.size
 have z2 := hb2.size
 have z3 := hb3.size
 have z4 := hb4.size
 have z5 := hb5.size
 simp at z1
 exact bodyPost_ret (v := .agg #[.int .i64 1, .int .i64 0, .string ⟨#[]⟩]) (by simp [results, Tryz.results176, go_sem, r1, r2, r3]) rfl ⟨rfl, below_set3 (((((below3 hb1).trans (hb2.mono (by omega))).trans (hb3.mono (by omega))).trans (hb4.mono (by omega))).trans (hb5.mono (by omega))) (by omega)⟩

set_option maxHeartbeats 400000 in
theorem and_xx (k n k' n' : Int) (s s' : ByteArray) (w : World) (f1 : (cls k n == some false) = false) (f2 : (cls k' n' == some false) = false) (t1 : (cls k n == some true) = false) :
  Calls Tryz.prog 176 #[.agg #[.int .i64 k, .int .i64 n, .string s], .agg #[.int .i64 k', .int .i64 n', .string s']] w fun e w' => e = .returned (.agg #[.int .i64 1, .int .i64 0, .string ⟨#[]⟩]) ∧ Below w.heap.size w w' := by
 go_enter Tryz.func176, Tryz.ntmps176
 go_wp2_with fail
 have A0 := ((Box.new w (.int .i64 k) (.int .i64 n) (.string s) 24).alloc (.cells #[.int .i64 k', .int .i64 n', .string s'] 24)).alloc (.cells #[.int .i64 0, .int .i64 0, .string ⟨#[]⟩] 24)
 have B0 := (Box.new (w.alloc (.cells #[.int .i64 k, .int .i64 n, .string s] 24)) (.int .i64 k') (.int .i64 n') (.string s') 24).alloc (.cells #[.int .i64 0, .int .i64 0, .string ⟨#[]⟩] 24)
 have R0 := Box.new ((w.alloc (.cells #[.int .i64 k, .int .i64 n, .string s] 24)).alloc (.cells #[.int .i64 k', .int .i64 n', .string s'] 24)) (.int .i64 0) (.int .i64 0) (.string ⟨#[]⟩) 24
 simp only [World.size_alloc] at B0 R0
 refine (isFalse_any _ _ _ _).mono ?_
 rintro e w1 ⟨rfl, hb1⟩
 rw [f1]
 have A1 := A0.next hb1
 have B1 := B0.next hb1
 have R1 := R0.next hb1
 have ⟨a0, a1, a2, a3, a4, a5, a6⟩ := A1
 have ⟨b0, b1, b2, b3, b4, b5, b6⟩ := B1
 have ⟨r0, r1, r2, r3, r4, r5, r6⟩ := R1
 go_wp2_with fail
 refine (isFalse_any _ _ _ _).mono ?_
 rintro e w2 ⟨rfl, hb2⟩
 rw [f2]
 clear a0 a1 a2 a3 a4 a5 a6 b0 b1 b2 b3 b4 b5 b6 r0 r1 r2 r3 r4 r5 r6
 have A2 := A1.next hb2
 have B2 := B1.next hb2
 have R2 := R1.next hb2
 have ⟨a0, a1, a2, a3, a4, a5, a6⟩ := A2
 have ⟨b0, b1, b2, b3, b4, b5, b6⟩ := B2
 have ⟨r0, r1, r2, r3, r4, r5, r6⟩ := R2
 go_wp2_with fail
 refine (true_any _ _ _ _).mono ?_
 rintro e w3 ⟨rfl, hb3⟩
 rw [t1]
 clear a0 a1 a2 a3 a4 a5 a6 b0 b1 b2 b3 b4 b5 b6 r0 r1 r2 r3 r4 r5 r6
 have A3 := A2.next hb3
 have B3 := B2.next hb3
 have R3 := R2.next hb3
 have ⟨a0, a1, a2, a3, a4, a5, a6⟩ := A3
 have ⟨b0, b1, b2, b3, b4, b5, b6⟩ := B3
 have ⟨r0, r1, r2, r3, r4, r5, r6⟩ := R3
 go_wp2_with fail
 refine (null_any _).mono ?_
 rintro e w4 ⟨rfl, hb4⟩
 clear a0 a1 a2 a3 a4 a5 a6 b0 b1 b2 b3 b4 b5 b6 r0 r1 r2 r3 r4 r5 r6
 have A4 := A3.next hb4
 have B4 := B3.next hb4
 have R4 := R3.next hb4
 have ⟨a0, a1, a2, a3, a4, a5, a6⟩ := A4
 have ⟨b0, b1, b2, b3, b4, b5, b6⟩ := B4
 have ⟨r0, r1, r2, r3, r4, r5, r6⟩ := R4
 go_wp2_with fail
 have z1 := hb1.size
 have z2 := hb2.size
 have z3 := hb3.size
 have z4 := hb4.size
 simp at z1
 exact bodyPost_ret (v := .agg #[.int .i64 1, .int .i64 0, .string ⟨#[]⟩]) (by simp [results, Tryz.results176, go_sem, r1, r2, r3]) rfl ⟨rfl, below_set3 ((((below3 hb1).trans (hb2.mono (by omega))).trans (hb3.mono (by omega))).trans (hb4.mono (by omega))) (by omega)⟩

set_option maxHeartbeats 400000 in
theorem or_t (k n k' n' : Int) (s s' : ByteArray) (w : World) (t1 : (cls k n == some true) = true) :
  Calls Tryz.prog 177 #[.agg #[.int .i64 k, .int .i64 n, .string s], .agg #[.int .i64 k', .int .i64 n', .string s']] w fun e w' => e = .returned (.agg #[.int .i64 2, .int .i64 1, .string ⟨#[]⟩]) ∧ Below w.heap.size w w' := by
 go_enter Tryz.func177, Tryz.ntmps177
 go_wp2_with fail
 have A0 := ((Box.new w (.int .i64 k) (.int .i64 n) (.string s) 24).alloc (.cells #[.int .i64 k', .int .i64 n', .string s'] 24)).alloc (.cells #[.int .i64 0, .int .i64 0, .string ⟨#[]⟩] 24)
 have B0 := (Box.new (w.alloc (.cells #[.int .i64 k, .int .i64 n, .string s] 24)) (.int .i64 k') (.int .i64 n') (.string s') 24).alloc (.cells #[.int .i64 0, .int .i64 0, .string ⟨#[]⟩] 24)
 have R0 := Box.new ((w.alloc (.cells #[.int .i64 k, .int .i64 n, .string s] 24)).alloc (.cells #[.int .i64 k', .int .i64 n', .string s'] 24)) (.int .i64 0) (.int .i64 0) (.string ⟨#[]⟩) 24
 simp only [World.size_alloc] at B0 R0
 refine (true_any _ _ _ _).mono ?_
 rintro e w1 ⟨rfl, hb1⟩
 rw [t1]
 have A1 := A0.next hb1
 have B1 := B0.next hb1
 have R1 := R0.next hb1
 have ⟨a0, a1, a2, a3, a4, a5, a6⟩ := A1
 have ⟨b0, b1, b2, b3, b4, b5, b6⟩ := B1
 have ⟨r0, r1, r2, r3, r4, r5, r6⟩ := R1
 go_wp2_with fail
 refine (bool_true _).mono ?_
 rintro e w2 ⟨rfl, hb2⟩
 clear a0 a1 a2 a3 a4 a5 a6 b0 b1 b2 b3 b4 b5 b6 r0 r1 r2 r3 r4 r5 r6
 have A2 := A1.next hb2
 have B2 := B1.next hb2
 have R2 := R1.next hb2
 have ⟨a0, a1, a2, a3, a4, a5, a6⟩ := A2
 have ⟨b0, b1, b2, b3, b4, b5, b6⟩ := B2
 have ⟨r0, r1, r2, r3, r4, r5, r6⟩ := R2
 go_wp2_with fail
 have z1 := hb1.size
 have z2 := hb2.size
 simp at z1
 exact bodyPost_ret (v := .agg #[.int .i64 2, .int .i64 1, .string ⟨#[]⟩]) (by simp [results, Tryz.results177, go_sem, r1, r2, r3]) rfl ⟨rfl, below_set3 ((below3 hb1).trans (hb2.mono (by omega))) (by omega)⟩

set_option maxHeartbeats 400000 in
theorem or_xt (k n k' n' : Int) (s s' : ByteArray) (w : World) (t1 : (cls k n == some true) = false) (t2 : (cls k' n' == some true) = true) :
  Calls Tryz.prog 177 #[.agg #[.int .i64 k, .int .i64 n, .string s], .agg #[.int .i64 k', .int .i64 n', .string s']] w fun e w' => e = .returned (.agg #[.int .i64 2, .int .i64 1, .string ⟨#[]⟩]) ∧ Below w.heap.size w w' := by
 go_enter Tryz.func177, Tryz.ntmps177
 go_wp2_with fail
 have A0 := ((Box.new w (.int .i64 k) (.int .i64 n) (.string s) 24).alloc (.cells #[.int .i64 k', .int .i64 n', .string s'] 24)).alloc (.cells #[.int .i64 0, .int .i64 0, .string ⟨#[]⟩] 24)
 have B0 := (Box.new (w.alloc (.cells #[.int .i64 k, .int .i64 n, .string s] 24)) (.int .i64 k') (.int .i64 n') (.string s') 24).alloc (.cells #[.int .i64 0, .int .i64 0, .string ⟨#[]⟩] 24)
 have R0 := Box.new ((w.alloc (.cells #[.int .i64 k, .int .i64 n, .string s] 24)).alloc (.cells #[.int .i64 k', .int .i64 n', .string s'] 24)) (.int .i64 0) (.int .i64 0) (.string ⟨#[]⟩) 24
 simp only [World.size_alloc] at B0 R0
 refine (true_any _ _ _ _).mono ?_
 rintro e w1 ⟨rfl, hb1⟩
 rw [t1]
 have A1 := A0.next hb1
 have B1 := B0.next hb1
 have R1 := R0.next hb1
 have ⟨a0, a1, a2, a3, a4, a5, a6⟩ := A1
 have ⟨b0, b1, b2, b3, b4, b5, b6⟩ := B1
 have ⟨r0, r1, r2, r3, r4, r5, r6⟩ := R1
 go_wp2_with fail
 refine (true_any _ _ _ _).mono ?_
 rintro e w2 ⟨rfl, hb2⟩
 rw [t2]
 clear a0 a1 a2 a3 a4 a5 a6 b0 b1 b2 b3 b4 b5 b6 r0 r1 r2 r3 r4 r5 r6
 have A2 := A1.next hb2
 have B2 := B1.next hb2
 have R2 := R1.next hb2
 have ⟨a0, a1, a2, a3, a4, a5, a6⟩ := A2
 have ⟨b0, b1, b2, b3, b4, b5, b6⟩ := B2
 have ⟨r0, r1, r2, r3, r4, r5, r6⟩ := R2
 go_wp2_with fail
 refine (bool_true _).mono ?_
 rintro e w3 ⟨rfl, hb3⟩
 clear a0 a1 a2 a3 a4 a5 a6 b0 b1 b2 b3 b4 b5 b6 r0 r1 r2 r3 r4 r5 r6
 have A3 := A2.next hb3
 have B3 := B2.next hb3
 have R3 := R2.next hb3
 have ⟨a0, a1, a2, a3, a4, a5, a6⟩ := A3
 have ⟨b0, b1, b2, b3, b4, b5, b6⟩ := B3
 have ⟨r0, r1, r2, r3, r4, r5, r6⟩ := R3
 go_wp2_with fail
 have z1 := hb1.size
 have z2 := hb2.size
 have z3 := hb3.size
 simp at z1
 exact bodyPost_ret (v := .agg #[.int .i64 2, .int .i64 1, .string ⟨#[]⟩]) (by simp [results, Tryz.results177, go_sem, r1, r2, r3]) rfl ⟨rfl, below_set3 (((below3 hb1).trans (hb2.mono (by omega))).trans (hb3.mono (by omega))) (by omega)⟩

set_option maxHeartbeats 400000 in
theorem or_ff (k n k' n' : Int) (s s' : ByteArray) (w : World) (t1 : (cls k n == some true) = false) (t2 : (cls k' n' == some true) = false) (f1 : (cls k n == some false) = true) (f2 : (cls k' n' == some false) = true) :
  Calls Tryz.prog 177 #[.agg #[.int .i64 k, .int .i64 n, .string s], .agg #[.int .i64 k', .int .i64 n', .string s']] w fun e w' => e = .returned (.agg #[.int .i64 2, .int .i64 0, .string ⟨#[]⟩]) ∧ Below w.heap.size w w' := by
 go_enter Tryz.func177, Tryz.ntmps177
 go_wp2_with fail
 have A0 := ((Box.new w (.int .i64 k) (.int .i64 n) (.string s) 24).alloc (.cells #[.int .i64 k', .int .i64 n', .string s'] 24)).alloc (.cells #[.int .i64 0, .int .i64 0, .string ⟨#[]⟩] 24)
 have B0 := (Box.new (w.alloc (.cells #[.int .i64 k, .int .i64 n, .string s] 24)) (.int .i64 k') (.int .i64 n') (.string s') 24).alloc (.cells #[.int .i64 0, .int .i64 0, .string ⟨#[]⟩] 24)
 have R0 := Box.new ((w.alloc (.cells #[.int .i64 k, .int .i64 n, .string s] 24)).alloc (.cells #[.int .i64 k', .int .i64 n', .string s'] 24)) (.int .i64 0) (.int .i64 0) (.string ⟨#[]⟩) 24
 simp only [World.size_alloc] at B0 R0
 refine (true_any _ _ _ _).mono ?_
 rintro e w1 ⟨rfl, hb1⟩
 rw [t1]
 have A1 := A0.next hb1
 have B1 := B0.next hb1
 have R1 := R0.next hb1
 have ⟨a0, a1, a2, a3, a4, a5, a6⟩ := A1
 have ⟨b0, b1, b2, b3, b4, b5, b6⟩ := B1
 have ⟨r0, r1, r2, r3, r4, r5, r6⟩ := R1
 go_wp2_with fail
 refine (true_any _ _ _ _).mono ?_
 rintro e w2 ⟨rfl, hb2⟩
 rw [t2]
 clear a0 a1 a2 a3 a4 a5 a6 b0 b1 b2 b3 b4 b5 b6 r0 r1 r2 r3 r4 r5 r6
 have A2 := A1.next hb2
 have B2 := B1.next hb2
 have R2 := R1.next hb2
 have ⟨a0, a1, a2, a3, a4, a5, a6⟩ := A2
 have ⟨b0, b1, b2, b3, b4, b5, b6⟩ := B2
 have ⟨r0, r1, r2, r3, r4, r5, r6⟩ := R2
 go_wp2_with fail
 refine (isFalse_any _ _ _ _).mono ?_
 rintro e w3 ⟨rfl, hb3⟩
 rw [f1]
 clear a0 a1 a2 a3 a4 a5 a6 b0 b1 b2 b3 b4 b5 b6 r0 r1 r2 r3 r4 r5 r6
 have A3 := A2.next hb3
 have B3 := B2.next hb3
 have R3 := R2.next hb3
 have ⟨a0, a1, a2, a3, a4, a5, a6⟩ := A3
 have ⟨b0, b1, b2, b3, b4, b5, b6⟩ := B3
 have ⟨r0, r1, r2, r3, r4, r5, r6⟩ := R3
 go_wp2_with fail
 refine (isFalse_any _ _ _ _).mono ?_
 rintro e w4 ⟨rfl, hb4⟩
 rw [f2]
 clear a0 a1 a2 a3 a4 a5 a6 b0 b1 b2 b3 b4 b5 b6 r0 r1 r2 r3 r4 r5 r6
 have A4 := A3.next hb4
 have B4 := B3.next hb4
 have R4 := R3.next hb4
 have ⟨a0, a1, a2, a3, a4, a5, a6⟩ := A4
 have ⟨b0, b1, b2, b3, b4, b5, b6⟩ := B4
 have ⟨r0, r1, r2, r3, r4, r5, r6⟩ := R4
 go_wp2_with fail
 refine (bool_false _).mono ?_
 rintro e w5 ⟨rfl, hb5⟩
 clear a0 a1 a2 a3 a4 a5 a6 b0 b1 b2 b3 b4 b5 b6 r0 r1 r2 r3 r4 r5 r6
 have A5 := A4.next hb5
 have B5 := B4.next hb5
 have R5 := R4.next hb5
 have ⟨a0, a1, a2, a3, a4, a5, a6⟩ := A5
 have ⟨b0, b1, b2, b3, b4, b5, b6⟩ := B5
 have ⟨r0, r1, r2, r3, r4, r5, r6⟩ := R5
 go_wp2_with fail
 have z1 := hb1.size
 have z2 := hb2.size
 have z3 := hb3.size
 have z4 := hb4.size
 have z5 := hb5.size
 simp at z1
 exact bodyPost_ret (v := .agg #[.int .i64 2, .int .i64 0, .string ⟨#[]⟩]) (by simp [results, Tryz.results177, go_sem, r1, r2, r3]) rfl ⟨rfl, below_set3 (((((below3 hb1).trans (hb2.mono (by omega))).trans (hb3.mono (by omega))).trans (hb4.mono (by omega))).trans (hb5.mono (by omega))) (by omega)⟩

set_option maxHeartbeats 400000 in
theorem or_fx (k n k' n' : Int) (s s' : ByteArray) (w : World) (t1 : (cls k n == some true) = false) (t2 : (cls k' n' == some true) = false) (f1 : (cls k n == some false) = true) (f2 : (cls k' n' == some false) = false) :
  Calls Tryz.prog 177 #[.agg #[.int .i64 k, .int .i64 n, .string s], .agg #[.int .i64 k', .int .i64 n', .string s']] w fun e w' => e = .returned (.agg #[.int .i64 1, .int .i64 0, .string ⟨#[]⟩]) ∧ Below w.heap.size w w' := by
 go_enter Tryz.func177, Tryz.ntmps177
 go_wp2_with fail
 have A0 := ((Box.new w (.int .i64 k) (.int .i64 n) (.string s) 24).alloc (.cells #[.int .i64 k', .int .i64 n', .string s'] 24)).alloc (.cells #[.int .i64 0, .int .i64 0, .string ⟨#[]⟩] 24)
 have B0 := (Box.new (w.alloc (.cells #[.int .i64 k, .int .i64 n, .string s] 24)) (.int .i64 k') (.int .i64 n') (.string s') 24).alloc (.cells #[.int .i64 0, .int .i64 0, .string ⟨#[]⟩] 24)
 have R0 := Box.new ((w.alloc (.cells #[.int .i64 k, .int .i64 n, .string s] 24)).alloc (.cells #[.int .i64 k', .int .i64 n', .string s'] 24)) (.int .i64 0) (.int .i64 0) (.string ⟨#[]⟩) 24
 simp only [World.size_alloc] at B0 R0
 refine (true_any _ _ _ _).mono ?_
 rintro e w1 ⟨rfl, hb1⟩
 rw [t1]
 have A1 := A0.next hb1
 have B1 := B0.next hb1
 have R1 := R0.next hb1
 have ⟨a0, a1, a2, a3, a4, a5, a6⟩ := A1
 have ⟨b0, b1, b2, b3, b4, b5, b6⟩ := B1
 have ⟨r0, r1, r2, r3, r4, r5, r6⟩ := R1
 go_wp2_with fail
 refine (true_any _ _ _ _).mono ?_
 rintro e w2 ⟨rfl, hb2⟩
 rw [t2]
 clear a0 a1 a2 a3 a4 a5 a6 b0 b1 b2 b3 b4 b5 b6 r0 r1 r2 r3 r4 r5 r6
 have A2 := A1.next hb2
 have B2 := B1.next hb2
 have R2 := R1.next hb2
 have ⟨a0, a1, a2, a3, a4, a5, a6⟩ := A2
 have ⟨b0, b1, b2, b3, b4, b5, b6⟩ := B2
 have ⟨r0, r1, r2, r3, r4, r5, r6⟩ := R2
 go_wp2_with fail
 refine (isFalse_any _ _ _ _).mono ?_
 rintro e w3 ⟨rfl, hb3⟩
 rw [f1]
 clear a0 a1 a2 a3 a4 a5 a6 b0 b1 b2 b3 b4 b5 b6 r0 r1 r2 r3 r4 r5 r6
 have A3 := A2.next hb3
 have B3 := B2.next hb3
 have R3 := R2.next hb3
 have ⟨a0, a1, a2, a3, a4, a5, a6⟩ := A3
 have ⟨b0, b1, b2, b3, b4, b5, b6⟩ := B3
 have ⟨r0, r1, r2, r3, r4, r5, r6⟩ := R3
 go_wp2_with fail
 refine (isFalse_any _ _ _ _).mono ?_
 rintro e w4 ⟨rfl, hb4⟩
 rw [f2]
 clear a0 a1 a2 a3 a4 a5 a6 b0 b1 b2 b3 b4 b5 b6 r0 r1 r2 r3 r4 r5 r6
 have A4 := A3.next hb4
 have B4 := B3.next hb4
 have R4 := R3.next hb4
 have ⟨a0, a1, a2, a3, a4, a5, a6⟩ := A4
 have ⟨b0, b1, b2, b3, b4, b5, b6⟩ := B4
 have ⟨r0, r1, r2, r3, r4, r5, r6⟩ := R4
 go_wp2_with fail
 refine (null_any _).mono ?_
 rintro e w5 ⟨rfl, hb5⟩
 clear a0 a1 a2 a3 a4 a5 a6 b0 b1 b2 b3 b4 b5 b6 r0 r1 r2 r3 r4 r5 r6
 have A5 := A4.next hb5
 have B5 := B4.next hb5
 have R5 := R4.next hb5
 have ⟨a0, a1, a2, a3, a4, a5, a6⟩ := A5
 have ⟨b0, b1, b2, b3, b4, b5, b6⟩ := B5
 have ⟨r0, r1, r2, r3, r4, r5, r6⟩ := R5
 go_wp2_with fail
 have z1 := hb1.size
 have z2 := hb2.size
 have z3 := hb3.size
 have z4 := hb4.size
 have z5 := hb5.size
 simp at z1
 exact bodyPost_ret (v := .agg #[.int .i64 1, .int .i64 0, .string ⟨#[]⟩]) (by simp [results, Tryz.results177, go_sem, r1, r2, r3]) rfl ⟨rfl, below_set3 (((((below3 hb1).trans (hb2.mono (by omega))).trans (hb3.mono (by omega))).trans (hb4.mono (by omega))).trans (hb5.mono (by omega))) (by omega)⟩

set_option maxHeartbeats 400000 in
theorem or_xx (k n k' n' : Int) (s s' : ByteArray) (w : World) (t1 : (cls k n == some true) = false) (t2 : (cls k' n' == some true) = false) (f1 : (cls k n == some false) = false) :
  Calls Tryz.prog 177 #[.agg #[.int .i64 k, .int .i64 n, .string s], .agg #[.int .i64 k', .int .i64 n', .string s']] w fun e w' => e = .returned (.agg #[.int .i64 1, .int .i64 0, .string ⟨#[]⟩]) ∧ Below w.heap.size w w' := by
 go_enter Tryz.func177, Tryz.ntmps177
 go_wp2_with fail
 have A0 := ((Box.new w (.int .i64 k) (.int .i64 n) (.string s) 24).alloc (.cells #[.int .i64 k', .int .i64 n', .string s'] 24)).alloc (.cells #[.int .i64 0, .int .i64 0, .string ⟨#[]⟩] 24)
 have B0 := (Box.new (w.alloc (.cells #[.int .i64 k, .int .i64 n, .string s] 24)) (.int .i64 k') (.int .i64 n') (.string s') 24).alloc (.cells #[.int .i64 0, .int .i64 0, .string ⟨#[]⟩] 24)
 have R0 := Box.new ((w.alloc (.cells #[.int .i64 k, .int .i64 n, .string s] 24)).alloc (.cells #[.int .i64 k', .int .i64 n', .string s'] 24)) (.int .i64 0) (.int .i64 0) (.string ⟨#[]⟩) 24
 simp only [World.size_alloc] at B0 R0
 refine (true_any _ _ _ _).mono ?_
 rintro e w1 ⟨rfl, hb1⟩
 rw [t1]
 have A1 := A0.next hb1
 have B1 := B0.next hb1
 have R1 := R0.next hb1
 have ⟨a0, a1, a2, a3, a4, a5, a6⟩ := A1
 have ⟨b0, b1, b2, b3, b4, b5, b6⟩ := B1
 have ⟨r0, r1, r2, r3, r4, r5, r6⟩ := R1
 go_wp2_with fail
 refine (true_any _ _ _ _).mono ?_
 rintro e w2 ⟨rfl, hb2⟩
 rw [t2]
 clear a0 a1 a2 a3 a4 a5 a6 b0 b1 b2 b3 b4 b5 b6 r0 r1 r2 r3 r4 r5 r6
 have A2 := A1.next hb2
 have B2 := B1.next hb2
 have R2 := R1.next hb2
 have ⟨a0, a1, a2, a3, a4, a5, a6⟩ := A2
 have ⟨b0, b1, b2, b3, b4, b5, b6⟩ := B2
 have ⟨r0, r1, r2, r3, r4, r5, r6⟩ := R2
 go_wp2_with fail
 refine (isFalse_any _ _ _ _).mono ?_
 rintro e w3 ⟨rfl, hb3⟩
 rw [f1]
 clear a0 a1 a2 a3 a4 a5 a6 b0 b1 b2 b3 b4 b5 b6 r0 r1 r2 r3 r4 r5 r6
 have A3 := A2.next hb3
 have B3 := B2.next hb3
 have R3 := R2.next hb3
 have ⟨a0, a1, a2, a3, a4, a5, a6⟩ := A3
 have ⟨b0, b1, b2, b3, b4, b5, b6⟩ := B3
 have ⟨r0, r1, r2, r3, r4, r5, r6⟩ := R3
 go_wp2_with fail
 refine (null_any _).mono ?_
 rintro e w4 ⟨rfl, hb4⟩
 clear a0 a1 a2 a3 a4 a5 a6 b0 b1 b2 b3 b4 b5 b6 r0 r1 r2 r3 r4 r5 r6
 have A4 := A3.next hb4
 have B4 := B3.next hb4
 have R4 := R3.next hb4
 have ⟨a0, a1, a2, a3, a4, a5, a6⟩ := A4
 have ⟨b0, b1, b2, b3, b4, b5, b6⟩ := B4
 have ⟨r0, r1, r2, r3, r4, r5, r6⟩ := R4
 go_wp2_with fail
 have z1 := hb1.size
 have z2 := hb2.size
 have z3 := hb3.size
 have z4 := hb4.size
 simp at z1
 exact bodyPost_ret (v := .agg #[.int .i64 1, .int .i64 0, .string ⟨#[]⟩]) (by simp [results, Tryz.results177, go_sem, r1, r2, r3]) rfl ⟨rfl, below_set3 ((((below3 hb1).trans (hb2.mono (by omega))).trans (hb3.mono (by omega))).trans (hb4.mono (by omega))) (by omega)⟩

set_option maxHeartbeats 400000 in
theorem not_t (k n : Int) (s : ByteArray) (w : World) (t1 : (cls k n == some true) = true) :
  Calls Tryz.prog 141 #[.agg #[.int .i64 k, .int .i64 n, .string s]] w fun e w' => e = .returned (.agg #[.int .i64 2, .int .i64 0, .string ⟨#[]⟩]) ∧ Below w.heap.size w w' := by
 go_enter Tryz.func141, Tryz.ntmps141
 go_wp2_with fail
 have A0 := ((Box.new w (.int .i64 k) (.int .i64 n) (.string s) 24).alloc (.cells #[.int .i64 0, .int .i64 0, .string ⟨#[]⟩] 24))
 have R0 := Box.new (w.alloc (.cells #[.int .i64 k, .int .i64 n, .string s] 24)) (.int .i64 0) (.int .i64 0) (.string ⟨#[]⟩) 24
 simp only [World.size_alloc] at R0
 refine (true_any _ _ _ _).mono ?_
 rintro e w1 ⟨rfl, hb1⟩
 rw [t1]
 have A1 := A0.next hb1
 have R1 := R0.next hb1
 have ⟨a0, a1, a2, a3, a4, a5, a6⟩ := A1
 have ⟨r0, r1, r2, r3, r4, r5, r6⟩ := R1
 go_wp2_with fail
 refine (bool_false _).mono ?_
 rintro e w2 ⟨rfl, hb2⟩
 clear a0 a1 a2 a3 a4 a5 a6 r0 r1 r2 r3 r4 r5 r6
 have A2 := A1.next hb2
 have R2 := R1.next hb2
 have ⟨a0, a1, a2, a3, a4, a5, a6⟩ := A2
 have ⟨r0, r1, r2, r3, r4, r5, r6⟩ := R2
 go_wp2_with fail
 have z1 := hb1.size
 have z2 := hb2.size
 simp at z1
 exact bodyPost_ret (v := .agg #[.int .i64 2, .int .i64 0, .string ⟨#[]⟩]) (by simp [results, Tryz.results141, go_sem, r1, r2, r3]) rfl ⟨rfl, below_set3 ((below2 hb1).trans (hb2.mono (by omega))) (by omega)⟩

set_option maxHeartbeats 400000 in
theorem not_f (k n : Int) (s : ByteArray) (w : World) (t1 : (cls k n == some true) = false) (f1 : (cls k n == some false) = true) :
  Calls Tryz.prog 141 #[.agg #[.int .i64 k, .int .i64 n, .string s]] w fun e w' => e = .returned (.agg #[.int .i64 2, .int .i64 1, .string ⟨#[]⟩]) ∧ Below w.heap.size w w' := by
 go_enter Tryz.func141, Tryz.ntmps141
 go_wp2_with fail
 have A0 := ((Box.new w (.int .i64 k) (.int .i64 n) (.string s) 24).alloc (.cells #[.int .i64 0, .int .i64 0, .string ⟨#[]⟩] 24))
 have R0 := Box.new (w.alloc (.cells #[.int .i64 k, .int .i64 n, .string s] 24)) (.int .i64 0) (.int .i64 0) (.string ⟨#[]⟩) 24
 simp only [World.size_alloc] at R0
 refine (true_any _ _ _ _).mono ?_
 rintro e w1 ⟨rfl, hb1⟩
 rw [t1]
 have A1 := A0.next hb1
 have R1 := R0.next hb1
 have ⟨a0, a1, a2, a3, a4, a5, a6⟩ := A1
 have ⟨r0, r1, r2, r3, r4, r5, r6⟩ := R1
 go_wp2_with fail
 refine (isFalse_any _ _ _ _).mono ?_
 rintro e w2 ⟨rfl, hb2⟩
 rw [f1]
 clear a0 a1 a2 a3 a4 a5 a6 r0 r1 r2 r3 r4 r5 r6
 have A2 := A1.next hb2
 have R2 := R1.next hb2
 have ⟨a0, a1, a2, a3, a4, a5, a6⟩ := A2
 have ⟨r0, r1, r2, r3, r4, r5, r6⟩ := R2
 go_wp2_with fail
 refine (bool_true _).mono ?_
 rintro e w3 ⟨rfl, hb3⟩
 clear a0 a1 a2 a3 a4 a5 a6 r0 r1 r2 r3 r4 r5 r6
 have A3 := A2.next hb3
 have R3 := R2.next hb3
 have ⟨a0, a1, a2, a3, a4, a5, a6⟩ := A3
 have ⟨r0, r1, r2, r3, r4, r5, r6⟩ := R3
 go_wp2_with fail
 have z1 := hb1.size
 have z2 := hb2.size
 have z3 := hb3.size
 simp at z1
 exact bodyPost_ret (v := .agg #[.int .i64 2, .int .i64 1, .string ⟨#[]⟩]) (by simp [results, Tryz.results141, go_sem, r1, r2, r3]) rfl ⟨rfl, below_set3 (((below2 hb1).trans (hb2.mono (by omega))).trans (hb3.mono (by omega))) (by omega)⟩

set_option maxHeartbeats 400000 in
theorem not_x (k n : Int) (s : ByteArray) (w : World) (t1 : (cls k n == some true) = false) (f1 : (cls k n == some false) = false) :
  Calls Tryz.prog 141 #[.agg #[.int .i64 k, .int .i64 n, .string s]] w fun e w' => e = .returned (.agg #[.int .i64 1, .int .i64 0, .string ⟨#[]⟩]) ∧ Below w.heap.size w w' := by
 go_enter Tryz.func141, Tryz.ntmps141
 go_wp2_with fail
 have A0 := ((Box.new w (.int .i64 k) (.int .i64 n) (.string s) 24).alloc (.cells #[.int .i64 0, .int .i64 0, .string ⟨#[]⟩] 24))
 have R0 := Box.new (w.alloc (.cells #[.int .i64 k, .int .i64 n, .string s] 24)) (.int .i64 0) (.int .i64 0) (.string ⟨#[]⟩) 24
 simp only [World.size_alloc] at R0
 refine (true_any _ _ _ _).mono ?_
 rintro e w1 ⟨rfl, hb1⟩
 rw [t1]
 have A1 := A0.next hb1
 have R1 := R0.next hb1
 have ⟨a0, a1, a2, a3, a4, a5, a6⟩ := A1
 have ⟨r0, r1, r2, r3, r4, r5, r6⟩ := R1
 go_wp2_with fail
 refine (isFalse_any _ _ _ _).mono ?_
 rintro e w2 ⟨rfl, hb2⟩
 rw [f1]
 clear a0 a1 a2 a3 a4 a5 a6 r0 r1 r2 r3 r4 r5 r6
 have A2 := A1.next hb2
 have R2 := R1.next hb2
 have ⟨a0, a1, a2, a3, a4, a5, a6⟩ := A2
 have ⟨r0, r1, r2, r3, r4, r5, r6⟩ := R2
 go_wp2_with fail
 refine (null_any _).mono ?_
 rintro e w3 ⟨rfl, hb3⟩
 clear a0 a1 a2 a3 a4 a5 a6 r0 r1 r2 r3 r4 r5 r6
 have A3 := A2.next hb3
 have R3 := R2.next hb3
 have ⟨a0, a1, a2, a3, a4, a5, a6⟩ := A3
 have ⟨r0, r1, r2, r3, r4, r5, r6⟩ := R3
 go_wp2_with fail
 have z1 := hb1.size
 have z2 := hb2.size
 have z3 := hb3.size
 simp at z1
 exact bodyPost_ret (v := .agg #[.int .i64 1, .int .i64 0, .string ⟨#[]⟩]) (by simp [results, Tryz.results141, go_sem, r1, r2, r3]) rfl ⟨rfl, below_set3 (((below2 hb1).trans (hb2.mono (by omega))).trans (hb3.mono (by omega))) (by omega)⟩

theorem and_any (k n k' n' : Int) (s s' : ByteArray) (w : World) :
  Calls Tryz.prog 176 #[.agg #[.int .i64 k, .int .i64 n, .string s], .agg #[.int .i64 k', .int .i64 n', .string s']] w fun e w' => e = .returned (.agg #[.int .i64 (tk (and3 (cls k n) (cls k' n'))), .int .i64 (tn (and3 (cls k n) (cls k' n'))), .string ⟨#[]⟩]) ∧ Below w.heap.size w w' := by
 rcases h1 : cls k n with _ | _ | _ <;> rcases h2 : cls k' n' with _ | _ | _
 ·exact and_xx k n k' n' s s' w (by simp [h1]) (by simp [h2]) (by simp [h1])
 ·exact and_xf k n k' n' s s' w (by simp [h1]) (by simp [h2])
 ·exact and_xx k n k' n' s s' w (by simp [h1]) (by simp [h2]) (by simp [h1])
 ·exact and_f k n k' n' s s' w (by simp [h1])
 ·exact and_f k n k' n' s s' w (by simp [h1])
 ·exact and_f k n k' n' s s' w (by simp [h1])
 ·exact and_tx k n k' n' s s' w (by simp [h1]) (by simp [h2]) (by simp [h1]) (by simp [h2])
 ·exact and_xf k n k' n' s s' w (by simp [h1]) (by simp [h2])
 ·exact and_tt k n k' n' s s' w (by simp [h1]) (by simp [h2]) (by simp [h1]) (by simp [h2])
theorem or_any (k n k' n' : Int) (s s' : ByteArray) (w : World) :
  Calls Tryz.prog 177 #[.agg #[.int .i64 k, .int .i64 n, .string s], .agg #[.int .i64 k', .int .i64 n', .string s']] w fun e w' => e = .returned (.agg #[.int .i64 (tk (or3 (cls k n) (cls k' n'))), .int .i64 (tn (or3 (cls k n) (cls k' n'))), .string ⟨#[]⟩]) ∧ Below w.heap.size w w' := by
 rcases h1 : cls k n with _ | _ | _ <;> rcases h2 : cls k' n' with _ | _ | _
 ·exact or_xx k n k' n' s s' w (by simp [h1]) (by simp [h2]) (by simp [h1])
 ·exact or_xx k n k' n' s s' w (by simp [h1]) (by simp [h2]) (by simp [h1])
 ·exact or_xt k n k' n' s s' w (by simp [h1]) (by simp [h2])
 ·exact or_fx k n k' n' s s' w (by simp [h1]) (by simp [h2]) (by simp [h1]) (by simp [h2])
 ·exact or_ff k n k' n' s s' w (by simp [h1]) (by simp [h2]) (by simp [h1]) (by simp [h2])
 ·exact or_xt k n k' n' s s' w (by simp [h1]) (by simp [h2])
 ·exact or_t k n k' n' s s' w (by simp [h1])
 ·exact or_t k n k' n' s s' w (by simp [h1])
 ·exact or_t k n k' n' s s' w (by simp [h1])
theorem not_any (k n : Int) (s : ByteArray) (w : World) :
  Calls Tryz.prog 141 #[.agg #[.int .i64 k, .int .i64 n, .string s]] w fun e w' => e = .returned (.agg #[.int .i64 (tk (not3 (cls k n))), .int .i64 (tn (not3 (cls k n))), .string ⟨#[]⟩]) ∧ Below w.heap.size w w' := by
 rcases h1 : cls k n with _ | _ | _
 ·exact not_x k n s w (by simp [h1]) (by simp [h1])
 ·exact not_f k n s w (by simp [h1]) (by simp [h1])
 ·exact not_t k n s w (by simp [h1])
end Go.Proofs.YtfojonhblblbjaaGreat
/- The small functions of package exprs: kidsOf, together, isNull, wrongNode. -/
namespace Go.Proofs.YtfojonhblblbjaaGreat
open Go.RowKit

/-- An expression as a value: its node, and where its kids lie. -/
abbrev exV (k : Int) (v : Vl) (c : Int) (a : Option Addr) (n cap : Nat) : Value :=
 .agg #[.int .i64 k, .int .i64 v.1, .int .i64 v.2.1, .string v.2.2, .int .i64 c, .slice a n cap]
abbrev agV (v : Vl) : Value := .agg #[.int .i64 v.1, .int .i64 v.2.1, .string v.2.2]

theorem kidsOf_at (k : Int) (w : World) :
  Calls Tryz.prog 199 #[.int .i64 k] w fun e w' => e = .returned (.int .i64 (kidsN k : Nat)) ∧ Below w.heap.size w w' := by
 unfold kidsN
 by_cases h1 : k = 1
 ·subst h1; go_enter Tryz.func199, Tryz.ntmps199; go_wp2_with fail; go_ret; exact ⟨rfl, Below.refl _ _⟩
 by_cases h2 : k = 2
 ·subst h2; go_enter Tryz.func199, Tryz.ntmps199; go_wp2_with fail; go_ret; exact ⟨rfl, Below.refl _ _⟩
 by_cases h3 : k = 3
 ·subst h3; go_enter Tryz.func199, Tryz.ntmps199; go_wp2_with fail; go_ret; exact ⟨rfl, Below.refl _ _⟩
 by_cases h4 : k = 16
 ·subst h4; go_enter Tryz.func199, Tryz.ntmps199; go_wp2_with fail; go_ret; exact ⟨rfl, Below.refl _ _⟩
 by_cases h5 : k = 17
 ·subst h5; go_enter Tryz.func199, Tryz.ntmps199; go_wp2_with fail; go_ret; exact ⟨rfl, Below.refl _ _⟩
 rw [if_neg (by omega), if_neg (by omega), if_neg (by omega)]
 have q1 : (k == 1) = false := by simpa using h1
 have q2 : (k == 2) = false := by simpa using h2
 have q3 : (k == 3) = false := by simpa using h3
 have q4 : (k == 16) = false := by simpa using h4
 have q5 : (k == 17) = false := by simpa using h5
 go_enter Tryz.func199, Tryz.ntmps199
 go_wp2_with fail
 go_ret
 exact ⟨rfl, Below.refl _ _⟩

def togR (a b : Int) : Int × Int := resT (tog a b)
theorem togR_1 (a : Int) : togR a a = (a, 0) := by simp [togR, tog, resT]
theorem togR_2 (a : Int) : togR a 1 = (a, 0) := by simp [togR, tog, resT]
theorem togR_3 {b : Int} (h : ¬ b = 1) : togR 1 b = (b, 0) := by
 have h' : ¬ 1 = b := fun e => h e.symm
 simp [togR, tog, resT, h, h']
theorem togR_4 {a b : Int} (h1 : ¬ a = b) (h2 : ¬ b = 1) (h3 : ¬ a = 1) : togR a b = (0, 9) := by simp [togR, tog, resT, h1, h2, h3]
theorem together_at (a b : Int) (w : World) :
  Calls Tryz.prog 201 #[.int .i64 a, .int .i64 b] w fun e w' => e = .returned (.tuple #[.int .i64 (togR a b).1, .int .i64 (togR a b).2]) ∧ Below w.heap.size w w' := by
 by_cases h1 : a = b
 ·subst h1
  rw [togR_1]
  go_enter Tryz.func201, Tryz.ntmps201
  go_wp2_with fail
  exact bodyPost_ret (v := .tuple #[.int .i64 a, .int .i64 0]) (by simp [results, Tryz.results201, go_sem]) rfl ⟨rfl, Below.refl _ _⟩
 have q1 : (a == b) = false := by simpa using h1
 by_cases h2 : b = 1
 ·subst h2
  rw [togR_2]
  go_enter Tryz.func201, Tryz.ntmps201
  go_wp2_with fail
  exact bodyPost_ret (v := .tuple #[.int .i64 a, .int .i64 0]) (by simp [results, Tryz.results201, go_sem]) rfl ⟨rfl, Below.refl _ _⟩
 have q2 : (b == 1) = false := by simpa using h2
 by_cases h3 : a = 1
 ·subst h3
  rw [togR_3 h2]
  go_enter Tryz.func201, Tryz.ntmps201
  go_wp2_with fail
  exact bodyPost_ret (v := .tuple #[.int .i64 b, .int .i64 0]) (by simp [results, Tryz.results201, go_sem]) rfl ⟨rfl, Below.refl _ _⟩
 have q3 : (a == 1) = false := by simpa using h3
 rw [togR_4 h1 h2 h3]
 go_enter Tryz.func201, Tryz.ntmps201
 go_wp2_with fail
 exact bodyPost_ret (v := .tuple #[.int .i64 0, .int .i64 9]) (by simp [results, Tryz.results201, go_sem]) rfl ⟨rfl, Below.refl _ _⟩

theorem isNull_at (k n : Int) (s : ByteArray) (w : World) :
  Calls Tryz.prog 143 #[.agg #[.int .i64 k, .int .i64 n, .string s]] w fun e w' => e = .returned (.bool (k == 1)) ∧ Below w.heap.size w w' := by
 go_enter Tryz.func143, Tryz.ntmps143
 go_wp2_with fail
 go_ret
 exact ⟨rfl, ((Below.refl _ _).alloc (Nat.le_refl _) _)⟩

/-- An expression's six cells. -/
structure Six (W : World) (b off : Nat) (k : Int) (v : Vl) (c : Int) (a : Option Addr) (n cap : Nat) : Prop where
 c0 : W.cell? ⟨b, off, none⟩ = some (.int .i64 k)
 c1 : W.cell? ⟨b, off + 1, none⟩ = some (.int .i64 v.1)
 c2 : W.cell? ⟨b, off + 2, none⟩ = some (.int .i64 v.2.1)
 c3 : W.cell? ⟨b, off + 3, none⟩ = some (.string v.2.2)
 c4 : W.cell? ⟨b, off + 4, none⟩ = some (.int .i64 c)
 c5 : W.cell? ⟨b, off + 5, none⟩ = some (.slice a n cap)
theorem Six.next {W w1 : World} {B b off : Nat} {k : Int} {v : Vl} {c : Int} {a : Option Addr} {n cap : Nat} (h : Six W b off k v c a n cap) (hb : Below B W w1) (hB : b < B) : Six w1 b off k v c a n cap :=
 ⟨(hb.cell (p := ⟨b, _, none⟩) hB).trans h.c0, (hb.cell (p := ⟨b, _, none⟩) hB).trans h.c1, (hb.cell (p := ⟨b, _, none⟩) hB).trans h.c2, (hb.cell (p := ⟨b, _, none⟩) hB).trans h.c3, (hb.cell (p := ⟨b, _, none⟩) hB).trans h.c4, (hb.cell (p := ⟨b, _, none⟩) hB).trans h.c5⟩
theorem Six.new (w : World) (k : Int) (v : Vl) (c : Int) (a : Option Addr) (n cap t : Nat) : Six (w.alloc (.cells #[.int .i64 k, .int .i64 v.1, .int .i64 v.2.1, .string v.2.2, .int .i64 c, .slice a n cap] t)) w.heap.size 0 k v c a n cap :=
 ⟨by simp, by simp, by simp, by simp, by simp, by simp⟩

theorem nodeW_much {k : Int} {n : Nat} {m d : Int} (h : 200 < m ∨ 20 < d) : nodeW k n m d = 4 := by simp [nodeW, h]
theorem nodeW_kind {k : Int} {n : Nat} {m d : Int} (h : ¬ 200 < m) (h' : ¬ 20 < d) (h2 : k < 1 ∨ 18 < k) : nodeW k n m d = 1 := by simp [nodeW, h, h', h2]
theorem nodeW_many {k : Int} {n : Nat} {m d : Int} (h : ¬ 200 < m) (h' : ¬ 20 < d) (h2 : ¬ k < 1) (h3 : ¬ 18 < k) (h4 : ¬ n = kidsN k) : nodeW k n m d = 5 := by simp [nodeW, h, h', h2, h3, h4]
theorem nodeW_ok {k : Int} {n : Nat} {m d : Int} (h : ¬ 200 < m) (h' : ¬ 20 < d) (h2 : ¬ k < 1) (h3 : ¬ 18 < k) (h4 : n = kidsN k) : nodeW k n m d = 0 := by simp [nodeW, h, h', h2, h3, h4]

set_option maxHeartbeats 1000000 in
theorem wrongNode_at (k : Int) (v : Vl) (c : Int) (a : Option Addr) (n cap : Nat) (m d : Int) (w : World) :
  Calls Tryz.prog 168 #[exV k v c a n cap, .int .i64 m, .int .i64 d] w fun e w' => e = .returned (.int .i64 (nodeW k n m d)) ∧ Below w.heap.size w w' := by
 by_cases h1 : 200 < m
 ·rw [nodeW_much (.inl h1)]
  go_enter Tryz.func168, Tryz.ntmps168
  go_wp2_with fail
  go_ret
  exact ⟨rfl, ((Below.refl _ _).alloc (Nat.le_refl _) _)⟩
 by_cases h2 : 20 < d
 ·rw [nodeW_much (.inr h2)]
  go_enter Tryz.func168, Tryz.ntmps168
  go_wp2_with fail
  go_ret
  exact ⟨rfl, ((Below.refl _ _).alloc (Nat.le_refl _) _)⟩
 by_cases h3 : k < 1
 ·rw [nodeW_kind h1 h2 (.inl h3)]
  go_enter Tryz.func168, Tryz.ntmps168
  go_wp2_with fail
  go_ret
  exact ⟨rfl, ((Below.refl _ _).alloc (Nat.le_refl _) _)⟩
 by_cases h4 : 18 < k
 ·rw [nodeW_kind h1 h2 (.inr h4)]
  go_enter Tryz.func168, Tryz.ntmps168
  go_wp2_with fail
  go_ret
  exact ⟨rfl, ((Below.refl _ _).alloc (Nat.le_refl _) _)⟩
 obtain ⟨q, hq, hn⟩ : ∃ q : Bool, ((n : Int) != ((kidsN k : Nat) : Int)) = q ∧ nodeW k n m d = if q then 5 else 0 := by
  by_cases h5 : n = kidsN k
  ·exact ⟨false, by simp [h5], by rw [nodeW_ok h1 h2 h3 h4 h5]; rfl⟩
  ·exact ⟨true, by simp; omega, by rw [nodeW_many h1 h2 h3 h4 h5]; rfl⟩
 rw [hn]
 clear hn
 go_enter Tryz.func168, Tryz.ntmps168
 go_wp2_with fail
 have hA : Below w.heap.size w (w.alloc (.cells #[.int .i64 k, .int .i64 v.1, .int .i64 v.2.1, .string v.2.2, .int .i64 c, .slice a n cap] 27)) := ((Below.refl _ _).alloc (Nat.le_refl _) _)
 have S := Six.new w k v c a n cap 27
 generalize w.alloc (.cells #[.int .i64 k, .int .i64 v.1, .int .i64 v.2.1, .string v.2.2, .int .i64 c, .slice a n cap] 27) = wA at *
 have p0 := past_cell S.c0
 have p5 := past_cell S.c5
 simp only [Nat.zero_add] at p5
 haveI : Nonempty (Past wA) := ⟨⟨_, Below.refl _ _⟩⟩
 refine wp_region_past (by kernel_rfl) (by kernel_rfl) ?_
 repeat (go_big_quiet_step (first | (go_at_call 199; exact in_past (kidsOf_at _ _))))
 refine wpQuiet_nil ?_
 rintro w3 ⟨⟨v3, hb3⟩, h3'⟩
 obtain rfl : w3 = v3 := h3'
 have hb := chain hA hb3
 clear p0 p5 S hA hb3
 cases q
 ·go_wp2_with fail
  go_ret
  exact ⟨rfl, hb⟩
 ·go_wp2_with fail
  go_ret
  exact ⟨rfl, hb⟩
end Go.Proofs.YtfojonhblblbjaaGreat
/- The walks of vals.Int, vals.product, vals.Reckon: what each answers. -/
namespace Go.Proofs.YtfojonhblblbjaaGreat
open Go.RowKit

def inB (n : Int) : Bool := decide (-1000000000000000 ≤ n) && decide (n ≤ 1000000000000000)
theorem inB_t {n : Int} (h : inB n = true) : -1000000000000000 ≤ n ∧ n ≤ 1000000000000000 := by simpa [inB] using h
theorem inB_f {n : Int} (h : inB n = false) : n < -1000000000000000 ∨ 1000000000000000 < n := by
 unfold inB at h
 by_cases a : -1000000000000000 ≤ n
 ·by_cases b : n ≤ 1000000000000000
  ·simp [a, b] at h
  ·right; omega
 ·left; omega
theorem inB_mk {n : Int} (h0 : -1000000000000000 ≤ n) (h1 : n ≤ 1000000000000000) : inB n = true := by simp [inB, h0, h1]
theorem inB_no {n : Int} (h : n < -1000000000000000 ∨ 1000000000000000 < n) : inB n = false := by
 cases e : inB n
 ·rfl
 ·have := inB_t e; omega
def intK (n : Int) : Int := if inB n then 3 else 1
def intN (n : Int) : Int := if inB n then n else 0
def numB (k n : Int) : Bool := k == 3 && inB n
def recT (c n n' : Int) : Option Int := if c = 43 then some (n + n') else if c = 45 then some (n - n') else if c = 42 then some (n * n') else none
def optK : Option Int → Int | some x => intK x | none => 1
def optN : Option Int → Int | some x => intN x | none => 0
def recO (c k n k' n' : Int) : Option Int := if numB k n && numB k' n' then recT c n n' else none

set_option maxHeartbeats 400000 in
theorem inRange_any (n : Int) (w : World) :
  Calls Tryz.prog 136 #[.int .i64 n] w fun e w' => e = .returned (.bool (inB n)) ∧ w' = w := by
 by_cases h0 : -1000000000000000 ≤ n
 ·go_enter Tryz.func136, Tryz.ntmps136
  go_wp2
  go_ret
  exact ⟨ret_bool (by simp [inB, h0]), rfl⟩
 ·have hd : decide (-1000000000000000 ≤ n) = false := by simpa using h0
  have e : inB n = false := by simp only [inB, hd, Bool.false_and]
  go_enter Tryz.func136, Tryz.ntmps136
  go_wp2
  go_ret
  exact ⟨rfl, rfl⟩

set_option maxHeartbeats 400000 in
theorem int_in (n : Int) (w : World) (h : inB n = true) :
  Calls Tryz.prog 164 #[.int .i64 n] w fun e w' => e = .returned (.agg #[.int .i64 3, .int .i64 n, .string ⟨#[]⟩]) ∧ Below w.heap.size w w' := by
 go_enter Tryz.func164, Tryz.ntmps164
 go_wp2_with fail
 refine (inRange_any _ _).mono ?_
 rintro e w1 ⟨rfl, rfl⟩
 rw [h]
 go_wp2_with fail
 exact bodyPost_ret (v := .agg #[.int .i64 3, .int .i64 n, .string ⟨#[]⟩]) (by simp [results, Tryz.results164, go_sem]) rfl ⟨rfl, (Below.refl _ _).alloc (Nat.le_refl _) _⟩

set_option maxHeartbeats 400000 in
theorem int_out (n : Int) (w : World) (h : inB n = false) :
  Calls Tryz.prog 164 #[.int .i64 n] w fun e w' => e = .returned (.agg #[.int .i64 1, .int .i64 0, .string ⟨#[]⟩]) ∧ Below w.heap.size w w' := by
 go_enter Tryz.func164, Tryz.ntmps164
 go_wp2_with fail
 refine (inRange_any _ _).mono ?_
 rintro e w1 ⟨rfl, rfl⟩
 rw [h]
 have R0 := Box.new w (.int .i64 0) (.int .i64 0) (.string ⟨#[]⟩) 24
 go_wp2_with fail
 refine (null_any _).mono ?_
 rintro e w1 ⟨rfl, hb1⟩
 have R1 := R0.next hb1
 have ⟨r0, r1, r2, r3, r4, r5, r6⟩ := R1
 go_wp2_with fail
 exact bodyPost_ret (v := .agg #[.int .i64 1, .int .i64 0, .string ⟨#[]⟩]) (by simp [results, Tryz.results164, go_sem, r1, r2, r3]) rfl ⟨rfl, below_set3 (below1 hb1) (Nat.le_refl _)⟩

theorem int_any (n : Int) (w : World) :
  Calls Tryz.prog 164 #[.int .i64 n] w fun e w' => e = .returned (.agg #[.int .i64 (intK n), .int .i64 (intN n), .string ⟨#[]⟩]) ∧ Below w.heap.size w w' := by
 cases h : inB n
 ·have e1 : intK n = 1 := by simp [intK, h]
  have e2 : intN n = 0 := by simp [intN, h]
  rw [e1, e2]; exact int_out n w h
 ·have e1 : intK n = 3 := by simp [intK, h]
  have e2 : intN n = n := by simp [intN, h]
  rw [e1, e2]; exact int_in n w h

set_option maxHeartbeats 400000 in
theorem size_any (n : Int) (w : World) (h0 : -1000000000000000 ≤ n) (h1 : n ≤ 1000000000000000) :
  Calls Tryz.prog 216 #[.int .i64 n] w fun e w' => e = .returned (.int .i64 (n.natAbs : Int)) ∧ w' = w := by
 by_cases h : n < 0
 ·go_enter Tryz.func216, Tryz.ntmps216
  go_wp2
  go_ret
  exact ⟨ret_int (by omega), rfl⟩
 ·go_enter Tryz.func216, Tryz.ntmps216
  go_wp2
  go_ret
  exact ⟨ret_int (by omega), rfl⟩

set_option maxHeartbeats 400000 in
theorem isNumber_any (k n : Int) (s : ByteArray) (w : World) :
  Calls Tryz.prog 213 #[.agg #[.int .i64 k, .int .i64 n, .string s]] w fun e w' => e = .returned (.bool (numB k n)) ∧ Below w.heap.size w w' := by
 by_cases hk : k = 3
 ·subst hk
  have e0 : (wrongF 3 n s == 0) = numB 3 n := by
   cases h : inB n
   ·have := inB_f h
    have e : wrongF 3 n s = 3 := by
     rcases this with t | t
     ·exact wrong_k3l n s t
     ·exact wrong_k3g n s t
    simp [numB, h, e]
   ·have := inB_t h
    have e : wrongF 3 n s = 0 := wrong_k3 n s (by omega) (by omega)
    simp [numB, h, e]
  have E0 : Hid ((wrongF 3 n s == 0) = numB 3 n) := e0
  clear e0
  go_enter Tryz.func213, Tryz.ntmps213
  go_wp2_with fail
  refine (wrong_any _ _ _ _).mono ?_
  rintro e w1 ⟨rfl, hb1⟩
  go_wp2_with fail
  go_ret
  exact ⟨ret_bool E0.out, below1 hb1⟩
 ·have b3 : (k == 3) = false := by simpa using hk
  go_enter Tryz.func213, Tryz.ntmps213
  go_wp2_with fail
  go_ret
  exact ⟨ret_bool (by simp [numB, b3]), (Below.refl _ _).alloc (Nat.le_refl _) _⟩

end Go.Proofs.YtfojonhblblbjaaGreat
/- The walks of vals.product and vals.Reckon. -/
namespace Go.Proofs.YtfojonhblblbjaaGreat
open Go.RowKit

/-- A product whose one factor is more than the greatest number by the other one is too large; another one is not. -/
theorem mul_out (a b : Int) (h : (1000000000000000 / (a.natAbs : Int)) < (b.natAbs : Int)) (ha : a ≠ 0) : inB (a * b) = false := by
 apply inB_no
 have h1 : 1000000000000000 < (a.natAbs : Int) * (b.natAbs : Int) := by
  have p : 0 < (a.natAbs : Int) := by omega
  have := Int.lt_mul_of_ediv_lt p h
  rw [Int.mul_comm]; exact this
 have h2 : ((a * b).natAbs : Int) = (a.natAbs : Int) * (b.natAbs : Int) := by rw [Int.natAbs_mul]; exact Int.natCast_mul _ _
 rw [← h2] at h1
 omega
theorem mul_in (a b : Int) (h : (b.natAbs : Int) ≤ 1000000000000000 / (a.natAbs : Int)) (ha : a ≠ 0) : -1000000000000000 ≤ a * b ∧ a * b ≤ 1000000000000000 := by
 have h1 : (a.natAbs : Int) * (b.natAbs : Int) ≤ 1000000000000000 := by
  have p : 0 < (a.natAbs : Int) := by omega
  have := Int.mul_le_of_le_ediv p h
  rw [Int.mul_comm]; exact this
 have h2 : ((a * b).natAbs : Int) = (a.natAbs : Int) * (b.natAbs : Int) := by rw [Int.natAbs_mul]; exact Int.natCast_mul _ _
 rw [← h2] at h1
 omega

set_option maxHeartbeats 400000 in
theorem product_0 (b : Int) (w : World) :
  Calls Tryz.prog 214 #[.int .i64 0, .int .i64 b] w fun e w' => e = .returned (.agg #[.int .i64 (intK (0 * b)), .int .i64 (intN (0 * b)), .string ⟨#[]⟩]) ∧ Below w.heap.size w w' := by
 rw [Int.zero_mul]
 have R0 := Box.new w (.int .i64 0) (.int .i64 0) (.string ⟨#[]⟩) 24
 go_enter Tryz.func214, Tryz.ntmps214
 go_wp2_with fail
 refine (int_any _ _).mono ?_
 rintro e w1 ⟨rfl, hb1⟩
 have R1 := R0.next hb1
 have ⟨r0, r1, r2, r3, r4, r5, r6⟩ := R1
 go_wp2_with fail
 exact bodyPost_ret (v := .agg #[.int .i64 (intK 0), .int .i64 (intN 0), .string ⟨#[]⟩]) (by simp [results, Tryz.results214, go_sem, r1, r2, r3]) rfl ⟨rfl, below_set3 (below1 hb1) (Nat.le_refl _)⟩

set_option maxHeartbeats 400000 in
theorem product_out (a b : Int) (w : World) (a0 : -1000000000000000 ≤ a) (a1 : a ≤ 1000000000000000) (b0 : -1000000000000000 ≤ b) (b1 : b ≤ 1000000000000000) (ha : a ≠ 0) (h : (1000000000000000 / (a.natAbs : Int)) < (b.natAbs : Int)) :
  Calls Tryz.prog 214 #[.int .i64 a, .int .i64 b] w fun e w' => e = .returned (.agg #[.int .i64 1, .int .i64 0, .string ⟨#[]⟩]) ∧ Below w.heap.size w w' := by
 have R0 := Box.new w (.int .i64 0) (.int .i64 0) (.string ⟨#[]⟩) 24
 have bn : (a != 0) = true := by simpa using ha
 have p0 : 0 < (a.natAbs : Int) := by omega
 have p1 : (a.natAbs : Int) ≤ 1000000000000000 := by omega
 have q0 : 0 ≤ (b.natAbs : Int) := by omega
 have q1 : (b.natAbs : Int) ≤ 1000000000000000 := by omega
 go_enter Tryz.func214, Tryz.ntmps214
 go_wp2_with fail
 refine (size_any _ _ b0 b1).mono ?_
 rintro e w1 ⟨rfl, rfl⟩
 go_wp2_with fail
 refine (size_any _ _ a0 a1).mono ?_
 rintro e w1 ⟨rfl, rfl⟩
 generalize (a.natAbs : Int) = A at *
 generalize (b.natAbs : Int) = B at *
 go_wp2_with fail
 refine (null_any _).mono ?_
 rintro e w1 ⟨rfl, hb1⟩
 have R1 := R0.next hb1
 have ⟨r0, r1, r2, r3, r4, r5, r6⟩ := R1
 go_wp2_with fail
 exact bodyPost_ret (v := .agg #[.int .i64 1, .int .i64 0, .string ⟨#[]⟩]) (by simp [results, Tryz.results214, go_sem, r1, r2, r3]) rfl ⟨rfl, below_set3 (below1 hb1) (Nat.le_refl _)⟩

set_option maxHeartbeats 400000 in
theorem product_in (a b : Int) (w : World) (a0 : -1000000000000000 ≤ a) (a1 : a ≤ 1000000000000000) (b0 : -1000000000000000 ≤ b) (b1 : b ≤ 1000000000000000) (ha : a ≠ 0) (h : (b.natAbs : Int) ≤ (1000000000000000 / (a.natAbs : Int))) :
  Calls Tryz.prog 214 #[.int .i64 a, .int .i64 b] w fun e w' => e = .returned (.agg #[.int .i64 (intK (a * b)), .int .i64 (intN (a * b)), .string ⟨#[]⟩]) ∧ Below w.heap.size w w' := by
 have hm := mul_in a b h ha
 obtain ⟨m0, m1⟩ := hm
 have R0 := Box.new w (.int .i64 0) (.int .i64 0) (.string ⟨#[]⟩) 24
 have bn : (a != 0) = true := by simpa using ha
 have p0 : 0 < (a.natAbs : Int) := by omega
 have p1 : (a.natAbs : Int) ≤ 1000000000000000 := by omega
 have q0 : 0 ≤ (b.natAbs : Int) := by omega
 have q1 : (b.natAbs : Int) ≤ 1000000000000000 := by omega
 go_enter Tryz.func214, Tryz.ntmps214
 go_wp2_with fail
 refine (size_any _ _ b0 b1).mono ?_
 rintro e w1 ⟨rfl, rfl⟩
 go_wp2_with fail
 refine (size_any _ _ a0 a1).mono ?_
 rintro e w1 ⟨rfl, rfl⟩
 have ew : wrap64 (a * b) = a * b := by unfold wrap64; omega
 generalize (a.natAbs : Int) = A at *
 generalize (b.natAbs : Int) = B at *
 go_wp2_with fail
 refine (int_any _ _).mono ?_
 rintro e w1 ⟨rfl, hb1⟩
 have R1 := R0.next hb1
 have ⟨r0, r1, r2, r3, r4, r5, r6⟩ := R1
 go_wp2_with fail
 exact bodyPost_ret (v := .agg #[.int .i64 (intK (a * b)), .int .i64 (intN (a * b)), .string ⟨#[]⟩]) (by simp [results, Tryz.results214, go_sem, r1, r2, r3]) rfl ⟨rfl, below_set3 (below1 hb1) (Nat.le_refl _)⟩

theorem product_any (a b : Int) (w : World) (a0 : -1000000000000000 ≤ a) (a1 : a ≤ 1000000000000000) (b0 : -1000000000000000 ≤ b) (b1 : b ≤ 1000000000000000) :
  Calls Tryz.prog 214 #[.int .i64 a, .int .i64 b] w fun e w' => e = .returned (.agg #[.int .i64 (intK (a * b)), .int .i64 (intN (a * b)), .string ⟨#[]⟩]) ∧ Below w.heap.size w w' := by
 by_cases ha : a = 0
 ·subst ha; exact product_0 b w
 by_cases h : (1000000000000000 / (a.natAbs : Int)) < (b.natAbs : Int)
 ·have e := mul_out a b h ha
  have e1 : intK (a * b) = 1 := by simp [intK, e]
  have e2 : intN (a * b) = 0 := by simp [intN, e]
  rw [e1, e2]; exact product_out a b w a0 a1 b0 b1 ha h
 ·exact product_in a b w a0 a1 b0 b1 ha (by omega)

set_option maxHeartbeats 400000 in
theorem reckon_x (c k n k' n' : Int) (s s' : ByteArray) (w : World) (h : numB k n = false) :
  Calls Tryz.prog 206 #[.int .i32 c, .agg #[.int .i64 k, .int .i64 n, .string s], .agg #[.int .i64 k', .int .i64 n', .string s']] w fun e w' => e = .returned (.agg #[.int .i64 (1), .int .i64 (0), .string ⟨#[]⟩]) ∧ Below w.heap.size w w' := by
 have A0 := ((Box.new w (.int .i64 k) (.int .i64 n) (.string s) 24).alloc (.cells #[.int .i64 k', .int .i64 n', .string s'] 24)).alloc (.cells #[.int .i64 0, .int .i64 0, .string ⟨#[]⟩] 24)
 have B0 := (Box.new (w.alloc (.cells #[.int .i64 k, .int .i64 n, .string s] 24)) (.int .i64 k') (.int .i64 n') (.string s') 24).alloc (.cells #[.int .i64 0, .int .i64 0, .string ⟨#[]⟩] 24)
 have R0 := Box.new ((w.alloc (.cells #[.int .i64 k, .int .i64 n, .string s] 24)).alloc (.cells #[.int .i64 k', .int .i64 n', .string s'] 24)) (.int .i64 0) (.int .i64 0) (.string ⟨#[]⟩) 24
 simp only [World.size_alloc] at B0 R0
 go_enter Tryz.func206, Tryz.ntmps206
 go_wp2_with fail
 refine (isNumber_any _ _ _ _).mono ?_
 rintro e w1 ⟨rfl, hb1⟩
 rw [h]
 have A1 := A0.next hb1
 have B1 := B0.next hb1
 have R1 := R0.next hb1
 have ⟨a0, a1, a2, a3, a4, a5, a6⟩ := A1
 have ⟨b0, b1, b2, b3, b4, b5, b6⟩ := B1
 have ⟨r0, r1, r2, r3, r4, r5, r6⟩ := R1
 go_wp2_with fail
 refine (null_any _).mono ?_
 rintro e w2 ⟨rfl, hb2⟩
 clear a0 a1 a2 a3 a4 a5 a6 b0 b1 b2 b3 b4 b5 b6 r0 r1 r2 r3 r4 r5 r6
 have A2 := A1.next hb2
 have B2 := B1.next hb2
 have R2 := R1.next hb2
 have ⟨a0, a1, a2, a3, a4, a5, a6⟩ := A2
 have ⟨b0, b1, b2, b3, b4, b5, b6⟩ := B2
 have ⟨r0, r1, r2, r3, r4, r5, r6⟩ := R2
 go_wp2_with fail
 have z1 := hb1.size
 have z2 := hb2.size
 simp at z1
 exact bodyPost_ret (v := .agg #[.int .i64 (1), .int .i64 (0), .string ⟨#[]⟩]) (by simp [results, Tryz.results206, go_sem, r1, r2, r3]) rfl ⟨rfl, below_set3 ((below3 hb1).trans (hb2.mono (by omega))) (by omega)⟩

set_option maxHeartbeats 400000 in
theorem reckon_y (c k n k' n' : Int) (s s' : ByteArray) (w : World) (h : numB k n = true) (h' : numB k' n' = false) :
  Calls Tryz.prog 206 #[.int .i32 c, .agg #[.int .i64 k, .int .i64 n, .string s], .agg #[.int .i64 k', .int .i64 n', .string s']] w fun e w' => e = .returned (.agg #[.int .i64 (1), .int .i64 (0), .string ⟨#[]⟩]) ∧ Below w.heap.size w w' := by
 have A0 := ((Box.new w (.int .i64 k) (.int .i64 n) (.string s) 24).alloc (.cells #[.int .i64 k', .int .i64 n', .string s'] 24)).alloc (.cells #[.int .i64 0, .int .i64 0, .string ⟨#[]⟩] 24)
 have B0 := (Box.new (w.alloc (.cells #[.int .i64 k, .int .i64 n, .string s] 24)) (.int .i64 k') (.int .i64 n') (.string s') 24).alloc (.cells #[.int .i64 0, .int .i64 0, .string ⟨#[]⟩] 24)
 have R0 := Box.new ((w.alloc (.cells #[.int .i64 k, .int .i64 n, .string s] 24)).alloc (.cells #[.int .i64 k', .int .i64 n', .string s'] 24)) (.int .i64 0) (.int .i64 0) (.string ⟨#[]⟩) 24
 simp only [World.size_alloc] at B0 R0
 go_enter Tryz.func206, Tryz.ntmps206
 go_wp2_with fail
 refine (isNumber_any _ _ _ _).mono ?_
 rintro e w1 ⟨rfl, hb1⟩
 rw [h]
 have A1 := A0.next hb1
 have B1 := B0.next hb1
 have R1 := R0.next hb1
 have ⟨a0, a1, a2, a3, a4, a5, a6⟩ := A1
 have ⟨b0, b1, b2, b3, b4, b5, b6⟩ := B1
 have ⟨r0, r1, r2, r3, r4, r5, r6⟩ := R1
 go_wp2_with fail
 refine (isNumber_any _ _ _ _).mono ?_
 rintro e w2 ⟨rfl, hb2⟩
 rw [h']
 clear a0 a1 a2 a3 a4 a5 a6 b0 b1 b2 b3 b4 b5 b6 r0 r1 r2 r3 r4 r5 r6
 have A2 := A1.next hb2
 have B2 := B1.next hb2
 have R2 := R1.next hb2
 have ⟨a0, a1, a2, a3, a4, a5, a6⟩ := A2
 have ⟨b0, b1, b2, b3, b4, b5, b6⟩ := B2
 have ⟨r0, r1, r2, r3, r4, r5, r6⟩ := R2
 go_wp2_with fail
 refine (null_any _).mono ?_
 rintro e w3 ⟨rfl, hb3⟩
 clear a0 a1 a2 a3 a4 a5 a6 b0 b1 b2 b3 b4 b5 b6 r0 r1 r2 r3 r4 r5 r6
 have A3 := A2.next hb3
 have B3 := B2.next hb3
 have R3 := R2.next hb3
 have ⟨a0, a1, a2, a3, a4, a5, a6⟩ := A3
 have ⟨b0, b1, b2, b3, b4, b5, b6⟩ := B3
 have ⟨r0, r1, r2, r3, r4, r5, r6⟩ := R3
 go_wp2_with fail
 have z1 := hb1.size
 have z2 := hb2.size
 have z3 := hb3.size
 simp at z1
 exact bodyPost_ret (v := .agg #[.int .i64 (1), .int .i64 (0), .string ⟨#[]⟩]) (by simp [results, Tryz.results206, go_sem, r1, r2, r3]) rfl ⟨rfl, below_set3 (((below3 hb1).trans (hb2.mono (by omega))).trans (hb3.mono (by omega))) (by omega)⟩

set_option maxHeartbeats 400000 in
theorem reckon_add (c k n k' n' : Int) (s s' : ByteArray) (w : World) (h : numB k n = true) (h' : numB k' n' = true) (q0 : -1000000000000000 ≤ n) (q1 : n ≤ 1000000000000000) (p0 : -1000000000000000 ≤ n') (p1 : n' ≤ 1000000000000000) (hc : c = 43) :
  Calls Tryz.prog 206 #[.int .i32 c, .agg #[.int .i64 k, .int .i64 n, .string s], .agg #[.int .i64 k', .int .i64 n', .string s']] w fun e w' => e = .returned (.agg #[.int .i64 (intK (n + n')), .int .i64 (intN (n + n')), .string ⟨#[]⟩]) ∧ Below w.heap.size w w' := by
 subst hc
 have A0 := ((Box.new w (.int .i64 k) (.int .i64 n) (.string s) 24).alloc (.cells #[.int .i64 k', .int .i64 n', .string s'] 24)).alloc (.cells #[.int .i64 0, .int .i64 0, .string ⟨#[]⟩] 24)
 have B0 := (Box.new (w.alloc (.cells #[.int .i64 k, .int .i64 n, .string s] 24)) (.int .i64 k') (.int .i64 n') (.string s') 24).alloc (.cells #[.int .i64 0, .int .i64 0, .string ⟨#[]⟩] 24)
 have R0 := Box.new ((w.alloc (.cells #[.int .i64 k, .int .i64 n, .string s] 24)).alloc (.cells #[.int .i64 k', .int .i64 n', .string s'] 24)) (.int .i64 0) (.int .i64 0) (.string ⟨#[]⟩) 24
 simp only [World.size_alloc] at B0 R0
 go_enter Tryz.func206, Tryz.ntmps206
 go_wp2_with fail
 refine (isNumber_any _ _ _ _).mono ?_
 rintro e w1 ⟨rfl, hb1⟩
 rw [h]
 have A1 := A0.next hb1
 have B1 := B0.next hb1
 have R1 := R0.next hb1
 have ⟨a0, a1, a2, a3, a4, a5, a6⟩ := A1
 have ⟨b0, b1, b2, b3, b4, b5, b6⟩ := B1
 have ⟨r0, r1, r2, r3, r4, r5, r6⟩ := R1
 go_wp2_with fail
 refine (isNumber_any _ _ _ _).mono ?_
 rintro e w2 ⟨rfl, hb2⟩
 rw [h']
 clear a0 a1 a2 a3 a4 a5 a6 b0 b1 b2 b3 b4 b5 b6 r0 r1 r2 r3 r4 r5 r6
 have A2 := A1.next hb2
 have B2 := B1.next hb2
 have R2 := R1.next hb2
 have ⟨a0, a1, a2, a3, a4, a5, a6⟩ := A2
 have ⟨b0, b1, b2, b3, b4, b5, b6⟩ := B2
 have ⟨r0, r1, r2, r3, r4, r5, r6⟩ := R2
 go_wp2_with fail
 refine (int_any _ _).mono ?_
 rintro e w3 ⟨rfl, hb3⟩
 clear a0 a1 a2 a3 a4 a5 a6 b0 b1 b2 b3 b4 b5 b6 r0 r1 r2 r3 r4 r5 r6
 have A3 := A2.next hb3
 have B3 := B2.next hb3
 have R3 := R2.next hb3
 have ⟨a0, a1, a2, a3, a4, a5, a6⟩ := A3
 have ⟨b0, b1, b2, b3, b4, b5, b6⟩ := B3
 have ⟨r0, r1, r2, r3, r4, r5, r6⟩ := R3
 go_wp2_with fail
 have z1 := hb1.size
 have z2 := hb2.size
 have z3 := hb3.size
 simp at z1
 exact bodyPost_ret (v := .agg #[.int .i64 (intK (n + n')), .int .i64 (intN (n + n')), .string ⟨#[]⟩]) (by simp [results, Tryz.results206, go_sem, r1, r2, r3]) rfl ⟨rfl, below_set3 (((below3 hb1).trans (hb2.mono (by omega))).trans (hb3.mono (by omega))) (by omega)⟩

set_option maxHeartbeats 400000 in
theorem reckon_sub (c k n k' n' : Int) (s s' : ByteArray) (w : World) (h : numB k n = true) (h' : numB k' n' = true) (q0 : -1000000000000000 ≤ n) (q1 : n ≤ 1000000000000000) (p0 : -1000000000000000 ≤ n') (p1 : n' ≤ 1000000000000000) (hc : c = 45) :
  Calls Tryz.prog 206 #[.int .i32 c, .agg #[.int .i64 k, .int .i64 n, .string s], .agg #[.int .i64 k', .int .i64 n', .string s']] w fun e w' => e = .returned (.agg #[.int .i64 (intK (n - n')), .int .i64 (intN (n - n')), .string ⟨#[]⟩]) ∧ Below w.heap.size w w' := by
 subst hc
 have A0 := ((Box.new w (.int .i64 k) (.int .i64 n) (.string s) 24).alloc (.cells #[.int .i64 k', .int .i64 n', .string s'] 24)).alloc (.cells #[.int .i64 0, .int .i64 0, .string ⟨#[]⟩] 24)
 have B0 := (Box.new (w.alloc (.cells #[.int .i64 k, .int .i64 n, .string s] 24)) (.int .i64 k') (.int .i64 n') (.string s') 24).alloc (.cells #[.int .i64 0, .int .i64 0, .string ⟨#[]⟩] 24)
 have R0 := Box.new ((w.alloc (.cells #[.int .i64 k, .int .i64 n, .string s] 24)).alloc (.cells #[.int .i64 k', .int .i64 n', .string s'] 24)) (.int .i64 0) (.int .i64 0) (.string ⟨#[]⟩) 24
 simp only [World.size_alloc] at B0 R0
 go_enter Tryz.func206, Tryz.ntmps206
 go_wp2_with fail
 refine (isNumber_any _ _ _ _).mono ?_
 rintro e w1 ⟨rfl, hb1⟩
 rw [h]
 have A1 := A0.next hb1
 have B1 := B0.next hb1
 have R1 := R0.next hb1
 have ⟨a0, a1, a2, a3, a4, a5, a6⟩ := A1
 have ⟨b0, b1, b2, b3, b4, b5, b6⟩ := B1
 have ⟨r0, r1, r2, r3, r4, r5, r6⟩ := R1
 go_wp2_with fail
 refine (isNumber_any _ _ _ _).mono ?_
 rintro e w2 ⟨rfl, hb2⟩
 rw [h']
 clear a0 a1 a2 a3 a4 a5 a6 b0 b1 b2 b3 b4 b5 b6 r0 r1 r2 r3 r4 r5 r6
 have A2 := A1.next hb2
 have B2 := B1.next hb2
 have R2 := R1.next hb2
 have ⟨a0, a1, a2, a3, a4, a5, a6⟩ := A2
 have ⟨b0, b1, b2, b3, b4, b5, b6⟩ := B2
 have ⟨r0, r1, r2, r3, r4, r5, r6⟩ := R2
 go_wp2_with fail
 refine (int_any _ _).mono ?_
 rintro e w3 ⟨rfl, hb3⟩
 clear a0 a1 a2 a3 a4 a5 a6 b0 b1 b2 b3 b4 b5 b6 r0 r1 r2 r3 r4 r5 r6
 have A3 := A2.next hb3
 have B3 := B2.next hb3
 have R3 := R2.next hb3
 have ⟨a0, a1, a2, a3, a4, a5, a6⟩ := A3
 have ⟨b0, b1, b2, b3, b4, b5, b6⟩ := B3
 have ⟨r0, r1, r2, r3, r4, r5, r6⟩ := R3
 go_wp2_with fail
 have z1 := hb1.size
 have z2 := hb2.size
 have z3 := hb3.size
 simp at z1
 exact bodyPost_ret (v := .agg #[.int .i64 (intK (n - n')), .int .i64 (intN (n - n')), .string ⟨#[]⟩]) (by simp [results, Tryz.results206, go_sem, r1, r2, r3]) rfl ⟨rfl, below_set3 (((below3 hb1).trans (hb2.mono (by omega))).trans (hb3.mono (by omega))) (by omega)⟩

set_option maxHeartbeats 400000 in
theorem reckon_mul (c k n k' n' : Int) (s s' : ByteArray) (w : World) (h : numB k n = true) (h' : numB k' n' = true) (q0 : -1000000000000000 ≤ n) (q1 : n ≤ 1000000000000000) (p0 : -1000000000000000 ≤ n') (p1 : n' ≤ 1000000000000000) (hc : c = 42) :
  Calls Tryz.prog 206 #[.int .i32 c, .agg #[.int .i64 k, .int .i64 n, .string s], .agg #[.int .i64 k', .int .i64 n', .string s']] w fun e w' => e = .returned (.agg #[.int .i64 (intK (n * n')), .int .i64 (intN (n * n')), .string ⟨#[]⟩]) ∧ Below w.heap.size w w' := by
 subst hc
 have A0 := ((Box.new w (.int .i64 k) (.int .i64 n) (.string s) 24).alloc (.cells #[.int .i64 k', .int .i64 n', .string s'] 24)).alloc (.cells #[.int .i64 0, .int .i64 0, .string ⟨#[]⟩] 24)
 have B0 := (Box.new (w.alloc (.cells #[.int .i64 k, .int .i64 n, .string s] 24)) (.int .i64 k') (.int .i64 n') (.string s') 24).alloc (.cells #[.int .i64 0, .int .i64 0, .string ⟨#[]⟩] 24)
 have R0 := Box.new ((w.alloc (.cells #[.int .i64 k, .int .i64 n, .string s] 24)).alloc (.cells #[.int .i64 k', .int .i64 n', .string s'] 24)) (.int .i64 0) (.int .i64 0) (.string ⟨#[]⟩) 24
 simp only [World.size_alloc] at B0 R0
 go_enter Tryz.func206, Tryz.ntmps206
 go_wp2_with fail
 refine (isNumber_any _ _ _ _).mono ?_
 rintro e w1 ⟨rfl, hb1⟩
 rw [h]
 have A1 := A0.next hb1
 have B1 := B0.next hb1
 have R1 := R0.next hb1
 have ⟨a0, a1, a2, a3, a4, a5, a6⟩ := A1
 have ⟨b0, b1, b2, b3, b4, b5, b6⟩ := B1
 have ⟨r0, r1, r2, r3, r4, r5, r6⟩ := R1
 go_wp2_with fail
 refine (isNumber_any _ _ _ _).mono ?_
 rintro e w2 ⟨rfl, hb2⟩
 rw [h']
 clear a0 a1 a2 a3 a4 a5 a6 b0 b1 b2 b3 b4 b5 b6 r0 r1 r2 r3 r4 r5 r6
 have A2 := A1.next hb2
 have B2 := B1.next hb2
 have R2 := R1.next hb2
 have ⟨a0, a1, a2, a3, a4, a5, a6⟩ := A2
 have ⟨b0, b1, b2, b3, b4, b5, b6⟩ := B2
 have ⟨r0, r1, r2, r3, r4, r5, r6⟩ := R2
 go_wp2_with fail
 refine (product_any _ _ _ q0 q1 p0 p1).mono ?_
 rintro e w3 ⟨rfl, hb3⟩
 clear a0 a1 a2 a3 a4 a5 a6 b0 b1 b2 b3 b4 b5 b6 r0 r1 r2 r3 r4 r5 r6
 have A3 := A2.next hb3
 have B3 := B2.next hb3
 have R3 := R2.next hb3
 have ⟨a0, a1, a2, a3, a4, a5, a6⟩ := A3
 have ⟨b0, b1, b2, b3, b4, b5, b6⟩ := B3
 have ⟨r0, r1, r2, r3, r4, r5, r6⟩ := R3
 go_wp2_with fail
 have z1 := hb1.size
 have z2 := hb2.size
 have z3 := hb3.size
 simp at z1
 exact bodyPost_ret (v := .agg #[.int .i64 (intK (n * n')), .int .i64 (intN (n * n')), .string ⟨#[]⟩]) (by simp [results, Tryz.results206, go_sem, r1, r2, r3]) rfl ⟨rfl, below_set3 (((below3 hb1).trans (hb2.mono (by omega))).trans (hb3.mono (by omega))) (by omega)⟩

set_option maxHeartbeats 400000 in
theorem reckon_z (c k n k' n' : Int) (s s' : ByteArray) (w : World) (h : numB k n = true) (h' : numB k' n' = true) (c1 : (c == 43) = false) (c2 : (c == 45) = false) (c3 : (c == 42) = false) :
  Calls Tryz.prog 206 #[.int .i32 c, .agg #[.int .i64 k, .int .i64 n, .string s], .agg #[.int .i64 k', .int .i64 n', .string s']] w fun e w' => e = .returned (.agg #[.int .i64 (1), .int .i64 (0), .string ⟨#[]⟩]) ∧ Below w.heap.size w w' := by
 have A0 := ((Box.new w (.int .i64 k) (.int .i64 n) (.string s) 24).alloc (.cells #[.int .i64 k', .int .i64 n', .string s'] 24)).alloc (.cells #[.int .i64 0, .int .i64 0, .string ⟨#[]⟩] 24)
 have B0 := (Box.new (w.alloc (.cells #[.int .i64 k, .int .i64 n, .string s] 24)) (.int .i64 k') (.int .i64 n') (.string s') 24).alloc (.cells #[.int .i64 0, .int .i64 0, .string ⟨#[]⟩] 24)
 have R0 := Box.new ((w.alloc (.cells #[.int .i64 k, .int .i64 n, .string s] 24)).alloc (.cells #[.int .i64 k', .int .i64 n', .string s'] 24)) (.int .i64 0) (.int .i64 0) (.string ⟨#[]⟩) 24
 simp only [World.size_alloc] at B0 R0
 go_enter Tryz.func206, Tryz.ntmps206
 go_wp2_with fail
 refine (isNumber_any _ _ _ _).mono ?_
 rintro e w1 ⟨rfl, hb1⟩
 rw [h]
 have A1 := A0.next hb1
 have B1 := B0.next hb1
 have R1 := R0.next hb1
 have ⟨a0, a1, a2, a3, a4, a5, a6⟩ := A1
 have ⟨b0, b1, b2, b3, b4, b5, b6⟩ := B1
 have ⟨r0, r1, r2, r3, r4, r5, r6⟩ := R1
 go_wp2_with fail
 refine (isNumber_any _ _ _ _).mono ?_
 rintro e w2 ⟨rfl, hb2⟩
 rw [h']
 clear a0 a1 a2 a3 a4 a5 a6 b0 b1 b2 b3 b4 b5 b6 r0 r1 r2 r3 r4 r5 r6
 have A2 := A1.next hb2
 have B2 := B1.next hb2
 have R2 := R1.next hb2
 have ⟨a0, a1, a2, a3, a4, a5, a6⟩ := A2
 have ⟨b0, b1, b2, b3, b4, b5, b6⟩ := B2
 have ⟨r0, r1, r2, r3, r4, r5, r6⟩ := R2
 go_wp2_with fail
 refine (null_any _).mono ?_
 rintro e w3 ⟨rfl, hb3⟩
 clear a0 a1 a2 a3 a4 a5 a6 b0 b1 b2 b3 b4 b5 b6 r0 r1 r2 r3 r4 r5 r6
 have A3 := A2.next hb3
 have B3 := B2.next hb3
 have R3 := R2.next hb3
 have ⟨a0, a1, a2, a3, a4, a5, a6⟩ := A3
 have ⟨b0, b1, b2, b3, b4, b5, b6⟩ := B3
 have ⟨r0, r1, r2, r3, r4, r5, r6⟩ := R3
 go_wp2_with fail
 have z1 := hb1.size
 have z2 := hb2.size
 have z3 := hb3.size
 simp at z1
 exact bodyPost_ret (v := .agg #[.int .i64 (1), .int .i64 (0), .string ⟨#[]⟩]) (by simp [results, Tryz.results206, go_sem, r1, r2, r3]) rfl ⟨rfl, below_set3 (((below3 hb1).trans (hb2.mono (by omega))).trans (hb3.mono (by omega))) (by omega)⟩

theorem reckon_any (c k n k' n' : Int) (s s' : ByteArray) (w : World) :
  Calls Tryz.prog 206 #[.int .i32 c, .agg #[.int .i64 k, .int .i64 n, .string s], .agg #[.int .i64 k', .int .i64 n', .string s']] w fun e w' => e = .returned (.agg #[.int .i64 (optK (recO c k n k' n')), .int .i64 (optN (recO c k n k' n')), .string ⟨#[]⟩]) ∧ Below w.heap.size w w' := by
 cases h : numB k n
 ·have e : recO c k n k' n' = none := by simp [recO, h]
  rw [e]; exact reckon_x c k n k' n' s s' w h
 cases h' : numB k' n'
 ·have e : recO c k n k' n' = none := by simp [recO, h, h']
  rw [e]; exact reckon_y c k n k' n' s s' w h h'
 have e : recO c k n k' n' = recT c n n' := by simp [recO, h, h']
 rw [e]
 have g : inB n = true := by unfold numB at h; simp at h; exact h.2
 have g' : inB n' = true := by unfold numB at h'; simp at h'; exact h'.2
 obtain ⟨q0, q1⟩ := inB_t g
 obtain ⟨p0, p1⟩ := inB_t g'
 by_cases c1 : c = 43
 ·have e : recT c n n' = some (n + n') := by simp [recT, c1]
  rw [e]; exact reckon_add c k n k' n' s s' w h h' q0 q1 p0 p1 c1
 by_cases c2 : c = 45
 ·have e : recT c n n' = some (n - n') := by simp [recT, c2]
  rw [e]; exact reckon_sub c k n k' n' s s' w h h' q0 q1 p0 p1 c2
 by_cases c3 : c = 42
 ·have e : recT c n n' = some (n * n') := by simp [recT, c3]
  rw [e]; exact reckon_mul c k n k' n' s s' w h h' q0 q1 p0 p1 c3
 have e : recT c n n' = none := by simp [recT, c1, c2, c3]
 rw [e]; exact reckon_z c k n k' n' s s' w h h' (by simpa using c1) (by simpa using c2) (by simpa using c3)
end Go.Proofs.YtfojonhblblbjaaGreat
