/- Together: W5, Ord, Rows1, W9, W11, Past, Rows2, W10, Z1. -/
import Derived.Laws.StructEq
import Derived.WalkKit
import Derived.BigQuiet
import Derived.Test.YtfojonhblblbjaaGreatUB0
/- The walks of cmp.Compare and of vals.Compare. -/
namespace Go.Proofs.YtfojonhblblbjaaGreat
open Go.RowKit

theorem cmpI_lt {a b : Int} (h : a < b) : cmpI a b = -1 := by simp [cmpI, h]
theorem cmpI_gt {a b : Int} (h : b < a) : cmpI a b = 1 := by
 have : ¬ a < b := by omega
 simp [cmpI, h, this]
theorem cmpI_eq (a : Int) : cmpI a a = 0 := by simp [cmpI]
set_option maxHeartbeats 400000 in
theorem cmpInt_any (a b : Int) (w : World) :
  Calls Tryz.prog 155 #[.int .i64 a, .int .i64 b] w fun e w' => e = .returned (.int .i64 (cmpI a b)) ∧ w' = w := by
 rcases Int.lt_trichotomy a b with h | h | h
 ·go_enter Tryz.func155, Tryz.ntmps155
  go_wp2
  go_ret
  exact ⟨ret_int (cmpI_lt h).symm, rfl⟩
 ·subst h
  go_enter Tryz.func155, Tryz.ntmps155
  go_wp2
  go_ret
  exact ⟨ret_int (cmpI_eq _).symm, rfl⟩
 ·have h' : ¬ a < b := by omega
  go_enter Tryz.func155, Tryz.ntmps155
  go_wp2
  go_ret
  exact ⟨ret_int (cmpI_gt h).symm, rfl⟩
set_option maxHeartbeats 400000 in
theorem cmpInt64_any (a b : Int) (w : World) :
  Calls Tryz.prog 156 #[.int .i64 a, .int .i64 b] w fun e w' => e = .returned (.int .i64 (cmpI a b)) ∧ w' = w := by
 rcases Int.lt_trichotomy a b with h | h | h
 ·go_enter Tryz.func156, Tryz.ntmps156
  go_wp2
  go_ret
  exact ⟨ret_int (cmpI_lt h).symm, rfl⟩
 ·subst h
  go_enter Tryz.func156, Tryz.ntmps156
  go_wp2
  go_ret
  exact ⟨ret_int (cmpI_eq _).symm, rfl⟩
 ·have h' : ¬ a < b := by omega
  go_enter Tryz.func156, Tryz.ntmps156
  go_wp2
  go_ret
  exact ⟨ret_int (cmpI_gt h).symm, rfl⟩
set_option maxHeartbeats 400000 in
theorem cmpStr_any (a b : ByteArray) (w : World) :
  Calls Tryz.prog 157 #[.string a, .string b] w fun e w' => e = .returned (.int .i64 (cmpS a b)) ∧ w' = w := by
 go_enter Tryz.func157, Tryz.ntmps157
 go_wp2
 ·go_ret
  exact ⟨ret_int (by simp [cmpS, *]), rfl⟩
 ·go_ret
  exact ⟨ret_int (by simp_all [cmpS]), rfl⟩
 ·go_ret
  exact ⟨ret_int (by simp_all [cmpS]), rfl⟩


theorem cmpV_k {k k' n n' : Int} {s s' : ByteArray} (h : ¬ k = k') : cmpV k n s k' n' s' = cmpI k k' := by simp [cmpV, h]
theorem cmpV_2 {n n' : Int} {s s' : ByteArray} : cmpV 2 n s 2 n' s' = cmpI n n' := by simp [cmpV]
theorem cmpV_3 {n n' : Int} {s s' : ByteArray} : cmpV 3 n s 3 n' s' = cmpI n n' := by simp [cmpV]
theorem cmpV_4 {n n' : Int} {s s' : ByteArray} : cmpV 4 n s 4 n' s' = cmpS s s' := by simp [cmpV]
theorem cmpV_x {k n n' : Int} {s s' : ByteArray} (h2 : ¬ k = 2) (h3 : ¬ k = 3) (h4 : ¬ k = 4) : cmpV k n s k n' s' = 0 := by simp [cmpV, h2, h3, h4]

set_option maxHeartbeats 1000000 in
theorem compare_d (k n k' n' : Int) (s s' : ByteArray) (w : World) :
  Calls Tryz.prog 122 #[.agg #[.int .i64 k, .int .i64 n, .string s], .agg #[.int .i64 k', .int .i64 n', .string s']] w fun e w' => e = .returned (.int .i64 (cmpV k n s k' n' s')) ∧ Below w.heap.size w w' ∧ w.drawn ≤ w'.drawn := by
 by_cases hk : k = k'
 ·subst hk
  by_cases h2 : k = 2
  ·subst h2
   go_enter Tryz.func122, Tryz.ntmps122
   go_wp2_with fail
   refine (cmpInt64_any _ _ _).mono ?_
   rintro e w1 ⟨rfl, rfl⟩
   go_wp2_with fail
   go_ret
   exact ⟨ret_int cmpV_2.symm, ((Below.refl _ _).alloc (Nat.le_refl _) _).alloc (by simp) _, Nat.le_refl _⟩
  by_cases h3 : k = 3
  ·subst h3
   go_enter Tryz.func122, Tryz.ntmps122
   go_wp2_with fail
   refine (cmpInt64_any _ _ _).mono ?_
   rintro e w1 ⟨rfl, rfl⟩
   go_wp2_with fail
   go_ret
   exact ⟨ret_int cmpV_3.symm, ((Below.refl _ _).alloc (Nat.le_refl _) _).alloc (by simp) _, Nat.le_refl _⟩
  by_cases h4 : k = 4
  ·subst h4
   go_enter Tryz.func122, Tryz.ntmps122
   go_wp2_with fail
   refine (cmpStr_any _ _ _).mono ?_
   rintro e w1 ⟨rfl, rfl⟩
   go_wp2_with fail
   go_ret
   exact ⟨ret_int cmpV_4.symm, ((Below.refl _ _).alloc (Nat.le_refl _) _).alloc (by simp) _, Nat.le_refl _⟩
  have b2 : (k == 2) = false := by simpa using h2
  have b3 : (k == 3) = false := by simpa using h3
  have b4 : (k == 4) = false := by simpa using h4
  go_enter Tryz.func122, Tryz.ntmps122
  go_wp2_with fail
  go_ret
  exact ⟨ret_int (cmpV_x h2 h3 h4).symm, ((Below.refl _ _).alloc (Nat.le_refl _) _).alloc (by simp) _, Nat.le_refl _⟩
 ·have bk : (k == k') = false := by simpa using hk
  have bk' : (k != k') = true := by simpa using hk
  go_enter Tryz.func122, Tryz.ntmps122
  go_wp2_with fail
  refine (cmpInt_any _ _ _).mono ?_
  rintro e w1 ⟨rfl, rfl⟩
  go_wp2_with fail
  go_ret
  exact ⟨ret_int (cmpV_k hk).symm, ((Below.refl _ _).alloc (Nat.le_refl _) _).alloc (by simp) _, Nat.le_refl _⟩
theorem compare_any (k n k' n' : Int) (s s' : ByteArray) (w : World) :
  Calls Tryz.prog 122 #[.agg #[.int .i64 k, .int .i64 n, .string s], .agg #[.int .i64 k', .int .i64 n', .string s']] w fun e w' => e = .returned (.int .i64 (cmpV k n s k' n' s')) ∧ Below w.heap.size w w' :=
 (compare_d k n k' n' s s' w).mono fun _ _ h => ⟨h.1, h.2.1⟩
end Go.Proofs.YtfojonhblblbjaaGreat
/- The order of values: plain facts on numbers and texts. No program in sight. -/
namespace Go.Proofs.YtfojonhblblbjaaGreat

theorem bl_irrefl : ∀ x : List UInt8, Op.bytesLess x x = false
 | [] => rfl
 | a :: x => by
  have := bl_irrefl x
  simp [Op.bytesLess, this, UInt8.lt_irrefl]
theorem bl_asymm : ∀ x y : List UInt8, Op.bytesLess x y = true → Op.bytesLess y x = false
 | [], [] => fun _ => rfl
 | [], _ :: _ => fun _ => rfl
 | _ :: _, [] => fun h => by simp [Op.bytesLess] at h
 | a :: x, b :: y => fun h => by
  simp only [Op.bytesLess, Bool.or_eq_true, decide_eq_true_eq, Bool.and_eq_true, beq_iff_eq] at h
  rcases h with h | ⟨rfl, h⟩
  ·have h1 : ¬ b < a := UInt8.lt_asymm h
   have h2 : ¬ b = a := fun e => UInt8.lt_irrefl _ (e ▸ h)
   simp [Op.bytesLess, h1, h2]
  ·simp [Op.bytesLess, bl_asymm x y h, UInt8.lt_irrefl]
theorem bl_total : ∀ x y : List UInt8, Op.bytesLess x y = false → ¬ x = y → Op.bytesLess y x = true
 | [], [] => fun _ h => absurd rfl h
 | [], _ :: _ => fun h _ => by simp [Op.bytesLess] at h
 | _ :: _, [] => fun _ _ => rfl
 | a :: x, b :: y => fun h hne => by
  simp only [Op.bytesLess, Bool.or_eq_false_iff, decide_eq_false_iff_not, Bool.and_eq_false_imp, beq_iff_eq] at h
  by_cases e : a = b
  ·subst e
   have h2 := bl_total x y (h.2 rfl) (fun e => hne (by rw [e]))
   simp [Op.bytesLess, h2]
  ·have : b < a := by
    rcases UInt8.lt_or_lt_of_ne e with h' | h'
    ·exact absurd h' h.1
    ·exact h'
   simp [Op.bytesLess, this]
theorem bl_trans : ∀ x y z : List UInt8, Op.bytesLess x y = true → Op.bytesLess y z = true → Op.bytesLess x z = true
 | _, [], _ => fun h _ => by cases ‹List UInt8› <;> simp [Op.bytesLess] at h
 | _, _ :: _, [] => fun _ h => by simp [Op.bytesLess] at h
 | [], _ :: _, _ :: _ => fun _ _ => rfl
 | a :: x, b :: y, c :: z => fun h k => by
  simp only [Op.bytesLess, Bool.or_eq_true, decide_eq_true_eq, Bool.and_eq_true, beq_iff_eq] at h k ⊢
  rcases h with h | ⟨rfl, h⟩
  ·rcases k with k | ⟨rfl, k⟩
   ·exact .inl (UInt8.lt_trans h k)
   ·exact .inl h
  ·rcases k with k | ⟨rfl, k⟩
   ·exact .inl k
   ·exact .inr ⟨rfl, bl_trans x y z h k⟩

theorem cmpI_neg (a b : Int) : cmpI a b = -cmpI b a := by unfold cmpI; split <;> split <;> (try split) <;> omega
theorem cmpI_zero (a b : Int) : cmpI a b = 0 ↔ a = b := by unfold cmpI; split <;> (try split) <;> omega
theorem cmpI_le (a b : Int) : cmpI a b ≤ 0 ↔ a ≤ b := by unfold cmpI; split <;> (try split) <;> omega
theorem cmpS_neg (a b : ByteArray) : cmpS a b = -cmpS b a := by
 unfold cmpS
 by_cases e : a.toList = b.toList
 ·simp [e, bl_irrefl]
 ·have e' : ¬ b.toList = a.toList := fun h => e h.symm
  cases h : Op.bytesLess a.toList b.toList
  ·have := bl_total _ _ h e
   simp [this, e]
  ·have := bl_asymm _ _ h
   simp [this, e']
theorem cmpS_zero (a b : ByteArray) : cmpS a b = 0 ↔ a.toList = b.toList := by
 unfold cmpS
 by_cases e : a.toList = b.toList
 ·simp [e, bl_irrefl]
 ·cases h : Op.bytesLess a.toList b.toList <;> simp [e]
theorem cmpS_le (a b c : ByteArray) (h : cmpS a b ≤ 0) (k : cmpS b c ≤ 0) : cmpS a c ≤ 0 := by
 unfold cmpS at *
 by_cases e : a.toList = b.toList
 ·rw [e]; exact k
 by_cases e' : b.toList = c.toList
 ·rw [← e']; exact h
 have h1 : Op.bytesLess a.toList b.toList = true := by
  cases h' : Op.bytesLess a.toList b.toList
  ·simp [h', e] at h
  ·rfl
 have k1 : Op.bytesLess b.toList c.toList = true := by
  cases h' : Op.bytesLess b.toList c.toList
  ·simp [h', e'] at k
  ·rfl
 simp [bl_trans _ _ _ h1 k1]

theorem cmpV_neg (k n k' n' : Int) (s s' : ByteArray) : cmpV k n s k' n' s' = -cmpV k' n' s' k n s := by
 unfold cmpV
 by_cases e : k = k'
 ·subst e
  by_cases h : k = 2 ∨ k = 3
  ·simp [h]; exact cmpI_neg _ _
  ·by_cases h4 : k = 4
   ·simp [h4]; exact cmpS_neg _ _
   ·simp [h, h4]
 ·have e' : ¬ k' = k := fun h => e h.symm
  simp [e, e']; exact cmpI_neg _ _
theorem cmpV_trans (k n k' n' k'' n'' : Int) (s s' s'' : ByteArray) (h : cmpV k n s k' n' s' ≤ 0) (j : cmpV k' n' s' k'' n'' s'' ≤ 0) : cmpV k n s k'' n'' s'' ≤ 0 := by
 unfold cmpV at *
 by_cases e : k = k'
 ·subst e
  by_cases e' : k = k''
  ·subst e'
   by_cases h2 : k = 2 ∨ k = 3
   ·simp [h2] at h j ⊢
    rw [cmpI_le] at *
    omega
   ·by_cases h4 : k = 4
    ·simp [h4] at h j ⊢
     exact cmpS_le _ _ _ h j
    ·simp [h2, h4]
  ·simp [e'] at j ⊢
   exact j
 ·by_cases e' : k' = k''
  ·subst e'
   simp [e] at h ⊢
   exact h
  ·simp [e] at h
   simp [e'] at j
   rw [cmpI_le] at h j
   have : ¬ k = k'' := by omega
   simp [this]
   rw [cmpI_le]
   omega
end Go.Proofs.YtfojonhblblbjaaGreat
/- The order of rows: plain facts; the walks of slices.CompareFunc over values and of vals.Rows. -/
namespace Go.Proofs.YtfojonhblblbjaaGreat
open Go.RowKit

abbrev Vl : Type := Int × Int × ByteArray
def cmpP (x y : Vl) : Int := cmpV x.1 x.2.1 x.2.2 y.1 y.2.1 y.2.2
def cmpL : List Vl → List Vl → Int
 | [], [] => 0
 | [], _ :: _ => -1
 | _ :: _, [] => 1
 | x :: r, y :: t => if cmpP x y = 0 then cmpL r t else cmpP x y

theorem cmpI_bd (a b : Int) : -1 ≤ cmpI a b ∧ cmpI a b ≤ 1 := by unfold cmpI; split <;> (try split) <;> omega
theorem cmpS_bd (a b : ByteArray) : -1 ≤ cmpS a b ∧ cmpS a b ≤ 1 := by unfold cmpS; split <;> (try split) <;> omega
theorem cmpP_bd (x y : Vl) : -1 ≤ cmpP x y ∧ cmpP x y ≤ 1 := by
 unfold cmpP cmpV
 split
 ·exact cmpI_bd _ _
 ·split
  ·exact cmpI_bd _ _
  ·split
   ·exact cmpS_bd _ _
   ·omega
theorem cmpL_bd : ∀ l t : List Vl, -1 ≤ cmpL l t ∧ cmpL l t ≤ 1
 | [], [] => by simp [cmpL]
 | [], _ :: _ => by simp [cmpL]
 | _ :: _, [] => by simp [cmpL]
 | x :: r, y :: t => by
  unfold cmpL
  split
  ·exact cmpL_bd r t
  ·exact cmpP_bd x y
theorem cmpP_neg (x y : Vl) : cmpP x y = -cmpP y x := cmpV_neg _ _ _ _ _ _
theorem cmpL_neg : ∀ l t : List Vl, cmpL t l = -cmpL l t
 | [], [] => rfl
 | [], _ :: _ => rfl
 | _ :: _, [] => rfl
 | x :: r, y :: t => by
  have h := cmpP_neg x y
  unfold cmpL
  by_cases e : cmpP y x = 0
  ·have e' : cmpP x y = 0 := by omega
   simp only [e, e', if_true]
   exact cmpL_neg r t
  ·have e' : ¬ cmpP x y = 0 := by omega
   simp only [e, e', if_false]
   omega
theorem cmpL_drop (l t : List Vl) (k : Nat) (h : k < l.length) (h' : k < t.length) : cmpL (l.drop k) (t.drop k) = if cmpP l[k] t[k] = 0 then cmpL (l.drop (k + 1)) (t.drop (k + 1)) else cmpP l[k] t[k] := by
 rw [List.drop_eq_getElem_cons h, List.drop_eq_getElem_cons h']
 rfl
theorem cmpL_long (l t : List Vl) (k : Nat) (h : k < l.length) (h' : t.length ≤ k) : cmpL (l.drop k) (t.drop k) = 1 := by
 rw [List.drop_eq_getElem_cons h, List.drop_eq_nil_of_le h']
 rfl
theorem cmpL_short (l t : List Vl) (k : Nat) (h : l.length ≤ k) (h' : k < t.length) : cmpL (l.drop k) (t.drop k) = -1 := by
 rw [List.drop_eq_getElem_cons h', List.drop_eq_nil_of_le h]
 rfl
theorem cmpL_same (l t : List Vl) (k : Nat) (h : l.length ≤ k) (h' : t.length ≤ k) : cmpL (l.drop k) (t.drop k) = 0 := by
 rw [List.drop_eq_nil_of_le h, List.drop_eq_nil_of_le h']
 rfl

/-- A slice holds these values: it is empty, or leads to them. -/
def SlAt (W : World) (a : Option Addr) (l : List Vl) : Prop :=
 l.length ≤ maxLen ∧ (l = [] ∨ ∃ b off, a = some ⟨b, off, none⟩ ∧ Row W b off l ∧ b < W.heap.size)
theorem SlAt.next {W w1 : World} {a : Option Addr} {l : List Vl} (h : SlAt W a l) (hb : Below W.heap.size W w1) : SlAt w1 a l := by
 obtain ⟨h0, h | ⟨b, off, e, hr, hlt⟩⟩ := h
 ·exact ⟨h0, .inl h⟩
 ·exact ⟨h0, .inr ⟨b, off, e, hr.next hlt hb, Nat.lt_of_lt_of_le hlt hb.size⟩⟩
theorem SlAt.elem {W : World} {a : Option Addr} {l : List Vl} (h : SlAt W a l) {k : Nat} (hk : k < l.length) :
  ∃ b off, a = some ⟨b, off, none⟩ ∧ b < W.heap.size ∧ W.cell? ⟨b, off + k * 3, none⟩ = some (.int .i64 l[k].1) ∧ W.cell? ⟨b, off + k * 3 + 1, none⟩ = some (.int .i64 l[k].2.1) ∧ W.cell? ⟨b, off + k * 3 + 2, none⟩ = some (.string l[k].2.2) := by
 obtain ⟨_, h | ⟨b, off, e, hr, hlt⟩⟩ := h
 ·subst h; simp at hk
 ·exact ⟨b, off, e, hlt, hr k hk⟩

set_option maxHeartbeats 1000000 in
theorem compareFunc_d (a a' : Option Addr) (cap cap' : Nat) (l l' : List Vl) (w : World) (h : SlAt w a l) (h' : SlAt w a' l') :
  Calls Tryz.prog 121 #[.slice a l.length cap, .slice a' l'.length cap', .func (.func 122) #[] #[]] w fun e w' => e = .returned (.int .i64 (cmpL l l')) ∧ Below w.heap.size w w' ∧ w.drawn ≤ w'.drawn := by
 have hl := h.1
 have hl' := h'.1
 unfold maxLen at hl hl'
 go_enter Tryz.func121, Tryz.ntmps121
 go_wp2
 go_loopw [13] (fun i w1 => ∃ k : Nat, k ≤ l.length ∧ k ≤ l'.length ∧ i = .int .i64 k ∧ Hid (cmpL l l' = cmpL (l.drop k) (l'.drop k)) ∧ Below w.heap.size w w1 ∧ w.drawn ≤ w1.drawn) (fun i _ => l.length - (intOf i).toNat)
 case atStart => exact ⟨0, Nat.zero_le _, Nat.zero_le _, rfl, rfl, Below.refl _ _, Nat.le_refl _⟩
 case round =>
  obtain ⟨k, hk, hk', rfl, HC, hb, hd⟩ := hrel
  have HD : Hid (w.drawn ≤ wr.drawn) := hd
  clear hd
  have hz := hb.size
  by_cases hlt : k < l.length
  ·obtain ⟨b, off, rfl, hbl, c0, c1, c2⟩ := (h.next hb).elem hlt
   by_cases hlt' : k < l'.length
   ·have hb2 := ((Below.refl wr.heap.size wr).alloc (Nat.le_refl _) (.cells #[.int .i64 l[k].1, .int .i64 l[k].2.1, .string l[k].2.2] 24))
    obtain ⟨b', off', rfl, hbl', d0, d1, d2⟩ := ((h'.next hb).next hb2).elem hlt'
    clear hb2
    by_cases e : cmpP l[k] l'[k] = 0
    ·have E : Hid (cmpP l[k] l'[k] = 0) := e
     clear e
     go_wp2_with fail
     refine (compare_d _ _ _ _ _ _ _).mono ?_
     rintro e w1 ⟨rfl, hb1, hd1⟩
     have HD1 : Hid (wr.drawn ≤ w1.drawn) := hd1
     clear hd1
     rw [show cmpV l[k].1 l[k].2.1 l[k].2.2 l'[k].1 l'[k].2.1 l'[k].2.2 = 0 from E.out]
     go_wp2_with fail
     go_roundw
     case rel => exact ⟨k + 1, by omega, by omega, by go_num, HC.out.trans (by rw [cmpL_drop l l' k hlt hlt', if_pos E.out]), hb.trans ((((Below.refl _ _).alloc hz _).alloc (by simp; omega) _).trans (hb1.mono (by simp; omega))), Nat.le_trans HD.out HD1.out⟩
     case measure => simp [intOf]; omega
    ·have E : Hid (¬ cmpP l[k] l'[k] = 0) := e
     have E2 : (cmpV l[k].1 l[k].2.1 l[k].2.2 l'[k].1 l'[k].2.1 l'[k].2.2 != 0) = true := by simpa [cmpP] using e
     clear e
     go_wp2_with fail
     refine (compare_d _ _ _ _ _ _ _).mono ?_
     rintro e w1 ⟨rfl, hb1, hd1⟩
     have HD1 : Hid (wr.drawn ≤ w1.drawn) := hd1
     clear hd1
     go_wp2_with fail
     go_ret
     exact ⟨ret_int (by rw [HC.out, cmpL_drop l l' k hlt hlt', if_neg E.out]; rfl), hb.trans ((((Below.refl _ _).alloc hz _).alloc (by simp; omega) _).trans (hb1.mono (by simp; omega))), Nat.le_trans HD.out HD1.out⟩
   ·go_wp2_with fail
    go_ret
    exact ⟨ret_int (by rw [HC.out, cmpL_long l l' k hlt (by omega)]), hb.alloc hz _, HD.out⟩
  ·by_cases hlt' : k < l'.length
   ·have e : k = l.length := by omega
    have hll : l.length < l'.length := by omega
    go_wp2_with fail
    go_ret
    exact ⟨ret_int (by rw [HC.out, cmpL_short l l' k (by omega) hlt']), hb, HD.out⟩
   ·have hll : ¬ l.length < l'.length := by omega
    go_wp2_with fail
    go_ret
    exact ⟨ret_int (by rw [HC.out, cmpL_same l l' k (by omega) (by omega)]), hb, HD.out⟩

set_option maxHeartbeats 400000 in
theorem rows_d (a a' : Option Addr) (cap cap' : Nat) (l l' : List Vl) (w : World) (h : SlAt w a l) (h' : SlAt w a' l') :
  Calls Tryz.prog 84 #[.slice a l.length cap, .slice a' l'.length cap'] w fun e w' => e = .returned (.int .i64 (cmpL l l')) ∧ Below w.heap.size w w' ∧ w.drawn ≤ w'.drawn := by
 go_enter Tryz.func84, Tryz.ntmps84
 go_wp2_with fail
 refine (compareFunc_d _ _ _ _ _ _ _ h h').mono ?_
 rintro e w1 ⟨rfl, hb1, hd1⟩
 go_wp2_with fail
 go_ret
 exact ⟨rfl, hb1, hd1⟩
theorem rows_at (a a' : Option Addr) (cap cap' : Nat) (l l' : List Vl) (w : World) (h : SlAt w a l) (h' : SlAt w a' l') :
  Calls Tryz.prog 84 #[.slice a l.length cap, .slice a' l'.length cap'] w fun e w' => e = .returned (.int .i64 (cmpL l l')) ∧ Below w.heap.size w w' :=
 (rows_d a a' cap cap' l l' w h h').mono fun _ _ h => ⟨h.1, h.2.1⟩
end Go.Proofs.YtfojonhblblbjaaGreat
/- The walks of vals.canTell, vals.Equal, vals.Less. -/
namespace Go.Proofs.YtfojonhblblbjaaGreat
open Go.RowKit

def tellB (k k' : Int) : Bool := k == k' && k != 1
def eqT (k n : Int) (s : ByteArray) (k' n' : Int) (s' : ByteArray) : Option Bool := if tellB k k' then some (cmpV k n s k' n' s' == 0) else none
def ltT (k n : Int) (s : ByteArray) (k' n' : Int) (s' : ByteArray) : Option Bool := if tellB k k' then some (decide (cmpV k n s k' n' s' < 0)) else none

set_option maxHeartbeats 400000 in
theorem canTell_any (k n k' n' : Int) (s s' : ByteArray) (w : World) :
  Calls Tryz.prog 202 #[.agg #[.int .i64 k, .int .i64 n, .string s], .agg #[.int .i64 k', .int .i64 n', .string s']] w fun e w' => e = .returned (.bool (tellB k k')) ∧ Below w.heap.size w w' := by
 by_cases h : k = k'
 ·subst h
  by_cases h1 : k = 1
  ·subst h1
   go_enter Tryz.func202, Tryz.ntmps202
   go_wp2
   go_ret
   exact ⟨ret_bool (by simp [tellB]), ((Below.refl _ _).alloc (Nat.le_refl _) _).alloc (by simp) _⟩
  ·have b1 : (k != 1) = true := by simpa using h1
   go_enter Tryz.func202, Tryz.ntmps202
   go_wp2
   go_ret
   exact ⟨ret_bool (by simp [tellB, h1]), ((Below.refl _ _).alloc (Nat.le_refl _) _).alloc (by simp) _⟩
 ·have b1 : (k == k') = false := by simpa using h
  go_enter Tryz.func202, Tryz.ntmps202
  go_wp2
  go_ret
  exact ⟨ret_bool (by simp [tellB, h]), ((Below.refl _ _).alloc (Nat.le_refl _) _).alloc (by simp) _⟩

set_option maxHeartbeats 400000 in
theorem equal_x (k n k' n' : Int) (s s' : ByteArray) (w : World) (h : tellB k k' = false) :
  Calls Tryz.prog 178 #[.agg #[.int .i64 k, .int .i64 n, .string s], .agg #[.int .i64 k', .int .i64 n', .string s']] w fun e w' => e = .returned (.agg #[.int .i64 1, .int .i64 0, .string ⟨#[]⟩]) ∧ Below w.heap.size w w' := by
 have A0 := ((Box.new w (.int .i64 k) (.int .i64 n) (.string s) 24).alloc (.cells #[.int .i64 k', .int .i64 n', .string s'] 24)).alloc (.cells #[.int .i64 0, .int .i64 0, .string ⟨#[]⟩] 24)
 have B0 := (Box.new (w.alloc (.cells #[.int .i64 k, .int .i64 n, .string s] 24)) (.int .i64 k') (.int .i64 n') (.string s') 24).alloc (.cells #[.int .i64 0, .int .i64 0, .string ⟨#[]⟩] 24)
 have R0 := Box.new ((w.alloc (.cells #[.int .i64 k, .int .i64 n, .string s] 24)).alloc (.cells #[.int .i64 k', .int .i64 n', .string s'] 24)) (.int .i64 0) (.int .i64 0) (.string ⟨#[]⟩) 24
 simp only [World.size_alloc] at B0 R0
 go_enter Tryz.func178, Tryz.ntmps178
 go_wp2_with fail
 refine (canTell_any _ _ _ _ _ _ _).mono ?_
 rintro e w1 ⟨rfl, hb1⟩
 rw [h]
 have A1 := A0.next hb1
 have B1 := B0.next hb1
 have R1 := R0.next hb1
 have ⟨a0, a1, a2, a3, a4, a5, a6⟩ := A1
 have ⟨b0, b1, b2, b3, b4, b5, b6⟩ := B1
 have ⟨r0, r1, r2, r3, r4, r5, r6⟩ := R1
 go_wp2_with fail
 refine (null_any _).mono ?_
 rintro e w2 ⟨rfl, hb2⟩
 clear a0 a1 a2 a3 a4 a5 a6 b0 b1 b2 b3 b4 b5 b6 r0 r1 r2 r3 r4 r5 r6
 have A2 := A1.next hb2
 have B2 := B1.next hb2
 have R2 := R1.next hb2
 have ⟨a0, a1, a2, a3, a4, a5, a6⟩ := A2
 have ⟨b0, b1, b2, b3, b4, b5, b6⟩ := B2
 have ⟨r0, r1, r2, r3, r4, r5, r6⟩ := R2
 go_wp2_with fail
 have z1 := hb1.size
 have z2 := hb2.size
 simp at z1
 exact bodyPost_ret (v := .agg #[.int .i64 1, .int .i64 0, .string ⟨#[]⟩]) (by simp [results, Tryz.results178, go_sem, r1, r2, r3]) rfl ⟨rfl, below_set3 ((below3 hb1).trans (hb2.mono (by omega))) (by omega)⟩

set_option maxHeartbeats 400000 in
theorem equal_b (k n k' n' : Int) (s s' : ByteArray) (w : World) (h : tellB k k' = true) (b : Bool) (hb : (cmpV k n s k' n' s' == 0) = b) :
  Calls Tryz.prog 178 #[.agg #[.int .i64 k, .int .i64 n, .string s], .agg #[.int .i64 k', .int .i64 n', .string s']] w fun e w' => e = .returned (.agg #[.int .i64 2, .int .i64 (tn (some b)), .string ⟨#[]⟩]) ∧ Below w.heap.size w w' := by
 have A0 := ((Box.new w (.int .i64 k) (.int .i64 n) (.string s) 24).alloc (.cells #[.int .i64 k', .int .i64 n', .string s'] 24)).alloc (.cells #[.int .i64 0, .int .i64 0, .string ⟨#[]⟩] 24)
 have B0 := (Box.new (w.alloc (.cells #[.int .i64 k, .int .i64 n, .string s] 24)) (.int .i64 k') (.int .i64 n') (.string s') 24).alloc (.cells #[.int .i64 0, .int .i64 0, .string ⟨#[]⟩] 24)
 have R0 := Box.new ((w.alloc (.cells #[.int .i64 k, .int .i64 n, .string s] 24)).alloc (.cells #[.int .i64 k', .int .i64 n', .string s'] 24)) (.int .i64 0) (.int .i64 0) (.string ⟨#[]⟩) 24
 simp only [World.size_alloc] at B0 R0
 go_enter Tryz.func178, Tryz.ntmps178
 go_wp2_with fail
 refine (canTell_any _ _ _ _ _ _ _).mono ?_
 rintro e w1 ⟨rfl, hb1⟩
 rw [h]
 have A1 := A0.next hb1
 have B1 := B0.next hb1
 have R1 := R0.next hb1
 have ⟨a0, a1, a2, a3, a4, a5, a6⟩ := A1
 have ⟨b0, b1, b2, b3, b4, b5, b6⟩ := B1
 have ⟨r0, r1, r2, r3, r4, r5, r6⟩ := R1
 go_wp2_with fail
 refine (compare_any _ _ _ _ _ _ _).mono ?_
 rintro e w2 ⟨rfl, hb2⟩
 clear a0 a1 a2 a3 a4 a5 a6 b0 b1 b2 b3 b4 b5 b6 r0 r1 r2 r3 r4 r5 r6
 have A2 := A1.next hb2
 have B2 := B1.next hb2
 have R2 := R1.next hb2
 have ⟨a0, a1, a2, a3, a4, a5, a6⟩ := A2
 have ⟨b0, b1, b2, b3, b4, b5, b6⟩ := B2
 have ⟨r0, r1, r2, r3, r4, r5, r6⟩ := R2
 go_wp2_with fail
 refine (bool_any b _).mono ?_
 rintro e w3 ⟨rfl, hb3⟩
 clear a0 a1 a2 a3 a4 a5 a6 b0 b1 b2 b3 b4 b5 b6 r0 r1 r2 r3 r4 r5 r6
 have A3 := A2.next hb3
 have B3 := B2.next hb3
 have R3 := R2.next hb3
 have ⟨a0, a1, a2, a3, a4, a5, a6⟩ := A3
 have ⟨b0, b1, b2, b3, b4, b5, b6⟩ := B3
 have ⟨r0, r1, r2, r3, r4, r5, r6⟩ := R3
 go_wp2_with fail
 have z1 := hb1.size
 have z2 := hb2.size
 have z3 := hb3.size
 simp at z1
 exact bodyPost_ret (v := .agg #[.int .i64 2, .int .i64 (tn (some b)), .string ⟨#[]⟩]) (by simp [results, Tryz.results178, go_sem, r1, r2, r3]) rfl ⟨rfl, below_set3 (((below3 hb1).trans (hb2.mono (by omega))).trans (hb3.mono (by omega))) (by omega)⟩

set_option maxHeartbeats 400000 in
theorem less_x (k n k' n' : Int) (s s' : ByteArray) (w : World) (h : tellB k k' = false) :
  Calls Tryz.prog 180 #[.agg #[.int .i64 k, .int .i64 n, .string s], .agg #[.int .i64 k', .int .i64 n', .string s']] w fun e w' => e = .returned (.agg #[.int .i64 1, .int .i64 0, .string ⟨#[]⟩]) ∧ Below w.heap.size w w' := by
 have A0 := ((Box.new w (.int .i64 k) (.int .i64 n) (.string s) 24).alloc (.cells #[.int .i64 k', .int .i64 n', .string s'] 24)).alloc (.cells #[.int .i64 0, .int .i64 0, .string ⟨#[]⟩] 24)
 have B0 := (Box.new (w.alloc (.cells #[.int .i64 k, .int .i64 n, .string s] 24)) (.int .i64 k') (.int .i64 n') (.string s') 24).alloc (.cells #[.int .i64 0, .int .i64 0, .string ⟨#[]⟩] 24)
 have R0 := Box.new ((w.alloc (.cells #[.int .i64 k, .int .i64 n, .string s] 24)).alloc (.cells #[.int .i64 k', .int .i64 n', .string s'] 24)) (.int .i64 0) (.int .i64 0) (.string ⟨#[]⟩) 24
 simp only [World.size_alloc] at B0 R0
 go_enter Tryz.func180, Tryz.ntmps180
 go_wp2_with fail
 refine (canTell_any _ _ _ _ _ _ _).mono ?_
 rintro e w1 ⟨rfl, hb1⟩
 rw [h]
 have A1 := A0.next hb1
 have B1 := B0.next hb1
 have R1 := R0.next hb1
 have ⟨a0, a1, a2, a3, a4, a5, a6⟩ := A1
 have ⟨b0, b1, b2, b3, b4, b5, b6⟩ := B1
 have ⟨r0, r1, r2, r3, r4, r5, r6⟩ := R1
 go_wp2_with fail
 refine (null_any _).mono ?_
 rintro e w2 ⟨rfl, hb2⟩
 clear a0 a1 a2 a3 a4 a5 a6 b0 b1 b2 b3 b4 b5 b6 r0 r1 r2 r3 r4 r5 r6
 have A2 := A1.next hb2
 have B2 := B1.next hb2
 have R2 := R1.next hb2
 have ⟨a0, a1, a2, a3, a4, a5, a6⟩ := A2
 have ⟨b0, b1, b2, b3, b4, b5, b6⟩ := B2
 have ⟨r0, r1, r2, r3, r4, r5, r6⟩ := R2
 go_wp2_with fail
 have z1 := hb1.size
 have z2 := hb2.size
 simp at z1
 exact bodyPost_ret (v := .agg #[.int .i64 1, .int .i64 0, .string ⟨#[]⟩]) (by simp [results, Tryz.results180, go_sem, r1, r2, r3]) rfl ⟨rfl, below_set3 ((below3 hb1).trans (hb2.mono (by omega))) (by omega)⟩

set_option maxHeartbeats 400000 in
theorem less_b (k n k' n' : Int) (s s' : ByteArray) (w : World) (h : tellB k k' = true) (b : Bool) (hb : decide (cmpV k n s k' n' s' < 0) = b) :
  Calls Tryz.prog 180 #[.agg #[.int .i64 k, .int .i64 n, .string s], .agg #[.int .i64 k', .int .i64 n', .string s']] w fun e w' => e = .returned (.agg #[.int .i64 2, .int .i64 (tn (some b)), .string ⟨#[]⟩]) ∧ Below w.heap.size w w' := by
 have A0 := ((Box.new w (.int .i64 k) (.int .i64 n) (.string s) 24).alloc (.cells #[.int .i64 k', .int .i64 n', .string s'] 24)).alloc (.cells #[.int .i64 0, .int .i64 0, .string ⟨#[]⟩] 24)
 have B0 := (Box.new (w.alloc (.cells #[.int .i64 k, .int .i64 n, .string s] 24)) (.int .i64 k') (.int .i64 n') (.string s') 24).alloc (.cells #[.int .i64 0, .int .i64 0, .string ⟨#[]⟩] 24)
 have R0 := Box.new ((w.alloc (.cells #[.int .i64 k, .int .i64 n, .string s] 24)).alloc (.cells #[.int .i64 k', .int .i64 n', .string s'] 24)) (.int .i64 0) (.int .i64 0) (.string ⟨#[]⟩) 24
 simp only [World.size_alloc] at B0 R0
 go_enter Tryz.func180, Tryz.ntmps180
 go_wp2_with fail
 refine (canTell_any _ _ _ _ _ _ _).mono ?_
 rintro e w1 ⟨rfl, hb1⟩
 rw [h]
 have A1 := A0.next hb1
 have B1 := B0.next hb1
 have R1 := R0.next hb1
 have ⟨a0, a1, a2, a3, a4, a5, a6⟩ := A1
 have ⟨b0, b1, b2, b3, b4, b5, b6⟩ := B1
 have ⟨r0, r1, r2, r3, r4, r5, r6⟩ := R1
 go_wp2_with fail
 refine (compare_any _ _ _ _ _ _ _).mono ?_
 rintro e w2 ⟨rfl, hb2⟩
 clear a0 a1 a2 a3 a4 a5 a6 b0 b1 b2 b3 b4 b5 b6 r0 r1 r2 r3 r4 r5 r6
 have A2 := A1.next hb2
 have B2 := B1.next hb2
 have R2 := R1.next hb2
 have ⟨a0, a1, a2, a3, a4, a5, a6⟩ := A2
 have ⟨b0, b1, b2, b3, b4, b5, b6⟩ := B2
 have ⟨r0, r1, r2, r3, r4, r5, r6⟩ := R2
 go_wp2_with fail
 refine (bool_any b _).mono ?_
 rintro e w3 ⟨rfl, hb3⟩
 clear a0 a1 a2 a3 a4 a5 a6 b0 b1 b2 b3 b4 b5 b6 r0 r1 r2 r3 r4 r5 r6
 have A3 := A2.next hb3
 have B3 := B2.next hb3
 have R3 := R2.next hb3
 have ⟨a0, a1, a2, a3, a4, a5, a6⟩ := A3
 have ⟨b0, b1, b2, b3, b4, b5, b6⟩ := B3
 have ⟨r0, r1, r2, r3, r4, r5, r6⟩ := R3
 go_wp2_with fail
 have z1 := hb1.size
 have z2 := hb2.size
 have z3 := hb3.size
 simp at z1
 exact bodyPost_ret (v := .agg #[.int .i64 2, .int .i64 (tn (some b)), .string ⟨#[]⟩]) (by simp [results, Tryz.results180, go_sem, r1, r2, r3]) rfl ⟨rfl, below_set3 (((below3 hb1).trans (hb2.mono (by omega))).trans (hb3.mono (by omega))) (by omega)⟩

theorem equal_any (k n k' n' : Int) (s s' : ByteArray) (w : World) :
  Calls Tryz.prog 178 #[.agg #[.int .i64 k, .int .i64 n, .string s], .agg #[.int .i64 k', .int .i64 n', .string s']] w fun e w' => e = .returned (.agg #[.int .i64 (tk (eqT k n s k' n' s')), .int .i64 (tn (eqT k n s k' n' s')), .string ⟨#[]⟩]) ∧ Below w.heap.size w w' := by
 cases h : tellB k k'
 ·have e : eqT k n s k' n' s' = none := by simp [eqT, h]
  rw [e]; exact equal_x k n k' n' s s' w h
 ·have e : eqT k n s k' n' s' = some (cmpV k n s k' n' s' == 0) := by simp [eqT, h]
  rw [e]; exact equal_b k n k' n' s s' w h _ rfl
theorem less_any (k n k' n' : Int) (s s' : ByteArray) (w : World) :
  Calls Tryz.prog 180 #[.agg #[.int .i64 k, .int .i64 n, .string s], .agg #[.int .i64 k', .int .i64 n', .string s']] w fun e w' => e = .returned (.agg #[.int .i64 (tk (ltT k n s k' n' s')), .int .i64 (tn (ltT k n s k' n' s')), .string ⟨#[]⟩]) ∧ Below w.heap.size w w' := by
 cases h : tellB k k'
 ·have e : ltT k n s k' n' s' = none := by simp [ltT, h]
  rw [e]; exact less_x k n k' n' s s' w h
 ·have e : ltT k n s k' n' s' = some (decide (cmpV k n s k' n' s' < 0)) := by simp [ltT, h]
  rw [e]; exact less_b k n k' n' s s' w h _ rfl
end Go.Proofs.YtfojonhblblbjaaGreat
/- The walks of the document's answer, of right values: Null, Truth, Is, Order. -/
namespace Go.Proofs.YtfojonhblblbjaaGreat
open Go.RowKit

set_option maxHeartbeats 400000 in
theorem refNull_any (w : World) :
  Calls Tryz.prog 28 #[] w fun e w' => e = .returned (.agg #[.int .i64 1, .int .i64 0, .string ⟨#[]⟩]) ∧ Below w.heap.size w w' := by
 go_enter Tryz.func28, Tryz.ntmps28
 go_wp2
 exact bodyPost_ret (v := .agg #[.int .i64 1, .int .i64 0, .string ⟨#[]⟩]) (by simp [results, Tryz.results28, go_sem]) rfl ⟨rfl, (Below.refl _ _).alloc (Nat.le_refl _) _⟩
set_option maxHeartbeats 400000 in
theorem refTruth_true (w : World) :
  Calls Tryz.prog 115 #[.bool true] w fun e w' => e = .returned (.agg #[.int .i64 2, .int .i64 1, .string ⟨#[]⟩]) ∧ Below w.heap.size w w' := by
 go_enter Tryz.func115, Tryz.ntmps115
 go_wp2
 exact bodyPost_ret (v := .agg #[.int .i64 2, .int .i64 1, .string ⟨#[]⟩]) (by simp [results, Tryz.results115, go_sem]) rfl ⟨rfl, (Below.refl _ _).alloc (Nat.le_refl _) _⟩
set_option maxHeartbeats 400000 in
theorem refTruth_false (w : World) :
  Calls Tryz.prog 115 #[.bool false] w fun e w' => e = .returned (.agg #[.int .i64 2, .int .i64 0, .string ⟨#[]⟩]) ∧ Below w.heap.size w w' := by
 go_enter Tryz.func115, Tryz.ntmps115
 go_wp2
 exact bodyPost_ret (v := .agg #[.int .i64 2, .int .i64 0, .string ⟨#[]⟩]) (by simp [results, Tryz.results115, go_sem]) rfl ⟨rfl, (Below.refl _ _).alloc (Nat.le_refl _) _⟩
theorem refTruth_any (b : Bool) (w : World) :
  Calls Tryz.prog 115 #[.bool b] w fun e w' => e = .returned (.agg #[.int .i64 2, .int .i64 (tn (some b)), .string ⟨#[]⟩]) ∧ Below w.heap.size w w' := by
 cases b
 ·exact refTruth_false w
 ·exact refTruth_true w

/-- What a right truth may be. -/
def Tru (k n : Int) : Prop := k = 2 → n = 0 ∨ n = 1
theorem cls_kx {k n : Int} (h : ¬ k = 2) : cls k n = none := by simp [cls, h]
set_option maxHeartbeats 400000 in
theorem refIs_x (k n : Int) (s : ByteArray) (b : Bool) (w : World) (h : ¬ k = 2) :
  Calls Tryz.prog 76 #[.agg #[.int .i64 k, .int .i64 n, .string s], .bool b] w fun e w' => e = .returned (.bool false) ∧ Below w.heap.size w w' := by
 have b2 : (k == 2) = false := by simpa using h
 go_enter Tryz.func76, Tryz.ntmps76
 go_wp2
 go_ret
 exact ⟨rfl, (Below.refl _ _).alloc (Nat.le_refl _) _⟩
set_option maxHeartbeats 400000 in
theorem refIs_0 (s : ByteArray) (b : Bool) (w : World) :
  Calls Tryz.prog 76 #[.agg #[.int .i64 2, .int .i64 0, .string s], .bool b] w fun e w' => e = .returned (.bool (some false == some b)) ∧ Below w.heap.size w w' := by
 cases b
 ·go_enter Tryz.func76, Tryz.ntmps76
  go_wp2
  go_ret
  exact ⟨rfl, (Below.refl _ _).alloc (Nat.le_refl _) _⟩
 ·go_enter Tryz.func76, Tryz.ntmps76
  go_wp2
  go_ret
  exact ⟨rfl, (Below.refl _ _).alloc (Nat.le_refl _) _⟩
set_option maxHeartbeats 400000 in
theorem refIs_1 (s : ByteArray) (b : Bool) (w : World) :
  Calls Tryz.prog 76 #[.agg #[.int .i64 2, .int .i64 1, .string s], .bool b] w fun e w' => e = .returned (.bool (some true == some b)) ∧ Below w.heap.size w w' := by
 cases b
 ·go_enter Tryz.func76, Tryz.ntmps76
  go_wp2
  go_ret
  exact ⟨rfl, (Below.refl _ _).alloc (Nat.le_refl _) _⟩
 ·go_enter Tryz.func76, Tryz.ntmps76
  go_wp2
  go_ret
  exact ⟨rfl, (Below.refl _ _).alloc (Nat.le_refl _) _⟩
theorem refIs_any (k n : Int) (s : ByteArray) (b : Bool) (w : World) (h : Tru k n) :
  Calls Tryz.prog 76 #[.agg #[.int .i64 k, .int .i64 n, .string s], .bool b] w fun e w' => e = .returned (.bool (cls k n == some b)) ∧ Below w.heap.size w w' := by
 by_cases h2 : k = 2
 ·subst h2
  rcases h rfl with rfl | rfl
  ·exact refIs_0 s b w
  ·exact refIs_1 s b w
 ·rw [cls_kx h2]
  exact refIs_x k n s b w h2

theorem cmpS_lt {s s' : ByteArray} (h : Op.bytesLess s.toList s'.toList = true) : cmpS s s' = -1 := by simp [cmpS, h]
theorem cmpS_gt {s s' : ByteArray} (h : Op.bytesLess s.toList s'.toList = false) (e : (s.toList == s'.toList) = false) : cmpS s s' = 1 := by simp [cmpS, h, e]
theorem cmpS_qe {s s' : ByteArray} (h : Op.bytesLess s.toList s'.toList = false) (e : (s.toList == s'.toList) = true) : cmpS s s' = 0 := by simp [cmpS, h, e]

set_option maxHeartbeats 400000 in
theorem ord_lt (k n k' n' : Int) (s s' : ByteArray) (w : World) (h : k < k') :
  Calls Tryz.prog 85 #[.agg #[.int .i64 k, .int .i64 n, .string s], .agg #[.int .i64 k', .int .i64 n', .string s']] w fun e w' => e = .returned (.int .i64 (-1)) ∧ Below w.heap.size w w' := by
 go_enter Tryz.func85, Tryz.ntmps85
 go_wp2
 go_ret
 exact ⟨rfl, ((Below.refl _ _).alloc (Nat.le_refl _) _).alloc (by simp) _⟩
set_option maxHeartbeats 400000 in
theorem ord_gt (k n k' n' : Int) (s s' : ByteArray) (w : World) (h : k' < k) :
  Calls Tryz.prog 85 #[.agg #[.int .i64 k, .int .i64 n, .string s], .agg #[.int .i64 k', .int .i64 n', .string s']] w fun e w' => e = .returned (.int .i64 (1)) ∧ Below w.heap.size w w' := by
 have h' : ¬ k < k' := by omega
 go_enter Tryz.func85, Tryz.ntmps85
 go_wp2
 go_ret
 exact ⟨rfl, ((Below.refl _ _).alloc (Nat.le_refl _) _).alloc (by simp) _⟩
set_option maxHeartbeats 400000 in
theorem ord_1 (k n k' n' : Int) (s s' : ByteArray) (w : World) (h : k = 1) (h' : k' = 1) :
  Calls Tryz.prog 85 #[.agg #[.int .i64 k, .int .i64 n, .string s], .agg #[.int .i64 k', .int .i64 n', .string s']] w fun e w' => e = .returned (.int .i64 (0)) ∧ Below w.heap.size w w' := by
 subst h
 subst h'
 go_enter Tryz.func85, Tryz.ntmps85
 go_wp2
 go_ret
 exact ⟨rfl, ((Below.refl _ _).alloc (Nat.le_refl _) _).alloc (by simp) _⟩
set_option maxHeartbeats 400000 in
theorem ord_n_lt (k n k' n' : Int) (s s' : ByteArray) (w : World) (e : k' = k) (h1 : (k == 1) = false) (h4 : (k == 4) = false) (h4' : (k != 4) = true) (h : n < n') :
  Calls Tryz.prog 85 #[.agg #[.int .i64 k, .int .i64 n, .string s], .agg #[.int .i64 k', .int .i64 n', .string s']] w fun e w' => e = .returned (.int .i64 (-1)) ∧ Below w.heap.size w w' := by
 subst e
 go_enter Tryz.func85, Tryz.ntmps85
 go_wp2
 go_ret
 exact ⟨rfl, ((Below.refl _ _).alloc (Nat.le_refl _) _).alloc (by simp) _⟩
set_option maxHeartbeats 400000 in
theorem ord_n_gt (k n k' n' : Int) (s s' : ByteArray) (w : World) (e : k' = k) (h1 : (k == 1) = false) (h4 : (k == 4) = false) (h4' : (k != 4) = true) (h : n' < n) :
  Calls Tryz.prog 85 #[.agg #[.int .i64 k, .int .i64 n, .string s], .agg #[.int .i64 k', .int .i64 n', .string s']] w fun e w' => e = .returned (.int .i64 (1)) ∧ Below w.heap.size w w' := by
 subst e
 have h' : ¬ n < n' := by omega
 go_enter Tryz.func85, Tryz.ntmps85
 go_wp2
 go_ret
 exact ⟨rfl, ((Below.refl _ _).alloc (Nat.le_refl _) _).alloc (by simp) _⟩
set_option maxHeartbeats 400000 in
theorem ord_n_eq (k n k' n' : Int) (s s' : ByteArray) (w : World) (e : k' = k) (h1 : (k == 1) = false) (h4 : (k == 4) = false) (h4' : (k != 4) = true) (h : n' = n) :
  Calls Tryz.prog 85 #[.agg #[.int .i64 k, .int .i64 n, .string s], .agg #[.int .i64 k', .int .i64 n', .string s']] w fun e w' => e = .returned (.int .i64 (0)) ∧ Below w.heap.size w w' := by
 subst e
 subst h
 go_enter Tryz.func85, Tryz.ntmps85
 go_wp2
 go_ret
 exact ⟨rfl, ((Below.refl _ _).alloc (Nat.le_refl _) _).alloc (by simp) _⟩
set_option maxHeartbeats 400000 in
theorem ord_s_lt (k n k' n' : Int) (s s' : ByteArray) (w : World) (e : k = 4) (e' : k' = 4) (h : Op.bytesLess s.toList s'.toList = true) :
  Calls Tryz.prog 85 #[.agg #[.int .i64 k, .int .i64 n, .string s], .agg #[.int .i64 k', .int .i64 n', .string s']] w fun e w' => e = .returned (.int .i64 (-1)) ∧ Below w.heap.size w w' := by
 subst e
 subst e'
 go_enter Tryz.func85, Tryz.ntmps85
 go_wp2
 go_ret
 exact ⟨rfl, ((Below.refl _ _).alloc (Nat.le_refl _) _).alloc (by simp) _⟩
set_option maxHeartbeats 400000 in
theorem ord_s_gt (k n k' n' : Int) (s s' : ByteArray) (w : World) (e : k = 4) (e' : k' = 4) (h : Op.bytesLess s.toList s'.toList = false) (h' : (s.toList == s'.toList) = false) :
  Calls Tryz.prog 85 #[.agg #[.int .i64 k, .int .i64 n, .string s], .agg #[.int .i64 k', .int .i64 n', .string s']] w fun e w' => e = .returned (.int .i64 (1)) ∧ Below w.heap.size w w' := by
 subst e
 subst e'
 go_enter Tryz.func85, Tryz.ntmps85
 go_wp2
 go_ret
 exact ⟨rfl, ((Below.refl _ _).alloc (Nat.le_refl _) _).alloc (by simp) _⟩
set_option maxHeartbeats 400000 in
theorem ord_s_eq (k n k' n' : Int) (s s' : ByteArray) (w : World) (e : k = 4) (e' : k' = 4) (h : Op.bytesLess s.toList s'.toList = false) (h' : (s.toList == s'.toList) = true) :
  Calls Tryz.prog 85 #[.agg #[.int .i64 k, .int .i64 n, .string s], .agg #[.int .i64 k', .int .i64 n', .string s']] w fun e w' => e = .returned (.int .i64 (0)) ∧ Below w.heap.size w w' := by
 subst e
 subst e'
 go_enter Tryz.func85, Tryz.ntmps85
 go_wp2
 go_ret
 exact ⟨rfl, ((Below.refl _ _).alloc (Nat.le_refl _) _).alloc (by simp) _⟩
/-- Of right kinds. -/
theorem refOrder_any (k n k' n' : Int) (s s' : ByteArray) (w : World) (k1 : 1 ≤ k) (k4 : k ≤ 4) :
  Calls Tryz.prog 85 #[.agg #[.int .i64 k, .int .i64 n, .string s], .agg #[.int .i64 k', .int .i64 n', .string s']] w fun e w' => e = .returned (.int .i64 (cmpV k n s k' n' s')) ∧ Below w.heap.size w w' := by
 by_cases e : k = k'
 ·subst e
  by_cases h1 : k = 1
  ·subst h1
   rw [cmpV_x (by omega) (by omega) (by omega)]
   exact ord_1 1 n 1 n' s s' w rfl rfl
  by_cases h4 : k = 4
  ·subst h4
   rw [cmpV_4]
   cases h : Op.bytesLess s.toList s'.toList
   ·cases h' : s.toList == s'.toList
    ·rw [cmpS_gt h h']; exact ord_s_gt 4 n 4 n' s s' w rfl rfl h h'
    ·rw [cmpS_qe h h']; exact ord_s_eq 4 n 4 n' s s' w rfl rfl h h'
   ·rw [cmpS_lt h]; exact ord_s_lt 4 n 4 n' s s' w rfl rfl h
  have b1 : (k == 1) = false := by simpa using h1
  have b4 : (k == 4) = false := by simpa using h4
  have c4 : (k != 4) = true := by simpa using h4
  have e : cmpV k n s k n' s' = cmpI n n' := by
   have : k = 2 ∨ k = 3 := by omega
   rcases this with rfl | rfl
   ·exact cmpV_2
   ·exact cmpV_3
  rw [e]
  rcases Int.lt_trichotomy n n' with h | h | h
  ·rw [cmpI_lt h]; exact ord_n_lt k n k n' s s' w rfl b1 b4 c4 h
  ·subst h; rw [cmpI_eq]; exact ord_n_eq k n k n s s' w rfl b1 b4 c4 rfl
  ·rw [cmpI_gt h]; exact ord_n_gt k n k n' s s' w rfl b1 b4 c4 h
 ·rw [cmpV_k e]
  rcases Int.lt_trichotomy k k' with h | h | h
  ·rw [cmpI_lt h]; exact ord_lt k n k' n' s s' w h
  ·exact absurd h e
  ·rw [cmpI_gt h]; exact ord_gt k n k' n' s s' w h
end Go.Proofs.YtfojonhblblbjaaGreat
/- A region that draws its order, whose operations read what was there when it began and whose callees make memory and write nothing that was there: one walk, in the order of the text, serves every order. -/
namespace Go.Proofs.YtfojonhblblbjaaGreat
open Go.RowKit

/-- The worlds in which all that lay in w lies as it did. -/
structure Past (w : World) where
 now : World
 ok : Below w.heap.size w now

theorem chain {w a b : World} (h : Below w.heap.size w a) (k : Below a.heap.size a b) : Below w.heap.size w b := h.trans (k.mono h.size)

theorem wp_region_past {P : Program} {id : Nat} {Q : Exit → Act → World → Prop} {a : Act} {w : World} {l : List Oper} (hm : P.follows .mixedOrders = true) (hB : Region.lexB .any l.toArray = true)
  (h : wpQuiet P l.toArray (fun w' => ∃ n : Past w, w' = n.now) (fun a' => ∀ w', (∃ n : Past w, w' = n.now) → Q .normal a' w') l a) : (Code.region id l.toArray true).wp P Q a w :=
 wp_region_quiet (C := fun w' => ∃ n : Past w, w' = n.now) hm hB ⟨⟨w.drew, (Below.refl _ _).drew⟩, rfl⟩ (by simpa using h)

theorem in_past {P : Program} {f : FuncId} {args : Array Value} {w : World} {n : Past w} {v : Value}
  (h : Calls P f args n.now fun e w' => e = .returned v ∧ Below n.now.heap.size n.now w') : Calls P f args n.now fun e w'' => e = .returned v ∧ ∃ m : Past w, w'' = m.now :=
 h.mono fun _ w' ⟨he, hb⟩ => ⟨he, ⟨w', chain n.ok hb⟩, rfl⟩
theorem past_cell {w : World} {p : Addr} {v : Value} (h : w.cell? p = some v) (n : Past w) : n.now.cell? p = some v :=
 (n.ok.cell (World.block_lt_of_cell? w p h)).trans h
end Go.Proofs.YtfojonhblblbjaaGreat
/- The walk of the document's answer for rows of right values, and of tidelaw1.ValsRows. -/
namespace Go.Proofs.YtfojonhblblbjaaGreat
open Go.RowKit

theorem right_elem {l : List Vl} (h : rightB l = true) {k : Nat} (hk : k < l.length) : 1 ≤ l[k].1 ∧ l[k].1 ≤ 4 := by
 unfold rightB at h
 rw [List.all_eq_true] at h
 have hw := h l[k] (List.getElem_mem hk)
 simp only [beq_iff_eq] at hw
 unfold wrongF at hw
 by_cases h1 : l[k].1 = 1
 ·omega
 by_cases h2 : l[k].1 = 2
 ·omega
 by_cases h3 : l[k].1 = 3
 ·omega
 by_cases h4 : l[k].1 = 4
 ·omega
 ·simp [h1, h2, h3, h4] at hw

set_option maxHeartbeats 1000000 in
theorem refRows_at (a a' : Option Addr) (cap cap' : Nat) (l l' : List Vl) (w : World) (h : SlAt w a l) (h' : SlAt w a' l') (hr : rightB l = true) :
  Calls Tryz.prog 44 #[.slice a l.length cap, .slice a' l'.length cap'] w fun e w' => e = .returned (.int .i64 (cmpL l l')) ∧ Below w.heap.size w w' := by
 have hl := h.1
 have hl' := h'.1
 unfold maxLen at hl hl'
 have HR : Hid (rightB l = true) := hr
 clear hr
 go_enter Tryz.func44, Tryz.ntmps44
 go_wp2
 go_loopw [5] (fun i w1 => ∃ k : Nat, k ≤ l.length ∧ k ≤ l'.length ∧ i = .int .i64 k ∧ Hid (cmpL l l' = cmpL (l.drop k) (l'.drop k)) ∧ Below w.heap.size w w1) (fun i _ => l.length - (intOf i).toNat)
 case atStart => exact ⟨0, Nat.zero_le _, Nat.zero_le _, rfl, rfl, Below.refl _ _⟩
 case round =>
  obtain ⟨k, hk, hk', rfl, HC, hb⟩ := hrel
  have hz := hb.size
  by_cases hlt : k < l.length
  ·have b1 : ((k : Int) == (l.length : Int)) = false := by simp; omega
   by_cases hlt' : k < l'.length
   ·have b2 : ((k : Int) == (l'.length : Int)) = false := by simp; omega
    have i0 : (0 : Int) ≤ (k : Int) := by omega
    have i1 : (k : Int) < (l.length : Int) := by omega
    have i2 : (k : Int) < (l'.length : Int) := by omega
    obtain ⟨b, off, rfl, hbl, c0, c1, c2⟩ := (h.next hb).elem hlt
    obtain ⟨b', off', rfl, hbl', d0, d1, d2⟩ := (h'.next hb).elem hlt'
    have ⟨g0, g1⟩ := right_elem HR.out hlt
    have p0 := past_cell c0
    have p1 := past_cell c1
    have p2 := past_cell c2
    have p3 := past_cell d0
    have p4 := past_cell d1
    have p5 := past_cell d2
    haveI : Nonempty (Past wr) := ⟨⟨wr, Below.refl _ _⟩⟩
    by_cases e : cmpP l[k] l'[k] = 0
    ·have E : Hid (cmpP l[k] l'[k] = 0) := e
     have E2 : cmpV l[k].1 l[k].2.1 l[k].2.2 l'[k].1 l'[k].2.1 l'[k].2.2 = 0 := e
     clear e
     go_wp2_with fail
     refine wp_region_past (by kernel_rfl) (by kernel_rfl) ?_
     repeat (go_big_quiet_step (first | (go_at_call 85; exact in_past (refOrder_any _ _ _ _ _ _ _ g0 g1))))
     refine wpQuiet_nil ?_
     rintro _ ⟨⟨w2, hb2⟩, rfl⟩
     go_wp2_with fail
     go_roundw
     case rel => exact ⟨k + 1, by omega, by omega, by go_num, HC.out.trans (by rw [cmpL_drop l l' k hlt hlt', if_pos E.out]), chain hb hb2⟩
     case measure => simp [intOf]; omega
    ·have E : Hid (¬ cmpP l[k] l'[k] = 0) := e
     have E2 : (cmpV l[k].1 l[k].2.1 l[k].2.2 l'[k].1 l'[k].2.1 l'[k].2.2 != 0) = true := by simpa [cmpP] using e
     clear e
     go_wp2_with fail
     refine wp_region_past (by kernel_rfl) (by kernel_rfl) ?_
     repeat (go_big_quiet_step (first | (go_at_call 85; exact in_past (refOrder_any _ _ _ _ _ _ _ g0 g1))))
     refine wpQuiet_nil ?_
     rintro _ ⟨⟨w2, hb2⟩, rfl⟩
     go_wp2_with fail
     go_ret
     exact ⟨ret_int (by rw [HC.out, cmpL_drop l l' k hlt hlt', if_neg E.out]; rfl), chain hb hb2⟩
   ·have b2 : ((k : Int) == (l'.length : Int)) = true := by simp; omega
    go_wp2_with fail
    go_ret
    exact ⟨ret_int (by rw [HC.out, cmpL_long l l' k hlt (by omega)]), hb⟩
  ·have b1 : ((k : Int) == (l.length : Int)) = true := by simp; omega
   by_cases hlt' : k < l'.length
   ·have b2 : ((k : Int) == (l'.length : Int)) = false := by simp; omega
    go_wp2_with fail
    go_ret
    exact ⟨ret_int (by rw [HC.out, cmpL_short l l' k (by omega) hlt']), hb⟩
   ·have b2 : ((k : Int) == (l'.length : Int)) = true := by simp; omega
    go_wp2_with fail
    go_ret
    exact ⟨ret_int (by rw [HC.out, cmpL_same l l' k (by omega) (by omega)]), hb⟩

end Go.Proofs.YtfojonhblblbjaaGreat
/- The walks of vals.Bare and of its fellow in the document's answer. -/
namespace Go.Proofs.YtfojonhblblbjaaGreat
open Go.RowKit

def bareN (k n : Int) : Int := if k = 2 ∨ k = 3 then n else 0
def bareS (k : Int) (s : ByteArray) : ByteArray := if k = 4 then s else ⟨#[]⟩
theorem bareS_no {k : Int} {s : ByteArray} (h : ¬ k = 4) : bareS k s = ⟨#[]⟩ := by simp [bareS, h]
theorem bareN_no {k n : Int} (h2 : ¬ k = 2) (h3 : ¬ k = 3) : bareN k n = 0 := by simp [bareN, h2, h3]

set_option maxHeartbeats 400000 in
theorem bare_2 (k n : Int) (s : ByteArray) (w : World) (h : k = 2) :
  Calls Tryz.prog 149 #[.agg #[.int .i64 k, .int .i64 n, .string s]] w fun e w' => e = .returned (.agg #[.int .i64 2, .int .i64 n, .string ⟨#[]⟩]) ∧ Below w.heap.size w w' := by
 subst h
 go_enter Tryz.func149, Tryz.ntmps149
 go_wp2_with fail
 exact bodyPost_ret (v := .agg #[.int .i64 2, .int .i64 n, .string ⟨#[]⟩]) (by simp [results, Tryz.results149, go_sem]) rfl ⟨rfl, ((Below.refl _ _).alloc (Nat.le_refl _) _).alloc (by simp) _⟩

set_option maxHeartbeats 400000 in
theorem bare_3 (k n : Int) (s : ByteArray) (w : World) (h : k = 3) :
  Calls Tryz.prog 149 #[.agg #[.int .i64 k, .int .i64 n, .string s]] w fun e w' => e = .returned (.agg #[.int .i64 3, .int .i64 n, .string ⟨#[]⟩]) ∧ Below w.heap.size w w' := by
 subst h
 go_enter Tryz.func149, Tryz.ntmps149
 go_wp2_with fail
 exact bodyPost_ret (v := .agg #[.int .i64 3, .int .i64 n, .string ⟨#[]⟩]) (by simp [results, Tryz.results149, go_sem]) rfl ⟨rfl, ((Below.refl _ _).alloc (Nat.le_refl _) _).alloc (by simp) _⟩

set_option maxHeartbeats 400000 in
theorem bare_4 (k n : Int) (s : ByteArray) (w : World) (h : k = 4) :
  Calls Tryz.prog 149 #[.agg #[.int .i64 k, .int .i64 n, .string s]] w fun e w' => e = .returned (.agg #[.int .i64 4, .int .i64 0, .string s]) ∧ Below w.heap.size w w' := by
 subst h
 go_enter Tryz.func149, Tryz.ntmps149
 go_wp2_with fail
 exact bodyPost_ret (v := .agg #[.int .i64 4, .int .i64 0, .string s]) (by simp [results, Tryz.results149, go_sem]) rfl ⟨rfl, ((Below.refl _ _).alloc (Nat.le_refl _) _).alloc (by simp) _⟩

set_option maxHeartbeats 400000 in
theorem bare_x (k n : Int) (s : ByteArray) (w : World) (h2 : ¬ k = 2) (h3 : ¬ k = 3) (h4 : ¬ k = 4) :
  Calls Tryz.prog 149 #[.agg #[.int .i64 k, .int .i64 n, .string s]] w fun e w' => e = .returned (.agg #[.int .i64 k, .int .i64 0, .string ⟨#[]⟩]) ∧ Below w.heap.size w w' := by
 have b2 : (k == 2) = false := by simpa using h2
 have b3 : (k == 3) = false := by simpa using h3
 have b4 : (k == 4) = false := by simpa using h4
 go_enter Tryz.func149, Tryz.ntmps149
 go_wp2_with fail
 exact bodyPost_ret (v := .agg #[.int .i64 k, .int .i64 0, .string ⟨#[]⟩]) (by simp [results, Tryz.results149, go_sem]) rfl ⟨rfl, ((Below.refl _ _).alloc (Nat.le_refl _) _).alloc (by simp) _⟩

theorem bare_any (k n : Int) (s : ByteArray) (w : World) :
  Calls Tryz.prog 149 #[.agg #[.int .i64 k, .int .i64 n, .string s]] w fun e w' => e = .returned (.agg #[.int .i64 k, .int .i64 (bareN k n), .string (bareS k s)]) ∧ Below w.heap.size w w' := by
 by_cases h2 : k = 2
 ·have e : bareN k n = n := by simp [bareN, h2]
  rw [e, bareS_no (by omega), h2]
  exact bare_2 2 n s w rfl
 by_cases h3 : k = 3
 ·have e : bareN k n = n := by simp [bareN, h3]
  rw [e, bareS_no (by omega), h3]
  exact bare_3 3 n s w rfl
 rw [bareN_no h2 h3]
 by_cases h4 : k = 4
 ·have e : bareS k s = s := by simp [bareS, h4]
  rw [e, h4]
  exact bare_4 4 n s w rfl
 rw [bareS_no h4]
 exact bare_x k n s w h2 h3 h4

set_option maxHeartbeats 400000 in
theorem refBare_2 (k n : Int) (s : ByteArray) (w : World) (h : k = 2) :
  Calls Tryz.prog 113 #[.agg #[.int .i64 k, .int .i64 n, .string s]] w fun e w' => e = .returned (.agg #[.int .i64 2, .int .i64 n, .string ⟨#[]⟩]) ∧ Below w.heap.size w w' := by
 subst h
 go_enter Tryz.func113, Tryz.ntmps113
 go_wp2_with fail
 exact bodyPost_ret (v := .agg #[.int .i64 2, .int .i64 n, .string ⟨#[]⟩]) (by simp [results, Tryz.results113, go_sem]) rfl ⟨rfl, (((Below.refl _ _).alloc (Nat.le_refl _) _).alloc (by simp) _).alloc (by simp; omega) _⟩

set_option maxHeartbeats 400000 in
theorem refBare_3 (k n : Int) (s : ByteArray) (w : World) (h : k = 3) :
  Calls Tryz.prog 113 #[.agg #[.int .i64 k, .int .i64 n, .string s]] w fun e w' => e = .returned (.agg #[.int .i64 3, .int .i64 n, .string ⟨#[]⟩]) ∧ Below w.heap.size w w' := by
 subst h
 go_enter Tryz.func113, Tryz.ntmps113
 go_wp2_with fail
 exact bodyPost_ret (v := .agg #[.int .i64 3, .int .i64 n, .string ⟨#[]⟩]) (by simp [results, Tryz.results113, go_sem]) rfl ⟨rfl, (((Below.refl _ _).alloc (Nat.le_refl _) _).alloc (by simp) _).alloc (by simp; omega) _⟩

set_option maxHeartbeats 400000 in
theorem refBare_4 (k n : Int) (s : ByteArray) (w : World) (h : k = 4) :
  Calls Tryz.prog 113 #[.agg #[.int .i64 k, .int .i64 n, .string s]] w fun e w' => e = .returned (.agg #[.int .i64 4, .int .i64 0, .string s]) ∧ Below w.heap.size w w' := by
 subst h
 go_enter Tryz.func113, Tryz.ntmps113
 go_wp2_with fail
 exact bodyPost_ret (v := .agg #[.int .i64 4, .int .i64 0, .string s]) (by simp [results, Tryz.results113, go_sem]) rfl ⟨rfl, (((Below.refl _ _).alloc (Nat.le_refl _) _).alloc (by simp) _).alloc (by simp; omega) _⟩

set_option maxHeartbeats 400000 in
theorem refBare_x (k n : Int) (s : ByteArray) (w : World) (h2 : ¬ k = 2) (h3 : ¬ k = 3) (h4 : ¬ k = 4) :
  Calls Tryz.prog 113 #[.agg #[.int .i64 k, .int .i64 n, .string s]] w fun e w' => e = .returned (.agg #[.int .i64 k, .int .i64 0, .string ⟨#[]⟩]) ∧ Below w.heap.size w w' := by
 have b2 : (k == 2) = false := by simpa using h2
 have b3 : (k == 3) = false := by simpa using h3
 have b4 : (k == 4) = false := by simpa using h4
 go_enter Tryz.func113, Tryz.ntmps113
 go_wp2_with fail
 exact bodyPost_ret (v := .agg #[.int .i64 k, .int .i64 0, .string ⟨#[]⟩]) (by simp [results, Tryz.results113, go_sem]) rfl ⟨rfl, (((Below.refl _ _).alloc (Nat.le_refl _) _).alloc (by simp) _).alloc (by simp; omega) _⟩

theorem refBare_any (k n : Int) (s : ByteArray) (w : World) :
  Calls Tryz.prog 113 #[.agg #[.int .i64 k, .int .i64 n, .string s]] w fun e w' => e = .returned (.agg #[.int .i64 k, .int .i64 (bareN k n), .string (bareS k s)]) ∧ Below w.heap.size w w' := by
 by_cases h2 : k = 2
 ·have e : bareN k n = n := by simp [bareN, h2]
  rw [e, bareS_no (by omega), h2]
  exact refBare_2 2 n s w rfl
 by_cases h3 : k = 3
 ·have e : bareN k n = n := by simp [bareN, h3]
  rw [e, bareS_no (by omega), h3]
  exact refBare_3 3 n s w rfl
 rw [bareN_no h2 h3]
 by_cases h4 : k = 4
 ·have e : bareS k s = s := by simp [bareS, h4]
  rw [e, h4]
  exact refBare_4 4 n s w rfl
 rw [bareS_no h4]
 exact refBare_x k n s w h2 h3 h4

end Go.Proofs.YtfojonhblblbjaaGreat
/- What is wrong with a row, and with a weight: plain functions, and the walks of zsets.wrongRow, zsets.inRange and of their fellows in the document's answer. -/
namespace Go.Proofs.YtfojonhblblbjaaGreat
open Go.RowKit

/-- The first thing that is wrong with values: 0, if nothing is. -/
def wrongL : List Vl → Int
 | [] => 0
 | v :: r => if wrongF v.1 v.2.1 v.2.2 = 0 then wrongL r else wrongF v.1 v.2.1 v.2.2
def wrongRowF (l : List Vl) : Int := if 8 < l.length then 5 else wrongL l
def inW (w : Int) : Bool := decide (-1000000 ≤ w) && decide (w ≤ 1000000)

theorem wrongL_drop (l : List Vl) (k : Nat) (h : k < l.length) : wrongL (l.drop k) = if wrongF l[k].1 l[k].2.1 l[k].2.2 = 0 then wrongL (l.drop (k + 1)) else wrongF l[k].1 l[k].2.1 l[k].2.2 := by
 rw [List.drop_eq_getElem_cons h]; rfl
theorem wrongL_end (l : List Vl) (k : Nat) (h : l.length ≤ k) : wrongL (l.drop k) = 0 := by rw [List.drop_eq_nil_of_le h]; rfl
theorem wrongL_right : ∀ (l : List Vl), wrongL l = 0 ↔ rightB l = true
 | [] => by simp [wrongL, rightB]
 | v :: r => by
  have ih := wrongL_right r
  unfold rightB at ih ⊢
  by_cases h : wrongF v.1 v.2.1 v.2.2 = 0 <;> simp [wrongL, h, ih]
theorem wrongRowF_zero (l : List Vl) : wrongRowF l = 0 ↔ l.length ≤ 8 ∧ rightB l = true := by
 unfold wrongRowF
 by_cases h : 8 < l.length
 ·rw [if_pos h]
  constructor
  ·intro h'; omega
  ·rintro ⟨h', _⟩; omega
 ·rw [if_neg h, wrongL_right]
  exact ⟨fun h' => ⟨by omega, h'⟩, fun h' => h'.2⟩

set_option maxHeartbeats 1000000 in
theorem wrongRow_at (a : Option Addr) (cap : Nat) (l : List Vl) (w : World) (h : SlAt w a l) :
  Calls Tryz.prog 63 #[.slice a l.length cap] w fun e w' => e = .returned (.int .i64 (wrongRowF l)) ∧ Below w.heap.size w w' := by
 have hl := h.1
 unfold maxLen at hl
 by_cases h8 : 8 < l.length
 ·have e : wrongRowF l = 5 := by simp [wrongRowF, h8]
  rw [e]
  clear e
  go_enter Tryz.func63, Tryz.ntmps63
  go_wp2_with fail
  go_ret
  exact ⟨rfl, Below.refl _ _⟩
 ·have e : wrongRowF l = wrongL l := by simp [wrongRowF, h8]
  rw [e]
  clear e
  go_enter Tryz.func63, Tryz.ntmps63
  go_wp2_with fail
  go_loopw [11] (fun i w1 => ∃ k : Nat, k ≤ l.length ∧ i = .int .i64 k ∧ Hid (wrongL l = wrongL (l.drop k)) ∧ Below w.heap.size w w1) (fun i _ => l.length - (intOf i).toNat)
  case atStart => exact ⟨0, Nat.zero_le _, rfl, rfl, Below.refl _ _⟩
  case round =>
   obtain ⟨k, hk, rfl, HC, hb⟩ := hrel
   have hz := hb.size
   by_cases hlt : k < l.length
   ·obtain ⟨b, off, rfl, hbl, c0, c1, c2⟩ := (h.next hb).elem hlt
    by_cases hw : wrongF l[k].1 l[k].2.1 l[k].2.2 = 0
    ·have Hw : Hid (wrongF l[k].1 l[k].2.1 l[k].2.2 = 0) := hw
     clear hw
     go_wp2_with fail
     refine (wrong_any _ _ _ _).mono ?_
     rintro e w1 ⟨rfl, hb1⟩
     rw [Hw.out]
     go_wp2_with fail
     go_roundw
     case rel => exact ⟨k + 1, by omega, by go_num, HC.out.trans (by rw [wrongL_drop l k hlt, if_pos Hw.out]), hb.trans (((Below.refl _ _).alloc hz _).trans (hb1.mono (by simp; omega)))⟩
     case measure => simp [intOf]; omega
    ·have Hw : Hid (¬ wrongF l[k].1 l[k].2.1 l[k].2.2 = 0) := hw
     have hne : (wrongF l[k].1 l[k].2.1 l[k].2.2 != 0) = true := by simpa using hw
     clear hw
     go_wp2_with fail
     refine (wrong_any _ _ _ _).mono ?_
     rintro e w1 ⟨rfl, hb1⟩
     go_wp2_with fail
     go_ret
     exact ⟨ret_int (by rw [HC.out, wrongL_drop l k hlt, if_neg Hw.out]), hb.trans (((Below.refl _ _).alloc hz _).trans (hb1.mono (by simp; omega)))⟩
   ·go_wp2_with fail
    go_ret
    exact ⟨ret_int (by rw [HC.out, wrongL_end l k (by omega)]), hb⟩

set_option maxHeartbeats 1000000 in
theorem refRow_at (a : Option Addr) (cap : Nat) (l : List Vl) (w : World) (h : SlAt w a l) :
  Calls Tryz.prog 111 #[.slice a l.length cap] w fun e w' => e = .returned (.int .i64 (wrongRowF l)) ∧ Below w.heap.size w w' := by
 have hl := h.1
 unfold maxLen at hl
 by_cases h8 : 8 < l.length
 ·have e : wrongRowF l = 5 := by simp [wrongRowF, h8]
  rw [e]
  clear e
  go_enter Tryz.func111, Tryz.ntmps111
  go_wp2_with fail
  go_ret
  exact ⟨rfl, Below.refl _ _⟩
 ·have e : wrongRowF l = wrongL l := by simp [wrongRowF, h8]
  rw [e]
  clear e
  go_enter Tryz.func111, Tryz.ntmps111
  go_wp2_with fail
  go_loopw [11] (fun i w1 => ∃ k : Nat, k ≤ l.length ∧ i = .int .i64 k ∧ Hid (wrongL l = wrongL (l.drop k)) ∧ Below w.heap.size w w1) (fun i _ => l.length - (intOf i).toNat)
  case atStart => exact ⟨0, Nat.zero_le _, rfl, rfl, Below.refl _ _⟩
  case round =>
   obtain ⟨k, hk, rfl, HC, hb⟩ := hrel
   have hz := hb.size
   by_cases hlt : k < l.length
   ·obtain ⟨b, off, rfl, hbl, c0, c1, c2⟩ := (h.next hb).elem hlt
    by_cases hw : wrongF l[k].1 l[k].2.1 l[k].2.2 = 0
    ·have Hw : Hid (wrongF l[k].1 l[k].2.1 l[k].2.2 = 0) := hw
     clear hw
     go_wp2_with fail
     refine (refWrong_any _ _ _ _).mono ?_
     rintro e w1 ⟨rfl, hb1⟩
     rw [Hw.out]
     go_wp2_with fail
     go_roundw
     case rel => exact ⟨k + 1, by omega, by go_num, HC.out.trans (by rw [wrongL_drop l k hlt, if_pos Hw.out]), hb.trans (((Below.refl _ _).alloc hz _).trans (hb1.mono (by simp; omega)))⟩
     case measure => simp [intOf]; omega
    ·have Hw : Hid (¬ wrongF l[k].1 l[k].2.1 l[k].2.2 = 0) := hw
     have hne : (wrongF l[k].1 l[k].2.1 l[k].2.2 != 0) = true := by simpa using hw
     clear hw
     go_wp2_with fail
     refine (refWrong_any _ _ _ _).mono ?_
     rintro e w1 ⟨rfl, hb1⟩
     go_wp2_with fail
     go_ret
     exact ⟨ret_int (by rw [HC.out, wrongL_drop l k hlt, if_neg Hw.out]), hb.trans (((Below.refl _ _).alloc hz _).trans (hb1.mono (by simp; omega)))⟩
   ·go_wp2_with fail
    go_ret
    exact ⟨ret_int (by rw [HC.out, wrongL_end l k (by omega)]), hb⟩

set_option maxHeartbeats 400000 in
theorem zInRange_any (n : Int) (w : World) :
  Calls Tryz.prog 64 #[.int .i64 n] w fun e w' => e = .returned (.bool (inW n)) ∧ w' = w := by
 by_cases h0 : -1000000 ≤ n
 ·have e : inW n = decide (n ≤ 1000000) := by simp [inW, h0]
  rw [e]
  go_enter Tryz.func64, Tryz.ntmps64
  go_wp2
  go_ret
  exact ⟨rfl, rfl⟩
 ·have e : inW n = false := by simp [inW, h0]
  rw [e]
  go_enter Tryz.func64, Tryz.ntmps64
  go_wp2
  go_ret
  exact ⟨rfl, rfl⟩

set_option maxHeartbeats 400000 in
theorem refBig_any (n : Int) (w : World) :
  Calls Tryz.prog 80 #[.int .i64 n] w fun e w' => e = .returned (.bool (!inW n)) ∧ w' = w := by
 by_cases h0 : n < -1000000
 ·have e : inW n = false := by simp [inW]; omega
  rw [e]
  go_enter Tryz.func80, Tryz.ntmps80
  go_wp2
  go_ret
  exact ⟨rfl, rfl⟩
 ·have e : (!inW n) = decide (1000000 < n) := by
   have : -1000000 ≤ n := by omega
   by_cases h1 : 1000000 < n
   ·have : ¬ n ≤ 1000000 := by omega
    simp [inW, *]
   ·have : n ≤ 1000000 := by omega
    simp [inW, *]
  rw [e]
  go_enter Tryz.func80, Tryz.ntmps80
  go_wp2
  go_ret
  exact ⟨rfl, rfl⟩
end Go.Proofs.YtfojonhblblbjaaGreat
