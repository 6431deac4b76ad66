/- The order of rows: plain facts; the walks of slices.CompareFunc over values and of vals.Rows. -/
import Derived.Test.YtibobmkelmalkaaW4
import Derived.Test.YtibobmkelmalkaaW5
import Derived.Test.YtibobmkelmalkaaOrd
namespace Go.Proofs.Ytibobmkelmalkaa
open Go.RowKit

abbrev Vl : Type := Int × Int × ByteArray
def cmpP (x y : Vl) : Int := cmpV x.1 x.2.1 x.2.2 y.1 y.2.1 y.2.2
def cmpL : List Vl → List Vl → Int
  | [], [] => 0
  | [], _ :: _ => -1
  | _ :: _, [] => 1
  | x :: r, y :: t => if cmpP x y = 0 then cmpL r t else cmpP x y

theorem cmpI_bd (a b : Int) : -1 ≤ cmpI a b ∧ cmpI a b ≤ 1 := by unfold cmpI; split <;> (try split) <;> omega
theorem cmpS_bd (a b : ByteArray) : -1 ≤ cmpS a b ∧ cmpS a b ≤ 1 := by unfold cmpS; split <;> (try split) <;> omega
theorem cmpP_bd (x y : Vl) : -1 ≤ cmpP x y ∧ cmpP x y ≤ 1 := by
  unfold cmpP cmpV
  split
  · exact cmpI_bd _ _
  · split
    · exact cmpI_bd _ _
    · split
      · exact cmpS_bd _ _
      · omega
theorem cmpL_bd : ∀ l t : List Vl, -1 ≤ cmpL l t ∧ cmpL l t ≤ 1
  | [], [] => by simp [cmpL]
  | [], _ :: _ => by simp [cmpL]
  | _ :: _, [] => by simp [cmpL]
  | x :: r, y :: t => by
    unfold cmpL
    split
    · exact cmpL_bd r t
    · exact cmpP_bd x y
theorem cmpP_neg (x y : Vl) : cmpP x y = -cmpP y x := cmpV_neg _ _ _ _ _ _
theorem cmpL_neg : ∀ l t : List Vl, cmpL t l = -cmpL l t
  | [], [] => rfl
  | [], _ :: _ => rfl
  | _ :: _, [] => rfl
  | x :: r, y :: t => by
    have h := cmpP_neg x y
    unfold cmpL
    by_cases e : cmpP y x = 0
    · have e' : cmpP x y = 0 := by omega
      simp only [e, e', if_true]
      exact cmpL_neg r t
    · have e' : ¬ cmpP x y = 0 := by omega
      simp only [e, e', if_false]
      omega
theorem cmpL_drop (l t : List Vl) (k : Nat) (h : k < l.length) (h' : k < t.length) : cmpL (l.drop k) (t.drop k) = if cmpP l[k] t[k] = 0 then cmpL (l.drop (k + 1)) (t.drop (k + 1)) else cmpP l[k] t[k] := by
  rw [List.drop_eq_getElem_cons h, List.drop_eq_getElem_cons h']
  rfl
theorem cmpL_long (l t : List Vl) (k : Nat) (h : k < l.length) (h' : t.length ≤ k) : cmpL (l.drop k) (t.drop k) = 1 := by
  rw [List.drop_eq_getElem_cons h, List.drop_eq_nil_of_le h']
  rfl
theorem cmpL_short (l t : List Vl) (k : Nat) (h : l.length ≤ k) (h' : k < t.length) : cmpL (l.drop k) (t.drop k) = -1 := by
  rw [List.drop_eq_getElem_cons h', List.drop_eq_nil_of_le h]
  rfl
theorem cmpL_same (l t : List Vl) (k : Nat) (h : l.length ≤ k) (h' : t.length ≤ k) : cmpL (l.drop k) (t.drop k) = 0 := by
  rw [List.drop_eq_nil_of_le h, List.drop_eq_nil_of_le h']
  rfl

/-- A slice holds these values: it is empty, or leads to them. -/
def SlAt (W : World) (a : Option Addr) (l : List Vl) : Prop :=
  l.length ≤ maxLen ∧ (l = [] ∨ ∃ b off, a = some ⟨b, off, none⟩ ∧ Row W b off l ∧ b < W.heap.size)
theorem SlAt.next {W w1 : World} {a : Option Addr} {l : List Vl} (h : SlAt W a l) (hb : Below W.heap.size W w1) : SlAt w1 a l := by
  obtain ⟨h0, h | ⟨b, off, e, hr, hlt⟩⟩ := h
  · exact ⟨h0, .inl h⟩
  · exact ⟨h0, .inr ⟨b, off, e, hr.next hlt hb, Nat.lt_of_lt_of_le hlt hb.size⟩⟩
theorem SlAt.elem {W : World} {a : Option Addr} {l : List Vl} (h : SlAt W a l) {k : Nat} (hk : k < l.length) :
    ∃ b off, a = some ⟨b, off, none⟩ ∧ b < W.heap.size ∧ W.cell? ⟨b, off + k * 3, none⟩ = some (.int .i64 l[k].1) ∧ W.cell? ⟨b, off + k * 3 + 1, none⟩ = some (.int .i64 l[k].2.1) ∧ W.cell? ⟨b, off + k * 3 + 2, none⟩ = some (.string l[k].2.2) := by
  obtain ⟨_, h | ⟨b, off, e, hr, hlt⟩⟩ := h
  · subst h; simp at hk
  · exact ⟨b, off, e, hlt, hr k hk⟩

set_option maxHeartbeats 1000000 in
theorem compareFunc_d (a a' : Option Addr) (cap cap' : Nat) (l l' : List Vl) (w : World) (h : SlAt w a l) (h' : SlAt w a' l') :
    Calls Try.prog 50 #[.slice a l.length cap, .slice a' l'.length cap', .func (.func 51) #[] #[]] w fun e w' => e = .returned (.int .i64 (cmpL l l')) ∧ Below w.heap.size w w' ∧ w.drawn ≤ w'.drawn := by
  have hl := h.1
  have hl' := h'.1
  unfold maxLen at hl hl'
  go_enter Try.func50, Try.ntmps50
  go_wp2
  go_loopw [13] (fun i w1 => ∃ k : Nat, k ≤ l.length ∧ k ≤ l'.length ∧ i = .int .i64 k ∧ Hid (cmpL l l' = cmpL (l.drop k) (l'.drop k)) ∧ Below w.heap.size w w1 ∧ w.drawn ≤ w1.drawn) (fun i _ => l.length - (intOf i).toNat)
  case atStart => exact ⟨0, Nat.zero_le _, Nat.zero_le _, rfl, rfl, Below.refl _ _, Nat.le_refl _⟩
  case round =>
    obtain ⟨k, hk, hk', rfl, HC, hb, hd⟩ := hrel
    have HD : Hid (w.drawn ≤ wr.drawn) := hd
    clear hd
    have hz := hb.size
    by_cases hlt : k < l.length
    · obtain ⟨b, off, rfl, hbl, c0, c1, c2⟩ := (h.next hb).elem hlt
      by_cases hlt' : k < l'.length
      · have hb2 := ((Below.refl wr.heap.size wr).alloc (Nat.le_refl _) (.cells #[.int .i64 l[k].1, .int .i64 l[k].2.1, .string l[k].2.2] 47))
        obtain ⟨b', off', rfl, hbl', d0, d1, d2⟩ := ((h'.next hb).next hb2).elem hlt'
        clear hb2
        by_cases e : cmpP l[k] l'[k] = 0
        · have E : Hid (cmpP l[k] l'[k] = 0) := e
          clear e
          go_wp2_with fail
          refine (compare_d _ _ _ _ _ _ _).mono ?_
          rintro e w1 ⟨rfl, hb1, hd1⟩
          have HD1 : Hid (wr.drawn ≤ w1.drawn) := hd1
          clear hd1
          rw [show cmpV l[k].1 l[k].2.1 l[k].2.2 l'[k].1 l'[k].2.1 l'[k].2.2 = 0 from E.out]
          go_wp2_with fail
          go_roundw
          case rel => exact ⟨k + 1, by omega, by omega, by go_num, HC.out.trans (by rw [cmpL_drop l l' k hlt hlt', if_pos E.out]), hb.trans ((((Below.refl _ _).alloc hz _).alloc (by simp; omega) _).trans (hb1.mono (by simp; omega))), Nat.le_trans HD.out HD1.out⟩
          case measure => simp [intOf]; omega
        · have E : Hid (¬ cmpP l[k] l'[k] = 0) := e
          have E2 : (cmpV l[k].1 l[k].2.1 l[k].2.2 l'[k].1 l'[k].2.1 l'[k].2.2 != 0) = true := by simpa [cmpP] using e
          clear e
          go_wp2_with fail
          refine (compare_d _ _ _ _ _ _ _).mono ?_
          rintro e w1 ⟨rfl, hb1, hd1⟩
          have HD1 : Hid (wr.drawn ≤ w1.drawn) := hd1
          clear hd1
          go_wp2_with fail
          go_ret
          exact ⟨ret_int (by rw [HC.out, cmpL_drop l l' k hlt hlt', if_neg E.out]; rfl), hb.trans ((((Below.refl _ _).alloc hz _).alloc (by simp; omega) _).trans (hb1.mono (by simp; omega))), Nat.le_trans HD.out HD1.out⟩
      · go_wp2_with fail
        go_ret
        exact ⟨ret_int (by rw [HC.out, cmpL_long l l' k hlt (by omega)]), hb.alloc hz _, HD.out⟩
    · by_cases hlt' : k < l'.length
      · have e : k = l.length := by omega
        have hll : l.length < l'.length := by omega
        go_wp2_with fail
        go_ret
        exact ⟨ret_int (by rw [HC.out, cmpL_short l l' k (by omega) hlt']), hb, HD.out⟩
      · have hll : ¬ l.length < l'.length := by omega
        go_wp2_with fail
        go_ret
        exact ⟨ret_int (by rw [HC.out, cmpL_same l l' k (by omega) (by omega)]), hb, HD.out⟩

set_option maxHeartbeats 400000 in
theorem rows_d (a a' : Option Addr) (cap cap' : Nat) (l l' : List Vl) (w : World) (h : SlAt w a l) (h' : SlAt w a' l') :
    Calls Try.prog 39 #[.slice a l.length cap, .slice a' l'.length cap'] w fun e w' => e = .returned (.int .i64 (cmpL l l')) ∧ Below w.heap.size w w' ∧ w.drawn ≤ w'.drawn := by
  go_enter Try.func39, Try.ntmps39
  go_wp2_with fail
  refine (compareFunc_d _ _ _ _ _ _ _ h h').mono ?_
  rintro e w1 ⟨rfl, hb1, hd1⟩
  go_wp2_with fail
  go_ret
  exact ⟨rfl, hb1, hd1⟩
theorem rows_at (a a' : Option Addr) (cap cap' : Nat) (l l' : List Vl) (w : World) (h : SlAt w a l) (h' : SlAt w a' l') :
    Calls Try.prog 39 #[.slice a l.length cap, .slice a' l'.length cap'] w fun e w' => e = .returned (.int .i64 (cmpL l l')) ∧ Below w.heap.size w w' :=
  (rows_d a a' cap cap' l l' w h h').mono fun _ _ h => ⟨h.1, h.2.1⟩
end Go.Proofs.Ytibobmkelmalkaa
