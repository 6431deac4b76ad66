/- The walk of exprs.Type. -/
import Derived.Test.YtbdhmjojamoafaaY5
import Derived.Test.YtbdhmjojamoafaaX2
namespace Go.Proofs.Ytbdhmjojamoafaa
open Go.RowKit

theorem typeX_zero (cols : List Int) : ∀ (x : Ex) (n d : Int), ¬ (typeX cols x n d).2.1 = 0 → (typeX cols x n d).1 = 0
  | .mk k v c ks, n, d => by
    rw [typeX]
    split
    · intro _; rfl
    split
    · intro _; rfl
    · generalize (typesX cols ks [] (n + 1) (d + 1)).2.1 = ts
      unfold nodeT
      split
      · unfold litT; split <;> simp
      split
      · unfold colT; split <;> simp
      · cases kidsT k ts <;> simp [resT]
theorem typeTop_of {cols : List Int} {x : Ex} (h1 : cols.length ≤ 16) (h2 : colsB cols = true) : typeTop cols x = ((typeX cols x 0 1).1, (typeX cols x 0 1).2.1) := by
  unfold typeTop
  rw [if_neg (by omega), if_neg (by simp [h2])]
  by_cases h : (typeX cols x 0 1).2.1 = 0
  · rw [if_pos h, h]
  · rw [if_neg h, typeX_zero cols x 0 1 h]
theorem colsB_end (l : List Int) (k : Nat) (h : l.length ≤ k) : colsB (l.drop k) = true := by rw [List.drop_eq_nil_of_le h]; rfl
theorem colsB_no (l : List Int) (k : Nat) (h : k < l.length) (e : l[k] < 1 ∨ 4 < l[k]) : colsB (l.drop k) = false := by
  rw [List.drop_eq_getElem_cons h, colsB, List.all_cons]
  have : (decide (1 ≤ l[k]) && decide (l[k] ≤ 4)) = false := by
    rcases e with e | e
    · have : decide (1 ≤ l[k]) = false := decide_eq_false (by omega)
      rw [this]; rfl
    · have : decide (l[k] ≤ 4) = false := decide_eq_false (by omega)
      rw [this, Bool.and_false]
  rw [this, Bool.false_and]
theorem colsB_next (l : List Int) (k : Nat) (h : k < l.length) (e : ¬ l[k] < 1) (e' : ¬ 4 < l[k]) : colsB (l.drop k) = colsB (l.drop (k + 1)) := by
  rw [List.drop_eq_getElem_cons h, colsB, List.all_cons]
  have : (decide (1 ≤ l[k]) && decide (l[k] ≤ 4)) = true := by
    rw [decide_eq_true (by omega), decide_eq_true (by omega)]; rfl
  rw [this, Bool.true_and]
  rfl

set_option maxHeartbeats 2000000 in
theorem type_at (cols : List Int) (x : Ex) (ca : Option Addr) (ccap : Nat) (a : Option Addr) (cap : Nat) (w : World) (hk : KsAt w.heap.size w a x.ks) (hc : IsAt w.heap.size w ca cols) :
    Calls Try.prog 9 #[.slice ca cols.length ccap, exV x.k x.v x.c a x.ks.length cap] w fun e w' => e = .returned (.tuple #[.int .i64 (typeTop cols x).1, .int .i64 (typeTop cols x).2]) ∧ Below w.heap.size w w' := by
  have hl := hc.1
  unfold maxLen at hl
  generalize hr : typeTop cols x = r
  have HR : Hid (typeTop cols x = r) := hr
  clear hr
  by_cases h16 : 16 < cols.length
  · have er : r = (0, 5) := by rw [← HR.out, typeTop, if_pos h16]
    subst er
    clear HR
    go_enter Try.func9, Try.ntmps9
    go_wp2_with fail
    exact bodyPost_ret (v := .tuple #[.int .i64 0, .int .i64 5]) (by simp [results, Try.results9, go_sem]) rfl ⟨rfl, (Below.refl _ _).alloc (Nat.le_refl _) _⟩
  go_enter Try.func9, Try.ntmps9
  go_wp2_with fail
  have S0 := Six.new w x.k x.v x.c a x.ks.length cap 27
  have hal : Below w.heap.size w (w.alloc (.cells #[.int .i64 x.k, .int .i64 x.v.1, .int .i64 x.v.2.1, .string x.v.2.2, .int .i64 x.c, .slice a x.ks.length cap] 27)) := (Below.refl _ _).alloc (Nat.le_refl _) _
  have z0 : w.heap.size < (w.alloc (.cells #[.int .i64 x.k, .int .i64 x.v.1, .int .i64 x.v.2.1, .string x.v.2.2, .int .i64 x.c, .slice a x.ks.length cap] 27)).heap.size := by simp
  generalize w.alloc (.cells #[.int .i64 x.k, .int .i64 x.v.1, .int .i64 x.v.2.1, .string x.v.2.2, .int .i64 x.c, .slice a x.ks.length cap] 27) = w0 at *
  go_loopw [14] (fun i wr => ∃ j : Nat, j ≤ cols.length ∧ i = .int .i64 j ∧ Hid (colsB cols = colsB (cols.drop j)) ∧ wr = w0) (fun i _ => cols.length - (intOf i).toNat)
  case atStart => exact ⟨0, Nat.zero_le _, rfl, rfl, rfl⟩
  case round =>
    obtain ⟨j, hj, rfl, HE, rfl⟩ := hrel
    by_cases hlt : j < cols.length
    · obtain ⟨b, off, rfl, hbl, c⟩ := (hc.next hal (Nat.le_refl _)).elem hlt
      by_cases g1 : cols[j] < 1
      · have er : r = (0, 1) := by
          rw [← HR.out, typeTop, if_neg h16, HE.out, colsB_no cols j hlt (.inl g1), if_pos rfl]
        subst er
        clear HR HE
        go_wp2_with fail
        exact bodyPost_ret (v := .tuple #[.int .i64 0, .int .i64 1]) (by simp [results, Try.results9, go_sem]) rfl ⟨rfl, hal⟩
      by_cases g2 : 4 < cols[j]
      · have er : r = (0, 1) := by
          rw [← HR.out, typeTop, if_neg h16, HE.out, colsB_no cols j hlt (.inr g2), if_pos rfl]
        subst er
        clear HR HE
        go_wp2_with fail
        exact bodyPost_ret (v := .tuple #[.int .i64 0, .int .i64 1]) (by simp [results, Try.results9, go_sem]) rfl ⟨rfl, hal⟩
      have HC : Hid (colsB (cols.drop j) = colsB (cols.drop (j + 1))) := colsB_next cols j hlt g1 g2
      go_wp2_with fail
      go_roundw
      case rel => exact ⟨j + 1, by omega, by go_num, HE.out.trans HC.out, trivial⟩
      case measure => simp [intOf]; omega
    · have hcb : colsB cols = true := by rw [HE.out, colsB_end cols j (by omega)]
      have er : r = ((typeX cols x 0 1).1, (typeX cols x 0 1).2.1) := by rw [← HR.out, typeTop_of (by omega) hcb]
      have T0 : TyAt (wr.alloc (.cells #[.slice ca cols.length ccap, .int .i64 0] 48)) wr.heap.size ca cols.length ccap 0 := ⟨by simp, by simp, by simp, by simp⟩
      have hal2 : Below wr.heap.size wr (wr.alloc (.cells #[.slice ca cols.length ccap, .int .i64 0] 48)) := (Below.refl _ _).alloc (Nat.le_refl _) _
      have con := typeOf_any cols x w.heap.size wr.heap.size ca ccap a cap 0 1 _ (KsAt.next (chain hal hal2) (Nat.le_refl _) hk) (hc.next (chain hal hal2) (Nat.le_refl _)) hal.size T0 (by omega) (by omega) (by omega) (by omega)
      generalize typeX cols x 0 1 = ty at *
      subst er
      clear HR HE hcb
      obtain ⟨s0, s1, s2, s3, s4, s5⟩ := S0
      simp only [Nat.zero_add] at s1 s2 s3 s4 s5
      go_wp2_with fail
      refine con.mono ?_
      rintro e w5 ⟨rfl, hX, _⟩
      have hb5 := (chain hal hal2).trans (hX.below hal.size)
      clear con s0 s1 s2 s3 s4 s5 hX T0 hal2
      go_wp2_with fail
      exact bodyPost_ret (v := .tuple #[.int .i64 ty.1, .int .i64 ty.2.1]) (by simp [results, Try.results9, go_sem]) rfl ⟨rfl, hb5⟩
end Go.Proofs.Ytbdhmjojamoafaa
