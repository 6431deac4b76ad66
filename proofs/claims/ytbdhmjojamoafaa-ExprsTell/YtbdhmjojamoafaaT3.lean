/- The walk of the document's TypeOf. -/
import Derived.Test.YtbdhmjojamoafaaT2
import Derived.Test.YtbdhmjojamoafaaY6
namespace Go.Proofs.Ytbdhmjojamoafaa
open Go.RowKit

set_option maxHeartbeats 2000000 in
theorem refType_at (cols : List Int) (x : Ex) (ca : Option Addr) (ccap : Nat) (a : Option Addr) (cap : Nat) (w : World) (hk : KsAt w.heap.size w a x.ks) (hc : IsAt w.heap.size w ca cols) :
    Calls Try.prog 10 #[.slice ca cols.length ccap, exV x.k x.v x.c a x.ks.length cap] w fun e w' => e = .returned (.tuple #[.int .i64 (typeTop cols x).1, .int .i64 (typeTop cols x).2]) ∧ Below w.heap.size w w' := by
  have hl := hc.1
  unfold maxLen at hl
  generalize hr : typeTop cols x = r
  have HR : Hid (typeTop cols x = r) := hr
  clear hr
  by_cases h16 : 16 < cols.length
  · have er : r = (0, 5) := by rw [← HR.out, typeTop, if_pos h16]
    subst er
    clear HR
    go_enter Try.func10, Try.ntmps10
    go_wp2_with fail
    exact bodyPost_ret (v := .tuple #[.int .i64 0, .int .i64 5]) (by simp [results, Try.results10, go_sem]) rfl ⟨rfl, (Below.refl _ _).alloc (Nat.le_refl _) _⟩
  go_enter Try.func10, Try.ntmps10
  go_wp2_with fail
  have S0 := Six.new w x.k x.v x.c a x.ks.length cap 27
  have hal : Below w.heap.size w (w.alloc (.cells #[.int .i64 x.k, .int .i64 x.v.1, .int .i64 x.v.2.1, .string x.v.2.2, .int .i64 x.c, .slice a x.ks.length cap] 27)) := (Below.refl _ _).alloc (Nat.le_refl _) _
  have z0 : w.heap.size < (w.alloc (.cells #[.int .i64 x.k, .int .i64 x.v.1, .int .i64 x.v.2.1, .string x.v.2.2, .int .i64 x.c, .slice a x.ks.length cap] 27)).heap.size := by simp
  generalize w.alloc (.cells #[.int .i64 x.k, .int .i64 x.v.1, .int .i64 x.v.2.1, .string x.v.2.2, .int .i64 x.c, .slice a x.ks.length cap] 27) = w0 at *
  go_loopw [16] (fun i wr => ∃ j : Nat, j ≤ cols.length ∧ i = .int .i64 j ∧ Hid (colsB cols = colsB (cols.drop j)) ∧ wr = w0) (fun i _ => cols.length - (intOf i).toNat)
  case atStart => exact ⟨0, Nat.zero_le _, rfl, rfl, rfl⟩
  case round =>
    obtain ⟨j, hj, rfl, HE, rfl⟩ := hrel
    by_cases hlt : j < cols.length
    · obtain ⟨b, off, rfl, hbl, c⟩ := (hc.next hal (Nat.le_refl _)).elem hlt
      by_cases g1 : cols[j] < 1
      · have er : r = (0, 1) := by
          rw [← HR.out, typeTop, if_neg h16, HE.out, colsB_no cols j hlt (.inl g1), if_pos rfl]
        subst er
        clear HR HE
        go_wp2_with fail
        exact bodyPost_ret (v := .tuple #[.int .i64 0, .int .i64 1]) (by simp [results, Try.results10, go_sem]) rfl ⟨rfl, hal⟩
      by_cases g2 : 4 < cols[j]
      · have er : r = (0, 1) := by
          rw [← HR.out, typeTop, if_neg h16, HE.out, colsB_no cols j hlt (.inr g2), if_pos rfl]
        subst er
        clear HR HE
        go_wp2_with fail
        exact bodyPost_ret (v := .tuple #[.int .i64 0, .int .i64 1]) (by simp [results, Try.results10, go_sem]) rfl ⟨rfl, hal⟩
      have HC : Hid (colsB (cols.drop j) = colsB (cols.drop (j + 1))) := colsB_next cols j hlt g1 g2
      go_wp2_with fail
      go_roundw
      case rel => exact ⟨j + 1, by omega, by go_num, HE.out.trans HC.out, trivial⟩
      case measure => simp [intOf]; omega
    · have hcb : colsB cols = true := by rw [HE.out, colsB_end cols j (by omega)]
      have er : r = ((typeX cols x 0 1).1, (typeX cols x 0 1).2.1) := by rw [← HR.out, typeTop_of (by omega) hcb]
      have HI : Hid ((typeX cols x 0 1).2.1 = 0 → inT (typeX cols x 0 1).1) := fun h =>
        typP_in (colsB_at hcb) x _ ((typeX_ok cols x 0 1 (typeX cols x 0 1).1 (typeX cols x 0 1).2.2).1 (Prod.ext rfl (Prod.ext h rfl))).1
      have HZ : Hid (¬ (typeX cols x 0 1).2.1 = 0 → (typeX cols x 0 1).1 = 0) := typeX_zero cols x 0 1
      have T0 : TyAt (wr.alloc (.cells #[.slice ca cols.length ccap, .int .i64 0] 53)) wr.heap.size ca cols.length ccap 0 := ⟨by simp, by simp, by simp, by simp⟩
      have hal2 : Below wr.heap.size wr (wr.alloc (.cells #[.slice ca cols.length ccap, .int .i64 0] 53)) := (Below.refl _ _).alloc (Nat.le_refl _) _
      have con := typeL_any hcb x w.heap.size wr.heap.size ca ccap a cap 0 1 _ (KsAt.next (chain hal hal2) (Nat.le_refl _) hk) (hc.next (chain hal hal2) (Nat.le_refl _)) hal.size T0 (by omega) (by omega) (by omega) (by omega)
      generalize typeX cols x 0 1 = ty at *
      subst er
      clear HR HE hcb
      obtain ⟨s0, s1, s2, s3, s4, s5⟩ := S0
      simp only [Nat.zero_add] at s1 s2 s3 s4 s5
      obtain ⟨t1, t2, t3⟩ := ty
      go_wp2_with fail
      refine con.mono ?_
      rintro e w5 ⟨rfl, hX, _⟩
      have hb5 := (chain hal hal2).trans (hX.below hal.size)
      clear con s0 s1 s2 s3 s4 s5 hX T0 hal2
      by_cases he : t2 = 0
      · subst he
        have hin : inT t1 := HI.out rfl
        have el : lv (t1, 0, t3) = ltr t1 := rfl
        rw [el]
        clear HI HZ el
        obtain ⟨n, rfl⟩ : ∃ n : Nat, t1 = n := ⟨t1.toNat, by unfold inT at hin; omega⟩
        have hn : 1 ≤ n ∧ n ≤ 4 := by unfold inT at hin; omega
        have HIn : Hid (inT (n : Int)) := hin
        clear hin
        go_wp2_with fail
        go_loopw [10] (fun i wr => ∃ j : Nat, 1 ≤ j ∧ j ≤ n ∧ i = .int .i64 j ∧ Below w.heap.size w wr) (fun i _ => n - (intOf i).toNat)
        case atStart => exact ⟨1, by omega, by omega, rfl, hb5⟩
        case round =>
          obtain ⟨j, hj1, hjn, rfl, hb⟩ := hrel
          have HJ : Hid (inT (j : Int)) := by show inT _; unfold inT; omega
          by_cases e : j = n
          · subst e
            go_wp2_with fail
            refine (letter_at (j : Int) _ HJ.out).mono ?_
            rintro e w7 ⟨rfl, hb7⟩
            have hb7' := chain hb hb7
            go_wp2_with fail
            exact bodyPost_ret (v := .tuple #[.int .i64 j, .int .i64 0]) (by simp [results, Try.results10, go_sem]) rfl ⟨rfl, hb7'⟩
          · have hne : (ltr (j : Int) == ltr (n : Int)) = false := by
              have : ¬ ltr (j : Int) = ltr (n : Int) := fun q => e (by have := ltr_inj HJ.out HIn.out q; omega)
              simpa using this
            go_wp2_with fail
            refine (letter_at (j : Int) _ HJ.out).mono ?_
            rintro e w7 ⟨rfl, hb7⟩
            have hb7' := chain hb hb7
            go_wp2_with fail
            go_roundw
            case rel => exact ⟨j + 1, by omega, by omega, by go_num, hb7'⟩
            case measure => simp [intOf]; omega
      · have ez : t1 = 0 := HZ.out he
        subst ez
        have q' : (t2 != 0) = true := by simpa using he
        clear HI HZ
        go_wp2_with fail
        exact bodyPost_ret (v := .tuple #[.int .i64 0, .int .i64 t2]) (by simp [results, Try.results10, go_sem]) rfl ⟨rfl, hb5⟩
end Go.Proofs.Ytbdhmjojamoafaa
