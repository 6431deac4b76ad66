/- The walk of the document's Eval. -/
import Derived.Test.YtbdhmjojamoafaaT3
import Derived.Test.YtbdhmjojamoafaaT4
import Derived.Test.YtbdhmjojamoafaaT8
namespace Go.Proofs.Ytbdhmjojamoafaa
open Go.RowKit

set_option maxHeartbeats 1000000 in
theorem refEval_at (cols : List Int) (x : Ex) (row : List Vl) (ca : Option Addr) (ccap : Nat) (a : Option Addr) (cap : Nat) (ra : Option Addr) (rcap : Nat) (w : World)
    (hc : IsAt w.heap.size w ca cols) (hk : KsAt w.heap.size w a x.ks) (hs : SlAt w ra row) :
    Calls Try.prog 14 #[.slice ca cols.length ccap, exV x.k x.v x.c a x.ks.length cap, .slice ra row.length rcap] w fun e w' => e = .returned (.tuple #[agV (evalX cols x row).1, .int .i64 (evalX cols x row).2]) ∧ Below w.heap.size w w' := by
  generalize hr : evalX cols x row = r
  have HR : Hid (evalX cols x row = r) := hr
  clear hr
  go_enter Try.func14, Try.ntmps14
  go_wp2_with fail
  have S0 := Six.new w x.k x.v x.c a x.ks.length cap 27
  have h1 : Below w.heap.size w (w.alloc (.cells #[.int .i64 x.k, .int .i64 x.v.1, .int .i64 x.v.2.1, .string x.v.2.2, .int .i64 x.c, .slice a x.ks.length cap] 27)) := (Below.refl _ _).alloc (Nat.le_refl _) _
  have z1 : (w.alloc (.cells #[.int .i64 x.k, .int .i64 x.v.1, .int .i64 x.v.2.1, .string x.v.2.2, .int .i64 x.c, .slice a x.ks.length cap] 27)).heap.size = w.heap.size + 1 := by simp
  generalize w.alloc (.cells #[.int .i64 x.k, .int .i64 x.v.1, .int .i64 x.v.2.1, .string x.v.2.2, .int .i64 x.c, .slice a x.ks.length cap] 27) = w1 at *
  have h2 : Below w1.heap.size w1 (w1.alloc (.cells #[.int .i64 0, .int .i64 0, .string ⟨#[]⟩] 24)) := (Below.refl _ _).alloc (Nat.le_refl _) _
  have R := Box.new w1 (.int .i64 0) (.int .i64 0) (.string ⟨#[]⟩) 24
  have z2 : (w1.alloc (.cells #[.int .i64 0, .int .i64 0, .string ⟨#[]⟩] 24)).heap.size = w1.heap.size + 1 := by simp
  have S := S0.next h2 (by omega)
  rw [z1] at R
  generalize w1.alloc (.cells #[.int .i64 0, .int .i64 0, .string ⟨#[]⟩] 24) = w2 at *
  have hA := chain h1 h2
  clear S0 h1 h2
  refine (refType_at cols x ca ccap a cap w2 ((KsAt.next hA (Nat.le_refl _) hk).up hA.size) ((hc.next hA (Nat.le_refl _)).up hA.size)).mono ?_
  rintro e w3 ⟨rfl, hb⟩
  have hA := chain hA hb
  have R := R.next hb
  have S := S.next hb (by omega)
  have z3 := hb.size
  clear hb
  generalize ht : typeTop cols x = ty
  have HT : Hid (typeTop cols x = ty) := ht
  clear ht
  obtain ⟨t1, t2⟩ := ty
  by_cases h0 : t2 = 0
  · subst h0
    obtain ⟨s0, s1, s2, s3, s4, s5⟩ := S
    simp only [Nat.zero_add] at s1 s2 s3 s4 s5
    go_wp2_with fail
    refine (refFits_at cols row ca ccap ra rcap w3 ((hc.next hA (Nat.le_refl _)).up hA.size) (hs.next hA)).mono ?_
    rintro e w4 ⟨rfl, hb⟩
    have hA := chain hA hb
    have R := R.next hb
    have S : Six w3 w.heap.size 0 x.k x.v x.c a x.ks.length cap := ⟨s0, s1, s2, s3, s4, s5⟩
    have S := S.next hb (by omega)
    have z4 := hb.size
    clear hb s0 s1 s2 s3 s4 s5
    by_cases hf : fitsL cols row = 0
    · have er : r = (valX row x, 0) := by
        rw [← HR.out, evalX, HT.out, hf]
        simp
      have con := of_any ((fitsL_ok _ _).1 hf) x t1 (by have := (typeTop_ok cols x).1 (by rw [HT.out]); rw [HT.out] at this; exact this.ty) w.heap.size a cap ra rcap w4 (KsAt.next hA (Nat.le_refl _) hk) hA.size (hs.next hA)
      generalize valX row x = q at *
      subst er
      rw [hf]
      clear hf HT HR
      obtain ⟨s0, s1, s2, s3, s4, s5⟩ := S
      simp only [Nat.zero_add] at s1 s2 s3 s4 s5
      go_wp2_with fail
      refine con.mono ?_
      rintro e w5 ⟨rfl, hb⟩
      have hA := chain hA hb
      have ⟨b0, b1, b2, b3, b4, b5, b6⟩ := R.next hb
      clear hb s0 s1 s2 s3 s4 s5 con
      go_wp2_with fail
      exact bodyPost_ret (v := .tuple #[agV q, .int .i64 0]) (by simp [results, Try.results14, go_sem, b1, b2, b3]) rfl ⟨rfl, below_set3 hA (by omega)⟩
    · have er : r = (vl0, fitsL cols row) := by
        rw [← HR.out, evalX, HT.out, if_neg (by simp), if_pos hf]
      subst er
      have q : (fitsL cols row != 0) = true := by simpa using hf
      have ⟨b0, b1, b2, b3, b4, b5, b6⟩ := R
      clear HR HT S
      go_wp2_with fail
      exact bodyPost_ret (v := .tuple #[.agg #[.int .i64 0, .int .i64 0, .string ⟨#[]⟩], .int .i64 (fitsL cols row)]) (by simp [results, Try.results14, go_sem, b1, b2, b3]) rfl ⟨rfl, by first | exact hA | exact below_set3 hA (by omega)⟩
  · have er : r = (vl0, t2) := by
      rw [← HR.out, evalX, HT.out, if_pos h0]
    subst er
    have q : (t2 != 0) = true := by simpa using h0
    have ⟨b0, b1, b2, b3, b4, b5, b6⟩ := R
    clear HR HT S
    go_wp2_with fail
    exact bodyPost_ret (v := .tuple #[.agg #[.int .i64 0, .int .i64 0, .string ⟨#[]⟩], .int .i64 t2]) (by simp [results, Try.results14, go_sem, b1, b2, b3]) rfl ⟨rfl, by first | exact hA | exact below_set3 hA (by omega)⟩
end Go.Proofs.Ytbdhmjojamoafaa
