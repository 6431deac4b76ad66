/- Ready; Eval. -/
import Derived.Test.YtbdhmjojamoafaaK3
import Derived.Test.YtbdhmjojamoafaaY6
import Derived.Test.YtbdhmjojamoafaaY7
import Derived.Shelf.Abstract
import Derived.Deep.Cut
namespace Go.Proofs.Ytbdhmjojamoafaa
open Go.RowKit

set_option maxHeartbeats 1000000 in
theorem readyOk_at (cols : List Int) (x : Ex) (ca : Option Addr) (ccap : Nat) (a : Option Addr) (cap : Nat) (w : World) (hk : KsAt w.heap.size w a x.ks) (hc : IsAt w.heap.size w ca cols) (h0 : (typeTop cols x).2 = 0) :
    Calls Try.prog 27 #[.slice ca cols.length ccap, exV x.k x.v x.c a x.ks.length cap] w fun e w' => ∃ u, e = .returned (.tuple #[.int .i64 (typeTop cols x).1, u, .int .i64 0]) ∧ Asks cols w.heap.size u (fun row => valX row x) w' ∧ Below w.heap.size w w' := by
  have S0 := Six.new w x.k x.v x.c a x.ks.length cap 27
  have hal : Below w.heap.size w (w.alloc (.cells #[.int .i64 x.k, .int .i64 x.v.1, .int .i64 x.v.2.1, .string x.v.2.2, .int .i64 x.c, .slice a x.ks.length cap] 27)) := (Below.refl _ _).alloc (Nat.le_refl _) _
  have z1 : (w.alloc (.cells #[.int .i64 x.k, .int .i64 x.v.1, .int .i64 x.v.2.1, .string x.v.2.2, .int .i64 x.c, .slice a x.ks.length cap] 27)).heap.size = w.heap.size + 1 := by simp
  have con := type_at cols x ca ccap a cap _ ((KsAt.next hal (Nat.le_refl _) hk).up hal.size) ((hc.next hal (Nat.le_refl _)).up hal.size)
  have ra := ready_any cols x _ ((typeTop_ok cols x).1 h0).ty
  rw [h0] at con
  generalize (typeTop cols x).1 = t at *
  go_enter Try.func27, Try.ntmps27
  go_wp2_with fail
  generalize w.alloc (.cells #[.int .i64 x.k, .int .i64 x.v.1, .int .i64 x.v.2.1, .string x.v.2.2, .int .i64 x.c, .slice a x.ks.length cap] 27) = w1 at *
  refine con.mono ?_
  rintro e w2 ⟨rfl, hb2⟩
  have hA := chain hal hb2
  obtain ⟨s0, s1, s2, s3, s4, s5⟩ := S0.next hb2 (by omega)
  simp only [Nat.zero_add] at s1 s2 s3 s4 s5
  have con2 := ra w.heap.size a cap w2 (KsAt.next hA (Nat.le_refl _) hk) hA.size
  clear con ra S0
  go_wp2_with fail
  refine con2.mono ?_
  rintro e w3 ⟨u, rfl, hA3, hb3⟩
  clear s0 s1 s2 s3 s4 s5 con2
  obtain ⟨g, cb, rfl⟩ : ∃ g cb, u = .func (.func g) #[] cb := by obtain ⟨g, cb, e, _⟩ := hA3; exact ⟨g, cb, e⟩
  go_wp2_with fail
  exact bodyPost_ret (v := .tuple #[.int .i64 t, .func (.func g) #[] cb, .int .i64 0]) (by simp [results, Try.results27, go_sem]) rfl ⟨_, rfl, hA3.down hA.size, chain hA hb3⟩

set_option maxHeartbeats 1000000 in
theorem readyBad_at (cols : List Int) (x : Ex) (ca : Option Addr) (ccap : Nat) (a : Option Addr) (cap : Nat) (w : World) (hk : KsAt w.heap.size w a x.ks) (hc : IsAt w.heap.size w ca cols) (h0 : ¬ (typeTop cols x).2 = 0) :
    Calls Try.prog 27 #[.slice ca cols.length ccap, exV x.k x.v x.c a x.ks.length cap] w fun e w' => e = .returned (.tuple #[.int .i64 0, .nilFunc, .int .i64 (typeTop cols x).2]) ∧ Below w.heap.size w w' := by
  have hal : Below w.heap.size w (w.alloc (.cells #[.int .i64 x.k, .int .i64 x.v.1, .int .i64 x.v.2.1, .string x.v.2.2, .int .i64 x.c, .slice a x.ks.length cap] 27)) := (Below.refl _ _).alloc (Nat.le_refl _) _
  have con := type_at cols x ca ccap a cap _ ((KsAt.next hal (Nat.le_refl _) hk).up hal.size) ((hc.next hal (Nat.le_refl _)).up hal.size)
  have q : ((typeTop cols x).2 != 0) = true := by simpa using h0
  generalize (typeTop cols x).1 = t at *
  generalize (typeTop cols x).2 = t2 at *
  go_enter Try.func27, Try.ntmps27
  go_wp2_with fail
  generalize w.alloc (.cells #[.int .i64 x.k, .int .i64 x.v.1, .int .i64 x.v.2.1, .string x.v.2.2, .int .i64 x.c, .slice a x.ks.length cap] 27) = w1 at *
  refine con.mono ?_
  rintro e w2 ⟨rfl, hb2⟩
  have hA := chain hal hb2
  clear con
  go_wp2_with fail
  exact bodyPost_ret (v := .tuple #[.int .i64 0, .nilFunc, .int .i64 t2]) (by simp [results, Try.results27, go_sem]) rfl ⟨rfl, hA⟩


set_option maxHeartbeats 2000000 in
theorem eval_at (cols : List Int) (x : Ex) (row : List Vl) (ca : Option Addr) (ccap : Nat) (a : Option Addr) (cap : Nat) (ra : Option Addr) (rcap : Nat) (w : World)
    (hc : IsAt w.heap.size w ca cols) (hk : KsAt w.heap.size w a x.ks) (hs : SlAt w ra row) :
    Calls Try.prog 13 #[.slice ca cols.length ccap, exV x.k x.v x.c a x.ks.length cap, .slice ra row.length rcap] w fun e w' => e = .returned (.tuple #[agV (evalX cols x row).1, .int .i64 (evalX cols x row).2]) ∧ Below w.heap.size w w' := by
  generalize hr : evalX cols x row = r
  have HR : Hid (evalX cols x row = r) := hr
  clear hr
  have h1 : Below w.heap.size w (w.alloc (.cells #[.int .i64 x.k, .int .i64 x.v.1, .int .i64 x.v.2.1, .string x.v.2.2, .int .i64 x.c, .slice a x.ks.length cap] 27)) := (Below.refl _ _).alloc (Nat.le_refl _) _
  have S0 := Six.new w x.k x.v x.c a x.ks.length cap 27
  have z1 : (w.alloc (.cells #[.int .i64 x.k, .int .i64 x.v.1, .int .i64 x.v.2.1, .string x.v.2.2, .int .i64 x.c, .slice a x.ks.length cap] 27)).heap.size = w.heap.size + 1 := by simp
  go_enter Try.func13, Try.ntmps13
  go_upto_region 1 with fail
  generalize w.alloc (.cells #[.int .i64 x.k, .int .i64 x.v.1, .int .i64 x.v.2.1, .string x.v.2.2, .int .i64 x.c, .slice a x.ks.length cap] 27) = w1 at *
  have h2 : Below w1.heap.size w1 (w1.alloc (.cells #[.int .i64 0, .int .i64 0, .string ⟨#[]⟩] 24)) := (Below.refl _ _).alloc (Nat.le_refl _) _
  have R := Box.new w1 (.int .i64 0) (.int .i64 0) (.string ⟨#[]⟩) 24
  have z2 : (w1.alloc (.cells #[.int .i64 0, .int .i64 0, .string ⟨#[]⟩] 24)).heap.size = w1.heap.size + 1 := by simp
  have S := S0.next h2 (by omega)
  rw [z1] at R
  generalize w1.alloc (.cells #[.int .i64 0, .int .i64 0, .string ⟨#[]⟩] 24) = w2 at *
  have hA := chain h1 h2
  clear S0 h1 h2
  have hk2 := (KsAt.next hA (Nat.le_refl _) hk).up hA.size
  have hc2 := (hc.next hA (Nat.le_refl _)).up hA.size
  obtain ⟨s0, s1, s2, s3, s4, s5⟩ := S
  simp only [Nat.zero_add] at s1 s2 s3 s4 s5
  by_cases h0 : (typeTop cols x).2 = 0
  rotate_left
  · have con := readyBad_at cols x ca ccap a cap w2 hk2 hc2 h0
    have er : r = (vl0, (typeTop cols x).2) := by rw [← HR.out, evalX, if_pos h0]
    generalize (typeTop cols x).2 = t2 at *
    have q : (t2 != 0) = true := by simpa using h0
    subst er
    clear HR h0
    go_wp2_with fail
    refine con.mono ?_
    rintro e w3 ⟨rfl, hb⟩
    clear con s0 s1 s2 s3 s4 s5
    have hA := chain hA hb
    have ⟨b0, b1, b2, b3, b4, b5, b6⟩ := R.next hb
    go_wp2_with fail
    exact bodyPost_ret (v := .tuple #[agV vl0, .int .i64 t2]) (by simp [results, Try.results13, go_sem, vl0, agV, b1, b2, b3]) rfl ⟨rfl, below_set3 hA (by omega)⟩
  have con := readyOk_at cols x ca ccap a cap w2 hk2 hc2 h0
  have HT : Hid ((typeTop cols x).2 = 0) := h0
  generalize (typeTop cols x).1 = t1 at *
  clear h0
  go_wp2_with fail
  refine con.mono ?_
  rintro e w3 ⟨u, rfl, hU, hb⟩
  clear con s0 s1 s2 s3 s4 s5
  have hA := chain hA hb
  have R := R.next hb
  have z3 := hb.size
  clear hb
  obtain ⟨g, cb, rfl, eg, hask⟩ := hU
  have con := fits_at cols row ca ccap ra rcap w3 ((hc.next hA (Nat.le_refl _)).up hA.size) (hs.next hA)
  go_wp2_with fail
  refine con.mono ?_
  rintro e w4 ⟨rfl, hb⟩
  clear con
  have hA := chain hA hb
  have R := R.next hb
  have z4 := hb.size
  by_cases hf : fitsL cols row = 0
  · have er : r = (valX row x, 0) := by
      rw [← HR.out, evalX, HT.out, hf]
      simp
    have con := hask row ra rcap w4 ((fitsL_ok _ _).1 hf) (hs.next hA) (Since.of hb)
    generalize valX row x = q at *
    subst er
    rw [hf]
    clear hf HT HR hask hb
    obtain ⟨q1, q2, q3⟩ := q
    have HR4 : Hid (Box w4 (w.heap.size + 1) (.int .i64 0) (.int .i64 0) (.string ⟨#[]⟩)) := R
    clear R
    go_wp2_with (go_at_fn g; refine con.mono ?_; rintro e w5 ⟨rfl, hb⟩; have ⟨b0, b1, b2, b3, b4, b5, b6⟩ := HR4.out.next hb)
    clear con
    have hA := chain hA hb
    exact bodyPost_ret (v := .tuple #[agV (q1, q2, q3), .int .i64 0]) (by simp [results, Try.results13, go_sem, agV, b1, b2, b3]) rfl ⟨rfl, below_set3 hA (by omega)⟩
  · have er : r = (vl0, fitsL cols row) := by
      rw [← HR.out, evalX, HT.out, if_neg (by simp), if_pos hf]
    subst er
    have q : (fitsL cols row != 0) = true := by simpa using hf
    have ⟨b0, b1, b2, b3, b4, b5, b6⟩ := R
    clear HR HT hask hb
    go_wp2_with fail
    exact bodyPost_ret (v := .tuple #[agV vl0, .int .i64 (fitsL cols row)]) (by simp [results, Try.results13, go_sem, vl0, agV, b1, b2, b3]) rfl ⟨rfl, below_set3 hA (by omega)⟩
end Go.Proofs.Ytbdhmjojamoafaa
