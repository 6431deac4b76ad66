/- The walk of tidelaw8.StreamsUndo. -/
import Derived.Test.YtibobmkelmalkaaST6
namespace Go.Proofs.Ytibobmkelmalkaa
open Go.RowKit Go.Lib Go.Shelf

set_option maxRecDepth 100000 in
set_option maxHeartbeats 4000000 in
theorem streamsUndo_walk (a : Option Addr) (cap : Nat) (l : List (List Zp)) (w : World) (hD : DtAt w a l) :
    Calls Try.prog 4 #[.slice a l.length cap] w fun e w' => e = .returned (.bool true) ∧ Below w.heap.size w w' := by
  have con := alive8_at w
  go_enter Try.func4, Try.ntmps4
  go_wp2_with fail
  refine con.mono ?_
  rintro e w1 ⟨rfl, hb1⟩
  clear con
  have DA := hD.next hb1
  have HAA := hb1
  clear hD hb1
  dsimp only
  have con := integrate_at l a cap w1 DA
  generalize hF : alongF l (intE l) = F at con
  have HF : Hid (alongF l (intE l) = F) := hF
  clear hF
  obtain ⟨f1, f2⟩ := F
  go_wp2_with fail
  refine con.mono ?_
  rintro e w3 ⟨v3, rfl, O3, hb3⟩
  obtain ⟨a3, c3, rfl, D3, _⟩ := O3.dt
  clear con O3
  have al3 : Below w3.heap.size w3 (w3.alloc (.cells #[.int .i64 f1, .int .i64 f2] 27)) := (Below.refl _ _).alloc (Nat.le_refl _) _
  have q3 := heap_new w3 #[.int .i64 f1, .int .i64 f2] 27
  replace D3 := D3.next al3
  have B3 := chain hb3 al3
  have DB := DA.next B3
  have HBB := chain HAA B3
  clear hb3 al3
  go_upto_region 4 with fail
  generalize w3.alloc (.cells #[.int .i64 f1, .int .i64 f2] 27) = w4 at *
  have x3 := cell_of (i := 0) q3 rfl
  clear q3
  by_cases h1 : f1 = 0
  · subst h1
    have h0 : (alongF l (intE l)).1 = 0 := by rw [HF.out]
    obtain ⟨l30, u1, u2⟩ := undo1 h0
    have HU1 : Hid _ := u1
    have HU2 : Hid _ := u2
    clear u1 u2 h0
    have con := differentiate_at _ a3 c3 w4 D3
    rw [HU2.out, (along_ok HU1.out).2.2.2.1] at con
    clear HU1 HU2 HF
    generalize alongZ l (intE l) (fun k => intS l (k + 1)) = zi at *
    go_wp2_with fail
    refine con.mono ?_
    rintro e w5 ⟨v5, rfl, O5, hb5⟩
    obtain ⟨a5, c5, rfl, D5, _⟩ := O5.dt
    clear con O5
    have al5 : Below w5.heap.size w5 (w5.alloc (.cells #[.int .i64 0, .int .i64 0] 27)) := (Below.refl _ _).alloc (Nat.le_refl _) _
    have q5 := heap_new w5 #[.int .i64 0, .int .i64 0] 27
    replace D5 := D5.next al5
    have B5 := chain hb5 al5
    have DC := DB.next B5
    have HCC := chain HBB B5
    clear hb5 al5 B5 DB HBB D3
    go_upto_region 6 with fail
    generalize w5.alloc (.cells #[.int .i64 0, .int .i64 0] 27) = w6 at *
    have x5 := cell_of (i := 0) q5 rfl
    clear q5
    have con := bare8_at l a cap w6 DC l30
    have hbl : (bareZ l).length = l.length := by simp [bareZ]
    have HBL : Hid ((bareZ l).length = l.length) := hbl
    clear hbl
    generalize bareZ l = bz at *
    go_wp2_with fail
    refine con.mono ?_
    rintro e w7 ⟨v7, rfl, O7, hb7⟩
    obtain ⟨a7, c7, rfl, D7, _⟩ := O7.dt
    replace DC := DC.next hb7
    replace D5 := D5.next hb7
    replace HCC := chain HCC hb7
    clear con O7 hb7
    have con := sameL_at bz a5 a7 c5 c7 w7 D5.w D7.w (by have := HBL.out; omega)
    go_wp2_with fail
    refine con.mono ?_
    rintro e w8 ⟨rfl, hb8⟩
    replace DC := DC.next hb8
    replace HCC := chain HCC hb8
    clear con hb8 D5 D7
    have DA := DC
    have HAA := HCC
    clear DC HCC x3 x5
    have con := differentiate_at l a cap w8 DA
    generalize hF : alongF l (difE l) = F at con
    have HF : Hid (alongF l (difE l) = F) := hF
    clear hF
    obtain ⟨f1, f2⟩ := F
    go_wp2_with fail
    refine con.mono ?_
    rintro e w13 ⟨v3, rfl, O3, hb3⟩
    obtain ⟨a3, c3, rfl, D3, _⟩ := O3.dt
    clear con O3
    have al3 : Below w13.heap.size w13 (w13.alloc (.cells #[.int .i64 f1, .int .i64 f2] 27)) := (Below.refl _ _).alloc (Nat.le_refl _) _
    have q3 := heap_new w13 #[.int .i64 f1, .int .i64 f2] 27
    replace D3 := D3.next al3
    have B3 := chain hb3 al3
    have DB := DA.next B3
    have HBB := chain HAA B3
    clear hb3 al3
    go_upto_region 9 with fail
    generalize w13.alloc (.cells #[.int .i64 f1, .int .i64 f2] 27) = w14 at *
    have x3 := cell_of (i := 0) q3 rfl
    clear q3
    by_cases h1 : f1 = 0
    · subst h1
      have h0 : (alongF l (difE l)).1 = 0 := by rw [HF.out]
      obtain ⟨l30, u1, u2⟩ := undo2 h0
      have HU1 : Hid _ := u1
      have HU2 : Hid _ := u2
      clear u1 u2 h0
      have con := integrate_at _ a3 c3 w14 D3
      rw [HU2.out, (along_ok HU1.out).2.2.2.1] at con
      clear HU1 HU2 HF
      generalize alongZ l (difE l) (difS l) = zi at *
      go_wp2_with fail
      refine con.mono ?_
      rintro e w15 ⟨v5, rfl, O5, hb5⟩
      obtain ⟨a5, c5, rfl, D5, _⟩ := O5.dt
      clear con O5
      have al5 : Below w15.heap.size w15 (w15.alloc (.cells #[.int .i64 0, .int .i64 0] 27)) := (Below.refl _ _).alloc (Nat.le_refl _) _
      have q5 := heap_new w15 #[.int .i64 0, .int .i64 0] 27
      replace D5 := D5.next al5
      have B5 := chain hb5 al5
      have DC := DB.next B5
      have HCC := chain HBB B5
      clear hb5 al5 B5 DB HBB D3
      go_upto_region 11 with fail
      generalize w15.alloc (.cells #[.int .i64 0, .int .i64 0] 27) = w16 at *
      have x5 := cell_of (i := 0) q5 rfl
      clear q5
      have con := bare8_at l a cap w16 DC l30
      have hbl : (bareZ l).length = l.length := by simp [bareZ]
      have HBL : Hid ((bareZ l).length = l.length) := hbl
      clear hbl
      generalize bareZ l = bz at *
      go_wp2_with fail
      refine con.mono ?_
      rintro e w17 ⟨v7, rfl, O7, hb7⟩
      obtain ⟨a7, c7, rfl, D7, _⟩ := O7.dt
      replace DC := DC.next hb7
      replace D5 := D5.next hb7
      replace HCC := chain HCC hb7
      clear con O7 hb7
      have con := sameL_at bz a5 a7 c5 c7 w17 D5.w D7.w (by have := HBL.out; omega)
      go_wp2_with fail
      refine con.mono ?_
      rintro e w18 ⟨rfl, hb8⟩
      replace DC := DC.next hb8
      replace HCC := chain HCC hb8
      clear con hb8 D5 D7
      go_wp2_with fail
      go_ret
      exact ⟨rfl, HCC⟩
    · have h2 : (f1 == 0) = false := by simpa using h1
      go_wp2_with fail
      go_ret
      exact ⟨rfl, HBB⟩
  · have h2 : (f1 == 0) = false := by simpa using h1
    have DA := DB
    have HAA := HBB
    have x2 := x3
    clear DB HBB x3 h1 HF D3 B3
    have con := differentiate_at l a cap w4 DA
    generalize hF : alongF l (difE l) = F at con
    have HF : Hid (alongF l (difE l) = F) := hF
    clear hF
    obtain ⟨f1, f2⟩ := F
    go_wp2_with fail
    refine con.mono ?_
    rintro e w13 ⟨v3, rfl, O3, hb3⟩
    obtain ⟨a3, c3, rfl, D3, _⟩ := O3.dt
    clear con O3
    have al3 : Below w13.heap.size w13 (w13.alloc (.cells #[.int .i64 f1, .int .i64 f2] 27)) := (Below.refl _ _).alloc (Nat.le_refl _) _
    have q3 := heap_new w13 #[.int .i64 f1, .int .i64 f2] 27
    replace D3 := D3.next al3
    have B3 := chain hb3 al3
    have DB := DA.next B3
    have HBB := chain HAA B3
    clear hb3 al3
    go_upto_region 9 with fail
    generalize w13.alloc (.cells #[.int .i64 f1, .int .i64 f2] 27) = w14 at *
    have x3 := cell_of (i := 0) q3 rfl
    clear q3
    by_cases h1 : f1 = 0
    · subst h1
      have h0 : (alongF l (difE l)).1 = 0 := by rw [HF.out]
      obtain ⟨l30, u1, u2⟩ := undo2 h0
      have HU1 : Hid _ := u1
      have HU2 : Hid _ := u2
      clear u1 u2 h0
      have con := integrate_at _ a3 c3 w14 D3
      rw [HU2.out, (along_ok HU1.out).2.2.2.1] at con
      clear HU1 HU2 HF
      generalize alongZ l (difE l) (difS l) = zi at *
      go_wp2_with fail
      refine con.mono ?_
      rintro e w15 ⟨v5, rfl, O5, hb5⟩
      obtain ⟨a5, c5, rfl, D5, _⟩ := O5.dt
      clear con O5
      have al5 : Below w15.heap.size w15 (w15.alloc (.cells #[.int .i64 0, .int .i64 0] 27)) := (Below.refl _ _).alloc (Nat.le_refl _) _
      have q5 := heap_new w15 #[.int .i64 0, .int .i64 0] 27
      replace D5 := D5.next al5
      have B5 := chain hb5 al5
      have DC := DB.next B5
      have HCC := chain HBB B5
      clear hb5 al5 B5 DB HBB D3
      go_upto_region 11 with fail
      generalize w15.alloc (.cells #[.int .i64 0, .int .i64 0] 27) = w16 at *
      have x5 := cell_of (i := 0) q5 rfl
      clear q5
      have con := bare8_at l a cap w16 DC l30
      have hbl : (bareZ l).length = l.length := by simp [bareZ]
      have HBL : Hid ((bareZ l).length = l.length) := hbl
      clear hbl
      generalize bareZ l = bz at *
      go_wp2_with fail
      refine con.mono ?_
      rintro e w17 ⟨v7, rfl, O7, hb7⟩
      obtain ⟨a7, c7, rfl, D7, _⟩ := O7.dt
      replace DC := DC.next hb7
      replace D5 := D5.next hb7
      replace HCC := chain HCC hb7
      clear con O7 hb7
      have con := sameL_at bz a5 a7 c5 c7 w17 D5.w D7.w (by have := HBL.out; omega)
      go_wp2_with fail
      refine con.mono ?_
      rintro e w18 ⟨rfl, hb8⟩
      replace DC := DC.next hb8
      replace HCC := chain HCC hb8
      clear con hb8 D5 D7
      go_wp2_with fail
      go_ret
      exact ⟨rfl, HCC⟩
    · have h2 : (f1 == 0) = false := by simpa using h1
      go_wp2_with fail
      go_ret
      exact ⟨rfl, HBB⟩
end Go.Proofs.Ytibobmkelmalkaa
