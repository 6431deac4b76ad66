/- The walk of tidelaw8.StreamsDelay. -/
import Derived.Test.YtibobmkelmalkaaST6
import Derived.Deep.RegionWith
namespace Go.Proofs.Ytibobmkelmalkaa
open Go.RowKit Go.Lib Go.Shelf

/-- Three streams: the third one is what comes of the first and the second, set by set. -/
def Made (t : Int) (l y x : List (List Zp)) : Prop := y.length = l.length ∧ x.length = l.length ∧ ∀ (k : Nat) (h : k < l.length) (h1 : k < y.length) (h2 : k < x.length), bothE t l[k] y[k] = 0 ∧ bothZ t l[k] y[k] = x[k]
theorem made1 {l : List (List Zp)} (hd : (alongF l (delE l)).1 = 0) (h : (alongF l (difE l)).1 = 0) : Made (-1) l (alongZ l (delE l) (delS l)) (alongZ l (difE l) (difS l)) := by
  rw [(along_ok hd).2.2.2.2, (along_ok h).2.2.2.2]
  refine ⟨by simp, by simp, fun k hk h1 h2 => ?_⟩
  simp only [List.getElem_map, List.getElem_range]
  exact later1 hd h hk
theorem made2 {l : List (List Zp)} (h : (alongF l (intE l)).1 = 0) : Made 1 l (alongZ (alongZ l (intE l) fun k => intS l (k + 1)) (delE (alongZ l (intE l) fun k => intS l (k + 1))) (delS (alongZ l (intE l) fun k => intS l (k + 1)))) (alongZ l (intE l) fun k => intS l (k + 1)) := by
  obtain ⟨e1, e2⟩ := later2 h
  rw [(along_ok e1).2.2.2.2]
  have e5 := (along_ok h).2.2.2.2 (fun k => intS l (k + 1))
  have hl : (alongZ l (intE l) fun k => intS l (k + 1)).length = l.length := by rw [e5]; simp
  refine ⟨by simp [hl], hl, fun k hk h1 h2 => ?_⟩
  have eg : (alongZ l (intE l) fun k => intS l (k + 1))[k] = intS l (k + 1) := by simp only [e5, List.getElem_map, List.getElem_range]
  rw [eg]
  simp only [List.getElem_map, List.getElem_range]
  rw [(e2 k hk).1]
  exact (e2 k hk).2

set_option maxRecDepth 100000 in
set_option maxHeartbeats 8000000 in
theorem streamsDelay_walk (a : Option Addr) (cap : Nat) (l : List (List Zp)) (w : World) (hD : DtAt w a l) :
    Calls Try.prog 5 #[.slice a l.length cap] w fun e w' => e = .returned (.bool true) ∧ Below w.heap.size w w' := by
  have con := alive8_at w
  go_enter Try.func5, Try.ntmps5
  go_wp2_with fail
  refine con.mono ?_
  rintro e w1 ⟨rfl, hA⟩
  clear con
  dsimp only
  have con := delay_at l a cap w1 (hD.next hA)
  generalize hF : alongF l (delE l) = F at con
  have HF : Hid (alongF l (delE l) = F) := hF
  clear hF
  obtain ⟨f1, f2⟩ := F
  go_wp2_with fail
  refine con.mono ?_
  rintro e w3 ⟨v3, rfl, O3, hb3⟩
  have hz3 := hA.size
  have hz3' := hb3.size
  replace hA := chain hA hb3
  clear con hb3
  have al3 : Below w3.heap.size w3 (w3.alloc (.cells #[.int .i64 f1, .int .i64 f2] 27)) := (Below.refl _ _).alloc (Nat.le_refl _) _
  have q3 := heap_new w3 #[.int .i64 f1, .int .i64 f2] 27
  replace O3 := O3.next al3
  replace hA := chain hA al3
  obtain ⟨a3, c3, rfl, _, _⟩ := O3.dt
  clear al3
  go_upto_region 4 with fail
  generalize w3.alloc (.cells #[.int .i64 f1, .int .i64 f2] 27) = w4 at *
  have hB4 : w.heap.size ≤ w3.heap.size := by omega
  generalize w3.heap.size = B4 at *
  have con := differentiate_at l a cap w4 (hD.next hA)
  generalize hG : alongF l (difE l) = G at con
  have HG : Hid (alongF l (difE l) = G) := hG
  clear hG
  obtain ⟨g1, g2⟩ := G
  go_wp2_with fail
  refine con.mono ?_
  rintro e w5 ⟨v5, rfl, O5, hb5⟩
  replace O3 := O3.next hb5
  replace q3 := (hb5.block _ (lt_of_heap q3)).trans q3
  replace hA := chain hA hb5
  clear con hb5
  have al5 : Below w5.heap.size w5 (w5.alloc (.cells #[.int .i64 g1, .int .i64 g2] 27)) := (Below.refl _ _).alloc (Nat.le_refl _) _
  have q5 := heap_new w5 #[.int .i64 g1, .int .i64 g2] 27
  replace O3 := O3.next al5
  replace q3 := (al5.block _ (lt_of_heap q3)).trans q3
  replace O5 := O5.next al5
  replace hA := chain hA al5
  obtain ⟨a5, c5, rfl, _, _⟩ := O5.dt
  clear al5
  go_upto_region 5 with fail
  generalize w5.alloc (.cells #[.int .i64 g1, .int .i64 g2] 27) = w6 at *
  have x3 := cell_of (i := 0) q3 rfl
  have x5 := cell_of (i := 0) q5 rfl
  clear q5 hz3 hz3'
  by_cases h1 : f1 = 0
  · by_cases h2 : g1 = 0
    · subst h1 h2
      have k1 : (alongF l (delE l)).1 = 0 := by rw [HF.out]
      have k2 : (alongF l (difE l)).1 = 0 := by rw [HG.out]
      have MD : Hid (Made (-1) l (alongZ l (delE l) (delS l)) (alongZ l (difE l) (difS l))) := made1 k1 k2
      have l30 := (along_ok k1).1
      clear k1 k2 HF HG
      generalize alongZ l (delE l) (delS l) = ys at *
      generalize alongZ l (difE l) (difS l) = xs at *
      have ly := MD.out.1
      have lx := MD.out.2.1
      have lyz : (ys.length : Int) = l.length := by omega
      have lxz : (xs.length : Int) = l.length := by omega
      have HLY : Hid (ys.length = l.length) := ly
      have HLX : Hid (xs.length = l.length) := lx
      clear ly lx
      go_upto_region 9 with fail
      go_loopw [49] (fun i wr => ∃ k : Nat, k ≤ l.length ∧ i = .int .i64 k ∧ Below w6.heap.size w6 wr) (fun i _ => l.length - (intOf i).toNat)
      case atStart => exact ⟨0, Nat.zero_le _, rfl, Below.refl _ _⟩
      case round =>
        obtain ⟨k, hk, rfl, hb⟩ := hrel
        by_cases hlt : k < l.length
        · have hAk := chain hA hb
          obtain ⟨b, off, ai, ci, e1, hbl, c0, z0, n0⟩ := (hD.next hAk).elem hlt
          obtain ⟨ay', cy', ey, DY, _⟩ := (O3.next hb).dt
          obtain ⟨ax', cx', ex, DX, _⟩ := (O5.next hb).dt
          injection ey with ey1 _ ey2
          injection ex with ex1 _ ex2
          subst ey1 ey2 ex1 ex2
          obtain ⟨b', off', aj, cj, e2, hbl', c1, z1, n1⟩ := DY.elem (i := k) (by rw [HLY.out]; exact hlt)
          obtain ⟨b'', off'', ax, cx, e3, hbl'', c2, z2, n2⟩ := DX.elem (i := k) (by rw [HLX.out]; exact hlt)
          have hkz : (k : Int) < (l.length : Int) := by omega
          have hky : (k : Int) < (ys.length : Int) := by omega
          have hkx : (k : Int) < (xs.length : Int) := by omega
          obtain ⟨m1, m2⟩ := MD.out.2.2 k hlt (by rw [HLY.out]; exact hlt) (by rw [HLX.out]; exact hlt)
          have con : ∀ W, Below wr.heap.size wr W → Calls Try.prog 13 #[.slice ai l[k].length ci, .slice aj (ys[k]'(by rw [HLY.out]; exact hlt)).length cj] W fun e w' => ∃ v, e = .returned (.tuple #[v, .int .i64 0]) ∧ OwnZ W.heap.size w' v (xs[k]'(by rw [HLX.out]; exact hlt)) ∧ Below W.heap.size W w' := fun W hW => by
            have := sub_at ai aj ci cj _ _ W (z0.next hW) (z1.next hW) n0
            rwa [m1, m2] at this
          clear m1 m2 DX DY
          subst e1 e2 e3
          generalize ys[k]'(by rw [HLY.out]; exact hlt) = yk at *
          generalize xs[k]'(by rw [HLX.out]; exact hlt) = xk at *
          generalize l[k] = lk at *
          go_upto_region 11 with fail
          go_region_with (go_at_call 13; refine (con _ (by first | exact (Below.refl _ _).drew | exact Below.refl _ _)).mono ?_; rintro e w9 ⟨v9, rfl, O9, hb9⟩)
          all_goals (
            have hb9' : Below wr.heap.size wr w9 := ((Below.refl _ _).drew).trans hb9
            obtain ⟨a9, c9, rfl, z9, _⟩ := O9.zs2
            have z2' := z2.next hb9'
            have c2' := (hb9'.cell (p := ⟨b'', off'' + k, none⟩) hbl'').trans c2
            have con2 := same_eq a9 ax c9 cx xk w9 z9 z2'
            have hb10 := chain hb hb9'
            clear c0 c1 c2 z0 z1 z2 con O9 hb9 z9 z2' hb9'
            go_wp2_with fail
            refine con2.mono ?_
            rintro e w10 ⟨rfl, hb11⟩
            have hb12 := chain hb10 hb11
            clear con2 hb10 hb11 c2'
            go_wp2_with fail
            go_roundw
            case rel => exact ⟨k + 1, by omega, by go_num, hb12⟩
            case measure => simp [intOf]; omega)
        · have hkn : ¬ (k : Int) < (l.length : Int) := by omega
          replace hA := chain hA hb
          have q4 := (hb.block _ (lt_of_heap q3)).trans q3
          clear q3 x3 x5 O3 O5 MD HLY HLX lyz lxz l30
          go_upto_region 15 with fail
          have con := integrate_at l a cap wr (hD.next hA)
          generalize hI : alongF l (intE l) = I at con
          have HI : Hid (alongF l (intE l) = I) := hI
          clear hI
          obtain ⟨i1, i2⟩ := I
          go_wp2_with fail
          refine con.mono ?_
          rintro e w20 ⟨v20, rfl, O20, hb20⟩
          obtain ⟨a20, c20, rfl, _, _⟩ := O20.dt
          have q20 := (hb20.block _ (lt_of_heap q4)).trans q4
          have hlB := lt_of_heap q4
          replace hA := chain hA hb20
          clear con
          have t0 := cell_of (i := 0) q20 rfl
          have t1 := cell_of (i := 1) q20 rfl
          have y0 := frozen_of_row _ B4 0 _ _ q20
          have y1 := frozen_of_row _ B4 1 _ _ q20
          have Q21 := fset (x := .int .i64 i1) (y := .int .i64 i2) q20
          have O21 := O20.move (Nat.le_refl _) (fset_since (x := .int .i64 i1) (y := .int .i64 i2) hlB) (fset_keep (x := .int .i64 i1) (y := .int .i64 i2) q20 (by decide) (by decide))
          have hA21 := hA.trans (fset_below (x := .int .i64 i1) (y := .int .i64 i2) hB4)
          clear O20 hb20 hA
          go_upto_region 16 with fail
          clear t0 t1 y0 y1 q20
          generalize (w20.setCell ⟨B4, 0, none⟩ (.int .i64 i1)).setCell ⟨B4, 1, none⟩ (.int .i64 i2) = w21 at *
          have t0 := cell_of (i := 0) Q21 rfl
          by_cases hi1 : i1 = 0
          · subst hi1
            have k0 : (alongF l (intE l)).1 = 0 := by rw [HI.out]
            have MD : Hid (Made 1 l (alongZ (alongZ l (intE l) fun k => intS l (k + 1)) (delE (alongZ l (intE l) fun k => intS l (k + 1))) (delS (alongZ l (intE l) fun k => intS l (k + 1)))) (alongZ l (intE l) fun k => intS l (k + 1))) := made2 k0
            have l30 := (along_ok k0).1
            obtain ⟨a21, c21, e21, D21, _⟩ := O21.dt
            injection e21 with e21a _ e21b
            subst e21a e21b
            have con := delay_at _ a20 c20 w21 D21
            rw [(along_ok (later2 k0).1).2.2.2.1] at con
            clear k0 HI D21
            generalize alongZ (alongZ l (intE l) fun k => intS l (k + 1)) (delE (alongZ l (intE l) fun k => intS l (k + 1))) (delS (alongZ l (intE l) fun k => intS l (k + 1))) = ys at *
            generalize (alongZ l (intE l) fun k => intS l (k + 1)) = xs at *
            have ly := MD.out.1
            have lx := MD.out.2.1
            have lyz : (ys.length : Int) = l.length := by omega
            have lxz : (xs.length : Int) = l.length := by omega
            have HLY : Hid (ys.length = l.length) := ly
            have HLX : Hid (xs.length = l.length) := lx
            clear ly lx
            go_upto_region 18 with fail
            clear t0
            go_wp2_with fail
            refine con.mono ?_
            rintro e w22 ⟨v22, rfl, O22, hb22⟩
            obtain ⟨a22, c22, rfl, _, _⟩ := O22.dt
            have q22 := (hb22.block _ (lt_of_heap Q21)).trans Q21
            have hlB2 := lt_of_heap Q21
            have O21' := O21.next hb22
            have hA22 := chain hA21 hb22
            clear con
            have t0 := cell_of (i := 0) q22 rfl
            have t1 := cell_of (i := 1) q22 rfl
            have y0 := frozen_of_row _ B4 0 _ _ q22
            have y1 := frozen_of_row _ B4 1 _ _ q22
            have Q23 := fset (x := .int .i64 0) (y := .int .i64 0) q22
            have K23 := fset_keep (x := .int .i64 0) (y := .int .i64 0) q22 (by decide) (by decide)
            have OY := O22.move (Nat.le_refl _) (fset_since (x := .int .i64 0) (y := .int .i64 0) hlB2) K23
            have OX := O21'.move (Nat.le_refl _) (fset_since (x := .int .i64 0) (y := .int .i64 0) hlB) K23
            have hA := hA22.trans (fset_below (x := .int .i64 0) (y := .int .i64 0) hB4)
            clear O22 hb22 O21 O21' hA21 hA22 K23 Q21
            go_upto_region 19 with fail
            clear t0 t1 y0 y1 q22
            generalize (w22.setCell ⟨B4, 0, none⟩ (.int .i64 0)).setCell ⟨B4, 1, none⟩ (.int .i64 0) = w23 at *
            have t0 := cell_of (i := 0) Q23 rfl
            go_upto_region 22 with fail
            clear t0
            go_loopw [101] (fun i wr => ∃ k : Nat, k ≤ l.length ∧ i = .int .i64 k ∧ Below w23.heap.size w23 wr) (fun i _ => l.length - (intOf i).toNat)
            case atStart => exact ⟨0, Nat.zero_le _, rfl, Below.refl _ _⟩
            case round =>
              obtain ⟨k, hk, rfl, hb⟩ := hrel
              by_cases hlt : k < l.length
              · have hAk := chain hA hb
                obtain ⟨b, off, ai, ci, e1, hbl, c0, z0, n0⟩ := (hD.next hAk).elem hlt
                obtain ⟨ay', cy', ey, DY, _⟩ := (OY.next hb).dt
                obtain ⟨ax', cx', ex, DX, _⟩ := (OX.next hb).dt
                injection ey with ey1 _ ey2
                injection ex with ex1 _ ex2
                subst ey1 ey2 ex1 ex2
                obtain ⟨b', off', aj, cj, e2, hbl', c1, z1, n1⟩ := DY.elem (i := k) (by rw [HLY.out]; exact hlt)
                obtain ⟨b'', off'', ax, cx, e3, hbl'', c2, z2, n2⟩ := DX.elem (i := k) (by rw [HLX.out]; exact hlt)
                have hkz : (k : Int) < (l.length : Int) := by omega
                have hky : (k : Int) < (ys.length : Int) := by omega
                have hkx : (k : Int) < (xs.length : Int) := by omega
                obtain ⟨m1, m2⟩ := MD.out.2.2 k hlt (by rw [HLY.out]; exact hlt) (by rw [HLX.out]; exact hlt)
                have con : ∀ W, Below wr.heap.size wr W → Calls Try.prog 15 #[.slice ai l[k].length ci, .slice aj (ys[k]'(by rw [HLY.out]; exact hlt)).length cj] W fun e w' => ∃ v, e = .returned (.tuple #[v, .int .i64 0]) ∧ OwnZ W.heap.size w' v (xs[k]'(by rw [HLX.out]; exact hlt)) ∧ Below W.heap.size W w' := fun W hW => by
                  have := add_at ai aj ci cj _ _ W (z0.next hW) (z1.next hW) n0
                  rwa [m1, m2] at this
                clear m1 m2 DX DY
                subst e1 e2 e3
                generalize ys[k]'(by rw [HLY.out]; exact hlt) = yk at *
                generalize xs[k]'(by rw [HLX.out]; exact hlt) = xk at *
                generalize l[k] = lk at *
                go_upto_region 24 with fail
                go_region_with (go_at_call 15; refine (con _ (by first | exact (Below.refl _ _).drew | exact Below.refl _ _)).mono ?_; rintro e w9 ⟨v9, rfl, O9, hb9⟩)
                all_goals (
                  have hb9' : Below wr.heap.size wr w9 := ((Below.refl _ _).drew).trans hb9
                  obtain ⟨a9, c9, rfl, z9, _⟩ := O9.zs2
                  have z2' := z2.next hb9'
                  have c2' := (hb9'.cell (p := ⟨b'', off'' + k, none⟩) hbl'').trans c2
                  have con2 := same_eq a9 ax c9 cx xk w9 z9 z2'
                  have hb10 := chain hb hb9'
                  clear c0 c1 c2 z0 z1 z2 con O9 hb9 z9 z2' hb9'
                  go_wp2_with fail
                  refine con2.mono ?_
                  rintro e w10 ⟨rfl, hb11⟩
                  have hb12 := chain hb10 hb11
                  clear con2 hb10 hb11 c2'
                  go_wp2_with fail
                  go_roundw
                  case rel => exact ⟨k + 1, by omega, by go_num, hb12⟩
                  case measure => simp [intOf]; omega)
              · have hkn : ¬ (k : Int) < (l.length : Int) := by omega
                replace hA := chain hA hb
                go_wp2_with fail
                go_ret
                exact ⟨rfl, hA⟩
          · have hi2 : (i1 != 0) = true := by simpa using hi1
            clear hi1
            go_wp2_with fail
            go_ret
            exact ⟨rfl, hA21⟩
    · have h3 : (g1 == 0) = false := by simpa using h2
      subst h1
      clear h2 HF HG O3 O5
      go_upto_region 15 with fail
      clear x3 x5
      have con := integrate_at l a cap w6 (hD.next hA)
      generalize hI : alongF l (intE l) = I at con
      have HI : Hid (alongF l (intE l) = I) := hI
      clear hI
      obtain ⟨i1, i2⟩ := I
      go_wp2_with fail
      refine con.mono ?_
      rintro e w20 ⟨v20, rfl, O20, hb20⟩
      obtain ⟨a20, c20, rfl, _, _⟩ := O20.dt
      have q20 := (hb20.block _ (lt_of_heap q3)).trans q3
      have hlB := lt_of_heap q3
      replace hA := chain hA hb20
      clear con
      have t0 := cell_of (i := 0) q20 rfl
      have t1 := cell_of (i := 1) q20 rfl
      have y0 := frozen_of_row _ B4 0 _ _ q20
      have y1 := frozen_of_row _ B4 1 _ _ q20
      have Q21 := fset (x := .int .i64 i1) (y := .int .i64 i2) q20
      have O21 := O20.move (Nat.le_refl _) (fset_since (x := .int .i64 i1) (y := .int .i64 i2) hlB) (fset_keep (x := .int .i64 i1) (y := .int .i64 i2) q20 (by decide) (by decide))
      have hA21 := hA.trans (fset_below (x := .int .i64 i1) (y := .int .i64 i2) hB4)
      clear O20 hb20 hA
      go_upto_region 16 with fail
      clear t0 t1 y0 y1 q20
      generalize (w20.setCell ⟨B4, 0, none⟩ (.int .i64 i1)).setCell ⟨B4, 1, none⟩ (.int .i64 i2) = w21 at *
      have t0 := cell_of (i := 0) Q21 rfl
      by_cases hi1 : i1 = 0
      · subst hi1
        have k0 : (alongF l (intE l)).1 = 0 := by rw [HI.out]
        have MD : Hid (Made 1 l (alongZ (alongZ l (intE l) fun k => intS l (k + 1)) (delE (alongZ l (intE l) fun k => intS l (k + 1))) (delS (alongZ l (intE l) fun k => intS l (k + 1)))) (alongZ l (intE l) fun k => intS l (k + 1))) := made2 k0
        have l30 := (along_ok k0).1
        obtain ⟨a21, c21, e21, D21, _⟩ := O21.dt
        injection e21 with e21a _ e21b
        subst e21a e21b
        have con := delay_at _ a20 c20 w21 D21
        rw [(along_ok (later2 k0).1).2.2.2.1] at con
        clear k0 HI D21
        generalize alongZ (alongZ l (intE l) fun k => intS l (k + 1)) (delE (alongZ l (intE l) fun k => intS l (k + 1))) (delS (alongZ l (intE l) fun k => intS l (k + 1))) = ys at *
        generalize (alongZ l (intE l) fun k => intS l (k + 1)) = xs at *
        have ly := MD.out.1
        have lx := MD.out.2.1
        have lyz : (ys.length : Int) = l.length := by omega
        have lxz : (xs.length : Int) = l.length := by omega
        have HLY : Hid (ys.length = l.length) := ly
        have HLX : Hid (xs.length = l.length) := lx
        clear ly lx
        go_upto_region 18 with fail
        clear t0
        go_wp2_with fail
        refine con.mono ?_
        rintro e w22 ⟨v22, rfl, O22, hb22⟩
        obtain ⟨a22, c22, rfl, _, _⟩ := O22.dt
        have q22 := (hb22.block _ (lt_of_heap Q21)).trans Q21
        have hlB2 := lt_of_heap Q21
        have O21' := O21.next hb22
        have hA22 := chain hA21 hb22
        clear con
        have t0 := cell_of (i := 0) q22 rfl
        have t1 := cell_of (i := 1) q22 rfl
        have y0 := frozen_of_row _ B4 0 _ _ q22
        have y1 := frozen_of_row _ B4 1 _ _ q22
        have Q23 := fset (x := .int .i64 0) (y := .int .i64 0) q22
        have K23 := fset_keep (x := .int .i64 0) (y := .int .i64 0) q22 (by decide) (by decide)
        have OY := O22.move (Nat.le_refl _) (fset_since (x := .int .i64 0) (y := .int .i64 0) hlB2) K23
        have OX := O21'.move (Nat.le_refl _) (fset_since (x := .int .i64 0) (y := .int .i64 0) hlB) K23
        have hA := hA22.trans (fset_below (x := .int .i64 0) (y := .int .i64 0) hB4)
        clear O22 hb22 O21 O21' hA21 hA22 K23 Q21
        go_upto_region 19 with fail
        clear t0 t1 y0 y1 q22
        generalize (w22.setCell ⟨B4, 0, none⟩ (.int .i64 0)).setCell ⟨B4, 1, none⟩ (.int .i64 0) = w23 at *
        have t0 := cell_of (i := 0) Q23 rfl
        go_upto_region 22 with fail
        clear t0
        go_loopw [101] (fun i wr => ∃ k : Nat, k ≤ l.length ∧ i = .int .i64 k ∧ Below w23.heap.size w23 wr) (fun i _ => l.length - (intOf i).toNat)
        case atStart => exact ⟨0, Nat.zero_le _, rfl, Below.refl _ _⟩
        case round =>
          obtain ⟨k, hk, rfl, hb⟩ := hrel
          by_cases hlt : k < l.length
          · have hAk := chain hA hb
            obtain ⟨b, off, ai, ci, e1, hbl, c0, z0, n0⟩ := (hD.next hAk).elem hlt
            obtain ⟨ay', cy', ey, DY, _⟩ := (OY.next hb).dt
            obtain ⟨ax', cx', ex, DX, _⟩ := (OX.next hb).dt
            injection ey with ey1 _ ey2
            injection ex with ex1 _ ex2
            subst ey1 ey2 ex1 ex2
            obtain ⟨b', off', aj, cj, e2, hbl', c1, z1, n1⟩ := DY.elem (i := k) (by rw [HLY.out]; exact hlt)
            obtain ⟨b'', off'', ax, cx, e3, hbl'', c2, z2, n2⟩ := DX.elem (i := k) (by rw [HLX.out]; exact hlt)
            have hkz : (k : Int) < (l.length : Int) := by omega
            have hky : (k : Int) < (ys.length : Int) := by omega
            have hkx : (k : Int) < (xs.length : Int) := by omega
            obtain ⟨m1, m2⟩ := MD.out.2.2 k hlt (by rw [HLY.out]; exact hlt) (by rw [HLX.out]; exact hlt)
            have con : ∀ W, Below wr.heap.size wr W → Calls Try.prog 15 #[.slice ai l[k].length ci, .slice aj (ys[k]'(by rw [HLY.out]; exact hlt)).length cj] W fun e w' => ∃ v, e = .returned (.tuple #[v, .int .i64 0]) ∧ OwnZ W.heap.size w' v (xs[k]'(by rw [HLX.out]; exact hlt)) ∧ Below W.heap.size W w' := fun W hW => by
              have := add_at ai aj ci cj _ _ W (z0.next hW) (z1.next hW) n0
              rwa [m1, m2] at this
            clear m1 m2 DX DY
            subst e1 e2 e3
            generalize ys[k]'(by rw [HLY.out]; exact hlt) = yk at *
            generalize xs[k]'(by rw [HLX.out]; exact hlt) = xk at *
            generalize l[k] = lk at *
            go_upto_region 24 with fail
            go_region_with (go_at_call 15; refine (con _ (by first | exact (Below.refl _ _).drew | exact Below.refl _ _)).mono ?_; rintro e w9 ⟨v9, rfl, O9, hb9⟩)
            all_goals (
              have hb9' : Below wr.heap.size wr w9 := ((Below.refl _ _).drew).trans hb9
              obtain ⟨a9, c9, rfl, z9, _⟩ := O9.zs2
              have z2' := z2.next hb9'
              have c2' := (hb9'.cell (p := ⟨b'', off'' + k, none⟩) hbl'').trans c2
              have con2 := same_eq a9 ax c9 cx xk w9 z9 z2'
              have hb10 := chain hb hb9'
              clear c0 c1 c2 z0 z1 z2 con O9 hb9 z9 z2' hb9'
              go_wp2_with fail
              refine con2.mono ?_
              rintro e w10 ⟨rfl, hb11⟩
              have hb12 := chain hb10 hb11
              clear con2 hb10 hb11 c2'
              go_wp2_with fail
              go_roundw
              case rel => exact ⟨k + 1, by omega, by go_num, hb12⟩
              case measure => simp [intOf]; omega)
          · have hkn : ¬ (k : Int) < (l.length : Int) := by omega
            replace hA := chain hA hb
            go_wp2_with fail
            go_ret
            exact ⟨rfl, hA⟩
      · have hi2 : (i1 != 0) = true := by simpa using hi1
        clear hi1
        go_wp2_with fail
        go_ret
        exact ⟨rfl, hA21⟩
  · have h3 : (f1 == 0) = false := by simpa using h1
    clear h1 HF HG O3 O5
    go_upto_region 15 with fail
    clear x3 x5
    have con := integrate_at l a cap w6 (hD.next hA)
    generalize hI : alongF l (intE l) = I at con
    have HI : Hid (alongF l (intE l) = I) := hI
    clear hI
    obtain ⟨i1, i2⟩ := I
    go_wp2_with fail
    refine con.mono ?_
    rintro e w20 ⟨v20, rfl, O20, hb20⟩
    obtain ⟨a20, c20, rfl, _, _⟩ := O20.dt
    have q20 := (hb20.block _ (lt_of_heap q3)).trans q3
    have hlB := lt_of_heap q3
    replace hA := chain hA hb20
    clear con
    have t0 := cell_of (i := 0) q20 rfl
    have t1 := cell_of (i := 1) q20 rfl
    have y0 := frozen_of_row _ B4 0 _ _ q20
    have y1 := frozen_of_row _ B4 1 _ _ q20
    have Q21 := fset (x := .int .i64 i1) (y := .int .i64 i2) q20
    have O21 := O20.move (Nat.le_refl _) (fset_since (x := .int .i64 i1) (y := .int .i64 i2) hlB) (fset_keep (x := .int .i64 i1) (y := .int .i64 i2) q20 (by decide) (by decide))
    have hA21 := hA.trans (fset_below (x := .int .i64 i1) (y := .int .i64 i2) hB4)
    clear O20 hb20 hA
    go_upto_region 16 with fail
    clear t0 t1 y0 y1 q20
    generalize (w20.setCell ⟨B4, 0, none⟩ (.int .i64 i1)).setCell ⟨B4, 1, none⟩ (.int .i64 i2) = w21 at *
    have t0 := cell_of (i := 0) Q21 rfl
    by_cases hi1 : i1 = 0
    · subst hi1
      have k0 : (alongF l (intE l)).1 = 0 := by rw [HI.out]
      have MD : Hid (Made 1 l (alongZ (alongZ l (intE l) fun k => intS l (k + 1)) (delE (alongZ l (intE l) fun k => intS l (k + 1))) (delS (alongZ l (intE l) fun k => intS l (k + 1)))) (alongZ l (intE l) fun k => intS l (k + 1))) := made2 k0
      have l30 := (along_ok k0).1
      obtain ⟨a21, c21, e21, D21, _⟩ := O21.dt
      injection e21 with e21a _ e21b
      subst e21a e21b
      have con := delay_at _ a20 c20 w21 D21
      rw [(along_ok (later2 k0).1).2.2.2.1] at con
      clear k0 HI D21
      generalize alongZ (alongZ l (intE l) fun k => intS l (k + 1)) (delE (alongZ l (intE l) fun k => intS l (k + 1))) (delS (alongZ l (intE l) fun k => intS l (k + 1))) = ys at *
      generalize (alongZ l (intE l) fun k => intS l (k + 1)) = xs at *
      have ly := MD.out.1
      have lx := MD.out.2.1
      have lyz : (ys.length : Int) = l.length := by omega
      have lxz : (xs.length : Int) = l.length := by omega
      have HLY : Hid (ys.length = l.length) := ly
      have HLX : Hid (xs.length = l.length) := lx
      clear ly lx
      go_upto_region 18 with fail
      clear t0
      go_wp2_with fail
      refine con.mono ?_
      rintro e w22 ⟨v22, rfl, O22, hb22⟩
      obtain ⟨a22, c22, rfl, _, _⟩ := O22.dt
      have q22 := (hb22.block _ (lt_of_heap Q21)).trans Q21
      have hlB2 := lt_of_heap Q21
      have O21' := O21.next hb22
      have hA22 := chain hA21 hb22
      clear con
      have t0 := cell_of (i := 0) q22 rfl
      have t1 := cell_of (i := 1) q22 rfl
      have y0 := frozen_of_row _ B4 0 _ _ q22
      have y1 := frozen_of_row _ B4 1 _ _ q22
      have Q23 := fset (x := .int .i64 0) (y := .int .i64 0) q22
      have K23 := fset_keep (x := .int .i64 0) (y := .int .i64 0) q22 (by decide) (by decide)
      have OY := O22.move (Nat.le_refl _) (fset_since (x := .int .i64 0) (y := .int .i64 0) hlB2) K23
      have OX := O21'.move (Nat.le_refl _) (fset_since (x := .int .i64 0) (y := .int .i64 0) hlB) K23
      have hA := hA22.trans (fset_below (x := .int .i64 0) (y := .int .i64 0) hB4)
      clear O22 hb22 O21 O21' hA21 hA22 K23 Q21
      go_upto_region 19 with fail
      clear t0 t1 y0 y1 q22
      generalize (w22.setCell ⟨B4, 0, none⟩ (.int .i64 0)).setCell ⟨B4, 1, none⟩ (.int .i64 0) = w23 at *
      have t0 := cell_of (i := 0) Q23 rfl
      go_upto_region 22 with fail
      clear t0
      go_loopw [101] (fun i wr => ∃ k : Nat, k ≤ l.length ∧ i = .int .i64 k ∧ Below w23.heap.size w23 wr) (fun i _ => l.length - (intOf i).toNat)
      case atStart => exact ⟨0, Nat.zero_le _, rfl, Below.refl _ _⟩
      case round =>
        obtain ⟨k, hk, rfl, hb⟩ := hrel
        by_cases hlt : k < l.length
        · have hAk := chain hA hb
          obtain ⟨b, off, ai, ci, e1, hbl, c0, z0, n0⟩ := (hD.next hAk).elem hlt
          obtain ⟨ay', cy', ey, DY, _⟩ := (OY.next hb).dt
          obtain ⟨ax', cx', ex, DX, _⟩ := (OX.next hb).dt
          injection ey with ey1 _ ey2
          injection ex with ex1 _ ex2
          subst ey1 ey2 ex1 ex2
          obtain ⟨b', off', aj, cj, e2, hbl', c1, z1, n1⟩ := DY.elem (i := k) (by rw [HLY.out]; exact hlt)
          obtain ⟨b'', off'', ax, cx, e3, hbl'', c2, z2, n2⟩ := DX.elem (i := k) (by rw [HLX.out]; exact hlt)
          have hkz : (k : Int) < (l.length : Int) := by omega
          have hky : (k : Int) < (ys.length : Int) := by omega
          have hkx : (k : Int) < (xs.length : Int) := by omega
          obtain ⟨m1, m2⟩ := MD.out.2.2 k hlt (by rw [HLY.out]; exact hlt) (by rw [HLX.out]; exact hlt)
          have con : ∀ W, Below wr.heap.size wr W → Calls Try.prog 15 #[.slice ai l[k].length ci, .slice aj (ys[k]'(by rw [HLY.out]; exact hlt)).length cj] W fun e w' => ∃ v, e = .returned (.tuple #[v, .int .i64 0]) ∧ OwnZ W.heap.size w' v (xs[k]'(by rw [HLX.out]; exact hlt)) ∧ Below W.heap.size W w' := fun W hW => by
            have := add_at ai aj ci cj _ _ W (z0.next hW) (z1.next hW) n0
            rwa [m1, m2] at this
          clear m1 m2 DX DY
          subst e1 e2 e3
          generalize ys[k]'(by rw [HLY.out]; exact hlt) = yk at *
          generalize xs[k]'(by rw [HLX.out]; exact hlt) = xk at *
          generalize l[k] = lk at *
          go_upto_region 24 with fail
          go_region_with (go_at_call 15; refine (con _ (by first | exact (Below.refl _ _).drew | exact Below.refl _ _)).mono ?_; rintro e w9 ⟨v9, rfl, O9, hb9⟩)
          all_goals (
            have hb9' : Below wr.heap.size wr w9 := ((Below.refl _ _).drew).trans hb9
            obtain ⟨a9, c9, rfl, z9, _⟩ := O9.zs2
            have z2' := z2.next hb9'
            have c2' := (hb9'.cell (p := ⟨b'', off'' + k, none⟩) hbl'').trans c2
            have con2 := same_eq a9 ax c9 cx xk w9 z9 z2'
            have hb10 := chain hb hb9'
            clear c0 c1 c2 z0 z1 z2 con O9 hb9 z9 z2' hb9'
            go_wp2_with fail
            refine con2.mono ?_
            rintro e w10 ⟨rfl, hb11⟩
            have hb12 := chain hb10 hb11
            clear con2 hb10 hb11 c2'
            go_wp2_with fail
            go_roundw
            case rel => exact ⟨k + 1, by omega, by go_num, hb12⟩
            case measure => simp [intOf]; omega)
        · have hkn : ¬ (k : Int) < (l.length : Int) := by omega
          replace hA := chain hA hb
          go_wp2_with fail
          go_ret
          exact ⟨rfl, hA⟩
    · have hi2 : (i1 != 0) = true := by simpa using hi1
      clear hi1
      go_wp2_with fail
      go_ret
      exact ⟨rfl, hA21⟩
end Go.Proofs.Ytibobmkelmalkaa
