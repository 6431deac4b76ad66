/- The walk of tideref8.Along, what = d. -/
import Derived.Test.YtibobmkelmalkaaSTB
namespace Go.Proofs.Ytibobmkelmalkaa
open Go.RowKit Go.Lib Go.Shelf

theorem same_setA {w : World} {g i : Nat} {cs : Array Value} {T : TypeId} {v : Value} (h : w.heap[g]? = some (.cells cs T (0, 0))) (hc : cs.setIfInBounds i v = cs) : Below w.heap.size w (w.setCell ⟨g, i, none⟩ v) := by
  have X := (Below.refl g w).setCell (p := ⟨g, i, none⟩) (Nat.le_refl _) v
  refine ⟨X.os, X.tape, X.output, X.size, fun k hk => ?_⟩
  by_cases e : k = g
  · subst e
    rw [heap_setCell_same w k i cs T v h, hc, h]
  · exact Below.heap_setCell w ⟨g, i, none⟩ v k e

set_option maxRecDepth 100000 in
set_option maxHeartbeats 8000000 in
theorem refAlong_d (l : List (List Zp)) (a : Option Addr) (cap : Nat) (w : World) (hD : DtAt w a l) :
    Calls Try.prog 9 #[.slice a l.length cap, .int .u8 100] w fun e w' => ∃ a' c', e = .returned (.tuple #[.slice a' (alongZ l (difE l) (difS l)).length c', .agg #[.int .i64 (alongF l (difE l)).1, .int .i64 (alongF l (difE l)).2]]) ∧ DtW w' a' (alongZ l (difE l) (difS l)) ∧ Below w.heap.size w w' := by
  obtain ⟨i0, hi, hj0, hj1, hj2⟩ := info_parts infoS
  generalize hF : alongF l (difE l) = F
  generalize hZ : alongZ l (difE l) (difS l) = zs
  have HF : Hid (alongF l (difE l) = F) := hF
  have HZ : Hid (alongZ l (difE l) (difS l) = zs) := hZ
  clear hF hZ
  have Q0 := heap_new w #[.int .i64 0, .int .i64 0] 27
  have hA : Below w.heap.size w (w.alloc (.cells #[.int .i64 0, .int .i64 0] 27)) := (Below.refl _ _).alloc (Nat.le_refl _) _
  go_enter Try.func9, Try.ntmps9
  go_upto_region 1 with fail
  generalize w.alloc (.cells #[.int .i64 0, .int .i64 0] 27) = w1 at *
  have con := refWrongs_at l a cap w1 (hD.next hA)
  generalize hwf : wrongsF l = wf at con
  have HW : Hid (wrongsF l = wf) := hwf
  clear hwf
  obtain ⟨e1, e2⟩ := wf
  go_wp2_with fail
  refine con.mono ?_
  rintro e w2 ⟨rfl, hb2⟩
  have al2 : Below w2.heap.size w2 (w2.alloc (.cells #[.int .i64 e1, .int .i64 e2] 27)) := (Below.refl _ _).alloc (Nat.le_refl _) _
  have Q8 := heap_new w2 #[.int .i64 e1, .int .i64 e2] 27
  have B8 := chain hb2 al2
  have Q4 := (B8.block _ (lt_of_heap Q0)).trans Q0
  have hA4 := chain hA B8
  clear con hb2 al2 B8 Q0 hA
  go_upto_region 2 with fail
  generalize w2.alloc (.cells #[.int .i64 e1, .int .i64 e2] 27) = w4 at *
  have u0 := cell_of (i := 0) Q8 rfl
  have u1 := cell_of (i := 1) Q8 rfl
  clear Q8
  by_cases hw : e1 = 0
  · have ew : (wrongsF l).1 = 0 := by rw [HW.out]; exact hw
    obtain ⟨l30, hr⟩ := wrongs_ok ew
    have HR : Hid (∀ z ∈ l, wrongZ z = 0) := hr
    have EF : Hid (F = eachF l.length (difE l)) := by show _ = _; rw [← HF.out]; unfold alongF; rw [if_pos ew]
    have EZ : Hid (zs = eachZ l.length (difE l) (difS l)) := by show _ = _; rw [← HZ.out]; exact alongZ_each ew
    subst hw
    clear ew HW HF HZ hr
    go_wp2_with fail
    clear u0 u1
    go_loopw [7, 22] (fun v i wr => ∃ (k : Nat) (cs : List Value), k ≤ l.length ∧ i = .int .i64 k ∧ Hid (∀ j, j < k → (difE l) j = 0) ∧ OwnQ w4.heap.size wr v ((List.range k).map (difS l)) cs ∧ Below w4.heap.size w4 wr) (fun _ i _ => l.length - (intOf i).toNat)
    case atStart => exact ⟨0, [], Nat.zero_le _, rfl, fun j hj => absurd hj (by omega), OwnQ.nil _ _, Below.refl _ _⟩
    case round =>
      obtain ⟨k, cs, hk, rfl, HE, HO, hb⟩ := hrel
      have QR := (hb.block _ (lt_of_heap Q4)).trans Q4
      have hAr := chain hA4 hb
      by_cases hlt : k < l.length
      · obtain ⟨b, off, ai, ci, rfl, hbl, c0, z0, n0⟩ := (hD.next hAr).elem hlt
        have hkz : (k : Int) < (l.length : Int) := by omega
        by_cases hk0 : k = 0
        · have hkn0 : ¬ (0 : Int) < (k : Int) := by omega
          have eah : aheadL l k = [] := by rw [hk0]; rfl
          have ZA : ZsAt wr none (aheadL l k) := by rw [eah]; exact ⟨Nat.zero_le _, .inl rfl⟩
          have eal : (aheadL l k).length = 0 := by rw [eah]; rfl
          clear hk0 eah
          have con := both_at (-1) (by omega) ai none ci 0 l[k] (aheadL l k) wr z0 ZA
          have HEk0 : (difE l) k = bothE (-1) l[k] (aheadL l k) := by show difE l k = _; unfold difE; rw [getD_at hlt]
          have HZk0 : (difS l) k = bothZ (-1) l[k] (aheadL l k) := by show difS l k = _; unfold difS; rw [getD_at hlt]
          generalize bothE (-1) l[k] (aheadL l k) = ek at con HEk0
          generalize bothZ (-1) l[k] (aheadL l k) = zk at con HZk0
          have HEk : Hid ((difE l) k = ek) := HEk0
          have HZk : Hid ((difS l) k = zk) := HZk0
          clear HEk0 HZk0
          unfold Gives at con
          rw [eal] at con
          go_wp2_with fail
          refine con.mono ?_
          rintro e w5 ⟨⟨az, cz, rfl, ZK⟩, hb5⟩
          clear con ZA eal z0
          by_cases h0 : ek = 0
          · have HE' : Hid (∀ j, j < k + 1 → (difE l) j = 0) := fun j hj => by
              by_cases e : j = k
              · rw [e]; exact HEk.out.trans h0
              · exact HE.out j (by omega)
            subst h0
            have hal : Below w5.heap.size w5 (w5.alloc (.cells #[.slice az zk.length cz] 34)) := (Below.refl _ _).alloc (Nat.le_refl _) _
            have q6 := cell_of (i := 0) (heap_new w5 #[.slice az zk.length cz] 34) rfl
            have hb6 := chain hb5 hal
            have hb7 := chain hb hb6
            have O6 := HO.next hb6
            have ZK6 := ZK.next hal
            have HL : Hid (((List.range k).map (difS l)).length = k) := by show _ = _; simp
            have HZs : Hid ((List.range (k + 1)).map (difS l) = (List.range k).map (difS l) ++ [zk]) := by show _ = _; rw [List.range_succ, List.map_append, ← HZk.out]; rfl
            have o6 := O6.own
            rw [HL.out] at o6
            have z7 := hb7.size
            clear HO hal hb5 hb6 ZK QR hAr HEk HZk
            go_wp2_with (at_builtin; refine wpList_append_sl rfl _ _ 22 rfl w4.heap.size 34 i0 Try.underlying22 hi hj0 hj1 hj2 _ k cs rfl o6 O6.all ⟨w5.heap.size, 0, none⟩ (.slice az zk.length cz) ⟨_, _, _, rfl⟩ q6 1 rfl (by omega) z7 ?_)
            intro v' w8 ho8 hg8 ha8
            have R8 := O6.push ZK6 (by rw [HL.out]; exact ho8) hg8 ha8
            rw [← HZs.out] at R8
            have hb8 := hb7.grown hg8 z7 (fun q hq => (o6.lt q hq).1)
            clear ho8 hg8 ha8 o6 O6 ZK6 q6 hb7
            go_wp2_with fail
            go_roundw
            case rel => exact ⟨k + 1, _, by omega, by go_num, HE', R8, hb8⟩
            case measure => simp [intOf]; omega
          · have hne : (ek != 0) = true := by simpa using h0
            have e1 : F = (ek, ((k : Nat) : Int)) := by rw [EF.out, ← HEk.out]; exact eachF_at (by omega) hlt HE.out (by rw [HEk.out]; exact h0)
            have e2' : zs = [] := by
              rw [EZ.out]; unfold eachZ; rw [if_neg]
              rw [← EF.out, e1]; exact h0
            clear EF EZ HO
            subst e1 e2'
            have Q5 := (hb5.block _ (lt_of_heap QR)).trans QR
            have hA5 := chain hAr hb5
            have f0 := cell_of (i := 0) Q5 rfl
            have f1 := cell_of (i := 1) Q5 rfl
            have y0 := frozen_of_row w5 w.heap.size 0 _ _ Q5
            have y1 := frozen_of_row w5 w.heap.size 1 _ _ Q5
            have QF := fset (x := .int .i64 ek) (y := .int .i64 (k : Nat)) Q5
            have hB := hA5.trans (fset_below (B := w.heap.size) (x := .int .i64 ek) (y := .int .i64 (k : Nat)) (Nat.le_refl _))
            have g0 := cell_of (i := 0) QF rfl
            have g1 := cell_of (i := 1) QF rfl
            clear QF Q5 QR hAr hA5 ZK
            go_wp2_with fail
            exact bodyPost_ret (v := .tuple #[.slice none 0 0, .agg #[.int .i64 ek, .int .i64 (k : Nat)]]) (by simp [results, Try.results9, go_sem, g0, g1]) rfl ⟨none, ⟨0, rfl⟩, .inl rfl, hB⟩
        · have hkp0 : (0 : Int) < (k : Int) := by omega
          obtain ⟨m, hm⟩ : ∃ m : Nat, k = m + 1 := ⟨k - 1, by omega⟩
          have hml : m < l.length := by omega
          obtain ⟨b', off', aj, cj, e', hbl', c1, ZA', _⟩ := (hD.next hAr).elem (i := m) hml
          injection e' with e'
          injection e' with eb eo _
          subst eb eo
          have eah : aheadL l k = l[m] := by rw [hm]; exact getD_at hml
          have ZA : ZsAt wr aj (aheadL l k) := by rw [eah]; exact ZA'
          have eal : (aheadL l k).length = l[m].length := by rw [eah]
          have hm1 : (k : Int) - 1 = (m : Int) := by omega
          have hm2 : (m : Int) < (l.length : Int) := by omega
          clear hk0 ZA' eah hm
          have con := both_at (-1) (by omega) ai aj ci cj l[k] (aheadL l k) wr z0 ZA
          have HEk0 : (difE l) k = bothE (-1) l[k] (aheadL l k) := by show difE l k = _; unfold difE; rw [getD_at hlt]
          have HZk0 : (difS l) k = bothZ (-1) l[k] (aheadL l k) := by show difS l k = _; unfold difS; rw [getD_at hlt]
          generalize bothE (-1) l[k] (aheadL l k) = ek at con HEk0
          generalize bothZ (-1) l[k] (aheadL l k) = zk at con HZk0
          have HEk : Hid ((difE l) k = ek) := HEk0
          have HZk : Hid ((difS l) k = zk) := HZk0
          clear HEk0 HZk0
          unfold Gives at con
          rw [eal] at con
          go_wp2_with fail
          refine con.mono ?_
          rintro e w5 ⟨⟨az, cz, rfl, ZK⟩, hb5⟩
          clear con ZA eal z0
          by_cases h0 : ek = 0
          · have HE' : Hid (∀ j, j < k + 1 → (difE l) j = 0) := fun j hj => by
              by_cases e : j = k
              · rw [e]; exact HEk.out.trans h0
              · exact HE.out j (by omega)
            subst h0
            have hal : Below w5.heap.size w5 (w5.alloc (.cells #[.slice az zk.length cz] 34)) := (Below.refl _ _).alloc (Nat.le_refl _) _
            have q6 := cell_of (i := 0) (heap_new w5 #[.slice az zk.length cz] 34) rfl
            have hb6 := chain hb5 hal
            have hb7 := chain hb hb6
            have O6 := HO.next hb6
            have ZK6 := ZK.next hal
            have HL : Hid (((List.range k).map (difS l)).length = k) := by show _ = _; simp
            have HZs : Hid ((List.range (k + 1)).map (difS l) = (List.range k).map (difS l) ++ [zk]) := by show _ = _; rw [List.range_succ, List.map_append, ← HZk.out]; rfl
            have o6 := O6.own
            rw [HL.out] at o6
            have z7 := hb7.size
            clear HO hal hb5 hb6 ZK QR hAr HEk HZk
            go_wp2_with (at_builtin; refine wpList_append_sl rfl _ _ 22 rfl w4.heap.size 34 i0 Try.underlying22 hi hj0 hj1 hj2 _ k cs rfl o6 O6.all ⟨w5.heap.size, 0, none⟩ (.slice az zk.length cz) ⟨_, _, _, rfl⟩ q6 1 rfl (by omega) z7 ?_)
            intro v' w8 ho8 hg8 ha8
            have R8 := O6.push ZK6 (by rw [HL.out]; exact ho8) hg8 ha8
            rw [← HZs.out] at R8
            have hb8 := hb7.grown hg8 z7 (fun q hq => (o6.lt q hq).1)
            clear ho8 hg8 ha8 o6 O6 ZK6 q6 hb7
            go_wp2_with fail
            go_roundw
            case rel => exact ⟨k + 1, _, by omega, by go_num, HE', R8, hb8⟩
            case measure => simp [intOf]; omega
          · have hne : (ek != 0) = true := by simpa using h0
            have e1 : F = (ek, ((k : Nat) : Int)) := by rw [EF.out, ← HEk.out]; exact eachF_at (by omega) hlt HE.out (by rw [HEk.out]; exact h0)
            have e2' : zs = [] := by
              rw [EZ.out]; unfold eachZ; rw [if_neg]
              rw [← EF.out, e1]; exact h0
            clear EF EZ HO
            subst e1 e2'
            have Q5 := (hb5.block _ (lt_of_heap QR)).trans QR
            have hA5 := chain hAr hb5
            have f0 := cell_of (i := 0) Q5 rfl
            have f1 := cell_of (i := 1) Q5 rfl
            have y0 := frozen_of_row w5 w.heap.size 0 _ _ Q5
            have y1 := frozen_of_row w5 w.heap.size 1 _ _ Q5
            have QF := fset (x := .int .i64 ek) (y := .int .i64 (k : Nat)) Q5
            have hB := hA5.trans (fset_below (B := w.heap.size) (x := .int .i64 ek) (y := .int .i64 (k : Nat)) (Nat.le_refl _))
            have g0 := cell_of (i := 0) QF rfl
            have g1 := cell_of (i := 1) QF rfl
            clear QF Q5 QR hAr hA5 ZK
            go_wp2_with fail
            exact bodyPost_ret (v := .tuple #[.slice none 0 0, .agg #[.int .i64 ek, .int .i64 (k : Nat)]]) (by simp [results, Try.results9, go_sem, g0, g1]) rfl ⟨none, ⟨0, rfl⟩, .inl rfl, hB⟩
      · have e : k = l.length := by omega
        have hkn : ¬ (k : Int) < (l.length : Int) := by omega
        have e1 : F = (0, 0) := by rw [EF.out]; exact eachF_all (by omega) (fun j hj => HE.out j (by omega))
        have e2' : zs = (List.range k).map (difS l) := by rw [EZ.out, e]; exact eachZ_all (by omega) (fun j hj => HE.out j (by omega))
        subst e1
        rw [← e2'] at HO
        clear EZ EF e2'
        obtain ⟨av, cv, rfl, DV⟩ := HO.dt
        have f0 := cell_of (i := 0) QR rfl
        have f1 := cell_of (i := 1) QR rfl
        have y0 := frozen_of_row wr w.heap.size 0 _ _ QR
        have y1 := frozen_of_row wr w.heap.size 1 _ _ QR
        have QF := fset (x := .int .i64 0) (y := .int .i64 0) QR
        have hB := hAr.trans (fset_below (B := w.heap.size) (x := .int .i64 0) (y := .int .i64 0) (Nat.le_refl _))
        have SB := same_setA (i := 0) (v := .int .i64 0) QR rfl
        have QS := (SB.block _ (lt_of_heap QR)).trans QR
        have SB2 := same_setA (i := 1) (v := .int .i64 0) QS rfl
        have DF := (DV.next SB).next SB2
        have g0 := cell_of (i := 0) QF rfl
        have g1 := cell_of (i := 1) QF rfl
        clear QF QR hAr HO DV SB SB2 QS
        go_wp2_with fail
        exact bodyPost_ret (v := .tuple #[.slice av zs.length cv, .agg #[.int .i64 0, .int .i64 0]]) (by simp [results, Try.results9, go_sem, g0, g1]) rfl ⟨av, ⟨cv, rfl⟩, DF, hB⟩
  · have hne : (e1 != 0) = true := by simpa using hw
    have ew : ¬ (wrongsF l).1 = 0 := by rw [HW.out]; exact hw
    have EF : F = (e1, e2) := by rw [← HF.out]; unfold alongF; rw [if_neg ew, HW.out]
    have EZ : zs = [] := by rw [← HZ.out]; unfold alongZ alongF; rw [if_neg]; rw [if_neg ew]; exact ew
    subst EF EZ
    clear ew hw HW HF HZ
    have x0 := cell_of (i := 0) Q4 rfl
    have x1 := cell_of (i := 1) Q4 rfl
    have y0 := frozen_of_row _ w.heap.size 0 _ _ Q4
    have y1 := frozen_of_row _ w.heap.size 1 _ _ Q4
    have Q9 := fset (x := .int .i64 e1) (y := .int .i64 e2) Q4
    have hB : Below w.heap.size w (((w4.setCell ⟨w.heap.size, 0, none⟩ (.int .i64 e1)).setCell ⟨w.heap.size, 1, none⟩ (.int .i64 e2)).drew) := (hA4.trans (fset_below (B := w.heap.size) (x := .int .i64 e1) (y := .int .i64 e2) (Nat.le_refl _))).drew
    have g0 := cell_of (W := ((w4.setCell ⟨w.heap.size, 0, none⟩ (.int .i64 e1)).setCell ⟨w.heap.size, 1, none⟩ (.int .i64 e2)).drew) (i := 0) Q9 rfl
    have g1 := cell_of (W := ((w4.setCell ⟨w.heap.size, 0, none⟩ (.int .i64 e1)).setCell ⟨w.heap.size, 1, none⟩ (.int .i64 e2)).drew) (i := 1) Q9 rfl
    clear Q9 Q4 hA4
    go_upto_region 3 with fail
    go_region
    go_wp2_with fail
    exact bodyPost_ret (v := .tuple #[.slice none 0 0, .agg #[.int .i64 e1, .int .i64 e2]]) (by simp [results, Try.results9, go_sem, g0, g1]) rfl ⟨none, ⟨0, rfl⟩, .inl rfl, hB⟩
end Go.Proofs.Ytibobmkelmalkaa
