/- The walk of tideref8.Along, what = i. -/
import Derived.Test.YtibobmkelmalkaaSTD
namespace Go.Proofs.Ytibobmkelmalkaa
open Go.RowKit Go.Lib Go.Shelf

def preE (l : List (List Zp)) : Nat → Int
  | 0 => 0
  | j + 1 => intE l j

set_option maxRecDepth 100000 in
set_option maxHeartbeats 8000000 in
theorem refAlong_i (l : List (List Zp)) (a : Option Addr) (cap : Nat) (w : World) (hD : DtAt w a l) (hcap : l.length ≤ cap) :
    Calls Try.prog 9 #[.slice a l.length cap, .int .u8 105] w fun e w' => ∃ a' c', e = .returned (.tuple #[.slice a' (alongZ l (intE l) (fun k => intS l (k + 1))).length c', .agg #[.int .i64 (alongF l (intE l)).1, .int .i64 (alongF l (intE l)).2]]) ∧ DtW w' a' (alongZ l (intE l) (fun k => intS l (k + 1))) ∧ Below w.heap.size w w' := by
  obtain ⟨i0, hi, hj0, hj1, hj2⟩ := info_parts infoS
  generalize hF : alongF l (intE l) = F
  generalize hZ : alongZ l (intE l) (fun k => intS l (k + 1)) = zs
  have HF : Hid (alongF l (intE l) = F) := hF
  have HZ : Hid (alongZ l (intE l) (fun k => intS l (k + 1)) = zs) := hZ
  clear hF hZ
  have Q0 := heap_new w #[.int .i64 0, .int .i64 0] 27
  have hA : Below w.heap.size w (w.alloc (.cells #[.int .i64 0, .int .i64 0] 27)) := (Below.refl _ _).alloc (Nat.le_refl _) _
  go_enter Try.func9, Try.ntmps9
  go_upto_region 1 with fail
  generalize w.alloc (.cells #[.int .i64 0, .int .i64 0] 27) = w1 at *
  have con := refWrongs_at l a cap w1 (hD.next hA)
  generalize hwf : wrongsF l = wf at con
  have HW : Hid (wrongsF l = wf) := hwf
  clear hwf
  obtain ⟨e1, e2⟩ := wf
  go_wp2_with fail
  refine con.mono ?_
  rintro e w2 ⟨rfl, hb2⟩
  have al2 : Below w2.heap.size w2 (w2.alloc (.cells #[.int .i64 e1, .int .i64 e2] 27)) := (Below.refl _ _).alloc (Nat.le_refl _) _
  have Q8 := heap_new w2 #[.int .i64 e1, .int .i64 e2] 27
  have B8 := chain hb2 al2
  have Q4 := (B8.block _ (lt_of_heap Q0)).trans Q0
  have hA4 := chain hA B8
  clear con hb2 al2 B8 Q0 hA
  go_upto_region 2 with fail
  generalize w2.alloc (.cells #[.int .i64 e1, .int .i64 e2] 27) = w4 at *
  have u0 := cell_of (i := 0) Q8 rfl
  have u1 := cell_of (i := 1) Q8 rfl
  clear Q8
  by_cases hw : e1 = 0
  · have ew : (wrongsF l).1 = 0 := by rw [HW.out]; exact hw
    obtain ⟨l30, hr⟩ := wrongs_ok ew
    have HR : Hid (∀ z ∈ l, wrongZ z = 0) := hr
    have EF : Hid (F = eachF l.length (intE l)) := by show _ = _; rw [← HF.out]; unfold alongF; rw [if_pos ew]
    have EZ : Hid (zs = eachZ l.length (intE l) (fun k => intS l (k + 1))) := by show _ = _; rw [← HZ.out]; exact alongZ_each ew
    subst hw
    clear ew HW HF HZ hr
    go_wp2_with fail
    clear u0 u1
    go_loopw [7, 22] (fun v i wr => ∃ (k : Nat) (cs : List Value), k ≤ l.length ∧ i = .int .i64 k ∧ Hid (∀ j, j < k → (intE l) j = 0) ∧ OwnQ w4.heap.size wr v ((List.range k).map (fun k => intS l (k + 1))) cs ∧ Below w4.heap.size w4 wr) (fun _ i _ => l.length - (intOf i).toNat)
    case atStart => exact ⟨0, [], Nat.zero_le _, rfl, fun j hj => absurd hj (by omega), OwnQ.nil _ _, Below.refl _ _⟩
    case round =>
      obtain ⟨k, cs, hk, rfl, HE, HO, hb⟩ := hrel
      obtain ⟨wo, hwo⟩ : ∃ wo, wo = wr := ⟨wr, rfl⟩
      subst hwo
      have QR := (hb.block _ (lt_of_heap Q4)).trans Q4
      have hAr := chain hA4 hb
      by_cases hlt : k < l.length
      · obtain ⟨b, off, ai, ci, rfl, hbl, c0, z0, n0⟩ := (hD.next hAr).elem hlt
        have hkz : (k : Int) < (l.length : Int) := by omega
        by_cases hk0 : k = 0
        · have hkn0 : ¬ (0 : Int) < (k : Int) := by omega
          have eah : aheadL l k = [] := by rw [hk0]; rfl
          have ZA : ZsAt wo none (aheadL l k) := by rw [eah]; exact ⟨Nat.zero_le _, .inl rfl⟩
          have eal : (aheadL l k).length = 0 := by rw [eah]; rfl
          clear hk0 eah
          clear ZA eal
          go_upto_region 14 with fail
          go_loopw [9, 11, 38] (fun z e i ws => ∃ (j : Nat) (az : Option Addr) (cz : Nat), j ≤ k + 1 ∧ i = .int .i64 j ∧ z = .slice az (intS l j).length cz ∧ e = .int .i64 (preE l j) ∧ ZsAt ws az (intS l j) ∧ Below wo.heap.size wo ws) (fun _ _ i _ => k + 1 - (intOf i).toNat)
          case atStart => exact ⟨0, none, 0, Nat.zero_le _, rfl, rfl, rfl, ⟨Nat.zero_le _, .inl rfl⟩, Below.refl _ _⟩
          case round =>
            obtain ⟨j, az, cz, hj, rfl, rfl, rfl, zz, hb5⟩ := hrel
            by_cases hjl : j < k + 1
            · obtain ⟨bj, offj, aj2, cj2, ej, hblj, cc, zj, _⟩ := (hD.next (chain hAr hb5)).elem (i := j) (by omega)
              injection ej with ej
              injection ej with ejb ejo _
              subst ejb ejo
              have hjz : (j : Int) < (k : Int) + 1 := by omega
              have hjl2 : j < l.length := by omega
              have con := both_at 1 (by omega) az aj2 cz cj2 (intS l j) l[j] _ zz zj
              have eS : Hid (intS l (j + 1) = bothZ 1 (intS l j) l[j]) := by show bothZ 1 _ (l.getD j []) = _; rw [getD_at hjl2]
              have eE : Hid (preE l (j + 1) = bothE 1 (intS l j) l[j]) := by show bothE 1 _ (l.getD j []) = _; rw [getD_at hjl2]
              generalize bothZ 1 (intS l j) l[j] = zn at *
              generalize bothE 1 (intS l j) l[j] = en at *
              generalize l[j] = lj at *
              generalize intS l j = sj at *
              generalize preE l j = pj at *
              unfold Gives at con
              go_wp2_with fail
              refine con.mono ?_
              rintro e w9 ⟨⟨a9, c9, rfl, Z9⟩, hb9⟩
              have hb10 := chain hb5 hb9
              clear con zz zj cc hb9 hb5
              go_wp2_with fail
              go_roundw
              case rel => exact ⟨j + 1, a9, c9, by omega, by go_num, by rw [eS.out], by rw [eE.out], by rw [eS.out]; exact Z9, hb10⟩
              case measure => simp [intOf]; omega
            · have hjn : ¬ (j : Int) < (k : Int) + 1 := by omega
              have ej : j = k + 1 := by omega
              have HEk : Hid (intE l k = preE l j) := by show _ = _; rw [ej]; rfl
              have HZk : Hid (intS l (k + 1) = intS l j) := by show _ = _; rw [ej]
              have ZK := zz
              clear ej zz hjl
              generalize preE l j = ek at *
              generalize intS l j = zk at *
              obtain ⟨w5, hw5⟩ : ∃ w5, w5 = wr := ⟨wr, rfl⟩
              subst hw5
              by_cases h0 : ek = 0
              · have HE' : Hid (∀ j, j < k + 1 → (intE l) j = 0) := fun j hj => by
                  by_cases e : j = k
                  · rw [e]; exact HEk.out.trans h0
                  · exact HE.out j (by omega)
                subst h0
                have hal : Below w5.heap.size w5 (w5.alloc (.cells #[.slice az zk.length cz] 34)) := (Below.refl _ _).alloc (Nat.le_refl _) _
                have q6 := cell_of (i := 0) (heap_new w5 #[.slice az zk.length cz] 34) rfl
                have hb6 := chain hb5 hal
                have hb7 := chain hb hb6
                have O6 := HO.next hb6
                have ZK6 := ZK.next hal
                have HL : Hid (((List.range k).map (fun k => intS l (k + 1))).length = k) := by show _ = _; simp
                have HZs : Hid ((List.range (k + 1)).map (fun k => intS l (k + 1)) = (List.range k).map (fun k => intS l (k + 1)) ++ [zk]) := by show _ = _; rw [List.range_succ, List.map_append, ← HZk.out]; rfl
                have o6 := O6.own
                rw [HL.out] at o6
                have z7 := hb7.size
                clear HO hal hb5 hb6 ZK QR hAr HEk HZk
                go_wp2_with (at_builtin; refine wpList_append_sl rfl _ _ 22 rfl w4.heap.size 34 i0 Try.underlying22 hi hj0 hj1 hj2 _ k cs rfl o6 O6.all ⟨w5.heap.size, 0, none⟩ (.slice az zk.length cz) ⟨_, _, _, rfl⟩ q6 1 rfl (by omega) z7 ?_)
                intro v' w8 ho8 hg8 ha8
                have R8 := O6.push ZK6 (by rw [HL.out]; exact ho8) hg8 ha8
                rw [← HZs.out] at R8
                have hb8 := hb7.grown hg8 z7 (fun q hq => (o6.lt q hq).1)
                clear ho8 hg8 ha8 o6 O6 ZK6 q6 hb7
                go_wp2_with fail
                go_roundw
                case rel => exact ⟨k + 1, _, by omega, by go_num, HE', R8, hb8⟩
                case measure => simp [intOf]; omega
              · have hne : (ek != 0) = true := by simpa using h0
                have e1 : F = (ek, ((k : Nat) : Int)) := by rw [EF.out, ← HEk.out]; exact eachF_at (by omega) hlt HE.out (by rw [HEk.out]; exact h0)
                have e2' : zs = [] := by
                  rw [EZ.out]; unfold eachZ; rw [if_neg]
                  rw [← EF.out, e1]; exact h0
                clear EF EZ HO
                subst e1 e2'
                have Q5 := (hb5.block _ (lt_of_heap QR)).trans QR
                have hA5 := chain hAr hb5
                have f0 := cell_of (i := 0) Q5 rfl
                have f1 := cell_of (i := 1) Q5 rfl
                have y0 := frozen_of_row w5 w.heap.size 0 _ _ Q5
                have y1 := frozen_of_row w5 w.heap.size 1 _ _ Q5
                have QF := fset (x := .int .i64 ek) (y := .int .i64 (k : Nat)) Q5
                have hB := hA5.trans (fset_below (B := w.heap.size) (x := .int .i64 ek) (y := .int .i64 (k : Nat)) (Nat.le_refl _))
                have g0 := cell_of (i := 0) QF rfl
                have g1 := cell_of (i := 1) QF rfl
                clear QF Q5 QR hAr hA5 ZK
                go_wp2_with fail
                exact bodyPost_ret (v := .tuple #[.slice none 0 0, .agg #[.int .i64 ek, .int .i64 (k : Nat)]]) (by simp [results, Try.results9, go_sem, g0, g1]) rfl ⟨none, ⟨0, rfl⟩, .inl rfl, hB⟩
        · have hkp0 : (0 : Int) < (k : Int) := by omega
          obtain ⟨m, hm⟩ : ∃ m : Nat, k = m + 1 := ⟨k - 1, by omega⟩
          have hml : m < l.length := by omega
          obtain ⟨b', off', aj, cj, e', hbl', c1, ZA', _⟩ := (hD.next hAr).elem (i := m) hml
          injection e' with e'
          injection e' with eb eo _
          subst eb eo
          have eah : aheadL l k = l[m] := by rw [hm]; exact getD_at hml
          have ZA : ZsAt wo aj (aheadL l k) := by rw [eah]; exact ZA'
          have eal : (aheadL l k).length = l[m].length := by rw [eah]
          have hm1 : (k : Int) - 1 = (m : Int) := by omega
          have hm2 : (m : Int) < (l.length : Int) := by omega
          clear hk0 ZA' eah hm
          clear ZA eal
          go_upto_region 14 with fail
          go_loopw [9, 11, 38] (fun z e i ws => ∃ (j : Nat) (az : Option Addr) (cz : Nat), j ≤ k + 1 ∧ i = .int .i64 j ∧ z = .slice az (intS l j).length cz ∧ e = .int .i64 (preE l j) ∧ ZsAt ws az (intS l j) ∧ Below wo.heap.size wo ws) (fun _ _ i _ => k + 1 - (intOf i).toNat)
          case atStart => exact ⟨0, none, 0, Nat.zero_le _, rfl, rfl, rfl, ⟨Nat.zero_le _, .inl rfl⟩, Below.refl _ _⟩
          case round =>
            obtain ⟨j, az, cz, hj, rfl, rfl, rfl, zz, hb5⟩ := hrel
            by_cases hjl : j < k + 1
            · obtain ⟨bj, offj, aj2, cj2, ej, hblj, cc, zj, _⟩ := (hD.next (chain hAr hb5)).elem (i := j) (by omega)
              injection ej with ej
              injection ej with ejb ejo _
              subst ejb ejo
              have hjz : (j : Int) < (k : Int) + 1 := by omega
              have hjl2 : j < l.length := by omega
              have con := both_at 1 (by omega) az aj2 cz cj2 (intS l j) l[j] _ zz zj
              have eS : Hid (intS l (j + 1) = bothZ 1 (intS l j) l[j]) := by show bothZ 1 _ (l.getD j []) = _; rw [getD_at hjl2]
              have eE : Hid (preE l (j + 1) = bothE 1 (intS l j) l[j]) := by show bothE 1 _ (l.getD j []) = _; rw [getD_at hjl2]
              generalize bothZ 1 (intS l j) l[j] = zn at *
              generalize bothE 1 (intS l j) l[j] = en at *
              generalize l[j] = lj at *
              generalize intS l j = sj at *
              generalize preE l j = pj at *
              unfold Gives at con
              go_wp2_with fail
              refine con.mono ?_
              rintro e w9 ⟨⟨a9, c9, rfl, Z9⟩, hb9⟩
              have hb10 := chain hb5 hb9
              clear con zz zj cc hb9 hb5
              go_wp2_with fail
              go_roundw
              case rel => exact ⟨j + 1, a9, c9, by omega, by go_num, by rw [eS.out], by rw [eE.out], by rw [eS.out]; exact Z9, hb10⟩
              case measure => simp [intOf]; omega
            · have hjn : ¬ (j : Int) < (k : Int) + 1 := by omega
              have ej : j = k + 1 := by omega
              have HEk : Hid (intE l k = preE l j) := by show _ = _; rw [ej]; rfl
              have HZk : Hid (intS l (k + 1) = intS l j) := by show _ = _; rw [ej]
              have ZK := zz
              clear ej zz hjl
              generalize preE l j = ek at *
              generalize intS l j = zk at *
              obtain ⟨w5, hw5⟩ : ∃ w5, w5 = wr := ⟨wr, rfl⟩
              subst hw5
              by_cases h0 : ek = 0
              · have HE' : Hid (∀ j, j < k + 1 → (intE l) j = 0) := fun j hj => by
                  by_cases e : j = k
                  · rw [e]; exact HEk.out.trans h0
                  · exact HE.out j (by omega)
                subst h0
                have hal : Below w5.heap.size w5 (w5.alloc (.cells #[.slice az zk.length cz] 34)) := (Below.refl _ _).alloc (Nat.le_refl _) _
                have q6 := cell_of (i := 0) (heap_new w5 #[.slice az zk.length cz] 34) rfl
                have hb6 := chain hb5 hal
                have hb7 := chain hb hb6
                have O6 := HO.next hb6
                have ZK6 := ZK.next hal
                have HL : Hid (((List.range k).map (fun k => intS l (k + 1))).length = k) := by show _ = _; simp
                have HZs : Hid ((List.range (k + 1)).map (fun k => intS l (k + 1)) = (List.range k).map (fun k => intS l (k + 1)) ++ [zk]) := by show _ = _; rw [List.range_succ, List.map_append, ← HZk.out]; rfl
                have o6 := O6.own
                rw [HL.out] at o6
                have z7 := hb7.size
                clear HO hal hb5 hb6 ZK QR hAr HEk HZk
                go_wp2_with (at_builtin; refine wpList_append_sl rfl _ _ 22 rfl w4.heap.size 34 i0 Try.underlying22 hi hj0 hj1 hj2 _ k cs rfl o6 O6.all ⟨w5.heap.size, 0, none⟩ (.slice az zk.length cz) ⟨_, _, _, rfl⟩ q6 1 rfl (by omega) z7 ?_)
                intro v' w8 ho8 hg8 ha8
                have R8 := O6.push ZK6 (by rw [HL.out]; exact ho8) hg8 ha8
                rw [← HZs.out] at R8
                have hb8 := hb7.grown hg8 z7 (fun q hq => (o6.lt q hq).1)
                clear ho8 hg8 ha8 o6 O6 ZK6 q6 hb7
                go_wp2_with fail
                go_roundw
                case rel => exact ⟨k + 1, _, by omega, by go_num, HE', R8, hb8⟩
                case measure => simp [intOf]; omega
              · have hne : (ek != 0) = true := by simpa using h0
                have e1 : F = (ek, ((k : Nat) : Int)) := by rw [EF.out, ← HEk.out]; exact eachF_at (by omega) hlt HE.out (by rw [HEk.out]; exact h0)
                have e2' : zs = [] := by
                  rw [EZ.out]; unfold eachZ; rw [if_neg]
                  rw [← EF.out, e1]; exact h0
                clear EF EZ HO
                subst e1 e2'
                have Q5 := (hb5.block _ (lt_of_heap QR)).trans QR
                have hA5 := chain hAr hb5
                have f0 := cell_of (i := 0) Q5 rfl
                have f1 := cell_of (i := 1) Q5 rfl
                have y0 := frozen_of_row w5 w.heap.size 0 _ _ Q5
                have y1 := frozen_of_row w5 w.heap.size 1 _ _ Q5
                have QF := fset (x := .int .i64 ek) (y := .int .i64 (k : Nat)) Q5
                have hB := hA5.trans (fset_below (B := w.heap.size) (x := .int .i64 ek) (y := .int .i64 (k : Nat)) (Nat.le_refl _))
                have g0 := cell_of (i := 0) QF rfl
                have g1 := cell_of (i := 1) QF rfl
                clear QF Q5 QR hAr hA5 ZK
                go_wp2_with fail
                exact bodyPost_ret (v := .tuple #[.slice none 0 0, .agg #[.int .i64 ek, .int .i64 (k : Nat)]]) (by simp [results, Try.results9, go_sem, g0, g1]) rfl ⟨none, ⟨0, rfl⟩, .inl rfl, hB⟩
      · have e : k = l.length := by omega
        have hkn : ¬ (k : Int) < (l.length : Int) := by omega
        have e1 : F = (0, 0) := by rw [EF.out]; exact eachF_all (by omega) (fun j hj => HE.out j (by omega))
        have e2' : zs = (List.range k).map (fun k => intS l (k + 1)) := by rw [EZ.out, e]; exact eachZ_all (by omega) (fun j hj => HE.out j (by omega))
        subst e1
        rw [← e2'] at HO
        clear EZ EF e2'
        obtain ⟨av, cv, rfl, DV⟩ := HO.dt
        have f0 := cell_of (i := 0) QR rfl
        have f1 := cell_of (i := 1) QR rfl
        have y0 := frozen_of_row wo w.heap.size 0 _ _ QR
        have y1 := frozen_of_row wo w.heap.size 1 _ _ QR
        have QF := fset (x := .int .i64 0) (y := .int .i64 0) QR
        have hB := hAr.trans (fset_below (B := w.heap.size) (x := .int .i64 0) (y := .int .i64 0) (Nat.le_refl _))
        have SB := same_setA (i := 0) (v := .int .i64 0) QR rfl
        have QS := (SB.block _ (lt_of_heap QR)).trans QR
        have SB2 := same_setA (i := 1) (v := .int .i64 0) QS rfl
        have DF := (DV.next SB).next SB2
        have g0 := cell_of (i := 0) QF rfl
        have g1 := cell_of (i := 1) QF rfl
        clear QF QR hAr HO DV SB SB2 QS
        go_wp2_with fail
        exact bodyPost_ret (v := .tuple #[.slice av zs.length cv, .agg #[.int .i64 0, .int .i64 0]]) (by simp [results, Try.results9, go_sem, g0, g1]) rfl ⟨av, ⟨cv, rfl⟩, DF, hB⟩
  · have hne : (e1 != 0) = true := by simpa using hw
    have ew : ¬ (wrongsF l).1 = 0 := by rw [HW.out]; exact hw
    have EF : F = (e1, e2) := by rw [← HF.out]; unfold alongF; rw [if_neg ew, HW.out]
    have EZ : zs = [] := by rw [← HZ.out]; unfold alongZ alongF; rw [if_neg]; rw [if_neg ew]; exact ew
    subst EF EZ
    clear ew hw HW HF HZ
    have x0 := cell_of (i := 0) Q4 rfl
    have x1 := cell_of (i := 1) Q4 rfl
    have y0 := frozen_of_row _ w.heap.size 0 _ _ Q4
    have y1 := frozen_of_row _ w.heap.size 1 _ _ Q4
    have Q9 := fset (x := .int .i64 e1) (y := .int .i64 e2) Q4
    have hB : Below w.heap.size w (((w4.setCell ⟨w.heap.size, 0, none⟩ (.int .i64 e1)).setCell ⟨w.heap.size, 1, none⟩ (.int .i64 e2)).drew) := (hA4.trans (fset_below (B := w.heap.size) (x := .int .i64 e1) (y := .int .i64 e2) (Nat.le_refl _))).drew
    have g0 := cell_of (W := ((w4.setCell ⟨w.heap.size, 0, none⟩ (.int .i64 e1)).setCell ⟨w.heap.size, 1, none⟩ (.int .i64 e2)).drew) (i := 0) Q9 rfl
    have g1 := cell_of (W := ((w4.setCell ⟨w.heap.size, 0, none⟩ (.int .i64 e1)).setCell ⟨w.heap.size, 1, none⟩ (.int .i64 e2)).drew) (i := 1) Q9 rfl
    clear Q9 Q4 hA4
    go_upto_region 3 with fail
    go_region
    go_wp2_with fail
    exact bodyPost_ret (v := .tuple #[.slice none 0 0, .agg #[.int .i64 e1, .int .i64 e2]]) (by simp [results, Try.results9, go_sem, g0, g1]) rfl ⟨none, ⟨0, rfl⟩, .inl rfl, hB⟩
end Go.Proofs.Ytibobmkelmalkaa
