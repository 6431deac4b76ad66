/- The walk of tidelaw4.OpsFirst. -/
import Derived.Test.YtajbjhaoeeiigaaGreatB9
import Derived.Test.YtajbjhaoeeiigaaGreatB8
import Derived.Laws.EntriesVeiled
namespace Go.Proofs.YtajbjhaoeeiigaaGreat
open Go.RowKit Go.Lib Go.Shelf

theorem ks_one (w : World) {B : Nat} {x : Ex} (ax : Option Addr) (cx : Nat) (hB : B ≤ w.heap.size) (kx : KsAt B w ax x.ks) :
    KsAt (w.heap.size + 1) (w.alloc (.cells #[.int .i64 x.k, .int .i64 x.v.1, .int .i64 x.v.2.1, .string x.v.2.2, .int .i64 x.c, .slice ax x.ks.length cx] 32)) (some ⟨w.heap.size, 0, none⟩) [x] := by
  have hal : Below w.heap.size w (w.alloc (.cells #[.int .i64 x.k, .int .i64 x.v.1, .int .i64 x.v.2.1, .string x.v.2.2, .int .i64 x.c, .slice ax x.ks.length cx] 32)) := (Below.refl _ _).alloc (Nat.le_refl _) _
  have Kx := (KsAt.next hal hB kx).up (Nat.le_succ_of_le hB)
  refine .some w.heap.size 0 _ (fun _ => ax) (fun _ => cx) (Nat.lt_succ_self _) (fun i hi => ?_) (fun i hi => ?_)
  · match i, hi with
    | 0, _ => exact ⟨by simp, by simp, by simp, by simp, by simp, by simp⟩
  · match i, hi with
    | 0, _ => exact Kx
/-- A variable of values: what lies in it. -/
structure VarV (W : World) (b : Nat) (v : Vl) : Prop where
  c0 : W.cell? ⟨b, 0, none⟩ = some (.int .i64 v.1)
  c1 : W.cell? ⟨b, 1, none⟩ = some (.int .i64 v.2.1)
  c2 : W.cell? ⟨b, 2, none⟩ = some (.string v.2.2)
  f : ∀ i, W.frozen? ⟨b, i, none⟩ = false
  lt : b < W.heap.size
theorem VarV.next {W w1 : World} {b : Nat} {v : Vl} (h : VarV W b v) (hb : Below W.heap.size W w1) : VarV w1 b v := by
  refine ⟨(hb.cell (p := ⟨b, 0, none⟩) h.lt).trans h.c0, (hb.cell (p := ⟨b, 1, none⟩) h.lt).trans h.c1, (hb.cell (p := ⟨b, 2, none⟩) h.lt).trans h.c2, fun i => ?_, Nat.lt_of_lt_of_le h.lt hb.size⟩
  have k := hb.block b h.lt
  have := h.f i
  unfold World.frozen? at this ⊢
  rw [k]; exact this
theorem VarV.new (W : World) (T : TypeId) : VarV (W.alloc (.cells #[.int .i64 0, .int .i64 0, .string ⟨#[]⟩] T)) W.heap.size vl0 := ⟨by simp [vl0], by simp [vl0], by simp [vl0], fun i => World.frozen?_alloc_at _ _ _ _ (by simp), by simp⟩
theorem VarV.put {W : World} {b : Nat} {v : Vl} (h : VarV W b v) (u : Vl) : VarV (((W.setCell ⟨b, 0, none⟩ (.int .i64 u.1)).setCell ⟨b, 1, none⟩ (.int .i64 u.2.1)).setCell ⟨b, 2, none⟩ (.string u.2.2)) b u := by
  obtain ⟨p0, p1, p2⟩ := put3_at (.int .i64 u.1) (.int .i64 u.2.1) (.string u.2.2) h.c0 h.c1 h.c2
  exact ⟨p0, p1, p2, fun i => by rw [World.frozen?_setCell, World.frozen?_setCell, World.frozen?_setCell]; exact h.f i, by simpa using h.lt⟩
theorem tot_take {t : List Zp} {k : Nat} (h : k < t.length) : tot one1 (t.take (k + 1)) = tot one1 (t.take k) + t[k].2 := by
  rw [List.take_succ_eq_append_getElem h, tot_append]
  simp [tot, one1]
theorem posW_append : ∀ a b : List Zp, posW (a ++ b) = posW a + posW b
  | [], b => by simp [posW]
  | x :: r, b => by rw [List.cons_append, posW, posW, posW_append r b]; omega
theorem posW_take {t : List Zp} {k : Nat} (h : k < t.length) : posW (t.take (k + 1)) = posW (t.take k) + (if 0 < t[k].2 then t[k].2 else 0) := by
  rw [List.take_succ_eq_append_getElem h, posW_append]
  simp [posW]

set_option maxRecDepth 100000 in
set_option maxHeartbeats 8000000 in
theorem first_walk (ca : Option Addr) (ccap : Nat) (cols : List Int) (key n : Int) (a : Option Addr) (cap : Nat) (l : List Zp) (w : World)
    (hc : IsAt w.heap.size w ca cols) (_lo1 : -9223372036854775808 ≤ key) (_hi1 : key ≤ 9223372036854775807) (lo2 : -9223372036854775808 ≤ n) (hi2 : n ≤ 9223372036854775807) (h : ZsAt w a l) (_na : a = none → cap = 0) :
    Calls Tryz.prog 4 #[.slice ca cols.length ccap, .int .i64 key, .int .i64 n, .slice a l.length cap] w fun e w' => e = .returned (.bool true) ∧ Below w.heap.size w w' := by
  go_enter Tryz.func4, Tryz.ntmps4
  go_wp2_with fail
  refine (alive_at w).mono ?_
  rintro e w1 ⟨rfl, hb1⟩
  dsimp only
  go_wp2_with fail
  refine (col_at key w1).mono ?_
  rintro e w2 ⟨rfl, hb2⟩
  have hA2 := chain hb1 hb2
  dsimp only
  have h3 : Below w2.heap.size w2 (w2.alloc (.cells #[.int .i64 2, .int .i64 vl0.1, .int .i64 vl0.2.1, .string vl0.2.2, .int .i64 key, .slice none 0 0] 32)) := (Below.refl _ _).alloc (Nat.le_refl _) _
  have K3 : KsAt (w2.heap.size + 1) (w2.alloc (.cells #[.int .i64 2, .int .i64 vl0.1, .int .i64 vl0.2.1, .string vl0.2.2, .int .i64 key, .slice none 0 0] 32)) (some ⟨w2.heap.size, 0, none⟩) [colE key] := ks_one w2 (B := w2.heap.size) (x := colE key) none 0 (Nat.le_refl _) (.nil _)
  have z3 : (w2.alloc (.cells #[.int .i64 2, .int .i64 vl0.1, .int .i64 vl0.2.1, .string vl0.2.2, .int .i64 key, .slice none 0 0] 32)).heap.size = w2.heap.size + 1 := by simp
  have hA3 := chain hA2 h3
  have con := top_at cols [colE key] n ⟨lo2, hi2⟩ ca ccap (some ⟨w2.heap.size, 0, none⟩) 1 a cap l _ ((hc.next hA3 (Nat.le_refl _)).up hA3.size) (K3.up (by omega)) (h.next hA3)
  rw [List.length_singleton] at con
  generalize ht : topE cols [colE key] n l = te at con
  generalize hz : topZ cols [colE key] n l = t at con
  have HT : Hid (topE cols [colE key] n l = te) := ht
  have HZ : Hid (topZ cols [colE key] n l = t) := hz
  clear ht hz K3
  go_wp2_with fail
  generalize w2.alloc (.cells #[.int .i64 2, .int .i64 vl0.1, .int .i64 vl0.2.1, .string vl0.2.2, .int .i64 key, .slice none 0 0] 32) = w3 at *
  refine con.mono ?_
  rintro e w4 ⟨v4, rfl, O4, hb4⟩
  obtain ⟨a4, c4, rfl, zs4⟩ := O4.zs
  clear con O4
  have hA4 := chain hA3 hb4
  dsimp only
  by_cases h0 : te = 0
  · subst h0
    have FO : FirstOk cols key n l t := by rw [← HZ.out]; exact first_ok HT.out
    have HFO : Hid (FirstOk cols key n l t) := FO
    have k0 := FO.k0
    have k1 := FO.k1
    have n0 := FO.n0.1
    have n1 := FO.n0.2
    have htl := FO.len
    have hl4 := set_len FO.inp
    have HRl : Hid (Rise l) := ((wrongZ_iff l).1 FO.inp.set).2.2
    clear FO HT HZ
    have h5 : Below w4.heap.size w4 (w4.alloc (.cells #[.int .i64 0, .int .i64 0, .string ⟨#[]⟩] 30)) := (Below.refl _ _).alloc (Nat.le_refl _) _
    have V5 := VarV.new w4 30
    go_wp2_with fail
    generalize w4.alloc (.cells #[.int .i64 0, .int .i64 0, .string ⟨#[]⟩] 30) = w5 at *
    go_loopw [11, 37] (fun s11 i wr => ∃ (k : Nat) (s : Int) (lv : Vl), k ≤ t.length ∧ i = .int .i64 k ∧ s11 = .int .i64 s ∧ 0 ≤ s ∧ s ≤ k * 1000000 ∧ Hid (s = tot one1 (t.take k)) ∧ VarV wr w4.heap.size lv ∧ Hid (0 < k → ∃ y ∈ t, lv = y.1.getD key.toNat vl0) ∧ Below w4.heap.size w4 wr) (fun _ i _ => t.length - (intOf i).toNat)
    case atStart => exact ⟨0, 0, vl0, Nat.zero_le _, rfl, rfl, by omega, by omega, rfl, V5, fun h => absurd h (Nat.lt_irrefl _), h5⟩
    case round =>
      clear V5 h5
      obtain ⟨k, s, lv, hk, rfl, rfl, hs0, hs1, HS, V, HL, hb⟩ := hrel
      have hzr := hb.size
      by_cases hlt : k < t.length
      · have hrow := HFO.out.row t[k] (List.getElem_mem hlt)
        have hw6 := HFO.out.w6 t[k] (List.getElem_mem hlt)
        have hrl : key < (t[k].1.length : Int) := by omega
        have hkn : key.toNat < t[k].1.length := by omega
        have hw1 : ¬ t[k].2 < 1 := by omega
        have hw2 : ¬ wt l t[k].1 < t[k].2 := by omega
        obtain ⟨b, off, rfl, hbl, c1, ar, cr, c0, sr⟩ := (zs4.next hb).elem hlt
        have hal : Below wr.heap.size wr (wr.alloc (.cells #[.slice ar t[k].1.length cr, .int .i64 t[k].2] 38)) := (Below.refl _ _).alloc (Nat.le_refl _) _
        have q0 : (wr.alloc (.cells #[.slice ar t[k].1.length cr, .int .i64 t[k].2] 38)).cell? ⟨wr.heap.size, 0, none⟩ = some (.slice ar t[k].1.length cr) := by simp
        have q1 : (wr.alloc (.cells #[.slice ar t[k].1.length cr, .int .i64 t[k].2] 38)).cell? ⟨wr.heap.size, 1, none⟩ = some (.int .i64 t[k].2) := by simp
        have za : (wr.alloc (.cells #[.slice ar t[k].1.length cr, .int .i64 t[k].2] 38)).heap.size = wr.heap.size + 1 := by simp
        have sr1 := sr.next hal
        have V1 := V.next hal
        have zl := h.next (chain (chain hA4 hb) hal)
        have hsw : IntKind.i64.wrap (s + t[k].2) = s + t[k].2 := IntWalk.i64_in _ ⟨by omega, by omega⟩
        have HTT : Hid (tot one1 (t.take (k + 1)) = tot one1 (t.take k) + t[k].2) := tot_take hlt
        have eg : t[k].1.getD key.toNat vl0 = t[k].1[key.toNat] := by simp [List.getD, hkn]
        have HEG : Hid (t[k].1.getD key.toNat vl0 = t[k].1[key.toNat]) := eg
        clear sr V eg hrow
        go_wp2_with fail
        clear c0 c1
        generalize wr.alloc (.cells #[.slice ar t[k].1.length cr, .int .i64 t[k].2] 38) = wa at *
        have p0 := past_cell q0
        have p1 := past_cell q1
        haveI : Nonempty (Past wa) := ⟨⟨wa, Below.refl _ _⟩⟩
        have hg1 : decide (t[k].2 < 1) = false := decide_eq_false (by omega)
        have hg2 : decide (wt l t[k].1 < t[k].2) = false := decide_eq_false (by omega)
        refine wp_region_past (by kernel_rfl) (by kernel_rfl) ?_
        repeat (go_big_quiet_step (first | (go_at_call 13; exact in_past (weight_at a ar cap cr l t[k].1 _ (zl.next (Past.ok _)) (sr1.next (Past.ok _)) HRl.out (by omega)))))
        refine wpQuiet_nil ?_
        rintro w6 ⟨⟨v6, hb6⟩, h6⟩
        obtain rfl : w6 = v6 := h6
        clear p0 p1 zl
        have q0 := (hb6.cell (p := ⟨wr.heap.size, 0, none⟩) (by show wr.heap.size < _; omega)).trans q0
        have q1 := (hb6.cell (p := ⟨wr.heap.size, 1, none⟩) (by show wr.heap.size < _; omega)).trans q1
        have sr2 := sr1.next hb6
        have V2 := V1.next hb6
        have hB := chain (chain hb hal) hb6
        obtain ⟨b2, off2, rfl, hbl2, d0, d1, d2⟩ := sr2.elem hkn
        obtain ⟨v0, v1, v2, vf, vl⟩ := V2
        clear sr1 V1 hal hb6
        have hz6 : wr.heap.size < w6.heap.size := World.block_lt_of_cell? _ _ q0
        go_wp2_with fail
        have p0 := past_cell q0
        have pv0 := past_cell v0
        have pv1 := past_cell v1
        have pv2 := past_cell v2
        have pd0 := past_cell d0
        have pd1 := past_cell d1
        have pd2 := past_cell d2
        haveI : Nonempty (Past w6) := ⟨⟨w6, Below.refl _ _⟩⟩
        by_cases hk0 : k = 0
        · have hkz : ((k : Int) == 0) = true := by simp [hk0]
          have HK0 : Hid (k = 0) := hk0
          clear hk0
          refine wp_region_past (by kernel_rfl) (by kernel_rfl) ?_
          repeat (go_big_quiet_step (fail))
          refine wpQuiet_nil ?_
          rintro w7 ⟨⟨v7, hb7⟩, h7⟩
          obtain rfl : w7 = v7 := h7
          clear p0 pv0 pv1 pv2 pd0 pd1 pd2
          have q0 := (hb7.cell (p := ⟨wr.heap.size, 0, none⟩) hz6).trans q0
          have V7 : VarV w7 w4.heap.size lv := VarV.next ⟨v0, v1, v2, vf, vl⟩ hb7
          have d0 := (hb7.cell (p := ⟨b2, _, none⟩) hbl2).trans d0
          have d1 := (hb7.cell (p := ⟨b2, _, none⟩) hbl2).trans d1
          have d2 := (hb7.cell (p := ⟨b2, _, none⟩) hbl2).trans d2
          have hB7 := chain hB hb7
          obtain ⟨v0, v1, v2, vf, vl⟩ := V7
          have vf0 := vf 0
          have vf1 := vf 1
          have vf2 := vf 2
          go_wp2_with fail
          go_roundw
          case rel => exact ⟨k + 1, s + t[k].2, t[k].1[key.toNat], by omega, by go_num, rfl, by omega, by omega, by show _ = _; rw [HTT.out, ← HS.out], VarV.put ⟨v0, v1, v2, vf, vl⟩ t[k].1[key.toNat], fun _ => ⟨t[k], List.getElem_mem hlt, HEG.out.symm⟩, put3_below _ _ _ hB7 (Nat.le_refl _)⟩
          case measure => simp [intOf]; omega
        · have hkz : ((k : Int) == 0) = false := by simp [hk0]
          obtain ⟨y, hy, ey⟩ := HL.out (by omega)
          have hkd := HFO.out.kind y hy
          rw [← ey] at hkd
          have hkd1 := hkd.1
          have hkd2 := hkd.2
          have HY : Hid (∃ y ∈ t, lv = y.1.getD key.toNat vl0) := ⟨y, hy, ey⟩
          clear hkd ey hy y hk0
          by_cases hcmp : cmpP lv t[k].1[key.toNat] < 0
          · have hcv : cmpV lv.1 lv.2.1 lv.2.2 t[k].1[key.toNat].1 t[k].1[key.toNat].2.1 t[k].1[key.toNat].2.2 < 0 := hcmp
            have hg : decide (cmpV lv.1 lv.2.1 lv.2.2 t[k].1[key.toNat].1 t[k].1[key.toNat].2.1 t[k].1[key.toNat].2.2 < 0) = true := by simpa using hcv
            clear hcmp
            refine wp_region_past (by kernel_rfl) (by kernel_rfl) ?_
            repeat (go_big_quiet_step (first | (go_at_call 14; exact in_past (refOrder_any _ _ _ _ _ _ _ hkd1 hkd2))))
            refine wpQuiet_nil ?_
            rintro w7 ⟨⟨v7, hb7⟩, h7⟩
            obtain rfl : w7 = v7 := h7
            clear p0 pv0 pv1 pv2 pd0 pd1 pd2
            have q0 := (hb7.cell (p := ⟨wr.heap.size, 0, none⟩) hz6).trans q0
            have V7 : VarV w7 w4.heap.size lv := VarV.next ⟨v0, v1, v2, vf, vl⟩ hb7
            have d0 := (hb7.cell (p := ⟨b2, _, none⟩) hbl2).trans d0
            have d1 := (hb7.cell (p := ⟨b2, _, none⟩) hbl2).trans d1
            have d2 := (hb7.cell (p := ⟨b2, _, none⟩) hbl2).trans d2
            have hB7 := chain hB hb7
            obtain ⟨v0, v1, v2, vf, vl⟩ := V7
            have vf0 := vf 0
            have vf1 := vf 1
            have vf2 := vf 2
            go_wp2_with fail
            go_roundw
            case rel => exact ⟨k + 1, s + t[k].2, t[k].1[key.toNat], by omega, by go_num, rfl, by omega, by omega, by show _ = _; rw [HTT.out, ← HS.out], VarV.put ⟨v0, v1, v2, vf, vl⟩ t[k].1[key.toNat], fun _ => ⟨t[k], List.getElem_mem hlt, HEG.out.symm⟩, put3_below _ _ _ hB7 (Nat.le_refl _)⟩
            case measure => simp [intOf]; omega
          · have hcv : ¬ cmpV lv.1 lv.2.1 lv.2.2 t[k].1[key.toNat].1 t[k].1[key.toNat].2.1 t[k].1[key.toNat].2.2 < 0 := hcmp
            have hg : decide (cmpV lv.1 lv.2.1 lv.2.2 t[k].1[key.toNat].1 t[k].1[key.toNat].2.1 t[k].1[key.toNat].2.2 < 0) = false := by simpa using hcv
            clear hcmp
            refine wp_region_past (by kernel_rfl) (by kernel_rfl) ?_
            repeat (go_big_quiet_step (first | (go_at_call 14; exact in_past (refOrder_any _ _ _ _ _ _ _ hkd1 hkd2))))
            refine wpQuiet_nil ?_
            rintro w7 ⟨⟨v7, hb7⟩, h7⟩
            obtain rfl : w7 = v7 := h7
            clear p0 pv0 pv1 pv2 pd0 pd1 pd2
            have V7 : VarV w7 w4.heap.size lv := VarV.next ⟨v0, v1, v2, vf, vl⟩ hb7
            have hB7 := chain hB hb7
            clear v0 v1 v2 d0 d1 d2 q0 q1 vf hb7 hB
            go_wp2_with fail
            go_roundw
            case rel => exact ⟨k + 1, s + t[k].2, lv, by omega, by go_num, rfl, by omega, by omega, by show _ = _; rw [HTT.out, ← HS.out], V7, fun _ => HY.out, hB7⟩
            case measure => simp [intOf]; omega
      · have e : k = t.length := by omega
        subst e
        rw [List.take_length] at HS
        have hsum := HFO.out.sum
        rw [← HS.out] at hsum
        have HSM : Hid (s = min n (posW l)) := hsum
        have hLast : 0 < t.length → ∃ y ∈ t, lv = y.1.getD key.toNat vl0 := HL.out
        have HLast : Hid (0 < t.length → ∃ y ∈ t, lv = y.1.getD key.toNat vl0) := hLast
        have HRest : Hid (∀ r ∈ l, 0 < r.2 → wt t r.1 < r.2 → s = n ∧ ∀ y ∈ t, 0 ≤ cmpP (r.1.getD key.toNat vl0) (y.1.getD key.toNat vl0)) := fun r h1 h2 h3 => by
          obtain ⟨g1, g2⟩ := HFO.out.rest r h1 h2 h3
          exact ⟨by rw [HS.out]; exact g1, g2⟩
        clear hsum hLast
        obtain ⟨wz, hwz⟩ : ∃ z, z = wr := ⟨_, rfl⟩
        subst hwz
        have hAz := chain hA4 hb
        have zsz := zs4.next hb
        have zlz := h.next hAz
        go_wp2_with fail
        go_loopw [12, 78] (fun s12 i wr => ∃ (j : Nat) (sa : Int), j ≤ l.length ∧ i = .int .i64 j ∧ s12 = .int .i64 sa ∧ 0 ≤ sa ∧ sa ≤ j * 1000000 ∧ Hid (sa = posW (l.take j)) ∧ Below wz.heap.size wz wr) (fun _ i _ => l.length - (intOf i).toNat)
        case atStart => exact ⟨0, 0, Nat.zero_le _, rfl, rfl, by omega, by omega, rfl, Below.refl _ _⟩
        case round =>
          obtain ⟨j, sa, hj, rfl, rfl, ha0, ha1, HSA, hbj⟩ := hrel
          by_cases hlt : j < l.length
          · have hin := set_in HFO.out.inp l[j] (List.getElem_mem hlt)
            rw [inW_iff] at hin
            have hfl := (HFO.out.inp.fit l[j] (List.getElem_mem hlt)).len
            have hrl : key < (l[j].1.length : Int) := by omega
            have hkn : key.toNat < l[j].1.length := by omega
            clear hfl
            obtain ⟨b, off, rfl, hbl, c1, ar, cr, c0, sr⟩ := (zlz.next hbj).elem hlt
            have hal : Below wr.heap.size wr (wr.alloc (.cells #[.slice ar l[j].1.length cr, .int .i64 l[j].2] 38)) := (Below.refl _ _).alloc (Nat.le_refl _) _
            have HPT : Hid (posW (l.take (j + 1)) = posW (l.take j) + (if 0 < l[j].2 then l[j].2 else 0)) := posW_take hlt
            have hBj := chain hbj hal
            by_cases hpos : l[j].2 ≤ 0
            · have HP : Hid (¬ 0 < l[j].2) := by show ¬ _; omega
              clear sr
              go_wp2_with fail
              go_roundw
              case rel => exact ⟨j + 1, sa, by omega, by go_num, rfl, by omega, by omega, by show _ = _; rw [HPT.out, if_neg HP.out, ← HSA.out]; omega, hBj⟩
              case measure => simp [intOf]; omega
            · have HP : Hid (0 < l[j].2) := by show 0 < _; omega
              have hsw : IntKind.i64.wrap (sa + l[j].2) = sa + l[j].2 := IntWalk.i64_in _ ⟨by omega, by omega⟩
              have q0 : (wr.alloc (.cells #[.slice ar l[j].1.length cr, .int .i64 l[j].2] 38)).cell? ⟨wr.heap.size, 0, none⟩ = some (.slice ar l[j].1.length cr) := by simp
              have q1 : (wr.alloc (.cells #[.slice ar l[j].1.length cr, .int .i64 l[j].2] 38)).cell? ⟨wr.heap.size, 1, none⟩ = some (.int .i64 l[j].2) := by simp
              have sr1 := sr.next hal
              have zt := zsz.next hBj
              have V1 := V.next hBj
              obtain ⟨v0, v1, v2, _, _⟩ := V1
              obtain ⟨b2, off2, rfl, hbl2, d0, d1, d2⟩ := sr1.elem hkn
              have hkz := HFO.out.kindz l[j] (List.getElem_mem hlt)
              have eg : l[j].1.getD key.toNat vl0 = l[j].1[key.toNat] := by simp [List.getD, hkn]
              rw [eg] at hkz
              have hkd1 := hkz.1
              have hkd2 := hkz.2
              have HEG : Hid (l[j].1.getD key.toNat vl0 = l[j].1[key.toNat]) := eg
              clear sr eg hkz
              go_wp2_with fail
              clear c0 c1
              generalize wr.alloc (.cells #[.slice (some ⟨b2, off2, none⟩) l[j].1.length cr, .int .i64 l[j].2] 38) = wa at *
              have p0 := past_cell q0
              have p1 := past_cell q1
              have pv0 := past_cell v0
              have pv1 := past_cell v1
              have pv2 := past_cell v2
              have pd0 := past_cell d0
              have pd1 := past_cell d1
              have pd2 := past_cell d2
              haveI : Nonempty (Past wa) := ⟨⟨wa, Below.refl _ _⟩⟩
              have hRt := HFO.out.set.rise
              by_cases hless : wt t l[j].1 < l[j].2
              · obtain ⟨hsn, hord⟩ := HRest.out l[j] (List.getElem_mem hlt) HP.out hless
                have hns : ¬ s < n := by omega
                by_cases ht0 : 0 < t.length
                · have ht0z : (0 : Int) < (t.length : Int) := by omega
                  obtain ⟨y, hy, ey⟩ := HLast.out ht0
                  have ho := hord y hy
                  rw [← ey, HEG.out] at ho
                  have hcv : ¬ cmpV l[j].1[key.toNat].1 l[j].1[key.toNat].2.1 l[j].1[key.toNat].2.2 lv.1 lv.2.1 lv.2.2 < 0 := by
                    show ¬ cmpP l[j].1[key.toNat] lv < 0
                    omega
                  have hg1 : decide (wt t l[j].1 < l[j].2) = true := decide_eq_true hless
                  have hg2 : decide ((0 : Int) < (t.length : Int)) = true := decide_eq_true ht0z
                  have hg3 : decide (cmpV l[j].1[key.toNat].1 l[j].1[key.toNat].2.1 l[j].1[key.toNat].2.2 lv.1 lv.2.1 lv.2.2 < 0) = false := decide_eq_false hcv
                  have hg4 : decide (s < n) = false := decide_eq_false hns
                  clear hord ho ey hy y hsn
                  refine wp_region_past (by kernel_rfl) (by kernel_rfl) ?_
                  repeat (go_big_quiet_step (first | (go_at_call 13; exact in_past (weight_at a4 _ c4 cr t l[j].1 _ (zt.next (Past.ok _)) (sr1.next (Past.ok _)) hRt (by omega))) | (go_at_call 14; exact in_past (refOrder_any _ _ _ _ _ _ _ hkd1 hkd2))))
                  refine wpQuiet_nil ?_
                  rintro w7 ⟨⟨v7, hb7⟩, h7⟩
                  obtain rfl : w7 = v7 := h7
                  clear p0 p1 pv0 pv1 pv2 pd0 pd1 pd2
                  have hB7 := chain hBj hb7
                  clear v0 v1 v2 d0 d1 d2 q0 q1 hb7
                  go_wp2_with fail
                  go_roundw
                  case rel => exact ⟨j + 1, sa + l[j].2, by omega, by go_num, rfl, by omega, by omega, by show _ = _; rw [HPT.out, if_pos HP.out, ← HSA.out], hB7⟩
                  case measure => simp [intOf]; omega
                · have ht0z : ¬ (0 : Int) < (t.length : Int) := by omega
                  have hg1 : decide (wt t l[j].1 < l[j].2) = true := decide_eq_true hless
                  have hg2 : decide ((0 : Int) < (t.length : Int)) = false := decide_eq_false ht0z
                  have hg4 : decide (s < n) = false := decide_eq_false hns
                  clear hord hsn
                  refine wp_region_past (by kernel_rfl) (by kernel_rfl) ?_
                  repeat (go_big_quiet_step (first | (go_at_call 13; exact in_past (weight_at a4 _ c4 cr t l[j].1 _ (zt.next (Past.ok _)) (sr1.next (Past.ok _)) hRt (by omega)))))
                  refine wpQuiet_nil ?_
                  rintro w7 ⟨⟨v7, hb7⟩, h7⟩
                  obtain rfl : w7 = v7 := h7
                  clear p0 p1 pv0 pv1 pv2 pd0 pd1 pd2
                  have hB7 := chain hBj hb7
                  clear v0 v1 v2 d0 d1 d2 q0 q1 hb7
                  go_wp2_with fail
                  go_roundw
                  case rel => exact ⟨j + 1, sa + l[j].2, by omega, by go_num, rfl, by omega, by omega, by show _ = _; rw [HPT.out, if_pos HP.out, ← HSA.out], hB7⟩
                  case measure => simp [intOf]; omega
              · have hg1 : decide (wt t l[j].1 < l[j].2) = false := decide_eq_false hless
                refine wp_region_past (by kernel_rfl) (by kernel_rfl) ?_
                repeat (go_big_quiet_step (first | (go_at_call 13; exact in_past (weight_at a4 _ c4 cr t l[j].1 _ (zt.next (Past.ok _)) (sr1.next (Past.ok _)) hRt (by omega)))))
                refine wpQuiet_nil ?_
                rintro w7 ⟨⟨v7, hb7⟩, h7⟩
                obtain rfl : w7 = v7 := h7
                clear p0 p1 pv0 pv1 pv2 pd0 pd1 pd2
                have hB7 := chain hBj hb7
                clear v0 v1 v2 d0 d1 d2 q0 q1 hb7
                go_wp2_with fail
                go_roundw
                case rel => exact ⟨j + 1, sa + l[j].2, by omega, by go_num, rfl, by omega, by omega, by show _ = _; rw [HPT.out, if_pos HP.out, ← HSA.out], hB7⟩
                case measure => simp [intOf]; omega
          · have e : j = l.length := by omega
            subst e
            rw [List.take_length] at HSA
            have hAz2 := chain hAz hbj
            by_cases hsn : s = n
            · have hsz : (s == n) = true := by simpa using hsn
              clear hsn
              go_wp2_with fail
              go_ret
              exact ⟨rfl, hAz2⟩
            · have hsz : (s == n) = false := by simpa using hsn
              have h1 := HSM.out
              have h2 := HSA.out
              have hsa : (s == sa) = true := by simp; omega
              have hlt2 : s < n := by omega
              clear hsn h1 h2
              go_wp2_with fail
              go_ret
              exact ⟨rfl, hAz2⟩
  · have e1 : t = [] := by rw [← HZ.out]; unfold topZ; rw [HT.out, if_neg h0]
    subst e1
    have hne : (te != 0) = true := by simpa using h0
    clear h0
    go_wp2_with fail
    go_ret
    exact ⟨rfl, hA4⟩
end Go.Proofs.YtajbjhaoeeiigaaGreat
