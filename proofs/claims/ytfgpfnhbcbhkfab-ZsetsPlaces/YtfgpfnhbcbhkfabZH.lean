/- The walk of tidelaw2.small, and of the three functions of tidelaw2.ZsetsGroup. -/
import Derived.Test.YtfgpfnhbcbhkfabP2
namespace Go.Proofs.Ytfgpfnhbcbhkfab
open Go.RowKit Go.Lib Go.Shelf

/-- A block holds slices of rows. -/
structure Sets (w : World) (B : Nat) (zs : List (List Zp)) : Prop where
  lt : B < w.heap.size
  at_ : ∀ k (h : k < zs.length), ∃ a cap, w.cell? ⟨B, k, none⟩ = some (.slice a zs[k].length cap) ∧ ZsAt w a zs[k]
theorem Sets.next {w w1 : World} {B : Nat} {zs : List (List Zp)} (h : Sets w B zs) (hb : Below w.heap.size w w1) : Sets w1 B zs :=
  ⟨Nat.lt_of_lt_of_le h.lt hb.size, fun k hk => by
    obtain ⟨a, cap, h1, h2⟩ := h.at_ k hk
    exact ⟨a, cap, (hb.cell (p := ⟨B, k, none⟩) h.lt).trans h1, h2.next hb⟩⟩
theorem smallW_drop (z : List Zp) (k : Nat) (h : k < z.length) : smallW (z.drop k) = ((!(decide (100000 < z[k].2)) && !(decide (z[k].2 < -100000))) && smallW (z.drop (k + 1))) := by
  rw [List.drop_eq_getElem_cons h]; rfl
theorem smallW_end (z : List Zp) (k : Nat) (h : z.length ≤ k) : smallW (z.drop k) = true := by rw [List.drop_eq_nil_of_le h]; rfl
theorem allS_drop (zs : List (List Zp)) (k : Nat) (h : k < zs.length) : (zs.drop k).all smallB = (smallB zs[k] && (zs.drop (k + 1)).all smallB) := by
  rw [List.drop_eq_getElem_cons h]; rfl
theorem allS_end (zs : List (List Zp)) (k : Nat) (h : zs.length ≤ k) : (zs.drop k).all smallB = true := by rw [List.drop_eq_nil_of_le h]; rfl

set_option maxHeartbeats 4000000 in
theorem small_at (B : Nat) (zs : List (List Zp)) (w : World) (h : Sets w B zs) (hl : zs.length ≤ 3) :
    Calls Try.prog 28 #[.slice (some ⟨B, 0, none⟩) zs.length zs.length] w fun e w' => e = .returned (.bool (zs.all smallB)) ∧ Below w.heap.size w w' := by
  go_enter Try.func28, Try.ntmps28
  go_wp2_with fail
  go_loopw [9] (fun i wr => ∃ k : Nat, k ≤ zs.length ∧ i = .int .i64 k ∧ Hid (zs.all smallB = (zs.drop k).all smallB) ∧ Below w.heap.size w wr) (fun i _ => zs.length - (intOf i).toNat)
  case atStart => exact ⟨0, Nat.zero_le _, rfl, rfl, Below.refl _ _⟩
  case round =>
    obtain ⟨k, hk, rfl, HC, hb⟩ := hrel
    by_cases hlt : k < zs.length
    · obtain ⟨a, cap, c0, z0⟩ := (h.next hb).at_ k hlt
      have HD : Hid (zs.all smallB = (smallB zs[k] && (zs.drop (k + 1)).all smallB)) := HC.out.trans (allS_drop zs k hlt)
      generalize hzk : zs[k] = z at *
      clear hzk
      by_cases hw : wrongZ z = 0
      · have Hw : Hid (wrongZ z = 0) := hw
        clear hw
        by_cases h100 : 100 < z.length
        · have HN : Hid (zs.all smallB = false) := by
            show _ = _
            rw [HD.out]
            have : smallB z = false := by unfold smallB; simp; intro _ h; omega
            rw [this]; rfl
          go_wp2_with fail
          refine (zWrong_at _ _ _ _ z0).mono ?_
          rintro e w1 ⟨rfl, hb1⟩
          rw [Hw.out]
          go_wp2_with fail
          go_ret
          exact ⟨ret_bool HN.out.symm, chain1 hb hb1⟩
        · have HS : Hid (smallB z = smallW z) := by
            show _ = _
            have : decide (z.length ≤ 100) = true := by simp; omega
            unfold smallB
            rw [this, Hw.out]; rfl
          go_wp2_with fail
          refine (zWrong_at _ _ _ _ z0).mono ?_
          rintro e w1 ⟨rfl, hb1⟩
          rw [Hw.out]
          have z1 := z0.next hb1
          have bb := chain1 hb hb1
          clear z0 c0
          go_wp2_with fail
          go_loopw [23] (fun i ws => ∃ j : Nat, j ≤ z.length ∧ i = .int .i64 j ∧ Hid (smallW z = smallW (z.drop j)) ∧ Below w1.heap.size w1 ws) (fun i _ => z.length - (intOf i).toNat)
          case atStart => exact ⟨0, Nat.zero_le _, rfl, rfl, Below.refl _ _⟩
          case round =>
            obtain ⟨j, hj, rfl, HJ, hs⟩ := hrel
            have hzs := hs.size
            by_cases hjl : j < z.length
            · obtain ⟨b, off, rfl, hbl, x1, ar, cr, x0, sr⟩ := (z1.next hs).elem hjl
              have HX : Hid (smallW z = ((!(decide (100000 < z[j].2)) && !(decide (z[j].2 < -100000))) && smallW (z.drop (j + 1)))) := HJ.out.trans (smallW_drop z j hjl)
              by_cases g1 : 100000 < z[j].2
              · have HN : Hid (zs.all smallB = false) := by
                  show _ = _
                  rw [HD.out, HS.out, HX.out]; simp [g1]
                go_wp2_with fail
                go_ret
                exact ⟨ret_bool HN.out.symm, (chain1 bb hs).alloc (Nat.le_trans bb.size hzs) _⟩
              · by_cases g2 : z[j].2 < -100000
                · have HN : Hid (zs.all smallB = false) := by
                    show _ = _
                    rw [HD.out, HS.out, HX.out]; simp [g2]
                  go_wp2_with fail
                  go_ret
                  exact ⟨ret_bool HN.out.symm, (chain1 bb hs).alloc (Nat.le_trans bb.size hzs) _⟩
                · have HN : Hid (smallW z = smallW (z.drop (j + 1))) := by
                    show _ = _
                    rw [HX.out]; simp [g1, g2]
                  go_wp2_with fail
                  go_roundw
                  case rel => exact ⟨j + 1, by omega, by go_num, HN.out, hs.alloc hzs _⟩
                  case measure => simp [intOf]; omega
            · have HN : Hid (zs.all smallB = (zs.drop (k + 1)).all smallB) := by
                show _ = _
                rw [HD.out, HS.out, HJ.out, smallW_end z j (by omega)]; rfl
              go_wp2_with fail
              go_roundw
              case rel => exact ⟨k + 1, by omega, by go_num, HN.out, chain1 bb hs⟩
              case measure => simp [intOf]; omega
      · have hne : (wrongZ z != 0) = true := by simpa using hw
        have HN : Hid (zs.all smallB = false) := by
          show _ = _
          rw [HD.out]
          have : smallB z = false := by unfold smallB; simp [hw]
          rw [this]; rfl
        go_wp2_with fail
        refine (zWrong_at _ _ _ _ z0).mono ?_
        rintro e w1 ⟨rfl, hb1⟩
        go_wp2_with fail
        go_ret
        exact ⟨ret_bool HN.out.symm, chain1 hb hb1⟩
    · go_wp2_with fail
      go_ret
      exact ⟨ret_bool (by rw [HC.out, allS_end zs k (by omega)]), hb⟩

set_option maxHeartbeats 400000 in
theorem clAdd_at (a b : Option Addr) (ca cb : Nat) (l l' : List Zp) (w : World) (h : ZsAt w a l) (h' : ZsAt w b l') (hn : a = none → ca = 0) :
    Calls Try.prog 29 #[.slice a l.length ca, .slice b l'.length cb] w fun e w' => ∃ v, e = .returned v ∧ OwnZ w.heap.size w' v (bothZ 1 l l') ∧ Below w.heap.size w w' := by
  go_enter Try.func29, Try.ntmps29
  go_wp2_with fail
  refine (add_at a b ca cb l l' w h h' hn).mono ?_
  rintro e w1 ⟨v, rfl, O1, hb1⟩
  obtain ⟨a1, c1, rfl, z1⟩ := O1.zs
  go_wp2_with fail
  go_ret
  exact ⟨_, rfl, O1, hb1⟩

set_option maxHeartbeats 400000 in
theorem clSub_at (a b : Option Addr) (ca cb : Nat) (l l' : List Zp) (w : World) (h : ZsAt w a l) (h' : ZsAt w b l') (hn : a = none → ca = 0) :
    Calls Try.prog 31 #[.slice a l.length ca, .slice b l'.length cb] w fun e w' => ∃ v, e = .returned v ∧ OwnZ w.heap.size w' v (bothZ (-1) l l') ∧ Below w.heap.size w w' := by
  go_enter Try.func31, Try.ntmps31
  go_wp2_with fail
  refine (sub_at a b ca cb l l' w h h' hn).mono ?_
  rintro e w1 ⟨v, rfl, O1, hb1⟩
  obtain ⟨a1, c1, rfl, z1⟩ := O1.zs
  go_wp2_with fail
  go_ret
  exact ⟨_, rfl, O1, hb1⟩

set_option maxHeartbeats 400000 in
theorem clNeg_at (a : Option Addr) (ca : Nat) (l : List Zp) (w : World) (h : ZsAt w a l) :
    Calls Try.prog 30 #[.slice a l.length ca] w fun e w' => ∃ v, e = .returned v ∧ OwnZ w.heap.size w' v (setZ (fun w => -w) l) ∧ Below w.heap.size w w' := by
  go_enter Try.func30, Try.ntmps30
  go_wp2_with fail
  refine (neg_at a ca l w h).mono ?_
  rintro e w1 ⟨v, rfl, O1, hb1⟩
  obtain ⟨a1, c1, rfl, z1⟩ := O1.zs
  go_wp2_with fail
  go_ret
  exact ⟨_, rfl, O1, hb1⟩
end Go.Proofs.Ytfgpfnhbcbhkfab
