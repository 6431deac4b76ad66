/- The walk of exprs.Fits. -/
import Derived.Test.YtbdhmjojamoafaaY2
import Derived.Test.YtbdhmjojamoafaaX1
namespace Go.Proofs.Ytbdhmjojamoafaa
open Go.RowKit

theorem fitsG_end (cols : List Int) (row : List Vl) (k : Nat) (h : row.length ≤ k) : fitsG (cols.drop k) (row.drop k) = 0 := by
  rw [List.drop_eq_nil_of_le h]; cases cols.drop k <;> rfl
theorem fitsG_wrong (cols : List Int) (row : List Vl) (k : Nat) (h : k < row.length) (h' : k < cols.length) (e : ¬ wrongP row[k] = 0) : fitsG (cols.drop k) (row.drop k) = wrongP row[k] := by
  rw [List.drop_eq_getElem_cons h, List.drop_eq_getElem_cons h', fitsG, if_pos e]
theorem fitsG_type (cols : List Int) (row : List Vl) (k : Nat) (h : k < row.length) (h' : k < cols.length) (e : wrongP row[k] = 0) (e1 : ¬ row[k].1 = 1) (e2 : ¬ row[k].1 = cols[k]) : fitsG (cols.drop k) (row.drop k) = 9 := by
  rw [List.drop_eq_getElem_cons h, List.drop_eq_getElem_cons h', fitsG, if_neg (by simp [e]), if_pos ⟨e1, e2⟩]
theorem fitsG_next (cols : List Int) (row : List Vl) (k : Nat) (h : k < row.length) (h' : k < cols.length) (e : wrongP row[k] = 0) (e1 : row[k].1 = 1 ∨ row[k].1 = cols[k]) : fitsG (cols.drop k) (row.drop k) = fitsG (cols.drop (k + 1)) (row.drop (k + 1)) := by
  rw [List.drop_eq_getElem_cons h, List.drop_eq_getElem_cons h', fitsG, if_neg (by simp [e]), if_neg (by omega)]

set_option maxHeartbeats 2000000 in
theorem fits_at (cols : List Int) (row : List Vl) (ca : Option Addr) (ccap : Nat) (ra : Option Addr) (rcap : Nat) (w : World) (hc : IsAt w.heap.size w ca cols) (hs : SlAt w ra row) :
    Calls Try.prog 11 #[.slice ca cols.length ccap, .slice ra row.length rcap] w fun e w' => e = .returned (.int .i64 (fitsL cols row)) ∧ Below w.heap.size w w' := by
  have hl := hs.1
  unfold maxLen at hl
  generalize hr : fitsL cols row = r
  have HR : Hid (fitsL cols row = r) := hr
  clear hr
  by_cases hlen : row.length = cols.length
  · have HG : Hid (fitsG cols row = r) := by show fitsG cols row = r; rw [← HR.out, fitsL, if_neg (by simp [hlen])]
    have HL : Hid (row.length = cols.length) := hlen
    have q : ((row.length : Int) != (cols.length : Int)) = false := by simp; omega
    clear HR hlen
    go_enter Try.func11, Try.ntmps11
    go_wp2_with fail
    go_loopw [15] (fun i wr => ∃ j : Nat, j ≤ row.length ∧ i = .int .i64 j ∧ Hid (fitsG cols row = fitsG (cols.drop j) (row.drop j)) ∧ Below w.heap.size w wr) (fun i _ => row.length - (intOf i).toNat)
    case atStart => exact ⟨0, Nat.zero_le _, rfl, rfl, Below.refl _ _⟩
    case round =>
      obtain ⟨j, hj, rfl, HE, hb⟩ := hrel
      have hz := hb.size
      by_cases hlt : j < row.length
      · have hlt' : j < cols.length := by have := HL.out; omega
        obtain ⟨b, off, rfl, hbl, r0, r1, r2⟩ := (hs.next hb).elem hlt
        obtain ⟨b', off', rfl, hbl', c0⟩ := (hc.next hb (Nat.le_refl _)).elem hlt'
        generalize hv : row[j] = v at *
        generalize hcj : cols[j] = cj at *
        have HV : Hid (row[j] = v) := hv
        have HC : Hid (cols[j] = cj) := hcj
        clear hv hcj
        obtain ⟨k, n, s⟩ := v
        have A0 := Box.new wr (.int .i64 k) (.int .i64 n) (.string s) 24
        have d0 : (wr.alloc (.cells #[.int .i64 k, .int .i64 n, .string s] 24)).cell? ⟨b', off' + j, none⟩ = some (.int .i64 cj) := by
          rw [World.cell?_alloc_lt _ _ _ (by show b' < wr.heap.size; omega)]; exact c0
        go_wp2_with fail
        refine (wrong_any _ _ _ _).mono ?_
        rintro e w1 ⟨rfl, hb1⟩
        have hb1' := hb.trans (below1 hb1 |>.mono hz)
        have A1 := A0.next hb1
        have c1 := (hb1.cell (p := ⟨b', off' + j, none⟩) (by simp; omega)).trans d0
        clear r0 r1 r2 c0 A0 d0
        by_cases hw : wrongF k n s = 0
        · rw [hw]
          have HW : Hid (wrongP row[j] = 0) := by show wrongP row[j] = 0; rw [HV.out]; exact hw
          clear hw
          have p0 := past_cell A1.c0
          have p1 := past_cell c1
          haveI : Nonempty (Past w1) := ⟨⟨_, Below.refl _ _⟩⟩
          by_cases k1 : k = 1
          · subst k1
            have HN : Hid (fitsG (cols.drop j) (row.drop j) = fitsG (cols.drop (j + 1)) (row.drop (j + 1))) := fitsG_next cols row j hlt hlt' HW.out (.inl (by rw [HV.out]))
            go_wp2_with fail
            refine wp_region_past (by kernel_rfl) (by kernel_rfl) ?_
            repeat (go_big_quiet_step (fail))
            refine wpQuiet_nil ?_
            rintro w2 ⟨⟨v2, hb2⟩, h2⟩
            obtain rfl : w2 = v2 := h2
            clear p0 p1 A1 c1
            go_wp2_with fail
            go_roundw
            case rel => exact ⟨j + 1, by omega, by go_num, HE.out.trans HN.out, chain hb1' hb2⟩
            case measure => simp [intOf]; omega
          have q1 : (k != 1) = true := by simpa using k1
          by_cases kc : k = cj
          · subst kc
            have HN : Hid (fitsG (cols.drop j) (row.drop j) = fitsG (cols.drop (j + 1)) (row.drop (j + 1))) := fitsG_next cols row j hlt hlt' HW.out (.inr (by rw [HV.out, HC.out]))
            go_wp2_with fail
            refine wp_region_past (by kernel_rfl) (by kernel_rfl) ?_
            repeat (go_big_quiet_step (fail))
            refine wpQuiet_nil ?_
            rintro w2 ⟨⟨v2, hb2⟩, h2⟩
            obtain rfl : w2 = v2 := h2
            clear p0 p1 A1 c1
            go_wp2_with fail
            go_roundw
            case rel => exact ⟨j + 1, by omega, by go_num, HE.out.trans HN.out, chain hb1' hb2⟩
            case measure => simp [intOf]; omega
          have q2 : (k != cj) = true := by simpa using kc
          have er : r = 9 := by rw [← HG.out, HE.out, fitsG_type cols row j hlt hlt' HW.out (by rw [HV.out]; exact k1) (by rw [HV.out, HC.out]; exact kc)]
          subst er
          clear HG HE
          go_wp2_with fail
          refine wp_region_past (by kernel_rfl) (by kernel_rfl) ?_
          repeat (go_big_quiet_step (fail))
          refine wpQuiet_nil ?_
          rintro w2 ⟨⟨v2, hb2⟩, h2⟩
          obtain rfl : w2 = v2 := h2
          clear p0 p1 A1 c1
          go_wp2_with fail
          go_ret
          exact ⟨rfl, chain hb1' hb2⟩
        · have er : r = wrongF k n s := by rw [← HG.out, HE.out, fitsG_wrong cols row j hlt hlt' (by rw [HV.out]; exact hw), HV.out]; rfl
          subst er
          clear HG HE
          have q3 : (wrongF k n s != 0) = true := by simpa using hw
          go_wp2_with fail
          go_ret
          exact ⟨rfl, hb1'⟩
      · have er : r = 0 := by rw [← HG.out, HE.out, fitsG_end cols row j (by omega)]
        subst er
        clear HG HE
        go_wp2_with fail
        go_ret
        exact ⟨rfl, hb⟩
  · have er : r = 8 := by rw [← HR.out, fitsL, if_pos hlen]
    subst er
    have q : ((row.length : Int) != (cols.length : Int)) = true := by simp; omega
    clear HR
    go_enter Try.func11, Try.ntmps11
    go_wp2_with fail
    go_ret
    exact ⟨rfl, Below.refl _ _⟩
end Go.Proofs.Ytbdhmjojamoafaa
