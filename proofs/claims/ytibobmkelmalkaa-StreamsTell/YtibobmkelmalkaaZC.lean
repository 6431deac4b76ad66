/- The walks of the document's Same at sets that are the same, and of tidelaw2.alive. -/
import Derived.Test.YtibobmkelmalkaaZB
namespace Go.Proofs.Ytibobmkelmalkaa
open Go.RowKit Go.Lib Go.Shelf

theorem eql_val (w : World) (k n : Int) (s : ByteArray) :
    (binOp .neq 47 (.agg #[.int .i64 k, .int .i64 n, .string s]) (.agg #[.int .i64 k, .int .i64 n, .string s])).run Try.prog w = .ok (.bool false) w := by
  rw [run_neq_struct, run_equalIn_struct w 9999 47 _ _ (by kernel_rfl) (by kernel_rfl)]
  simp [Program.fieldsOf, Try.underlying47, go_sem]

set_option maxHeartbeats 2000000 in
theorem same_eq (a a' : Option Addr) (cap cap' : Nat) (z : List Zp) (w : World) (h : ZsAt w a z) (h' : ZsAt w a' z) :
    Calls Try.prog 14 #[.slice a z.length cap, .slice a' z.length cap'] w fun e w' => e = .returned (.bool true) ∧ Below w.heap.size w w' := by
  have hl := h.1
  unfold maxLen at hl
  go_enter Try.func14, Try.ntmps14
  go_wp2_with fail
  go_loopw [14] (fun i wr => ∃ k : Nat, k ≤ z.length ∧ i = .int .i64 k ∧ Below w.heap.size w wr) (fun i _ => z.length - (intOf i).toNat)
  case atStart => exact ⟨0, Nat.zero_le _, rfl, Below.refl _ _⟩
  case round =>
    obtain ⟨k, hk, rfl, hb⟩ := hrel
    by_cases hlt : k < z.length
    · obtain ⟨b, off, rfl, hbl, c1, ar, cr, c0, sr⟩ := (h.next hb).elem hlt
      obtain ⟨b', off', rfl, hbl', d1, br, dr, d0, tr⟩ := (h'.next hb).elem hlt
      have i0 : (0 : Int) ≤ (k : Int) := by omega
      have i1 : (k : Int) < (z.length : Int) := by omega
      have p0 := past_cell c0
      have p1 := past_cell c1
      have p2 := past_cell d0
      have p3 := past_cell d1
      haveI : Nonempty (Past wr) := ⟨⟨wr, Below.refl _ _⟩⟩
      go_wp2_with fail
      refine wp_region_past (by kernel_rfl) (by kernel_rfl) ?_
      repeat (go_big_quiet_step (fail))
      refine wpQuiet_nil ?_
      rintro w2 ⟨⟨v2, hb2⟩, h2⟩
      obtain rfl : w2 = v2 := h2
      have q0 := (hb2.cell (p := ⟨b, _, none⟩) hbl).trans c0
      have q2 := (hb2.cell (p := ⟨b', _, none⟩) hbl').trans d0
      have sr2 := sr.next hb2
      have tr2 := tr.next hb2
      have hb2' := chain1 hb hb2
      have hbl2 := Nat.lt_of_lt_of_le hbl hb2.size
      have hbl2' := Nat.lt_of_lt_of_le hbl' hb2.size
      have hrl := sr.1
      unfold maxLen at hrl
      clear p0 p1 p2 p3 c0 c1 d0 d1 sr tr
      go_wp2_with fail
      go_loopw [49] (fun i ws => ∃ j : Nat, j ≤ z[k].1.length ∧ i = .int .i64 j ∧ Below w2.heap.size w2 ws) (fun i _ => z[k].1.length - (intOf i).toNat)
      case atStart => exact ⟨0, Nat.zero_le _, rfl, Below.refl _ _⟩
      case round =>
        obtain ⟨j, hj, rfl, hs⟩ := hrel
        by_cases hjl : j < z[k].1.length
        · obtain ⟨x, xo, rfl, xl, x0, x1, x2⟩ := (sr2.next hs).elem hjl
          obtain ⟨y, yo, rfl, yl, y0, y1, y2⟩ := (tr2.next hs).elem hjl
          have r0 := past_cell ((hs.cell (p := ⟨b, _, none⟩) hbl2).trans q0)
          have r2 := past_cell ((hs.cell (p := ⟨b', _, none⟩) hbl2').trans q2)
          have j0 : (0 : Int) ≤ (j : Int) := by omega
          have j1 : (j : Int) < (z[k].1.length : Int) := by omega
          have s0 := past_cell x0
          have s1 := past_cell x1
          have s2 := past_cell x2
          have s3 := past_cell y0
          have s4 := past_cell y1
          have s5 := past_cell y2
          have ev := fun w' => eql_val w' z[k].1[j].1 z[k].1[j].2.1 z[k].1[j].2.2
          haveI : Nonempty (Past wr) := ⟨⟨wr, Below.refl _ _⟩⟩
          go_wp2_with fail
          refine wp_region_past (by kernel_rfl) (by kernel_rfl) ?_
          repeat (go_big_quiet_step (fail))
          refine wpQuiet_nil ?_
          rintro w3 ⟨⟨v3, hb3⟩, h3⟩
          obtain rfl : w3 = v3 := h3
          go_wp2_with fail
          go_roundw
          case rel => exact ⟨j + 1, by omega, by go_num, chain1 hs hb3⟩
          case measure => simp [intOf]; omega
        · go_wp2_with fail
          go_roundw
          case rel => exact ⟨k + 1, by omega, by go_num, chain1 hb2' hs⟩
          case measure => simp [intOf]; omega
    · go_wp2_with fail
      go_ret
      exact ⟨rfl, hb⟩
end Go.Proofs.Ytibobmkelmalkaa
