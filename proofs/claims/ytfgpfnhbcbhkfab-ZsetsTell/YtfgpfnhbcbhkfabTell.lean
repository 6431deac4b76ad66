/- The walk of tidelaw2.ZsetsTell. -/
import Derived.Test.YtfgpfnhbcbhkfabR4
namespace Go.Proofs.Ytfgpfnhbcbhkfab
open Go.RowKit Go.Lib Go.Shelf

set_option maxHeartbeats 8000000 in
theorem tell_walk (a : Option Addr) (cap : Nat) (l : List Zp) (c : Option Addr) (cr : Nat) (r : List Vl) (w : World) (h : ZsAt w a l) (h' : SlAt w c r) (_n : a = none → cap = 0) :
    Calls Try.prog 3 #[.slice a l.length cap, .slice c r.length cr] w fun e w' => e = .returned (.bool true) ∧ Below w.heap.size w w' := by
  by_cases hw : wrongZ l = 0
  · have Hw : Hid (wrongZ l = 0) := hw
    have hok := (wrongZ_iff l).1 hw
    by_cases hr : wrongRowF r = 0
    · have Hr : Hid (wrongRowF r = 0) := hr
      clear hw hr
      go_enter Try.func3, Try.ntmps3
      go_wp2_with fail
      refine (zWrong_at _ _ _ _ h).mono ?_
      rintro e w1 ⟨rfl, hb1⟩
      have z1 := h.next hb1
      go_wp2_with fail
      refine (refWrongZ_at _ _ _ _ z1).mono ?_
      rintro e w2 ⟨rfl, hb2⟩
      have z2 := z1.next hb2
      go_wp2_with fail
      refine (of_at _ _ _ _ z2).mono ?_
      rintro e w3 ⟨v3, rfl, O3, hb3⟩
      obtain ⟨a3, c3, rfl, y3⟩ := O3.zs
      have z3 := z2.next hb3
      have rc := refOf_at a cap l w3 z3
      unfold Gives at rc
      clear O3
      go_wp2_with fail
      refine rc.mono ?_
      clear rc
      rintro e w4 ⟨⟨a4, c4, rfl, y4⟩, hb4⟩
      have z4 := z3.next hb4
      go_wp2_with fail
      refine (same_eq _ _ _ _ _ _ (y3.next hb4) y4).mono ?_
      rintro e w5 ⟨rfl, hb5⟩
      have z5 := z4.next hb5
      have bw := chain1 (chain1 (chain1 (chain1 hb1 hb2) hb3) hb4) hb5
      have r5 := h'.next bw
      clear y3 y4 z1 z2 z3 z4
      go_wp2_with fail
      refine (refWrongZ_at _ _ _ _ z5).mono ?_
      rintro e w6 ⟨rfl, hb6⟩
      rw [Hw.out]
      have z6 := z5.next hb6
      have r6 := r5.next hb6
      go_wp2_with fail
      refine (refRow_at _ _ _ _ r6).mono ?_
      rintro e w7 ⟨rfl, hb7⟩
      rw [Hr.out]
      have z7 := z6.next hb7
      have r7 := r6.next hb7
      go_wp2_with fail
      refine (weight_at _ _ _ _ _ _ _ z7 r7 hok.2.2 (by omega)).mono ?_
      rintro e w8 ⟨rfl, hb8⟩
      go_wp2_with fail
      refine (refWeight_at _ _ _ _ _ _ _ (z7.next hb8) (r7.next hb8) hok.2.2 (by omega) (fun x hx => ((wrongRowF_zero _).1 (hok.2.1 x hx).1).2)).mono ?_
      rintro e w9 ⟨rfl, hb9⟩
      go_wp2_with fail
      go_ret
      exact ⟨ret_bool (by simp), chain1 (chain1 (chain1 (chain1 bw hb6) hb7) hb8) hb9⟩
    · have hne : (wrongRowF r != 0) = true := by simpa using hr
      clear hw hr
      go_enter Try.func3, Try.ntmps3
      go_wp2_with fail
      refine (zWrong_at _ _ _ _ h).mono ?_
      rintro e w1 ⟨rfl, hb1⟩
      have z1 := h.next hb1
      go_wp2_with fail
      refine (refWrongZ_at _ _ _ _ z1).mono ?_
      rintro e w2 ⟨rfl, hb2⟩
      have z2 := z1.next hb2
      go_wp2_with fail
      refine (of_at _ _ _ _ z2).mono ?_
      rintro e w3 ⟨v3, rfl, O3, hb3⟩
      obtain ⟨a3, c3, rfl, y3⟩ := O3.zs
      have z3 := z2.next hb3
      have rc := refOf_at a cap l w3 z3
      unfold Gives at rc
      clear O3
      go_wp2_with fail
      refine rc.mono ?_
      clear rc
      rintro e w4 ⟨⟨a4, c4, rfl, y4⟩, hb4⟩
      have z4 := z3.next hb4
      go_wp2_with fail
      refine (same_eq _ _ _ _ _ _ (y3.next hb4) y4).mono ?_
      rintro e w5 ⟨rfl, hb5⟩
      have z5 := z4.next hb5
      have bw := chain1 (chain1 (chain1 (chain1 hb1 hb2) hb3) hb4) hb5
      have r5 := h'.next bw
      clear y3 y4 z1 z2 z3 z4
      go_wp2_with fail
      refine (refWrongZ_at _ _ _ _ z5).mono ?_
      rintro e w6 ⟨rfl, hb6⟩
      rw [Hw.out]
      have r6 := r5.next hb6
      go_wp2_with fail
      refine (refRow_at _ _ _ _ r6).mono ?_
      rintro e w7 ⟨rfl, hb7⟩
      go_wp2_with fail
      go_ret
      exact ⟨rfl, chain1 (chain1 bw hb6) hb7⟩
  · have hne : (wrongZ l != 0) = true := by simpa using hw
    clear hw
    go_enter Try.func3, Try.ntmps3
    go_wp2_with fail
    refine (zWrong_at _ _ _ _ h).mono ?_
    rintro e w1 ⟨rfl, hb1⟩
    have z1 := h.next hb1
    go_wp2_with fail
    refine (refWrongZ_at _ _ _ _ z1).mono ?_
    rintro e w2 ⟨rfl, hb2⟩
    have z2 := z1.next hb2
    go_wp2_with fail
    refine (of_at _ _ _ _ z2).mono ?_
    rintro e w3 ⟨v3, rfl, O3, hb3⟩
    obtain ⟨a3, c3, rfl, y3⟩ := O3.zs
    have z3 := z2.next hb3
    have rc := refOf_at a cap l w3 z3
    unfold Gives at rc
    clear O3
    go_wp2_with fail
    refine rc.mono ?_
    clear rc
    rintro e w4 ⟨⟨a4, c4, rfl, y4⟩, hb4⟩
    have z4 := z3.next hb4
    go_wp2_with fail
    refine (same_eq _ _ _ _ _ _ (y3.next hb4) y4).mono ?_
    rintro e w5 ⟨rfl, hb5⟩
    have z5 := z4.next hb5
    have bw := chain1 (chain1 (chain1 (chain1 hb1 hb2) hb3) hb4) hb5
    have r5 := h'.next bw
    clear y3 y4 z1 z2 z3 z4
    go_wp2_with fail
    refine (refWrongZ_at _ _ _ _ z5).mono ?_
    rintro e w6 ⟨rfl, hb6⟩
    go_wp2_with fail
    go_ret
    exact ⟨rfl, chain1 bw hb6⟩
end Go.Proofs.Ytfgpfnhbcbhkfab
