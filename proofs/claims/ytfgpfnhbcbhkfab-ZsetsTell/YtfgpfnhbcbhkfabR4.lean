/- The walks of the document's Of and Weight. -/
import Derived.Test.YtfgpfnhbcbhkfabR3
namespace Go.Proofs.Ytfgpfnhbcbhkfab
open Go.RowKit Go.Lib Go.Shelf

set_option maxHeartbeats 2000000 in
theorem refOf_at (a : Option Addr) (cap : Nat) (l : List Zp) (w : World) (h : ZsAt w a l) :
    Calls Try.prog 12 #[.slice a l.length cap] w (Gives (ofZ l) (ofE l) w) := by
  have hl := h.1
  unfold maxLen at hl
  unfold Gives
  by_cases h16 : 1600 < l.length
  · have e : ofE l = 5 := by simp [ofE, h16]
    have e' : ofZ l = [] := by simp [ofZ, e]
    rw [e, e']
    go_enter Try.func12, Try.ntmps12
    go_wp2_with fail
    exact bodyPost_ret (v := .tuple #[.slice none 0 0, .int .i64 5]) (by simp [results, Try.results12, go_sem]) rfl ⟨⟨none, 0, rfl, zs_nil _⟩, Below.refl _ _⟩
  · have hof : ofE l = if goO l = 0 then gatherE l else goO l := by simp [ofE, h16]
    have HOf : Hid (ofE l = if goO l = 0 then gatherE l else goO l) := hof
    clear hof
    go_enter Try.func12, Try.ntmps12
    go_wp2_with fail
    go_loopw [12] (fun i wr => ∃ k : Nat, k ≤ l.length ∧ i = .int .i64 k ∧ Hid (goO l = goO (l.drop k)) ∧ Below w.heap.size w wr) (fun i _ => l.length - (intOf i).toNat)
    case atStart => exact ⟨0, Nat.zero_le _, rfl, rfl, Below.refl _ _⟩
    case round =>
      obtain ⟨k, hk, rfl, HC, hb⟩ := hrel
      have hz := hb.size
      by_cases hlt : k < l.length
      · obtain ⟨b, off, rfl, hbl, c1, ar, cr, c0, sr⟩ := (h.next hb).elem hlt
        have HZ : Hid (ZsAt w (some ⟨b, off, none⟩) l) := h
        clear h
        by_cases hw : wrongRowF l[k].1 = 0
        · have Hw : Hid (wrongRowF l[k].1 = 0) := hw
          clear hw
          go_wp2_with fail
          refine (refRow_at _ _ _ _ (sr.next ((Below.refl _ _).alloc (Nat.le_refl _) _))).mono ?_
          rintro e w1 ⟨rfl, hb1⟩
          rw [Hw.out]
          have hb1' := chain2 hb hb1
          have e1 : w1.cell? ⟨wr.heap.size, 1, none⟩ = some (.int .i64 l[k].2) := (hb1.cell (p := ⟨wr.heap.size, 1, none⟩) (by simp)).trans (by simp)
          cases h1 : inW l[k].2
          · have HN : Hid (ofE l = 3) := by
              show ofE l = 3
              have := HC.out.trans (goO_w l k hlt Hw.out h1)
              rw [HOf.out, this]; rfl
            have HF : Hid (ofZ l = []) := by show ofZ l = []; unfold ofZ; rw [HN.out]; rfl
            have H1 : Hid (inW l[k].2 = false) := h1
            clear h1
            go_wp2_with fail
            refine (refBig_any _ _).mono ?_
            rintro e w2 ⟨rfl, rfl⟩
            rw [H1.out]
            go_wp2_with fail
            exact bodyPost_ret (v := .tuple #[.slice none 0 0, .int .i64 3]) (by simp [results, Try.results12, go_sem]) rfl ⟨⟨none, 0, by rw [HN.out, HF.out]; rfl, by rw [HF.out]; exact zs_nil _⟩, hb1'⟩
          · have H1 : Hid (inW l[k].2 = true) := h1
            clear h1
            go_wp2_with fail
            refine (refBig_any _ _).mono ?_
            rintro e w2 ⟨rfl, rfl⟩
            rw [H1.out]
            go_wp2_with fail
            go_roundw
            case rel => exact ⟨k + 1, by omega, by go_num, HC.out.trans (goO_next l k hlt Hw.out H1.out), hb1'⟩
            case measure => simp [intOf]; omega
        · have Hw : Hid (¬ wrongRowF l[k].1 = 0) := hw
          have hne : (wrongRowF l[k].1 != 0) = true := by simpa using hw
          have HN : Hid (ofE l = wrongRowF l[k].1) := by
            show ofE l = _
            have := HC.out.trans (goO_row l k hlt hw)
            rw [HOf.out, this, if_neg hw]
          have HF : Hid (ofZ l = []) := by show ofZ l = []; unfold ofZ; rw [HN.out, if_neg hw]
          clear hw
          go_wp2_with fail
          refine (refRow_at _ _ _ _ (sr.next ((Below.refl _ _).alloc (Nat.le_refl _) _))).mono ?_
          rintro e w1 ⟨rfl, hb1⟩
          go_wp2_with fail
          exact bodyPost_ret (v := .tuple #[.slice none 0 0, .int .i64 (wrongRowF l[k].1)]) (by simp [results, Try.results12, go_sem]) rfl ⟨⟨none, 0, by rw [HN.out, HF.out]; rfl, by rw [HF.out]; exact zs_nil _⟩, chain2 hb hb1⟩
      · have e : k = l.length := by omega
        subst e
        have g0 : goO l = 0 := HC.out.trans (goO_end l _ (Nat.le_refl _))
        have hall := (goO_iff l).1 g0
        have HN : Hid (ofE l = gatherE l) := by
          show ofE l = _
          rw [HOf.out, if_pos g0]
        have HF : Hid (ofZ l = gatherZ l) := by show ofZ l = gatherZ l; unfold ofZ gatherZ; rw [HN.out]
        have sc := sum_at a cap l _ (h.next hb) (by omega) hall
        unfold Gives at sc
        clear hall g0
        go_wp2_with fail
        refine sc.mono ?_
        clear sc
        rintro e w1 ⟨⟨a1, c1, rfl, z1⟩, hb1⟩
        go_wp2_with fail
        exact bodyPost_ret (v := .tuple #[.slice a1 (gatherZ l).length c1, .int .i64 (gatherE l)]) (by simp [results, Try.results12, go_sem]) rfl ⟨⟨a1, c1, by rw [HN.out, HF.out], by rw [HF.out]; exact z1⟩, chain1 hb hb1⟩

set_option maxHeartbeats 2000000 in
theorem refWeight_at (a a' : Option Addr) (cap cap' : Nat) (l : List Zp) (r : List Vl) (w : World) (h : ZsAt w a l) (h' : SlAt w a' r) (hr : Rise l) (hl : l.length ≤ 100000) (hright : ∀ x ∈ l, rightB x.1 = true) :
    Calls Try.prog 16 #[.slice a l.length cap, .slice a' r.length cap'] w fun e w' => e = .returned (.int .i64 (wt l r)) ∧ Below w.heap.size w w' := by
  have HRt : Hid (∀ x ∈ l, rightB x.1 = true) := hright
  clear hright
  go_enter Try.func16, Try.ntmps16
  go_wp2_with fail
  go_loopw [9] (fun i wr => ∃ k : Nat, k ≤ l.length ∧ i = .int .i64 k ∧ Hid (∀ t (ht : t < l.length), t < k → ¬ cmpL l[t].1 r = 0) ∧ Below w.heap.size w wr) (fun i _ => l.length - (intOf i).toNat)
  case atStart => exact ⟨0, Nat.zero_le _, rfl, fun t _ ht => absurd ht (Nat.not_lt_zero _), Below.refl _ _⟩
  case round =>
    obtain ⟨k, hk, rfl, HN, hb⟩ := hrel
    have hz := hb.size
    by_cases hlt : k < l.length
    · obtain ⟨b, off, rfl, hbl, c1, ar, cr, c0, sr⟩ := (h.next hb).elem hlt
      have bN : Below wr.heap.size wr (wr.alloc (.cells #[.slice ar l[k].1.length cr, .int .i64 l[k].2] 42)) := (Below.refl _ _).alloc (Nat.le_refl _) _
      have q1 : (wr.alloc (.cells #[.slice ar l[k].1.length cr, .int .i64 l[k].2] 42)).cell? ⟨wr.heap.size, 1, none⟩ = some (.int .i64 l[k].2) := by simp
      have rc := refRows_at ar a' cr cap' l[k].1 r _ (sr.next bN) ((h'.next hb).next bN) (HRt.out _ (List.getElem_mem hlt))
      by_cases hc : cmpL l[k].1 r = 0
      · have HW : Hid (wt l r = l[k].2) := wt_found hr hlt hc
        have b0 : (cmpL l[k].1 r == 0) = true := by simpa using hc
        clear hc
        go_wp2_with fail
        refine rc.mono ?_
        clear rc
        rintro e w1 ⟨rfl, hb1⟩
        have q2 := (hb1.cell (p := ⟨wr.heap.size, 1, none⟩) (by simp)).trans q1
        go_wp2_with fail
        go_ret
        exact ⟨ret_int HW.out.symm, chain1 (chain1 hb bN) hb1⟩
      · have HC : Hid (¬ cmpL l[k].1 r = 0) := hc
        have b0 : (cmpL l[k].1 r == 0) = false := by simpa using hc
        clear hc
        go_wp2_with fail
        refine rc.mono ?_
        clear rc
        rintro e w1 ⟨rfl, hb1⟩
        go_wp2_with fail
        go_roundw
        case rel => exact ⟨k + 1, by omega, by go_num, fun t ht htk => by
          by_cases e : t = k
          · subst e; exact HC.out
          · exact HN.out t ht (by omega), chain1 (chain1 hb bN) hb1⟩
        case measure => simp [intOf]; omega
    · have HW : Hid (wt l r = 0) := wt_none fun x hx => by
        obtain ⟨t, ht, rfl⟩ := List.getElem_of_mem hx
        exact HN.out t ht (by omega)
      go_wp2_with fail
      go_ret
      exact ⟨ret_int HW.out.symm, hb⟩
end Go.Proofs.Ytfgpfnhbcbhkfab
