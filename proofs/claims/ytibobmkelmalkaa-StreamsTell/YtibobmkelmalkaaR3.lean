/- The walks of the document's Wrong, Fit, Sum, Of and Weight. -/
import Derived.Test.YtibobmkelmalkaaR2
namespace Go.Proofs.Ytibobmkelmalkaa
open Go.RowKit Go.Lib Go.Shelf

set_option maxRecDepth 100000 in
set_option maxHeartbeats 4000000 in
theorem refWrongZ_at (a : Option Addr) (cap : Nat) (l : List Zp) (w : World) (h : ZsAt w a l) :
    Calls Try.prog 33 #[.slice a l.length cap] w fun e w' => e = .returned (.int .i64 (wrongZ l)) ∧ Below w.heap.size w w' := by
  have hl := h.1
  unfold maxLen at hl
  by_cases h8 : 400 < l.length
  · have e : wrongZ l = 5 := by simp [wrongZ, h8]
    rw [e]
    clear e
    go_enter Try.func33, Try.ntmps33
    go_wp2_with fail
    go_ret
    exact ⟨rfl, Below.refl _ _⟩
  · have e : wrongZ l = goW none l := by simp [wrongZ, h8]
    rw [e]
    clear e
    go_enter Try.func33, Try.ntmps33
    go_wp2_with fail
    go_loopw [10] (fun i w1 => ∃ k : Nat, k ≤ l.length ∧ i = .int .i64 k ∧ Hid (goW none l = goW (prevOf l k) (l.drop k)) ∧ Hid (∀ t (ht : t < l.length), t < k → wrongRowF l[t].1 = 0) ∧ Below w.heap.size w w1) (fun i _ => l.length - (intOf i).toNat)
    case atStart => exact ⟨0, Nat.zero_le _, rfl, rfl, fun t _ ht => absurd ht (Nat.not_lt_zero _), Below.refl _ _⟩
    case round =>
      obtain ⟨k, hk, rfl, HC, HA, hb⟩ := hrel
      by_cases hlt : k < l.length
      · have i0 : (0 : Int) ≤ (k : Int) := by omega
        have i4 : (k : Int) < (l.length : Int) := by omega
        obtain ⟨b, off, rfl, hbl, c1, ar, cr, c0, sr⟩ := (h.next hb).elem hlt
        have HZ : Hid (ZsAt w (some ⟨b, off, none⟩) l) := h
        clear h
        by_cases hw : wrongRowF l[k].1 = 0
        · have Hw : Hid (wrongRowF l[k].1 = 0) := hw
          clear hw
          go_wp2_with fail
          refine (refRow_at _ _ _ _ sr).mono ?_
          rintro e w1 ⟨rfl, hb1⟩
          rw [Hw.out]
          have hb1' := chain1 hb hb1
          have e1 := (hb1.cell (p := ⟨b, _, none⟩) hbl).trans c1
          have e0 := (hb1.cell (p := ⟨b, _, none⟩) hbl).trans c0
          by_cases h0 : l[k].2 = 0
          · have HN : Hid (goW none l = 3) := HC.out.trans (goW_zero l k hlt Hw.out (.inl h0))
            go_wp2_with fail
            go_ret
            exact ⟨ret_int HN.out.symm, hb1'⟩
          · have g0 : (l[k].2 == 0) = false := by simpa using h0
            cases h1 : inW l[k].2
            · have HN : Hid (goW none l = 3) := HC.out.trans (goW_zero l k hlt Hw.out (.inr h1))
              have H1 : Hid (inW l[k].2 = false) := h1
              clear h1
              go_wp2_with fail
              refine (refBig_any _ _).mono ?_
              rintro e w2 ⟨rfl, rfl⟩
              rw [H1.out]
              go_wp2_with fail
              go_ret
              exact ⟨ret_int HN.out.symm, hb1'⟩
            · have H1 : Hid (inW l[k].2 = true) := h1
              clear h1
              by_cases hp : 0 < k
              · obtain ⟨b', off', hh, hbl', ⟨d1, ap, cp, d0, sp⟩, -⟩ := (HZ.out.next hb1').elem2 (j := k - 1) (k := k) (by omega) hlt
                simp only [Option.some.injEq, Addr.mk.injEq] at hh
                obtain ⟨rfl, rfl, -⟩ := hh
                have sr1 := sr.next hb1
                have j0 : (0 : Int) < (k : Int) := by omega
                have j1 : (0 : Int) ≤ (k : Int) - 1 := by omega
                have j2 : (k : Int) - 1 < (l.length : Int) := by omega
                have j3 : ((k : Int) - 1).toNat = k - 1 := by omega
                have p0 := past_cell d0
                have p1 := past_cell e0
                have HR : Hid (rightB (l[k - 1]'(by omega)).1 = true) := ((wrongRowF_zero _).1 (HA.out (k - 1) (by omega) (by omega))).2
                haveI : Nonempty (Past w1) := ⟨⟨w1, Below.refl _ _⟩⟩
                have hbd := cmpL_bd (l[k - 1]'(by omega)).1 l[k].1
                by_cases hc : 0 ≤ cmpL (l[k - 1]'(by omega)).1 l[k].1
                · have HN : Hid (goW none l = 2) := HC.out.trans (goW_form l k hlt Hw.out h0 H1.out hp hc)
                  have hcm : (cmpL (l[k - 1]'(by omega)).1 l[k].1 != -1) = true := by simp; omega
                  clear hbd hc
                  go_wp2_with fail
                  refine (refBig_any _ _).mono ?_
                  rintro e w2 ⟨rfl, rfl⟩
                  rw [H1.out]
                  go_wp2_with fail
                  refine wp_region_past (by kernel_rfl) (by kernel_rfl) ?_
                  repeat (go_big_quiet_step (first | (go_at_call 46; exact in_past (refRows_at _ _ _ _ _ _ _ (sp.next (Past.ok _)) (sr1.next (Past.ok _)) HR.out))))
                  refine wpQuiet_nil ?_
                  rintro w3 ⟨⟨v3, hb3⟩, h3⟩
                  obtain rfl : w3 = v3 := h3
                  go_wp2_with fail
                  go_ret
                  exact ⟨ret_int HN.out.symm, chain1 hb1' hb3⟩
                · have HN : Hid (goW none l = goW (prevOf l (k + 1)) (l.drop (k + 1))) := HC.out.trans (goW_next l k hlt Hw.out h0 H1.out (fun _ => hc))
                  have hcm : cmpL (l[k - 1]'(by omega)).1 l[k].1 = -1 := by omega
                  clear hbd hc
                  go_wp2_with fail
                  refine (refBig_any _ _).mono ?_
                  rintro e w2 ⟨rfl, rfl⟩
                  rw [H1.out]
                  go_wp2_with fail
                  refine wp_region_past (by kernel_rfl) (by kernel_rfl) ?_
                  repeat (go_big_quiet_step (first | (go_at_call 46; exact in_past (refRows_at _ _ _ _ _ _ _ (sp.next (Past.ok _)) (sr1.next (Past.ok _)) HR.out))))
                  refine wpQuiet_nil ?_
                  rintro w3 ⟨⟨v3, hb3⟩, h3⟩
                  obtain rfl : w3 = v3 := h3
                  go_wp2_with fail
                  go_roundw
                  case rel => exact ⟨k + 1, by omega, by go_num, HN.out, fun t ht htk => by
                    by_cases e : t = k
                    · subst e; exact Hw.out
                    · exact HA.out t ht (by omega), chain1 hb1' hb3⟩
                  case measure => simp [intOf]; omega
              · have k0 : k = 0 := by omega
                subst k0
                have HN : Hid (goW none l = goW (prevOf l (0 + 1)) (l.drop (0 + 1))) := HC.out.trans (goW_next l 0 hlt Hw.out h0 H1.out (fun h => absurd h hp))
                haveI : Nonempty (Past w1) := ⟨⟨w1, Below.refl _ _⟩⟩
                go_wp2_with fail
                refine (refBig_any _ _).mono ?_
                rintro e w2 ⟨rfl, rfl⟩
                rw [H1.out]
                go_wp2_with fail
                refine wp_region_past (by kernel_rfl) (by kernel_rfl) ?_
                repeat (go_big_quiet_step (fail))
                refine wpQuiet_nil ?_
                rintro w3 ⟨⟨v3, hb3⟩, h3⟩
                obtain rfl : w3 = v3 := h3
                go_wp2_with fail
                go_roundw
                case rel => exact ⟨0 + 1, by omega, by go_num, HN.out, fun t ht htk => by
                  have : t = 0 := by omega
                  subst this; exact Hw.out, chain1 hb1' hb3⟩
                case measure => simp [intOf]; omega
        · have Hw : Hid (¬ wrongRowF l[k].1 = 0) := hw
          have hne : (wrongRowF l[k].1 != 0) = true := by simpa using hw
          have HN : Hid (goW none l = wrongRowF l[k].1) := HC.out.trans (goW_row l k hlt hw)
          clear hw
          go_wp2_with fail
          refine (refRow_at _ _ _ _ sr).mono ?_
          rintro e w1 ⟨rfl, hb1⟩
          go_wp2_with fail
          go_ret
          exact ⟨ret_int HN.out.symm, chain1 hb hb1⟩
      · go_wp2_with fail
        go_ret
        exact ⟨ret_int (by rw [HC.out, goW_end l k (by omega)]), hb⟩

def fitE (z : List Zp) : Int := if outW z = true then 3 else if 400 < z.length then 5 else 0
def fitZ (z : List Zp) : List Zp := if fitE z = 0 then z else []
/-- What comes back of two: a slice of rows, and what is wrong. -/
def Gives (z : List Zp) (n : Int) (w : World) (e : Ending) (w' : World) : Prop := (∃ a cap, e = .returned (.tuple #[.slice a z.length cap, .int .i64 n]) ∧ ZsAt w' a z) ∧ Below w.heap.size w w'
theorem zs_nil (W : World) : ZsAt W none [] := ⟨by simp, .inl rfl⟩

set_option maxRecDepth 100000 in
set_option maxHeartbeats 2000000 in
theorem fit_at (a : Option Addr) (cap : Nat) (m : List Zp) (w : World) (h : ZsAt w a m) (hl : m.length ≤ 200000) :
    Calls Try.prog 35 #[.slice a m.length cap] w (Gives (fitZ m) (fitE m) w) := by
  unfold Gives
  go_enter Try.func35, Try.ntmps35
  go_wp2_with fail
  go_loopw [8] (fun i wr => ∃ k : Nat, k ≤ m.length ∧ i = .int .i64 k ∧ Hid (∀ j (hj : j < m.length), j < k → inW m[j].2 = true) ∧ Below w.heap.size w wr) (fun i _ => m.length - (intOf i).toNat)
  case atStart => exact ⟨0, Nat.zero_le _, rfl, fun j _ hj => absurd hj (Nat.not_lt_zero _), Below.refl _ _⟩
  case round =>
    obtain ⟨k, hk, rfl, HI, hb⟩ := hrel
    have hz := hb.size
    by_cases hlt : k < m.length
    · obtain ⟨b, off, rfl, hbl, d1, ar, cr, d0, sr⟩ := (h.next hb).elem hlt
      cases hin : inW m[k].2
      · have HO : Hid (inW m[k].2 = false) := hin
        have he : Hid (fitE m = 3) := by
          show fitE m = 3
          unfold fitE
          rw [if_pos (outW_no hlt hin)]
        have hfz : Hid (fitZ m = []) := by show fitZ m = []; unfold fitZ; rw [he.out]; rfl
        clear hin
        go_wp2_with fail
        refine (refBig_any _ _).mono ?_
        rintro e w2 ⟨rfl, rfl⟩
        rw [HO.out]
        go_wp2_with fail
        exact bodyPost_ret (v := .tuple #[.slice none 0 0, .int .i64 3]) (by simp [results, Try.results35, go_sem]) rfl ⟨⟨none, 0, by rw [he.out, hfz.out]; rfl, by rw [hfz.out]; exact zs_nil _⟩, hb.alloc hz _⟩
      · have HO : Hid (inW m[k].2 = true) := hin
        clear hin
        go_wp2_with fail
        refine (refBig_any _ _).mono ?_
        rintro e w2 ⟨rfl, rfl⟩
        rw [HO.out]
        go_wp2_with fail
        go_roundw
        case rel => exact ⟨k + 1, by omega, by go_num, fun j hj hjk => by
          by_cases e : j = k
          · subst e; exact HO.out
          · exact HI.out j hj (by omega), hb.alloc hz _⟩
        case measure => simp [intOf]; omega
    · have e : k = m.length := by omega
      subst e
      have ho : outW m = false := outW_ok fun j hj => HI.out j hj hj
      by_cases h4 : 400 < m.length
      · have he : Hid (fitE m = 5) := by
          show fitE m = 5
          unfold fitE
          rw [ho, if_neg (by decide), if_pos h4]
        have hfz : Hid (fitZ m = []) := by show fitZ m = []; unfold fitZ; rw [he.out]; rfl
        go_wp2_with fail
        exact bodyPost_ret (v := .tuple #[.slice none 0 0, .int .i64 5]) (by simp [results, Try.results35, go_sem]) rfl ⟨⟨none, 0, by rw [he.out, hfz.out]; rfl, by rw [hfz.out]; exact zs_nil _⟩, hb⟩
      · have he : Hid (fitE m = 0) := by
          show fitE m = 0
          unfold fitE
          rw [ho, if_neg (by decide), if_neg h4]
        have hfz : Hid (fitZ m = m) := by show fitZ m = m; unfold fitZ; rw [he.out]; rfl
        go_wp2_with fail
        exact bodyPost_ret (v := .tuple #[.slice a m.length cap, .int .i64 0]) (by simp [results, Try.results35, go_sem]) rfl ⟨⟨a, cap, by rw [he.out, hfz.out], by rw [hfz.out]; exact h.next hb⟩, hb⟩

theorem canon_snoc (l : List Zp) (x : Zp) : canon (l ++ [x]) = putL (canon l) x.1 x.2 := by simp [canon]
theorem wt_bd2 {l : List Zp} (h : ∀ x ∈ l, -1000000 ≤ x.2 ∧ x.2 ≤ 1000000) (q : List Vl) : -(1000000 * (l.length : Int)) ≤ wt l q ∧ wt l q ≤ 1000000 * (l.length : Int) := by
  induction l with
  | nil => simp [wt]
  | cons x r ih =>
    have ih := ih (fun y hy => h y (by simp [hy]))
    have hx := h x (by simp)
    rw [wt, List.length_cons]
    split <;> omega
end Go.Proofs.Ytibobmkelmalkaa
