/- Together: R3, V1, V2, V3, V4, V5, V6, V7. -/
import Derived.Test.YtfojonhblblbjaaGreatC1
import Derived.Test.YtfojonhblblbjaaGreatB6
import Derived.Test.YtfojonhblblbjaaGreatC0
import Derived.Test.YtfojonhblblbjaaGreatB7
import Derived.Test.YtfojonhblblbjaaGreatB8
/- The walks of the document's Wrong, Fit, Sum, Of and Weight. -/
namespace Go.Proofs.YtfojonhblblbjaaGreat
open Go.RowKit Go.Lib Go.Shelf

set_option maxRecDepth 100000 in
set_option maxHeartbeats 4000000 in
theorem refWrongZ_at (a : Option Addr) (cap : Nat) (l : List Zp) (w : World) (h : ZsAt w a l) :
    Calls Tryz.prog 74 #[.slice a l.length cap] w fun e w' => e = .returned (.int .i64 (wrongZ l)) ∧ Below w.heap.size w w' := by
  have hl := h.1
  unfold maxLen at hl
  by_cases h8 : 400 < l.length
  · have e : wrongZ l = 5 := by simp [wrongZ, h8]
    rw [e]
    clear e
    go_enter Tryz.func74, Tryz.ntmps74
    go_wp2_with fail
    go_ret
    exact ⟨rfl, Below.refl _ _⟩
  · have e : wrongZ l = goW none l := by simp [wrongZ, h8]
    rw [e]
    clear e
    go_enter Tryz.func74, Tryz.ntmps74
    go_wp2_with fail
    go_loopw [10] (fun i w1 => ∃ k : Nat, k ≤ l.length ∧ i = .int .i64 k ∧ Hid (goW none l = goW (prevOf l k) (l.drop k)) ∧ Hid (∀ t (ht : t < l.length), t < k → wrongRowF l[t].1 = 0) ∧ Below w.heap.size w w1) (fun i _ => l.length - (intOf i).toNat)
    case atStart => exact ⟨0, Nat.zero_le _, rfl, rfl, fun t _ ht => absurd ht (Nat.not_lt_zero _), Below.refl _ _⟩
    case round =>
      obtain ⟨k, hk, rfl, HC, HA, hb⟩ := hrel
      by_cases hlt : k < l.length
      · have i0 : (0 : Int) ≤ (k : Int) := by omega
        have i4 : (k : Int) < (l.length : Int) := by omega
        obtain ⟨b, off, rfl, hbl, c1, ar, cr, c0, sr⟩ := (h.next hb).elem hlt
        have HZ : Hid (ZsAt w (some ⟨b, off, none⟩) l) := h
        clear h
        by_cases hw : wrongRowF l[k].1 = 0
        · have Hw : Hid (wrongRowF l[k].1 = 0) := hw
          clear hw
          go_wp2_with fail
          refine (refRow_at _ _ _ _ sr).mono ?_
          rintro e w1 ⟨rfl, hb1⟩
          rw [Hw.out]
          have hb1' := chain1 hb hb1
          have e1 := (hb1.cell (p := ⟨b, _, none⟩) hbl).trans c1
          have e0 := (hb1.cell (p := ⟨b, _, none⟩) hbl).trans c0
          by_cases h0 : l[k].2 = 0
          · have HN : Hid (goW none l = 3) := HC.out.trans (goW_zero l k hlt Hw.out (.inl h0))
            go_wp2_with fail
            go_ret
            exact ⟨ret_int HN.out.symm, hb1'⟩
          · have g0 : (l[k].2 == 0) = false := by simpa using h0
            cases h1 : inW l[k].2
            · have HN : Hid (goW none l = 3) := HC.out.trans (goW_zero l k hlt Hw.out (.inr h1))
              have H1 : Hid (inW l[k].2 = false) := h1
              clear h1
              go_wp2_with fail
              refine (refBig_any _ _).mono ?_
              rintro e w2 ⟨rfl, rfl⟩
              rw [H1.out]
              go_wp2_with fail
              go_ret
              exact ⟨ret_int HN.out.symm, hb1'⟩
            · have H1 : Hid (inW l[k].2 = true) := h1
              clear h1
              by_cases hp : 0 < k
              · obtain ⟨b', off', hh, hbl', ⟨d1, ap, cp, d0, sp⟩, -⟩ := (HZ.out.next hb1').elem2 (j := k - 1) (k := k) (by omega) hlt
                simp only [Option.some.injEq, Addr.mk.injEq] at hh
                obtain ⟨rfl, rfl, -⟩ := hh
                have sr1 := sr.next hb1
                have j0 : (0 : Int) < (k : Int) := by omega
                have j1 : (0 : Int) ≤ (k : Int) - 1 := by omega
                have j2 : (k : Int) - 1 < (l.length : Int) := by omega
                have j3 : ((k : Int) - 1).toNat = k - 1 := by omega
                have p0 := past_cell d0
                have p1 := past_cell e0
                have HR : Hid (rightB (l[k - 1]'(by omega)).1 = true) := ((wrongRowF_zero _).1 (HA.out (k - 1) (by omega) (by omega))).2
                haveI : Nonempty (Past w1) := ⟨⟨w1, Below.refl _ _⟩⟩
                have hbd := cmpL_bd (l[k - 1]'(by omega)).1 l[k].1
                by_cases hc : 0 ≤ cmpL (l[k - 1]'(by omega)).1 l[k].1
                · have HN : Hid (goW none l = 2) := HC.out.trans (goW_form l k hlt Hw.out h0 H1.out hp hc)
                  have hcm : (cmpL (l[k - 1]'(by omega)).1 l[k].1 != -1) = true := by simp; omega
                  clear hbd hc
                  go_wp2_with fail
                  refine (refBig_any _ _).mono ?_
                  rintro e w2 ⟨rfl, rfl⟩
                  rw [H1.out]
                  go_wp2_with fail
                  refine wp_region_past (by kernel_rfl) (by kernel_rfl) ?_
                  repeat (go_big_quiet_step (first | (go_at_call 44; exact in_past (refRows_at _ _ _ _ _ _ _ (sp.next (Past.ok _)) (sr1.next (Past.ok _)) HR.out))))
                  refine wpQuiet_nil ?_
                  rintro w3 ⟨⟨v3, hb3⟩, h3⟩
                  obtain rfl : w3 = v3 := h3
                  go_wp2_with fail
                  go_ret
                  exact ⟨ret_int HN.out.symm, chain1 hb1' hb3⟩
                · have HN : Hid (goW none l = goW (prevOf l (k + 1)) (l.drop (k + 1))) := HC.out.trans (goW_next l k hlt Hw.out h0 H1.out (fun _ => hc))
                  have hcm : cmpL (l[k - 1]'(by omega)).1 l[k].1 = -1 := by omega
                  clear hbd hc
                  go_wp2_with fail
                  refine (refBig_any _ _).mono ?_
                  rintro e w2 ⟨rfl, rfl⟩
                  rw [H1.out]
                  go_wp2_with fail
                  refine wp_region_past (by kernel_rfl) (by kernel_rfl) ?_
                  repeat (go_big_quiet_step (first | (go_at_call 44; exact in_past (refRows_at _ _ _ _ _ _ _ (sp.next (Past.ok _)) (sr1.next (Past.ok _)) HR.out))))
                  refine wpQuiet_nil ?_
                  rintro w3 ⟨⟨v3, hb3⟩, h3⟩
                  obtain rfl : w3 = v3 := h3
                  go_wp2_with fail
                  go_roundw
                  case rel => exact ⟨k + 1, by omega, by go_num, HN.out, fun t ht htk => by
                    by_cases e : t = k
                    · subst e; exact Hw.out
                    · exact HA.out t ht (by omega), chain1 hb1' hb3⟩
                  case measure => simp [intOf]; omega
              · have k0 : k = 0 := by omega
                subst k0
                have HN : Hid (goW none l = goW (prevOf l (0 + 1)) (l.drop (0 + 1))) := HC.out.trans (goW_next l 0 hlt Hw.out h0 H1.out (fun h => absurd h hp))
                haveI : Nonempty (Past w1) := ⟨⟨w1, Below.refl _ _⟩⟩
                go_wp2_with fail
                refine (refBig_any _ _).mono ?_
                rintro e w2 ⟨rfl, rfl⟩
                rw [H1.out]
                go_wp2_with fail
                refine wp_region_past (by kernel_rfl) (by kernel_rfl) ?_
                repeat (go_big_quiet_step (fail))
                refine wpQuiet_nil ?_
                rintro w3 ⟨⟨v3, hb3⟩, h3⟩
                obtain rfl : w3 = v3 := h3
                go_wp2_with fail
                go_roundw
                case rel => exact ⟨0 + 1, by omega, by go_num, HN.out, fun t ht htk => by
                  have : t = 0 := by omega
                  subst this; exact Hw.out, chain1 hb1' hb3⟩
                case measure => simp [intOf]; omega
        · have Hw : Hid (¬ wrongRowF l[k].1 = 0) := hw
          have hne : (wrongRowF l[k].1 != 0) = true := by simpa using hw
          have HN : Hid (goW none l = wrongRowF l[k].1) := HC.out.trans (goW_row l k hlt hw)
          clear hw
          go_wp2_with fail
          refine (refRow_at _ _ _ _ sr).mono ?_
          rintro e w1 ⟨rfl, hb1⟩
          go_wp2_with fail
          go_ret
          exact ⟨ret_int HN.out.symm, chain1 hb hb1⟩
      · go_wp2_with fail
        go_ret
        exact ⟨ret_int (by rw [HC.out, goW_end l k (by omega)]), hb⟩

def fitE (z : List Zp) : Int := if outW z = true then 3 else if 400 < z.length then 5 else 0
def fitZ (z : List Zp) : List Zp := if fitE z = 0 then z else []
/-- What comes back of two: a slice of rows, and what is wrong. -/
def Gives (z : List Zp) (n : Int) (w : World) (e : Ending) (w' : World) : Prop := (∃ a cap, e = .returned (.tuple #[.slice a z.length cap, .int .i64 n]) ∧ ZsAt w' a z) ∧ Below w.heap.size w w'
theorem zs_nil (W : World) : ZsAt W none [] := ⟨by simp, .inl rfl⟩

set_option maxRecDepth 100000 in
set_option maxHeartbeats 2000000 in
theorem fit_at (a : Option Addr) (cap : Nat) (m : List Zp) (w : World) (h : ZsAt w a m) (hl : m.length ≤ 200000) :
    Calls Tryz.prog 42 #[.slice a m.length cap] w (Gives (fitZ m) (fitE m) w) := by
  unfold Gives
  go_enter Tryz.func42, Tryz.ntmps42
  go_wp2_with fail
  go_loopw [8] (fun i wr => ∃ k : Nat, k ≤ m.length ∧ i = .int .i64 k ∧ Hid (∀ j (hj : j < m.length), j < k → inW m[j].2 = true) ∧ Below w.heap.size w wr) (fun i _ => m.length - (intOf i).toNat)
  case atStart => exact ⟨0, Nat.zero_le _, rfl, fun j _ hj => absurd hj (Nat.not_lt_zero _), Below.refl _ _⟩
  case round =>
    obtain ⟨k, hk, rfl, HI, hb⟩ := hrel
    have hz := hb.size
    by_cases hlt : k < m.length
    · obtain ⟨b, off, rfl, hbl, d1, ar, cr, d0, sr⟩ := (h.next hb).elem hlt
      cases hin : inW m[k].2
      · have HO : Hid (inW m[k].2 = false) := hin
        have he : Hid (fitE m = 3) := by
          show fitE m = 3
          unfold fitE
          rw [if_pos (outW_no hlt hin)]
        have hfz : Hid (fitZ m = []) := by show fitZ m = []; unfold fitZ; rw [he.out]; rfl
        clear hin
        go_wp2_with fail
        refine (refBig_any _ _).mono ?_
        rintro e w2 ⟨rfl, rfl⟩
        rw [HO.out]
        go_wp2_with fail
        exact bodyPost_ret (v := .tuple #[.slice none 0 0, .int .i64 3]) (by simp [results, Tryz.results42, go_sem]) rfl ⟨⟨none, 0, by rw [he.out, hfz.out]; rfl, by rw [hfz.out]; exact zs_nil _⟩, hb.alloc hz _⟩
      · have HO : Hid (inW m[k].2 = true) := hin
        clear hin
        go_wp2_with fail
        refine (refBig_any _ _).mono ?_
        rintro e w2 ⟨rfl, rfl⟩
        rw [HO.out]
        go_wp2_with fail
        go_roundw
        case rel => exact ⟨k + 1, by omega, by go_num, fun j hj hjk => by
          by_cases e : j = k
          · subst e; exact HO.out
          · exact HI.out j hj (by omega), hb.alloc hz _⟩
        case measure => simp [intOf]; omega
    · have e : k = m.length := by omega
      subst e
      have ho : outW m = false := outW_ok fun j hj => HI.out j hj hj
      by_cases h4 : 400 < m.length
      · have he : Hid (fitE m = 5) := by
          show fitE m = 5
          unfold fitE
          rw [ho, if_neg (by decide), if_pos h4]
        have hfz : Hid (fitZ m = []) := by show fitZ m = []; unfold fitZ; rw [he.out]; rfl
        go_wp2_with fail
        exact bodyPost_ret (v := .tuple #[.slice none 0 0, .int .i64 5]) (by simp [results, Tryz.results42, go_sem]) rfl ⟨⟨none, 0, by rw [he.out, hfz.out]; rfl, by rw [hfz.out]; exact zs_nil _⟩, hb⟩
      · have he : Hid (fitE m = 0) := by
          show fitE m = 0
          unfold fitE
          rw [ho, if_neg (by decide), if_neg h4]
        have hfz : Hid (fitZ m = m) := by show fitZ m = m; unfold fitZ; rw [he.out]; rfl
        go_wp2_with fail
        exact bodyPost_ret (v := .tuple #[.slice a m.length cap, .int .i64 0]) (by simp [results, Tryz.results42, go_sem]) rfl ⟨⟨a, cap, by rw [he.out, hfz.out], by rw [hfz.out]; exact h.next hb⟩, hb⟩

theorem canon_snoc (l : List Zp) (x : Zp) : canon (l ++ [x]) = putL (canon l) x.1 x.2 := by simp [canon]
theorem wt_bd2 {l : List Zp} (h : ∀ x ∈ l, -1000000 ≤ x.2 ∧ x.2 ≤ 1000000) (q : List Vl) : -(1000000 * (l.length : Int)) ≤ wt l q ∧ wt l q ≤ 1000000 * (l.length : Int) := by
  induction l with
  | nil => simp [wt]
  | cons x r ih =>
    have ih := ih (fun y hy => h y (by simp [hy]))
    have hx := h x (by simp)
    rw [wt, List.length_cons]
    split <;> omega
end Go.Proofs.YtfojonhblblbjaaGreat
/- The document's answer, chapter 4: what is asked of columns, conditions and rows. -/
namespace Go.Proofs.YtfojonhblblbjaaGreat
open Go.RowKit Go.Lib Go.Shelf

set_option maxRecDepth 100000 in
set_option maxHeartbeats 2000000 in
theorem refInput_at (cols : List Int) (ca : Option Addr) (ccap : Nat) (a : Option Addr) (cap : Nat) (l : List Zp) (w : World) (hc : IsAt w.heap.size w ca cols) (h : ZsAt w a l) :
    Calls Tryz.prog 36 #[.slice ca cols.length ccap, .slice a l.length cap] w fun e w' => e = .returned (.int .i64 (inpE cols l)) ∧ Below w.heap.size w w' := by
  have hl := h.1
  unfold maxLen at hl
  have hcl := hc.1
  unfold maxLen at hcl
  by_cases h8 : 8 < cols.length
  · have e : inpE cols l = 5 := by simp [inpE, h8]
    rw [e]
    have hz : (8 : Int) < (cols.length : Int) := by omega
    go_enter Tryz.func36, Tryz.ntmps36
    go_wp2_with fail
    go_ret
    exact ⟨rfl, Below.refl _ _⟩
  have hz : ¬ (8 : Int) < (cols.length : Int) := by omega
  by_cases hw : wrongZ l = 0
  · have e : inpE cols l = fitsZ cols l := by simp [inpE, h8, hw]
    rw [e]
    clear e
    have Hw : Hid (wrongZ l = 0) := hw
    clear hw
    go_enter Tryz.func36, Tryz.ntmps36
    go_wp2_with fail
    refine (refWrongZ_at _ _ _ _ h).mono ?_
    rintro e w1 ⟨rfl, hb1⟩
    rw [Hw.out]
    go_wp2_with fail
    go_loopw [18] (fun i wr => ∃ k : Nat, k ≤ l.length ∧ i = .int .i64 k ∧ Hid (fitsZ cols l = fitsZ cols (l.drop k)) ∧ Below w.heap.size w wr) (fun i _ => l.length - (intOf i).toNat)
    case atStart => exact ⟨0, Nat.zero_le _, rfl, rfl, hb1⟩
    case round =>
      obtain ⟨k, hk, rfl, HC, hb⟩ := hrel
      have hz := hb.size
      by_cases hlt : k < l.length
      · obtain ⟨b, off, rfl, hbl, c1, ar, cr, c0, sr⟩ := (h.next hb).elem hlt
        have con := refFits_at cols l[k].1 ca ccap ar cr wr ((hc.next hb (Nat.le_refl _)).up hb.size) sr
        have i0 : (0 : Int) ≤ (k : Int) := by omega
        have i1 : (k : Int) < (l.length : Int) := by omega
        by_cases hw : fitsL cols l[k].1 = 0
        · have Hw : Hid (fitsL cols l[k].1 = 0) := hw
          rw [hw] at con
          clear hw
          go_wp2_with fail
          refine con.mono ?_
          rintro e w2 ⟨rfl, hb2⟩
          go_wp2_with fail
          go_roundw
          case rel => exact ⟨k + 1, by omega, by go_num, HC.out.trans (fitsZ_next cols l k hlt Hw.out), chain hb hb2⟩
          case measure => simp [intOf]; omega
        · have HN : Hid (fitsZ cols l = fitsL cols l[k].1) := HC.out.trans (fitsZ_bad cols l k hlt hw)
          have hne : (fitsL cols l[k].1 != 0) = true := by simpa using hw
          generalize fitsL cols l[k].1 = t at *
          go_wp2_with fail
          refine con.mono ?_
          rintro e w2 ⟨rfl, hb2⟩
          go_wp2_with fail
          go_ret
          exact ⟨ret_int HN.out.symm, chain hb hb2⟩
      · have HN : Hid (fitsZ cols l = 0) := HC.out.trans (fitsZ_end cols l k (by omega))
        go_wp2_with fail
        go_ret
        exact ⟨ret_int HN.out.symm, hb⟩
  · have e : inpE cols l = wrongZ l := by simp [inpE, h8, hw]
    rw [e]
    have hne : (wrongZ l != 0) = true := by simpa using hw
    clear e hw
    have con := refWrongZ_at a cap l w h
    generalize wrongZ l = t at *
    go_enter Tryz.func36, Tryz.ntmps36
    go_wp2_with fail
    refine con.mono ?_
    rintro e w1 ⟨rfl, hb1⟩
    go_wp2_with fail
    go_ret
    exact ⟨rfl, hb1⟩

theorem type_top_in {cols : List Int} {x : Ex} (h : (typeTop cols x).2 = 0) : 1 ≤ (typeTop cols x).1 ∧ (typeTop cols x).1 ≤ 4 := by
  have G := (typeTop_ok cols x).1 h
  exact typP_in (colsB_at G.fit) x _ G.ty
set_option maxRecDepth 100000 in
set_option maxHeartbeats 2000000 in
theorem refCond_at (cols : List Int) (x : Ex) (ca : Option Addr) (ccap : Nat) (xa : Option Addr) (xcap : Nat) (w : World) (hk : KsAt w.heap.size w xa x.ks) (hc : IsAt w.heap.size w ca cols) :
    Calls Tryz.prog 35 #[.slice ca cols.length ccap, exV x.k x.v x.c xa x.ks.length xcap] w fun e w' => e = .returned (.int .i64 (condE cols x)) ∧ Below w.heap.size w w' := by
  have h1 : Below w.heap.size w (w.alloc (.cells #[.int .i64 x.k, .int .i64 x.v.1, .int .i64 x.v.2.1, .string x.v.2.2, .int .i64 x.c, .slice xa x.ks.length xcap] 27)) := (Below.refl _ _).alloc (Nat.le_refl _) _
  have con := refType_at cols x ca ccap xa xcap _ ((KsAt.next h1 (Nat.le_refl _) hk).up h1.size) ((hc.next h1 (Nat.le_refl _)).up h1.size)
  have hty : (typeTop cols x).2 = 0 → 1 ≤ (typeTop cols x).1 ∧ (typeTop cols x).1 ≤ 4 := fun h => by
    exact type_top_in h
  generalize hfe : condE cols x = fe
  have HF : Hid (condE cols x = fe) := hfe
  clear hfe
  by_cases h0 : (typeTop cols x).2 = 0
  · have hb := hty h0
    by_cases h2 : 2 < (typeTop cols x).1
    · have e : fe = 9 := by rw [← HF.out]; unfold condE; rw [if_neg (by simpa using h0), if_pos (by omega)]
      subst e
      rw [h0] at con
      generalize (typeTop cols x).1 = t at *
      clear hty h0
      go_enter Tryz.func35, Tryz.ntmps35
      go_wp2_with fail
      generalize w.alloc (.cells #[.int .i64 x.k, .int .i64 x.v.1, .int .i64 x.v.2.1, .string x.v.2.2, .int .i64 x.c, .slice xa x.ks.length xcap] 27) = w1 at *
      refine con.mono ?_
      rintro e w2 ⟨rfl, hb2⟩
      clear con
      dsimp only
      go_wp2_with fail
      go_ret
      exact ⟨rfl, chain h1 hb2⟩
    · have e : fe = 0 := by rw [← HF.out]; unfold condE; rw [if_neg (by simpa using h0), if_neg (by omega)]
      subst e
      rw [h0] at con
      generalize (typeTop cols x).1 = t at *
      clear hty h0
      go_enter Tryz.func35, Tryz.ntmps35
      go_wp2_with fail
      generalize w.alloc (.cells #[.int .i64 x.k, .int .i64 x.v.1, .int .i64 x.v.2.1, .string x.v.2.2, .int .i64 x.c, .slice xa x.ks.length xcap] 27) = w1 at *
      refine con.mono ?_
      rintro e w2 ⟨rfl, hb2⟩
      clear con
      dsimp only
      go_wp2_with fail
      go_ret
      exact ⟨rfl, chain h1 hb2⟩
  · have e : fe = (typeTop cols x).2 := by rw [← HF.out]; unfold condE; rw [if_pos h0]
    have hne : ((typeTop cols x).2 != 0) = true := by simpa using h0
    rw [← e] at con hne
    generalize (typeTop cols x).1 = t at *
    clear hty h0 e
    go_enter Tryz.func35, Tryz.ntmps35
    go_wp2_with fail
    generalize w.alloc (.cells #[.int .i64 x.k, .int .i64 x.v.1, .int .i64 x.v.2.1, .string x.v.2.2, .int .i64 x.c, .slice xa x.ks.length xcap] 27) = w1 at *
    refine con.mono ?_
    rintro e w2 ⟨rfl, hb2⟩
    clear con
    dsimp only
    go_wp2_with fail
    go_ret
    exact ⟨rfl, chain h1 hb2⟩

theorem tru_of {v : Vl} (h : wrongP v = 0) : Tru v.1 v.2.1 := fun hk => by
  unfold wrongP wrongF at h
  rw [hk, if_neg (by decide), if_pos rfl] at h
  split at h
  · assumption
  · omega
set_option maxRecDepth 100000 in
set_option maxHeartbeats 2000000 in
theorem refHolds_at {cols : List Int} (x : Ex) (hx : condE cols x = 0) (row : List Vl) (hf : FitP cols row) (xa : Option Addr) (xcap : Nat) (ra : Option Addr) (rcap : Nat) (w : World) (hk : KsAt w.heap.size w xa x.ks) (hs : SlAt w ra row) :
    Calls Tryz.prog 37 #[exV x.k x.v x.c xa x.ks.length xcap, .slice ra row.length rcap] w fun e w' => e = .returned (.bool (holdsP x row)) ∧ Below w.heap.size w w' := by
  have h1 : Below w.heap.size w (w.alloc (.cells #[.int .i64 x.k, .int .i64 x.v.1, .int .i64 x.v.2.1, .string x.v.2.2, .int .i64 x.c, .slice xa x.ks.length xcap] 27)) := (Below.refl _ _).alloc (Nat.le_refl _) _
  have ht : (typeTop cols x).2 = 0 := by
    unfold condE at hx
    by_cases h : (typeTop cols x).2 = 0
    · exact h
    · rw [if_pos h] at hx; exact absurd hx h
  have con := of_any hf x _ (typ_of ht) w.heap.size xa xcap ra rcap _ (KsAt.next h1 (Nat.le_refl _) hk) h1.size (hs.next h1)
  generalize hfe : holdsP x row = fe
  have HF : Hid (holdsP x row = fe) := hfe
  clear hfe
  generalize hv : valX row x = v at con
  have HV : Hid (valX row x = v) := hv
  clear hv
  go_enter Tryz.func37, Tryz.ntmps37
  go_wp2_with fail
  generalize w.alloc (.cells #[.int .i64 x.k, .int .i64 x.v.1, .int .i64 x.v.2.1, .string x.v.2.2, .int .i64 x.c, .slice xa x.ks.length xcap] 27) = w1 at *
  refine con.mono ?_
  rintro e w2 ⟨rfl, hb2⟩
  clear con
  have hA := chain h1 hb2
  have hTr : Tru v.1 v.2.1 := by rw [← HV.out]; exact tru_of (valX_of hf x _ (typ_of ht)).1
  have con := refIs_any v.1 v.2.1 v.2.2 true w2 hTr
  have e : (cls v.1 v.2.1 == some true) = fe := by rw [← HF.out, ← HV.out]; rfl
  rw [e] at con
  clear e
  unfold agV
  dsimp only
  go_wp2_with fail
  refine con.mono ?_
  rintro e w3 ⟨rfl, hb3⟩
  clear con
  dsimp only
  go_wp2_with fail
  go_ret
  exact ⟨rfl, chain hA hb3⟩

set_option maxRecDepth 100000 in
set_option maxHeartbeats 2000000 in
theorem refBoth_at (a b : Option Addr) (ca cb : Nat) (l r : List Vl) (w : World) (h : SlAt w a l) (h' : SlAt w b r) (h8 : l.length + r.length ≤ 8) :
    Calls Tryz.prog 53 #[.slice a l.length ca, .slice b r.length cb] w fun e w' => ∃ v, e = .returned v ∧ w'.ownsRow w.heap.size 24 3 v (l.length + r.length) (flatV (l ++ r)) ∧ Below w.heap.size w w' := by
  obtain ⟨iv, hiv, hv0, hv1, hv2⟩ := info_parts infoV
  have R1 := raw_vals h
  have hb0 : Below w.heap.size w (w.alloc (.cells #[] 24)) := (Below.refl _ _).alloc (Nat.le_refl _) _
  have O0 : (w.alloc (.cells #[] 24)).ownsRow w.heap.size 24 3 (.slice (some ⟨w.heap.size, 0, none⟩) 0 0) 0 [] := World.ownsRow_made (e := 24) (size := 3) w #[] 0 (Nat.le_refl _) (Nat.zero_le _) (by simp)
  have m1 : 0 + l.length ≤ maxLen := by unfold maxLen; omega
  have m2 : (0 + l.length) * 32 ≤ 140737488355328 := by omega
  have m3 : l.length + r.length ≤ maxLen := by unfold maxLen; omega
  have m4 : (l.length + r.length) * 32 ≤ 140737488355328 := by omega
  go_enter Tryz.func53, Tryz.ntmps53
  go_wp2_with (first | (at_builtin; refine wpList_append_raw rfl (.tmp 5) (.tmp 6) 51 rfl w.heap.size 24 iv _ 3 32 Tryz.underlying51 hiv hv0 hv1 hv2 rfl (by decide) _ 0 [] rfl O0 a l.length ca (flatV l) rfl (R1.alloc _) m1 m2 (by simp) ?_))
  intro v1 w1 o1 g1
  have hb1 : Below w.heap.size w w1 := hb0.grown g1 (by simp) (by simp [Value.ownBlock])
  have o1 : w1.ownsRow w.heap.size 24 3 v1 l.length (flatV l) := by simpa using o1
  have R2 := raw_vals (h'.next hb1)
  have hz := hb1.size
  clear g1
  go_wp2_with (first | (at_builtin; refine wpList_append_raw rfl (.tmp 7) (.tmp 8) 51 rfl w.heap.size 24 iv _ 3 32 Tryz.underlying51 hiv hv0 hv1 hv2 rfl (by decide) _ l.length (flatV l) rfl o1 b r.length cb (flatV r) rfl R2 m3 m4 hz ?_))
  intro v2 w2 o2 g2
  have hb2 : Below w.heap.size w w2 := hb1.grown g2 hz (fun q hq => (o1.lt q hq).1)
  rw [← flatV_append] at o2
  clear g2 o1
  have hv : ∃ a2 c2, v2 = .slice a2 (l.length + r.length) c2 := own_shapeE o2
  obtain ⟨a2, c2, rfl⟩ := hv
  go_wp2_with fail
  go_ret
  exact ⟨_, rfl, o2, hb2⟩
end Go.Proofs.YtfojonhblblbjaaGreat
/- The document's answer, chapter 4: what is wrong with two sets; partners. -/
namespace Go.Proofs.YtfojonhblblbjaaGreat
open Go.RowKit Go.Lib Go.Shelf

theorem wp_append_raw_at {P : Program} {w : World} {o : Oper} {a : Act} {K : Act → World → Prop} {Q : Exit → Act → World → Prop} (d : Option Tmp) (hd : o.dst = d) (s x : Operand) (t : TypeId)
    (ho : o.op = .call { callee := .builtin .append, args := #[s, x], argTypes := #[t, t] })
    (base : Nat) (e : TypeId) (i : TypeInfo) (z : Value) (size bytes : Nat) (ht : P.underlying t = some (.slice e)) (hi : P.info? e = some i) (hz : i.zero = some z)
    (hsize : i.size = size) (hby : i.bytes = bytes) (hzs : z.cells.size = size) (hsz : 0 < size)
    (v : Value) (n : Nat) (xs : List Value) (hs : a.eval s = v) (hown : w.ownsRow base e size v n xs)
    (ao : Option Addr) (m c : Nat) (news : List Value) (hx : a.eval x = .slice ao m c) (hr : Raw w ao m size news)
    (h63 : n + m ≤ maxLen) (hbytes : (n + m) * bytes ≤ 140737488355328) (hbase : base ≤ w.heap.size)
    (h : ∀ v' w', w'.ownsRow base e size v' (n + m) (xs ++ news) → w.grownBy w' v.ownBlock → K (a.put d v') w') : o.wp P a w K Q := by
  rcases ao with _ | ad
  · have hm := hr.nil rfl
    subst hm
    have hnews : news = [] := List.eq_nil_of_length_eq_zero (by simpa using hr.len)
    subst hnews
    subst hd
    have hrun := run_append_none2 (P := P) (w := w) base t o.type e i size ht hi v n xs hown c
    unfold Oper.wp execOp
    simp only [ho, resolve, invoke, builtin, Sem.run_bind, Sem.run_pure, Result.andThen_ok, List.map_toArray, List.map_cons, List.map_nil, hs, hx, hrun]
    exact h v w (by simpa using hown) (World.grownBy.refl _ _)
  · exact wp_append_at d hd s x t ho base e i z size bytes ht hi hz hsize hby hzs hsz v n xs hs hown ad m c news hx hr.len (hr.at_ ad rfl) hr.one h63 hbytes hbase (fun v' w' h1 h2 _ => h v' w' h1 h2)

set_option maxRecDepth 100000 in
set_option maxHeartbeats 4000000 in
theorem refTwo_at (left right : List Int) (x : Ex) (la : Option Addr) (lcap : Nat) (ra : Option Addr) (rcap : Nat) (xa : Option Addr) (xcap : Nat) (a : Option Addr) (ca : Nat) (l : List Zp) (b : Option Addr) (cb : Nat) (r : List Zp) (w : World)
    (hcl : IsAt w.heap.size w la left) (hcr : IsAt w.heap.size w ra right) (hx : KsAt w.heap.size w xa x.ks) (h : ZsAt w a l) (h' : ZsAt w b r) (hll : left.length ≤ 100000000000000) (hrl : right.length ≤ 100000000000000) :
    Calls Tryz.prog 52 #[.slice la left.length lcap, .slice ra right.length rcap, exV x.k x.v x.c xa x.ks.length xcap, .slice a l.length ca, .slice b r.length cb] w fun e w' => e = .returned (.int .i64 (twoE left right x l r)) ∧ Below w.heap.size w w' := by
  obtain ⟨ii, hii, hv0, hv1, hv2⟩ := info_parts infoI
  have h1 : Below w.heap.size w (w.alloc (.cells #[.int .i64 x.k, .int .i64 x.v.1, .int .i64 x.v.2.1, .string x.v.2.2, .int .i64 x.c, .slice xa x.ks.length xcap] 27)) := (Below.refl _ _).alloc (Nat.le_refl _) _
  have q1 := heap_new w #[.int .i64 x.k, .int .i64 x.v.1, .int .i64 x.v.2.1, .string x.v.2.2, .int .i64 x.c, .slice xa x.ks.length xcap] 27
  generalize hfe : twoE left right x l r = fe
  have HF : Hid (twoE left right x l r = fe) := hfe
  clear hfe
  by_cases h8 : 8 < left.length + right.length
  · have e : fe = 5 := by rw [← HF.out]; unfold twoE; rw [if_pos h8]
    subst e
    have hz : (8 : Int) < (left.length : Int) + (right.length : Int) := by omega
    go_enter Tryz.func52, Tryz.ntmps52
    go_wp2_with fail
    go_ret
    exact ⟨rfl, h1⟩
  have hz : ¬ (8 : Int) < (left.length : Int) + (right.length : Int) := by omega
  have HF2 : Hid (fe = if condE (left ++ right) x ≠ 0 then condE (left ++ right) x else if inpE left l ≠ 0 then inpE left l else inpE right r) := by
    show _ = _
    rw [← HF.out]; unfold twoE; rw [if_neg h8]
  clear HF
  have m1 : 0 + left.length ≤ maxLen := by unfold maxLen; omega
  have m2 : (0 + left.length) * 8 ≤ 140737488355328 := by omega
  have m3 : left.length + right.length ≤ maxLen := by unfold maxLen; omega
  have m4 : (left.length + right.length) * 8 ≤ 140737488355328 := by omega
  go_enter Tryz.func52, Tryz.ntmps52
  go_wp2_with fail
  generalize w.alloc (.cells #[.int .i64 x.k, .int .i64 x.v.1, .int .i64 x.v.2.1, .string x.v.2.2, .int .i64 x.c, .slice xa x.ks.length xcap] 27) = w1 at *
  have hCC : ∀ W W' : World, W.heap[w.heap.size]? = some (.cells #[.int .i64 x.k, .int .i64 x.v.1, .int .i64 x.v.2.1, .string x.v.2.2, .int .i64 x.c, .slice xa x.ks.length xcap] 27 (0, 0)) → Below W.heap.size W W' → W'.heap[w.heap.size]? = some (.cells #[.int .i64 x.k, .int .i64 x.v.1, .int .i64 x.v.2.1, .string x.v.2.2, .int .i64 x.c, .slice xa x.ks.length xcap] 27 (0, 0)) := fun W W' h hb => (hb.block _ (lt_of_heap h)).trans h
  have hd : Below w1.heap.size w1 w1.drew := (Below.refl _ _).drew
  have CW : w1.drew.heap[w.heap.size]? = some (.cells #[.int .i64 x.k, .int .i64 x.v.1, .int .i64 x.v.2.1, .string x.v.2.2, .int .i64 x.c, .slice xa x.ks.length xcap] 27 (0, 0)) := hCC _ _ q1 hd
  refine wp_region_cls (fun W => W.heap[w.heap.size]? = some (.cells #[.int .i64 x.k, .int .i64 x.v.1, .int .i64 x.v.2.1, .string x.v.2.2, .int .i64 x.c, .slice xa x.ks.length xcap] 27 (0, 0))) (by kernel_rfl) ?_
  refine wpY_take hCC (some 20) (i := 1) (v := .slice la left.length lcap) rfl rfl (by kernel_rfl) (by kernel_rfl) (by kernel_rfl) (fun _ _ _ h => h) (Or.inl ⟨rfl, fun n hn => ?_⟩) CW ?_
  · go_simp
  simp only [Act.put, List.setIfInBounds_toArray, List.set_cons_zero, List.set_cons_succ]
  refine wpY_take hCC (some 22) (i := 3) (v := .slice ra right.length rcap) rfl rfl (by kernel_rfl) (by kernel_rfl) (by kernel_rfl) (fun _ _ _ h => h) (Or.inl ⟨rfl, fun n hn => ?_⟩) CW ?_
  · go_simp
  simp only [Act.put, List.setIfInBounds_toArray, List.set_cons_zero, List.set_cons_succ]
  refine wpY_take hCC (some 24) (i := 5) (v := exV x.k x.v x.c xa x.ks.length xcap) rfl rfl (by kernel_rfl) (by kernel_rfl) (by kernel_rfl) (fun _ _ _ h => h) (Or.inl ⟨rfl, fun n hn => ?_⟩) CW ?_
  · have s0 : n.cell? ⟨w.heap.size, 0, none⟩ = some (.int .i64 x.k) := cell_of (i := 0) hn rfl
    have s1 : n.cell? ⟨w.heap.size, 1, none⟩ = some (.int .i64 x.v.1) := cell_of (i := 1) hn rfl
    have s2 : n.cell? ⟨w.heap.size, 2, none⟩ = some (.int .i64 x.v.2.1) := cell_of (i := 2) hn rfl
    have s3 : n.cell? ⟨w.heap.size, 3, none⟩ = some (.string x.v.2.2) := cell_of (i := 3) hn rfl
    have s4 : n.cell? ⟨w.heap.size, 4, none⟩ = some (.int .i64 x.c) := cell_of (i := 4) hn rfl
    have s5 : n.cell? ⟨w.heap.size, 5, none⟩ = some (.slice xa x.ks.length xcap) := cell_of (i := 5) hn rfl
    go_simp
  simp only [Act.put, List.setIfInBounds_toArray, List.set_cons_zero, List.set_cons_succ]
  refine wpY_step (rs := [0]) (by kernel_rfl) (by simp) ?_
  intro w3 hb3 jj hj
  obtain rfl : jj = 0 := by simpa using hj
  clear hj
  refine wpOp_step rfl (fun K hK => ?_)
  go_simp
  have D3 := chain (chain h1 hd) hb3
  have CW3 := hCC _ _ CW hb3
  have hal : Below w3.heap.size w3 (w3.alloc (.cells #[] 3)) := (Below.refl _ _).alloc (Nat.le_refl _) _
  have O4 : (w3.alloc (.cells #[] 3)).ownsRow w3.heap.size 3 1 (.slice (some ⟨w3.heap.size, 0, none⟩) 0 0) 0 [] := World.ownsRow_made (e := 3) (size := 1) w3 #[] 0 (Nat.le_refl _) (Nat.zero_le _) (by simp)
  have D4 := chain D3 hal
  have CW4 := hCC _ _ CW3 hal
  refine hK _ _ ⟨CW4, ?_⟩
  clear hK K CW CW3
  generalize w3.alloc (.cells #[] 3) = w4 at *
  refine wpY_step (rs := [2]) (by kernel_rfl) (by simp) ?_
  intro w5 hb5 jj hj
  obtain rfl : jj = 2 := by simpa using hj
  clear hj
  have D5 := chain D4 hb5
  have CW5 := hCC _ _ CW4 hb5
  have O5 := own_next O4 hb5
  refine wpOp_step rfl (fun K hK => ?_)
  refine Eq.mpr (if_pos (by kernel_rfl)) ?_
  refine wp_append_raw_at (some 21) rfl (Operand.tmp 19) (Operand.tmp 20) 22 rfl w3.heap.size 3 ii _ 1 8 Tryz.underlying22 hii hv0 hv1 hv2 rfl (by decide) _ 0 [] rfl O5 la left.length lcap _ rfl (raw_ints (hcl.next D5 (Nat.le_refl _))) m1 m2 (by have := hal.size; have := hb5.size; omega) ?_
  intro v6 w6 o6 g6
  have o6 : w6.ownsRow w3.heap.size 3 1 v6 left.length (left.map (Value.int .i64)) := by simpa using o6
  have hz3 : w.heap.size < w3.heap.size := by have := lt_of_heap q1; have := hb3.size; have : w1.drew.heap.size = w1.heap.size := rfl; omega
  have B6 : Below w3.heap.size w5 w6 := (Below.refl _ _).grown g6 (by have := hal.size; have := hb5.size; omega) (fun q hq => (O5.lt q hq).1)
  have CW6 : w6.heap[w.heap.size]? = some (.cells #[.int .i64 x.k, .int .i64 x.v.1, .int .i64 x.v.2.1, .string x.v.2.2, .int .i64 x.c, .slice xa x.ks.length xcap] 27 (0, 0)) := (B6.block _ hz3).trans CW5
  have D6 : Below w.heap.size w w6 := D5.trans (B6.mono (by omega))
  have z6 := B6.size
  refine hK _ _ ⟨CW6, ?_⟩
  clear hK K CW4 CW5 O4 O5 g6
  simp only [Act.put, List.setIfInBounds_toArray, List.set_cons_zero, List.set_cons_succ]
  refine wpY_step (rs := [4]) (by kernel_rfl) (by simp) ?_
  intro w7 hb7 jj hj
  obtain rfl : jj = 4 := by simpa using hj
  clear hj
  have D7 := chain D6 hb7
  have CW7 := hCC _ _ CW6 hb7
  have o7 := own_next o6 hb7
  have z7 : w3.heap.size ≤ w7.heap.size := by have := hal.size; have := hb5.size; have := hb7.size; omega
  refine wpOp_step rfl (fun K hK => ?_)
  refine Eq.mpr (if_pos (by kernel_rfl)) ?_
  refine wp_append_raw_at (some 23) rfl (Operand.tmp 21) (Operand.tmp 22) 22 rfl w3.heap.size 3 ii _ 1 8 Tryz.underlying22 hii hv0 hv1 hv2 rfl (by decide) _ left.length _ rfl o7 ra right.length rcap _ rfl (raw_ints (hcr.next D7 (Nat.le_refl _))) m3 m4 z7 ?_
  intro v8 w8 o8 g8
  rw [← List.map_append] at o8
  have B8 : Below w3.heap.size w7 w8 := (Below.refl _ _).grown g8 z7 (fun q hq => (o7.lt q hq).1)
  have CW8 : w8.heap[w.heap.size]? = some (.cells #[.int .i64 x.k, .int .i64 x.v.1, .int .i64 x.v.2.1, .string x.v.2.2, .int .i64 x.c, .slice xa x.ks.length xcap] 27 (0, 0)) := (B8.block _ hz3).trans CW7
  have D8 : Below w.heap.size w w8 := D7.trans (B8.mono (by omega))
  obtain ⟨a8, c8, rfl, I8⟩ := own_ints o8 (by simp)
  refine hK _ _ ⟨CW8, ?_⟩
  clear hK K CW6 CW7 o6 o7 g8 o8
  simp only [Act.put, List.setIfInBounds_toArray, List.set_cons_zero, List.set_cons_succ]
  refine wpY_step (rs := [6]) (by kernel_rfl) (by simp) ?_
  intro w9 hb9 jj hj
  obtain rfl : jj = 6 := by simpa using hj
  clear hj
  have D9 := chain D8 hb9
  have CW9 := hCC _ _ CW8 hb9
  have con := refCond_at (left ++ right) x a8 c8 xa xcap w9 ((KsAt.next D9 (Nat.le_refl _) hx).up D9.size) ((I8.next hb9 (Nat.le_refl _)).up hb9.size)
  generalize hce : condE (left ++ right) x = ce at *
  refine wpOp_step rfl (fun K hK => ?_)
  go_simp
  rw [List.length_append] at con
  refine con.mono ?_
  rintro e w10 ⟨rfl, hb10⟩
  clear con
  have CW10 := hCC _ _ CW9 hb10
  have D10 := chain D9 hb10
  refine hK _ _ ⟨CW10, ?_⟩
  clear hK K CW9 CW8
  refine wpY_take hCC (some 11) (i := 7) (v := .int .i64 ce) rfl rfl (by kernel_rfl) (by kernel_rfl) (by kernel_rfl) (fun _ _ _ h => h) (Or.inl ⟨rfl, fun n hn => ?_⟩) CW10 ?_
  · go_simp
  simp only [Act.put, List.setIfInBounds_toArray, List.set_cons_zero, List.set_cons_succ]
  refine wpY_done (by kernel_rfl) ?_
  intro w11 hb11
  have hA := chain D10 hb11
  clear CW10 hb11 hce
  by_cases hc : ce = 0
  · subst hc
    have con := refInput_at left la lcap a ca l w11 ((hcl.next hA (Nat.le_refl _)).up hA.size) (h.next hA)
    generalize hi1 : inpE left l = i1 at *
    go_wp2_with fail
    refine con.mono ?_
    rintro e w12 ⟨rfl, hb12⟩
    clear con
    have hA2 := chain hA hb12
    dsimp only
    by_cases hc1 : i1 = 0
    · subst hc1
      have con := refInput_at right ra rcap b cb r w12 ((hcr.next hA2 (Nat.le_refl _)).up hA2.size) (h'.next hA2)
      have ef : fe = inpE right r := by rw [HF2.out]; simp
      rw [← ef] at con
      go_wp2_with fail
      refine con.mono ?_
      rintro e w13 ⟨rfl, hb13⟩
      clear con
      dsimp only
      go_wp2_with fail
      go_ret
      exact ⟨rfl, chain hA2 hb13⟩
    · have ef : fe = i1 := by rw [HF2.out]; simp [hc1]
      have hne : (i1 != 0) = true := by simpa using hc1
      clear hc1
      subst ef
      go_wp2_with fail
      go_ret
      exact ⟨rfl, hA2⟩
  · have ef : fe = ce := by rw [HF2.out]; simp [hc]
    have hne : (ce != 0) = true := by simpa using hc
    clear hc
    subst ef
    go_wp2_with fail
    go_ret
    exact ⟨rfl, hA⟩
end Go.Proofs.YtfojonhblblbjaaGreat
/- The document's answer, chapter 4: partners. -/
namespace Go.Proofs.YtfojonhblblbjaaGreat
open Go.RowKit Go.Lib Go.Shelf

theorem hasP_drop (x : Ex) (row : List Vl) {r : List Zp} {k : Nat} (h : k < r.length) : hasP x (r.drop k) row = ((decide (0 < r[k].2) && holdsP x (row ++ r[k].1)) || hasP x (r.drop (k + 1)) row) := by
  unfold hasP
  rw [List.drop_eq_getElem_cons h, List.any_cons]

set_option maxRecDepth 100000 in
set_option maxHeartbeats 8000000 in
theorem refPartner_at {cols : List Int} (x : Ex) (hcx : condE cols x = 0) (xa : Option Addr) (xcap : Nat) (ra : Option Addr) (rcap : Nat) (row : List Vl) (b : Option Addr) (cb : Nat) (r : List Zp) (w : World) (hk : KsAt w.heap.size w xa x.ks) (hs : SlAt w ra row) (h : ZsAt w b r) (hl : r.length ≤ 400) (h8 : ∀ q ∈ r, row.length + q.1.length ≤ 8) (hf : ∀ q ∈ r, FitP cols (row ++ q.1)) :
    Calls Tryz.prog 54 #[exV x.k x.v x.c xa x.ks.length xcap, .slice ra row.length rcap, .slice b r.length cb] w fun e w' => e = .returned (.bool (hasP x r row)) ∧ Below w.heap.size w w' := by
  have h1 : Below w.heap.size w (w.alloc (.cells #[.int .i64 x.k, .int .i64 x.v.1, .int .i64 x.v.2.1, .string x.v.2.2, .int .i64 x.c, .slice xa x.ks.length xcap] 27)) := (Below.refl _ _).alloc (Nat.le_refl _) _
  have q1 := heap_new w #[.int .i64 x.k, .int .i64 x.v.1, .int .i64 x.v.2.1, .string x.v.2.2, .int .i64 x.c, .slice xa x.ks.length xcap] 27
  generalize hfe : hasP x r row = fe
  have HF : Hid (hasP x r row = fe) := hfe
  have HFit : Hid (∀ q ∈ r, FitP cols (row ++ q.1)) := hf
  have H8 : Hid (∀ q ∈ r, row.length + q.1.length ≤ 8) := h8
  clear hfe hf h8
  go_enter Tryz.func54, Tryz.ntmps54
  go_wp2_with fail
  generalize w.alloc (.cells #[.int .i64 x.k, .int .i64 x.v.1, .int .i64 x.v.2.1, .string x.v.2.2, .int .i64 x.c, .slice xa x.ks.length xcap] 27) = w1 at *
  go_loopw [11] (fun i wr => ∃ k : Nat, k ≤ r.length ∧ i = .int .i64 k ∧ Hid (fe = hasP x (r.drop k) row) ∧ Below w1.heap.size w1 wr) (fun i _ => r.length - (intOf i).toNat)
  case atStart => exact ⟨0, Nat.zero_le _, rfl, HF.out.symm, Below.refl _ _⟩
  case round =>
    obtain ⟨k, hk', rfl, HK, hb⟩ := hrel
    have hA := chain h1 hb
    by_cases hlt : k < r.length
    · obtain ⟨bb, off, rfl, hbl, d1, br, cr, d0, sr⟩ := (h.next hA).elem hlt
      have hal : Below wr.heap.size wr (wr.alloc (.cells #[.slice br r[k].1.length cr, .int .i64 r[k].2] 53)) := (Below.refl _ _).alloc (Nat.le_refl _) _
      have q2 := heap_new wr #[.slice br r[k].1.length cr, .int .i64 r[k].2] 53
      have qx := (hal.block w.heap.size (Nat.lt_of_lt_of_le (lt_of_heap q1) hb.size)).trans ((hb.block _ (lt_of_heap q1)).trans q1)
      have HD : Hid (hasP x (r.drop k) row = ((decide (0 < r[k].2) && holdsP x (row ++ r[k].1)) || hasP x (r.drop (k + 1)) row)) := hasP_drop x row hlt
      have HS : Hid (SlAt wr br r[k].1) := sr
      have hr8 := H8.out r[k] (List.getElem_mem hlt)
      have HFk : Hid (FitP cols (row ++ r[k].1)) := HFit.out r[k] (List.getElem_mem hlt)
      clear sr
      go_wp2_with fail
      clear d0 d1
      generalize wr.alloc (.cells #[.slice br r[k].1.length cr, .int .i64 r[k].2] 53) = wk at *
      have hCC : ∀ W W' : World, (W.heap[wr.heap.size]? = some (.cells #[.slice br r[k].1.length cr, .int .i64 r[k].2] 53 (0, 0)) ∧ W.heap[w.heap.size]? = some (.cells #[.int .i64 x.k, .int .i64 x.v.1, .int .i64 x.v.2.1, .string x.v.2.2, .int .i64 x.c, .slice xa x.ks.length xcap] 27 (0, 0))) → Below W.heap.size W W' → (W'.heap[wr.heap.size]? = some (.cells #[.slice br r[k].1.length cr, .int .i64 r[k].2] 53 (0, 0)) ∧ W'.heap[w.heap.size]? = some (.cells #[.int .i64 x.k, .int .i64 x.v.1, .int .i64 x.v.2.1, .string x.v.2.2, .int .i64 x.c, .slice xa x.ks.length xcap] 27 (0, 0))) := fun W W' h hb => ⟨(hb.block _ (lt_of_heap h.1)).trans h.1, (hb.block _ (lt_of_heap h.2)).trans h.2⟩
      have hd : Below wk.heap.size wk wk.drew := (Below.refl _ _).drew
      have CW : (wk.drew.heap[wr.heap.size]? = some (.cells #[.slice br r[k].1.length cr, .int .i64 r[k].2] 53 (0, 0)) ∧ wk.drew.heap[w.heap.size]? = some (.cells #[.int .i64 x.k, .int .i64 x.v.1, .int .i64 x.v.2.1, .string x.v.2.2, .int .i64 x.c, .slice xa x.ks.length xcap] 27 (0, 0))) := hCC _ _ ⟨q2, qx⟩ hd
      have hAk := chain (chain hA hal) hd
      have hDk := chain hal hd
      by_cases hpos : 0 < r[k].2
      · have hg : decide (0 < r[k].2) = true := decide_eq_true hpos
        refine wp_region_cls (fun W => (W.heap[wr.heap.size]? = some (.cells #[.slice br r[k].1.length cr, .int .i64 r[k].2] 53 (0, 0)) ∧ W.heap[w.heap.size]? = some (.cells #[.int .i64 x.k, .int .i64 x.v.1, .int .i64 x.v.2.1, .string x.v.2.2, .int .i64 x.c, .slice xa x.ks.length xcap] 27 (0, 0)))) (by kernel_rfl) ?_
        refine wpY_take hCC (some 15) (i := 0) (v := .pointer (some ⟨wr.heap.size, 1, none⟩)) rfl rfl (by kernel_rfl) (by kernel_rfl) (by kernel_rfl) (fun _ _ _ h => h) (Or.inl ⟨rfl, fun n hn => ?_⟩) CW ?_
        · go_simp
        simp only [Act.put, List.setIfInBounds_toArray, List.set_cons_zero, List.set_cons_succ]
        refine wpY_take hCC (some 16) (i := 1) (v := .int .i64 r[k].2) rfl rfl (by kernel_rfl) (by kernel_rfl) (by kernel_rfl) (fun _ _ _ h => h) (Or.inl ⟨rfl, fun n hn => ?_⟩) CW ?_
        · have hc : n.cell? ⟨wr.heap.size, 1, none⟩ = some (.int .i64 r[k].2) := cell_of (i := 1) hn.1 rfl
          go_simp
        simp only [Act.put, List.setIfInBounds_toArray, List.set_cons_zero, List.set_cons_succ]
        refine wpY_take hCC (some 17) (i := 2) (v := .bool true) rfl rfl (by kernel_rfl) (by kernel_rfl) (by kernel_rfl) (fun _ _ _ h => h) (Or.inl ⟨rfl, fun n hn => ?_⟩) CW ?_
        · go_simp
        simp only [Act.put, List.setIfInBounds_toArray, List.set_cons_zero, List.set_cons_succ]
        refine wpY_take hCC (some 18) (i := 3) (v := .bool true) rfl rfl (by kernel_rfl) (by kernel_rfl) (by kernel_rfl) (fun _ _ _ h => h) (Or.inl ⟨rfl, fun n hn => ?_⟩) CW ?_
        · go_simp
        simp only [Act.put, List.setIfInBounds_toArray, List.set_cons_zero, List.set_cons_succ]
        refine wpY_take hCC (some 19) (i := 4) (v := exV x.k x.v x.c xa x.ks.length xcap) rfl rfl (by kernel_rfl) (by kernel_rfl) (by kernel_rfl) (fun _ _ _ h => h) (Or.inl ⟨rfl, fun n hn => ?_⟩) CW ?_
        · have s0 : n.cell? ⟨w.heap.size, 0, none⟩ = some (.int .i64 x.k) := cell_of (i := 0) hn.2 rfl
          have s1 : n.cell? ⟨w.heap.size, 1, none⟩ = some (.int .i64 x.v.1) := cell_of (i := 1) hn.2 rfl
          have s2 : n.cell? ⟨w.heap.size, 2, none⟩ = some (.int .i64 x.v.2.1) := cell_of (i := 2) hn.2 rfl
          have s3 : n.cell? ⟨w.heap.size, 3, none⟩ = some (.string x.v.2.2) := cell_of (i := 3) hn.2 rfl
          have s4 : n.cell? ⟨w.heap.size, 4, none⟩ = some (.int .i64 x.c) := cell_of (i := 4) hn.2 rfl
          have s5 : n.cell? ⟨w.heap.size, 5, none⟩ = some (.slice xa x.ks.length xcap) := cell_of (i := 5) hn.2 rfl
          go_simp
        simp only [Act.put, List.setIfInBounds_toArray, List.set_cons_zero, List.set_cons_succ]
        refine wpY_take hCC (some 20) (i := 5) (v := .slice ra row.length rcap) rfl rfl (by kernel_rfl) (by kernel_rfl) (by kernel_rfl) (fun _ _ _ h => h) (Or.inl ⟨rfl, fun n hn => ?_⟩) CW ?_
        · go_simp
        simp only [Act.put, List.setIfInBounds_toArray, List.set_cons_zero, List.set_cons_succ]
        refine wpY_take hCC (some 21) (i := 6) (v := .pointer (some ⟨wr.heap.size, 0, none⟩)) rfl rfl (by kernel_rfl) (by kernel_rfl) (by kernel_rfl) (fun _ _ _ h => h) (Or.inl ⟨rfl, fun n hn => ?_⟩) CW ?_
        · go_simp
        simp only [Act.put, List.setIfInBounds_toArray, List.set_cons_zero, List.set_cons_succ]
        refine wpY_take hCC (some 22) (i := 7) (v := .slice br r[k].1.length cr) rfl rfl (by kernel_rfl) (by kernel_rfl) (by kernel_rfl) (fun _ _ _ h => h) (Or.inl ⟨rfl, fun n hn => ?_⟩) CW ?_
        · have hc : n.cell? ⟨wr.heap.size, 0, none⟩ = some (.slice br r[k].1.length cr) := cell_of (i := 0) hn.1 rfl
          go_simp
        simp only [Act.put, List.setIfInBounds_toArray, List.set_cons_zero, List.set_cons_succ]
        refine wpY_step (rs := [8]) (by kernel_rfl) (by simp) ?_
        intro w3 hb3 jj hj
        obtain rfl : jj = 8 := by simpa using hj
        clear hj
        have CW3 := hCC _ _ CW hb3
        have A3 := chain hAk hb3
        have con := refBoth_at ra br rcap cr row r[k].1 w3 (hs.next A3) (HS.out.next (chain hDk hb3)) hr8
        refine wpOp_step rfl (fun K hK => ?_)
        go_simp
        refine con.mono ?_
        rintro e w4 ⟨v4, rfl, O4, hb4⟩
        clear con
        obtain ⟨a4, c4, rfl, S4, T4, _⟩ := own_vals O4 (by simp)
        have CW4 := hCC _ _ CW3 hb4
        have A4 := chain A3 hb4
        refine hK _ _ ⟨CW4, ?_⟩
        clear hK K O4 T4
        refine wpY_step (rs := [9]) (by kernel_rfl) (by simp) ?_
        intro w5 hb5 jj hj
        obtain rfl : jj = 9 := by simpa using hj
        clear hj
        have CW5 := hCC _ _ CW4 hb5
        have A5 := chain A4 hb5
        have con := refHolds_at x hcx (row ++ r[k].1) HFk.out xa xcap a4 c4 w5 ((KsAt.next A5 (Nat.le_refl _) hk).up A5.size) (S4.next hb5)
        generalize hho : holdsP x (row ++ r[k].1) = ho at *
        refine wpOp_step rfl (fun K hK => ?_)
        go_simp
        rw [List.length_append] at con
        refine con.mono ?_
        rintro e w6 ⟨rfl, hb6⟩
        clear con
        have CW6 := hCC _ _ CW5 hb6
        have B6 := chain hb (chain (chain (chain (chain hDk hb3) hb4) hb5) hb6)
        refine hK _ _ ⟨CW6, ?_⟩
        clear hK K CW3 CW4 CW5
        refine wpY_take hCC (some 25) (i := 10) (v := .bool ho) rfl rfl (by kernel_rfl) (by kernel_rfl) (by kernel_rfl) (fun _ _ _ h => h) (Or.inl ⟨rfl, fun n hn => ?_⟩) CW6 ?_
        · go_simp
        simp only [Act.put, List.setIfInBounds_toArray, List.set_cons_zero, List.set_cons_succ]
        refine wpY_done (by kernel_rfl) ?_
        intro w7 hb7
        have B7 := chain B6 hb7
        have HD2 : Hid (fe = (ho || hasP x (r.drop (k + 1)) row)) := by show _ = _; rw [HK.out, HD.out, hg, Bool.true_and]
        clear CW6 CW hb7 B6
        cases ho with
        | true =>
          have e : fe = true := by rw [HD2.out, Bool.true_or]
          subst e
          go_wp2_with fail
          go_ret
          exact ⟨rfl, chain h1 B7⟩
        | false =>
          have HD3 : Hid (fe = hasP x (r.drop (k + 1)) row) := by show _ = _; rw [HD2.out, Bool.false_or]
          go_wp2_with fail
          go_roundw
          case rel => exact ⟨k + 1, by omega, by go_num, HD3, B7⟩
          case measure => simp [intOf]; omega
      · have hg : decide (0 < r[k].2) = false := decide_eq_false hpos
        have HD3 : Hid (fe = hasP x (r.drop (k + 1)) row) := by show _ = _; rw [HK.out, HD.out, hg, Bool.false_and, Bool.false_or]
        have p1 := past_cell (cell_of (i := 1) q2 rfl : wk.cell? ⟨wr.heap.size, 1, none⟩ = some (.int .i64 r[k].2))
        haveI : Nonempty (Past wk) := ⟨⟨wk, Below.refl _ _⟩⟩
        refine wp_region_past (by kernel_rfl) (by kernel_rfl) ?_
        repeat (go_big_quiet_step (fail))
        refine wpQuiet_nil ?_
        rintro w7 ⟨⟨v7, hb7⟩, h7⟩
        obtain rfl : w7 = v7 := h7
        have B7 := chain hb (chain hal hb7)
        clear p1 CW
        go_wp2_with fail
        go_roundw
        case rel => exact ⟨k + 1, by omega, by go_num, HD3, B7⟩
        case measure => simp [intOf]; omega
    · have e : k = r.length := by omega
      subst e
      have e : fe = false := by rw [HK.out, List.drop_length]; rfl
      subst e
      go_wp2_with fail
      go_ret
      exact ⟨rfl, hA⟩
end Go.Proofs.YtfojonhblblbjaaGreat
/- Pairs, row by row: plain facts; one more row put in its place. -/
namespace Go.Proofs.YtfojonhblblbjaaGreat
open Go.RowKit Go.Lib Go.Shelf

def rowI (what n : Nat) (x : Ex) (r : List Zp) (p : Zp) : List Zp :=
  (if what = 0 ∨ what = 3 then pairsOf x p r else []) ++ ((if (what = 1 ∧ hasP x r p.1 = true) ∨ (what = 2 ∧ hasP x r p.1 = false) then [p] else []) ++ (if what = 3 ∧ hasP x r p.1 = false then [(p.1 ++ nulls n, p.2)] else []))
def nameI (what n : Nat) (x : Ex) (l r : List Zp) : List Zp := l.flatMap (rowI what n x r)
theorem nameI_take {what n : Nat} {x : Ex} {l r : List Zp} {k : Nat} (h : k < l.length) : nameI what n x (l.take (k + 1)) r = nameI what n x (l.take k) r ++ rowI what n x r l[k] := by
  unfold nameI
  rw [List.take_succ_eq_append_getElem h, List.flatMap_append]
  simp
theorem nameI_wt {what n : Nat} (hw : what = 0 ∨ what = 1 ∨ what = 2 ∨ what = 3) (x : Ex) (r : List Zp) (q : List Vl) : ∀ l : List Zp, wt (nameI what n x l r) q = wt (nameL what n x l r) q
  | [] => by rcases hw with rfl | rfl | rfl | rfl <;> rfl
  | p :: t => by
    have ih := nameI_wt (n := n) hw x r q t
    have e1 : nameI what n x (p :: t) r = rowI what n x r p ++ nameI what n x t r := by unfold nameI; rw [List.flatMap_cons]
    rw [e1, wt_append, ih]
    rcases hw with rfl | rfl | rfl | rfl
    · show wt (pairsOf x p r ++ ([] ++ [])) q + wt (joinL x t r) q = wt (joinL x (p :: t) r) q
      unfold joinL
      rw [List.flatMap_cons, wt_append, wt_append, wt_append]
      simp only [wt]
      omega
    · show wt ([] ++ ((if _ then [p] else []) ++ [])) q + wt (semiL x t r) q = wt (semiL x (p :: t) r) q
      unfold semiL
      rw [List.filter_cons]
      by_cases h : hasP x r p.1 = true
      · rw [if_pos h, if_pos (.inl ⟨rfl, h⟩)]; simp [wt]
      · rw [if_neg h, if_neg (by rintro (⟨_, h'⟩ | ⟨h', _⟩); exact h h'; omega)]; simp [wt]
    · unfold rowI
      show wt ([] ++ ((if (2 = 1 ∧ hasP x r p.1 = true) ∨ (2 = 2 ∧ hasP x r p.1 = false) then [p] else []) ++ [])) q + wt (antiL x t r) q = wt (antiL x (p :: t) r) q
      unfold antiL
      cases h : hasP x r p.1 <;> simp [h, wt]
    · show wt (pairsOf x p r ++ ([] ++ (if _ then [(p.1 ++ nulls n, p.2)] else []))) q + wt (leftL x n t r) q = wt (leftL x n (p :: t) r) q
      unfold leftL joinL antiL wideL
      rw [List.flatMap_cons, List.filter_cons, wt_append, wt_append, wt_append, wt_append, wt_append]
      by_cases h : hasP x r p.1 = true
      · rw [if_neg (by rintro ⟨_, h'⟩; rw [h] at h'; cases h'), if_neg (by simp [h])]; simp [wt]; omega
      · have h' : hasP x r p.1 = false := by simpa using h
        rw [if_pos ⟨rfl, h'⟩, if_pos (by simp [h']), List.map_cons]
        simp only [wt]
        omega
theorem nameI_canon {what n : Nat} (hw : what = 0 ∨ what = 1 ∨ what = 2 ∨ what = 3) (x : Ex) (l r : List Zp) : canon (nameI what n x l r) = canon (nameL what n x l r) := canon_congr fun q => nameI_wt hw x r q l
theorem putL_len (r : List Vl) (x : Int) : ∀ z : List Zp, (putL z r x).length ≤ z.length + 1
  | [] => by unfold putL; split <;> simp
  | y :: t => by
    have := putL_len r x t
    unfold putL
    split
    · simp only [List.length_cons]; omega
    · split
      · split <;> simp only [List.length_cons] <;> omega
      · split <;> simp only [List.length_cons] <;> omega
theorem canon_lenV (l : List Zp) : (canon l).length ≤ l.length := by
  have aux : ∀ (l z : List Zp), (l.foldl (fun z x => putL z x.1 x.2) z).length ≤ z.length + l.length := by
    intro l
    induction l with
    | nil => intro z; simp
    | cons x r ih =>
      intro z
      have h1 := ih (putL z x.1 x.2)
      have h2 := putL_len x.1 x.2 z
      simp only [List.foldl_cons, List.length_cons]
      omega
  have := aux l []
  simpa [canon] using this
/-- Rows that may be put in their places. -/
structure POk (c : Nat) (pre : List Zp) : Prop where
  len : pre.length ≤ c
  all : ∀ y ∈ pre, rightB y.1 = true ∧ -1000000000000 ≤ y.2 ∧ y.2 ≤ 1000000000000
theorem POk.push {c : Nat} {pre : List Zp} (h : POk c pre) {y : Zp} (hy : rightB y.1 = true ∧ -1000000000000 ≤ y.2 ∧ y.2 ≤ 1000000000000) : POk (c + 1) (pre ++ [y]) :=
  ⟨by have := h.len; simp; omega, fun z hz => by
    rcases List.mem_append.1 hz with h' | h'
    · exact h.all z h'
    · rw [List.mem_singleton.1 h']; exact hy⟩
theorem POk.up {c c' : Nat} {pre : List Zp} (h : POk c pre) (hc : c ≤ c') : POk c' pre := ⟨Nat.le_trans h.len hc, h.all⟩
theorem wt_bdV {l : List Zp} (h : ∀ x ∈ l, rightB x.1 = true ∧ -1000000000000 ≤ x.2 ∧ x.2 ≤ 1000000000000) (q : List Vl) : -(1000000000000 * (l.length : Int)) ≤ wt l q ∧ wt l q ≤ 1000000000000 * (l.length : Int) := by
  induction l with
  | nil => simp [wt]
  | cons x r ih =>
    have ih := ih (fun y hy => h y (by simp [hy]))
    have hx := h x (by simp)
    rw [wt, List.length_cons]
    split <;> omega
/-- What has been put in its place so far. -/
def Acc (W : World) (v : Value) (pre : List Zp) : Prop := ∃ a cap, v = .slice a (canon pre).length cap ∧ ZsAt W a (canon pre) ∧ Lie a cap (canon pre).length
theorem Acc.next {W w1 : World} {v : Value} {pre : List Zp} (h : Acc W v pre) (hb : Below W.heap.size W w1) : Acc w1 v pre := by
  obtain ⟨a, cap, e, z, l⟩ := h
  exact ⟨a, cap, e, z.next hb, l⟩
theorem Acc.nil (W : World) : Acc W (.slice none 0 0) [] := ⟨none, 0, rfl, ⟨by simp [canon], .inl rfl⟩, ⟨fun _ => rfl, by simp [canon], Nat.zero_le _⟩⟩
theorem putC_at (v : Value) (pre : List Zp) (c : Nat) (hc : c ≤ 170000) (hp : POk c pre) (b : Option Addr) (cb : Nat) (r : List Vl) (x : Int) (w : World) (h : Acc w v pre) (h' : SlAt w b r) (h8 : r.length ≤ 8) (hx : -1000000000000 ≤ x ∧ x ≤ 1000000000000) :
    Calls Tryz.prog 38 #[v, .slice b r.length cb, .int .i64 x] w fun e w' => ∃ u, e = .returned u ∧ Acc w' u (pre ++ [(r, x)]) ∧ Below w.heap.size w w' := by
  obtain ⟨a, cap, rfl, z, l⟩ := h
  have hl := Nat.le_trans (canon_lenV pre) hp.len
  refine (put_at a cap (canon pre) b cb r x w z l h' h8 (by omega) (fun y hy => ?_) (fun y hy => ?_) (by omega)).mono ?_
  · obtain ⟨p, hp', e⟩ := canon_row pre y hy
    rw [e, right_bare]
    exact (hp.all p hp').1
  · rw [← wt_mem (canon_set pre).rise y hy, canon_wt]
    have := wt_bdV hp.all y.1
    have := hp.len
    omega
  · rintro e w' ⟨u, rfl, O, hb⟩
    have e1 : putL (canon pre) r x = canon (pre ++ [(r, x)]) := (canon_snoc pre (r, x)).symm
    rw [e1] at O
    obtain ⟨a', cap', rfl, z', l'⟩ := O.zs
    exact ⟨_, rfl, ⟨a', cap', rfl, z', l'⟩, hb⟩
theorem pairsOf_ok {left right : List Int} {x : Ex} {l r : List Zp} (hT : TwoOk left right x l r) {p q : Zp} (hp : p ∈ l) (hq : q ∈ r) : rightB (p.1 ++ q.1) = true ∧ -1000000000000 ≤ p.2 * q.2 ∧ p.2 * q.2 ≤ 1000000000000 :=
  ⟨fit_right (fit_append (hT.left.fit p hp) (hT.right.fit q hq)), (askable hT).mul p hp q hq⟩
theorem row_ok {left right : List Int} {x : Ex} {l r : List Zp} (hT : TwoOk left right x l r) {p : Zp} (hp : p ∈ l) : rightB p.1 = true ∧ -1000000000000 ≤ p.2 ∧ p.2 ≤ 1000000000000 :=
  ⟨fit_right (hT.left.fit p hp), by have := set_in hT.left p hp; rw [inW_iff] at this; omega⟩
end Go.Proofs.YtfojonhblblbjaaGreat
/- The document's answer, chapter 4: pairs, row by row. -/
namespace Go.Proofs.YtfojonhblblbjaaGreat
open Go.RowKit Go.Lib Go.Shelf

set_option maxRecDepth 100000 in
set_option maxHeartbeats 8000000 in
theorem refPairs1_at (left right : List Int) (x : Ex) (la : Option Addr) (lcap : Nat) (ra : Option Addr) (rcap : Nat) (xa : Option Addr) (xcap : Nat) (a : Option Addr) (ca : Nat) (l : List Zp) (b : Option Addr) (cb : Nat) (r : List Zp) (w : World)
    (hcl : IsAt w.heap.size w la left) (hcr : IsAt w.heap.size w ra right) (hx : KsAt w.heap.size w xa x.ks) (h : ZsAt w a l) (h' : ZsAt w b r) (hll : left.length ≤ 100000000000000) (hrl : right.length ≤ 100000000000000) :
    Calls Tryz.prog 20 #[.int .i64 1, .slice la left.length lcap, .slice ra right.length rcap, exV x.k x.v x.c xa x.ks.length xcap, .slice a l.length ca, .slice b r.length cb] w fun e w' => ∃ v, e = .returned (.tuple #[v, .int .i64 (pairE 1 left right x l r)]) ∧ (∃ ua uc, v = .slice ua (pairZ 1 left right x l r).length uc ∧ ZsAt w' ua (pairZ 1 left right x l r)) ∧ Below w.heap.size w w' := by
  have h1 : Below w.heap.size w (w.alloc (.cells #[.int .i64 x.k, .int .i64 x.v.1, .int .i64 x.v.2.1, .string x.v.2.2, .int .i64 x.c, .slice xa x.ks.length xcap] 27)) := (Below.refl _ _).alloc (Nat.le_refl _) _
  have S1 : Hid (Six (w.alloc (.cells #[.int .i64 x.k, .int .i64 x.v.1, .int .i64 x.v.2.1, .string x.v.2.2, .int .i64 x.c, .slice xa x.ks.length xcap] 27)) w.heap.size 0 x.k x.v x.c xa x.ks.length xcap) := Six.new w x.k x.v x.c xa x.ks.length xcap 27
  have z1 : (w.alloc (.cells #[.int .i64 x.k, .int .i64 x.v.1, .int .i64 x.v.2.1, .string x.v.2.2, .int .i64 x.c, .slice xa x.ks.length xcap] 27)).heap.size = w.heap.size + 1 := by simp
  generalize hfz : pairZ 1 left right x l r = fz
  generalize hfe : pairE 1 left right x l r = fe
  have HZ : Hid (pairZ 1 left right x l r = fz) := hfz
  have HE : Hid (pairE 1 left right x l r = fe) := hfe
  clear hfz hfe
  go_enter Tryz.func20, Tryz.ntmps20
  obtain ⟨s0, s1, s2, s3, s4, s5⟩ := S1.out
  simp only [Nat.zero_add] at s1 s2 s3 s4 s5
  go_wp2_with fail
  clear s0 s1 s2 s3 s4 s5
  generalize w.alloc (.cells #[.int .i64 x.k, .int .i64 x.v.1, .int .i64 x.v.2.1, .string x.v.2.2, .int .i64 x.c, .slice xa x.ks.length xcap] 27) = w1 at *
  have con := refTwo_at left right x la lcap ra rcap xa xcap a ca l b cb r w1 ((hcl.next h1 (Nat.le_refl _)).up h1.size) ((hcr.next h1 (Nat.le_refl _)).up h1.size) ((KsAt.next h1 (Nat.le_refl _) hx).up h1.size) (h.next h1) (h'.next h1) hll hrl
  generalize hte : twoE left right x l r = te at con
  have HTe : Hid (twoE left right x l r = te) := hte
  clear hte
  refine con.mono ?_
  rintro e w2 ⟨rfl, hb2⟩
  clear con
  have hA2 := chain h1 hb2
  dsimp only
  by_cases ht : te = 0
  · subst ht
    have HT : Hid (TwoOk left right x l r) := (twoE_ok left right x l r).1 HTe.out
    have hln := HT.out.len
    have hl4 := set_len HT.out.left
    have hr4 := set_len HT.out.right
    have HEe : Hid (fe = gatherE (nameL 1 right.length x l r)) := by show _ = _; rw [← HE.out]; unfold pairE; rw [HTe.out, if_neg (by simp)]
    have HZe : Hid (fz = gatherZ (nameL 1 right.length x l r)) := by show _ = _; rw [← HZ.out]; unfold pairZ gatherZ; rw [HE.out, HEe.out]
    clear HE HZ HTe
    go_wp2_with fail
    go_loopw [15, 34] (fun v i wr => ∃ k : Nat, k ≤ l.length ∧ i = .int .i64 k ∧ Acc wr v (nameI 1 right.length x (l.take k) r) ∧ Hid (POk (k * 401) (nameI 1 right.length x (l.take k) r)) ∧ Below w2.heap.size w2 wr) (fun _ i _ => l.length - (intOf i).toNat)
    case atStart => exact ⟨0, Nat.zero_le _, rfl, Acc.nil _, ⟨by simp [nameI], fun y hy => by simp [nameI] at hy⟩, Below.refl _ _⟩
    case round =>
      obtain ⟨k, hk, rfl, HA, HP, hb⟩ := hrel
      by_cases hlt : k < l.length
      · have hAr := chain hA2 hb
        obtain ⟨bb, off, rfl, hbl, c1, ar, cr, c0, sr⟩ := (h.next hAr).elem hlt
        have hal : Below wr.heap.size wr (wr.alloc (.cells #[.slice ar l[k].1.length cr, .int .i64 l[k].2] 53)) := (Below.refl _ _).alloc (Nat.le_refl _) _
        have q0 := heap_new wr #[.slice ar l[k].1.length cr, .int .i64 l[k].2] 53
        have za : (wr.alloc (.cells #[.slice ar l[k].1.length cr, .int .i64 l[k].2] 53)).heap.size = wr.heap.size + 1 := by simp
        have HTk : Hid (nameI 1 right.length x (l.take (k + 1)) r = nameI 1 right.length x (l.take k) r ++ rowI 1 right.length x r l[k]) := nameI_take hlt
        have hrow := row_ok HT.out (List.getElem_mem hlt)
        have HRow : Hid (rightB l[k].1 = true ∧ -1000000000000 ≤ l[k].2 ∧ l[k].2 ≤ 1000000000000) := hrow
        have hwl := hrow.2
        have hfl := (HT.out.left.fit l[k] (List.getElem_mem hlt)).len
        have hl8 : l[k].1.length + right.length ≤ 8 := by omega
        have H8 : Hid (∀ q ∈ r, l[k].1.length + q.1.length ≤ 8) := fun q hq => (askable HT.out).row l[k] (List.getElem_mem hlt) q hq
        have HFt : Hid (∀ q ∈ r, FitP (left ++ right) (l[k].1 ++ q.1)) := fun q hq => (askable HT.out).fit l[k] (List.getElem_mem hlt) q hq
        have hAk := chain hAr hal
        have hSk := chain (chain hb2 hb) hal
        have HSr : Hid (SlAt (wr.alloc (.cells #[.slice ar l[k].1.length cr, .int .i64 l[k].2] 53)) ar l[k].1) := sr.next hal
        have HAk := HA.next hal
        clear hrow hfl sr HA
        have HPk : Hid (POk (k * 401) (nameI 1 right.length x (l.take k) r)) := HP
        clear HP
        go_upto_region 16 with fail
        clear c0 c1
        obtain ⟨wo, hwo⟩ : ∃ z, z = wr := ⟨_, rfl⟩
        subst hwo
        obtain ⟨uo, huo⟩ : ∃ z, z = u15 := ⟨_, rfl⟩
        subst huo
        generalize wo.alloc (.cells #[.slice ar l[k].1.length cr, .int .i64 l[k].2] 53) = wk at *
        have hA := hAk
        have hS := hSk
        have hB := chain hb hal
        have con := refPartner_at (cols := left ++ right) x HT.out.cond xa xcap ar cr l[k].1 b cb r wk ((KsAt.next hA (Nat.le_refl _) hx).up hA.size) HSr.out (h'.next hA) hr4 H8.out HFt.out
        generalize hhs : hasP x r l[k].1 = has at con
        have HHs : Hid (hasP x r l[k].1 = has) := hhs
        clear hhs
        have p0 : wk.cell? ⟨wo.heap.size, 0, none⟩ = some (.slice ar l[k].1.length cr) := cell_of (i := 0) q0 rfl
        obtain ⟨s0, s1, s2, s3, s4, s5⟩ := S1.out.next hS (by omega)
        simp only [Nat.zero_add] at s1 s2 s3 s4 s5
        go_wp2_with fail
        refine con.mono ?_
        rintro e w5 ⟨rfl, hb5⟩
        clear s0 s1 s2 s3 s4 s5
        clear con p0
        have q0 := (hb5.block _ (lt_of_heap q0)).trans q0
        have hA := chain hA hb5
        have hS := chain hS hb5
        have HSr : Hid (SlAt w5 ar l[k].1) := HSr.out.next hb5
        have HAk := HAk.next hb5
        have hB := chain hB hb5
        dsimp only
        cases has with
        | true =>
          have p0 : w5.cell? ⟨wo.heap.size, 0, none⟩ = some (.slice ar l[k].1.length cr) := cell_of (i := 0) q0 rfl
          have p1 : w5.cell? ⟨wo.heap.size, 1, none⟩ = some (.int .i64 l[k].2) := cell_of (i := 1) q0 rfl
          have con := putC_at _ _ _ (by omega) HPk.out ar cr l[k].1 l[k].2 w5 HAk HSr.out (by omega) hwl
          go_wp2_with fail
          refine con.mono ?_
          rintro e w6 ⟨v6, rfl, HA6, hb6⟩
          clear con p0 p1
          have hB := chain hB hb6
          dsimp only
          go_wp2_with fail
          have HR : Hid (nameI 1 right.length x (l.take (k + 1)) r = nameI 1 right.length x (l.take k) r ++ [(l[k].1, l[k].2)]) := by
            show _ = _
            rw [HTk.out]
            congr 1
            unfold rowI
            rw [HHs.out]
            simp
          have HPn : Hid (POk ((k + 1) * 401) (nameI 1 right.length x (l.take (k + 1)) r)) := by
            show POk _ _
            rw [HR.out]
            exact (HPk.out.push (y := (l[k].1, l[k].2)) HRow.out).up (by omega)
          go_roundw
          case rel => exact ⟨k + 1, by omega, by go_num, by rw [HR.out]; exact HA6, HPn, hB⟩
          case measure => simp [intOf]; omega
        | false =>
          have HR : Hid (nameI 1 right.length x (l.take (k + 1)) r = nameI 1 right.length x (l.take k) r) := by
            show _ = _
            rw [HTk.out]
            unfold rowI
            rw [HHs.out]
            simp
          have HPn : Hid (POk ((k + 1) * 401) (nameI 1 right.length x (l.take (k + 1)) r)) := by
            show POk _ _
            rw [HR.out]
            exact HPk.out.up (by omega)
          go_wp2_with fail
          go_roundw
          case rel => exact ⟨k + 1, by omega, by go_num, by rw [HR.out]; exact HAk, HPn, hB⟩
          case measure => simp [intOf]; omega
      · have e : k = l.length := by omega
        subst e
        rw [List.take_length] at HA
        obtain ⟨av, cv, rfl, zv, lv⟩ := HA
        have con := fit_at av cv (canon (nameI 1 right.length x l r)) wr zv (by have := canon_lenV (nameI 1 right.length x l r); have := HP.out.len; rw [List.take_length] at this; omega)
        have e1 : fitE (canon (nameI 1 right.length x l r)) = fe := by
          rw [nameI_canon (by omega) x l r, HEe.out]; rfl
        have e2 : fitZ (canon (nameI 1 right.length x l r)) = fz := by
          unfold fitZ
          rw [e1, HZe.out]
          unfold gatherZ
          rw [← HEe.out, nameI_canon (by omega) x l r]
        rw [e1, e2] at con
        clear e1 e2 HP
        have hA := chain hA2 hb
        go_wp2_with fail
        refine con.mono ?_
        rintro e w9 ⟨⟨a9, c9, rfl, zs9⟩, hb9⟩
        clear con
        dsimp only
        go_wp2_with fail
        exact bodyPost_ret (v := .tuple #[.slice a9 fz.length c9, .int .i64 fe]) (by simp [results, Tryz.results20, go_sem]) rfl ⟨_, rfl, ⟨_, _, rfl, zs9⟩, chain hA hb9⟩
  · have e0 : fe = te := by rw [← HE.out]; unfold pairE; rw [HTe.out, if_pos ht]
    have e1 : fz = [] := by rw [← HZ.out]; unfold pairZ; rw [HE.out, e0, if_neg ht]
    have hne : (te != 0) = true := by simpa using ht
    subst e0 e1
    clear ht
    go_wp2_with fail
    exact bodyPost_ret (v := .tuple #[.slice none 0 0, .int .i64 fe]) (by simp [results, Tryz.results20, go_sem]) rfl ⟨_, rfl, ⟨_, _, rfl, ⟨by simp, .inl rfl⟩⟩, hA2⟩

set_option maxRecDepth 100000 in
set_option maxHeartbeats 8000000 in
theorem refPairs2_at (left right : List Int) (x : Ex) (la : Option Addr) (lcap : Nat) (ra : Option Addr) (rcap : Nat) (xa : Option Addr) (xcap : Nat) (a : Option Addr) (ca : Nat) (l : List Zp) (b : Option Addr) (cb : Nat) (r : List Zp) (w : World)
    (hcl : IsAt w.heap.size w la left) (hcr : IsAt w.heap.size w ra right) (hx : KsAt w.heap.size w xa x.ks) (h : ZsAt w a l) (h' : ZsAt w b r) (hll : left.length ≤ 100000000000000) (hrl : right.length ≤ 100000000000000) :
    Calls Tryz.prog 20 #[.int .i64 2, .slice la left.length lcap, .slice ra right.length rcap, exV x.k x.v x.c xa x.ks.length xcap, .slice a l.length ca, .slice b r.length cb] w fun e w' => ∃ v, e = .returned (.tuple #[v, .int .i64 (pairE 2 left right x l r)]) ∧ (∃ ua uc, v = .slice ua (pairZ 2 left right x l r).length uc ∧ ZsAt w' ua (pairZ 2 left right x l r)) ∧ Below w.heap.size w w' := by
  have h1 : Below w.heap.size w (w.alloc (.cells #[.int .i64 x.k, .int .i64 x.v.1, .int .i64 x.v.2.1, .string x.v.2.2, .int .i64 x.c, .slice xa x.ks.length xcap] 27)) := (Below.refl _ _).alloc (Nat.le_refl _) _
  have S1 : Hid (Six (w.alloc (.cells #[.int .i64 x.k, .int .i64 x.v.1, .int .i64 x.v.2.1, .string x.v.2.2, .int .i64 x.c, .slice xa x.ks.length xcap] 27)) w.heap.size 0 x.k x.v x.c xa x.ks.length xcap) := Six.new w x.k x.v x.c xa x.ks.length xcap 27
  have z1 : (w.alloc (.cells #[.int .i64 x.k, .int .i64 x.v.1, .int .i64 x.v.2.1, .string x.v.2.2, .int .i64 x.c, .slice xa x.ks.length xcap] 27)).heap.size = w.heap.size + 1 := by simp
  generalize hfz : pairZ 2 left right x l r = fz
  generalize hfe : pairE 2 left right x l r = fe
  have HZ : Hid (pairZ 2 left right x l r = fz) := hfz
  have HE : Hid (pairE 2 left right x l r = fe) := hfe
  clear hfz hfe
  go_enter Tryz.func20, Tryz.ntmps20
  obtain ⟨s0, s1, s2, s3, s4, s5⟩ := S1.out
  simp only [Nat.zero_add] at s1 s2 s3 s4 s5
  go_wp2_with fail
  clear s0 s1 s2 s3 s4 s5
  generalize w.alloc (.cells #[.int .i64 x.k, .int .i64 x.v.1, .int .i64 x.v.2.1, .string x.v.2.2, .int .i64 x.c, .slice xa x.ks.length xcap] 27) = w1 at *
  have con := refTwo_at left right x la lcap ra rcap xa xcap a ca l b cb r w1 ((hcl.next h1 (Nat.le_refl _)).up h1.size) ((hcr.next h1 (Nat.le_refl _)).up h1.size) ((KsAt.next h1 (Nat.le_refl _) hx).up h1.size) (h.next h1) (h'.next h1) hll hrl
  generalize hte : twoE left right x l r = te at con
  have HTe : Hid (twoE left right x l r = te) := hte
  clear hte
  refine con.mono ?_
  rintro e w2 ⟨rfl, hb2⟩
  clear con
  have hA2 := chain h1 hb2
  dsimp only
  by_cases ht : te = 0
  · subst ht
    have HT : Hid (TwoOk left right x l r) := (twoE_ok left right x l r).1 HTe.out
    have hln := HT.out.len
    have hl4 := set_len HT.out.left
    have hr4 := set_len HT.out.right
    have HEe : Hid (fe = gatherE (nameL 2 right.length x l r)) := by show _ = _; rw [← HE.out]; unfold pairE; rw [HTe.out, if_neg (by simp)]
    have HZe : Hid (fz = gatherZ (nameL 2 right.length x l r)) := by show _ = _; rw [← HZ.out]; unfold pairZ gatherZ; rw [HE.out, HEe.out]
    clear HE HZ HTe
    go_wp2_with fail
    go_loopw [15, 34] (fun v i wr => ∃ k : Nat, k ≤ l.length ∧ i = .int .i64 k ∧ Acc wr v (nameI 2 right.length x (l.take k) r) ∧ Hid (POk (k * 401) (nameI 2 right.length x (l.take k) r)) ∧ Below w2.heap.size w2 wr) (fun _ i _ => l.length - (intOf i).toNat)
    case atStart => exact ⟨0, Nat.zero_le _, rfl, Acc.nil _, ⟨by simp [nameI], fun y hy => by simp [nameI] at hy⟩, Below.refl _ _⟩
    case round =>
      obtain ⟨k, hk, rfl, HA, HP, hb⟩ := hrel
      by_cases hlt : k < l.length
      · have hAr := chain hA2 hb
        obtain ⟨bb, off, rfl, hbl, c1, ar, cr, c0, sr⟩ := (h.next hAr).elem hlt
        have hal : Below wr.heap.size wr (wr.alloc (.cells #[.slice ar l[k].1.length cr, .int .i64 l[k].2] 53)) := (Below.refl _ _).alloc (Nat.le_refl _) _
        have q0 := heap_new wr #[.slice ar l[k].1.length cr, .int .i64 l[k].2] 53
        have za : (wr.alloc (.cells #[.slice ar l[k].1.length cr, .int .i64 l[k].2] 53)).heap.size = wr.heap.size + 1 := by simp
        have HTk : Hid (nameI 2 right.length x (l.take (k + 1)) r = nameI 2 right.length x (l.take k) r ++ rowI 2 right.length x r l[k]) := nameI_take hlt
        have hrow := row_ok HT.out (List.getElem_mem hlt)
        have HRow : Hid (rightB l[k].1 = true ∧ -1000000000000 ≤ l[k].2 ∧ l[k].2 ≤ 1000000000000) := hrow
        have hwl := hrow.2
        have hfl := (HT.out.left.fit l[k] (List.getElem_mem hlt)).len
        have hl8 : l[k].1.length + right.length ≤ 8 := by omega
        have H8 : Hid (∀ q ∈ r, l[k].1.length + q.1.length ≤ 8) := fun q hq => (askable HT.out).row l[k] (List.getElem_mem hlt) q hq
        have HFt : Hid (∀ q ∈ r, FitP (left ++ right) (l[k].1 ++ q.1)) := fun q hq => (askable HT.out).fit l[k] (List.getElem_mem hlt) q hq
        have hAk := chain hAr hal
        have hSk := chain (chain hb2 hb) hal
        have HSr : Hid (SlAt (wr.alloc (.cells #[.slice ar l[k].1.length cr, .int .i64 l[k].2] 53)) ar l[k].1) := sr.next hal
        have HAk := HA.next hal
        clear hrow hfl sr HA
        have HPk : Hid (POk (k * 401) (nameI 2 right.length x (l.take k) r)) := HP
        clear HP
        go_upto_region 16 with fail
        clear c0 c1
        obtain ⟨wo, hwo⟩ : ∃ z, z = wr := ⟨_, rfl⟩
        subst hwo
        obtain ⟨uo, huo⟩ : ∃ z, z = u15 := ⟨_, rfl⟩
        subst huo
        generalize wo.alloc (.cells #[.slice ar l[k].1.length cr, .int .i64 l[k].2] 53) = wk at *
        have hA := hAk
        have hS := hSk
        have hB := chain hb hal
        have con := refPartner_at (cols := left ++ right) x HT.out.cond xa xcap ar cr l[k].1 b cb r wk ((KsAt.next hA (Nat.le_refl _) hx).up hA.size) HSr.out (h'.next hA) hr4 H8.out HFt.out
        generalize hhs : hasP x r l[k].1 = has at con
        have HHs : Hid (hasP x r l[k].1 = has) := hhs
        clear hhs
        have p0 : wk.cell? ⟨wo.heap.size, 0, none⟩ = some (.slice ar l[k].1.length cr) := cell_of (i := 0) q0 rfl
        obtain ⟨s0, s1, s2, s3, s4, s5⟩ := S1.out.next hS (by omega)
        simp only [Nat.zero_add] at s1 s2 s3 s4 s5
        go_wp2_with fail
        refine con.mono ?_
        rintro e w5 ⟨rfl, hb5⟩
        clear s0 s1 s2 s3 s4 s5
        clear con p0
        have q0 := (hb5.block _ (lt_of_heap q0)).trans q0
        have hA := chain hA hb5
        have hS := chain hS hb5
        have HSr : Hid (SlAt w5 ar l[k].1) := HSr.out.next hb5
        have HAk := HAk.next hb5
        have hB := chain hB hb5
        dsimp only
        cases has with
        | false =>
          have p0 : w5.cell? ⟨wo.heap.size, 0, none⟩ = some (.slice ar l[k].1.length cr) := cell_of (i := 0) q0 rfl
          have p1 : w5.cell? ⟨wo.heap.size, 1, none⟩ = some (.int .i64 l[k].2) := cell_of (i := 1) q0 rfl
          have con := putC_at _ _ _ (by omega) HPk.out ar cr l[k].1 l[k].2 w5 HAk HSr.out (by omega) hwl
          go_wp2_with fail
          refine con.mono ?_
          rintro e w6 ⟨v6, rfl, HA6, hb6⟩
          clear con p0 p1
          have hB := chain hB hb6
          dsimp only
          go_wp2_with fail
          have HR : Hid (nameI 2 right.length x (l.take (k + 1)) r = nameI 2 right.length x (l.take k) r ++ [(l[k].1, l[k].2)]) := by
            show _ = _
            rw [HTk.out]
            congr 1
            unfold rowI
            rw [HHs.out]
            simp
          have HPn : Hid (POk ((k + 1) * 401) (nameI 2 right.length x (l.take (k + 1)) r)) := by
            show POk _ _
            rw [HR.out]
            exact (HPk.out.push (y := (l[k].1, l[k].2)) HRow.out).up (by omega)
          go_roundw
          case rel => exact ⟨k + 1, by omega, by go_num, by rw [HR.out]; exact HA6, HPn, hB⟩
          case measure => simp [intOf]; omega
        | true =>
          have HR : Hid (nameI 2 right.length x (l.take (k + 1)) r = nameI 2 right.length x (l.take k) r) := by
            show _ = _
            rw [HTk.out]
            unfold rowI
            rw [HHs.out]
            simp
          have HPn : Hid (POk ((k + 1) * 401) (nameI 2 right.length x (l.take (k + 1)) r)) := by
            show POk _ _
            rw [HR.out]
            exact HPk.out.up (by omega)
          go_wp2_with fail
          go_roundw
          case rel => exact ⟨k + 1, by omega, by go_num, by rw [HR.out]; exact HAk, HPn, hB⟩
          case measure => simp [intOf]; omega
      · have e : k = l.length := by omega
        subst e
        rw [List.take_length] at HA
        obtain ⟨av, cv, rfl, zv, lv⟩ := HA
        have con := fit_at av cv (canon (nameI 2 right.length x l r)) wr zv (by have := canon_lenV (nameI 2 right.length x l r); have := HP.out.len; rw [List.take_length] at this; omega)
        have e1 : fitE (canon (nameI 2 right.length x l r)) = fe := by
          rw [nameI_canon (by omega) x l r, HEe.out]; rfl
        have e2 : fitZ (canon (nameI 2 right.length x l r)) = fz := by
          unfold fitZ
          rw [e1, HZe.out]
          unfold gatherZ
          rw [← HEe.out, nameI_canon (by omega) x l r]
        rw [e1, e2] at con
        clear e1 e2 HP
        have hA := chain hA2 hb
        go_wp2_with fail
        refine con.mono ?_
        rintro e w9 ⟨⟨a9, c9, rfl, zs9⟩, hb9⟩
        clear con
        dsimp only
        go_wp2_with fail
        exact bodyPost_ret (v := .tuple #[.slice a9 fz.length c9, .int .i64 fe]) (by simp [results, Tryz.results20, go_sem]) rfl ⟨_, rfl, ⟨_, _, rfl, zs9⟩, chain hA hb9⟩
  · have e0 : fe = te := by rw [← HE.out]; unfold pairE; rw [HTe.out, if_pos ht]
    have e1 : fz = [] := by rw [← HZ.out]; unfold pairZ; rw [HE.out, e0, if_neg ht]
    have hne : (te != 0) = true := by simpa using ht
    subst e0 e1
    clear ht
    go_wp2_with fail
    exact bodyPost_ret (v := .tuple #[.slice none 0 0, .int .i64 fe]) (by simp [results, Tryz.results20, go_sem]) rfl ⟨_, rfl, ⟨_, _, rfl, ⟨by simp, .inl rfl⟩⟩, hA2⟩

end Go.Proofs.YtfojonhblblbjaaGreat
/- The document's answer, chapter 4: pairs, row by row. -/
namespace Go.Proofs.YtfojonhblblbjaaGreat
open Go.RowKit Go.Lib Go.Shelf

set_option maxRecDepth 100000 in
set_option maxHeartbeats 8000000 in
theorem refPairs0_at (left right : List Int) (x : Ex) (la : Option Addr) (lcap : Nat) (ra : Option Addr) (rcap : Nat) (xa : Option Addr) (xcap : Nat) (a : Option Addr) (ca : Nat) (l : List Zp) (b : Option Addr) (cb : Nat) (r : List Zp) (w : World)
    (hcl : IsAt w.heap.size w la left) (hcr : IsAt w.heap.size w ra right) (hx : KsAt w.heap.size w xa x.ks) (h : ZsAt w a l) (h' : ZsAt w b r) (hll : left.length ≤ 100000000000000) (hrl : right.length ≤ 100000000000000) :
    Calls Tryz.prog 20 #[.int .i64 0, .slice la left.length lcap, .slice ra right.length rcap, exV x.k x.v x.c xa x.ks.length xcap, .slice a l.length ca, .slice b r.length cb] w fun e w' => ∃ v, e = .returned (.tuple #[v, .int .i64 (pairE 0 left right x l r)]) ∧ (∃ ua uc, v = .slice ua (pairZ 0 left right x l r).length uc ∧ ZsAt w' ua (pairZ 0 left right x l r)) ∧ Below w.heap.size w w' := by
  have h1 : Below w.heap.size w (w.alloc (.cells #[.int .i64 x.k, .int .i64 x.v.1, .int .i64 x.v.2.1, .string x.v.2.2, .int .i64 x.c, .slice xa x.ks.length xcap] 27)) := (Below.refl _ _).alloc (Nat.le_refl _) _
  have S1 : Hid (Six (w.alloc (.cells #[.int .i64 x.k, .int .i64 x.v.1, .int .i64 x.v.2.1, .string x.v.2.2, .int .i64 x.c, .slice xa x.ks.length xcap] 27)) w.heap.size 0 x.k x.v x.c xa x.ks.length xcap) := Six.new w x.k x.v x.c xa x.ks.length xcap 27
  have z1 : (w.alloc (.cells #[.int .i64 x.k, .int .i64 x.v.1, .int .i64 x.v.2.1, .string x.v.2.2, .int .i64 x.c, .slice xa x.ks.length xcap] 27)).heap.size = w.heap.size + 1 := by simp
  generalize hfz : pairZ 0 left right x l r = fz
  generalize hfe : pairE 0 left right x l r = fe
  have HZ : Hid (pairZ 0 left right x l r = fz) := hfz
  have HE : Hid (pairE 0 left right x l r = fe) := hfe
  clear hfz hfe
  go_enter Tryz.func20, Tryz.ntmps20
  obtain ⟨s0, s1, s2, s3, s4, s5⟩ := S1.out
  simp only [Nat.zero_add] at s1 s2 s3 s4 s5
  go_wp2_with fail
  clear s0 s1 s2 s3 s4 s5
  generalize w.alloc (.cells #[.int .i64 x.k, .int .i64 x.v.1, .int .i64 x.v.2.1, .string x.v.2.2, .int .i64 x.c, .slice xa x.ks.length xcap] 27) = w1 at *
  have con := refTwo_at left right x la lcap ra rcap xa xcap a ca l b cb r w1 ((hcl.next h1 (Nat.le_refl _)).up h1.size) ((hcr.next h1 (Nat.le_refl _)).up h1.size) ((KsAt.next h1 (Nat.le_refl _) hx).up h1.size) (h.next h1) (h'.next h1) hll hrl
  generalize hte : twoE left right x l r = te at con
  have HTe : Hid (twoE left right x l r = te) := hte
  clear hte
  refine con.mono ?_
  rintro e w2 ⟨rfl, hb2⟩
  clear con
  have hA2 := chain h1 hb2
  dsimp only
  by_cases ht : te = 0
  · subst ht
    have HT : Hid (TwoOk left right x l r) := (twoE_ok left right x l r).1 HTe.out
    have hln := HT.out.len
    have hl4 := set_len HT.out.left
    have hr4 := set_len HT.out.right
    have HEe : Hid (fe = gatherE (nameL 0 right.length x l r)) := by show _ = _; rw [← HE.out]; unfold pairE; rw [HTe.out, if_neg (by simp)]
    have HZe : Hid (fz = gatherZ (nameL 0 right.length x l r)) := by show _ = _; rw [← HZ.out]; unfold pairZ gatherZ; rw [HE.out, HEe.out]
    clear HE HZ HTe
    go_wp2_with fail
    go_loopw [15, 34] (fun v i wr => ∃ k : Nat, k ≤ l.length ∧ i = .int .i64 k ∧ Acc wr v (nameI 0 right.length x (l.take k) r) ∧ Hid (POk (k * 401) (nameI 0 right.length x (l.take k) r)) ∧ Below w2.heap.size w2 wr) (fun _ i _ => l.length - (intOf i).toNat)
    case atStart => exact ⟨0, Nat.zero_le _, rfl, Acc.nil _, ⟨by simp [nameI], fun y hy => by simp [nameI] at hy⟩, Below.refl _ _⟩
    case round =>
      obtain ⟨k, hk, rfl, HA, HP, hb⟩ := hrel
      by_cases hlt : k < l.length
      · have hAr := chain hA2 hb
        obtain ⟨bb, off, rfl, hbl, c1, ar, cr, c0, sr⟩ := (h.next hAr).elem hlt
        have hal : Below wr.heap.size wr (wr.alloc (.cells #[.slice ar l[k].1.length cr, .int .i64 l[k].2] 53)) := (Below.refl _ _).alloc (Nat.le_refl _) _
        have q0 := heap_new wr #[.slice ar l[k].1.length cr, .int .i64 l[k].2] 53
        have za : (wr.alloc (.cells #[.slice ar l[k].1.length cr, .int .i64 l[k].2] 53)).heap.size = wr.heap.size + 1 := by simp
        have HTk : Hid (nameI 0 right.length x (l.take (k + 1)) r = nameI 0 right.length x (l.take k) r ++ rowI 0 right.length x r l[k]) := nameI_take hlt
        have hrow := row_ok HT.out (List.getElem_mem hlt)
        have HRow : Hid (rightB l[k].1 = true ∧ -1000000000000 ≤ l[k].2 ∧ l[k].2 ≤ 1000000000000) := hrow
        have hwl := hrow.2
        have hfl := (HT.out.left.fit l[k] (List.getElem_mem hlt)).len
        have hl8 : l[k].1.length + right.length ≤ 8 := by omega
        have H8 : Hid (∀ q ∈ r, l[k].1.length + q.1.length ≤ 8) := fun q hq => (askable HT.out).row l[k] (List.getElem_mem hlt) q hq
        have HFt : Hid (∀ q ∈ r, FitP (left ++ right) (l[k].1 ++ q.1)) := fun q hq => (askable HT.out).fit l[k] (List.getElem_mem hlt) q hq
        have hAk := chain hAr hal
        have hSk := chain (chain hb2 hb) hal
        have HSr : Hid (SlAt (wr.alloc (.cells #[.slice ar l[k].1.length cr, .int .i64 l[k].2] 53)) ar l[k].1) := sr.next hal
        have HAk := HA.next hal
        clear hrow hfl sr HA
        have HPk0 : Hid (POk (k * 401) (nameI 0 right.length x (l.take k) r)) := HP
        clear HP
        go_upto_region 9 with fail
        clear c0 c1
        obtain ⟨wo, hwo⟩ : ∃ z, z = wr := ⟨_, rfl⟩
        subst hwo
        obtain ⟨uo, huo⟩ : ∃ z, z = u15 := ⟨_, rfl⟩
        subst huo
        generalize wo.alloc (.cells #[.slice ar l[k].1.length cr, .int .i64 l[k].2] 53) = wk at *
        have hA := hAk
        have hS := hSk
        have hB := chain hb hal
        go_wp2_with fail
        go_loopw [15, 46] (fun v i ws => ∃ m : Nat, m ≤ r.length ∧ i = .int .i64 m ∧ Acc ws v (nameI 0 right.length x (l.take k) r ++ pairsOf x l[k] (r.take m)) ∧ Hid (POk (k * 401 + m) (nameI 0 right.length x (l.take k) r ++ pairsOf x l[k] (r.take m))) ∧ Below wk.heap.size wk ws) (fun _ i _ => r.length - (intOf i).toNat)
        case atStart => exact ⟨0, Nat.zero_le _, rfl, by simpa [pairsOf] using HAk, (show POk _ _ by simpa [pairsOf] using HPk0.out), Below.refl _ _⟩
        case round =>
          clear HAk HPk0
          obtain ⟨m, hm, rfl, HAm, HPm, hbm⟩ := hrel
          have hzm := hbm.size
          by_cases hmt : m < r.length
          · have hAm := chain hA hbm
            have hSm := chain hS hbm
            obtain ⟨b2, off2, rfl, hbl2, e1, br, cr2, e0, sr2⟩ := (h'.next hAm).elem hmt
            have hal2 : Below wr.heap.size wr (wr.alloc (.cells #[.slice br r[m].1.length cr2, .int .i64 r[m].2] 53)) := (Below.refl _ _).alloc (Nat.le_refl _) _
            have q2 := heap_new wr #[.slice br r[m].1.length cr2, .int .i64 r[m].2] 53
            have q0m := ((chain hbm hal2).block _ (lt_of_heap q0)).trans q0
            have HS2 : Hid (SlAt (wr.alloc (.cells #[.slice br r[m].1.length cr2, .int .i64 r[m].2] 53)) br r[m].1) := sr2.next hal2
            have hAm := chain hAm hal2
            have hSm := chain hSm hal2
            have hBm := chain hbm hal2
            have HA2 := HAm.next hal2
            have hpq := pairsOf_ok HT.out (List.getElem_mem hlt) (List.getElem_mem hmt)
            have hW : IntKind.i64.wrap (l[k].2 * r[m].2) = l[k].2 * r[m].2 := IntWalk.i64_in _ ⟨by have := hpq.2; omega, by have := hpq.2; omega⟩
            have hmul := hpq.2
            have HPQ : Hid (rightB (l[k].1 ++ r[m].1) = true ∧ -1000000000000 ≤ l[k].2 * r[m].2 ∧ l[k].2 * r[m].2 ≤ 1000000000000) := hpq
            have h8m := H8.out r[m] (List.getElem_mem hmt)
            have HFm : Hid (FitP (left ++ right) (l[k].1 ++ r[m].1)) := HFt.out r[m] (List.getElem_mem hmt)
            have HT2 : Hid (pairsOf x l[k] (r.take (m + 1)) = pairsOf x l[k] (r.take m) ++ (if holdsP x (l[k].1 ++ r[m].1) = true then [(l[k].1 ++ r[m].1, l[k].2 * r[m].2)] else [])) := pairsOf_take x l[k] hmt
            clear sr2 hpq HAm
            go_upto_region 12 with fail
            clear e0 e1
            obtain ⟨wi, hwi⟩ : ∃ z, z = wr := ⟨_, rfl⟩
            subst hwi
            generalize wi.alloc (.cells #[.slice br r[m].1.length cr2, .int .i64 r[m].2] 53) = wq at *
            have p0 : wq.cell? ⟨wo.heap.size, 0, none⟩ = some (.slice ar l[k].1.length cr) := cell_of (i := 0) q0m rfl
            have p2 : wq.cell? ⟨wi.heap.size, 0, none⟩ = some (.slice br r[m].1.length cr2) := cell_of (i := 0) q2 rfl
            have con := refBoth_at ar br cr cr2 l[k].1 r[m].1 wq (HSr.out.next hBm) HS2.out h8m
            go_wp2_with fail
            refine con.mono ?_
            rintro e w7 ⟨v7, rfl, O7, hb7⟩
            clear con p0 p2
            obtain ⟨a8, c8, rfl, S8, _, _⟩ := own_vals O7 (by simp)
            have hAm := chain hAm hb7
            have hSm := chain hSm hb7
            have hBm := chain hBm hb7
            have HA2 := HA2.next hb7
            have q0m := (hb7.block _ (lt_of_heap q0m)).trans q0m
            have q2 := (hb7.block _ (lt_of_heap q2)).trans q2
            obtain ⟨n8, hn8⟩ : ∃ n8, n8 = (l[k].1 ++ r[m].1).length := ⟨_, rfl⟩
            have con := refHolds_at x HT.out.cond (l[k].1 ++ r[m].1) HFm.out xa xcap a8 c8 w7 ((KsAt.next hAm (Nat.le_refl _) hx).up hAm.size) S8
            rw [← hn8] at con ⊢
            have HN8 : Hid (n8 = (l[k].1 ++ r[m].1).length) := hn8
            clear hn8 O7
            generalize hho : holdsP x (l[k].1 ++ r[m].1) = ho at con
            have HHo : Hid (holdsP x (l[k].1 ++ r[m].1) = ho) := hho
            clear hho
            obtain ⟨s0, s1, s2, s3, s4, s5⟩ := S1.out.next hSm (by omega)
            simp only [Nat.zero_add] at s1 s2 s3 s4 s5
            dsimp only
            go_wp2_with fail
            refine con.mono ?_
            rintro e w8 ⟨rfl, hb8⟩
            clear con s0 s1 s2 s3 s4 s5
            have hBm := chain hBm hb8
            have HA2 := HA2.next hb8
            have S8 := S8.next hb8
            have q0m := (hb8.block _ (lt_of_heap q0m)).trans q0m
            have q2 := (hb8.block _ (lt_of_heap q2)).trans q2
            dsimp only
            cases ho with
            | true =>
              have p0 : w8.cell? ⟨wo.heap.size, 1, none⟩ = some (.int .i64 l[k].2) := cell_of (i := 1) q0m rfl
              have p2 : w8.cell? ⟨wi.heap.size, 1, none⟩ = some (.int .i64 r[m].2) := cell_of (i := 1) q2 rfl
              have con := putC_at _ _ _ (by omega) HPm.out a8 c8 (l[k].1 ++ r[m].1) (l[k].2 * r[m].2) w8 HA2 S8 (by rw [List.length_append]; exact h8m) hmul
              rw [← HN8.out] at con
              go_wp2_with fail
              refine con.mono ?_
              rintro e w9 ⟨v9, rfl, HA9, hb9⟩
              clear con p0 p2
              have hBm := chain hBm hb9
              have HR2 : Hid (nameI 0 right.length x (l.take k) r ++ pairsOf x l[k] (r.take (m + 1)) = (nameI 0 right.length x (l.take k) r ++ pairsOf x l[k] (r.take m)) ++ [(l[k].1 ++ r[m].1, l[k].2 * r[m].2)]) := by
                show _ = _
                rw [HT2.out, HHo.out, if_pos rfl, List.append_assoc]
              have HPn : Hid (POk (k * 401 + (m + 1)) (nameI 0 right.length x (l.take k) r ++ pairsOf x l[k] (r.take (m + 1)))) := by
                show POk _ _
                rw [HR2.out]
                exact HPm.out.push (y := (l[k].1 ++ r[m].1, l[k].2 * r[m].2)) HPQ.out
              dsimp only
              go_wp2_with fail
              go_roundw
              case rel => exact ⟨m + 1, by omega, by go_num, by rw [HR2.out]; exact HA9, HPn, hBm⟩
              case measure => simp [intOf]; omega
            | false =>
              have HR2 : Hid (nameI 0 right.length x (l.take k) r ++ pairsOf x l[k] (r.take (m + 1)) = nameI 0 right.length x (l.take k) r ++ pairsOf x l[k] (r.take m)) := by
                show _ = _
                rw [HT2.out, HHo.out, if_neg (by decide), List.append_nil]
              have HPn : Hid (POk (k * 401 + (m + 1)) (nameI 0 right.length x (l.take k) r ++ pairsOf x l[k] (r.take (m + 1)))) := by
                show POk _ _
                rw [HR2.out]
                exact HPm.out.up (by omega)
              go_wp2_with fail
              go_roundw
              case rel => exact ⟨m + 1, by omega, by go_num, by rw [HR2.out]; exact HA2, HPn, hBm⟩
              case measure => simp [intOf]; omega
          · have e : m = r.length := by omega
            subst e
            rw [List.take_length] at HAm HPm
            have hA := chain hA hbm
            have hS := chain hS hbm
            have hB := chain hB hbm
            have q0 := (hbm.block _ (lt_of_heap q0)).trans q0
            have HSr : Hid (SlAt wr ar l[k].1) := HSr.out.next hbm
            have HAk := HAm
            have HPk : Hid (POk (k * 401 + r.length) (nameI 0 right.length x (l.take k) r ++ pairsOf x l[k] r)) := HPm
            clear HAm HPm
            go_upto_region 16 with fail
            have con := refPartner_at (cols := left ++ right) x HT.out.cond xa xcap ar cr l[k].1 b cb r wr ((KsAt.next hA (Nat.le_refl _) hx).up hA.size) HSr.out (h'.next hA) hr4 H8.out HFt.out
            generalize hhs : hasP x r l[k].1 = has at con
            have HHs : Hid (hasP x r l[k].1 = has) := hhs
            clear hhs
            have p0 : wr.cell? ⟨wo.heap.size, 0, none⟩ = some (.slice ar l[k].1.length cr) := cell_of (i := 0) q0 rfl
            obtain ⟨s0, s1, s2, s3, s4, s5⟩ := S1.out.next hS (by omega)
            simp only [Nat.zero_add] at s1 s2 s3 s4 s5
            go_wp2_with fail
            refine con.mono ?_
            rintro e w5 ⟨rfl, hb5⟩
            clear s0 s1 s2 s3 s4 s5
            clear con p0
            have q0 := (hb5.block _ (lt_of_heap q0)).trans q0
            have hA := chain hA hb5
            have hS := chain hS hb5
            have HSr : Hid (SlAt w5 ar l[k].1) := HSr.out.next hb5
            have HAk := HAk.next hb5
            have hB := chain hB hb5
            dsimp only
            have HR : Hid (nameI 0 right.length x (l.take (k + 1)) r = nameI 0 right.length x (l.take k) r ++ pairsOf x l[k] r) := by
              show _ = _
              rw [HTk.out]
              congr 1
              unfold rowI
              simp
            have HPn : Hid (POk ((k + 1) * 401) (nameI 0 right.length x (l.take (k + 1)) r)) := by
              show POk _ _
              rw [HR.out]
              exact HPk.out.up (by omega)
            go_wp2_with fail
            go_roundw
            case rel =>
              first
              | exact ⟨k + 1, by omega, by go_num, by rw [HR.out]; exact HAk, HPn, hB⟩
              | ((repeat apply Exists.intro); exact ⟨⟨k + 1, by omega, by go_num, by rw [HR.out]; exact HAk, HPn, hB⟩, rfl⟩)
            case measure => simp [intOf]; omega
      · have e : k = l.length := by omega
        subst e
        rw [List.take_length] at HA
        obtain ⟨av, cv, rfl, zv, lv⟩ := HA
        have con := fit_at av cv (canon (nameI 0 right.length x l r)) wr zv (by have := canon_lenV (nameI 0 right.length x l r); have := HP.out.len; rw [List.take_length] at this; omega)
        have e1 : fitE (canon (nameI 0 right.length x l r)) = fe := by
          rw [nameI_canon (by omega) x l r, HEe.out]; rfl
        have e2 : fitZ (canon (nameI 0 right.length x l r)) = fz := by
          unfold fitZ
          rw [e1, HZe.out]
          unfold gatherZ
          rw [← HEe.out, nameI_canon (by omega) x l r]
        rw [e1, e2] at con
        clear e1 e2 HP
        have hA := chain hA2 hb
        go_wp2_with fail
        refine con.mono ?_
        rintro e w9 ⟨⟨a9, c9, rfl, zs9⟩, hb9⟩
        clear con
        dsimp only
        go_wp2_with fail
        exact bodyPost_ret (v := .tuple #[.slice a9 fz.length c9, .int .i64 fe]) (by simp [results, Tryz.results20, go_sem]) rfl ⟨_, rfl, ⟨_, _, rfl, zs9⟩, chain hA hb9⟩
  · have e0 : fe = te := by rw [← HE.out]; unfold pairE; rw [HTe.out, if_pos ht]
    have e1 : fz = [] := by rw [← HZ.out]; unfold pairZ; rw [HE.out, e0, if_neg ht]
    have hne : (te != 0) = true := by simpa using ht
    subst e0 e1
    clear ht
    go_wp2_with fail
    exact bodyPost_ret (v := .tuple #[.slice none 0 0, .int .i64 fe]) (by simp [results, Tryz.results20, go_sem]) rfl ⟨_, rfl, ⟨_, _, rfl, ⟨by simp, .inl rfl⟩⟩, hA2⟩

end Go.Proofs.YtfojonhblblbjaaGreat
/- The document's answer, chapter 4: pairs, row by row. -/
namespace Go.Proofs.YtfojonhblblbjaaGreat
open Go.RowKit Go.Lib Go.Shelf

def lenV : Value → Nat
  | .slice _ n _ => n
  | _ => 0
theorem nulls_succV (j : Nat) : nulls (j + 1) = nulls j ++ [(1, 0, ⟨#[]⟩)] := by
  unfold nulls
  rw [List.replicate_succ']

set_option maxRecDepth 100000 in
set_option maxHeartbeats 8000000 in
theorem refPairs3_at (left right : List Int) (x : Ex) (la : Option Addr) (lcap : Nat) (ra : Option Addr) (rcap : Nat) (xa : Option Addr) (xcap : Nat) (a : Option Addr) (ca : Nat) (l : List Zp) (b : Option Addr) (cb : Nat) (r : List Zp) (w : World)
    (hcl : IsAt w.heap.size w la left) (hcr : IsAt w.heap.size w ra right) (hx : KsAt w.heap.size w xa x.ks) (h : ZsAt w a l) (h' : ZsAt w b r) (hll : left.length ≤ 100000000000000) (hrl : right.length ≤ 100000000000000) :
    Calls Tryz.prog 20 #[.int .i64 3, .slice la left.length lcap, .slice ra right.length rcap, exV x.k x.v x.c xa x.ks.length xcap, .slice a l.length ca, .slice b r.length cb] w fun e w' => ∃ v, e = .returned (.tuple #[v, .int .i64 (pairE 3 left right x l r)]) ∧ (∃ ua uc, v = .slice ua (pairZ 3 left right x l r).length uc ∧ ZsAt w' ua (pairZ 3 left right x l r)) ∧ Below w.heap.size w w' := by
  have h1 : Below w.heap.size w (w.alloc (.cells #[.int .i64 x.k, .int .i64 x.v.1, .int .i64 x.v.2.1, .string x.v.2.2, .int .i64 x.c, .slice xa x.ks.length xcap] 27)) := (Below.refl _ _).alloc (Nat.le_refl _) _
  have S1 : Hid (Six (w.alloc (.cells #[.int .i64 x.k, .int .i64 x.v.1, .int .i64 x.v.2.1, .string x.v.2.2, .int .i64 x.c, .slice xa x.ks.length xcap] 27)) w.heap.size 0 x.k x.v x.c xa x.ks.length xcap) := Six.new w x.k x.v x.c xa x.ks.length xcap 27
  have z1 : (w.alloc (.cells #[.int .i64 x.k, .int .i64 x.v.1, .int .i64 x.v.2.1, .string x.v.2.2, .int .i64 x.c, .slice xa x.ks.length xcap] 27)).heap.size = w.heap.size + 1 := by simp
  generalize hfz : pairZ 3 left right x l r = fz
  generalize hfe : pairE 3 left right x l r = fe
  have HZ : Hid (pairZ 3 left right x l r = fz) := hfz
  have HE : Hid (pairE 3 left right x l r = fe) := hfe
  clear hfz hfe
  go_enter Tryz.func20, Tryz.ntmps20
  obtain ⟨s0, s1, s2, s3, s4, s5⟩ := S1.out
  simp only [Nat.zero_add] at s1 s2 s3 s4 s5
  go_wp2_with fail
  clear s0 s1 s2 s3 s4 s5
  generalize w.alloc (.cells #[.int .i64 x.k, .int .i64 x.v.1, .int .i64 x.v.2.1, .string x.v.2.2, .int .i64 x.c, .slice xa x.ks.length xcap] 27) = w1 at *
  have con := refTwo_at left right x la lcap ra rcap xa xcap a ca l b cb r w1 ((hcl.next h1 (Nat.le_refl _)).up h1.size) ((hcr.next h1 (Nat.le_refl _)).up h1.size) ((KsAt.next h1 (Nat.le_refl _) hx).up h1.size) (h.next h1) (h'.next h1) hll hrl
  generalize hte : twoE left right x l r = te at con
  have HTe : Hid (twoE left right x l r = te) := hte
  clear hte
  refine con.mono ?_
  rintro e w2 ⟨rfl, hb2⟩
  clear con
  have hA2 := chain h1 hb2
  dsimp only
  by_cases ht : te = 0
  · subst ht
    have HT : Hid (TwoOk left right x l r) := (twoE_ok left right x l r).1 HTe.out
    have hln := HT.out.len
    have hl4 := set_len HT.out.left
    have hr4 := set_len HT.out.right
    have HEe : Hid (fe = gatherE (nameL 3 right.length x l r)) := by show _ = _; rw [← HE.out]; unfold pairE; rw [HTe.out, if_neg (by simp)]
    have HZe : Hid (fz = gatherZ (nameL 3 right.length x l r)) := by show _ = _; rw [← HZ.out]; unfold pairZ gatherZ; rw [HE.out, HEe.out]
    clear HE HZ HTe
    go_wp2_with fail
    go_loopw [15, 34] (fun v i wr => ∃ k : Nat, k ≤ l.length ∧ i = .int .i64 k ∧ Acc wr v (nameI 3 right.length x (l.take k) r) ∧ Hid (POk (k * 401) (nameI 3 right.length x (l.take k) r)) ∧ Below w2.heap.size w2 wr) (fun _ i _ => l.length - (intOf i).toNat)
    case atStart => exact ⟨0, Nat.zero_le _, rfl, Acc.nil _, ⟨by simp [nameI], fun y hy => by simp [nameI] at hy⟩, Below.refl _ _⟩
    case round =>
      obtain ⟨k, hk, rfl, HA, HP, hb⟩ := hrel
      by_cases hlt : k < l.length
      · have hAr := chain hA2 hb
        obtain ⟨bb, off, rfl, hbl, c1, ar, cr, c0, sr⟩ := (h.next hAr).elem hlt
        have hal : Below wr.heap.size wr (wr.alloc (.cells #[.slice ar l[k].1.length cr, .int .i64 l[k].2] 53)) := (Below.refl _ _).alloc (Nat.le_refl _) _
        have q0 := heap_new wr #[.slice ar l[k].1.length cr, .int .i64 l[k].2] 53
        have za : (wr.alloc (.cells #[.slice ar l[k].1.length cr, .int .i64 l[k].2] 53)).heap.size = wr.heap.size + 1 := by simp
        have HTk : Hid (nameI 3 right.length x (l.take (k + 1)) r = nameI 3 right.length x (l.take k) r ++ rowI 3 right.length x r l[k]) := nameI_take hlt
        have hrow := row_ok HT.out (List.getElem_mem hlt)
        have HRow : Hid (rightB l[k].1 = true ∧ -1000000000000 ≤ l[k].2 ∧ l[k].2 ≤ 1000000000000) := hrow
        have hwl := hrow.2
        have hfl := (HT.out.left.fit l[k] (List.getElem_mem hlt)).len
        have hl8 : l[k].1.length + right.length ≤ 8 := by omega
        have H8 : Hid (∀ q ∈ r, l[k].1.length + q.1.length ≤ 8) := fun q hq => (askable HT.out).row l[k] (List.getElem_mem hlt) q hq
        have HFt : Hid (∀ q ∈ r, FitP (left ++ right) (l[k].1 ++ q.1)) := fun q hq => (askable HT.out).fit l[k] (List.getElem_mem hlt) q hq
        have hAk := chain hAr hal
        have hSk := chain (chain hb2 hb) hal
        have HSr : Hid (SlAt (wr.alloc (.cells #[.slice ar l[k].1.length cr, .int .i64 l[k].2] 53)) ar l[k].1) := sr.next hal
        have HAk := HA.next hal
        clear hrow hfl sr HA
        have HPk0 : Hid (POk (k * 401) (nameI 3 right.length x (l.take k) r)) := HP
        clear HP
        go_upto_region 9 with fail
        clear c0 c1
        obtain ⟨wo, hwo⟩ : ∃ z, z = wr := ⟨_, rfl⟩
        subst hwo
        obtain ⟨uo, huo⟩ : ∃ z, z = u15 := ⟨_, rfl⟩
        subst huo
        generalize wo.alloc (.cells #[.slice ar l[k].1.length cr, .int .i64 l[k].2] 53) = wk at *
        have hA := hAk
        have hS := hSk
        have hB := chain hb hal
        go_wp2_with fail
        go_loopw [15, 46] (fun v i ws => ∃ m : Nat, m ≤ r.length ∧ i = .int .i64 m ∧ Acc ws v (nameI 3 right.length x (l.take k) r ++ pairsOf x l[k] (r.take m)) ∧ Hid (POk (k * 401 + m) (nameI 3 right.length x (l.take k) r ++ pairsOf x l[k] (r.take m))) ∧ Below wk.heap.size wk ws) (fun _ i _ => r.length - (intOf i).toNat)
        case atStart => exact ⟨0, Nat.zero_le _, rfl, by simpa [pairsOf] using HAk, (show POk _ _ by simpa [pairsOf] using HPk0.out), Below.refl _ _⟩
        case round =>
          clear HAk HPk0
          obtain ⟨m, hm, rfl, HAm, HPm, hbm⟩ := hrel
          have hzm := hbm.size
          by_cases hmt : m < r.length
          · have hAm := chain hA hbm
            have hSm := chain hS hbm
            obtain ⟨b2, off2, rfl, hbl2, e1, br, cr2, e0, sr2⟩ := (h'.next hAm).elem hmt
            have hal2 : Below wr.heap.size wr (wr.alloc (.cells #[.slice br r[m].1.length cr2, .int .i64 r[m].2] 53)) := (Below.refl _ _).alloc (Nat.le_refl _) _
            have q2 := heap_new wr #[.slice br r[m].1.length cr2, .int .i64 r[m].2] 53
            have q0m := ((chain hbm hal2).block _ (lt_of_heap q0)).trans q0
            have HS2 : Hid (SlAt (wr.alloc (.cells #[.slice br r[m].1.length cr2, .int .i64 r[m].2] 53)) br r[m].1) := sr2.next hal2
            have hAm := chain hAm hal2
            have hSm := chain hSm hal2
            have hBm := chain hbm hal2
            have HA2 := HAm.next hal2
            have hpq := pairsOf_ok HT.out (List.getElem_mem hlt) (List.getElem_mem hmt)
            have hW : IntKind.i64.wrap (l[k].2 * r[m].2) = l[k].2 * r[m].2 := IntWalk.i64_in _ ⟨by have := hpq.2; omega, by have := hpq.2; omega⟩
            have hmul := hpq.2
            have HPQ : Hid (rightB (l[k].1 ++ r[m].1) = true ∧ -1000000000000 ≤ l[k].2 * r[m].2 ∧ l[k].2 * r[m].2 ≤ 1000000000000) := hpq
            have h8m := H8.out r[m] (List.getElem_mem hmt)
            have HFm : Hid (FitP (left ++ right) (l[k].1 ++ r[m].1)) := HFt.out r[m] (List.getElem_mem hmt)
            have HT2 : Hid (pairsOf x l[k] (r.take (m + 1)) = pairsOf x l[k] (r.take m) ++ (if holdsP x (l[k].1 ++ r[m].1) = true then [(l[k].1 ++ r[m].1, l[k].2 * r[m].2)] else [])) := pairsOf_take x l[k] hmt
            clear sr2 hpq HAm
            go_upto_region 12 with fail
            clear e0 e1
            obtain ⟨wi, hwi⟩ : ∃ z, z = wr := ⟨_, rfl⟩
            subst hwi
            generalize wi.alloc (.cells #[.slice br r[m].1.length cr2, .int .i64 r[m].2] 53) = wq at *
            have p0 : wq.cell? ⟨wo.heap.size, 0, none⟩ = some (.slice ar l[k].1.length cr) := cell_of (i := 0) q0m rfl
            have p2 : wq.cell? ⟨wi.heap.size, 0, none⟩ = some (.slice br r[m].1.length cr2) := cell_of (i := 0) q2 rfl
            have con := refBoth_at ar br cr cr2 l[k].1 r[m].1 wq (HSr.out.next hBm) HS2.out h8m
            go_wp2_with fail
            refine con.mono ?_
            rintro e w7 ⟨v7, rfl, O7, hb7⟩
            clear con p0 p2
            obtain ⟨a8, c8, rfl, S8, _, _⟩ := own_vals O7 (by simp)
            have hAm := chain hAm hb7
            have hSm := chain hSm hb7
            have hBm := chain hBm hb7
            have HA2 := HA2.next hb7
            have q0m := (hb7.block _ (lt_of_heap q0m)).trans q0m
            have q2 := (hb7.block _ (lt_of_heap q2)).trans q2
            obtain ⟨n8, hn8⟩ : ∃ n8, n8 = (l[k].1 ++ r[m].1).length := ⟨_, rfl⟩
            have con := refHolds_at x HT.out.cond (l[k].1 ++ r[m].1) HFm.out xa xcap a8 c8 w7 ((KsAt.next hAm (Nat.le_refl _) hx).up hAm.size) S8
            rw [← hn8] at con ⊢
            have HN8 : Hid (n8 = (l[k].1 ++ r[m].1).length) := hn8
            clear hn8 O7
            generalize hho : holdsP x (l[k].1 ++ r[m].1) = ho at con
            have HHo : Hid (holdsP x (l[k].1 ++ r[m].1) = ho) := hho
            clear hho
            obtain ⟨s0, s1, s2, s3, s4, s5⟩ := S1.out.next hSm (by omega)
            simp only [Nat.zero_add] at s1 s2 s3 s4 s5
            dsimp only
            go_wp2_with fail
            refine con.mono ?_
            rintro e w8 ⟨rfl, hb8⟩
            clear con s0 s1 s2 s3 s4 s5
            have hBm := chain hBm hb8
            have HA2 := HA2.next hb8
            have S8 := S8.next hb8
            have q0m := (hb8.block _ (lt_of_heap q0m)).trans q0m
            have q2 := (hb8.block _ (lt_of_heap q2)).trans q2
            dsimp only
            cases ho with
            | true =>
              have p0 : w8.cell? ⟨wo.heap.size, 1, none⟩ = some (.int .i64 l[k].2) := cell_of (i := 1) q0m rfl
              have p2 : w8.cell? ⟨wi.heap.size, 1, none⟩ = some (.int .i64 r[m].2) := cell_of (i := 1) q2 rfl
              have con := putC_at _ _ _ (by omega) HPm.out a8 c8 (l[k].1 ++ r[m].1) (l[k].2 * r[m].2) w8 HA2 S8 (by rw [List.length_append]; exact h8m) hmul
              rw [← HN8.out] at con
              go_wp2_with fail
              refine con.mono ?_
              rintro e w9 ⟨v9, rfl, HA9, hb9⟩
              clear con p0 p2
              have hBm := chain hBm hb9
              have HR2 : Hid (nameI 3 right.length x (l.take k) r ++ pairsOf x l[k] (r.take (m + 1)) = (nameI 3 right.length x (l.take k) r ++ pairsOf x l[k] (r.take m)) ++ [(l[k].1 ++ r[m].1, l[k].2 * r[m].2)]) := by
                show _ = _
                rw [HT2.out, HHo.out, if_pos rfl, List.append_assoc]
              have HPn : Hid (POk (k * 401 + (m + 1)) (nameI 3 right.length x (l.take k) r ++ pairsOf x l[k] (r.take (m + 1)))) := by
                show POk _ _
                rw [HR2.out]
                exact HPm.out.push (y := (l[k].1 ++ r[m].1, l[k].2 * r[m].2)) HPQ.out
              dsimp only
              go_wp2_with fail
              go_roundw
              case rel => exact ⟨m + 1, by omega, by go_num, by rw [HR2.out]; exact HA9, HPn, hBm⟩
              case measure => simp [intOf]; omega
            | false =>
              have HR2 : Hid (nameI 3 right.length x (l.take k) r ++ pairsOf x l[k] (r.take (m + 1)) = nameI 3 right.length x (l.take k) r ++ pairsOf x l[k] (r.take m)) := by
                show _ = _
                rw [HT2.out, HHo.out, if_neg (by decide), List.append_nil]
              have HPn : Hid (POk (k * 401 + (m + 1)) (nameI 3 right.length x (l.take k) r ++ pairsOf x l[k] (r.take (m + 1)))) := by
                show POk _ _
                rw [HR2.out]
                exact HPm.out.up (by omega)
              go_wp2_with fail
              go_roundw
              case rel => exact ⟨m + 1, by omega, by go_num, by rw [HR2.out]; exact HA2, HPn, hBm⟩
              case measure => simp [intOf]; omega
          · have e : m = r.length := by omega
            subst e
            rw [List.take_length] at HAm HPm
            have hA := chain hA hbm
            have hS := chain hS hbm
            have hB := chain hB hbm
            have q0 := (hbm.block _ (lt_of_heap q0)).trans q0
            have HSr : Hid (SlAt wr ar l[k].1) := HSr.out.next hbm
            have HAk := HAm
            have HPk : Hid (POk (k * 401 + r.length) (nameI 3 right.length x (l.take k) r ++ pairsOf x l[k] r)) := HPm
            clear HAm HPm
            go_upto_region 16 with fail
            have con := refPartner_at (cols := left ++ right) x HT.out.cond xa xcap ar cr l[k].1 b cb r wr ((KsAt.next hA (Nat.le_refl _) hx).up hA.size) HSr.out (h'.next hA) hr4 H8.out HFt.out
            generalize hhs : hasP x r l[k].1 = has at con
            have HHs : Hid (hasP x r l[k].1 = has) := hhs
            clear hhs
            have p0 : wr.cell? ⟨wo.heap.size, 0, none⟩ = some (.slice ar l[k].1.length cr) := cell_of (i := 0) q0 rfl
            obtain ⟨s0, s1, s2, s3, s4, s5⟩ := S1.out.next hS (by omega)
            simp only [Nat.zero_add] at s1 s2 s3 s4 s5
            go_wp2_with fail
            refine con.mono ?_
            rintro e w5 ⟨rfl, hb5⟩
            clear s0 s1 s2 s3 s4 s5
            clear con p0
            have q0 := (hb5.block _ (lt_of_heap q0)).trans q0
            have hA := chain hA hb5
            have hS := chain hS hb5
            have HSr : Hid (SlAt w5 ar l[k].1) := HSr.out.next hb5
            have HAk := HAk.next hb5
            have hB := chain hB hb5
            dsimp only
            cases has with
            | true =>
              have HR : Hid (nameI 3 right.length x (l.take (k + 1)) r = nameI 3 right.length x (l.take k) r ++ pairsOf x l[k] r) := by
                show _ = _
                rw [HTk.out]
                congr 1
                unfold rowI
                rw [HHs.out]
                simp
              have HPn : Hid (POk ((k + 1) * 401) (nameI 3 right.length x (l.take (k + 1)) r)) := by
                show POk _ _
                rw [HR.out]
                exact HPk.out.up (by omega)
              go_wp2_with fail
              go_roundw
              case rel =>
                first
                | exact ⟨k + 1, by omega, by go_num, by rw [HR.out]; exact HAk, HPn, hB⟩
                | ((repeat apply Exists.intro); exact ⟨⟨k + 1, by omega, by go_num, by rw [HR.out]; exact HAk, HPn, hB⟩, rfl⟩)
              case measure => simp [intOf]; omega
            | false =>
              obtain ⟨iv, hiv, hv0, hv1, hv2⟩ := info_parts infoV
              have p0 : w5.cell? ⟨wo.heap.size, 0, none⟩ = some (.slice ar l[k].1.length cr) := cell_of (i := 0) q0 rfl
              have con := refBoth_at ar none cr 0 l[k].1 [] w5 HSr.out ⟨by simp, .inl rfl⟩ (by simp; omega)
              rw [List.length_nil] at con
              have hwo5 := lt_of_heap q0
              have q5 := q0
              have HA5 := HAk
              have hBw := hB
              go_wp2_with fail
              refine con.mono ?_
              rintro e w6 ⟨v6, rfl, O6, hb6⟩
              clear con p0
              have O6 : w6.ownsRow w5.heap.size 24 3 v6 (l[k].1.length + 0) (flatV (l[k].1 ++ nulls 0)) := O6
              have z5 := hb6.size
              dsimp only
              obtain ⟨wu, hwu⟩ : ∃ z, z = wr := ⟨_, rfl⟩
              obtain ⟨us, hus⟩ : ∃ z, z = u15 := ⟨_, rfl⟩
              subst hwu hus
              go_wp2_with fail
              go_loopw [22] (fun v ws => ∃ j : Nat, j ≤ right.length ∧ ws.ownsRow w5.heap.size 24 3 v (l[k].1.length + j) (flatV (l[k].1 ++ nulls j)) ∧ Below w5.heap.size w6 ws) (fun v _ => right.length + 8 - lenV v)
              case atStart => exact ⟨0, Nat.zero_le _, O6, Below.refl _ _⟩
              case round =>
                clear O6
                obtain ⟨j, hj, Oj, hbj⟩ := hrel
                have hB5 : Below w5.heap.size w5 wr := hb6.trans hbj
                have zj := hB5.size
                have p0 : wr.cell? ⟨wo.heap.size, 0, none⟩ = some (.slice ar l[k].1.length cr) := (hB5.cell (p := ⟨wo.heap.size, 0, none⟩) hwo5).trans (cell_of (i := 0) q5 rfl)
                have p1 : wr.cell? ⟨wo.heap.size, 1, none⟩ = some (.int .i64 l[k].2) := (hB5.cell (p := ⟨wo.heap.size, 1, none⟩) hwo5).trans (cell_of (i := 1) q5 rfl)
                obtain ⟨aj, cj, rfl⟩ := own_shapeE Oj
                by_cases hjt : j < right.length
                · have hjz : (l[k].1.length : Int) + (j : Int) < (l[k].1.length : Int) + (right.length : Int) := by omega
                  have hjz' : ((l[k].1.length + j : Nat) : Int) < (l[k].1.length : Int) + (right.length : Int) := by omega
                  clear p1
                  go_wp2_with fail
                  refine (refNull_any _).mono ?_
                  rintro e w12 ⟨rfl, hb12⟩
                  have hz12 := hb12.size
                  have oj2 := own_next Oj hb12
                  clear p0
                  dsimp only
                  go_wp2_with (first | (at_builtin; refine wpList_append_own _ rfl _ _ 51 rfl _ 24 iv _ 3 32 Tryz.underlying51 hiv hv0 hv1 hv2 rfl (by decide) _ _ _ rfl (oj2.alloc _) ⟨w12.heap.size, 0, none⟩ 1 1 [.int .i64 1, .int .i64 0, .string ⟨#[]⟩] rfl rfl ?Ac1 ?Ac2 ?Ac3 ?Ac4 ?Ac5 ?_))
                  case Ac1 =>
                    intro i u hu
                    match i, hu with
                    | 0, hu => simp at hu; subst hu; simp [Addr.add]
                    | 1, hu => simp at hu; subst hu; simp [Addr.add]
                    | 2, hu => simp at hu; subst hu; simp [Addr.add]
                  case Ac2 => intro u hu; simp at hu; rcases hu with rfl | rfl | rfl <;> rfl
                  case Ac3 => unfold maxLen; omega
                  case Ac4 => omega
                  case Ac5 => simp; omega
                  intro v' w13 o13 g13 _
                  have hb13 : Below w5.heap.size w6 w13 := (hbj.trans (hb12.mono zj)).trans (((Below.refl _ _).alloc (by omega) _).grown g13 (by simp; omega) (fun q hq => ((oj2.alloc (.cells #[.int .i64 1, .int .i64 0, .string ⟨#[]⟩] 24)).lt q hq).1))
                  have o13' : w13.ownsRow w5.heap.size 24 3 v' (l[k].1.length + (j + 1)) (flatV (l[k].1 ++ nulls (j + 1))) := by
                    rw [nulls_succV, ← List.append_assoc, flatV_append]
                    exact o13
                  obtain ⟨a13, c13, rfl⟩ := own_shapeE o13'
                  clear g13 Oj oj2 o13
                  go_wp2_with fail
                  go_roundw
                  case rel =>
                    first
                    | exact ⟨j + 1, by omega, o13', hb13⟩
                    | ((repeat apply Exists.intro); exact ⟨⟨j + 1, by omega, o13', hb13⟩, rfl⟩)
                  case measure => simp [lenV]; omega
                · have e : j = right.length := by omega
                  subst e
                  have hjz : ¬ (l[k].1.length : Int) + (right.length : Int) < (l[k].1.length : Int) + (right.length : Int) := by omega
                  have hjz' : ¬ ((l[k].1.length + right.length : Nat) : Int) < (l[k].1.length : Int) + (right.length : Int) := by omega
                  obtain ⟨a8, c8, e8, S8, _, _⟩ := own_vals Oj (by simp [nulls])
                  injection e8 with e81 e82 e83
                  subst e81 e83
                  have con := putC_at _ _ _ (by omega) HPk.out aj cj (l[k].1 ++ nulls right.length) l[k].2 wr (HA5.next hB5) S8 (by simp [nulls]; omega) hwl
                  have en : (l[k].1 ++ nulls right.length).length = l[k].1.length + right.length := by simp [nulls]
                  rw [en] at con
                  have HR : Hid (nameI 3 right.length x (l.take (k + 1)) r = (nameI 3 right.length x (l.take k) r ++ pairsOf x l[k] r) ++ [(l[k].1 ++ nulls right.length, l[k].2)]) := by
                    show _ = _
                    rw [HTk.out, List.append_assoc]
                    congr 1
                    unfold rowI
                    rw [HHs.out]
                    simp
                  have HPn : Hid (POk ((k + 1) * 401) (nameI 3 right.length x (l.take (k + 1)) r)) := by
                    show POk _ _
                    rw [HR.out]
                    exact (HPk.out.push (y := (l[k].1 ++ nulls right.length, l[k].2)) ⟨right_append HRow.out.1 (null_right _), HRow.out.2⟩).up (by omega)
                  clear en Oj e82
                  go_wp2_with fail
                  refine con.mono ?_
                  rintro e w14 ⟨v14, rfl, HA14, hb14⟩
                  clear con p0 p1
                  have hB14 := chain (chain hBw hB5) hb14
                  dsimp only
                  go_wp2_with fail
                  go_roundw
                  case rel =>
                    first
                    | exact ⟨k + 1, by omega, by go_num, by rw [HR.out]; exact HA14, HPn, hB14⟩
                    | ((repeat apply Exists.intro); exact ⟨⟨k + 1, by omega, by go_num, by rw [HR.out]; exact HA14, HPn, hB14⟩, rfl⟩)
                  case measure => simp [intOf]; omega
      · have e : k = l.length := by omega
        subst e
        rw [List.take_length] at HA
        obtain ⟨av, cv, rfl, zv, lv⟩ := HA
        have con := fit_at av cv (canon (nameI 3 right.length x l r)) wr zv (by have := canon_lenV (nameI 3 right.length x l r); have := HP.out.len; rw [List.take_length] at this; omega)
        have e1 : fitE (canon (nameI 3 right.length x l r)) = fe := by
          rw [nameI_canon (by omega) x l r, HEe.out]; rfl
        have e2 : fitZ (canon (nameI 3 right.length x l r)) = fz := by
          unfold fitZ
          rw [e1, HZe.out]
          unfold gatherZ
          rw [← HEe.out, nameI_canon (by omega) x l r]
        rw [e1, e2] at con
        clear e1 e2 HP
        have hA := chain hA2 hb
        go_wp2_with fail
        refine con.mono ?_
        rintro e w9 ⟨⟨a9, c9, rfl, zs9⟩, hb9⟩
        clear con
        dsimp only
        go_wp2_with fail
        exact bodyPost_ret (v := .tuple #[.slice a9 fz.length c9, .int .i64 fe]) (by simp [results, Tryz.results20, go_sem]) rfl ⟨_, rfl, ⟨_, _, rfl, zs9⟩, chain hA hb9⟩
  · have e0 : fe = te := by rw [← HE.out]; unfold pairE; rw [HTe.out, if_pos ht]
    have e1 : fz = [] := by rw [← HZ.out]; unfold pairZ; rw [HE.out, e0, if_neg ht]
    have hne : (te != 0) = true := by simpa using ht
    subst e0 e1
    clear ht
    go_wp2_with fail
    exact bodyPost_ret (v := .tuple #[.slice none 0 0, .int .i64 fe]) (by simp [results, Tryz.results20, go_sem]) rfl ⟨_, rfl, ⟨_, _, rfl, ⟨by simp, .inl rfl⟩⟩, hA2⟩

end Go.Proofs.YtfojonhblblbjaaGreat
