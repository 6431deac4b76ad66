/- The walk of tidelaw2.ZsetsOnce. -/
import Derived.Test.YtfgpfnhbcbhkfabZD
namespace Go.Proofs.Ytfgpfnhbcbhkfab
open Go.RowKit Go.Lib Go.Shelf

theorem posF_in (x : Int) (h : inW x = true) : inW (posF x) = true := by
  rw [inW_iff] at *; unfold posF; split <;> omega
theorem oneF_in (x : Int) (_ : inW x = true) : inW (oneF x) = true := by
  rw [inW_iff] at *; unfold oneF; split <;> omega
theorem wrongZ_weigh (f : Int → Int) (hf : ∀ x, inW x = true → inW (f x) = true) {l : List Zp} (h : wrongZ l = 0) : wrongZ (weighL f l) = 0 := by
  obtain ⟨h1, h2, h3⟩ := (wrongZ_iff l).1 h
  refine (wrongZ_iff _).2 ⟨Nat.le_trans (weighL_len f l) h1, fun y hy => ?_, weighL_rise f l h3⟩
  obtain ⟨x, hx, rfl, h0⟩ := weighL_mem f l y hy
  exact ⟨(wrongRow_bare _).2 (h2 x hx).1, h0, hf _ (h2 x hx).2.2⟩
theorem weigh_weigh (f g k : Int → Int) (f0 : f 0 = 0) (g0 : g 0 = 0) (e : ∀ x, g (f x) = k x) {l : List Zp} (h : Rise l) : weighL g (weighL f l) = weighL k l := by
  have k0 : k 0 = 0 := by rw [← e, f0, g0]
  refine set_unique _ _ (weighL_set _ _ (weighL_rise f l h)) (weighL_set _ _ h) fun q => ?_
  rw [weighL_wt g g0 q _ (weighL_rise f l h), weighL_wt f f0 q l h, weighL_wt k k0 q l h, e]
theorem oo (x : Int) : oneF (oneF x) = oneF x := by unfold oneF; split <;> simp
theorem pp (x : Int) : posF (posF x) = posF x := by unfold posF; split <;> simp <;> omega
theorem op (x : Int) : oneF (posF x) = oneF x := by unfold oneF posF; split <;> split <;> (try split) <;> omega

set_option maxHeartbeats 4000000 in
theorem once_walk (a : Option Addr) (cap : Nat) (z : List Zp) (w : World) (h : ZsAt w a z) :
    Calls Try.prog 8 #[.slice a z.length cap] w fun e w' => e = .returned (.bool true) ∧ Below w.heap.size w w' := by
  by_cases hw : wrongZ z = 0
  · have hok := (wrongZ_iff z).1 hw
    have e1 : setZ oneF z = weighL oneF z := by simp [setZ, hw]
    have e2 : setZ posF z = weighL posF z := by simp [setZ, hw]
    have wd := wrongZ_weigh oneF oneF_in hw
    have wp := wrongZ_weigh posF posF_in hw
    have e3 : setZ oneF (weighL oneF z) = weighL oneF z := by
      rw [setZ, if_pos wd]; exact weigh_weigh oneF oneF oneF rfl rfl oo hok.2.2
    have e4 : setZ posF (weighL posF z) = weighL posF z := by
      rw [setZ, if_pos wp]; exact weigh_weigh posF posF posF rfl rfl pp hok.2.2
    have e5 : setZ oneF (weighL posF z) = weighL oneF z := by
      rw [setZ, if_pos wp]; exact weigh_weigh posF oneF oneF rfl rfl op hok.2.2
    have hdl := ((wrongZ_iff _).1 wd)
    have ca := fun W => distinct_at a cap z W
    have cb := fun W => positive_at a cap z W
    simp only [hw, e1, e2] at ca cb
    have cc := fun a' c' W => distinct_at a' c' (weighL oneF z) W
    have cd := fun a' c' W => positive_at a' c' (weighL posF z) W
    have ce := fun a' c' W => distinct_at a' c' (weighL posF z) W
    simp only [wd, wp, e3, e4, e5] at cc cd ce
    clear e1 e2 e3 e4 e5 hw hok wd wp
    generalize weighL oneF z = d at *
    generalize weighL posF z = p at *
    go_enter Try.func8, Try.ntmps8
    go_wp2_with fail
    refine (alive_at _).mono ?_
    rintro e w1 ⟨rfl, hb1⟩
    go_wp2_with fail
    refine (ca w1 (h.next hb1)).mono ?_
    rintro e w2 ⟨v2, rfl, O2, hb2⟩
    obtain ⟨a2, c2, rfl, z2⟩ := O2.zs
    go_wp2_with fail
    refine (cb w2 ((h.next hb1).next hb2)).mono ?_
    rintro e w3 ⟨v3, rfl, O3, hb3⟩
    obtain ⟨a3, c3, rfl, z3⟩ := O3.zs
    clear O2 O3
    go_wp2_with fail
    refine (cc a2 c2 w3 (z2.next hb3)).mono ?_
    rintro e w4 ⟨v4, rfl, O4, hb4⟩
    obtain ⟨a4, c4, rfl, z4⟩ := O4.zs
    go_wp2_with fail
    refine (cd a3 c3 w4 (z3.next hb4)).mono ?_
    rintro e w5 ⟨v5, rfl, O5, hb5⟩
    obtain ⟨a5, c5, rfl, z5⟩ := O5.zs
    go_wp2_with fail
    refine (ce a3 c3 w5 ((z3.next hb4).next hb5)).mono ?_
    rintro e w6 ⟨v6, rfl, O6, hb6⟩
    obtain ⟨a6, c6, rfl, z6⟩ := O6.zs
    clear O4 O5 O6 ca cb cc cd ce h
    have zd := (((z2.next hb3).next hb4).next hb5).next hb6
    have zp := ((z3.next hb4).next hb5).next hb6
    have zx := (z4.next hb5).next hb6
    have zy := z5.next hb6
    have bw := chain1 (chain1 (chain1 (chain1 (chain1 hb1 hb2) hb3) hb4) hb5) hb6
    clear hb1 hb2 hb3 hb4 hb5 hb6 z2 z3 z4 z5
    go_wp2_with fail
    go_loopw [11] (fun i wr => ∃ k : Nat, 1 ≤ k ∧ (k ≤ d.length ∨ k = 1) ∧ i = .int .i64 k ∧ Below w6.heap.size w6 wr) (fun i _ => d.length - (intOf i).toNat)
    case atStart => exact ⟨1, Nat.le_refl _, .inr rfl, rfl, Below.refl _ _⟩
    case round =>
      obtain ⟨k, hk1, hk, rfl, hb⟩ := hrel
      by_cases hlt : k < d.length
      · obtain ⟨b, off, rfl, hbl, ⟨d1, ar, cr, d0, sr⟩, ⟨g1, br, dr, g0, tr⟩⟩ := (zd.next hb).elem2 (j := k - 1) (k := k) (by omega) hlt
        have i0 : (0 : Int) ≤ (k : Int) - 1 := by omega
        have i1 : (k : Int) - 1 < (d.length : Int) := by omega
        have i2 : ((k : Int) - 1).toNat = k - 1 := by omega
        have i3 : (0 : Int) ≤ (k : Int) := by omega
        have i4 : (k : Int) < (d.length : Int) := by omega
        have hc := rise_get hdl.2.2 (i := k - 1) (j := k) (by omega) hlt (by omega)
        have hr := ((wrongRowF_zero _).1 (hdl.2.1 _ (List.getElem_mem (show k - 1 < d.length by omega))).1).2
        have hc' : ¬ 0 ≤ cmpL (d[k - 1]'(by omega)).1 d[k].1 := by omega
        have HR : Hid (rightB (d[k - 1]'(by omega)).1 = true) := hr
        clear hr
        have p0 := past_cell d0
        have p1 := past_cell g0
        haveI : Nonempty (Past wr) := ⟨⟨wr, Below.refl _ _⟩⟩
        go_wp2_with fail
        refine wp_region_past (by kernel_rfl) (by kernel_rfl) ?_
        repeat (go_big_quiet_step (first | (go_at_call 32; exact in_past (refRows_at _ _ _ _ _ _ _ (sr.next (Past.ok _)) (tr.next (Past.ok _)) HR.out))))
        refine wpQuiet_nil ?_
        rintro w7 ⟨⟨v7, hb7⟩, h7⟩
        obtain rfl : w7 = v7 := h7
        go_wp2_with fail
        go_roundw
        case rel => exact ⟨k + 1, by omega, .inl (by omega), by go_num, chain1 hb hb7⟩
        case measure => simp [intOf]; omega
      · have z1 := zx.next hb
        have z2 := zd.next hb
        have z3 := zy.next hb
        have z4 := zp.next hb
        have z5 := z6.next hb
        have bw2 := chain1 bw hb
        clear zx zd zy zp z6 hb bw
        go_wp2_with fail
        refine (same_eq _ _ _ _ _ _ z1 z2).mono ?_
        rintro e w7 ⟨rfl, hb7⟩
        go_wp2_with fail
        refine (same_eq _ _ _ _ _ _ (z3.next hb7) (z4.next hb7)).mono ?_
        rintro e w8 ⟨rfl, hb8⟩
        go_wp2_with fail
        refine (same_eq _ _ _ _ _ _ ((z5.next hb7).next hb8) ((z2.next hb7).next hb8)).mono ?_
        rintro e w9 ⟨rfl, hb9⟩
        go_wp2_with fail
        go_ret
        exact ⟨rfl, chain1 (chain1 (chain1 bw2 hb7) hb8) hb9⟩
  · have hne : (wrongZ z != 0) = true := by simpa using hw
    have e1 : setZ oneF z = [] := by simp [setZ, hw]
    have e2 : setZ posF z = [] := by simp [setZ, hw]
    go_enter Try.func8, Try.ntmps8
    go_wp2_with fail
    refine (alive_at _).mono ?_
    rintro e w1 ⟨rfl, hb1⟩
    go_wp2_with fail
    refine (distinct_at a cap z w1 (h.next hb1)).mono ?_
    rintro e w2 ⟨v2, rfl, O2, hb2⟩
    obtain ⟨a2, c2, rfl, z2⟩ := O2.zs
    go_wp2_with fail
    refine (positive_at a cap z w2 ((h.next hb1).next hb2)).mono ?_
    rintro e w3 ⟨v3, rfl, O3, hb3⟩
    obtain ⟨a3, c3, rfl, z3⟩ := O3.zs
    go_wp2_with fail
    go_ret
    exact ⟨ret_bool (by simp), chain1 (chain1 hb1 hb2) hb3⟩
end Go.Proofs.Ytfgpfnhbcbhkfab
