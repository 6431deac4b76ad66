/- The walk of ops.Filter. -/
import Derived.Test.YtfgpfnhbcbhkfadGreatK6
namespace Go.Proofs.YtfgpfnhbcbhkfadGreat
open Go.RowKit Go.Lib Go.Shelf

set_option maxHeartbeats 400000 in
theorem filter1_at (cols : List Int) (lo : Nat) (x : Ex) (u : Value) (b : Nat) (ra : Option Addr) (rc : Nat) (row : List Vl) (n : Int) (W : World) (hb : b < W.heap.size) (h0 : W.cell? ⟨b, 0, none⟩ = some u) (hA : Conds cols lo u x W) (hf : FitP cols row) (hs : SlAt W ra row) :
    Calls Tryz.prog 34 #[.agg #[.slice ra row.length rc, .int .i64 n], .pointer (some ⟨b, 0, none⟩)] W fun e w' => e = .returned (.bool (holdsP x row)) ∧ Below W.heap.size W w' := by
  obtain ⟨g, cb, rfl, eg, d⟩ := hA
  have hal : Below W.heap.size W (W.alloc (.cells #[.slice ra row.length rc, .int .i64 n] 53)) := (Below.refl _ _).alloc (Nat.le_refl _) _
  have d := d row ra rc _ hf (hs.next hal) (Since.of hal)
  have c0 := (hal.cell (p := ⟨b, 0, none⟩) hb).trans h0
  generalize holdsP x row = t at *
  go_enter Tryz.func34, Tryz.ntmps34
  go_wp2_with (go_at_fn g; refine d.mono ?_; rintro e w1 ⟨rfl, hb1⟩)
  go_ret
  exact ⟨rfl, chain hal hb1⟩

theorem row8 {cols : List Int} {z : List Zp} (h : InpOk cols z) : ∀ x ∈ z, x.1.length ≤ 8 := fun x hx => by
  have := (h.fit x hx).len
  have := h.cols8
  omega
theorem set_in {cols : List Int} {z : List Zp} (h : InpOk cols z) : ∀ x ∈ z, inW x.2 = true := fun x hx => (((wrongZ_iff z).1 h.set).2.1 x hx).2.2
theorem set_len {cols : List Int} {z : List Zp} (h : InpOk cols z) : z.length ≤ 400 := ((wrongZ_iff z).1 h.set).1

set_option maxRecDepth 100000 in
set_option maxHeartbeats 4000000 in
theorem filter_at (cols : List Int) (x : Ex) (ca : Option Addr) (ccap : Nat) (xa : Option Addr) (xcap : Nat) (a : Option Addr) (cap : Nat) (l : List Zp) (w : World) (hc : IsAt w.heap.size w ca cols) (hk : KsAt w.heap.size w xa x.ks) (h : ZsAt w a l) :
    Calls Tryz.prog 9 #[.slice ca cols.length ccap, exV x.k x.v x.c xa x.ks.length xcap, .slice a l.length cap] w fun e w' => ∃ v, e = .returned (.tuple #[v, .int .i64 (filtE cols x l)]) ∧ OwnZ w.heap.size w' v (filtZ cols x l) ∧ Below w.heap.size w w' := by
  have hal : Below w.heap.size w (w.alloc (.cells #[.int .i64 x.k, .int .i64 x.v.1, .int .i64 x.v.2.1, .string x.v.2.2, .int .i64 x.c, .slice xa x.ks.length xcap] 27)) := (Below.refl _ _).alloc (Nat.le_refl _) _
  have hk' := (KsAt.next hal (Nat.le_refl _) hk).up hal.size
  have hc' := (hc.next hal (Nat.le_refl _)).up hal.size
  by_cases h1 : condE cols x = 0
  · have con := condOk_at cols x ca ccap xa xcap _ hk' hc' h1
    have H1 : Hid (condE cols x = 0) := h1
    clear h1
    have HE : Hid (filtE cols x l = if inpE cols l ≠ 0 then inpE cols l else 0) := by
      show filtE cols x l = _
      unfold filtE
      rw [H1.out, if_neg (by simp)]
    generalize hfz : filtZ cols x l = fz
    generalize hfe : filtE cols x l = fe
    have HZ : Hid (filtZ cols x l = fz) := hfz
    have HF : Hid (filtE cols x l = fe) := hfe
    clear hfz hfe
    go_enter Tryz.func9, Tryz.ntmps9
    go_wp2_with fail
    generalize w.alloc (.cells #[.int .i64 x.k, .int .i64 x.v.1, .int .i64 x.v.2.1, .string x.v.2.2, .int .i64 x.c, .slice xa x.ks.length xcap] 27) = w1 at *
    refine con.mono ?_
    rintro e w2 ⟨u, rfl, hC2, hb2⟩
    clear con
    have hA := chain hal hb2
    have hC2 := hC2.down hal.size
    obtain ⟨ug, ucb, rfl⟩ : ∃ g cb, u = .func (.func g) #[] cb := by obtain ⟨g, cb, e, _⟩ := hC2; exact ⟨g, cb, e⟩
    have hal3 : Below w2.heap.size w2 (w2.alloc (.cells #[.func (.func ug) #[] ucb] 55)) := (Below.refl _ _).alloc (Nat.le_refl _) _
    have hA3 := chain hA hal3
    have con := wrongS_at cols ca ccap a cap l _ ((hc.next hA3 (Nat.le_refl _)).up hA3.size) (h.next hA3)
    have c3 : (w2.alloc (.cells #[.func (.func ug) #[] ucb] 55)).cell? ⟨w2.heap.size, 0, none⟩ = some (.func (.func ug) #[] ucb) := by simp
    have hC3 := hC2.next (Since.of hal3)
    have z3 : (w2.alloc (.cells #[.func (.func ug) #[] ucb] 55)).heap.size = w2.heap.size + 1 := by simp
    clear hk' hc'
    by_cases h2 : inpE cols l = 0
    · have hz := (inpE_ok cols l).1 h2
      rw [h2] at con
      have H2 : Hid (inpE cols l = 0) := h2
      clear h2
      have e0 : fe = 0 := by rw [← HF.out, HE.out, H2.out]; rfl
      have e1 : fz = canon (filtL x l) := by rw [← HZ.out]; unfold filtZ; rw [if_pos (by rw [HE.out, H2.out]; rfl)]
      have HN : Hid (fe = 0) := e0
      have HV : Hid (fz = canon (filtL x l)) := e1
      clear e0 e1
      go_wp2_with fail
      generalize w2.alloc (.cells #[.func (.func ug) #[] ucb] 55) = w3 at *
      refine con.mono ?_
      rintro e w4 ⟨rfl, hb4⟩
      clear con
      have hA4 := chain hA3 hb4
      have c4 := (hb4.cell (p := ⟨w2.heap.size, 0, none⟩) (by show w2.heap.size < _; omega)).trans c3
      have hC4 := hC3.next (Since.of hb4)
      have zs4 := h.next hA4
      have z4 := hb4.size
      have hl4 := set_len hz
      go_wp2_with fail
      refine (picked_at 34 #[.pointer (some ⟨w2.heap.size, 0, none⟩)] (fun p => holdsP x p.1) a cap l w4 w4 (fun W => Below w4.heap.size w4 W) zs4 (by omega) (enters_of Tryz.func34 (by kernel_rfl) rfl) (Below.refl _ _) (fun _ h => h) (fun _ _ h k => h.trans k) ?_).mono ?_
      · intro y hy ra rc W hW hs _
        refine (filter1_at cols w.heap.size x _ w2.heap.size ra rc y.1 y.2 W (by have := hW.size; omega) ((hW.cell (p := ⟨w2.heap.size, 0, none⟩) (by show w2.heap.size < _; omega)).trans c4) (hC4.next (Since.of hW)) (hz.fit y hy) (hs.next hW)).mono ?_
        rintro e w' ⟨rfl, hb⟩
        exact ⟨rfl, chain hW hb, Since.of hb⟩
      rintro e w5 ⟨v5, rfl, O5, hb5, _⟩
      obtain ⟨a5, c5, rfl, zs5, _⟩ := O5.zs hb5
      have hA5 := chain hA4 hb5
      have hfl : l.filter (fun p => holdsP x p.1) = filtL x l := rfl
      rw [hfl] at zs5
      have hsub : ∀ y ∈ filtL x l, y ∈ l := fun y hy => (List.mem_filter.1 hy).1
      have hfn : (filtL x l).length ≤ 400 := Nat.le_trans (List.length_filter_le _ _) hl4
      have hg0 : gatherE (filtL x l) = 0 := filt_gather hz.set _
      have con := gathered_at a5 c5 (filtL x l) w5 zs5 (by omega) (fun y hy => inW_big (set_in hz y (hsub y hy))) (fun y hy => row8 hz y (hsub y hy))
      have hgz : gatherZ (filtL x l) = fz := by rw [HV.out]; unfold gatherZ; rw [if_pos hg0]
      rw [hg0, hgz] at con
      clear hg0 hgz hC2 hC3 hC4 c3 c4 O5
      rw [hfl]
      go_wp2_with fail
      refine con.mono ?_
      rintro e w6 ⟨v6, rfl, O6, hb6⟩
      have O6' := O6.mono hA5.size
      obtain ⟨a6, c6, rfl, _⟩ := O6.zs
      go_wp2_with fail
      exact bodyPost_ret (v := .tuple #[.slice a6 fz.length c6, .int .i64 0]) (by simp [results, Tryz.results9, go_sem]) rfl ⟨_, by rw [HN.out], O6', chain hA5 hb6⟩
    · have e0 : fe = inpE cols l := by rw [← HF.out, HE.out, if_pos h2]
      have e1 : fz = [] := by rw [← HZ.out]; unfold filtZ; rw [HE.out, if_pos h2, if_neg h2]
      have HN : Hid (fe = inpE cols l) := e0
      have HV : Hid (fz = []) := e1
      have hne : (inpE cols l != 0) = true := by simpa using h2
      clear e0 e1
      generalize inpE cols l = t at *
      go_wp2_with fail
      generalize w2.alloc (.cells #[.func (.func ug) #[] ucb] 55) = w3 at *
      refine con.mono ?_
      rintro e w4 ⟨rfl, hb4⟩
      clear con
      go_wp2_with fail
      exact bodyPost_ret (v := .tuple #[.slice none 0 0, .int .i64 t]) (by simp [results, Tryz.results9, go_sem]) rfl ⟨_, by rw [HN.out], by rw [HV.out]; exact own_nil _ _, chain hA3 hb4⟩
  · have con := condBad_at cols x ca ccap xa xcap _ hk' hc' h1
    have e0 : filtE cols x l = condE cols x := by unfold filtE; rw [if_pos h1]
    have e1 : filtZ cols x l = [] := by unfold filtZ; rw [e0, if_neg h1]
    rw [e0, e1]
    have hne : (condE cols x != 0) = true := by simpa using h1
    generalize condE cols x = t at *
    clear e0 e1
    go_enter Tryz.func9, Tryz.ntmps9
    go_wp2_with fail
    generalize w.alloc (.cells #[.int .i64 x.k, .int .i64 x.v.1, .int .i64 x.v.2.1, .string x.v.2.2, .int .i64 x.c, .slice xa x.ks.length xcap] 27) = w1 at *
    refine con.mono ?_
    rintro e w2 ⟨rfl, hb2⟩
    have hA := chain hal hb2
    have hal3 : Below w2.heap.size w2 (w2.alloc (.cells #[.nilFunc] 55)) := (Below.refl _ _).alloc (Nat.le_refl _) _
    clear con
    go_wp2_with fail
    exact bodyPost_ret (v := .tuple #[.slice none 0 0, .int .i64 t]) (by simp [results, Tryz.results9, go_sem]) rfl ⟨_, rfl, own_nil _ _, chain hA hal3⟩
end Go.Proofs.YtfgpfnhbcbhkfadGreat
