/- Together: ICd, ICe, ID, IE, IF, IG, IN, IO, IP2. -/
import Derived.Test.YtjebpkhkjkjphaaGreatM13
import Derived.Test.YtjebpkhkjkjphaaGreatM12
namespace Go.Proofs.YtjebpkhkjkjphaaGreat
open Go.RowKit Go.Lib Go.Shelf
set_option maxRecDepth 100000
set_option maxHeartbeats 16000000
theorem Bb (ts : List (List Int)) (p : Pl) (ih : ∀ r ∈ p.ks, gE ts r) (hk : p.k = 8 ∨ p.k = 9 ∨ p.k = 10 ∨ p.k = 11) : ∀ (S : Nat → Prop) (x : Ex) (xa : Option Addr) (xc : Nat) (q : Pw) (o : Nat) (ca : Option Addr) (cc : Nat) (na : Option Addr) (nc : Nat) (w : World), bQ x = false → dz eD x → eV ts p → dD S w xa x.ks → fA ts S w p q ca na →
  Calls Tryz.prog 21 #[iY x.k x.v x.c xa x.ks.length xc, cH ts p q o ca cc na nc] w fun e w' => ∃ v, e = .returned v ∧ aT ts (eA S w) w' v (az bK ts p x) ∧ Below w.heap.size w w' := by
  intro S x xa xc q o ca cc na nc w ht hw hsh hx hp
  obtain ⟨cl, hcl⟩ : ∃ cl, (aj ts p).length = cl := ⟨_, rfl⟩
  have HCL : Hid ((aj ts p).length = cl) := hcl
  obtain ⟨rp, hrp⟩ : ∃ rp, az bK ts p x = rp := ⟨_, rfl⟩
  have HRP : Hid (az bK ts p x = rp) := hrp
  rw [hrp]
  unfold cH bL
  rw [hcl]
  clear hcl hrp
  have A : Below w.heap.size w (((w.alloc (.cells (aW x xa xc) 27)).alloc (.cells (aJ p q o ca cl cc na p.ks.length nc) 50)).alloc (.cells aH 50)) := ((((He w.heap.size w).alloc (Hd _) (.cells (aW x xa xc) 27)).alloc (by simp only [Hg]; omega) (.cells (aJ p q o ca cl cc na p.ks.length nc) 50)).alloc (by simp only [Hg]; omega) (.cells aH 50))
  have Z : w.heap.size + 3 ≤ (((w.alloc (.cells (aW x xa xc) 27)).alloc (.cells (aJ p q o ca cl cc na p.ks.length nc) 50)).alloc (.cells aH 50)).heap.size := by simp only [Hg]; omega
  have Q0 : (((w.alloc (.cells (aW x xa xc) 27)).alloc (.cells (aJ p q o ca cl cc na p.ks.length nc) 50)).alloc (.cells aH 50)).heap[w.heap.size]? = some (.cells (aW x xa xc) 27 (0, 0)) := by
    rw [aD _ _ (by simp only [Hg]; omega), aD _ _ (by simp only [Hg]; omega)]
    exact aw w (aW x xa xc) 27 rfl
  have Q1 : (((w.alloc (.cells (aW x xa xc) 27)).alloc (.cells (aJ p q o ca cl cc na p.ks.length nc) 50)).alloc (.cells aH 50)).heap[w.heap.size + 1]? = some (.cells (aJ p q o ca cl cc na p.ks.length nc) 50 (0, 0)) := by
    rw [aD _ _ (by simp only [Hg]; omega)]
    exact aw (w.alloc (.cells (aW x xa xc) 27)) (aJ p q o ca cl cc na p.ks.length nc) 50 (by simp only [Hg])
  have Q2 : (((w.alloc (.cells (aW x xa xc) 27)).alloc (.cells (aJ p q o ca cl cc na p.ks.length nc) 50)).alloc (.cells aH 50)).heap[w.heap.size + 2]? = some (.cells aH 50 (0, 0)) := by
    exact aw ((w.alloc (.cells (aW x xa xc) 27)).alloc (.cells (aJ p q o ca cl cc na p.ks.length nc) 50)) aH 50 (by simp only [Hg])
  have HX : Hid (dD S w xa x.ks) := hx
  have HP : Hid (fA ts S w p q ca na) := hp
  have HW : Hid (dz eD x ∧ eV ts p) := ⟨hw, hsh⟩
  have HT : Hid (bQ x = (x.k == 1 && (cls x.v.1 x.v.2.1 == some true))) := gC x
  clear hx hp hw hsh
  have b2 : (p.k == 2) = false := by simpa using (show ¬ p.k = 2 by omega)
  have IH : Hid (∀ r ∈ p.ks, gE ts r) := ih
  have ERP : Hid (rp = Pl.mk p.k p.n p.x p.xs p.gs (p.ks.map fun r => az bK ts r x)) := by
    show _ = _
    rw [← HRP.out]
    obtain ⟨k, n, y, xs, gs, ks⟩ := p
    simp only [Pl.k] at hk
    rw [az, if_neg (by rw [ht]; decide), if_neg (by omega), if_pos hk, iE]
    rfl
  have hbk : (p.k == 8) = true ∨ ((p.k == 8) = false ∧ (p.k == 9) = true) ∨ ((p.k == 8) = false ∧ (p.k == 9) = false ∧ (p.k == 10) = true) ∨ ((p.k == 8) = false ∧ (p.k == 9) = false ∧ (p.k == 10) = false ∧ (p.k == 11) = true) := by
    simp only [beq_iff_eq, beq_eq_false_iff_ne]
    omega
  clear hk ih
  go_enter Tryz.func21, Tryz.ntmps21
  go_upto_region 1 with fail
  generalize (((w.alloc (.cells (aW x xa xc) 27)).alloc (.cells (aJ p q o ca cl cc na p.ks.length nc) 50)).alloc (.cells aH 50)) = w3 at *
  have HTF : Hid (bQ x = false) := ht
  have x0 : w3.cell? ⟨w.heap.size, 0, none⟩ = some (.int .i64 x.k) := cell_of (i := 0) Q0 rfl
  have x1 : w3.cell? ⟨w.heap.size, 1, none⟩ = some (.int .i64 x.v.1) := cell_of (i := 1) Q0 rfl
  have x2 : w3.cell? ⟨w.heap.size, 2, none⟩ = some (.int .i64 x.v.2.1) := cell_of (i := 2) Q0 rfl
  have x3 : w3.cell? ⟨w.heap.size, 3, none⟩ = some (.string x.v.2.2) := cell_of (i := 3) Q0 rfl
  have h0 : (x.k == 1) = false ∨ ((x.k == 1) = true ∧ (cls x.v.1 x.v.2.1 == some true) = false) := by
    rw [HT.out] at ht
    cases h1 : (x.k == 1) with
    | false => exact .inl rfl
    | true => rw [h1, Bool.true_and] at ht; exact .inr ⟨rfl, ht⟩
  clear ht HT
  rcases h0 with h1 | ⟨h1, h2⟩
  all_goals first
    | (have con := dB x.v.1 x.v.2.1 x.v.2.2 w3
       rw [h2] at con
       go_wp2_with fail
       refine con.mono ?_
       rintro e w4 ⟨rfl, hb4⟩
       have A4 := chain A hb4
       have Q04 := (hb4.block _ (ae Q0)).trans Q0
       have Q14 := (hb4.block _ (ae Q1)).trans Q1
       have Q24 := (hb4.block _ (ae Q2)).trans Q2
       clear con hb4 A Z Q0 Q1 Q2 h1 h2 x0 x1 x2 x3
       dsimp only
       go_upto_region 3 with fail)
    | (go_upto_region 3 with fail
       have A4 := A
       have Q04 := Q0
       have Q14 := Q1
       have Q24 := Q2
       clear A Z Q0 Q1 Q2 h1 x0 x1 x2 x3
       generalize w3 = w4 at *)
  all_goals (
    have n0 : w4.cell? ⟨w.heap.size + 1, 0, none⟩ = some (.int .i64 p.k) := cell_of (i := 0) Q14 rfl
    have hrp : rp = Pl.mk p.k p.n p.x p.xs p.gs (p.ks.map fun r => az bK ts r x) := ERP.out
    clear HRP
    have HRP : Hid (Pl.mk p.k p.n p.x p.xs p.gs (p.ks.map fun r => az bK ts r x) = rp) := hrp.symm
    clear hrp
    rcases hbk with b8 | ⟨b8, b9⟩ | ⟨b8, b9, b10⟩ | ⟨b8, b9, b10, b11⟩
    all_goals go_upto_region 10 with fail
    all_goals clear n0
    all_goals try clear b8
    all_goals try clear b9
    all_goals try clear b10
    all_goals try clear b11
    all_goals (
      have hCC : ∀ W W' : World, (W.heap[w.heap.size]? = some (.cells (aW x xa xc) 27 (0, 0)) ∧ W.heap[w.heap.size + 1]? = some (.cells (aJ p q o ca cl cc na p.ks.length nc) 50 (0, 0))) → Below W.heap.size W W' → (W'.heap[w.heap.size]? = some (.cells (aW x xa xc) 27 (0, 0)) ∧ W'.heap[w.heap.size + 1]? = some (.cells (aJ p q o ca cl cc na p.ks.length nc) 50 (0, 0))) := fun W W' h hb => ⟨(hb.block _ (ae h.1)).trans h.1, (hb.block _ (ae h.2)).trans h.2⟩
      have hdr : Below w4.heap.size w4 w4.drew := (He _ _).drew
      have CW := hCC _ _ ⟨Q04, Q14⟩ hdr
      refine aG (fun W => W.heap[w.heap.size]? = some (.cells (aW x xa xc) 27 (0, 0)) ∧ W.heap[w.heap.size + 1]? = some (.cells (aJ p q o ca cl cc na p.ks.length nc) 50 (0, 0))) (by kernel_rfl) ?_
      refine ag hCC (some 27) (i := 0) (v := .agg (aJ p q o ca cl cc na p.ks.length nc)) rfl rfl (by kernel_rfl) (by kernel_rfl) (by kernel_rfl) (fun _ _ _ h => h) (Or.inl ⟨rfl, fun n hn => ?_⟩) CW ?_
      · have hc0 : n.cell? ⟨w.heap.size + 1, 0, none⟩ = some (.int .i64 p.k) := cell_of (i := 0) hn.2 rfl
        have hc1 : n.cell? ⟨w.heap.size + 1, 1, none⟩ = some (.int .i64 p.n) := cell_of (i := 1) hn.2 rfl
        have hc2 : n.cell? ⟨w.heap.size + 1, 2, none⟩ = some (.int .i64 p.x.k) := cell_of (i := 2) hn.2 rfl
        have hc3 : n.cell? ⟨w.heap.size + 1, 3, none⟩ = some (.int .i64 p.x.v.1) := cell_of (i := 3) hn.2 rfl
        have hc4 : n.cell? ⟨w.heap.size + 1, 4, none⟩ = some (.int .i64 p.x.v.2.1) := cell_of (i := 4) hn.2 rfl
        have hc5 : n.cell? ⟨w.heap.size + 1, 5, none⟩ = some (.string p.x.v.2.2) := cell_of (i := 5) hn.2 rfl
        have hc6 : n.cell? ⟨w.heap.size + 1, 6, none⟩ = some (.int .i64 p.x.c) := cell_of (i := 6) hn.2 rfl
        have hc7 : n.cell? ⟨w.heap.size + 1, 7, none⟩ = some (.slice q.xa p.x.ks.length q.xc) := cell_of (i := 7) hn.2 rfl
        have hc8 : n.cell? ⟨w.heap.size + 1, 8, none⟩ = some (.slice q.sa p.xs.length q.sc) := cell_of (i := 8) hn.2 rfl
        have hc9 : n.cell? ⟨w.heap.size + 1, 9, none⟩ = some (.slice q.ga p.gs.length q.gc) := cell_of (i := 9) hn.2 rfl
        have hc10 : n.cell? ⟨w.heap.size + 1, 10, none⟩ = some (.slice q.ka o q.kc) := cell_of (i := 10) hn.2 rfl
        have hc11 : n.cell? ⟨w.heap.size + 1, 11, none⟩ = some (.slice ca cl cc) := cell_of (i := 11) hn.2 rfl
        have hc12 : n.cell? ⟨w.heap.size + 1, 12, none⟩ = some (.slice na p.ks.length nc) := cell_of (i := 12) hn.2 rfl
        go_simp
      simp only [Act.put, Hj, Ho, Hp]
      refine ag hCC (some 28) (i := 1) (v := .agg (aW x xa xc)) rfl rfl (by kernel_rfl) (by kernel_rfl) (by kernel_rfl) (fun _ _ _ h => h) (Or.inl ⟨rfl, fun n hn => ?_⟩) CW ?_
      · have hc0 : n.cell? ⟨w.heap.size, 0, none⟩ = some (.int .i64 x.k) := cell_of (i := 0) hn.1 rfl
        have hc1 : n.cell? ⟨w.heap.size, 1, none⟩ = some (.int .i64 x.v.1) := cell_of (i := 1) hn.1 rfl
        have hc2 : n.cell? ⟨w.heap.size, 2, none⟩ = some (.int .i64 x.v.2.1) := cell_of (i := 2) hn.1 rfl
        have hc3 : n.cell? ⟨w.heap.size, 3, none⟩ = some (.string x.v.2.2) := cell_of (i := 3) hn.1 rfl
        have hc4 : n.cell? ⟨w.heap.size, 4, none⟩ = some (.int .i64 x.c) := cell_of (i := 4) hn.1 rfl
        have hc5 : n.cell? ⟨w.heap.size, 5, none⟩ = some (.slice xa x.ks.length xc) := cell_of (i := 5) hn.1 rfl
        go_simp
      simp only [Act.put, Hj, Ho, Hp]
      refine au (rs := [2]) (by kernel_rfl) (by simp) ?_
      intro w5 hb5 jj hj
      obtain rfl : jj = 2 := by simpa using hj
      clear hj
      have A5 := chain A4 (chain hdr hb5)
      have CW5 := hCC _ _ CW hb5
      have QR5 := ((chain hdr hb5).block _ (ae Q24)).trans Q24
      have con := iW x xa xc w5
      refine wpOp_step rfl (fun K hK => ?_)
      go_simp
      refine con.mono ?_
      rintro e w6 ⟨rfl, QS6, hb6⟩
      have CW6 := hCC _ _ CW5 hb6
      refine hK _ _ ⟨CW6, ?_⟩
      clear hK K con CW CW5
      refine au (rs := [3]) (by kernel_rfl) (by simp) ?_
      intro w7 hb7 jj hj
      obtain rfl : jj = 3 := by simpa using hj
      clear hj
      have A7 := chain A5 (chain hb6 hb7)
      have CW7 := hCC _ _ CW6 hb7
      have QS7 := (hb7.block _ (ae QS6)).trans QS6
      have QR7 := ((chain hb6 hb7).block _ (ae QR5)).trans QR5
      have lr7 := ae QR7
      clear CW6 QS6 QR5
      have HXO : dD (Old (Old S w) w7) w7 xa x.ks := (HX.out.mono fun b h l => ⟨⟨h, l⟩, Hi l A7.size⟩).next (ah.of A7)
      have hfn := ja ts (Old (Old S w) w7) x xa xc w5.heap.size p.ks w7 (fun r hr => ⟨IH.out r hr, eJ HW.out.2 r hr⟩) HW.out.1 QS7 HXO
      have con := pR ts (Old S w) (fun r => az bK ts r x) _ p q o ca cc na nc w7 hfn ((HP.out.mono fun b h l => ⟨h, l⟩).next (ah.of A7)) (jY HW.out.2).1 (im (zY x HW.out.2))
      clear hfn HXO
      unfold cH bL at con
      rw [HCL.out] at con
      refine wpOp_step rfl (fun K hK => ?_)
      go_simp
      refine con.mono ?_
      rintro e w8 ⟨v8, rfl, N8, hb8⟩
      clear con
      obtain ⟨q2, o2, ca2, cc2, na2, nc2, rfl, B8⟩ := N8
      obtain ⟨F, hF⟩ : ∃ F, Pl.mk p.k p.n p.x p.xs p.gs (p.ks.map fun r => az bK ts r x) = F := ⟨_, rfl⟩
      rw [hF] at B8 ⊢
      obtain ⟨cl2, hcl2⟩ : ∃ cl2, (aj ts F).length = cl2 := ⟨_, rfl⟩
      have HCL2 : Hid ((aj ts F).length = cl2) := hcl2
      have HRF : Hid (rp = F) := by show _ = _; rw [← hF, HRP.out]
      unfold cH bL
      rw [hcl2]
      clear hcl2 hF
      have CW8 := hCC _ _ CW7 hb8
      refine hK _ _ ⟨CW8, ?_⟩
      clear hK K CW7
      refine au (rs := [4]) (by kernel_rfl) (by simp) ?_
      intro w9 hb9 jj hj
      obtain rfl : jj = 4 := by simpa using hj
      clear hj
      have A9 := chain A7 (chain hb8 hb9)
      have CW9 := hCC _ _ CW8 hb9
      have QR9 := ((chain hb8 hb9).block _ (ae QR7)).trans QR7
      have B9 := B8.next (ah.of hb9)
      clear CW8 B8
      obtain ⟨y0, y1, y2, y3, y4, y5, y6, y7, y8, y9, y10, y11, y12⟩ := aB QR9
      obtain ⟨yf0, yf1, yf2, yf3, yf4, yf5, yf6, yf7, yf8, yf9, yf10, yf11, yf12⟩ := cL QR9
      refine wpOp_step rfl (fun K hK => ?_)
      go_simp
      have AP : Below w.heap.size w (df w9 (w.heap.size + 2) F q2 o2 ca2 cl2 cc2 na2 F.ks.length nc2) := (bf (g := w.heap.size + 2) A9 (by omega) (.int .i64 F.k) (.int .i64 F.n) (.int .i64 F.x.k) (.int .i64 F.x.v.1) (.int .i64 F.x.v.2.1) (.string F.x.v.2.2) (.int .i64 F.x.c) (.slice q2.xa F.x.ks.length q2.xc) (.slice q2.sa F.xs.length q2.sc) (.slice q2.ga F.gs.length q2.gc) (.slice q2.ka o2 q2.kc) (.slice ca2 cl2 cc2) (.slice na2 F.ks.length nc2))
      have KP : ah (eA (Old S w) w7) w9 (df w9 (w.heap.size + 2) F q2 o2 ca2 cl2 cc2 na2 F.ks.length nc2) := (bC (g := w.heap.size + 2) (ah.refl _ w9) (cD (by omega) (by omega)) (.int .i64 F.k) (.int .i64 F.n) (.int .i64 F.x.k) (.int .i64 F.x.v.1) (.int .i64 F.x.v.2.1) (.string F.x.v.2.2) (.int .i64 F.x.c) (.slice q2.xa F.x.ks.length q2.xc) (.slice q2.sa F.xs.length q2.sc) (.slice q2.ga F.gs.length q2.gc) (.slice q2.ka o2 q2.kc) (.slice ca2 cl2 cc2) (.slice na2 F.ks.length nc2))
      have QE : (df w9 (w.heap.size + 2) F q2 o2 ca2 cl2 cc2 na2 F.ks.length nc2).heap[w.heap.size + 2]? = some (.cells (aJ F q2 o2 ca2 cl2 cc2 na2 F.ks.length nc2) 50 (0, 0)) := (bw (g := w.heap.size + 2) QR9 (.int .i64 F.k) (.int .i64 F.n) (.int .i64 F.x.k) (.int .i64 F.x.v.1) (.int .i64 F.x.v.2.1) (.string F.x.v.2.2) (.int .i64 F.x.c) (.slice q2.xa F.x.ks.length q2.xc) (.slice q2.sa F.xs.length q2.sc) (.slice q2.ga F.gs.length q2.gc) (.slice q2.ka o2 q2.kc) (.slice ca2 cl2 cc2) (.slice na2 F.ks.length nc2))
      have CWE : (df w9 (w.heap.size + 2) F q2 o2 ca2 cl2 cc2 na2 F.ks.length nc2).heap[w.heap.size]? = some (.cells (aW x xa xc) 27 (0, 0)) ∧ (df w9 (w.heap.size + 2) F q2 o2 ca2 cl2 cc2 na2 F.ks.length nc2).heap[w.heap.size + 1]? = some (.cells (aJ p q o ca cl cc na p.ks.length nc) 50 (0, 0)) := ⟨(gj (g := w.heap.size + 2) CW9.1 (by omega) (.int .i64 F.k) (.int .i64 F.n) (.int .i64 F.x.k) (.int .i64 F.x.v.1) (.int .i64 F.x.v.2.1) (.string F.x.v.2.2) (.int .i64 F.x.c) (.slice q2.xa F.x.ks.length q2.xc) (.slice q2.sa F.xs.length q2.sc) (.slice q2.ga F.gs.length q2.gc) (.slice q2.ka o2 q2.kc) (.slice ca2 cl2 cc2) (.slice na2 F.ks.length nc2)), (gj (g := w.heap.size + 2) CW9.2 (by omega) (.int .i64 F.k) (.int .i64 F.n) (.int .i64 F.x.k) (.int .i64 F.x.v.1) (.int .i64 F.x.v.2.1) (.string F.x.v.2.2) (.int .i64 F.x.c) (.slice q2.xa F.x.ks.length q2.xc) (.slice q2.sa F.xs.length q2.sc) (.slice q2.ga F.gs.length q2.gc) (.slice q2.ka o2 q2.kc) (.slice ca2 cl2 cc2) (.slice na2 F.ks.length nc2))⟩
      refine hK _ _ ⟨CWE, ?_⟩
      clear hK K CWE CW9 y0 yf0 y1 yf1 y2 yf2 y3 yf3 y4 yf4 y5 yf5 y6 yf6 y7 yf7 y8 yf8 y9 yf9 y10 yf10 y11 yf11 y12 yf12
      unfold df at AP KP QE
      generalize (((((((((((((w9.setCell ⟨w.heap.size + 2, 0, none⟩ (.int .i64 F.k)).setCell ⟨w.heap.size + 2, 1, none⟩ (.int .i64 F.n)).setCell ⟨w.heap.size + 2, 2, none⟩ (.int .i64 F.x.k)).setCell ⟨w.heap.size + 2, 3, none⟩ (.int .i64 F.x.v.1)).setCell ⟨w.heap.size + 2, 4, none⟩ (.int .i64 F.x.v.2.1)).setCell ⟨w.heap.size + 2, 5, none⟩ (.string F.x.v.2.2)).setCell ⟨w.heap.size + 2, 6, none⟩ (.int .i64 F.x.c)).setCell ⟨w.heap.size + 2, 7, none⟩ (.slice q2.xa F.x.ks.length q2.xc)).setCell ⟨w.heap.size + 2, 8, none⟩ (.slice q2.sa F.xs.length q2.sc)).setCell ⟨w.heap.size + 2, 9, none⟩ (.slice q2.ga F.gs.length q2.gc)).setCell ⟨w.heap.size + 2, 10, none⟩ (.slice q2.ka o2 q2.kc)).setCell ⟨w.heap.size + 2, 11, none⟩ (.slice ca2 cl2 cc2)).setCell ⟨w.heap.size + 2, 12, none⟩ (.slice na2 F.ks.length nc2)) = w10 at *
      refine bd (by kernel_rfl) ?_
      intro w11 hb11
      have A11 := chain AP hb11
      have QE11 := (hb11.block _ (ae QE)).trans QE
      have FIN : aT ts (eA S w) w11 (.agg (aJ F q2 o2 ca2 cl2 cc2 na2 F.ks.length nc2)) F := by
        refine ⟨q2, o2, ca2, cc2, na2, nc2, by unfold cH bL; rw [HCL2.out], ((B9.next KP).next (ah.of hb11)).mono fun b h _ => ?_⟩
        rcases h with h | h
        · exact .inl h.1
        · exact .inr (by have := A7.size; omega)
      obtain ⟨r0, r1, r2, r3, r4, r5, r6, r7, r8, r9, r10, r11, r12⟩ := aB QE11
      go_wp2_with fail
      exact Hf (v := .agg (aJ F q2 o2 ca2 cl2 cc2 na2 F.ks.length nc2)) (by simp [results, Tryz.results21, go_sem, r0, r1, r2, r3, r4, r5, r6, r7, r8, r9, r10, r11, r12]) rfl ⟨_, rfl, by rw [HRF.out]; exact FIN, A11⟩
      )
    )
theorem AX {ts:List (List Int)} {p r:Pl} {j:Nat} (hj:j<p.ks.length) (h:aj ts r=aj ts p.ks[j]):(p.ks.set j r).map (aj ts)=p.ks.map (aj ts):=by
 rw [List.map_set,h];refine List.ext_getElem (by simp) fun i h1 h2=>?_
 rw [List.getElem_set]
 split
 ·rename_i e; subst e; rw [IJ]
 ·rfl
theorem pc {ts:List (List Int)} {p:Pl} (x:Ex) (h:eV ts p) {j:Nat} (hj:j<p.ks.length):aj ts (.mk p.k p.n p.x p.xs p.gs (p.ks.set j (az bK ts (p.ks.getD j p) x)))=aj ts p:=by
 have e:p.ks.getD j p=p.ks[j]:=by rw [List.getD_eq_getElem?_getD,H4 hj,Option.getD_some]
 rw [e];exact im (AX hj (eZ bK _ x (eJ h _ (Hm hj))))
theorem Ad (ts : List (List Int)) (p : Pl) (ih : ∀ r ∈ p.ks, gE ts r) (hk : p.k = 5 ∨ p.k = 6) : ∀ (S : Nat → Prop) (x : Ex) (xa : Option Addr) (xc : Nat) (q : Pw) (o : Nat) (ca : Option Addr) (cc : Nat) (na : Option Addr) (nc : Nat) (w : World), bQ x = false → dz eD x → eV ts p → dD S w xa x.ks → fA ts S w p q ca na →
  Calls Tryz.prog 21 #[iY x.k x.v x.c xa x.ks.length xc, cH ts p q o ca cc na nc] w fun e w' => ∃ v, e = .returned v ∧ aT ts (eA S w) w' v (az bK ts p x) ∧ Below w.heap.size w w' := by
  intro S x xa xc q o ca cc na nc w ht hw hsh hx hp
  obtain ⟨cl, hcl⟩ : ∃ cl, (aj ts p).length = cl := ⟨_, rfl⟩
  have HCL : Hid ((aj ts p).length = cl) := hcl
  obtain ⟨rp, hrp⟩ : ∃ rp, az bK ts p x = rp := ⟨_, rfl⟩
  have HRP : Hid (az bK ts p x = rp) := hrp
  rw [hrp]
  unfold cH bL
  rw [hcl]
  clear hcl hrp
  have A : Below w.heap.size w (((w.alloc (.cells (aW x xa xc) 27)).alloc (.cells (aJ p q o ca cl cc na p.ks.length nc) 50)).alloc (.cells aH 50)) := ((((He w.heap.size w).alloc (Hd _) (.cells (aW x xa xc) 27)).alloc (by simp only [Hg]; omega) (.cells (aJ p q o ca cl cc na p.ks.length nc) 50)).alloc (by simp only [Hg]; omega) (.cells aH 50))
  have Z : w.heap.size + 3 ≤ (((w.alloc (.cells (aW x xa xc) 27)).alloc (.cells (aJ p q o ca cl cc na p.ks.length nc) 50)).alloc (.cells aH 50)).heap.size := by simp only [Hg]; omega
  have Q0 : (((w.alloc (.cells (aW x xa xc) 27)).alloc (.cells (aJ p q o ca cl cc na p.ks.length nc) 50)).alloc (.cells aH 50)).heap[w.heap.size]? = some (.cells (aW x xa xc) 27 (0, 0)) := by
    rw [aD _ _ (by simp only [Hg]; omega), aD _ _ (by simp only [Hg]; omega)]
    exact aw w (aW x xa xc) 27 rfl
  have Q1 : (((w.alloc (.cells (aW x xa xc) 27)).alloc (.cells (aJ p q o ca cl cc na p.ks.length nc) 50)).alloc (.cells aH 50)).heap[w.heap.size + 1]? = some (.cells (aJ p q o ca cl cc na p.ks.length nc) 50 (0, 0)) := by
    rw [aD _ _ (by simp only [Hg]; omega)]
    exact aw (w.alloc (.cells (aW x xa xc) 27)) (aJ p q o ca cl cc na p.ks.length nc) 50 (by simp only [Hg])
  have Q2 : (((w.alloc (.cells (aW x xa xc) 27)).alloc (.cells (aJ p q o ca cl cc na p.ks.length nc) 50)).alloc (.cells aH 50)).heap[w.heap.size + 2]? = some (.cells aH 50 (0, 0)) := by
    exact aw ((w.alloc (.cells (aW x xa xc) 27)).alloc (.cells (aJ p q o ca cl cc na p.ks.length nc) 50)) aH 50 (by simp only [Hg])
  have HX : Hid (dD S w xa x.ks) := hx
  have HP : Hid (fA ts S w p q ca na) := hp
  have HW : Hid (dz eD x ∧ eV ts p) := ⟨hw, hsh⟩
  have HT : Hid (bQ x = (x.k == 1 && (cls x.v.1 x.v.2.1 == some true))) := gC x
  clear hx hp hw hsh
  have b2 : (p.k == 2) = false := by simpa using (show ¬ p.k = 2 by omega)
  have b8 : (p.k == 8) = false := by simpa using (show ¬ p.k = 8 by omega)
  have b9 : (p.k == 9) = false := by simpa using (show ¬ p.k = 9 by omega)
  have b10 : (p.k == 10) = false := by simpa using (show ¬ p.k = 10 by omega)
  have b11 : (p.k == 11) = false := by simpa using (show ¬ p.k = 11 by omega)
  have IH : Hid (∀ r ∈ p.ks, gE ts r) := ih
  have HK : Hid (4 ≤ p.k ∧ p.k ≤ 9) := by show _ ∧ _; omega
  have ERP : Hid (rp = Pl.mk p.k p.n p.x p.xs p.gs (p.ks.set 0 (az bK ts (p.ks.getD 0 p) x))) := by
    show _ = _
    rw [← HRP.out]
    have hl := (jY HW.out.2).2 HK.out
    obtain ⟨k, n, y, xs, gs, ks⟩ := p
    simp only [Pl.k] at hk
    simp only [Pl.ks] at hl
    match ks, hl with
    | [r, s], _ =>
      rw [az, if_neg (by rw [ht]; decide), if_neg (by omega), if_neg (by omega), if_pos hk, dF]
      rfl
  have hbk : (p.k == 5) = true ∨ ((p.k == 5) = false ∧ (p.k == 6) = true) := by
    simp only [beq_iff_eq, beq_eq_false_iff_ne]
    omega
  clear hk ih
  go_enter Tryz.func21, Tryz.ntmps21
  go_upto_region 1 with fail
  generalize (((w.alloc (.cells (aW x xa xc) 27)).alloc (.cells (aJ p q o ca cl cc na p.ks.length nc) 50)).alloc (.cells aH 50)) = w3 at *
  have HTF : Hid (bQ x = false) := ht
  have x0 : w3.cell? ⟨w.heap.size, 0, none⟩ = some (.int .i64 x.k) := cell_of (i := 0) Q0 rfl
  have x1 : w3.cell? ⟨w.heap.size, 1, none⟩ = some (.int .i64 x.v.1) := cell_of (i := 1) Q0 rfl
  have x2 : w3.cell? ⟨w.heap.size, 2, none⟩ = some (.int .i64 x.v.2.1) := cell_of (i := 2) Q0 rfl
  have x3 : w3.cell? ⟨w.heap.size, 3, none⟩ = some (.string x.v.2.2) := cell_of (i := 3) Q0 rfl
  have h0 : (x.k == 1) = false ∨ ((x.k == 1) = true ∧ (cls x.v.1 x.v.2.1 == some true) = false) := by
    rw [HT.out] at ht
    cases h1 : (x.k == 1) with
    | false => exact .inl rfl
    | true => rw [h1, Bool.true_and] at ht; exact .inr ⟨rfl, ht⟩
  clear ht HT
  rcases h0 with h1 | ⟨h1, h2⟩
  all_goals first
    | (have con := dB x.v.1 x.v.2.1 x.v.2.2 w3
       rw [h2] at con
       go_wp2_with fail
       refine con.mono ?_
       rintro e w4 ⟨rfl, hb4⟩
       have A4 := chain A hb4
       have Q04 := (hb4.block _ (ae Q0)).trans Q0
       have Q14 := (hb4.block _ (ae Q1)).trans Q1
       have Q24 := (hb4.block _ (ae Q2)).trans Q2
       clear con hb4 A Z Q0 Q1 Q2 h1 h2 x0 x1 x2 x3
       dsimp only
       go_upto_region 3 with fail)
    | (go_upto_region 3 with fail
       have A4 := A
       have Q04 := Q0
       have Q14 := Q1
       have Q24 := Q2
       clear A Z Q0 Q1 Q2 h1 x0 x1 x2 x3
       generalize w3 = w4 at *)
  all_goals (
    have n0 : w4.cell? ⟨w.heap.size + 1, 0, none⟩ = some (.int .i64 p.k) := cell_of (i := 0) Q14 rfl
    have hrp : rp = Pl.mk p.k p.n p.x p.xs p.gs (p.ks.set 0 (az bK ts (p.ks.getD 0 p) x)) := ERP.out
    clear HRP
    have HRP : Hid (Pl.mk p.k p.n p.x p.xs p.gs (p.ks.set 0 (az bK ts (p.ks.getD 0 p) x)) = rp) := hrp.symm
    clear hrp
    rcases hbk with b5 | ⟨b5, b6⟩
    all_goals go_upto_region 13 with fail
    all_goals clear n0
    all_goals try clear b5
    all_goals try clear b6
    all_goals (
      have hCC : ∀ W W' : World, (W.heap[w.heap.size]? = some (.cells (aW x xa xc) 27 (0, 0)) ∧ W.heap[w.heap.size + 1]? = some (.cells (aJ p q o ca cl cc na p.ks.length nc) 50 (0, 0))) → Below W.heap.size W W' → (W'.heap[w.heap.size]? = some (.cells (aW x xa xc) 27 (0, 0)) ∧ W'.heap[w.heap.size + 1]? = some (.cells (aJ p q o ca cl cc na p.ks.length nc) 50 (0, 0))) := fun W W' h hb => ⟨(hb.block _ (ae h.1)).trans h.1, (hb.block _ (ae h.2)).trans h.2⟩
      have hdr : Below w4.heap.size w4 w4.drew := (He _ _).drew
      have CW := hCC _ _ ⟨Q04, Q14⟩ hdr
      refine aG (fun W => W.heap[w.heap.size]? = some (.cells (aW x xa xc) 27 (0, 0)) ∧ W.heap[w.heap.size + 1]? = some (.cells (aJ p q o ca cl cc na p.ks.length nc) 50 (0, 0))) (by kernel_rfl) ?_
      refine ag hCC (some 34) (i := 0) (v := .agg (aJ p q o ca cl cc na p.ks.length nc)) rfl rfl (by kernel_rfl) (by kernel_rfl) (by kernel_rfl) (fun _ _ _ h => h) (Or.inl ⟨rfl, fun n hn => ?_⟩) CW ?_
      · have hc0 : n.cell? ⟨w.heap.size + 1, 0, none⟩ = some (.int .i64 p.k) := cell_of (i := 0) hn.2 rfl
        have hc1 : n.cell? ⟨w.heap.size + 1, 1, none⟩ = some (.int .i64 p.n) := cell_of (i := 1) hn.2 rfl
        have hc2 : n.cell? ⟨w.heap.size + 1, 2, none⟩ = some (.int .i64 p.x.k) := cell_of (i := 2) hn.2 rfl
        have hc3 : n.cell? ⟨w.heap.size + 1, 3, none⟩ = some (.int .i64 p.x.v.1) := cell_of (i := 3) hn.2 rfl
        have hc4 : n.cell? ⟨w.heap.size + 1, 4, none⟩ = some (.int .i64 p.x.v.2.1) := cell_of (i := 4) hn.2 rfl
        have hc5 : n.cell? ⟨w.heap.size + 1, 5, none⟩ = some (.string p.x.v.2.2) := cell_of (i := 5) hn.2 rfl
        have hc6 : n.cell? ⟨w.heap.size + 1, 6, none⟩ = some (.int .i64 p.x.c) := cell_of (i := 6) hn.2 rfl
        have hc7 : n.cell? ⟨w.heap.size + 1, 7, none⟩ = some (.slice q.xa p.x.ks.length q.xc) := cell_of (i := 7) hn.2 rfl
        have hc8 : n.cell? ⟨w.heap.size + 1, 8, none⟩ = some (.slice q.sa p.xs.length q.sc) := cell_of (i := 8) hn.2 rfl
        have hc9 : n.cell? ⟨w.heap.size + 1, 9, none⟩ = some (.slice q.ga p.gs.length q.gc) := cell_of (i := 9) hn.2 rfl
        have hc10 : n.cell? ⟨w.heap.size + 1, 10, none⟩ = some (.slice q.ka o q.kc) := cell_of (i := 10) hn.2 rfl
        have hc11 : n.cell? ⟨w.heap.size + 1, 11, none⟩ = some (.slice ca cl cc) := cell_of (i := 11) hn.2 rfl
        have hc12 : n.cell? ⟨w.heap.size + 1, 12, none⟩ = some (.slice na p.ks.length nc) := cell_of (i := 12) hn.2 rfl
        go_simp
      simp only [Act.put, Hj, Ho, Hp]
      refine ag hCC (some 35) (i := 1) (v := .agg (aW x xa xc)) rfl rfl (by kernel_rfl) (by kernel_rfl) (by kernel_rfl) (fun _ _ _ h => h) (Or.inl ⟨rfl, fun n hn => ?_⟩) CW ?_
      · have hc0 : n.cell? ⟨w.heap.size, 0, none⟩ = some (.int .i64 x.k) := cell_of (i := 0) hn.1 rfl
        have hc1 : n.cell? ⟨w.heap.size, 1, none⟩ = some (.int .i64 x.v.1) := cell_of (i := 1) hn.1 rfl
        have hc2 : n.cell? ⟨w.heap.size, 2, none⟩ = some (.int .i64 x.v.2.1) := cell_of (i := 2) hn.1 rfl
        have hc3 : n.cell? ⟨w.heap.size, 3, none⟩ = some (.string x.v.2.2) := cell_of (i := 3) hn.1 rfl
        have hc4 : n.cell? ⟨w.heap.size, 4, none⟩ = some (.int .i64 x.c) := cell_of (i := 4) hn.1 rfl
        have hc5 : n.cell? ⟨w.heap.size, 5, none⟩ = some (.slice xa x.ks.length xc) := cell_of (i := 5) hn.1 rfl
        go_simp
      simp only [Act.put, Hj, Ho, Hp]
      refine au (rs := [2]) (by kernel_rfl) (by simp) ?_
      intro w5 hb5 jj hj
      obtain rfl : jj = 2 := by simpa using hj
      clear hj
      have A5 := chain A4 (chain hdr hb5)
      have CW5 := hCC _ _ CW hb5
      have QR5 := ((chain hdr hb5).block _ (ae Q24)).trans Q24
      have con := iW x xa xc w5
      refine wpOp_step rfl (fun K hK => ?_)
      go_simp
      refine con.mono ?_
      rintro e w6 ⟨rfl, QS6, hb6⟩
      have CW6 := hCC _ _ CW5 hb6
      refine hK _ _ ⟨CW6, ?_⟩
      clear hK K con CW CW5
      refine au (rs := [3]) (by kernel_rfl) (by simp) ?_
      intro w7 hb7 jj hj
      obtain rfl : jj = 3 := by simpa using hj
      clear hj
      have A7 := chain A5 (chain hb6 hb7)
      have CW7 := hCC _ _ CW6 hb7
      have QS7 := (hb7.block _ (ae QS6)).trans QS6
      have QR7 := ((chain hb6 hb7).block _ (ae QR5)).trans QR5
      have lr7 := ae QR7
      clear CW6 QS6 QR5
      have HXO : dD (Old (Old S w) w7) w7 xa x.ks := (HX.out.mono fun b h l => ⟨⟨h, l⟩, Hi l A7.size⟩).next (ah.of A7)
      have hfn := ja ts (Old (Old S w) w7) x xa xc w5.heap.size p.ks w7 (fun r hr => ⟨IH.out r hr, eJ HW.out.2 r hr⟩) HW.out.1 QS7 HXO
      have con := nP ts (Old S w) (fun r => az bK ts r x) _ p q o ca cc na nc w7 0 hfn ((HP.out.mono fun b h l => ⟨h, l⟩).next (ah.of A7)) ((jY HW.out.2).2 HK.out) (by decide) (pc x HW.out.2 (by rw [(jY HW.out.2).2 HK.out]; decide))
      clear hfn HXO
      unfold cH bL at con
      rw [HCL.out] at con
      refine wpOp_step rfl (fun K hK => ?_)
      go_simp
      refine con.mono ?_
      rintro e w8 ⟨v8, rfl, N8, hb8⟩
      clear con
      obtain ⟨q2, o2, ca2, cc2, na2, nc2, rfl, B8⟩ := N8
      obtain ⟨F, hF⟩ : ∃ F, Pl.mk p.k p.n p.x p.xs p.gs (p.ks.set 0 (az bK ts (p.ks.getD 0 p) x)) = F := ⟨_, rfl⟩
      rw [hF] at B8 ⊢
      obtain ⟨cl2, hcl2⟩ : ∃ cl2, (aj ts F).length = cl2 := ⟨_, rfl⟩
      have HCL2 : Hid ((aj ts F).length = cl2) := hcl2
      have HRF : Hid (rp = F) := by show _ = _; rw [← hF, HRP.out]
      unfold cH bL
      rw [hcl2]
      clear hcl2 hF
      have CW8 := hCC _ _ CW7 hb8
      refine hK _ _ ⟨CW8, ?_⟩
      clear hK K CW7
      refine au (rs := [4]) (by kernel_rfl) (by simp) ?_
      intro w9 hb9 jj hj
      obtain rfl : jj = 4 := by simpa using hj
      clear hj
      have A9 := chain A7 (chain hb8 hb9)
      have CW9 := hCC _ _ CW8 hb9
      have QR9 := ((chain hb8 hb9).block _ (ae QR7)).trans QR7
      have B9 := B8.next (ah.of hb9)
      clear CW8 B8
      obtain ⟨y0, y1, y2, y3, y4, y5, y6, y7, y8, y9, y10, y11, y12⟩ := aB QR9
      obtain ⟨yf0, yf1, yf2, yf3, yf4, yf5, yf6, yf7, yf8, yf9, yf10, yf11, yf12⟩ := cL QR9
      refine wpOp_step rfl (fun K hK => ?_)
      go_simp
      have AP : Below w.heap.size w (df w9 (w.heap.size + 2) F q2 o2 ca2 cl2 cc2 na2 F.ks.length nc2) := (bf (g := w.heap.size + 2) A9 (by omega) (.int .i64 F.k) (.int .i64 F.n) (.int .i64 F.x.k) (.int .i64 F.x.v.1) (.int .i64 F.x.v.2.1) (.string F.x.v.2.2) (.int .i64 F.x.c) (.slice q2.xa F.x.ks.length q2.xc) (.slice q2.sa F.xs.length q2.sc) (.slice q2.ga F.gs.length q2.gc) (.slice q2.ka o2 q2.kc) (.slice ca2 cl2 cc2) (.slice na2 F.ks.length nc2))
      have KP : ah (eA (Old S w) w7) w9 (df w9 (w.heap.size + 2) F q2 o2 ca2 cl2 cc2 na2 F.ks.length nc2) := (bC (g := w.heap.size + 2) (ah.refl _ w9) (cD (by omega) (by omega)) (.int .i64 F.k) (.int .i64 F.n) (.int .i64 F.x.k) (.int .i64 F.x.v.1) (.int .i64 F.x.v.2.1) (.string F.x.v.2.2) (.int .i64 F.x.c) (.slice q2.xa F.x.ks.length q2.xc) (.slice q2.sa F.xs.length q2.sc) (.slice q2.ga F.gs.length q2.gc) (.slice q2.ka o2 q2.kc) (.slice ca2 cl2 cc2) (.slice na2 F.ks.length nc2))
      have QE : (df w9 (w.heap.size + 2) F q2 o2 ca2 cl2 cc2 na2 F.ks.length nc2).heap[w.heap.size + 2]? = some (.cells (aJ F q2 o2 ca2 cl2 cc2 na2 F.ks.length nc2) 50 (0, 0)) := (bw (g := w.heap.size + 2) QR9 (.int .i64 F.k) (.int .i64 F.n) (.int .i64 F.x.k) (.int .i64 F.x.v.1) (.int .i64 F.x.v.2.1) (.string F.x.v.2.2) (.int .i64 F.x.c) (.slice q2.xa F.x.ks.length q2.xc) (.slice q2.sa F.xs.length q2.sc) (.slice q2.ga F.gs.length q2.gc) (.slice q2.ka o2 q2.kc) (.slice ca2 cl2 cc2) (.slice na2 F.ks.length nc2))
      have CWE : (df w9 (w.heap.size + 2) F q2 o2 ca2 cl2 cc2 na2 F.ks.length nc2).heap[w.heap.size]? = some (.cells (aW x xa xc) 27 (0, 0)) ∧ (df w9 (w.heap.size + 2) F q2 o2 ca2 cl2 cc2 na2 F.ks.length nc2).heap[w.heap.size + 1]? = some (.cells (aJ p q o ca cl cc na p.ks.length nc) 50 (0, 0)) := ⟨(gj (g := w.heap.size + 2) CW9.1 (by omega) (.int .i64 F.k) (.int .i64 F.n) (.int .i64 F.x.k) (.int .i64 F.x.v.1) (.int .i64 F.x.v.2.1) (.string F.x.v.2.2) (.int .i64 F.x.c) (.slice q2.xa F.x.ks.length q2.xc) (.slice q2.sa F.xs.length q2.sc) (.slice q2.ga F.gs.length q2.gc) (.slice q2.ka o2 q2.kc) (.slice ca2 cl2 cc2) (.slice na2 F.ks.length nc2)), (gj (g := w.heap.size + 2) CW9.2 (by omega) (.int .i64 F.k) (.int .i64 F.n) (.int .i64 F.x.k) (.int .i64 F.x.v.1) (.int .i64 F.x.v.2.1) (.string F.x.v.2.2) (.int .i64 F.x.c) (.slice q2.xa F.x.ks.length q2.xc) (.slice q2.sa F.xs.length q2.sc) (.slice q2.ga F.gs.length q2.gc) (.slice q2.ka o2 q2.kc) (.slice ca2 cl2 cc2) (.slice na2 F.ks.length nc2))⟩
      refine hK _ _ ⟨CWE, ?_⟩
      clear hK K CWE CW9 y0 yf0 y1 yf1 y2 yf2 y3 yf3 y4 yf4 y5 yf5 y6 yf6 y7 yf7 y8 yf8 y9 yf9 y10 yf10 y11 yf11 y12 yf12
      unfold df at AP KP QE
      generalize (((((((((((((w9.setCell ⟨w.heap.size + 2, 0, none⟩ (.int .i64 F.k)).setCell ⟨w.heap.size + 2, 1, none⟩ (.int .i64 F.n)).setCell ⟨w.heap.size + 2, 2, none⟩ (.int .i64 F.x.k)).setCell ⟨w.heap.size + 2, 3, none⟩ (.int .i64 F.x.v.1)).setCell ⟨w.heap.size + 2, 4, none⟩ (.int .i64 F.x.v.2.1)).setCell ⟨w.heap.size + 2, 5, none⟩ (.string F.x.v.2.2)).setCell ⟨w.heap.size + 2, 6, none⟩ (.int .i64 F.x.c)).setCell ⟨w.heap.size + 2, 7, none⟩ (.slice q2.xa F.x.ks.length q2.xc)).setCell ⟨w.heap.size + 2, 8, none⟩ (.slice q2.sa F.xs.length q2.sc)).setCell ⟨w.heap.size + 2, 9, none⟩ (.slice q2.ga F.gs.length q2.gc)).setCell ⟨w.heap.size + 2, 10, none⟩ (.slice q2.ka o2 q2.kc)).setCell ⟨w.heap.size + 2, 11, none⟩ (.slice ca2 cl2 cc2)).setCell ⟨w.heap.size + 2, 12, none⟩ (.slice na2 F.ks.length nc2)) = w10 at *
      refine bd (by kernel_rfl) ?_
      intro w11 hb11
      have A11 := chain AP hb11
      have QE11 := (hb11.block _ (ae QE)).trans QE
      have FIN : aT ts (eA S w) w11 (.agg (aJ F q2 o2 ca2 cl2 cc2 na2 F.ks.length nc2)) F := by
        refine ⟨q2, o2, ca2, cc2, na2, nc2, by unfold cH bL; rw [HCL2.out], ((B9.next KP).next (ah.of hb11)).mono fun b h _ => ?_⟩
        rcases h with h | h
        · exact .inl h.1
        · exact .inr (by have := A7.size; omega)
      obtain ⟨r0, r1, r2, r3, r4, r5, r6, r7, r8, r9, r10, r11, r12⟩ := aB QE11
      go_wp2_with fail
      exact Hf (v := .agg (aJ F q2 o2 ca2 cl2 cc2 na2 F.ks.length nc2)) (by simp [results, Tryz.results21, go_sem, r0, r1, r2, r3, r4, r5, r6, r7, r8, r9, r10, r11, r12]) rfl ⟨_, rfl, by rw [HRF.out]; exact FIN, A11⟩
      )
    )
theorem sY {P:Int→Prop} (f:Int→Bool):∀ x:Ex,dz P x→lE f x = !dM (fun c=>!f c) x :=
 Ex.ind fun k v c ks ih hw=>by
  rw [dz] at hw
  obtain ⟨_,h2,hs⟩:=hw
  have hs:=fM.1 hs
  have key:∀ l:List Ex,(∀ x ∈ l,x ∈ ks)→eM f l = !fF (fun c=>!f c) l:=by
   intro l
   induction l with
   | nil=>intro _; rfl
   | cons x r ihl =>
    intro hm;rw [eM,fF,ih x (hm x (by simp)) (hs x (hm x (by simp))),ihl fun y hy=>hm y (by simp [hy]),Bool.not_and]
  rw [lE,dM];by_cases e:k=2
  ·rw [(h2 e).2,if_pos e];simp [eM,e]
  ·rw [if_neg e,key ks fun _ h=>h];simp [e]
theorem xe {n:Int} (hn:0≤n):∀ x:Ex,dz eD x→dM (fun c=>decide (n≤c)) x=true→dz eD (lu n x) :=
 Ex.ind fun k v c ks ih hw hc=>by
  unfold lu
  rw [il,dz]
  rw [dz] at hw
  obtain ⟨h1,h2,hs⟩:=hw
  have hs:=fM.1 hs
  rw [dM] at hc
  refine ⟨by rw [dr]; exact h1,fun e=>?_,fM.2 fun y hy=>?_⟩
  ·rw [if_pos e] at hc ⊢
   have:=of_decide_eq_true hc
   have h3:=(h2 e).1
   unfold eD at h3 ⊢
   rw [(h2 e).2,bB]
   exact ⟨by omega,rfl⟩
  ·rw [cw] at hy
   obtain ⟨z,hz,rfl⟩:=List.mem_map.1 hy
   by_cases e:k=2
   ·rw [(h2 e).2] at hz; cases hz
   ·rw [if_neg e] at hc
    exact ih z hz (hs z hz) (oS hc z hz)
theorem Dl (n:Nat) (hn:n≤maxLen) (b:Nat) (w:World) (hb:w.heap[b]? = some (.cells #[.int .i64 n] 3 (0,0))):EZ (.func (.func 64) #[] #[.pointer (some ⟨b,0,none⟩)]) (fun c=>c - n) eD w :=
 ⟨64,#[.pointer (some ⟨b,0,none⟩)],rfl,enters_of Tryz.func64 (by kernel_rfl) rfl,fun c W hc hW=>by
  have c0:W.cell? ⟨b,0,none⟩=some (.int .i64 n):=cell_of (i:=0) ((hW.block _ (ae hb)).trans hb) rfl
  unfold eD at hc
  obtain ⟨hc1,hc2⟩:=hc
  unfold maxLen at hn
  simp only [List.append_toArray,Iz,List.nil_append]
  go_enter Tryz.func64,Tryz.ntmps64
  go_wp2
  go_ret
  exact ⟨by first | rfl | (congr 2; go_num),He _ _⟩⟩
theorem tB (ts:List (List Int)) (p:Pl) (ih:∀ r ∈ p.ks,gE ts r) (hk:p.k=4):∀ (S:Nat→Prop) (x:Ex) (xa:Option Addr) (xc:Nat) (q:Pw) (o:Nat) (ca:Option Addr) (cc:Nat) (na:Option Addr) (nc:Nat) (w:World),bQ x=false→dz eD x→eV ts p→dD S w xa x.ks→fA ts S w p q ca na →
 Calls Tryz.prog 37 #[iY x.k x.v x.c xa x.ks.length xc,cH ts p q o ca cc na nc] w fun e w'=>∃ v,e = .returned v∧aT ts (eA S w) w' v (az bK ts p x)∧Below w.heap.size w w':=by
 intro S x xa xc q o ca cc na nc w ht hw hsh hx hp;have hl:=(jY hsh).2 (by omega);obtain ⟨cl,hcl⟩:∃ cl,(aj ts p).length=cl:=⟨_,rfl⟩
 have HCL:Hid ((aj ts p).length=cl):=hcl;have HL:Hid (p.ks.length=2):=hl;obtain ⟨n,hn⟩:∃ n:Nat,(aj ts (p.ks.getD 0 p)).length=n:=⟨_,rfl⟩
 have HN:Hid (∀ h:0<p.ks.length,(aj ts p.ks[0]).length=n):=fun h=>by
  rw [← hn,List.getD_eq_getElem?_getD,H4 h,Option.getD_some]
 obtain ⟨rp,hrp⟩:∃ rp,az bK ts p x=rp:=⟨_,rfl⟩
 have HRP0:Hid (az bK ts p x=rp):=hrp;obtain ⟨fi,hfi⟩:∃ fi,lE (fun c=>decide (c<(n:Int))) x=fi:=⟨_,rfl⟩
 obtain ⟨se,hse⟩:∃ se,lE (fun c=>decide ((n:Int)≤c)) x=se:=⟨_,rfl⟩
 have cfi:dM (fun c=>decide ((n:Int)≤c)) x = !fi:=by
  rw [← hfi,sY _ x hw,Bool.not_not]
  congr 1
  funext c
  rw [← decide_not]
  congr 1
  exact propext Int.not_lt.symm
 have cse:dM (fun c=>decide (c<(n:Int))) x = !se:=by
  rw [← hse,sY _ x hw,Bool.not_not]
  congr 1
  funext c
  rw [← decide_not]
  congr 1
  exact propext Int.not_le.symm
 have ERP:Hid (rp=if se=false then Pl.mk p.k p.n p.x p.xs p.gs (p.ks.set 0 (az bK ts (p.ks.getD 0 p) x)) else if fi=false then Pl.mk p.k p.n p.x p.xs p.gs (p.ks.set 1 (az bK ts (p.ks.getD 1 p) (lu n x))) else km ts x p):=by
  show _=_;rw [← hrp];obtain ⟨k,m,z,xs,gs,ks⟩:=p;simp only [Pl.k] at hk;simp only [Pl.ks] at hl hn
  match ks,hl with
  | [r,s],_ =>
   subst hk;have hn':(aj ts r).length=n:=hn;rw [az,if_neg (by rw [ht]; decide),if_neg (by decide),if_neg (by decide),if_neg (by decide),if_pos rfl,jc,hn',cse,cfi];cases se with
   | false=>simp only [Bool.not_false,if_true]; rfl
   | true =>
    cases fi with
    | false=>simp [jz,dF,Pl.ks,Pl.k,Pl.n,Pl.x,Pl.xs,Pl.gs]
    | true =>
     simp only [Bool.not_true,if_neg (show ¬ (false=true) by decide),if_neg (show ¬ (true=false) by decide)];unfold km bK da;rw [aj];simp only [decide_eq_true_eq];rfl
 have HWB:Hid (fi=false→dz eD (lu n x)):=fun h=>xe (by omega) x hw (by rw [cfi,h]; rfl)
 rw [hrp];unfold cH bL;rw [hcl,hl];clear hcl hrp hn hl cfi cse ht hk;have A:Below w.heap.size w (((w.alloc (.cells (aW x xa xc) 27)).alloc (.cells (aJ p q o ca cl cc na 2 nc) 50)).alloc (.cells aH 50)):=((((He w.heap.size w).alloc (Hd _) (.cells (aW x xa xc) 27)).alloc (by simp only [Hg]; omega) (.cells (aJ p q o ca cl cc na 2 nc) 50)).alloc (by simp only [Hg]; omega) (.cells aH 50))
 have Z:w.heap.size+3≤(((w.alloc (.cells (aW x xa xc) 27)).alloc (.cells (aJ p q o ca cl cc na 2 nc) 50)).alloc (.cells aH 50)).heap.size:=by simp only [Hg]; omega
 have Q0:(((w.alloc (.cells (aW x xa xc) 27)).alloc (.cells (aJ p q o ca cl cc na 2 nc) 50)).alloc (.cells aH 50)).heap[w.heap.size]? = some (.cells (aW x xa xc) 27 (0,0)):=by
  rw [aD _ _ (by simp only [Hg]; omega),aD _ _ (by simp only [Hg]; omega)];exact aw w (aW x xa xc) 27 rfl
 have Q1:(((w.alloc (.cells (aW x xa xc) 27)).alloc (.cells (aJ p q o ca cl cc na 2 nc) 50)).alloc (.cells aH 50)).heap[w.heap.size+1]? = some (.cells (aJ p q o ca cl cc na 2 nc) 50 (0,0)):=by
  rw [aD _ _ (by simp only [Hg]; omega)];exact aw (w.alloc (.cells (aW x xa xc) 27)) (aJ p q o ca cl cc na 2 nc) 50 (by simp only [Hg])
 have Q2:(((w.alloc (.cells (aW x xa xc) 27)).alloc (.cells (aJ p q o ca cl cc na 2 nc) 50)).alloc (.cells aH 50)).heap[w.heap.size+2]? = some (.cells aH 50 (0,0)):=by
  exact aw ((w.alloc (.cells (aW x xa xc) 27)).alloc (.cells (aJ p q o ca cl cc na 2 nc) 50)) aH 50 (by simp only [Hg])
 have HX:Hid (dD S w xa x.ks):=hx;have HP:Hid (fA ts S w p q ca na):=hp;have HW:Hid (dz eD x∧eV ts p):=⟨hw,hsh⟩
 have IH:Hid (∀ r ∈ p.ks,gE ts r):=ih;clear hx hp hw hsh ih;go_enter Tryz.func37,Tryz.ntmps37;go_upto_region 1 with fail
 generalize (((w.alloc (.cells (aW x xa xc) 27)).alloc (.cells (aJ p q o ca cl cc na 2 nc) 50)).alloc (.cells aH 50))=w3 at *;obtain ⟨b,off,q1,o1,ca1,cc1,na1,nc1,rfl,_,hbl,hAt,hB1⟩:=(HP.out.kids.next (ah.of A)).elem (i:=0) (by rw [HL.out]; decide);have hn16:n≤maxLen:=by rw [← HN.out (by rw [HL.out]; decide)]; exact hB1.af.1
 clear hB1;unfold bL at hAt;rw [HN.out] at hAt;have e11:w3.cell? ⟨b,off+11,none⟩=some (.slice ca1 n cc1):=hAt 11 _ rfl;have n12:w3.cell? ⟨w.heap.size+1,12,none⟩=some (.slice (some ⟨b,off,none⟩) 2 nc):=cell_of (i:=12) Q1 rfl;have al:=aa w3 (.cells #[.int .i64 n] 3);have QA:=an w3 #[.int .i64 n] 3;go_upto_region 2 with fail
 clear hAt e11 n12;generalize hw3a:w3.alloc (.cells #[.int .i64 n] 3)=wa at *;clear hw3a;have Aa:=chain A al;have Q0a:=(al.block _ (ae Q0)).trans Q0;have Q1a:=(al.block _ (ae Q1)).trans Q1;have Q2a:=(al.block _ (ae Q2)).trans Q2;have con:=AY (P:=eD) x n xa xc wa HW.out.1 (HX.out.next (ah.of Aa)).ks;rw [hfi,hse] at con;clear hfi hse;obtain ⟨x0,x1,x2,x3,x4,x5⟩:=cU Q0a;have ha0:wa.cell? ⟨w3.heap.size,0,none⟩=some (.int .i64 n):=cell_of (i:=0) QA rfl;go_wp2_with fail
 refine con.mono ?_;rintro e w4 ⟨rfl,hb4⟩;clear con x0 x1 x2 x3 x4 x5 ha0;have A4:=chain Aa hb4;have Q04:=(hb4.block _ (ae Q0a)).trans Q0a;have Q14:=(hb4.block _ (ae Q1a)).trans Q1a;have Q24:=(hb4.block _ (ae Q2a)).trans Q2a;have QA4:=(hb4.block _ (ae QA)).trans QA;have lA:=ae QA4;have l4:w.heap.size+3≤w4.heap.size:=by have:=hb4.size; have:=al.size; omega
 clear Q0 Q1 Q2 Q0a Q1a Q2a QA A Aa al hb4;dsimp only;cases se with
 | false =>
  have hrp:rp=Pl.mk p.k p.n p.x p.xs p.gs (p.ks.set 0 (az bK ts (p.ks.getD 0 p) x)):=by rw [ERP.out,if_pos rfl]
  have HRP:Hid (Pl.mk p.k p.n p.x p.xs p.gs (p.ks.set 0 (az bK ts (p.ks.getD 0 p) x))=rp):=hrp.symm;clear hrp ERP HRP0;go_upto_region 4 with fail
  have hCC:∀ W W':World,(W.heap[w.heap.size]? = some (.cells (aW x xa xc) 27 (0,0))∧W.heap[w.heap.size+1]? = some (.cells (aJ p q o ca cl cc (some ⟨b,off,none⟩) 2 nc) 50 (0,0)))→Below W.heap.size W W'→(W'.heap[w.heap.size]? = some (.cells (aW x xa xc) 27 (0,0))∧W'.heap[w.heap.size+1]? = some (.cells (aJ p q o ca cl cc (some ⟨b,off,none⟩) 2 nc) 50 (0,0))):=fun W W' h hb=>⟨(hb.block _ (ae h.1)).trans h.1,(hb.block _ (ae h.2)).trans h.2⟩
  have hdr:Below w4.heap.size w4 w4.drew:=(He _ _).drew;have CW:=hCC _ _ ⟨Q04,Q14⟩ hdr;refine aG (fun W=>W.heap[w.heap.size]? = some (.cells (aW x xa xc) 27 (0,0))∧W.heap[w.heap.size+1]? = some (.cells (aJ p q o ca cl cc (some ⟨b,off,none⟩) 2 nc) 50 (0,0))) (by kernel_rfl) ?_;refine ab hCC 24 (i:=0) (v:=.agg (aJ p q o ca cl cc (some ⟨b,off,none⟩) 2 nc)) (fun n hn=>?_) CW ?_
  ·have hc0:n.cell? ⟨w.heap.size+1,0,none⟩=some (.int .i64 p.k):=cell_of (i:=0) hn.2 rfl;have hc1:n.cell? ⟨w.heap.size+1,1,none⟩=some (.int .i64 p.n):=cell_of (i:=1) hn.2 rfl;have hc2:n.cell? ⟨w.heap.size+1,2,none⟩=some (.int .i64 p.x.k):=cell_of (i:=2) hn.2 rfl;have hc3:n.cell? ⟨w.heap.size+1,3,none⟩=some (.int .i64 p.x.v.1):=cell_of (i:=3) hn.2 rfl;have hc4:n.cell? ⟨w.heap.size+1,4,none⟩=some (.int .i64 p.x.v.2.1):=cell_of (i:=4) hn.2 rfl;have hc5:n.cell? ⟨w.heap.size+1,5,none⟩=some (.string p.x.v.2.2):=cell_of (i:=5) hn.2 rfl
   have hc6:n.cell? ⟨w.heap.size+1,6,none⟩=some (.int .i64 p.x.c):=cell_of (i:=6) hn.2 rfl;have hc7:n.cell? ⟨w.heap.size+1,7,none⟩=some (.slice q.xa p.x.ks.length q.xc):=cell_of (i:=7) hn.2 rfl;have hc8:n.cell? ⟨w.heap.size+1,8,none⟩=some (.slice q.sa p.xs.length q.sc):=cell_of (i:=8) hn.2 rfl;have hc9:n.cell? ⟨w.heap.size+1,9,none⟩=some (.slice q.ga p.gs.length q.gc):=cell_of (i:=9) hn.2 rfl;have hc10:n.cell? ⟨w.heap.size+1,10,none⟩=some (.slice q.ka o q.kc):=cell_of (i:=10) hn.2 rfl;have hc11:n.cell? ⟨w.heap.size+1,11,none⟩=some (.slice ca cl cc):=cell_of (i:=11) hn.2 rfl
   have hc12:n.cell? ⟨w.heap.size+1,12,none⟩=some (.slice (some ⟨b,off,none⟩) 2 nc):=cell_of (i:=12) hn.2 rfl;go_simp
  simp only [Act.put,pA,pB,pC];refine ab hCC 25 (i:=1) (v:=.agg (aW x xa xc)) (fun n hn=>?_) CW ?_
  ·have hc0:n.cell? ⟨w.heap.size,0,none⟩=some (.int .i64 x.k):=cell_of (i:=0) hn.1 rfl;have hc1:n.cell? ⟨w.heap.size,1,none⟩=some (.int .i64 x.v.1):=cell_of (i:=1) hn.1 rfl;have hc2:n.cell? ⟨w.heap.size,2,none⟩=some (.int .i64 x.v.2.1):=cell_of (i:=2) hn.1 rfl;have hc3:n.cell? ⟨w.heap.size,3,none⟩=some (.string x.v.2.2):=cell_of (i:=3) hn.1 rfl;have hc4:n.cell? ⟨w.heap.size,4,none⟩=some (.int .i64 x.c):=cell_of (i:=4) hn.1 rfl;have hc5:n.cell? ⟨w.heap.size,5,none⟩=some (.slice xa x.ks.length xc):=cell_of (i:=5) hn.1 rfl;go_simp
  simp only [Act.put,pA,pB,pC];refine au (rs:=[2]) (by kernel_rfl) (by simp) ?_;intro w5 hb5 jj hj;obtain rfl:jj=2:=by simpa using hj
  clear hj;have A5:=chain A4 (chain hdr hb5);have CW5:=hCC _ _ CW hb5;have QR5:=((chain hdr hb5).block _ (ae Q24)).trans Q24;have con:=iW x xa xc w5;refine wpOp_step rfl (fun K hK=>?_);go_simp;refine con.mono ?_;rintro e w6 ⟨rfl,QS6,hb6⟩;have CW6:=hCC _ _ CW5 hb6;refine hK _ _ ⟨CW6,?_⟩;clear hK K con CW CW5;refine au (rs:=[3]) (by kernel_rfl) (by simp) ?_;intro w7 hb7 jj hj;obtain rfl:jj=3:=by simpa using hj
  clear hj;have A7:=chain A5 (chain hb6 hb7);have CW7:=hCC _ _ CW6 hb7;have QS7:=(hb7.block _ (ae QS6)).trans QS6;have QR7:=((chain hb6 hb7).block _ (ae QR5)).trans QR5;have lr7:=ae QR7;clear CW6 QS6 QR5;have HXO:dD (Old (Old S w) w7) w7 xa x.ks:=(HX.out.mono fun b h l=>⟨⟨h,l⟩,Hi l A7.size⟩).next (ah.of A7);have hfn:=ja ts (Old (Old S w) w7) x xa xc w5.heap.size p.ks w7 (fun r hr=>⟨IH.out r hr,eJ HW.out.2 r hr⟩) HW.out.1 QS7 HXO
  have con:=nP ts (Old S w) (fun r=>az bK ts r x) _ p q o ca cc (some ⟨b,off,none⟩) nc w7 0 hfn ((HP.out.mono fun b h l=>⟨h,l⟩).next (ah.of A7)) HL.out (by decide) (pc x HW.out.2 (by rw [HL.out]; decide));clear hfn HXO;unfold cH bL at con;rw [HCL.out,HL.out] at con;refine wpOp_step rfl (fun K hK=>?_);go_simp;refine con.mono ?_;rintro e w8 ⟨v8,rfl,N8,hb8⟩;clear con;obtain ⟨q2,o2,ca2,cc2,na2,nc2,rfl,B8⟩:=N8;obtain ⟨F,hF⟩:∃ F,Pl.mk p.k p.n p.x p.xs p.gs (p.ks.set 0 (az bK ts (p.ks.getD 0 p) x))=F:=⟨_,rfl⟩
  rw [hF] at B8 ⊢;obtain ⟨cl2,hcl2⟩:∃ cl2,(aj ts F).length=cl2:=⟨_,rfl⟩
  have HCL2:Hid ((aj ts F).length=cl2):=hcl2;have HRF:Hid (rp=F):=by show _=_; rw [← hF,HRP.out]
  unfold cH bL;rw [hcl2];clear hcl2 hF;have CW8:=hCC _ _ CW7 hb8;refine hK _ _ ⟨CW8,?_⟩;clear hK K CW7;refine au (rs:=[4]) (by kernel_rfl) (by simp) ?_;intro w9 hb9 jj hj;obtain rfl:jj=4:=by simpa using hj
  clear hj;have A9:=chain A7 (chain hb8 hb9);have CW9:=hCC _ _ CW8 hb9;have QR9:=((chain hb8 hb9).block _ (ae QR7)).trans QR7;have B9:=B8.next (ah.of hb9);clear CW8 B8;obtain ⟨y0,y1,y2,y3,y4,y5,y6,y7,y8,y9,y10,y11,y12⟩:=aB QR9;obtain ⟨yf0,yf1,yf2,yf3,yf4,yf5,yf6,yf7,yf8,yf9,yf10,yf11,yf12⟩:=cL QR9;refine wpOp_step rfl (fun K hK=>?_);go_simp
  have AP:Below w.heap.size w (df w9 (w.heap.size+2) F q2 o2 ca2 cl2 cc2 na2 F.ks.length nc2):=(bf (g:=w.heap.size+2) A9 (by omega) (.int .i64 F.k) (.int .i64 F.n) (.int .i64 F.x.k) (.int .i64 F.x.v.1) (.int .i64 F.x.v.2.1) (.string F.x.v.2.2) (.int .i64 F.x.c) (.slice q2.xa F.x.ks.length q2.xc) (.slice q2.sa F.xs.length q2.sc) (.slice q2.ga F.gs.length q2.gc) (.slice q2.ka o2 q2.kc) (.slice ca2 cl2 cc2) (.slice na2 F.ks.length nc2))
  have KP:ah (eA (Old S w) w7) w9 (df w9 (w.heap.size+2) F q2 o2 ca2 cl2 cc2 na2 F.ks.length nc2):=(bC (g:=w.heap.size+2) (ah.refl _ w9) (cD (by omega) (by omega)) (.int .i64 F.k) (.int .i64 F.n) (.int .i64 F.x.k) (.int .i64 F.x.v.1) (.int .i64 F.x.v.2.1) (.string F.x.v.2.2) (.int .i64 F.x.c) (.slice q2.xa F.x.ks.length q2.xc) (.slice q2.sa F.xs.length q2.sc) (.slice q2.ga F.gs.length q2.gc) (.slice q2.ka o2 q2.kc) (.slice ca2 cl2 cc2) (.slice na2 F.ks.length nc2))
  have QE:(df w9 (w.heap.size+2) F q2 o2 ca2 cl2 cc2 na2 F.ks.length nc2).heap[w.heap.size+2]? = some (.cells (aJ F q2 o2 ca2 cl2 cc2 na2 F.ks.length nc2) 50 (0,0)):=(bw (g:=w.heap.size+2) QR9 (.int .i64 F.k) (.int .i64 F.n) (.int .i64 F.x.k) (.int .i64 F.x.v.1) (.int .i64 F.x.v.2.1) (.string F.x.v.2.2) (.int .i64 F.x.c) (.slice q2.xa F.x.ks.length q2.xc) (.slice q2.sa F.xs.length q2.sc) (.slice q2.ga F.gs.length q2.gc) (.slice q2.ka o2 q2.kc) (.slice ca2 cl2 cc2) (.slice na2 F.ks.length nc2))
  have CWE:(df w9 (w.heap.size+2) F q2 o2 ca2 cl2 cc2 na2 F.ks.length nc2).heap[w.heap.size]? = some (.cells (aW x xa xc) 27 (0,0))∧(df w9 (w.heap.size+2) F q2 o2 ca2 cl2 cc2 na2 F.ks.length nc2).heap[w.heap.size+1]? = some (.cells (aJ p q o ca cl cc (some ⟨b,off,none⟩) 2 nc) 50 (0,0)):=⟨(gj (g:=w.heap.size+2) CW9.1 (by omega) (.int .i64 F.k) (.int .i64 F.n) (.int .i64 F.x.k) (.int .i64 F.x.v.1) (.int .i64 F.x.v.2.1) (.string F.x.v.2.2) (.int .i64 F.x.c) (.slice q2.xa F.x.ks.length q2.xc) (.slice q2.sa F.xs.length q2.sc) (.slice q2.ga F.gs.length q2.gc) (.slice q2.ka o2 q2.kc) (.slice ca2 cl2 cc2) (.slice na2 F.ks.length nc2)),(gj (g:=w.heap.size+2) CW9.2 (by omega) (.int .i64 F.k) (.int .i64 F.n) (.int .i64 F.x.k) (.int .i64 F.x.v.1) (.int .i64 F.x.v.2.1) (.string F.x.v.2.2) (.int .i64 F.x.c) (.slice q2.xa F.x.ks.length q2.xc) (.slice q2.sa F.xs.length q2.sc) (.slice q2.ga F.gs.length q2.gc) (.slice q2.ka o2 q2.kc) (.slice ca2 cl2 cc2) (.slice na2 F.ks.length nc2))⟩
  refine hK _ _ ⟨CWE,?_⟩;clear hK K CWE CW9 y0 yf0 y1 yf1 y2 yf2 y3 yf3 y4 yf4 y5 yf5 y6 yf6 y7 yf7 y8 yf8 y9 yf9 y10 yf10 y11 yf11 y12 yf12;unfold df at AP KP QE
  generalize (((((((((((((w9.setCell ⟨w.heap.size+2,0,none⟩ (.int .i64 F.k)).setCell ⟨w.heap.size+2,1,none⟩ (.int .i64 F.n)).setCell ⟨w.heap.size+2,2,none⟩ (.int .i64 F.x.k)).setCell ⟨w.heap.size+2,3,none⟩ (.int .i64 F.x.v.1)).setCell ⟨w.heap.size+2,4,none⟩ (.int .i64 F.x.v.2.1)).setCell ⟨w.heap.size+2,5,none⟩ (.string F.x.v.2.2)).setCell ⟨w.heap.size+2,6,none⟩ (.int .i64 F.x.c)).setCell ⟨w.heap.size+2,7,none⟩ (.slice q2.xa F.x.ks.length q2.xc)).setCell ⟨w.heap.size+2,8,none⟩ (.slice q2.sa F.xs.length q2.sc)).setCell ⟨w.heap.size+2,9,none⟩ (.slice q2.ga F.gs.length q2.gc)).setCell ⟨w.heap.size+2,10,none⟩ (.slice q2.ka o2 q2.kc)).setCell ⟨w.heap.size+2,11,none⟩ (.slice ca2 cl2 cc2)).setCell ⟨w.heap.size+2,12,none⟩ (.slice na2 F.ks.length nc2))=w10 at *
  refine bd (by kernel_rfl) ?_;intro w11 hb11;have A11:=chain AP hb11;have QE11:=(hb11.block _ (ae QE)).trans QE;have FIN:aT ts (eA S w) w11 (.agg (aJ F q2 o2 ca2 cl2 cc2 na2 F.ks.length nc2)) F:=by
   refine ⟨q2,o2,ca2,cc2,na2,nc2,by unfold cH bL; rw [HCL2.out],((B9.next KP).next (ah.of hb11)).mono fun b h _=>?_⟩;rcases h with h | h
   ·exact .inl h.1
   ·exact .inr (by have:=A7.size; omega)
  obtain ⟨r0,r1,r2,r3,r4,r5,r6,r7,r8,r9,r10,r11,r12⟩:=aB QE11;go_wp2
  exact Hf (v:=.agg (aJ F q2 o2 ca2 cl2 cc2 na2 F.ks.length nc2)) (by simp [results,Tryz.results37,go_sem,r0,r1,r2,r3,r4,r5,r6,r7,r8,r9,r10,r11,r12]) rfl ⟨_,rfl,by rw [HRF.out]; exact FIN,A11⟩
 | true =>
  cases fi with
  | true =>
   have hrp:rp=km ts x p:=by rw [ERP.out,if_neg (by decide),if_neg (by decide)]
   have HRP:Hid (km ts x p=rp):=hrp.symm;clear hrp ERP HRP0;have con:=mW ts (Old S w) x xa xc p q o ca cc (some ⟨b,off,none⟩) nc w4 ((HX.out.mono fun b h l=>⟨h,l⟩).next (ah.of A4)) ((HP.out.mono fun b h l=>⟨h,l⟩).next (ah.of A4));unfold cH bL at con;rw [HCL.out,HL.out] at con;obtain ⟨x0,x1,x2,x3,x4,x5⟩:=cU Q04;obtain ⟨n0,n1,n2,n3,n4,n5,n6,n7,n8,n9,n10,n11,n12⟩:=aB Q14;go_wp2_with fail
   refine con.mono ?_;clear x0 x1 x2 x3 x4 x5 n0 n1 n2 n3 n4 n5 n6 n7 n8 n9 n10 n11 n12;rintro e w7 ⟨v7,rfl,N7,hb7⟩;clear con;have A7:=chain A4 hb7;have QR7:=(hb7.block _ (ae Q24)).trans Q24;have lr6:=ae Q24;obtain ⟨q2,o2,ca2,cc2,na2,nc2,rfl,B7⟩:=N7;generalize hF:km ts x p=F at *;obtain ⟨cl2,hcl2⟩:∃ cl2,(aj ts F).length=cl2:=⟨_,rfl⟩
   have HCL2:Hid ((aj ts F).length=cl2):=hcl2;unfold cH bL;rw [hcl2];clear hcl2 hF;obtain ⟨y0,y1,y2,y3,y4,y5,y6,y7,y8,y9,y10,y11,y12⟩:=aB QR7;obtain ⟨yf0,yf1,yf2,yf3,yf4,yf5,yf6,yf7,yf8,yf9,yf10,yf11,yf12⟩:=cL QR7;go_wp2_with fail
   have AP:Below w.heap.size w (df w7 (w.heap.size+2) F q2 o2 ca2 cl2 cc2 na2 F.ks.length nc2):=(bf (g:=w.heap.size+2) A7 (by omega) (.int .i64 F.k) (.int .i64 F.n) (.int .i64 F.x.k) (.int .i64 F.x.v.1) (.int .i64 F.x.v.2.1) (.string F.x.v.2.2) (.int .i64 F.x.c) (.slice q2.xa F.x.ks.length q2.xc) (.slice q2.sa F.xs.length q2.sc) (.slice q2.ga F.gs.length q2.gc) (.slice q2.ka o2 q2.kc) (.slice ca2 cl2 cc2) (.slice na2 F.ks.length nc2))
   have KP:ah (eA (Old S w) w4) w7 (df w7 (w.heap.size+2) F q2 o2 ca2 cl2 cc2 na2 F.ks.length nc2):=(bC (g:=w.heap.size+2) (ah.refl _ w7) (cD (by omega) (by omega)) (.int .i64 F.k) (.int .i64 F.n) (.int .i64 F.x.k) (.int .i64 F.x.v.1) (.int .i64 F.x.v.2.1) (.string F.x.v.2.2) (.int .i64 F.x.c) (.slice q2.xa F.x.ks.length q2.xc) (.slice q2.sa F.xs.length q2.sc) (.slice q2.ga F.gs.length q2.gc) (.slice q2.ka o2 q2.kc) (.slice ca2 cl2 cc2) (.slice na2 F.ks.length nc2))
   have QE:(df w7 (w.heap.size+2) F q2 o2 ca2 cl2 cc2 na2 F.ks.length nc2).heap[w.heap.size+2]? = some (.cells (aJ F q2 o2 ca2 cl2 cc2 na2 F.ks.length nc2) 50 (0,0)):=(bw (g:=w.heap.size+2) QR7 (.int .i64 F.k) (.int .i64 F.n) (.int .i64 F.x.k) (.int .i64 F.x.v.1) (.int .i64 F.x.v.2.1) (.string F.x.v.2.2) (.int .i64 F.x.c) (.slice q2.xa F.x.ks.length q2.xc) (.slice q2.sa F.xs.length q2.sc) (.slice q2.ga F.gs.length q2.gc) (.slice q2.ka o2 q2.kc) (.slice ca2 cl2 cc2) (.slice na2 F.ks.length nc2))
   clear y0 yf0 y1 yf1 y2 yf2 y3 yf3 y4 yf4 y5 yf5 y6 yf6 y7 yf7 y8 yf8 y9 yf9 y10 yf10 y11 yf11 y12 yf12;unfold df at AP KP QE
   generalize (((((((((((((w7.setCell ⟨w.heap.size+2,0,none⟩ (.int .i64 F.k)).setCell ⟨w.heap.size+2,1,none⟩ (.int .i64 F.n)).setCell ⟨w.heap.size+2,2,none⟩ (.int .i64 F.x.k)).setCell ⟨w.heap.size+2,3,none⟩ (.int .i64 F.x.v.1)).setCell ⟨w.heap.size+2,4,none⟩ (.int .i64 F.x.v.2.1)).setCell ⟨w.heap.size+2,5,none⟩ (.string F.x.v.2.2)).setCell ⟨w.heap.size+2,6,none⟩ (.int .i64 F.x.c)).setCell ⟨w.heap.size+2,7,none⟩ (.slice q2.xa F.x.ks.length q2.xc)).setCell ⟨w.heap.size+2,8,none⟩ (.slice q2.sa F.xs.length q2.sc)).setCell ⟨w.heap.size+2,9,none⟩ (.slice q2.ga F.gs.length q2.gc)).setCell ⟨w.heap.size+2,10,none⟩ (.slice q2.ka o2 q2.kc)).setCell ⟨w.heap.size+2,11,none⟩ (.slice ca2 cl2 cc2)).setCell ⟨w.heap.size+2,12,none⟩ (.slice na2 F.ks.length nc2))=w8 at *
   have FIN:aT ts (eA S w) w8 (.agg (aJ F q2 o2 ca2 cl2 cc2 na2 F.ks.length nc2)) F:=by
    refine ⟨q2,o2,ca2,cc2,na2,nc2,by unfold cH bL; rw [HCL2.out],(B7.next KP).mono fun b h _=>?_⟩;rcases h with h | h
    ·exact .inl h.1
    ·exact .inr (by have:=A4.size; omega)
   obtain ⟨r0,r1,r2,r3,r4,r5,r6,r7,r8,r9,r10,r11,r12⟩:=aB QE;exact Hf (v:=.agg (aJ F q2 o2 ca2 cl2 cc2 na2 F.ks.length nc2)) (by simp [results,Tryz.results37,go_sem,r0,r1,r2,r3,r4,r5,r6,r7,r8,r9,r10,r11,r12]) rfl ⟨_,rfl,by rw [← HRP.out]; exact FIN,AP⟩
  | false =>
   have con:=j0 (fun c=>c - n) eD x (.func (.func 64) #[] #[.pointer (some ⟨w3.heap.size,0,none⟩)]) xa xc w4 (Dl n hn16 w3.heap.size w4 QA4) HW.out.1 (HX.out.next (ah.of A4)).ks;obtain ⟨y,hy⟩:∃ y,il (fun c=>c - n) x=y:=⟨_,rfl⟩
   rw [hy] at con;have hrp:rp=Pl.mk p.k p.n p.x p.xs p.gs (p.ks.set 1 (az bK ts (p.ks.getD 1 p) y)):=by rw [ERP.out,if_neg (by decide),if_pos rfl]; unfold lu; rw [hy]
   have HWY:Hid (dz eD y):=by rw [← hy]; exact HWB.out rfl
   have HRP:Hid (Pl.mk p.k p.n p.x p.xs p.gs (p.ks.set 1 (az bK ts (p.ks.getD 1 p) y))=rp):=hrp.symm;clear hrp ERP HRP0 HWB hy;obtain ⟨x0,x1,x2,x3,x4,x5⟩:=cU Q04;go_upto_region 6 with fail
   go_wp2_with fail
   refine con.mono ?_;rintro e w8 ⟨ya,yc,rfl,KY,hb8⟩;clear con x0 x1 x2 x3 x4 x5;have A8:=chain A4 hb8;have alm:=aa w8 (.cells (aW y ya yc) 27);have Qm:=an w8 (aW y ya yc) 27;have Am:=chain A8 alm;have Q1m:=((chain hb8 alm).block _ (ae Q14)).trans Q14;have Q2m:=((chain hb8 alm).block _ (ae Q24)).trans Q24;have KY:=(KY.next (ah.of alm)).mono (S':=fun b=>w.heap.size+3≤b) fun b h _=>by omega
   clear Q04 Q14 Q24 QA4 A4 A8;have lbm:w.heap.size+3≤w8.heap.size:=by have:=hb8.size; omega
   go_upto_region 7 with fail
   generalize w8.alloc (.cells (aW y ya yc) 27)=wm at *;clear alm hb8;generalize w8.heap.size=bm at *;have hCC:∀ W W':World,(W.heap[bm]? = some (.cells (aW y ya yc) 27 (0,0))∧W.heap[w.heap.size+1]? = some (.cells (aJ p q o ca cl cc (some ⟨b,off,none⟩) 2 nc) 50 (0,0)))→Below W.heap.size W W'→(W'.heap[bm]? = some (.cells (aW y ya yc) 27 (0,0))∧W'.heap[w.heap.size+1]? = some (.cells (aJ p q o ca cl cc (some ⟨b,off,none⟩) 2 nc) 50 (0,0))):=fun W W' h hb=>⟨(hb.block _ (ae h.1)).trans h.1,(hb.block _ (ae h.2)).trans h.2⟩
   have hdr:Below wm.heap.size wm wm.drew:=(He _ _).drew;have CW:=hCC _ _ ⟨Qm,Q1m⟩ hdr;refine aG (fun W=>W.heap[bm]? = some (.cells (aW y ya yc) 27 (0,0))∧W.heap[w.heap.size+1]? = some (.cells (aJ p q o ca cl cc (some ⟨b,off,none⟩) 2 nc) 50 (0,0))) (by kernel_rfl) ?_;refine ab hCC 34 (i:=0) (v:=.agg (aJ p q o ca cl cc (some ⟨b,off,none⟩) 2 nc)) (fun n hn=>?_) CW ?_
   ·have hc0:n.cell? ⟨w.heap.size+1,0,none⟩=some (.int .i64 p.k):=cell_of (i:=0) hn.2 rfl;have hc1:n.cell? ⟨w.heap.size+1,1,none⟩=some (.int .i64 p.n):=cell_of (i:=1) hn.2 rfl;have hc2:n.cell? ⟨w.heap.size+1,2,none⟩=some (.int .i64 p.x.k):=cell_of (i:=2) hn.2 rfl;have hc3:n.cell? ⟨w.heap.size+1,3,none⟩=some (.int .i64 p.x.v.1):=cell_of (i:=3) hn.2 rfl;have hc4:n.cell? ⟨w.heap.size+1,4,none⟩=some (.int .i64 p.x.v.2.1):=cell_of (i:=4) hn.2 rfl;have hc5:n.cell? ⟨w.heap.size+1,5,none⟩=some (.string p.x.v.2.2):=cell_of (i:=5) hn.2 rfl
    have hc6:n.cell? ⟨w.heap.size+1,6,none⟩=some (.int .i64 p.x.c):=cell_of (i:=6) hn.2 rfl;have hc7:n.cell? ⟨w.heap.size+1,7,none⟩=some (.slice q.xa p.x.ks.length q.xc):=cell_of (i:=7) hn.2 rfl;have hc8:n.cell? ⟨w.heap.size+1,8,none⟩=some (.slice q.sa p.xs.length q.sc):=cell_of (i:=8) hn.2 rfl;have hc9:n.cell? ⟨w.heap.size+1,9,none⟩=some (.slice q.ga p.gs.length q.gc):=cell_of (i:=9) hn.2 rfl;have hc10:n.cell? ⟨w.heap.size+1,10,none⟩=some (.slice q.ka o q.kc):=cell_of (i:=10) hn.2 rfl;have hc11:n.cell? ⟨w.heap.size+1,11,none⟩=some (.slice ca cl cc):=cell_of (i:=11) hn.2 rfl
    have hc12:n.cell? ⟨w.heap.size+1,12,none⟩=some (.slice (some ⟨b,off,none⟩) 2 nc):=cell_of (i:=12) hn.2 rfl;go_simp
   simp only [Act.put,pA,pB,pC];refine ab hCC 35 (i:=1) (v:=.agg (aW y ya yc)) (fun n hn=>?_) CW ?_
   ·have hc0:n.cell? ⟨bm,0,none⟩=some (.int .i64 y.k):=cell_of (i:=0) hn.1 rfl;have hc1:n.cell? ⟨bm,1,none⟩=some (.int .i64 y.v.1):=cell_of (i:=1) hn.1 rfl;have hc2:n.cell? ⟨bm,2,none⟩=some (.int .i64 y.v.2.1):=cell_of (i:=2) hn.1 rfl;have hc3:n.cell? ⟨bm,3,none⟩=some (.string y.v.2.2):=cell_of (i:=3) hn.1 rfl;have hc4:n.cell? ⟨bm,4,none⟩=some (.int .i64 y.c):=cell_of (i:=4) hn.1 rfl;have hc5:n.cell? ⟨bm,5,none⟩=some (.slice ya y.ks.length yc):=cell_of (i:=5) hn.1 rfl;go_simp
   simp only [Act.put,pA,pB,pC];refine au (rs:=[2]) (by kernel_rfl) (by simp) ?_;intro w5 hb5 jj hj;obtain rfl:jj=2:=by simpa using hj
   clear hj;have A5:=chain Am (chain hdr hb5);have CW5:=hCC _ _ CW hb5;have QR5:=((chain hdr hb5).block _ (ae Q2m)).trans Q2m;have con:=iW y ya yc w5;refine wpOp_step rfl (fun K hK=>?_);go_simp;refine con.mono ?_;rintro e w6 ⟨rfl,QS6,hb6⟩;have CW6:=hCC _ _ CW5 hb6;refine hK _ _ ⟨CW6,?_⟩;clear hK K con CW CW5;refine au (rs:=[3]) (by kernel_rfl) (by simp) ?_;intro w7 hb7 jj hj;obtain rfl:jj=3:=by simpa using hj
   clear hj;have A7:=chain A5 (chain hb6 hb7);have CW7:=hCC _ _ CW6 hb7;have QS7:=(hb7.block _ (ae QS6)).trans QS6;have QR7:=((chain hb6 hb7).block _ (ae QR5)).trans QR5;have lr7:=ae QR7;clear CW6 QS6 QR5;have HXO:dD (Old (fun b=>Old S w b∨w.heap.size+3≤b) w7) w7 ya y.ks:=(((KY.next (ah.of (chain hdr (chain hb5 (chain hb6 hb7))))).mono fun b h l=>⟨.inr h,l⟩))
   have hfn:=ja ts (Old (fun b=>Old S w b∨w.heap.size+3≤b) w7) y ya yc w5.heap.size p.ks w7 (fun r hr=>⟨IH.out r hr,eJ HW.out.2 r hr⟩) HWY.out QS7 HXO;have con:=nP ts (fun b=>Old S w b∨w.heap.size+3≤b) (fun r=>az bK ts r y) _ p q o ca cc (some ⟨b,off,none⟩) nc w7 1 hfn ((HP.out.mono fun b h l=>.inl ⟨h,l⟩).next (ah.of A7)) HL.out (by decide) (pc y HW.out.2 (by rw [HL.out]; decide));clear hfn HXO;unfold cH bL at con;rw [HCL.out,HL.out] at con;refine wpOp_step rfl (fun K hK=>?_);go_simp;refine con.mono ?_;rintro e w8 ⟨v8,rfl,N8,hb8⟩;clear con
   obtain ⟨q2,o2,ca2,cc2,na2,nc2,rfl,B8⟩:=N8;obtain ⟨F,hF⟩:∃ F,Pl.mk p.k p.n p.x p.xs p.gs (p.ks.set 1 (az bK ts (p.ks.getD 1 p) y))=F:=⟨_,rfl⟩
   rw [hF] at B8 ⊢;obtain ⟨cl2,hcl2⟩:∃ cl2,(aj ts F).length=cl2:=⟨_,rfl⟩
   have HCL2:Hid ((aj ts F).length=cl2):=hcl2;have HRF:Hid (rp=F):=by show _=_; rw [← hF,HRP.out]
   unfold cH bL;rw [hcl2];clear hcl2 hF;have CW8:=hCC _ _ CW7 hb8;refine hK _ _ ⟨CW8,?_⟩;clear hK K CW7;refine au (rs:=[4]) (by kernel_rfl) (by simp) ?_;intro w9 hb9 jj hj;obtain rfl:jj=4:=by simpa using hj
   clear hj;have A9:=chain A7 (chain hb8 hb9);have CW9:=hCC _ _ CW8 hb9;have QR9:=((chain hb8 hb9).block _ (ae QR7)).trans QR7;have B9:=B8.next (ah.of hb9);clear CW8 B8;obtain ⟨y0,y1,y2,y3,y4,y5,y6,y7,y8,y9,y10,y11,y12⟩:=aB QR9;obtain ⟨yf0,yf1,yf2,yf3,yf4,yf5,yf6,yf7,yf8,yf9,yf10,yf11,yf12⟩:=cL QR9;refine wpOp_step rfl (fun K hK=>?_);go_simp
   have AP:Below w.heap.size w (df w9 (w.heap.size+2) F q2 o2 ca2 cl2 cc2 na2 F.ks.length nc2):=(bf (g:=w.heap.size+2) A9 (by omega) (.int .i64 F.k) (.int .i64 F.n) (.int .i64 F.x.k) (.int .i64 F.x.v.1) (.int .i64 F.x.v.2.1) (.string F.x.v.2.2) (.int .i64 F.x.c) (.slice q2.xa F.x.ks.length q2.xc) (.slice q2.sa F.xs.length q2.sc) (.slice q2.ga F.gs.length q2.gc) (.slice q2.ka o2 q2.kc) (.slice ca2 cl2 cc2) (.slice na2 F.ks.length nc2))
   have KP:ah (eA (fun b=>Old S w b∨w.heap.size+3≤b) w7) w9 (df w9 (w.heap.size+2) F q2 o2 ca2 cl2 cc2 na2 F.ks.length nc2):=(bC (g:=w.heap.size+2) (ah.refl _ w9) (fun h=>by rcases h with h | h; exact cD (by omega) (by omega) h; omega) (.int .i64 F.k) (.int .i64 F.n) (.int .i64 F.x.k) (.int .i64 F.x.v.1) (.int .i64 F.x.v.2.1) (.string F.x.v.2.2) (.int .i64 F.x.c) (.slice q2.xa F.x.ks.length q2.xc) (.slice q2.sa F.xs.length q2.sc) (.slice q2.ga F.gs.length q2.gc) (.slice q2.ka o2 q2.kc) (.slice ca2 cl2 cc2) (.slice na2 F.ks.length nc2))
   have QE:(df w9 (w.heap.size+2) F q2 o2 ca2 cl2 cc2 na2 F.ks.length nc2).heap[w.heap.size+2]? = some (.cells (aJ F q2 o2 ca2 cl2 cc2 na2 F.ks.length nc2) 50 (0,0)):=(bw (g:=w.heap.size+2) QR9 (.int .i64 F.k) (.int .i64 F.n) (.int .i64 F.x.k) (.int .i64 F.x.v.1) (.int .i64 F.x.v.2.1) (.string F.x.v.2.2) (.int .i64 F.x.c) (.slice q2.xa F.x.ks.length q2.xc) (.slice q2.sa F.xs.length q2.sc) (.slice q2.ga F.gs.length q2.gc) (.slice q2.ka o2 q2.kc) (.slice ca2 cl2 cc2) (.slice na2 F.ks.length nc2))
   have CWE:(df w9 (w.heap.size+2) F q2 o2 ca2 cl2 cc2 na2 F.ks.length nc2).heap[bm]? = some (.cells (aW y ya yc) 27 (0,0))∧(df w9 (w.heap.size+2) F q2 o2 ca2 cl2 cc2 na2 F.ks.length nc2).heap[w.heap.size+1]? = some (.cells (aJ p q o ca cl cc (some ⟨b,off,none⟩) 2 nc) 50 (0,0)):=⟨(gj (g:=w.heap.size+2) CW9.1 (by omega) (.int .i64 F.k) (.int .i64 F.n) (.int .i64 F.x.k) (.int .i64 F.x.v.1) (.int .i64 F.x.v.2.1) (.string F.x.v.2.2) (.int .i64 F.x.c) (.slice q2.xa F.x.ks.length q2.xc) (.slice q2.sa F.xs.length q2.sc) (.slice q2.ga F.gs.length q2.gc) (.slice q2.ka o2 q2.kc) (.slice ca2 cl2 cc2) (.slice na2 F.ks.length nc2)),(gj (g:=w.heap.size+2) CW9.2 (by omega) (.int .i64 F.k) (.int .i64 F.n) (.int .i64 F.x.k) (.int .i64 F.x.v.1) (.int .i64 F.x.v.2.1) (.string F.x.v.2.2) (.int .i64 F.x.c) (.slice q2.xa F.x.ks.length q2.xc) (.slice q2.sa F.xs.length q2.sc) (.slice q2.ga F.gs.length q2.gc) (.slice q2.ka o2 q2.kc) (.slice ca2 cl2 cc2) (.slice na2 F.ks.length nc2))⟩
   refine hK _ _ ⟨CWE,?_⟩;clear hK K CWE CW9 y0 yf0 y1 yf1 y2 yf2 y3 yf3 y4 yf4 y5 yf5 y6 yf6 y7 yf7 y8 yf8 y9 yf9 y10 yf10 y11 yf11 y12 yf12;unfold df at AP KP QE
   generalize (((((((((((((w9.setCell ⟨w.heap.size+2,0,none⟩ (.int .i64 F.k)).setCell ⟨w.heap.size+2,1,none⟩ (.int .i64 F.n)).setCell ⟨w.heap.size+2,2,none⟩ (.int .i64 F.x.k)).setCell ⟨w.heap.size+2,3,none⟩ (.int .i64 F.x.v.1)).setCell ⟨w.heap.size+2,4,none⟩ (.int .i64 F.x.v.2.1)).setCell ⟨w.heap.size+2,5,none⟩ (.string F.x.v.2.2)).setCell ⟨w.heap.size+2,6,none⟩ (.int .i64 F.x.c)).setCell ⟨w.heap.size+2,7,none⟩ (.slice q2.xa F.x.ks.length q2.xc)).setCell ⟨w.heap.size+2,8,none⟩ (.slice q2.sa F.xs.length q2.sc)).setCell ⟨w.heap.size+2,9,none⟩ (.slice q2.ga F.gs.length q2.gc)).setCell ⟨w.heap.size+2,10,none⟩ (.slice q2.ka o2 q2.kc)).setCell ⟨w.heap.size+2,11,none⟩ (.slice ca2 cl2 cc2)).setCell ⟨w.heap.size+2,12,none⟩ (.slice na2 F.ks.length nc2))=w10 at *
   refine bd (by kernel_rfl) ?_;intro w11 hb11;have A11:=chain AP hb11;have QE11:=(hb11.block _ (ae QE)).trans QE;have FIN:aT ts (eA S w) w11 (.agg (aJ F q2 o2 ca2 cl2 cc2 na2 F.ks.length nc2)) F:=by
    refine ⟨q2,o2,ca2,cc2,na2,nc2,by unfold cH bL; rw [HCL2.out],((B9.next KP).next (ah.of hb11)).mono fun b h _=>?_⟩;rcases h with (h | h) | h
    ·exact .inl h.1
    ·exact .inr (by omega)
    ·exact .inr (by have:=A7.size; omega)
   obtain ⟨r0,r1,r2,r3,r4,r5,r6,r7,r8,r9,r10,r11,r12⟩:=aB QE11;go_wp2
   exact Hf (v:=.agg (aJ F q2 o2 ca2 cl2 cc2 na2 F.ks.length nc2)) (by simp [results,Tryz.results37,go_sem,r0,r1,r2,r3,r4,r5,r6,r7,r8,r9,r10,r11,r12]) rfl ⟨_,rfl,by rw [HRF.out]; exact FIN,A11⟩
theorem yU (ts : List (List Int)) (p : Pl) (ih : ∀ r ∈ p.ks, gE ts r) (hk : p.k = 4) : ∀ (S : Nat → Prop) (x : Ex) (xa : Option Addr) (xc : Nat) (q : Pw) (o : Nat) (ca : Option Addr) (cc : Nat) (na : Option Addr) (nc : Nat) (w : World), bQ x = false → dz eD x → eV ts p → dD S w xa x.ks → fA ts S w p q ca na →
  Calls Tryz.prog 21 #[iY x.k x.v x.c xa x.ks.length xc, cH ts p q o ca cc na nc] w fun e w' => ∃ v, e = .returned v ∧ aT ts (eA S w) w' v (az bK ts p x) ∧ Below w.heap.size w w' := by
  intro S x xa xc q o ca cc na nc w ht hw hsh hx hp
  obtain ⟨cl, hcl⟩ : ∃ cl, (aj ts p).length = cl := ⟨_, rfl⟩
  have HCL : Hid ((aj ts p).length = cl) := hcl
  obtain ⟨rp, hrp⟩ : ∃ rp, az bK ts p x = rp := ⟨_, rfl⟩
  have HRP : Hid (az bK ts p x = rp) := hrp
  rw [hrp]
  unfold cH bL
  rw [hcl]
  clear hcl hrp
  have A : Below w.heap.size w (((w.alloc (.cells (aW x xa xc) 27)).alloc (.cells (aJ p q o ca cl cc na p.ks.length nc) 50)).alloc (.cells aH 50)) := ((((He w.heap.size w).alloc (Hd _) (.cells (aW x xa xc) 27)).alloc (by simp only [Hg]; omega) (.cells (aJ p q o ca cl cc na p.ks.length nc) 50)).alloc (by simp only [Hg]; omega) (.cells aH 50))
  have Z : w.heap.size + 3 ≤ (((w.alloc (.cells (aW x xa xc) 27)).alloc (.cells (aJ p q o ca cl cc na p.ks.length nc) 50)).alloc (.cells aH 50)).heap.size := by simp only [Hg]; omega
  have Q0 : (((w.alloc (.cells (aW x xa xc) 27)).alloc (.cells (aJ p q o ca cl cc na p.ks.length nc) 50)).alloc (.cells aH 50)).heap[w.heap.size]? = some (.cells (aW x xa xc) 27 (0, 0)) := by
    rw [aD _ _ (by simp only [Hg]; omega), aD _ _ (by simp only [Hg]; omega)]
    exact aw w (aW x xa xc) 27 rfl
  have Q1 : (((w.alloc (.cells (aW x xa xc) 27)).alloc (.cells (aJ p q o ca cl cc na p.ks.length nc) 50)).alloc (.cells aH 50)).heap[w.heap.size + 1]? = some (.cells (aJ p q o ca cl cc na p.ks.length nc) 50 (0, 0)) := by
    rw [aD _ _ (by simp only [Hg]; omega)]
    exact aw (w.alloc (.cells (aW x xa xc) 27)) (aJ p q o ca cl cc na p.ks.length nc) 50 (by simp only [Hg])
  have Q2 : (((w.alloc (.cells (aW x xa xc) 27)).alloc (.cells (aJ p q o ca cl cc na p.ks.length nc) 50)).alloc (.cells aH 50)).heap[w.heap.size + 2]? = some (.cells aH 50 (0, 0)) := by
    exact aw ((w.alloc (.cells (aW x xa xc) 27)).alloc (.cells (aJ p q o ca cl cc na p.ks.length nc) 50)) aH 50 (by simp only [Hg])
  have HX : Hid (dD S w xa x.ks) := hx
  have HP : Hid (fA ts S w p q ca na) := hp
  have HW : Hid (dz eD x ∧ eV ts p) := ⟨hw, hsh⟩
  have HT : Hid (bQ x = (x.k == 1 && (cls x.v.1 x.v.2.1 == some true))) := gC x
  clear hx hp hw hsh
  have b2 : (p.k == 2) = false := by simpa using (show ¬ p.k = 2 by omega)
  have b8 : (p.k == 8) = false := by simpa using (show ¬ p.k = 8 by omega)
  have b9 : (p.k == 9) = false := by simpa using (show ¬ p.k = 9 by omega)
  have b10 : (p.k == 10) = false := by simpa using (show ¬ p.k = 10 by omega)
  have b11 : (p.k == 11) = false := by simpa using (show ¬ p.k = 11 by omega)
  have b5 : (p.k == 5) = false := by simpa using (show ¬ p.k = 5 by omega)
  have b6 : (p.k == 6) = false := by simpa using (show ¬ p.k = 6 by omega)
  have b4 : (p.k == 4) = true := by simpa using hk
  have IH : Hid (∀ r ∈ p.ks, gE ts r) := ih
  have HK : Hid (p.k = 4) := hk
  clear hk ih
  go_enter Tryz.func21, Tryz.ntmps21
  go_upto_region 1 with fail
  generalize (((w.alloc (.cells (aW x xa xc) 27)).alloc (.cells (aJ p q o ca cl cc na p.ks.length nc) 50)).alloc (.cells aH 50)) = w3 at *
  have HTF : Hid (bQ x = false) := ht
  have x0 : w3.cell? ⟨w.heap.size, 0, none⟩ = some (.int .i64 x.k) := cell_of (i := 0) Q0 rfl
  have x1 : w3.cell? ⟨w.heap.size, 1, none⟩ = some (.int .i64 x.v.1) := cell_of (i := 1) Q0 rfl
  have x2 : w3.cell? ⟨w.heap.size, 2, none⟩ = some (.int .i64 x.v.2.1) := cell_of (i := 2) Q0 rfl
  have x3 : w3.cell? ⟨w.heap.size, 3, none⟩ = some (.string x.v.2.2) := cell_of (i := 3) Q0 rfl
  have h0 : (x.k == 1) = false ∨ ((x.k == 1) = true ∧ (cls x.v.1 x.v.2.1 == some true) = false) := by
    rw [HT.out] at ht
    cases h1 : (x.k == 1) with
    | false => exact .inl rfl
    | true => rw [h1, Bool.true_and] at ht; exact .inr ⟨rfl, ht⟩
  clear ht HT
  rcases h0 with h1 | ⟨h1, h2⟩
  all_goals first
    | (have con := dB x.v.1 x.v.2.1 x.v.2.2 w3
       rw [h2] at con
       go_wp2_with fail
       refine con.mono ?_
       rintro e w4 ⟨rfl, hb4⟩
       have A4 := chain A hb4
       have Q04 := (hb4.block _ (ae Q0)).trans Q0
       have Q14 := (hb4.block _ (ae Q1)).trans Q1
       have Q24 := (hb4.block _ (ae Q2)).trans Q2
       clear con hb4 A Z Q0 Q1 Q2 h1 h2 x0 x1 x2 x3
       dsimp only
       go_upto_region 3 with fail)
    | (go_upto_region 3 with fail
       have A4 := A
       have Q04 := Q0
       have Q14 := Q1
       have Q24 := Q2
       clear A Z Q0 Q1 Q2 h1 x0 x1 x2 x3
       generalize w3 = w4 at *)
  all_goals (
    have n0 : w4.cell? ⟨w.heap.size + 1, 0, none⟩ = some (.int .i64 p.k) := cell_of (i := 0) Q14 rfl
    clear n0
    have con := tB ts p IH.out HK.out (Old S w) x xa xc q o ca cc na nc w4 HTF.out HW.out.1 HW.out.2 ((HX.out.mono fun b h l => ⟨h, l⟩).next (ah.of A4)) ((HP.out.mono fun b h l => ⟨h, l⟩).next (ah.of A4))
    unfold cH bL at con
    rw [HCL.out] at con
    obtain ⟨x0, x1, x2, x3, x4, x5⟩ := cU Q04
    obtain ⟨n0, n1, n2, n3, n4, n5, n6, n7, n8, n9, n10, n11, n12⟩ := aB Q14
    go_wp2_with fail
    refine con.mono ?_
    clear x0 x1 x2 x3 x4 x5 n0 n1 n2 n3 n4 n5 n6 n7 n8 n9 n10 n11 n12
    rintro e w7 ⟨v7, rfl, N7, hb7⟩
    clear con
    have A7 := chain A4 hb7
    have QR7 := (hb7.block _ (ae Q24)).trans Q24
    have lr6 := ae Q24
    obtain ⟨q2, o2, ca2, cc2, na2, nc2, rfl, B7⟩ := N7
    generalize hF : az bK ts p x = F at *
    obtain ⟨cl2, hcl2⟩ : ∃ cl2, (aj ts F).length = cl2 := ⟨_, rfl⟩
    have HCL2 : Hid ((aj ts F).length = cl2) := hcl2
    unfold cH bL
    rw [hcl2]
    clear hcl2 hF
    obtain ⟨y0, y1, y2, y3, y4, y5, y6, y7, y8, y9, y10, y11, y12⟩ := aB QR7
    obtain ⟨yf0, yf1, yf2, yf3, yf4, yf5, yf6, yf7, yf8, yf9, yf10, yf11, yf12⟩ := cL QR7
    go_wp2_with fail
    have AP : Below w.heap.size w (df w7 (w.heap.size + 2) F q2 o2 ca2 cl2 cc2 na2 F.ks.length nc2) := (bf (g := w.heap.size + 2) A7 (by omega) (.int .i64 F.k) (.int .i64 F.n) (.int .i64 F.x.k) (.int .i64 F.x.v.1) (.int .i64 F.x.v.2.1) (.string F.x.v.2.2) (.int .i64 F.x.c) (.slice q2.xa F.x.ks.length q2.xc) (.slice q2.sa F.xs.length q2.sc) (.slice q2.ga F.gs.length q2.gc) (.slice q2.ka o2 q2.kc) (.slice ca2 cl2 cc2) (.slice na2 F.ks.length nc2))
    have KP : ah (eA (Old S w) w4) w7 (df w7 (w.heap.size + 2) F q2 o2 ca2 cl2 cc2 na2 F.ks.length nc2) := (bC (g := w.heap.size + 2) (ah.refl _ w7) (cD (by omega) (by omega)) (.int .i64 F.k) (.int .i64 F.n) (.int .i64 F.x.k) (.int .i64 F.x.v.1) (.int .i64 F.x.v.2.1) (.string F.x.v.2.2) (.int .i64 F.x.c) (.slice q2.xa F.x.ks.length q2.xc) (.slice q2.sa F.xs.length q2.sc) (.slice q2.ga F.gs.length q2.gc) (.slice q2.ka o2 q2.kc) (.slice ca2 cl2 cc2) (.slice na2 F.ks.length nc2))
    have QE : (df w7 (w.heap.size + 2) F q2 o2 ca2 cl2 cc2 na2 F.ks.length nc2).heap[w.heap.size + 2]? = some (.cells (aJ F q2 o2 ca2 cl2 cc2 na2 F.ks.length nc2) 50 (0, 0)) := (bw (g := w.heap.size + 2) QR7 (.int .i64 F.k) (.int .i64 F.n) (.int .i64 F.x.k) (.int .i64 F.x.v.1) (.int .i64 F.x.v.2.1) (.string F.x.v.2.2) (.int .i64 F.x.c) (.slice q2.xa F.x.ks.length q2.xc) (.slice q2.sa F.xs.length q2.sc) (.slice q2.ga F.gs.length q2.gc) (.slice q2.ka o2 q2.kc) (.slice ca2 cl2 cc2) (.slice na2 F.ks.length nc2))
    clear y0 yf0 y1 yf1 y2 yf2 y3 yf3 y4 yf4 y5 yf5 y6 yf6 y7 yf7 y8 yf8 y9 yf9 y10 yf10 y11 yf11 y12 yf12
    unfold df at AP KP QE
    generalize (((((((((((((w7.setCell ⟨w.heap.size + 2, 0, none⟩ (.int .i64 F.k)).setCell ⟨w.heap.size + 2, 1, none⟩ (.int .i64 F.n)).setCell ⟨w.heap.size + 2, 2, none⟩ (.int .i64 F.x.k)).setCell ⟨w.heap.size + 2, 3, none⟩ (.int .i64 F.x.v.1)).setCell ⟨w.heap.size + 2, 4, none⟩ (.int .i64 F.x.v.2.1)).setCell ⟨w.heap.size + 2, 5, none⟩ (.string F.x.v.2.2)).setCell ⟨w.heap.size + 2, 6, none⟩ (.int .i64 F.x.c)).setCell ⟨w.heap.size + 2, 7, none⟩ (.slice q2.xa F.x.ks.length q2.xc)).setCell ⟨w.heap.size + 2, 8, none⟩ (.slice q2.sa F.xs.length q2.sc)).setCell ⟨w.heap.size + 2, 9, none⟩ (.slice q2.ga F.gs.length q2.gc)).setCell ⟨w.heap.size + 2, 10, none⟩ (.slice q2.ka o2 q2.kc)).setCell ⟨w.heap.size + 2, 11, none⟩ (.slice ca2 cl2 cc2)).setCell ⟨w.heap.size + 2, 12, none⟩ (.slice na2 F.ks.length nc2)) = w8 at *
    have FIN : aT ts (eA S w) w8 (.agg (aJ F q2 o2 ca2 cl2 cc2 na2 F.ks.length nc2)) F := by
      refine ⟨q2, o2, ca2, cc2, na2, nc2, by unfold cH bL; rw [HCL2.out], (B7.next KP).mono fun b h _ => ?_⟩
      rcases h with h | h
      · exact .inl h.1
      · exact .inr (by have := A4.size; omega)
    obtain ⟨r0, r1, r2, r3, r4, r5, r6, r7, r8, r9, r10, r11, r12⟩ := aB QE
    exact Hf (v := .agg (aJ F q2 o2 ca2 cl2 cc2 na2 F.ks.length nc2)) (by simp [results, Tryz.results21, go_sem, r0, r1, r2, r3, r4, r5, r6, r7, r8, r9, r10, r11, r12]) rfl ⟨_, rfl, by rw [← HRP.out]; exact FIN, AP⟩
    )
theorem C5 (ts:List (List Int)):∀ p,gE ts p:=Pl.ind fun k n y xs gs ks ih=>by
 intro S x xa xc q o ca cc na nc w hw hsh hx hp
 cases ht:bQ x with
 | true=>exact yA ts (.mk k n y xs gs ks) S x xa xc q o ca cc na nc w ht hw hsh hx hp
 | false =>
  have hk:1≤k∧k≤13:=(bS hsh).1
  have cs:k=2∨(k=8∨k=9∨k=10∨k=11)∨(k=5∨k=6)∨k=4∨(k=1∨k=3∨k=7∨k=12∨k=13):=by omega
  rcases cs with c | c | c | c | c
  ·exact tv ts (.mk k n y xs gs ks) c S x xa xc q o ca cc na nc w ht hw hsh hx hp
  ·exact Bb ts (.mk k n y xs gs ks) ih c S x xa xc q o ca cc na nc w ht hw hsh hx hp
  ·exact Ad ts (.mk k n y xs gs ks) ih c S x xa xc q o ca cc na nc w ht hw hsh hx hp
  ·exact yU ts (.mk k n y xs gs ks) ih c S x xa xc q o ca cc na nc w ht hw hsh hx hp
  ·exact ur ts (.mk k n y xs gs ks) c S x xa xc q o ca cc na nc w ht hw hsh hx hp
def kh (p:Pl):Pl:=match p.ks with
 | [r]=>if r.k=11 then r else if r.k=10 then .mk p.k p.n p.x p.xs p.gs r.ks else p
 | _=>p
theorem Dp (ts:List (List Int)) (S:Nat→Prop) (p kd:Pl) (q:Pw) (o:Nat) (ca:Option Addr) (cc:Nat) (na:Option Addr) (nc:Nat) (w:World) (hk:p.ks = [kd]) (hc:aj ts (.mk p.k p.n p.x p.xs p.gs kd.ks)=aj ts p∨kd.k≠10) (hp:fA ts S w p q ca na) :
  Calls Tryz.prog 22 #[cH ts p q o ca cc na nc] w fun e w'=>∃ v,e = .returned v∧aT ts (eA S w) w' v (kh p)∧Below w.heap.size w w':=by
 obtain ⟨cl,hcl⟩:∃ cl,(aj ts p).length=cl:=⟨_,rfl⟩
 have HCL:Hid ((aj ts p).length=cl):=hcl;have HL:Hid (p.ks.length=1):=by rw [hk]; rfl
 have HKS:Hid (p.ks = [kd]):=hk;have HC:Hid (aj ts (.mk p.k p.n p.x p.xs p.gs kd.ks)=aj ts p∨kd.k≠10):=hc;obtain ⟨rp,hrp⟩:∃ rp,kh p=rp:=⟨_,rfl⟩
 have HRP:Hid (rp=if kd.k=11 then kd else if kd.k=10 then .mk p.k p.n p.x p.xs p.gs kd.ks else p):=by
  show _=_;rw [← hrp];unfold kh;rw [hk]
 obtain ⟨b,off,q1,o1,ca1,cc1,na1,nc1,rfl,_,hbl,hAt,hB⟩:=hp.kids.elem (i:=0) (by rw [hk]; simp);have ekd:∀ h:0<p.ks.length,p.ks[0]=kd:=fun h=>by simp [hk]
 rw [ekd] at hAt hB;rw [Jg,IY] at hAt;obtain ⟨cl1,hcl1⟩:∃ cl1,(aj ts kd).length=cl1:=⟨_,rfl⟩
 have HCL1:Hid ((aj ts kd).length=cl1):=hcl1;have HB:Hid (fA ts S w kd q1 ca1 na1):=hB;have HP:Hid (fA ts S w p q ca (some ⟨b,off,none⟩)):=hp;rw [hrp];unfold bL at hAt;unfold cH bL;rw [hcl,HL.out];rw [hcl1] at hAt;clear hcl hcl1 hrp hk hc hB ekd hp;have A:Below w.heap.size w ((w.alloc (.cells (aJ p q o ca cl cc (some ⟨b,off,none⟩) 1 nc) 50)).alloc (.cells aH 50)):=(((He w.heap.size w).alloc (Hd _) (.cells (aJ p q o ca cl cc (some ⟨b,off,none⟩) 1 nc) 50)).alloc (by simp only [Hg]; omega) (.cells aH 50))
 have Z:w.heap.size+2≤((w.alloc (.cells (aJ p q o ca cl cc (some ⟨b,off,none⟩) 1 nc) 50)).alloc (.cells aH 50)).heap.size:=by simp only [Hg]; omega
 have Q0:((w.alloc (.cells (aJ p q o ca cl cc (some ⟨b,off,none⟩) 1 nc) 50)).alloc (.cells aH 50)).heap[w.heap.size]? = some (.cells (aJ p q o ca cl cc (some ⟨b,off,none⟩) 1 nc) 50 (0,0)):=by
  rw [aD _ _ (by simp only [Hg]; omega)];exact aw w (aJ p q o ca cl cc (some ⟨b,off,none⟩) 1 nc) 50 rfl
 have Q1:((w.alloc (.cells (aJ p q o ca cl cc (some ⟨b,off,none⟩) 1 nc) 50)).alloc (.cells aH 50)).heap[w.heap.size+1]? = some (.cells aH 50 (0,0)):=by
  exact aw (w.alloc (.cells (aJ p q o ca cl cc (some ⟨b,off,none⟩) 1 nc) 50)) aH 50 (by simp only [Hg])
 go_enter Tryz.func22,Tryz.ntmps22;go_upto_region 1 with fail
 generalize ((w.alloc (.cells (aJ p q o ca cl cc (some ⟨b,off,none⟩) 1 nc) 50)).alloc (.cells aH 50))=w2 at *;have e0:w2.cell? ⟨b,off,none⟩=some (.int .i64 kd.k):=(A.cell (p:=⟨b,_,none⟩) hbl).trans (hAt 0 _ rfl);have e1:w2.cell? ⟨b,off+1,none⟩=some (.int .i64 kd.n):=(A.cell (p:=⟨b,_,none⟩) hbl).trans (hAt 1 _ rfl);have e2:w2.cell? ⟨b,off+2,none⟩=some (.int .i64 kd.x.k):=(A.cell (p:=⟨b,_,none⟩) hbl).trans (hAt 2 _ rfl);have e3:w2.cell? ⟨b,off+3,none⟩=some (.int .i64 kd.x.v.1):=(A.cell (p:=⟨b,_,none⟩) hbl).trans (hAt 3 _ rfl)
 have e4:w2.cell? ⟨b,off+4,none⟩=some (.int .i64 kd.x.v.2.1):=(A.cell (p:=⟨b,_,none⟩) hbl).trans (hAt 4 _ rfl);have e5:w2.cell? ⟨b,off+5,none⟩=some (.string kd.x.v.2.2):=(A.cell (p:=⟨b,_,none⟩) hbl).trans (hAt 5 _ rfl);have e6:w2.cell? ⟨b,off+6,none⟩=some (.int .i64 kd.x.c):=(A.cell (p:=⟨b,_,none⟩) hbl).trans (hAt 6 _ rfl);have e7:w2.cell? ⟨b,off+7,none⟩=some (.slice q1.xa kd.x.ks.length q1.xc):=(A.cell (p:=⟨b,_,none⟩) hbl).trans (hAt 7 _ rfl);have e8:w2.cell? ⟨b,off+8,none⟩=some (.slice q1.sa kd.xs.length q1.sc):=(A.cell (p:=⟨b,_,none⟩) hbl).trans (hAt 8 _ rfl)
 have e9:w2.cell? ⟨b,off+9,none⟩=some (.slice q1.ga kd.gs.length q1.gc):=(A.cell (p:=⟨b,_,none⟩) hbl).trans (hAt 9 _ rfl);have e10:w2.cell? ⟨b,off+10,none⟩=some (.slice q1.ka o1 q1.kc):=(A.cell (p:=⟨b,_,none⟩) hbl).trans (hAt 10 _ rfl);have e11:w2.cell? ⟨b,off+11,none⟩=some (.slice ca1 cl1 cc1):=(A.cell (p:=⟨b,_,none⟩) hbl).trans (hAt 11 _ rfl);have e12:w2.cell? ⟨b,off+12,none⟩=some (.slice na1 kd.ks.length nc1):=(A.cell (p:=⟨b,_,none⟩) hbl).trans (hAt 12 _ rfl);have n12:w2.cell? ⟨w.heap.size,12,none⟩=some (.slice (some ⟨b,off,none⟩) 1 nc):=cell_of (i:=12) Q0 rfl
 have al:=aa w2 (.cells (aJ kd q1 o1 ca1 cl1 cc1 na1 kd.ks.length nc1) 50);have QK:=an w2 (aJ kd q1 o1 ca1 cl1 cc1 na1 kd.ks.length nc1) 50;go_upto_region 2 with fail
 clear e0 e1 e2 e3 e4 e5 e6 e7 e8 e9 e10 e11 e12 n12 hAt;have A3:=chain A al;have Q03:=(al.block _ (ae Q0)).trans Q0;have Q13:=(al.block _ (ae Q1)).trans Q1;have lk:=ae QK;clear Q0 Q1 A;generalize w2.alloc (.cells (aJ kd q1 o1 ca1 cl1 cc1 na1 kd.ks.length nc1) 50)=w3 at *;clear al;obtain ⟨n0,n1,n2,n3,n4,n5,n6,n7,n8,n9,n10,n11,n12⟩:=aB Q03;obtain ⟨k0,k1,k2,k3,k4,k5,k6,k7,k8,k9,k10,k11,k12⟩:=aB QK;obtain ⟨z0,z1,z2,z3,z4,z5,z6,z7,z8,z9,z10,z11,z12⟩:=aB Q13;obtain ⟨zf0,zf1,zf2,zf3,zf4,zf5,zf6,zf7,zf8,zf9,zf10,zf11,zf12⟩:=cL Q13
 have kV:kd.k=11∨kd.k=10∨(kd.k≠11∧kd.k≠10):=by omega
 rcases kV with h | h | h
 ·have b11:(kd.k == 11)=true:=by simpa using h
  have ERP:Hid (rp=kd):=by show _=_; rw [HRP.out,if_pos h]
  clear h HRP HC;go_wp2_with fail
  have AP:Below w.heap.size w (df w3 (w.heap.size+1) kd q1 o1 ca1 cl1 cc1 na1 kd.ks.length nc1):=(bf (g:=w.heap.size+1) A3 (by omega) (.int .i64 kd.k) (.int .i64 kd.n) (.int .i64 kd.x.k) (.int .i64 kd.x.v.1) (.int .i64 kd.x.v.2.1) (.string kd.x.v.2.2) (.int .i64 kd.x.c) (.slice q1.xa kd.x.ks.length q1.xc) (.slice q1.sa kd.xs.length q1.sc) (.slice q1.ga kd.gs.length q1.gc) (.slice q1.ka o1 q1.kc) (.slice ca1 cl1 cc1) (.slice na1 kd.ks.length nc1))
  have QE:(df w3 (w.heap.size+1) kd q1 o1 ca1 cl1 cc1 na1 kd.ks.length nc1).heap[w.heap.size+1]? = some (.cells (aJ kd q1 o1 ca1 cl1 cc1 na1 kd.ks.length nc1) 50 (0,0)):=(bw (g:=w.heap.size+1) Q13 (.int .i64 kd.k) (.int .i64 kd.n) (.int .i64 kd.x.k) (.int .i64 kd.x.v.1) (.int .i64 kd.x.v.2.1) (.string kd.x.v.2.2) (.int .i64 kd.x.c) (.slice q1.xa kd.x.ks.length q1.xc) (.slice q1.sa kd.xs.length q1.sc) (.slice q1.ga kd.gs.length q1.gc) (.slice q1.ka o1 q1.kc) (.slice ca1 cl1 cc1) (.slice na1 kd.ks.length nc1))
  clear k0 k1 k2 k3 k4 k5 k6 k7 k8 k9 k10 k11 k12 n0 n1 n2 n3 n4 n5 n6 n7 n8 n9 n10 n11 n12 z0 zf0 z1 zf1 z2 zf2 z3 zf3 z4 zf4 z5 zf5 z6 zf6 z7 zf7 z8 zf8 z9 zf9 z10 zf10 z11 zf11 z12 zf12;unfold df at AP QE
  generalize (((((((((((((w3.setCell ⟨w.heap.size+1,0,none⟩ (.int .i64 kd.k)).setCell ⟨w.heap.size+1,1,none⟩ (.int .i64 kd.n)).setCell ⟨w.heap.size+1,2,none⟩ (.int .i64 kd.x.k)).setCell ⟨w.heap.size+1,3,none⟩ (.int .i64 kd.x.v.1)).setCell ⟨w.heap.size+1,4,none⟩ (.int .i64 kd.x.v.2.1)).setCell ⟨w.heap.size+1,5,none⟩ (.string kd.x.v.2.2)).setCell ⟨w.heap.size+1,6,none⟩ (.int .i64 kd.x.c)).setCell ⟨w.heap.size+1,7,none⟩ (.slice q1.xa kd.x.ks.length q1.xc)).setCell ⟨w.heap.size+1,8,none⟩ (.slice q1.sa kd.xs.length q1.sc)).setCell ⟨w.heap.size+1,9,none⟩ (.slice q1.ga kd.gs.length q1.gc)).setCell ⟨w.heap.size+1,10,none⟩ (.slice q1.ka o1 q1.kc)).setCell ⟨w.heap.size+1,11,none⟩ (.slice ca1 cl1 cc1)).setCell ⟨w.heap.size+1,12,none⟩ (.slice na1 kd.ks.length nc1))=w5 at *
  have BP:=(HP.out.mono (S':=eA S w) fun b h _=>.inl h).next (ah.of AP);have BK:=(HB.out.mono (S':=eA S w) fun b h _=>.inl h).next (ah.of AP);have FIN:aT ts (eA S w) w5 (.agg (aJ kd q1 o1 ca1 cl1 cc1 na1 kd.ks.length nc1)) rp:=by
   rw [ERP.out];exact ⟨q1,o1,ca1,cc1,na1,nc1,by unfold cH bL; rw [HCL1.out],BK⟩
  obtain ⟨r0,r1,r2,r3,r4,r5,r6,r7,r8,r9,r10,r11,r12⟩:=aB QE;exact Hf (v:=.agg (aJ kd q1 o1 ca1 cl1 cc1 na1 kd.ks.length nc1)) (by simp [results,Tryz.results22,go_sem,r0,r1,r2,r3,r4,r5,r6,r7,r8,r9,r10,r11,r12]) rfl ⟨_,rfl,FIN,AP⟩
 ·have b11:(kd.k == 11)=false:=by simpa using (show ¬ kd.k=11 by omega)
  have b10:(kd.k == 10)=true:=by simpa using h
  have ERP:Hid (rp = .mk p.k p.n p.x p.xs p.gs kd.ks):=by show _=_; rw [HRP.out,if_neg (by omega),if_pos h]
  have HC2:Hid (aj ts (.mk p.k p.n p.x p.xs p.gs kd.ks)=aj ts p):=HC.out.resolve_right (fun e=>e h);clear h HRP HC;go_wp2_with fail
  have AP:Below w.heap.size w (df w3 (w.heap.size+1) p q o ca cl cc na1 kd.ks.length nc1):=(bf (g:=w.heap.size+1) A3 (by omega) (.int .i64 p.k) (.int .i64 p.n) (.int .i64 p.x.k) (.int .i64 p.x.v.1) (.int .i64 p.x.v.2.1) (.string p.x.v.2.2) (.int .i64 p.x.c) (.slice q.xa p.x.ks.length q.xc) (.slice q.sa p.xs.length q.sc) (.slice q.ga p.gs.length q.gc) (.slice q.ka o q.kc) (.slice ca cl cc) (.slice na1 kd.ks.length nc1))
  have QE:(df w3 (w.heap.size+1) p q o ca cl cc na1 kd.ks.length nc1).heap[w.heap.size+1]? = some (.cells (aJ p q o ca cl cc na1 kd.ks.length nc1) 50 (0,0)):=(bw (g:=w.heap.size+1) Q13 (.int .i64 p.k) (.int .i64 p.n) (.int .i64 p.x.k) (.int .i64 p.x.v.1) (.int .i64 p.x.v.2.1) (.string p.x.v.2.2) (.int .i64 p.x.c) (.slice q.xa p.x.ks.length q.xc) (.slice q.sa p.xs.length q.sc) (.slice q.ga p.gs.length q.gc) (.slice q.ka o q.kc) (.slice ca cl cc) (.slice na1 kd.ks.length nc1))
  clear k0 k1 k2 k3 k4 k5 k6 k7 k8 k9 k10 k11 k12 n0 n1 n2 n3 n4 n5 n6 n7 n8 n9 n10 n11 n12 z0 zf0 z1 zf1 z2 zf2 z3 zf3 z4 zf4 z5 zf5 z6 zf6 z7 zf7 z8 zf8 z9 zf9 z10 zf10 z11 zf11 z12 zf12;unfold df at AP QE
  generalize (((((((((((((w3.setCell ⟨w.heap.size+1,0,none⟩ (.int .i64 p.k)).setCell ⟨w.heap.size+1,1,none⟩ (.int .i64 p.n)).setCell ⟨w.heap.size+1,2,none⟩ (.int .i64 p.x.k)).setCell ⟨w.heap.size+1,3,none⟩ (.int .i64 p.x.v.1)).setCell ⟨w.heap.size+1,4,none⟩ (.int .i64 p.x.v.2.1)).setCell ⟨w.heap.size+1,5,none⟩ (.string p.x.v.2.2)).setCell ⟨w.heap.size+1,6,none⟩ (.int .i64 p.x.c)).setCell ⟨w.heap.size+1,7,none⟩ (.slice q.xa p.x.ks.length q.xc)).setCell ⟨w.heap.size+1,8,none⟩ (.slice q.sa p.xs.length q.sc)).setCell ⟨w.heap.size+1,9,none⟩ (.slice q.ga p.gs.length q.gc)).setCell ⟨w.heap.size+1,10,none⟩ (.slice q.ka o q.kc)).setCell ⟨w.heap.size+1,11,none⟩ (.slice ca cl cc)).setCell ⟨w.heap.size+1,12,none⟩ (.slice na1 kd.ks.length nc1))=w5 at *
  have BP:=(HP.out.mono (S':=eA S w) fun b h _=>.inl h).next (ah.of AP);have BK:=(HB.out.mono (S':=eA S w) fun b h _=>.inl h).next (ah.of AP);have FIN:aT ts (eA S w) w5 (.agg (aJ p q o ca cl cc na1 kd.ks.length nc1)) rp:=by
   rw [ERP.out];refine ⟨q,o,ca,cc,na1,nc1,?_,⟨BP.x,BP.xs,BP.gs,by rw [HC2.out]; exact BP.af,BK.kids⟩⟩;unfold cH bL;rw [HC2.out,HCL.out];rfl
  obtain ⟨r0,r1,r2,r3,r4,r5,r6,r7,r8,r9,r10,r11,r12⟩:=aB QE;exact Hf (v:=.agg (aJ p q o ca cl cc na1 kd.ks.length nc1)) (by simp [results,Tryz.results22,go_sem,r0,r1,r2,r3,r4,r5,r6,r7,r8,r9,r10,r11,r12]) rfl ⟨_,rfl,FIN,AP⟩
 ·have b11:(kd.k == 11)=false:=by simpa using h.1
  have b10:(kd.k == 10)=false:=by simpa using h.2
  have ERP:Hid (rp=p):=by show _=_; rw [HRP.out,if_neg h.1,if_neg h.2]
  clear h HRP HC;go_wp2_with fail
  have AP:Below w.heap.size w (df w3 (w.heap.size+1) p q o ca cl cc (some ⟨b,off,none⟩) 1 nc):=(bf (g:=w.heap.size+1) A3 (by omega) (.int .i64 p.k) (.int .i64 p.n) (.int .i64 p.x.k) (.int .i64 p.x.v.1) (.int .i64 p.x.v.2.1) (.string p.x.v.2.2) (.int .i64 p.x.c) (.slice q.xa p.x.ks.length q.xc) (.slice q.sa p.xs.length q.sc) (.slice q.ga p.gs.length q.gc) (.slice q.ka o q.kc) (.slice ca cl cc) (.slice (some ⟨b,off,none⟩) 1 nc))
  have QE:(df w3 (w.heap.size+1) p q o ca cl cc (some ⟨b,off,none⟩) 1 nc).heap[w.heap.size+1]? = some (.cells (aJ p q o ca cl cc (some ⟨b,off,none⟩) 1 nc) 50 (0,0)):=(bw (g:=w.heap.size+1) Q13 (.int .i64 p.k) (.int .i64 p.n) (.int .i64 p.x.k) (.int .i64 p.x.v.1) (.int .i64 p.x.v.2.1) (.string p.x.v.2.2) (.int .i64 p.x.c) (.slice q.xa p.x.ks.length q.xc) (.slice q.sa p.xs.length q.sc) (.slice q.ga p.gs.length q.gc) (.slice q.ka o q.kc) (.slice ca cl cc) (.slice (some ⟨b,off,none⟩) 1 nc))
  clear k0 k1 k2 k3 k4 k5 k6 k7 k8 k9 k10 k11 k12 n0 n1 n2 n3 n4 n5 n6 n7 n8 n9 n10 n11 n12 z0 zf0 z1 zf1 z2 zf2 z3 zf3 z4 zf4 z5 zf5 z6 zf6 z7 zf7 z8 zf8 z9 zf9 z10 zf10 z11 zf11 z12 zf12;unfold df at AP QE
  generalize (((((((((((((w3.setCell ⟨w.heap.size+1,0,none⟩ (.int .i64 p.k)).setCell ⟨w.heap.size+1,1,none⟩ (.int .i64 p.n)).setCell ⟨w.heap.size+1,2,none⟩ (.int .i64 p.x.k)).setCell ⟨w.heap.size+1,3,none⟩ (.int .i64 p.x.v.1)).setCell ⟨w.heap.size+1,4,none⟩ (.int .i64 p.x.v.2.1)).setCell ⟨w.heap.size+1,5,none⟩ (.string p.x.v.2.2)).setCell ⟨w.heap.size+1,6,none⟩ (.int .i64 p.x.c)).setCell ⟨w.heap.size+1,7,none⟩ (.slice q.xa p.x.ks.length q.xc)).setCell ⟨w.heap.size+1,8,none⟩ (.slice q.sa p.xs.length q.sc)).setCell ⟨w.heap.size+1,9,none⟩ (.slice q.ga p.gs.length q.gc)).setCell ⟨w.heap.size+1,10,none⟩ (.slice q.ka o q.kc)).setCell ⟨w.heap.size+1,11,none⟩ (.slice ca cl cc)).setCell ⟨w.heap.size+1,12,none⟩ (.slice (some ⟨b,off,none⟩) 1 nc))=w5 at *
  have BP:=(HP.out.mono (S':=eA S w) fun b h _=>.inl h).next (ah.of AP);have BK:=(HB.out.mono (S':=eA S w) fun b h _=>.inl h).next (ah.of AP);have FIN:aT ts (eA S w) w5 (.agg (aJ p q o ca cl cc (some ⟨b,off,none⟩) 1 nc)) rp:=by
   rw [ERP.out];exact ⟨q,o,ca,cc,some ⟨b,off,none⟩,nc,by unfold cH bL; rw [HCL.out,HL.out],BP⟩
  obtain ⟨r0,r1,r2,r3,r4,r5,r6,r7,r8,r9,r10,r11,r12⟩:=aB QE;exact Hf (v:=.agg (aJ p q o ca cl cc (some ⟨b,off,none⟩) 1 nc)) (by simp [results,Tryz.results22,go_sem,r0,r1,r2,r3,r4,r5,r6,r7,r8,r9,r10,r11,r12]) rfl ⟨_,rfl,FIN,AP⟩
theorem jR (ok:List Int→Ex→Bool) (ts:List (List Int)):∀ l,fu ok ts l=l.map (fq ok ts)
 | []=>rfl
 | p :: r=>by rw [fu,jR ok ts r,I0]
theorem lR (ok:List Int→Ex→Bool) {ts:List (List Int)}:∀ p:Pl,eV ts p→aj ts (fq ok ts p)=aj ts p∧eV ts (fq ok ts p) :=
 Pl.ind fun k n y xs gs ks ih hs=>by
  obtain ⟨_,hks,⟨_,rfl,_⟩ | ⟨_,p,q,rfl,_⟩ | ⟨hk,_,p,rfl⟩⟩:=bS hs
  ·rw [fq,fu]
   exact ⟨rfl,hs⟩
  ·obtain ⟨cp,sp⟩:=ih p (by simp) (hks p (by simp))
   obtain ⟨cq,sq⟩:=ih q (by simp) (hks q (by simp))
   rw [fq,fu,fu,fu]
   refine ⟨?_,?_⟩
   ·show aj ts (.mk k n y xs gs [_,_])=_
    rw [dC,dC,cp,cq]
   ·refine jh hs rfl (by simp only [aU,cp,cq]) fun r hr=>?_
    simp only [H6,I4,or_false] at hr
    rcases hr with rfl | rfl
    ·exact sp
    ·exact sq
  ·obtain ⟨cp,sp⟩:=ih p (by simp) (hks p (by simp))
   rw [fq,fu,fu]
   generalize fq ok ts p=p' at cp sp ⊢
   unfold j5
   simp only
   by_cases k2:k=2
   ·rw [if_pos k2]
    subst k2
    exact ⟨by rw [eZ ok p' y sp,cp,cP]; rfl,Aj ok p' y sp⟩
   rw [if_neg k2]
   have same:aj ts (.mk k n y xs gs [p'])=aj ts (.mk k n y xs gs [p])∧eV ts (.mk k n y xs gs [p']):=by
    refine ⟨by rw [cP,cP,cp],jh hs rfl (by simp only [aU,cp]) fun r hr=>?_⟩
    rw [List.mem_singleton.1 hr]; exact sp
   have one:∀ {k' n':Int} {y':Ex} {xs':List Ex} {gs':List Ag} {ks':List Pl},eV ts (.mk k' n' y' xs' gs' ks')→k'=10∨k'=11→∃ r,ks' = [r]:=fun sp e=>by
    obtain ⟨_,_,⟨e',_⟩ | ⟨e',_⟩ | ⟨_,_,r,er⟩⟩:=bS sp
    ·omega
    ·omega
    ·exact ⟨r,er⟩
   by_cases c1:(k=10∨k=11)∧p'.k=11
   ·rw [if_pos c1]
    refine ⟨?_,sp⟩
    rw [cp,cP]
    unfold jS
    rw [if_neg (by omega),if_neg (by omega)]
   rw [if_neg c1]
   by_cases c2:(k=10∨k=11)∧p'.k=10
   ·rw [if_pos c2]
    obtain ⟨k',n',y',xs',gs',ks'⟩:=p'
    simp only [Pl.k] at c2
    obtain ⟨c2,rfl⟩:=c2
    obtain ⟨r,rfl⟩:=one sp (by omega)
    have er:aj ts r=aj ts p:=by rw [← cp,cP]; rfl
    refine ⟨?_,jh hs rfl (by simp only [Pl.ks,aU,er]) fun t ht=>?_⟩
    ·show aj ts (.mk k n y xs gs [r])=_
     rw [cP,cP,er]
    ·rw [List.mem_singleton.1 ht]
     exact (bS sp).2.1 r (by simp)
   ·rw [if_neg c2]
    exact same
mutual
def Ah:Pl→Prop
 | .mk k _ y _ _ ks=>(k=2→dz eD y)∧Cz ks
def Cz:List Pl→Prop
 | []=>True
 | p :: r=>Ah p∧Cz r
end
theorem kN:∀ {l:List Pl},Cz l↔∀ p ∈ l,Ah p
 | []=>by simp [Cz]
 | p :: r=>by rw [Cz,kN (l:=r)]; simp
def FY (ts:List (List Int)) (p:Pl):Prop:=∀ (S:Nat→Prop) (q:Pw) (o:Nat) (ca:Option Addr) (cc:Nat) (na:Option Addr) (nc:Nat) (w:World),eV ts p→Ah p→fA ts S w p q ca na →
 Calls Tryz.prog 13 #[cH ts p q o ca cc na nc] w fun e w'=>∃ v,e = .returned v∧aT ts (eA S w) w' v (fq bK ts p)∧Below w.heap.size w w'
theorem Fo {ts:List (List Int)} (p:Pl):fq bK ts p=j5 bK ts p.k p.n p.x p.xs p.gs (p.ks.map (fq bK ts)):=by
 obtain ⟨k,n,y,xs,gs,ks⟩:=p;rw [fq,jR];rfl
theorem qG {ok:List Int→Ex→Bool} {ts:List (List Int)} {k n:Int} {y:Ex} {xs:List Ex} {gs:List Ag} {r:Pl} (h:k=2):j5 ok ts k n y xs gs [r]=az ok ts r y:=by unfold j5; simp only [h,if_true]
theorem nU {ok:List Int→Ex→Bool} {ts:List (List Int)} {k n:Int} {y:Ex} {xs:List Ex} {gs:List Ag} {r:Pl} (h:k=10∨k=11):j5 ok ts k n y xs gs [r]=kh (.mk k n y xs gs [r]):=by
 unfold j5 kh;simp only [h,true_and];rw [if_neg (by omega)];rfl
theorem oe {ok:List Int→Ex→Bool} {ts:List (List Int)} {k n:Int} {y:Ex} {xs:List Ex} {gs:List Ag} {l:List Pl} (h2:k≠2) (h10:k≠10) (h11:k≠11):j5 ok ts k n y xs gs l = .mk k n y xs gs l:=by
 unfold j5
 split
 ·rw [if_neg h2,if_neg (by omega),if_neg (by omega)]
 ·rfl
theorem xn {ts:List (List Int)} {p:Pl} (h:eV ts p):(p.ks.map (fq bK ts)).map (aj ts)=p.ks.map (aj ts):=by
 rw [Ix];exact Ih fun r hr=>(lR bK r (eJ h r hr)).1
theorem rB {ts:List (List Int)} {p:Pl} (h:eV ts p) (hk:p.k=2∨p.k=10∨p.k=11):∃ r,p.ks = [r]:=by
 obtain ⟨k,n,x,xs,gs,ks⟩:=p;simp only [Pl.k] at hk;obtain ⟨_,_,⟨e,_⟩ | ⟨e,_⟩ | ⟨_,_,a,e⟩⟩:=bS h
 ·omega
 ·omega
 ·exact ⟨a,e⟩
theorem nS (ts:List (List Int)) (p:Pl) (ih:∀ r ∈ p.ks,FY ts r):FY ts p:=by
 intro S q o ca cc na nc w hsh hfw hp;obtain ⟨cl,hcl⟩:∃ cl,(aj ts p).length=cl:=⟨_,rfl⟩
 have HCL:Hid ((aj ts p).length=cl):=hcl;obtain ⟨rp,hrp⟩:∃ rp,fq bK ts p=rp:=⟨_,rfl⟩
 have HRP0:Hid (rp=j5 bK ts p.k p.n p.x p.xs p.gs (p.ks.map (fq bK ts))):=by show _=_; rw [← hrp]; exact Fo p
 rw [hrp];unfold cH bL;rw [hcl];clear hcl hrp;have A:Below w.heap.size w ((w.alloc (.cells (aJ p q o ca cl cc na p.ks.length nc) 50)).alloc (.cells aH 50)):=(((He w.heap.size w).alloc (Hd _) (.cells (aJ p q o ca cl cc na p.ks.length nc) 50)).alloc (by simp only [Hg]; omega) (.cells aH 50))
 have Z:w.heap.size+2≤((w.alloc (.cells (aJ p q o ca cl cc na p.ks.length nc) 50)).alloc (.cells aH 50)).heap.size:=by simp only [Hg]; omega
 have Q0:((w.alloc (.cells (aJ p q o ca cl cc na p.ks.length nc) 50)).alloc (.cells aH 50)).heap[w.heap.size]? = some (.cells (aJ p q o ca cl cc na p.ks.length nc) 50 (0,0)):=by
  rw [aD _ _ (by simp only [Hg]; omega)];exact aw w (aJ p q o ca cl cc na p.ks.length nc) 50 rfl
 have Q1:((w.alloc (.cells (aJ p q o ca cl cc na p.ks.length nc) 50)).alloc (.cells aH 50)).heap[w.heap.size+1]? = some (.cells aH 50 (0,0)):=by
  exact aw (w.alloc (.cells (aJ p q o ca cl cc na p.ks.length nc) 50)) aH 50 (by simp only [Hg])
 have HFW:Hid (∀ r ∈ p.ks,Ah r):=by
  obtain ⟨k,n,y,xs,gs,ks⟩:=p;rw [Ah] at hfw;exact kN.1 hfw.2
 have HFX:Hid (p.k=2→dz eD p.x):=by
  obtain ⟨k,n,y,xs,gs,ks⟩:=p;rw [Ah] at hfw;exact hfw.1
 have HP:Hid (fA ts S w p q ca na):=hp;have HS:Hid (eV ts p):=hsh;have hfn:GK ts (.func (.func 13) #[] #[]) (fq bK ts) p.ks (Old (Old S w) ((w.alloc (.cells (aJ p q o ca cl cc na p.ks.length nc) 50)).alloc (.cells aH 50))) ((w.alloc (.cells (aJ p q o ca cl cc na p.ks.length nc) 50)).alloc (.cells aH 50)) :=
  ⟨13,#[],rfl,enters_of Tryz.func13 (by kernel_rfl) rfl,fun r hr q o ca cc na nc W _ hB=>by
   rw [IQ];exact ih r hr _ q o ca cc na nc W (eJ hsh r hr) (HFW.out r hr) hB⟩
 have con:=pR ts (Old S w) (fq bK ts) _ p q o ca cc na nc ((w.alloc (.cells (aJ p q o ca cl cc na p.ks.length nc) 50)).alloc (.cells aH 50)) hfn ((hp.mono fun b h l=>⟨h,l⟩).next (ah.of A)) (jY hsh).1 (im (xn hsh));unfold cH bL at con;rw [HCL.out] at con;clear hfn hp hsh hfw ih;go_enter Tryz.func13,Tryz.ntmps13;go_upto_region 1 with fail
 generalize ((w.alloc (.cells (aJ p q o ca cl cc na p.ks.length nc) 50)).alloc (.cells aH 50))=w2 at *;obtain ⟨n0,n1,n2,n3,n4,n5,n6,n7,n8,n9,n10,n11,n12⟩:=aB Q0;go_wp2_with fail
 refine con.mono ?_;rintro e w3 ⟨v3,rfl,N3,hb3⟩;clear con n0 n1 n2 n3 n4 n5 n6 n7 n8 n9 n10 n11 n12;have A3:=chain A hb3;have Q03:=(hb3.block _ (ae Q0)).trans Q0;have Q13:=(hb3.block _ (ae Q1)).trans Q1;have z3:=hb3.size;obtain ⟨q2,o2,ca2,cc2,na2,nc2,rfl,B3⟩:=N3;obtain ⟨F,hF⟩:∃ F,Pl.mk p.k p.n p.x p.xs p.gs (p.ks.map (fq bK ts))=F:=⟨_,rfl⟩
 rw [hF] at B3 ⊢;have FK:Hid (F.k=p.k∧F.x=p.x∧F.ks=p.ks.map (fq bK ts)):=by rw [← hF]; exact ⟨rfl,rfl,rfl⟩
 have HF:Hid (Pl.mk p.k p.n p.x p.xs p.gs (p.ks.map (fq bK ts))=F):=hF;obtain ⟨cl2,hcl2⟩:∃ cl2,(aj ts F).length=cl2:=⟨_,rfl⟩
 have HCL2:Hid ((aj ts F).length=cl2):=hcl2;have HCF:Hid (aj ts F=aj ts p):=by show _=_; rw [← hF]; exact im (xn HS.out)
 unfold cH bL;rw [hcl2];clear hF hcl2 Q0 Q1 hb3;obtain ⟨n0,n1,n2,n3,n4,n5,n6,n7,n8,n9,n10,n11,n12⟩:=aB Q03;obtain ⟨nf0,nf1,nf2,nf3,nf4,nf5,nf6,nf7,nf8,nf9,nf10,nf11,nf12⟩:=cL Q03
 have A4:Below w.heap.size w (df w3 w.heap.size F q2 o2 ca2 cl2 cc2 na2 F.ks.length nc2):=(bf (g:=w.heap.size) A3 (Hd _) (.int .i64 F.k) (.int .i64 F.n) (.int .i64 F.x.k) (.int .i64 F.x.v.1) (.int .i64 F.x.v.2.1) (.string F.x.v.2.2) (.int .i64 F.x.c) (.slice q2.xa F.x.ks.length q2.xc) (.slice q2.sa F.xs.length q2.sc) (.slice q2.ga F.gs.length q2.gc) (.slice q2.ka o2 q2.kc) (.slice ca2 cl2 cc2) (.slice na2 F.ks.length nc2))
 have QN4:(df w3 w.heap.size F q2 o2 ca2 cl2 cc2 na2 F.ks.length nc2).heap[w.heap.size]? = some (.cells (aJ F q2 o2 ca2 cl2 cc2 na2 F.ks.length nc2) 50 (0,0)):=(bw (g:=w.heap.size) Q03 (.int .i64 F.k) (.int .i64 F.n) (.int .i64 F.x.k) (.int .i64 F.x.v.1) (.int .i64 F.x.v.2.1) (.string F.x.v.2.2) (.int .i64 F.x.c) (.slice q2.xa F.x.ks.length q2.xc) (.slice q2.sa F.xs.length q2.sc) (.slice q2.ga F.gs.length q2.gc) (.slice q2.ka o2 q2.kc) (.slice ca2 cl2 cc2) (.slice na2 F.ks.length nc2))
 have Q14:(df w3 w.heap.size F q2 o2 ca2 cl2 cc2 na2 F.ks.length nc2).heap[w.heap.size+1]? = some (.cells aH 50 (0,0)):=(gj (g:=w.heap.size) Q13 (by omega) (.int .i64 F.k) (.int .i64 F.n) (.int .i64 F.x.k) (.int .i64 F.x.v.1) (.int .i64 F.x.v.2.1) (.string F.x.v.2.2) (.int .i64 F.x.c) (.slice q2.xa F.x.ks.length q2.xc) (.slice q2.sa F.xs.length q2.sc) (.slice q2.ga F.gs.length q2.gc) (.slice q2.ka o2 q2.kc) (.slice ca2 cl2 cc2) (.slice na2 F.ks.length nc2))
 have B4:fA ts (fun b=>Old S w b∨w2.heap.size≤b) (df w3 w.heap.size F q2 o2 ca2 cl2 cc2 na2 F.ks.length nc2) F q2 ca2 na2:=B3.next (bC (g:=w.heap.size) (ah.refl _ w3) (cD (Hd _) (by omega)) (.int .i64 F.k) (.int .i64 F.n) (.int .i64 F.x.k) (.int .i64 F.x.v.1) (.int .i64 F.x.v.2.1) (.string F.x.v.2.2) (.int .i64 F.x.c) (.slice q2.xa F.x.ks.length q2.xc) (.slice q2.sa F.xs.length q2.sc) (.slice q2.ga F.gs.length q2.gc) (.slice q2.ka o2 q2.kc) (.slice ca2 cl2 cc2) (.slice na2 F.ks.length nc2));go_upto_region 2 with fail
 clear n0 nf0 n1 nf1 n2 nf2 n3 nf3 n4 nf4 n5 nf5 n6 nf6 n7 nf7 n8 nf8 n9 nf9 n10 nf10 n11 nf11 n12 nf12 B3 A3 Q03 Q13;unfold df at A4 QN4 Q14 B4
 generalize (((((((((((((w3.setCell ⟨w.heap.size,0,none⟩ (.int .i64 F.k)).setCell ⟨w.heap.size,1,none⟩ (.int .i64 F.n)).setCell ⟨w.heap.size,2,none⟩ (.int .i64 F.x.k)).setCell ⟨w.heap.size,3,none⟩ (.int .i64 F.x.v.1)).setCell ⟨w.heap.size,4,none⟩ (.int .i64 F.x.v.2.1)).setCell ⟨w.heap.size,5,none⟩ (.string F.x.v.2.2)).setCell ⟨w.heap.size,6,none⟩ (.int .i64 F.x.c)).setCell ⟨w.heap.size,7,none⟩ (.slice q2.xa F.x.ks.length q2.xc)).setCell ⟨w.heap.size,8,none⟩ (.slice q2.sa F.xs.length q2.sc)).setCell ⟨w.heap.size,9,none⟩ (.slice q2.ga F.gs.length q2.gc)).setCell ⟨w.heap.size,10,none⟩ (.slice q2.ka o2 q2.kc)).setCell ⟨w.heap.size,11,none⟩ (.slice ca2 cl2 cc2)).setCell ⟨w.heap.size,12,none⟩ (.slice na2 F.ks.length nc2))=w4 at *
 have l4:=ae Q14;have HB4:Hid (fA ts (fun b=>Old S w b∨w2.heap.size≤b) w4 F q2 ca2 na2):=B4;clear B4;have n0:w4.cell? ⟨w.heap.size,0,none⟩=some (.int .i64 F.k):=cell_of (i:=0) QN4 rfl;have kV:F.k=2∨(F.k=10∨F.k=11)∨(F.k≠2∧F.k≠10∧F.k≠11):=by omega
 rcases kV with h | h | h
 ·have b2:(F.k == 2)=true:=by simpa using h
  have hp2:p.k=2:=by rw [← FK.out.1]; exact h
  obtain ⟨r0,hr0⟩:=rB HS.out (.inl hp2);have hks:F.ks = [fq bK ts r0]:=by rw [FK.out.2.2,hr0]; rfl
  obtain ⟨kd,hkd⟩:∃ kd,fq bK ts r0=kd:=⟨_,rfl⟩
  rw [hkd] at hks;have HSK:Hid (eV ts kd):=by rw [← hkd]; exact (lR bK r0 (eJ HS.out r0 (by rw [hr0]; simp))).2
  have HRP:Hid (az bK ts kd F.x=rp):=by
   show _=_;rw [HRP0.out,hr0,FK.out.2.1,I0,List.map_nil,hkd,qG hp2]
  have HWX:Hid (dz eD F.x):=by rw [FK.out.2.1]; exact HFX.out hp2
  have HL:Hid (F.ks.length=1):=by rw [hks]; rfl
  obtain ⟨b,off,q1,o1,ca1,cc1,na1,nc1,rfl,hSb,hbl,hAt,hB⟩:=HB4.out.kids.elem (i:=0) (by rw [hks]; simp);have ekd:∀ h:0<F.ks.length,F.ks[0]=kd:=fun h=>by simp [hks]
  rw [ekd] at hAt hB;rw [Jg,IY] at hAt;obtain ⟨cl1,hcl1⟩:∃ cl1,(aj ts kd).length=cl1:=⟨_,rfl⟩
  have HCL1:Hid ((aj ts kd).length=cl1):=hcl1;have HB:Hid (fA ts (fun b=>Old S w b∨w2.heap.size≤b) w4 kd q1 ca1 na1):=hB;unfold bL at hAt;rw [hcl1] at hAt;rw [HL.out] at QN4 ⊢;clear hcl1 hB ekd hks hkd hr0 h hp2 HFX FK HF HRP0;go_upto_region 4 with fail
  clear n0 b2
  have hCC:∀ W W':World,(W.heap[w.heap.size]? = some (.cells (aJ F q2 o2 ca2 cl2 cc2 (some ⟨b,off,none⟩) 1 nc2) 50 (0,0))∧At W b off [.int .i64 kd.k,.int .i64 kd.n,.int .i64 kd.x.k,.int .i64 kd.x.v.1,.int .i64 kd.x.v.2.1,.string kd.x.v.2.2,.int .i64 kd.x.c,.slice q1.xa kd.x.ks.length q1.xc,.slice q1.sa kd.xs.length q1.sc,.slice q1.ga kd.gs.length q1.gc,.slice q1.ka o1 q1.kc,.slice ca1 cl1 cc1,.slice na1 kd.ks.length nc1]∧b<W.heap.size)→Below W.heap.size W W'→(W'.heap[w.heap.size]? = some (.cells (aJ F q2 o2 ca2 cl2 cc2 (some ⟨b,off,none⟩) 1 nc2) 50 (0,0))∧At W' b off [.int .i64 kd.k,.int .i64 kd.n,.int .i64 kd.x.k,.int .i64 kd.x.v.1,.int .i64 kd.x.v.2.1,.string kd.x.v.2.2,.int .i64 kd.x.c,.slice q1.xa kd.x.ks.length q1.xc,.slice q1.sa kd.xs.length q1.sc,.slice q1.ga kd.gs.length q1.gc,.slice q1.ka o1 q1.kc,.slice ca1 cl1 cc1,.slice na1 kd.ks.length nc1]∧b<W'.heap.size):=fun W W' h hb=>⟨(hb.block _ (ae h.1)).trans h.1,fun j u hj=>(hb.cell (p:=⟨b,_,none⟩) h.2.2).trans (h.2.1 j u hj),Hi h.2.2 hb.size⟩
  have hdr:Below w4.heap.size w4 w4.drew:=(He _ _).drew;have CW:=hCC _ _ ⟨QN4,hAt,hbl⟩ hdr;refine ia (fun W=>W.heap[w.heap.size]? = some (.cells (aJ F q2 o2 ca2 cl2 cc2 (some ⟨b,off,none⟩) 1 nc2) 50 (0,0))∧At W b off [.int .i64 kd.k,.int .i64 kd.n,.int .i64 kd.x.k,.int .i64 kd.x.v.1,.int .i64 kd.x.v.2.1,.string kd.x.v.2.2,.int .i64 kd.x.c,.slice q1.xa kd.x.ks.length q1.xc,.slice q1.sa kd.xs.length q1.sc,.slice q1.ga kd.gs.length q1.gc,.slice q1.ka o1 q1.kc,.slice ca1 cl1 cc1,.slice na1 kd.ks.length nc1]∧b<W.heap.size) 8 (by kernel_rfl) ?_
  refine bD hCC (some 10) (i:=0) (v:=.pointer (some ⟨w.heap.size,0,none⟩)) rfl rfl (by kernel_rfl) (by kernel_rfl) (by kernel_rfl) (by kernel_rfl) (by kernel_rfl) rfl (fun _ _ _ h=>h) (Or.inl ⟨rfl,fun n hn=>?_⟩) (fun _=>CW) ?_
  ·go_simp
  simp only [Act.put,pA,pB,pC];refine bD hCC (some 11) (i:=1) (v:=.pointer (some ⟨w.heap.size,2,none⟩)) rfl rfl (by kernel_rfl) (by kernel_rfl) (by kernel_rfl) (by kernel_rfl) (by kernel_rfl) rfl (fun _ _ _ h=>h) (Or.inl ⟨rfl,fun n hn=>?_⟩) (fun _=>CW) ?_
  ·go_simp
  simp only [Act.put,pA,pB,pC];refine bD hCC (some 12) (i:=2) (v:=.agg (aW F.x q2.xa q2.xc)) rfl rfl (by kernel_rfl) (by kernel_rfl) (by kernel_rfl) (by kernel_rfl) (by kernel_rfl) rfl (fun _ _ _ h=>h) (Or.inl ⟨rfl,fun n hn=>?_⟩) (fun _=>CW) ?_
  ·have hc0:n.cell? ⟨w.heap.size,2,none⟩=some (.int .i64 F.x.k):=cell_of (i:=2) hn.1 rfl;have hc1:n.cell? ⟨w.heap.size,3,none⟩=some (.int .i64 F.x.v.1):=cell_of (i:=3) hn.1 rfl;have hc2:n.cell? ⟨w.heap.size,4,none⟩=some (.int .i64 F.x.v.2.1):=cell_of (i:=4) hn.1 rfl;have hc3:n.cell? ⟨w.heap.size,5,none⟩=some (.string F.x.v.2.2):=cell_of (i:=5) hn.1 rfl;have hc4:n.cell? ⟨w.heap.size,6,none⟩=some (.int .i64 F.x.c):=cell_of (i:=6) hn.1 rfl;have hc5:n.cell? ⟨w.heap.size,7,none⟩=some (.slice q2.xa F.x.ks.length q2.xc):=cell_of (i:=7) hn.1 rfl;go_simp
  simp only [Act.put,pA,pB,pC];refine bD hCC (some 13) (i:=3) (v:=.pointer (some ⟨w.heap.size,12,none⟩)) rfl rfl (by kernel_rfl) (by kernel_rfl) (by kernel_rfl) (by kernel_rfl) (by kernel_rfl) rfl (fun _ _ _ h=>h) (Or.inl ⟨rfl,fun n hn=>?_⟩) (fun _=>CW) ?_
  ·go_simp
  simp only [Act.put,pA,pB,pC];refine bD hCC (some 14) (i:=4) (v:=.slice (some ⟨b,off,none⟩) 1 nc2) rfl rfl (by kernel_rfl) (by kernel_rfl) (by kernel_rfl) (by kernel_rfl) (by kernel_rfl) rfl (fun _ _ _ h=>h) (Or.inl ⟨rfl,fun n hn=>?_⟩) (fun _=>CW) ?_
  ·have hc:n.cell? ⟨w.heap.size,12,none⟩=some (.slice (some ⟨b,off,none⟩) 1 nc2):=cell_of (i:=12) hn.1 rfl;go_simp
  simp only [Act.put,pA,pB,pC];refine bD hCC (some 15) (i:=5) (v:=.pointer (some ⟨b,off,none⟩)) rfl rfl (by kernel_rfl) (by kernel_rfl) (by kernel_rfl) (by kernel_rfl) (by kernel_rfl) rfl (fun _ _ _ h=>h) (Or.inl ⟨rfl,fun n hn=>?_⟩) (fun _=>CW) ?_
  ·go_simp
  simp only [Act.put,pA,pB,pC];refine bD hCC (some 16) (i:=6) (v:=.agg (aJ kd q1 o1 ca1 cl1 cc1 na1 kd.ks.length nc1)) rfl rfl (by kernel_rfl) (by kernel_rfl) (by kernel_rfl) (by kernel_rfl) (by kernel_rfl) rfl (fun _ _ _ h=>h) (Or.inl ⟨rfl,fun n hn=>?_⟩) (fun _=>CW) ?_
  ·have hc0:n.cell? ⟨b,off,none⟩=some (.int .i64 kd.k):=hn.2.1 0 _ rfl;have hc1:n.cell? ⟨b,off+1,none⟩=some (.int .i64 kd.n):=hn.2.1 1 _ rfl;have hc2:n.cell? ⟨b,off+2,none⟩=some (.int .i64 kd.x.k):=hn.2.1 2 _ rfl;have hc3:n.cell? ⟨b,off+3,none⟩=some (.int .i64 kd.x.v.1):=hn.2.1 3 _ rfl;have hc4:n.cell? ⟨b,off+4,none⟩=some (.int .i64 kd.x.v.2.1):=hn.2.1 4 _ rfl;have hc5:n.cell? ⟨b,off+5,none⟩=some (.string kd.x.v.2.2):=hn.2.1 5 _ rfl;have hc6:n.cell? ⟨b,off+6,none⟩=some (.int .i64 kd.x.c):=hn.2.1 6 _ rfl;have hc7:n.cell? ⟨b,off+7,none⟩=some (.slice q1.xa kd.x.ks.length q1.xc):=hn.2.1 7 _ rfl
   have hc8:n.cell? ⟨b,off+8,none⟩=some (.slice q1.sa kd.xs.length q1.sc):=hn.2.1 8 _ rfl;have hc9:n.cell? ⟨b,off+9,none⟩=some (.slice q1.ga kd.gs.length q1.gc):=hn.2.1 9 _ rfl;have hc10:n.cell? ⟨b,off+10,none⟩=some (.slice q1.ka o1 q1.kc):=hn.2.1 10 _ rfl;have hc11:n.cell? ⟨b,off+11,none⟩=some (.slice ca1 cl1 cc1):=hn.2.1 11 _ rfl;have hc12:n.cell? ⟨b,off+12,none⟩=some (.slice na1 kd.ks.length nc1):=hn.2.1 12 _ rfl;go_simp
  simp only [Act.put,pA,pB,pC];refine cT (rs:=[7]) (by kernel_rfl) (by simp) ?_;intro w5 hb5 jj hj;obtain rfl:jj=7:=by simpa using hj
  clear hj;have D5:=chain hdr hb5;have A5:=chain A4 D5;have CW5:=hCC _ _ CW hb5;have Q15:=(D5.block _ (ae Q14)).trans Q14;have con:=C5 ts kd (fun b=>Old S w b∨w2.heap.size≤b) F.x q2.xa q2.xc q1 o1 ca1 cc1 na1 nc1 w5 HWX.out HSK.out (HB4.out.x.next (ah.of D5)) (HB.out.next (ah.of D5));unfold cH bL at con;rw [HCL1.out] at con;refine wpOp_step rfl (fun K hK=>?_);go_simp;refine con.mono ?_;rintro e w8 ⟨v8,rfl,N8,hb8⟩;clear con;obtain ⟨q3,o3,ca3,cc3,na3,nc3,rfl,B8⟩:=N8;obtain ⟨H,hH⟩:∃ H,az bK ts kd F.x=H:=⟨_,rfl⟩
  rw [hH] at B8 ⊢;have HRH:Hid (rp=H):=by show _=_; rw [← HRP.out,hH]
  obtain ⟨cl3,hcl3⟩:∃ cl3,(aj ts H).length=cl3:=⟨_,rfl⟩
  have HCL3:Hid ((aj ts H).length=cl3):=hcl3;unfold cH bL;rw [hcl3];clear hcl3 hH;have CW8:=hCC _ _ CW5 hb8;refine hK _ _ ⟨fun _=>CW8,?_⟩;clear hK K CW5 CW;refine cT (rs:=[8]) (by kernel_rfl) (by simp) ?_;intro w9 hb9 jj hj;obtain rfl:jj=8:=by simpa using hj
  clear hj;have A9:=chain A5 (chain hb8 hb9);have Q19:=((chain hb8 hb9).block _ (ae Q15)).trans Q15;have B9:=B8.next (ah.of hb9);clear CW8 B8;obtain ⟨y0,y1,y2,y3,y4,y5,y6,y7,y8,y9,y10,y11,y12⟩:=aB Q19;obtain ⟨yf0,yf1,yf2,yf3,yf4,yf5,yf6,yf7,yf8,yf9,yf10,yf11,yf12⟩:=cL Q19;have l5:=D5.size;refine wpOp_step rfl (fun K hK=>?_);go_simp
  have AP:Below w.heap.size w (df w9 (w.heap.size+1) H q3 o3 ca3 cl3 cc3 na3 H.ks.length nc3):=(bf (g:=w.heap.size+1) A9 (by omega) (.int .i64 H.k) (.int .i64 H.n) (.int .i64 H.x.k) (.int .i64 H.x.v.1) (.int .i64 H.x.v.2.1) (.string H.x.v.2.2) (.int .i64 H.x.c) (.slice q3.xa H.x.ks.length q3.xc) (.slice q3.sa H.xs.length q3.sc) (.slice q3.ga H.gs.length q3.gc) (.slice q3.ka o3 q3.kc) (.slice ca3 cl3 cc3) (.slice na3 H.ks.length nc3))
  have KP:ah (eA (fun b=>Old S w b∨w2.heap.size≤b) w5) w9 (df w9 (w.heap.size+1) H q3 o3 ca3 cl3 cc3 na3 H.ks.length nc3):=(bC (g:=w.heap.size+1) (ah.refl _ w9) (fun h=>by rcases h with h | h; exact cD (by omega) (by omega) h; omega) (.int .i64 H.k) (.int .i64 H.n) (.int .i64 H.x.k) (.int .i64 H.x.v.1) (.int .i64 H.x.v.2.1) (.string H.x.v.2.2) (.int .i64 H.x.c) (.slice q3.xa H.x.ks.length q3.xc) (.slice q3.sa H.xs.length q3.sc) (.slice q3.ga H.gs.length q3.gc) (.slice q3.ka o3 q3.kc) (.slice ca3 cl3 cc3) (.slice na3 H.ks.length nc3))
  have QE:(df w9 (w.heap.size+1) H q3 o3 ca3 cl3 cc3 na3 H.ks.length nc3).heap[w.heap.size+1]? = some (.cells (aJ H q3 o3 ca3 cl3 cc3 na3 H.ks.length nc3) 50 (0,0)):=(bw (g:=w.heap.size+1) Q19 (.int .i64 H.k) (.int .i64 H.n) (.int .i64 H.x.k) (.int .i64 H.x.v.1) (.int .i64 H.x.v.2.1) (.string H.x.v.2.2) (.int .i64 H.x.c) (.slice q3.xa H.x.ks.length q3.xc) (.slice q3.sa H.xs.length q3.sc) (.slice q3.ga H.gs.length q3.gc) (.slice q3.ka o3 q3.kc) (.slice ca3 cl3 cc3) (.slice na3 H.ks.length nc3))
  refine hK _ _ ⟨fun h=>absurd h (by decide),?_⟩;clear hK K y0 yf0 y1 yf1 y2 yf2 y3 yf3 y4 yf4 y5 yf5 y6 yf6 y7 yf7 y8 yf8 y9 yf9 y10 yf10 y11 yf11 y12 yf12;unfold df at AP KP QE
  generalize (((((((((((((w9.setCell ⟨w.heap.size+1,0,none⟩ (.int .i64 H.k)).setCell ⟨w.heap.size+1,1,none⟩ (.int .i64 H.n)).setCell ⟨w.heap.size+1,2,none⟩ (.int .i64 H.x.k)).setCell ⟨w.heap.size+1,3,none⟩ (.int .i64 H.x.v.1)).setCell ⟨w.heap.size+1,4,none⟩ (.int .i64 H.x.v.2.1)).setCell ⟨w.heap.size+1,5,none⟩ (.string H.x.v.2.2)).setCell ⟨w.heap.size+1,6,none⟩ (.int .i64 H.x.c)).setCell ⟨w.heap.size+1,7,none⟩ (.slice q3.xa H.x.ks.length q3.xc)).setCell ⟨w.heap.size+1,8,none⟩ (.slice q3.sa H.xs.length q3.sc)).setCell ⟨w.heap.size+1,9,none⟩ (.slice q3.ga H.gs.length q3.gc)).setCell ⟨w.heap.size+1,10,none⟩ (.slice q3.ka o3 q3.kc)).setCell ⟨w.heap.size+1,11,none⟩ (.slice ca3 cl3 cc3)).setCell ⟨w.heap.size+1,12,none⟩ (.slice na3 H.ks.length nc3))=w10 at *
  refine lJ (by kernel_rfl) ?_;intro w11 hb11;have A11:=chain AP hb11;have QE11:=(hb11.block _ (ae QE)).trans QE;have FIN:aT ts (eA S w) w11 (.agg (aJ H q3 o3 ca3 cl3 cc3 na3 H.ks.length nc3)) H:=by
   refine ⟨q3,o3,ca3,cc3,na3,nc3,by unfold cH bL; rw [HCL3.out],((B9.next KP).next (ah.of hb11)).mono fun b h _=>?_⟩;rcases h with (h | h) | h
   ·exact .inl h.1
   ·exact .inr (by omega)
   ·exact .inr (by have:=A5.size; omega)
  obtain ⟨r0,r1,r2,r3,r4,r5,r6,r7,r8,r9,r10,r11,r12⟩:=aB QE11;go_wp2_with fail
  exact Hf (v:=.agg (aJ H q3 o3 ca3 cl3 cc3 na3 H.ks.length nc3)) (by simp [results,Tryz.results13,go_sem,r0,r1,r2,r3,r4,r5,r6,r7,r8,r9,r10,r11,r12]) rfl ⟨_,rfl,by rw [HRH.out]; exact FIN,A11⟩
 ·have b2:(F.k == 2)=false:=by simpa using (show ¬ F.k=2 by omega)
  have hp2:p.k=10∨p.k=11:=by rw [← FK.out.1]; exact h
  have hb10:(F.k == 10)=true∨((F.k == 10)=false∧(F.k == 11)=true):=by
   simp only [beq_iff_eq,beq_eq_false_iff_ne];omega
  obtain ⟨r0,hr0⟩:=rB HS.out (.inr hp2);have hks:F.ks = [fq bK ts r0]:=by rw [FK.out.2.2,hr0]; rfl
  have HRP:Hid (kh F=rp):=by
   show _=_;rw [HRP0.out,← HF.out,hr0,I0,List.map_nil,nU hp2]
  have HCK:Hid (aj ts (.mk F.k F.n F.x F.xs F.gs (fq bK ts r0).ks)=aj ts F∨(fq bK ts r0).k≠10):=by
   by_cases c:(fq bK ts r0).k=10
   ·refine .inl ?_;obtain ⟨cr,sr⟩:=lR bK r0 (eJ HS.out r0 (by rw [hr0]; simp));obtain ⟨t0,ht0⟩:=rB sr (.inr (.inl c));refine im ?_;rw [hks,ht0];simp only [I0,List.map_nil]
    congr 1
    generalize fq bK ts r0=u at *;obtain ⟨k',n',y',xs',gs',ks'⟩:=u;simp only [Pl.k,Pl.ks] at c ht0;subst c ht0;rw [cP];rfl
   ·exact .inr c
  have con:=Dp ts (fun b=>Old S w b∨w2.heap.size≤b) F (fq bK ts r0) q2 o2 ca2 cc2 na2 nc2 w4 hks HCK.out HB4.out;unfold cH bL at con;rw [HCL2.out] at con;clear hks hr0 h hp2 HFX FK HRP0 n0;obtain ⟨n0,n1,n2,n3,n4,n5,n6,n7,n8,n9,n10,n11,n12⟩:=aB QN4;rcases hb10 with b10 | ⟨b10,b11⟩
  all_goals (
   go_wp2_with fail
   refine con.mono ?_;clear n0 n1 n2 n3 n4 n5 n6 n7 n8 n9 n10 n11 n12;rintro e w7 ⟨v7,rfl,N7,hb7⟩;clear con;have A7:=chain A4 hb7;have QR7:=(hb7.block _ (ae Q14)).trans Q14;have lr6:=ae Q14;obtain ⟨q3,o3,ca3,cc3,na3,nc3,rfl,B7⟩:=N7;generalize hH:kh F=H at *;obtain ⟨cl3,hcl3⟩:∃ cl3,(aj ts H).length=cl3:=⟨_,rfl⟩
   have HCL3:Hid ((aj ts H).length=cl3):=hcl3;unfold cH bL;rw [hcl3];clear hcl3 hH;obtain ⟨y0,y1,y2,y3,y4,y5,y6,y7,y8,y9,y10,y11,y12⟩:=aB QR7;obtain ⟨yf0,yf1,yf2,yf3,yf4,yf5,yf6,yf7,yf8,yf9,yf10,yf11,yf12⟩:=cL QR7;go_wp2_with fail
   have AP:Below w.heap.size w (df w7 (w.heap.size+1) H q3 o3 ca3 cl3 cc3 na3 H.ks.length nc3):=(bf (g:=w.heap.size+1) A7 (by omega) (.int .i64 H.k) (.int .i64 H.n) (.int .i64 H.x.k) (.int .i64 H.x.v.1) (.int .i64 H.x.v.2.1) (.string H.x.v.2.2) (.int .i64 H.x.c) (.slice q3.xa H.x.ks.length q3.xc) (.slice q3.sa H.xs.length q3.sc) (.slice q3.ga H.gs.length q3.gc) (.slice q3.ka o3 q3.kc) (.slice ca3 cl3 cc3) (.slice na3 H.ks.length nc3))
   have KP:ah (eA (fun b=>Old S w b∨w2.heap.size≤b) w4) w7 (df w7 (w.heap.size+1) H q3 o3 ca3 cl3 cc3 na3 H.ks.length nc3):=(bC (g:=w.heap.size+1) (ah.refl _ w7) (fun h=>by rcases h with h | h; exact cD (by omega) (by omega) h; omega) (.int .i64 H.k) (.int .i64 H.n) (.int .i64 H.x.k) (.int .i64 H.x.v.1) (.int .i64 H.x.v.2.1) (.string H.x.v.2.2) (.int .i64 H.x.c) (.slice q3.xa H.x.ks.length q3.xc) (.slice q3.sa H.xs.length q3.sc) (.slice q3.ga H.gs.length q3.gc) (.slice q3.ka o3 q3.kc) (.slice ca3 cl3 cc3) (.slice na3 H.ks.length nc3))
   have QE:(df w7 (w.heap.size+1) H q3 o3 ca3 cl3 cc3 na3 H.ks.length nc3).heap[w.heap.size+1]? = some (.cells (aJ H q3 o3 ca3 cl3 cc3 na3 H.ks.length nc3) 50 (0,0)):=(bw (g:=w.heap.size+1) QR7 (.int .i64 H.k) (.int .i64 H.n) (.int .i64 H.x.k) (.int .i64 H.x.v.1) (.int .i64 H.x.v.2.1) (.string H.x.v.2.2) (.int .i64 H.x.c) (.slice q3.xa H.x.ks.length q3.xc) (.slice q3.sa H.xs.length q3.sc) (.slice q3.ga H.gs.length q3.gc) (.slice q3.ka o3 q3.kc) (.slice ca3 cl3 cc3) (.slice na3 H.ks.length nc3))
   clear y0 yf0 y1 yf1 y2 yf2 y3 yf3 y4 yf4 y5 yf5 y6 yf6 y7 yf7 y8 yf8 y9 yf9 y10 yf10 y11 yf11 y12 yf12;unfold df at AP KP QE
   generalize (((((((((((((w7.setCell ⟨w.heap.size+1,0,none⟩ (.int .i64 H.k)).setCell ⟨w.heap.size+1,1,none⟩ (.int .i64 H.n)).setCell ⟨w.heap.size+1,2,none⟩ (.int .i64 H.x.k)).setCell ⟨w.heap.size+1,3,none⟩ (.int .i64 H.x.v.1)).setCell ⟨w.heap.size+1,4,none⟩ (.int .i64 H.x.v.2.1)).setCell ⟨w.heap.size+1,5,none⟩ (.string H.x.v.2.2)).setCell ⟨w.heap.size+1,6,none⟩ (.int .i64 H.x.c)).setCell ⟨w.heap.size+1,7,none⟩ (.slice q3.xa H.x.ks.length q3.xc)).setCell ⟨w.heap.size+1,8,none⟩ (.slice q3.sa H.xs.length q3.sc)).setCell ⟨w.heap.size+1,9,none⟩ (.slice q3.ga H.gs.length q3.gc)).setCell ⟨w.heap.size+1,10,none⟩ (.slice q3.ka o3 q3.kc)).setCell ⟨w.heap.size+1,11,none⟩ (.slice ca3 cl3 cc3)).setCell ⟨w.heap.size+1,12,none⟩ (.slice na3 H.ks.length nc3))=w8 at *
   have FIN:aT ts (eA S w) w8 (.agg (aJ H q3 o3 ca3 cl3 cc3 na3 H.ks.length nc3)) H:=by
    refine ⟨q3,o3,ca3,cc3,na3,nc3,by unfold cH bL; rw [HCL3.out],(B7.next KP).mono fun b h _=>?_⟩;rcases h with (h | h) | h
    ·exact .inl h.1
    ·exact .inr (by omega)
    ·exact .inr (by have:=A4.size; omega)
   obtain ⟨r0,r1,r2,r3,r4,r5,r6,r7,r8,r9,r10,r11,r12⟩:=aB QE;exact Hf (v:=.agg (aJ H q3 o3 ca3 cl3 cc3 na3 H.ks.length nc3)) (by simp [results,Tryz.results13,go_sem,r0,r1,r2,r3,r4,r5,r6,r7,r8,r9,r10,r11,r12]) rfl ⟨_,rfl,by rw [← HRP.out]; exact FIN,AP⟩
   )
 ·have b2:(F.k == 2)=false:=by simpa using h.1
  have b10:(F.k == 10)=false:=by simpa using h.2.1
  have b11:(F.k == 11)=false:=by simpa using h.2.2
  have ERP:Hid (rp=F):=by
   show _=_;rw [HRP0.out,← HF.out];have hk:=FK.out.1;exact oe (by omega) (by omega) (by omega)
  clear h HFX FK HRP0 n0;obtain ⟨n0,n1,n2,n3,n4,n5,n6,n7,n8,n9,n10,n11,n12⟩:=aB QN4;obtain ⟨z0,z1,z2,z3,z4,z5,z6,z7,z8,z9,z10,z11,z12⟩:=aB Q14;obtain ⟨zf0,zf1,zf2,zf3,zf4,zf5,zf6,zf7,zf8,zf9,zf10,zf11,zf12⟩:=cL Q14;go_wp2_with fail
  have AP:Below w.heap.size w (df w4 (w.heap.size+1) F q2 o2 ca2 cl2 cc2 na2 F.ks.length nc2):=(bf (g:=w.heap.size+1) A4 (by omega) (.int .i64 F.k) (.int .i64 F.n) (.int .i64 F.x.k) (.int .i64 F.x.v.1) (.int .i64 F.x.v.2.1) (.string F.x.v.2.2) (.int .i64 F.x.c) (.slice q2.xa F.x.ks.length q2.xc) (.slice q2.sa F.xs.length q2.sc) (.slice q2.ga F.gs.length q2.gc) (.slice q2.ka o2 q2.kc) (.slice ca2 cl2 cc2) (.slice na2 F.ks.length nc2))
  have KP:ah (fun b=>Old S w b∨w2.heap.size≤b) w4 (df w4 (w.heap.size+1) F q2 o2 ca2 cl2 cc2 na2 F.ks.length nc2):=(bC (g:=w.heap.size+1) (ah.refl _ w4) (cD (by omega) (by omega)) (.int .i64 F.k) (.int .i64 F.n) (.int .i64 F.x.k) (.int .i64 F.x.v.1) (.int .i64 F.x.v.2.1) (.string F.x.v.2.2) (.int .i64 F.x.c) (.slice q2.xa F.x.ks.length q2.xc) (.slice q2.sa F.xs.length q2.sc) (.slice q2.ga F.gs.length q2.gc) (.slice q2.ka o2 q2.kc) (.slice ca2 cl2 cc2) (.slice na2 F.ks.length nc2))
  have QE:(df w4 (w.heap.size+1) F q2 o2 ca2 cl2 cc2 na2 F.ks.length nc2).heap[w.heap.size+1]? = some (.cells (aJ F q2 o2 ca2 cl2 cc2 na2 F.ks.length nc2) 50 (0,0)):=(bw (g:=w.heap.size+1) Q14 (.int .i64 F.k) (.int .i64 F.n) (.int .i64 F.x.k) (.int .i64 F.x.v.1) (.int .i64 F.x.v.2.1) (.string F.x.v.2.2) (.int .i64 F.x.c) (.slice q2.xa F.x.ks.length q2.xc) (.slice q2.sa F.xs.length q2.sc) (.slice q2.ga F.gs.length q2.gc) (.slice q2.ka o2 q2.kc) (.slice ca2 cl2 cc2) (.slice na2 F.ks.length nc2))
  clear n0 n1 n2 n3 n4 n5 n6 n7 n8 n9 n10 n11 n12 z0 zf0 z1 zf1 z2 zf2 z3 zf3 z4 zf4 z5 zf5 z6 zf6 z7 zf7 z8 zf8 z9 zf9 z10 zf10 z11 zf11 z12 zf12;unfold df at AP KP QE
  generalize (((((((((((((w4.setCell ⟨w.heap.size+1,0,none⟩ (.int .i64 F.k)).setCell ⟨w.heap.size+1,1,none⟩ (.int .i64 F.n)).setCell ⟨w.heap.size+1,2,none⟩ (.int .i64 F.x.k)).setCell ⟨w.heap.size+1,3,none⟩ (.int .i64 F.x.v.1)).setCell ⟨w.heap.size+1,4,none⟩ (.int .i64 F.x.v.2.1)).setCell ⟨w.heap.size+1,5,none⟩ (.string F.x.v.2.2)).setCell ⟨w.heap.size+1,6,none⟩ (.int .i64 F.x.c)).setCell ⟨w.heap.size+1,7,none⟩ (.slice q2.xa F.x.ks.length q2.xc)).setCell ⟨w.heap.size+1,8,none⟩ (.slice q2.sa F.xs.length q2.sc)).setCell ⟨w.heap.size+1,9,none⟩ (.slice q2.ga F.gs.length q2.gc)).setCell ⟨w.heap.size+1,10,none⟩ (.slice q2.ka o2 q2.kc)).setCell ⟨w.heap.size+1,11,none⟩ (.slice ca2 cl2 cc2)).setCell ⟨w.heap.size+1,12,none⟩ (.slice na2 F.ks.length nc2))=w5 at *
  have FIN:aT ts (eA S w) w5 (.agg (aJ F q2 o2 ca2 cl2 cc2 na2 F.ks.length nc2)) F:=⟨q2,o2,ca2,cc2,na2,nc2,by unfold cH bL; rw [HCL2.out],(HB4.out.next KP).mono fun b h _=>by
   rcases h with h | h
   ·exact .inl h.1
   ·exact .inr (by omega)⟩
  obtain ⟨r0,r1,r2,r3,r4,r5,r6,r7,r8,r9,r10,r11,r12⟩:=aB QE;exact Hf (v:=.agg (aJ F q2 o2 ca2 cl2 cc2 na2 F.ks.length nc2)) (by simp [results,Tryz.results13,go_sem,r0,r1,r2,r3,r4,r5,r6,r7,r8,r9,r10,r11,r12]) rfl ⟨_,rfl,by rw [ERP.out]; exact FIN,AP⟩
theorem rG (ts:List (List Int)):∀ p,FY ts p:=Pl.ind fun k n y xs gs ks ih=>nS ts (.mk k n y xs gs ks) ih
def de (ts:List (List Int)) (p:Pl):Pl:=if bu ts (cX (fq bK ts p))=0 then cX (fq bK ts p) else cX p
def GI:Value:=.agg dT
structure qC (ts:List (List Int)) (p:Pl):Prop where
 lk:nQ ts p
 G2:eV ts p
 fw:Ah p
 wd:kG p
 Ha:kG (fq bK ts p)
 ok:cF (cX (fq bK ts p))
theorem rn (ts:List (List Int)) (p:Pl) (q:Pw) (ta:Option Addr) (tc:Nat) (w:World) (hT:gP w.heap.size w ta ts) (hp:ki w.heap.size w p q) (hok:cF p) (hpo:bu ts p=0→qC ts p) :
  Calls Tryz.prog 6 #[.slice ta ts.length tc,fp p q] w fun e w'=>(¬ bu ts p=0→e = .returned (.tuple #[GI,.int .i64 (bu ts p)]))∧(bu ts p=0→∃ q',e = .returned (.tuple #[fp (de ts p) q',.int .i64 0])∧lD (fun b=>w.heap.size≤b) w' (de ts p) q')∧Below w.heap.size w w':=by
 obtain ⟨le,hle⟩:∃ le,bu ts p=le:=⟨_,rfl⟩
 have HLE:Hid (bu ts p=le):=hle;have HPO:Hid (bu ts p=0→qC ts p):=hpo;have HOK:Hid (cF p):=hok;have HP:Hid (ki w.heap.size w p q):=hp;have HT:Hid (gP w.heap.size w ta ts):=hT;rw [hle];unfold fp;clear hle hp hT hok hpo;have A:Below w.heap.size w ((w.alloc (.cells (jt p q p.ks.length) 31)).alloc (.cells dT 31)):=(((He w.heap.size w).alloc (Hd _) (.cells (jt p q p.ks.length) 31)).alloc (by simp only [Hg]; omega) (.cells dT 31))
 have Z:w.heap.size+2≤((w.alloc (.cells (jt p q p.ks.length) 31)).alloc (.cells dT 31)).heap.size:=by simp only [Hg]; omega
 have Q0:((w.alloc (.cells (jt p q p.ks.length) 31)).alloc (.cells dT 31)).heap[w.heap.size]? = some (.cells (jt p q p.ks.length) 31 (0,0)):=by
  rw [aD _ _ (by simp only [Hg]; omega)];exact aw w (jt p q p.ks.length) 31 rfl
 have Q1:((w.alloc (.cells (jt p q p.ks.length) 31)).alloc (.cells dT 31)).heap[w.heap.size+1]? = some (.cells dT 31 (0,0)):=by
  exact aw (w.alloc (.cells (jt p q p.ks.length) 31)) dT 31 (by simp only [Hg])
 have con:=jL ts p q ta tc ((w.alloc (.cells (jt p q p.ks.length) 31)).alloc (.cells dT 31)) ((HT.out.next A (Hd _)).up A.size) ((HP.out.next A (Hd _)).up A.size) HOK.out;rw [HLE.out] at con;generalize (dv ts p)=cs at con;unfold fp at con;go_enter Tryz.func6,Tryz.ntmps6;go_upto_region 1 with fail
 generalize ((w.alloc (.cells (jt p q p.ks.length) 31)).alloc (.cells dT 31))=w2 at *;obtain ⟨n0,n1,n2,n3,n4,n5,n6,n7,n8,n9,n10⟩:=bz Q0;go_wp2_with fail
 refine con.mono ?_;rintro e w3 ⟨ca,cc,rfl,_,hb3⟩;clear con n0 n1 n2 n3 n4 n5 n6 n7 n8 n9 n10;have A3:=chain A hb3;have Q03:=(hb3.block _ (ae Q0)).trans Q0;have Q13:=(hb3.block _ (ae Q1)).trans Q1;have z3:=hb3.size;clear Q0 Q1 A hb3;dsimp only;by_cases h0:le=0;rotate_left
 ·have hb0:(le != 0)=true:=by simpa using h0
  have HN:Hid (¬ le=0):=h0;clear h0;obtain ⟨z0,z1,z2,z3,z4,z5,z6,z7,z8,z9,z10⟩:=bz Q13;obtain ⟨zf0,zf1,zf2,zf3,zf4,zf5,zf6,zf7,zf8,zf9,zf10⟩:=lO Q13;go_wp2_with fail
  have AP:Below w.heap.size w (uN w3 (w.heap.size+1) (.int .i64 0) (.int .i64 0) (.int .i64 0) (.int .i64 0) (.int .i64 0) (.string ⟨#[]⟩) (.int .i64 0) (.slice none 0 0) (.slice none 0 0) (.slice none 0 0) (.slice none 0 0)):=(j2 (g:=w.heap.size+1) A3 (by omega) (.int .i64 0) (.int .i64 0) (.int .i64 0) (.int .i64 0) (.int .i64 0) (.string ⟨#[]⟩) (.int .i64 0) (.slice none 0 0) (.slice none 0 0) (.slice none 0 0) (.slice none 0 0))
  have QE:(uN w3 (w.heap.size+1) (.int .i64 0) (.int .i64 0) (.int .i64 0) (.int .i64 0) (.int .i64 0) (.string ⟨#[]⟩) (.int .i64 0) (.slice none 0 0) (.slice none 0 0) (.slice none 0 0) (.slice none 0 0)).heap[w.heap.size+1]? = some (.cells dT 31 (0,0)):=(lp (g:=w.heap.size+1) Q13 (.int .i64 0) (.int .i64 0) (.int .i64 0) (.int .i64 0) (.int .i64 0) (.string ⟨#[]⟩) (.int .i64 0) (.slice none 0 0) (.slice none 0 0) (.slice none 0 0) (.slice none 0 0))
  clear z0 zf0 z1 zf1 z2 zf2 z3 zf3 z4 zf4 z5 zf5 z6 zf6 z7 zf7 z8 zf8 z9 zf9 z10 zf10;unfold uN at AP QE
  generalize (((((((((((w3.setCell ⟨w.heap.size+1,0,none⟩ (.int .i64 0)).setCell ⟨w.heap.size+1,1,none⟩ (.int .i64 0)).setCell ⟨w.heap.size+1,2,none⟩ (.int .i64 0)).setCell ⟨w.heap.size+1,3,none⟩ (.int .i64 0)).setCell ⟨w.heap.size+1,4,none⟩ (.int .i64 0)).setCell ⟨w.heap.size+1,5,none⟩ (.string ⟨#[]⟩)).setCell ⟨w.heap.size+1,6,none⟩ (.int .i64 0)).setCell ⟨w.heap.size+1,7,none⟩ (.slice none 0 0)).setCell ⟨w.heap.size+1,8,none⟩ (.slice none 0 0)).setCell ⟨w.heap.size+1,9,none⟩ (.slice none 0 0)).setCell ⟨w.heap.size+1,10,none⟩ (.slice none 0 0))=w5 at *
  obtain ⟨r0,r1,r2,r3,r4,r5,r6,r7,r8,r9,r10⟩:=bz QE;exact Hf (v:=.tuple #[GI,.int .i64 le]) (by simp [results,GI,Tryz.results6,go_sem,r0,r1,r2,r3,r4,r5,r6,r7,r8,r9,r10]) rfl ⟨fun _=>rfl,fun h=>absurd h HN.out,AP⟩
 have PO:=HPO.out (by rw [HLE.out,h0]);have HPK:Hid (qC ts p):=PO;subst h0;clear PO;have con:=uB ts p w.heap.size q ta tc w3 A3.size (HP.out.next A3 (Hd _)) (HT.out.next A3 (Hd _)) HPK.out.lk HOK.out;unfold fp at con;obtain ⟨n0,n1,n2,n3,n4,n5,n6,n7,n8,n9,n10⟩:=bz Q03;go_wp2_with fail
 refine con.mono ?_;rintro e w4 ⟨v4,rfl,N4,hb4⟩;clear con n0 n1 n2 n3 n4 n5 n6 n7 n8 n9 n10;obtain ⟨q2,o2,ca2,cc2,na2,nc2,rfl,B4⟩:=N4;obtain ⟨cl2,hcl2⟩:∃ cl2,(aj ts p).length=cl2:=⟨_,rfl⟩
 have HCL2:Hid ((aj ts p).length=cl2):=hcl2;unfold cH bL;rw [hcl2];clear hcl2;have A4:=chain A3 hb4;have Q14:=(hb4.block _ (ae Q13)).trans Q13;have al5:=aa w4 (.cells (aJ p q2 o2 ca2 cl2 cc2 na2 p.ks.length nc2) 50);have QG:=an w4 (aJ p q2 o2 ca2 cl2 cc2 na2 p.ks.length nc2) 50;dsimp only;go_upto_region 5 with fail
 have A5:=chain A4 al5;have Q15:=(al5.block _ (ae Q14)).trans Q14;have z4:=hb4.size;have B5:=B4.next (ah.of al5);have l5:=ae QG;generalize w4.alloc (.cells (aJ p q2 o2 ca2 cl2 cc2 na2 p.ks.length nc2) 50)=w5 at *;clear Q03 Q13 Q14 A3 A4 al5 B4 hb4;have HB5:Hid (fA ts (fun b=>b<w.heap.size∨w3.heap.size≤b) w5 p q2 ca2 na2):=B5;clear B5;have con:=rG ts p (fun b=>b<w.heap.size∨w3.heap.size≤b) q2 o2 ca2 cc2 na2 nc2 w5 HPK.out.G2 HPK.out.fw HB5.out;unfold cH bL at con;rw [HCL2.out] at con;obtain ⟨n0,n1,n2,n3,n4,n5,n6,n7,n8,n9,n10,n11,n12⟩:=aB QG
 go_wp2_with fail
 refine con.mono ?_;rintro e w6 ⟨v6,rfl,N6,hb6⟩;clear con n0 n1 n2 n3 n4 n5 n6 n7 n8 n9 n10 n11 n12;obtain ⟨q3,o3,ca3,cc3,na3,nc3,rfl,B6⟩:=N6;obtain ⟨ea,hea⟩:∃ ea,cX (fq bK ts p)=ea:=⟨_,rfl⟩
 have con:=oK ts (fq bK ts p) _ q3 o3 ca3 cc3 na3 nc3 w6 HPK.out.Ha B6;rw [hea] at con;have HEA:Hid (cX (fq bK ts p)=ea):=hea;clear hea;dsimp only;go_wp2_with fail
 refine con.mono ?_;rintro e w7 ⟨q4,rfl,P7,hb7⟩;clear con B6;have D7:=chain hb6 hb7;have A7:=chain A5 D7;have Q17:=(D7.block _ (ae Q15)).trans Q15;have QG7:=(D7.block _ (ae QG)).trans QG;have al8:=aa w7 (.cells (jt ea q4 ea.ks.length) 31);have QEA:=an w7 (jt ea q4 ea.ks.length) 31;unfold fp;dsimp only;go_upto_region 6 with fail
 have D8:=chain D7 al8;have A8:=chain A7 al8;have Q18:=(al8.block _ (ae Q17)).trans Q17;have QG8:=(al8.block _ (ae QG7)).trans QG7;have P8:=P7.next (ah.of al8);have l8:=ae QEA;have z6:=hb6.size;have z7:=hb7.size;generalize w7.alloc (.cells (jt ea q4 ea.ks.length) 31)=w8 at *;clear Q17 QG7 P7 A7 Q15 QG A5 al8 D7 hb6 hb7;obtain ⟨le2,hle2⟩:∃ le2,bu ts ea=le2:=⟨_,rfl⟩
 have HLE2:Hid (bu ts ea=le2):=hle2;have HRP:Hid (de ts p=if le2=0 then ea else cX p):=by show _=_; unfold de; rw [HEA.out,hle2]
 have con:=jL ts ea q4 ta tc w8 ((HT.out.next A8 (Hd _)).up A8.size) P8.b (by rw [← HEA.out]; exact HPK.out.ok);rw [hle2] at con;clear hle2;generalize (dv ts ea)=cs2 at con;unfold fp at con;obtain ⟨n0,n1,n2,n3,n4,n5,n6,n7,n8,n9,n10⟩:=bz QEA;go_wp2_with fail
 refine con.mono ?_;rintro e w9 ⟨ca5,cc5,rfl,_,hb9⟩;clear con n0 n1 n2 n3 n4 n5 n6 n7 n8 n9 n10;have A9:=chain A8 hb9;have Q19:=(hb9.block _ (ae Q18)).trans Q18;have QG9:=(hb9.block _ (ae QG8)).trans QG8;have QE9:=(hb9.block _ (ae QEA)).trans QEA;have P9:=P8.next (ah.of hb9);have D9:=chain D8 hb9;clear Q18 QG8 QEA P8 A8 D8;dsimp only;by_cases h2:le2=0
 ·have hb0:(le2 != 0)=false:=by simpa using h2
  have HR:Hid (de ts p=ea):=by show _=_; rw [HRP.out,if_pos h2]
  clear h2 HRP;obtain ⟨n0,n1,n2,n3,n4,n5,n6,n7,n8,n9,n10⟩:=bz QE9;obtain ⟨z0,z1,z2,z3,z4,z5,z6,z7,z8,z9,z10⟩:=bz Q19;obtain ⟨zf0,zf1,zf2,zf3,zf4,zf5,zf6,zf7,zf8,zf9,zf10⟩:=lO Q19;go_wp2_with fail
  have AP:Below w.heap.size w (Es w9 (w.heap.size+1) ea q4 ea.ks.length):=(j2 (g:=w.heap.size+1) A9 (by omega) (.int .i64 ea.k) (.int .i64 ea.n) (.int .i64 ea.x.k) (.int .i64 ea.x.v.1) (.int .i64 ea.x.v.2.1) (.string ea.x.v.2.2) (.int .i64 ea.x.c) (.slice q4.xa ea.x.ks.length q4.xc) (.slice q4.sa ea.xs.length q4.sc) (.slice q4.ga ea.gs.length q4.gc) (.slice q4.ka ea.ks.length q4.kc))
  have KP:ah (fun b=>w6.heap.size≤b) w9 (Es w9 (w.heap.size+1) ea q4 ea.ks.length):=(mc (g:=w.heap.size+1) (ah.refl _ w9) (by omega) (.int .i64 ea.k) (.int .i64 ea.n) (.int .i64 ea.x.k) (.int .i64 ea.x.v.1) (.int .i64 ea.x.v.2.1) (.string ea.x.v.2.2) (.int .i64 ea.x.c) (.slice q4.xa ea.x.ks.length q4.xc) (.slice q4.sa ea.xs.length q4.sc) (.slice q4.ga ea.gs.length q4.gc) (.slice q4.ka ea.ks.length q4.kc))
  have QE:(Es w9 (w.heap.size+1) ea q4 ea.ks.length).heap[w.heap.size+1]? = some (.cells (jt ea q4 ea.ks.length) 31 (0,0)):=(lp (g:=w.heap.size+1) Q19 (.int .i64 ea.k) (.int .i64 ea.n) (.int .i64 ea.x.k) (.int .i64 ea.x.v.1) (.int .i64 ea.x.v.2.1) (.string ea.x.v.2.2) (.int .i64 ea.x.c) (.slice q4.xa ea.x.ks.length q4.xc) (.slice q4.sa ea.xs.length q4.sc) (.slice q4.ga ea.gs.length q4.gc) (.slice q4.ka ea.ks.length q4.kc))
  clear z0 zf0 z1 zf1 z2 zf2 z3 zf3 z4 zf4 z5 zf5 z6 zf6 z7 zf7 z8 zf8 z9 zf9 z10 zf10 n0 n1 n2 n3 n4 n5 n6 n7 n8 n9 n10;unfold Es at AP KP QE
  generalize (((((((((((w9.setCell ⟨w.heap.size+1,0,none⟩ (.int .i64 ea.k)).setCell ⟨w.heap.size+1,1,none⟩ (.int .i64 ea.n)).setCell ⟨w.heap.size+1,2,none⟩ (.int .i64 ea.x.k)).setCell ⟨w.heap.size+1,3,none⟩ (.int .i64 ea.x.v.1)).setCell ⟨w.heap.size+1,4,none⟩ (.int .i64 ea.x.v.2.1)).setCell ⟨w.heap.size+1,5,none⟩ (.string ea.x.v.2.2)).setCell ⟨w.heap.size+1,6,none⟩ (.int .i64 ea.x.c)).setCell ⟨w.heap.size+1,7,none⟩ (.slice q4.xa ea.x.ks.length q4.xc)).setCell ⟨w.heap.size+1,8,none⟩ (.slice q4.sa ea.xs.length q4.sc)).setCell ⟨w.heap.size+1,9,none⟩ (.slice q4.ga ea.gs.length q4.gc)).setCell ⟨w.heap.size+1,10,none⟩ (.slice q4.ka ea.ks.length q4.kc))=w10 at *
  obtain ⟨r0,r1,r2,r3,r4,r5,r6,r7,r8,r9,r10⟩:=bz QE;exact Hf (v:=.tuple #[fp ea q4,.int .i64 0]) (by simp [results,fp,Tryz.results6,go_sem,r0,r1,r2,r3,r4,r5,r6,r7,r8,r9,r10]) rfl ⟨⟨q4,by rw [HR.out]; rfl,by rw [HR.out]; exact (P9.next KP).mono fun b h _=>by omega⟩,AP⟩
 ·have hb0:(le2 != 0)=true:=by simpa using h2
  obtain ⟨gi,hgi⟩:∃ gi,cX p=gi:=⟨_,rfl⟩
  have HR:Hid (de ts p=gi):=by show _=_; rw [HRP.out,if_neg h2,hgi]
  have con:=oK ts p _ q2 o2 ca2 cc2 na2 nc2 w9 HPK.out.wd (HB5.out.next (ah.of D9));rw [hgi] at con;unfold cH bL at con;rw [HCL2.out] at con;clear h2 HRP hgi;obtain ⟨n0,n1,n2,n3,n4,n5,n6,n7,n8,n9,n10,n11,n12⟩:=aB QG9;go_wp2_with fail
  refine con.mono ?_;rintro e w10 ⟨q6,rfl,P10,hb10⟩;clear con n0 n1 n2 n3 n4 n5 n6 n7 n8 n9 n10 n11 n12;have A10:=chain A9 hb10;have Q110:=(hb10.block _ (ae Q19)).trans Q19;have z9:=D9.size;unfold fp;dsimp only;obtain ⟨z0,z1,z2,z3,z4,z5,z6,z7,z8,z9,z10⟩:=bz Q110;obtain ⟨zf0,zf1,zf2,zf3,zf4,zf5,zf6,zf7,zf8,zf9,zf10⟩:=lO Q110;go_wp2_with fail
  have AP:Below w.heap.size w (Es w10 (w.heap.size+1) gi q6 gi.ks.length):=(j2 (g:=w.heap.size+1) A10 (by omega) (.int .i64 gi.k) (.int .i64 gi.n) (.int .i64 gi.x.k) (.int .i64 gi.x.v.1) (.int .i64 gi.x.v.2.1) (.string gi.x.v.2.2) (.int .i64 gi.x.c) (.slice q6.xa gi.x.ks.length q6.xc) (.slice q6.sa gi.xs.length q6.sc) (.slice q6.ga gi.gs.length q6.gc) (.slice q6.ka gi.ks.length q6.kc))
  have KP:ah (fun b=>w9.heap.size≤b) w10 (Es w10 (w.heap.size+1) gi q6 gi.ks.length):=(mc (g:=w.heap.size+1) (ah.refl _ w10) (by omega) (.int .i64 gi.k) (.int .i64 gi.n) (.int .i64 gi.x.k) (.int .i64 gi.x.v.1) (.int .i64 gi.x.v.2.1) (.string gi.x.v.2.2) (.int .i64 gi.x.c) (.slice q6.xa gi.x.ks.length q6.xc) (.slice q6.sa gi.xs.length q6.sc) (.slice q6.ga gi.gs.length q6.gc) (.slice q6.ka gi.ks.length q6.kc))
  have QE:(Es w10 (w.heap.size+1) gi q6 gi.ks.length).heap[w.heap.size+1]? = some (.cells (jt gi q6 gi.ks.length) 31 (0,0)):=(lp (g:=w.heap.size+1) Q110 (.int .i64 gi.k) (.int .i64 gi.n) (.int .i64 gi.x.k) (.int .i64 gi.x.v.1) (.int .i64 gi.x.v.2.1) (.string gi.x.v.2.2) (.int .i64 gi.x.c) (.slice q6.xa gi.x.ks.length q6.xc) (.slice q6.sa gi.xs.length q6.sc) (.slice q6.ga gi.gs.length q6.gc) (.slice q6.ka gi.ks.length q6.kc))
  clear z0 zf0 z1 zf1 z2 zf2 z3 zf3 z4 zf4 z5 zf5 z6 zf6 z7 zf7 z8 zf8 z9 zf9 z10 zf10;unfold Es at AP KP QE
  generalize (((((((((((w10.setCell ⟨w.heap.size+1,0,none⟩ (.int .i64 gi.k)).setCell ⟨w.heap.size+1,1,none⟩ (.int .i64 gi.n)).setCell ⟨w.heap.size+1,2,none⟩ (.int .i64 gi.x.k)).setCell ⟨w.heap.size+1,3,none⟩ (.int .i64 gi.x.v.1)).setCell ⟨w.heap.size+1,4,none⟩ (.int .i64 gi.x.v.2.1)).setCell ⟨w.heap.size+1,5,none⟩ (.string gi.x.v.2.2)).setCell ⟨w.heap.size+1,6,none⟩ (.int .i64 gi.x.c)).setCell ⟨w.heap.size+1,7,none⟩ (.slice q6.xa gi.x.ks.length q6.xc)).setCell ⟨w.heap.size+1,8,none⟩ (.slice q6.sa gi.xs.length q6.sc)).setCell ⟨w.heap.size+1,9,none⟩ (.slice q6.ga gi.gs.length q6.gc)).setCell ⟨w.heap.size+1,10,none⟩ (.slice q6.ka gi.ks.length q6.kc))=w11 at *
  obtain ⟨r0,r1,r2,r3,r4,r5,r6,r7,r8,r9,r10⟩:=bz QE;exact Hf (v:=.tuple #[fp gi q6,.int .i64 0]) (by simp [results,fp,Tryz.results6,go_sem,r0,r1,r2,r3,r4,r5,r6,r7,r8,r9,r10]) rfl ⟨⟨q6,by rw [HR.out]; rfl,by rw [HR.out]; exact (P10.next KP).mono fun b h _=>by have:=A9.size; omega⟩,AP⟩
end Go.Proofs.YtjebpkhkjkjphaaGreat
namespace Go.Proofs.YtjebpkhkjkjphaaGreat
open Go.RowKit
set_option maxRecDepth 100000
set_option maxHeartbeats 16000000
def cx (x:Ex):Ex:=il (fun c=>c) x
theorem Ax {af:List Int} {k:Int} {v:Vl} {c:Int} {ts:List Int}:dG af k (if k=1 then bE v else fV) (if k=2 then c else 0) ts=dG af k v c ts:=by
 unfold dG;by_cases h1:k=1
 ·rw [if_pos h1,if_pos h1,if_pos h1];unfold kM;rw [jy];rfl
 ·rw [if_neg h1,if_neg h1];by_cases h2:k=2
  ·rw [if_pos h2,if_pos h2,if_pos h2]
  ·rw [if_neg h2,if_neg h2]
theorem pP {af:List Int}:∀ (l:List Ex),(∀ x ∈ l,∀ n d,aV af (cx x) n d=aV af x n d)→∀ (acc:List Int) (n d:Int),bp af (bB (fun c=>c) l) acc n d=bp af l acc n d
 | [],_,acc,n,d=>by rw [bB]
 | x :: r,h,acc,n,d=>by
  have hx:∀ n d,aV af (il (fun c=>c) x) n d=aV af x n d:=h x (by simp)
  rw [bB,bp,bp,hx,pP r (fun y hy=>h y (by simp [hy]))]
theorem Cg {af:List Int}:∀ (x:Ex) (n d:Int),aV af (cx x) n d=aV af x n d :=
 Ex.ind fun k v c ks ih n d=>by
  unfold cx
  rw [il,aV,aV,dr,pP ks (fun x hx=>ih x hx),Ax]
theorem fH (af:List Int) (x:Ex):ak af (cx x)=ak af x:=by unfold ak; rw [Cg]
theorem mr (v:Vl):bE (bE v)=bE v:=by
 obtain ⟨k,n,s⟩:=v;unfold bE di fl;simp only
 congr 1
 congr 1
 ·split <;> rfl
 ·split <;> rfl
theorem Gv (f:Int→Int):∀ x:Ex,il f (cx x)=il f x :=
 Ex.ind fun k v c ks ih=>by
  unfold cx
  rw [il,il,il]
  have hs:bB f (bB (fun c=>c) ks)=bB f ks:=by
   rw [cw,cw,cw,Ix];exact Ih fun x hx=>ih x hx
  rw [hs]
  congr 1
  ·split
   ·exact mr v
   ·rfl
  ·split <;> rfl
theorem xw (f:Int→Int):∀ x:Ex,cx (il f x)=il f x :=
 Ex.ind fun k v c ks ih=>by
  unfold cx
  rw [il,il]
  have hs:bB (fun c=>c) (bB f ks)=bB f ks:=by
   rw [cw,cw,Ix];exact Ih fun x hx=>ih x hx
  rw [hs]
  congr 1
  ·split
   ·exact mr v
   ·rfl
  ·split <;> rfl
theorem rU (f:Int→Bool):∀ x:Ex,dM f (cx x)=dM f x :=
 Ex.ind fun k v c ks ih=>by
  unfold cx
  rw [il,dM,dM]
  by_cases h2:k=2
  ·rw [if_pos h2,if_pos h2,if_pos h2]
  ·rw [if_neg h2,if_neg h2]
   have key:∀ l:List Ex,(∀ x ∈ l,x ∈ ks)→fF f (bB (fun c=>c) l)=fF f l:=by
    intro l
    induction l with
    | nil=>intro _; rw [bB]
    | cons x r ihl =>
     intro hm;have:=ih x (hm x (by simp));unfold cx at this;rw [bB,fF,fF,this,ihl fun y hy=>hm y (by simp [hy])]
   exact key ks fun _ h=>h
theorem sQ (x:Ex):bQ (cx x)=bQ x:=by
 obtain ⟨k,⟨a,b,s⟩,c,ks⟩:=x;unfold cx;rw [il];unfold bQ;simp only [Ex.k,Ex.v];by_cases h:k=1
 ·subst h;simp only [if_true];by_cases h2:a=2
  ·subst h2; rfl
  ·have e:∀ m:Int,(a == 2 && m == 1)=false:=fun m=>by rw [show (a == 2)=false by simpa using h2]; rfl
   have e2:((bE (a,b,s)).1 == 2 && (bE (a,b,s)).2.1 == 1)=false:=e _;rw [e2,e]
 ·rw [show (k == 1)=false by simpa using h]; rfl
theorem qX (x y:Ex):cx (gR 4 x y)=gR 4 (cx x) (cx y):=by
 unfold cx gR;rw [il,bB,bB,bB];rfl
theorem Ej (n:Int) (x:Ex):lu n (cx x)=cx (lu n x):=by
 unfold lu;rw [Gv,xw]
theorem Dk (af:List Int) (g:Ag):rk af (jw g)=rk af g:=by
 unfold rk jw;simp only;by_cases h:g.1=4∨g.1=5
 ·rw [if_pos h,if_pos h,if_neg (by omega)];exact congrArg Prod.fst (fH af g.2)
 ·rw [if_neg h,if_neg h]
theorem wV (af:List Int) (xs:List Ex):gH af (bB (fun c=>c) xs)=gH af xs:=by
 unfold gH;rw [cw,Ix];exact Ih fun x _=>congrArg Prod.fst (fH af x)
theorem Ed {k:Int} {xs:List Ex} {gs:List Ag} {af:List Int}:jS k (if k=3∨k=12∨k=13 then bB (fun c=>c) xs else []) (if k=12 then gs.map jw else []) af=jS k xs gs af:=by
 unfold jS;by_cases h3:k=3
 ·rw [if_pos h3,if_pos h3,if_pos (.inl h3),wV]
 rw [if_neg h3,if_neg h3];by_cases h12:k=12
 ·rw [if_pos h12,if_pos h12,if_pos h12,if_pos (by omega),wV,Ix]
  congr 1
  exact Ih fun g _=>Dk af g
 ·rw [if_neg h12,if_neg h12]
theorem Db {ts:List (List Int)}:∀ p:Pl,(p.k=1∨p.ks ≠ [])→(∀ r,r ∈ p.ks→aj ts (cX r)=aj ts r)→aj ts (cX p)=aj ts p:=fun p h ih=>by
 obtain ⟨k,n,x,xs,gs,ks⟩:=p
 simp only [Pl.k,Pl.ks] at h ih
 rw [cX,aj,aj,cn,cn,dq,Ix]
 rw [show ks.map (aj ts ∘ cX)=ks.map (aj ts) from Ih fun r hr=>ih r hr]
 unfold fx
 match hc:ks.map (aj ts) with
 | [] =>
  simp only
  have:ks = []:=List.map_eq_nil_iff.1 hc
  rcases h with h | h
  ·rw [if_pos (.inl h)]
  ·exact absurd this h
 | [c]=>exact Ed
 | l :: r :: _=>rfl
theorem jB {ts:List (List Int)}:∀ p:Pl,eV ts p→aj ts (cX p)=aj ts p :=
 Pl.ind fun k n x xs gs ks ih hs=>by
  obtain ⟨_,hks,hsh⟩:=bS hs
  refine Db _ ?_ fun r hr=>ih r hr (hks r hr)
  rcases hsh with ⟨e,_⟩ | ⟨_,a,b,e,_⟩ | ⟨_,_,a,e⟩
  ·exact .inl e
  ·exact .inr (by simp only [Pl.ks]; rw [e]; simp)
  ·exact .inr (by simp only [Pl.ks]; rw [e]; simp)
theorem Dj (g:Ag):jw (jw g)=jw g:=by
 obtain ⟨k,x⟩:=g;unfold jw;simp only;by_cases h:k=1
 ·rw [if_pos h,if_pos h]
 ·rw [if_neg h,if_neg h]
  congr 1
  exact xw (fun c=>c) x
theorem DR (xs:List Ex):bB (fun c=>c) (bB (fun c=>c) xs)=bB (fun c=>c) xs:=by
 rw [cw,cw,Ix];exact Ih fun x _=>xw (fun c=>c) x
theorem qT:∀ p:Pl,cX (cX p)=cX p :=
 Pl.ind fun k n x xs gs ks ih=>by
  rw [cX,cX]
  have hs:bN (bN ks)=bN ks:=by
   rw [dq,dq,Ix];exact Ih fun p hp=>ih p hp
  rw [hs]
  congr 1
  ·split <;> rfl
  ·split
   ·exact xw (fun c=>c) x
   ·rfl
  ·split
   ·exact DR xs
   ·rfl
  ·split
   ·rw [Ix];exact Ih fun g _=>Dj g
   ·rfl
theorem BV (af:List Int) (x:Ex):bK af (cx x)=bK af x:=by unfold bK; rw [fH]
theorem wK {ts:List (List Int)} {ks:List Pl} (h:∀ r ∈ ks,eV ts r):fb ts (bN ks)=fb ts ks:=by
 match ks,h with
 | [],_=>rw [bN]
 | r :: s,h=>rw [bN,jc,jc,jB r (h r (by simp))]
theorem Ee (x:Ex) (p:Pl):cX (da x p)=da (cx x) (cX p):=by
 unfold da;rw [cX,bN,bN];rfl
theorem DU {ts:List (List Int)}:∀ (p:Pl) (x:Ex),eV ts p→az bK ts (cX p) (cx x)=cX (az bK ts p x) :=
 Pl.ind fun k n y xs gs ks ih x hs=>by
  have hs0:=hs
  obtain ⟨_,hks,hsh⟩:=bS hs
  by_cases ht:bQ x=true
  ·have e:az bK ts (.mk k n y xs gs ks) x = .mk k n y xs gs ks:=by rw [az,if_pos ht]
   rw [e]
   rw [cX,az,if_pos (by rw [sQ]; exact ht)]
  have htc:¬ bQ (cx x)=true:=by rw [sQ]; exact ht
  have hfilt:da (cx x) (cX (.mk k n y xs gs ks))=cX (da x (.mk k n y xs gs ks)):=(Ee x _).symm
  by_cases k2:k=2
  ·have hx2:k=2∨4≤k∧k≤7:=.inl k2
   rw [cX,az,if_neg htc,if_pos k2,wK hks,if_pos hx2]
   rw [az,if_neg ht,if_pos k2]
   have e:bK (fb ts ks) (gR 4 (il (fun c=>c) y) (cx x))=bK (fb ts ks) (gR 4 y x):=by
    have:=BV (fb ts ks) (gR 4 y x)
    rw [qX] at this
    exact this
   rw [e]
   split
   ·rw [cX,if_pos hx2]
    have e2:=qX y x
    unfold cx at e2 ⊢
    rw [e2]
   ·rw [cX,if_pos hx2] at hfilt
    exact hfilt
  by_cases k8:k=8∨k=9∨k=10∨k=11
  ·rw [cX,az,if_neg htc,if_neg k2,if_pos k8,az,if_neg ht,if_neg k2,if_pos k8,cX,iE,iE,dq,dq,Ix,Ix]
   congr 1
   exact Ih fun r hr=>ih r hr x (hks r hr)
  by_cases k5:k=5∨k=6
  ·rw [cX,az,if_neg htc,if_neg k2,if_neg k8,if_pos k5,az,if_neg ht,if_neg k2,if_neg k8,if_pos k5,cX]
   congr 1
   match ks,ih,hks with
   | [],_,_=>rw [bN,dF,dF,bN]
   | r :: s,ih,hks=>rw [bN,dF,dF,bN,ih r (by simp) x (hks r (by simp))]
  by_cases k4:k=4
  ·obtain ⟨e,_⟩ | ⟨_,a,b,rfl,_⟩ | ⟨e,_⟩:=hsh
   ·omega
   ·have hc:=jB _ hs0
    rw [cX,aj] at hc
    rw [cX,az,if_neg htc,if_neg k2,if_neg k8,if_neg k5,if_pos k4,wK hks,hc,rU,rU,Ej]
    rw [az,if_neg ht,if_neg k2,if_neg k8,if_neg k5,if_pos k4]
    have hx4:k=2∨4≤k∧k≤7:=by omega
    rw [if_pos hx4]
    by_cases c1:dM (fun c=>decide (c<((fb ts [a,b]).length:Int))) x=true
    ·rw [if_pos c1,if_pos c1,cX,if_pos hx4]
     congr 1
     simp only [bN,dF,ih a (by simp) x (hks a (by simp))]
    rw [if_neg c1,if_neg c1]
    by_cases c2:dM (fun c=>decide (((fb ts [a,b]).length:Int)≤c)) x=true
    ·rw [if_pos c2,if_pos c2,cX,if_pos hx4]
     congr 1
     simp only [bN,jz,dF,ih b (by simp) _ (hks b (by simp))]
    rw [if_neg c2,if_neg c2]
    have hcc:aj ts (.mk k n y xs gs [a,b])=fx ts k n xs gs (aU ts [a,b]):=by rw [aj]
    rw [hcc]
    have e:bK (fx ts k n xs gs (aU ts [a,b])) (gR 4 (il (fun c=>c) y) (cx x))=bK (fx ts k n xs gs (aU ts [a,b])) (gR 4 y x):=by
     have:=BV (fx ts k n xs gs (aU ts [a,b])) (gR 4 y x)
     rw [qX] at this
     exact this
    rw [e]
    split
    ·rw [cX,if_pos hx4]
     have e2:=qX y x
     unfold cx at e2 ⊢
     rw [e2]
    ·rw [cX,if_pos hx4] at hfilt
     exact hfilt
   ·omega
  ·rw [cX] at hfilt
   rw [cX,az,if_neg htc,if_neg k2,if_neg k8,if_neg k5,if_neg k4,az,if_neg ht,if_neg k2,if_neg k8,if_neg k5,if_neg k4]
   exact hfilt
theorem D1 (p:Pl) (k n:Int) (y:Ex) (xs:List Ex) (gs:List Ag) (_h:k=10∨k=11):kh (cX (.mk k n y xs gs [p]))=cX (kh (.mk k n y xs gs [p])):=by
 have hk:=(cY p).1;have hks:=(cY p).2.2.2.2.2;unfold kh;rw [cX,bN,bN];simp only [Pl.ks,Pl.k,Pl.n,Pl.x,Pl.xs,Pl.gs];have hk':(cX p).k=p.k:=hk;show (if (cX p).k=11 then cX p else if (cX p).k=10 then _ else _)=cX (if p.k=11 then p else if p.k=10 then .mk k n y xs gs p.ks else .mk k n y xs gs [p]);rw [hk'];by_cases c1:p.k=11
 ·rw [if_pos c1,if_pos c1]
 rw [if_neg c1,if_neg c1];by_cases c2:p.k=10
 ·rw [if_pos c2,if_pos c2,cX]
  congr 1
 ·rw [if_neg c2,if_neg c2,cX,bN,bN]
theorem ED {ts:List (List Int)}:∀ p:Pl,eV ts p→fq bK ts (cX p)=cX (fq bK ts p) :=
 Pl.ind fun k n y xs gs ks ih hs=>by
  obtain ⟨_,hks,hsh⟩:=bS hs
  have hm:fu bK ts (bN ks)=bN (fu bK ts ks):=by
   rw [jR,jR,dq,dq,Ix,Ix];exact Ih fun r hr=>ih r hr (hks r hr)
  rw [cX,fq,hm,fq];by_cases k2:k=2
  ·obtain ⟨e,_⟩ | ⟨e,_⟩ | ⟨_,_,r,rfl⟩:=hsh
   ·omega
   ·omega
   have hx2:k=2∨4≤k∧k≤7:=.inl k2;rw [fu,fu,bN,bN,qG k2,qG k2,if_pos hx2];exact DU _ y (lR bK r (hks r (by simp))).2
  by_cases k10:k=10∨k=11
  ·obtain ⟨e,_⟩ | ⟨e,_⟩ | ⟨_,_,r,rfl⟩:=hsh
   ·omega
   ·omega
   rw [fu,fu,bN,bN,nU k10,nU k10,← D1 _ k n y xs gs k10,cX,bN,bN]
  ·rw [oe k2 (by omega) (by omega),oe k2 (by omega) (by omega),cX]
end Go.Proofs.YtjebpkhkjkjphaaGreat
