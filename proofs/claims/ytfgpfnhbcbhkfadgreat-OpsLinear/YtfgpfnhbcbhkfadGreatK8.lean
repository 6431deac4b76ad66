/- The walk of ops.Map. -/
import Derived.Test.YtfgpfnhbcbhkfadGreatK7
import Derived.Test.YtfgpfnhbcbhkfadGreatQ2
namespace Go.Proofs.YtfgpfnhbcbhkfadGreat
open Go.RowKit Go.Lib Go.Shelf

/-- Rows with weights in a slice of one's own that was made at once: k of them are there. -/
def MTo (W : World) (B n : Nat) (f : Nat → Zp) (k : Nat) : Prop := ∃ xs, W.ownsRow B 53 2 (.slice (some ⟨B, 0, none⟩) n n) n xs ∧ ∀ j : Nat, j < n → j < k → ∃ a cap, xs[j * 2]? = some (.slice a (f j).1.length cap) ∧ xs[j * 2 + 1]? = some (.int .i64 (f j).2) ∧ SlAt W a (f j).1 ∧ TyAt W a
theorem MTo.next {W w1 : World} {B n : Nat} {f : Nat → Zp} {k : Nat} (h : MTo W B n f k) (hb : Below W.heap.size W w1) : MTo w1 B n f k := by
  obtain ⟨xs, h1, h2⟩ := h
  refine ⟨xs, own_next h1 hb, fun j hj hk => ?_⟩
  obtain ⟨a, cap, e0, e1, e2, e3⟩ := h2 j hj hk
  exact ⟨a, cap, e0, e1, e2.next hb, e3.next hb⟩
theorem MTo.step {W : World} {B n : Nat} {f : Nat → Zp} {k : Nat} (h : MTo W B n f k) (hk : k < n) {a : Option Addr} {cap : Nat} (hs : SlAt W a (f k).1) (ht : TyAt W a) :
    MTo ((W.setCell ⟨B, k * 2, none⟩ (.slice a (f k).1.length cap)).setCell ⟨B, k * 2 + 1, none⟩ (.int .i64 (f k).2)) B n f (k + 1) := by
  obtain ⟨xs, h1, h2⟩ := h
  have lx := h1.1
  obtain ⟨o1, g1⟩ := h1.stored (k * 2) (.slice a (f k).1.length cap)
  obtain ⟨o2, g2⟩ := o1.stored (k * 2 + 1) (.int .i64 (f k).2)
  have go : ∀ {b : Option Addr} {r : List Vl}, SlAt W b r → TyAt W b → SlAt ((W.setCell ⟨B, k * 2, none⟩ (.slice a (f k).1.length cap)).setCell ⟨B, k * 2 + 1, none⟩ (.int .i64 (f k).2)) b r ∧ TyAt ((W.setCell ⟨B, k * 2, none⟩ (.slice a (f k).1.length cap)).setCell ⟨B, k * 2 + 1, none⟩ (.int .i64 (f k).2)) b := fun hs ht => by
    obtain ⟨s1, t1⟩ := sl_grown hs ht h1 g1
    exact sl_grown s1 t1 o1 g2
  refine ⟨_, o2, ?_⟩
  intro j hj hjk
  by_cases e : j = k
  · subst e
    refine ⟨a, cap, ?_, ?_, (go hs ht).1, (go hs ht).2⟩
    · rw [List.getElem?_set_ne (by omega)]; simp [List.getElem?_set, lx]; omega
    · simp [List.getElem?_set, lx]; omega
  · obtain ⟨b, c, e0, e1, e2, e3⟩ := h2 j hj (by omega)
    refine ⟨b, c, ?_, ?_, (go e2 e3).1, (go e2 e3).2⟩
    · rw [List.getElem?_set_ne (by omega), List.getElem?_set_ne (by omega)]; exact e0
    · rw [List.getElem?_set_ne (by omega), List.getElem?_set_ne (by omega)]; exact e1
theorem MTo.cells {W : World} {B n : Nat} {f : Nat → Zp} {k : Nat} (h : MTo W B n f k) (hk : k < n) : (∃ u0 u1, W.cell? ⟨B, k * 2, none⟩ = some u0 ∧ W.cell? ⟨B, k * 2 + 1, none⟩ = some u1) ∧ W.frozen? ⟨B, k * 2, none⟩ = false ∧ W.frozen? ⟨B, k * 2 + 1, none⟩ = false ∧ B < W.heap.size := by
  obtain ⟨xs, h1, h2⟩ := h
  have lx := h1.1
  refine ⟨⟨xs[k * 2]'(by omega), xs[k * 2 + 1]'(by omega), ?_, ?_⟩, h1.frozenAt _, h1.frozenAt _, (h1.lt B rfl).2⟩
  · rw [h1.cellAt _ (by omega)]; exact List.getElem?_eq_getElem (by omega)
  · rw [h1.cellAt _ (by omega)]; exact List.getElem?_eq_getElem (by omega)
theorem MTo.done {W : World} {B n : Nat} {f : Nat → Zp} (h : MTo W B n f n) (l : List Zp) (hn : n = l.length) (hv : ∀ j (hj : j < l.length), f j = l[j]) (h8 : l.length ≤ 200000) : ZsAt W (some ⟨B, 0, none⟩) l := by
  obtain ⟨xs, h1, h2⟩ := h
  subst hn
  refine ⟨by unfold maxLen; omega, .inr ⟨B, 0, rfl, (h1.lt B rfl).2, ?_⟩⟩
  intro i hi
  obtain ⟨a, cap, g0, g1, g2, _⟩ := h2 i hi hi
  rw [hv i hi] at g0 g1 g2
  refine ⟨?_, a, cap, ?_, g2⟩
  · rw [h1.cellAt _ (by omega), ← g1]; congr 1; omega
  · rw [h1.cellAt _ (by omega), ← g0]; congr 1; omega

set_option maxRecDepth 100000 in
set_option maxHeartbeats 4000000 in
theorem map_at (cols : List Int) (xs : List Ex) (ca : Option Addr) (ccap : Nat) (xa : Option Addr) (xcap : Nat) (a : Option Addr) (cap : Nat) (l : List Zp) (w : World) (hc : IsAt w.heap.size w ca cols) (hk : KsAt w.heap.size w xa xs) (h : ZsAt w a l) :
    Calls Tryz.prog 12 #[.slice ca cols.length ccap, .slice xa xs.length xcap, .slice a l.length cap] w fun e w' => ∃ v, e = .returned (.tuple #[v, .int .i64 (mapE cols xs l)]) ∧ OwnZ w.heap.size w' v (mapZ cols xs l) ∧ Below w.heap.size w w' := by
  obtain ⟨i0, hi, hz0, hz1, hz2⟩ := info_parts Tryz.info42
  have con := list_at cols xs ca ccap xa xcap w hk hc
  generalize hfz : mapZ cols xs l = fz
  generalize hfe : mapE cols xs l = fe
  have HZ : Hid (mapZ cols xs l = fz) := hfz
  have HF : Hid (mapE cols xs l = fe) := hfe
  clear hfz hfe
  by_cases h1 : listE cols xs = 0
  · have H1 : Hid (listE cols xs = 0) := h1
    rw [h1] at con
    clear h1
    go_enter Tryz.func12, Tryz.ntmps12
    go_wp2_with fail
    refine con.mono ?_
    rintro e w1 ⟨u, rfl, hL, hb1⟩
    clear con
    have hL : ListF cols w.heap.size u xs w1 := by
      rcases hL with ⟨_, hL⟩ | ⟨hL, _⟩
      · exact hL
      · exact absurd (by trivial) hL
    obtain ⟨g, cb, rfl, eg, d⟩ := hL
    have HD : Hid (∀ (row : List Vl) (a : Option Addr) (cap : Nat) (W : World), FitP cols row → SlAt W a row → Since w.heap.size w1 W → Calls Tryz.prog g (#[.slice a row.length cap] ++ cb) W fun e w' => e = .returned (.slice (some ⟨W.heap.size, 0, none⟩) xs.length xs.length) ∧ RowNew W.heap.size w' (rowX xs row) ∧ Below W.heap.size W w') := d
    clear d
    have con := wrongS_at cols ca ccap a cap l w1 ((hc.next hb1 (Nat.le_refl _)).up hb1.size) (h.next hb1)
    by_cases h2 : inpE cols l = 0
    · have hz := (inpE_ok cols l).1 h2
      rw [h2] at con
      have H2 : Hid (inpE cols l = 0) := h2
      clear h2
      have HE : Hid (fe = gatherE (mapL xs l)) := by
        show fe = _
        rw [← HF.out]; unfold mapE; rw [H1.out, H2.out]; rfl
      have HV : Hid (fz = gatherZ (mapL xs l)) := by
        show fz = _
        rw [← HZ.out]; unfold mapZ gatherZ; rw [HF.out, HE.out]
      have hl4 := set_len hz
      have HO : Hid (InpOk cols l) := hz
      go_wp2_with fail
      refine con.mono ?_
      rintro e w2 ⟨rfl, hb2⟩
      clear con
      have hA := chain hb1 hb2
      have z2 := hb2.size
      have z1 := hb1.size
      go_wp2_with (first | (at_make; refine wpList_make_full _ rfl _ _ 28 rfl w2.heap.size 53 i0 _ 2 Tryz.underlying28 hi hz0 hz1 .i64 .i64 l.length l.length l.length rfl rfl rfl rfl (by rw [hz2]; omega) (by unfold maxLen; omega) (Nat.le_refl _) ?_))
      intro w3 hown hgrow
      have hb3 : Below w2.heap.size w2 w3 := (Below.refl _ _).grown hgrow (Nat.le_refl _) (by simp)
      obtain ⟨f, hf⟩ : ∃ f : Nat → Zp, f = (fun j => (mapL xs l).getD j ([], 0)) := ⟨_, rfl⟩
      have HFn : Hid (f = (fun j => (mapL xs l).getD j ([], 0))) := hf
      clear hf
      have hB0 : MTo w3 w2.heap.size l.length f 0 := ⟨_, hown, fun j _ hj => absurd hj (Nat.not_lt_zero _)⟩
      clear hown hgrow
      go_wp2_with fail
      go_loopw [34] (fun i wr => ∃ k : Nat, k ≤ l.length ∧ i = .int .i64 k ∧ MTo wr w2.heap.size l.length f k ∧ Below w2.heap.size w2 wr) (fun i _ => l.length - (intOf i).toNat)
      case atStart => exact ⟨0, Nat.zero_le _, rfl, hB0, hb3⟩
      case round =>
        clear hB0 hb3
        obtain ⟨k, hk, rfl, HB, hb⟩ := hrel
        have hz := hb.size
        by_cases hlt : k < l.length
        · obtain ⟨b, off, rfl, hbl, c1, ar, cr, c0, sr⟩ := (h.next (chain hA hb)).elem hlt
          have hal : Below wr.heap.size wr (wr.alloc (.cells #[.slice ar l[k].1.length cr, .int .i64 l[k].2] 53)) := (Below.refl _ _).alloc (Nat.le_refl _) _
          have hd : Below (wr.alloc (.cells #[.slice ar l[k].1.length cr, .int .i64 l[k].2] 53)).heap.size (wr.alloc (.cells #[.slice ar l[k].1.length cr, .int .i64 l[k].2] 53)) (wr.alloc (.cells #[.slice ar l[k].1.length cr, .int .i64 l[k].2] 53)).drew := (Below.refl _ _).drew
          have hbk : Below w1.heap.size w1 (wr.alloc (.cells #[.slice ar l[k].1.length cr, .int .i64 l[k].2] 53)).drew := (chain (chain (chain hb2 hb) hal) hd)
          have con := HD.out l[k].1 ar cr _ (HO.out.fit l[k] (List.getElem_mem hlt)) ((sr.next hal).next hd) (Since.of hbk)
          have q0 : (wr.alloc (.cells #[.slice ar l[k].1.length cr, .int .i64 l[k].2] 53)).cell? ⟨wr.heap.size, 0, none⟩ = some (.slice ar l[k].1.length cr) := by simp
          have q1 : (wr.alloc (.cells #[.slice ar l[k].1.length cr, .int .i64 l[k].2] 53)).cell? ⟨wr.heap.size, 1, none⟩ = some (.int .i64 l[k].2) := by simp
          have za : (wr.alloc (.cells #[.slice ar l[k].1.length cr, .int .i64 l[k].2] 53)).heap.size = wr.heap.size + 1 := by simp
          have ef : f k = (rowX xs l[k].1, l[k].2) := by rw [HFn.out]; simp [mapL, List.getD, hlt]
          have EF : Hid (f k = (rowX xs l[k].1, l[k].2)) := ef
          have hrl : xs.length = (rowX xs l[k].1).length := by simp [rowX]
          have HR : Hid (xs.length = (rowX xs l[k].1).length) := hrl
          have i0' : (0 : Int) ≤ (k : Int) := by omega
          have i1 : (k : Int) < (l.length : Int) := by omega
          clear ef hrl
          go_wp2_with fail
          clear c0 c1 sr
          generalize wr.alloc (.cells #[.slice ar l[k].1.length cr, .int .i64 l[k].2] 53) = wk at *
          obtain ⟨⟨t0, t1, e0, e1⟩, f0, f1, hlb⟩ := (HB.next hal).cells hlt
          go_region_with (go_at_fn g; refine con.mono ?_; rintro e w5 ⟨rfl, hR, hb5⟩; have HB5 := ((HB.next hal).next hd).next hb5; obtain ⟨⟨u0, u1, d0, d1⟩, g0, g1, hlb5⟩ := HB5.cells hlt; have r1 := ((hd.trans (hb5.mono hd.size)).cell (p := ⟨wr.heap.size, 1, none⟩) (by show wr.heap.size < _; omega)).trans q1)
          all_goals (
            go_wp2_with fail
            go_roundw
            case rel =>
              refine ⟨k + 1, by omega, by go_num, ?_, ?_⟩
              · have := HB5.step hlt (a := some ⟨wk.drew.heap.size, 0, none⟩) (cap := xs.length) (by rw [EF.out]; exact hR.1) hR.2
                rw [EF.out, ← HR.out, show wk.drew.heap.size = wr.heap.size + 1 from za] at this
                exact this
              · exact ((chain (chain hb hal) (hd.trans (hb5.mono hd.size))).setCell (p := ⟨w2.heap.size, k * 2, none⟩) (Nat.le_refl _) _).setCell (p := ⟨w2.heap.size, k * 2 + 1, none⟩) (Nat.le_refl _) _
            case measure => simp [intOf]; omega)
        · have e : k = l.length := by omega
          subst e
          have hml : (mapL xs l).length = l.length := by simp [mapL]
          have zsm := HB.done (mapL xs l) hml.symm (fun j hj => by rw [HFn.out]; simp [List.getD, hj]) (by omega)
          have con := gathered_at (some ⟨w2.heap.size, 0, none⟩) l.length (mapL xs l) wr zsm (by omega) (fun y hy => by obtain ⟨p, hp, rfl⟩ := List.mem_map.1 hy; exact inW_big (set_in HO.out p hp)) (fun y hy => by obtain ⟨p, hp, rfl⟩ := List.mem_map.1 hy; have := (listE_ok H1.out).1; simpa [rowX] using this)
          rw [hml] at con
          have HV' := HV.out
          have HE' := HE.out
          rw [← HE', ← HV'] at con
          clear HV' HE' zsm HB
          go_wp2_with fail
          refine con.mono ?_
          rintro e w6 ⟨v6, rfl, O6, hb6⟩
          have hA6 := chain hA hb
          have O6' := O6.mono hA6.size
          obtain ⟨a6, c6, rfl, _⟩ := O6.zs
          go_wp2_with fail
          exact bodyPost_ret (v := .tuple #[.slice a6 fz.length c6, .int .i64 fe]) (by simp [results, Tryz.results12, go_sem]) rfl ⟨_, rfl, O6', chain hA6 hb6⟩
    · have e0 : fe = inpE cols l := by rw [← HF.out]; unfold mapE; rw [H1.out, if_neg (by simp), if_pos h2]
      have e1 : fz = [] := by rw [← HZ.out]; unfold mapZ; rw [HF.out, e0, if_neg h2]
      have hne : (inpE cols l != 0) = true := by simpa using h2
      rw [← e0] at con hne
      have HV : Hid (fz = []) := e1
      clear e0 e1
      go_wp2_with fail
      refine con.mono ?_
      rintro e w2 ⟨rfl, hb2⟩
      clear con
      go_wp2_with fail
      exact bodyPost_ret (v := .tuple #[.slice none 0 0, .int .i64 fe]) (by simp [results, Tryz.results12, go_sem]) rfl ⟨_, rfl, by rw [HV.out]; exact own_nil _ _, chain hb1 hb2⟩
  · have e0 : fe = listE cols xs := by rw [← HF.out]; unfold mapE; rw [if_pos h1]
    have e1 : fz = [] := by rw [← HZ.out]; unfold mapZ; rw [HF.out, e0, if_neg h1]
    have hne : (listE cols xs != 0) = true := by simpa using h1
    have HL : Hid (¬ listE cols xs = 0) := h1
    rw [← e0] at hne
    have HV : Hid (fz = []) := e1
    have HN : Hid (fe = listE cols xs) := e0
    clear e0 e1 h1
    go_enter Tryz.func12, Tryz.ntmps12
    go_wp2_with fail
    refine con.mono ?_
    rintro e w1 ⟨u, rfl, hL, hb1⟩
    obtain ⟨_, rfl⟩ : ¬ listE cols xs = 0 ∧ u = .nilFunc := by
      rcases hL with ⟨hL, _⟩ | hL
      · exact absurd hL HL.out
      · exact hL
    rw [← HN.out]
    clear con
    go_wp2_with fail
    exact bodyPost_ret (v := .tuple #[.slice none 0 0, .int .i64 fe]) (by simp [results, Tryz.results12, go_sem]) rfl ⟨_, rfl, by rw [HV.out]; exact own_nil _ _, hb1⟩
end Go.Proofs.YtfgpfnhbcbhkfadGreat
