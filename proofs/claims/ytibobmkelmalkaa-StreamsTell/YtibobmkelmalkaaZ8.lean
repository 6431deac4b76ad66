/- The walk of zsets.summed: rows that are there. -/
import Derived.Test.YtibobmkelmalkaaZ7
namespace Go.Proofs.Ytibobmkelmalkaa
open Go.RowKit Go.Lib Go.Shelf

def bigW (w : Int) : Bool := decide (-1000000000000 ≤ w) && decide (w ≤ 1000000000000)
theorem bigW_iff (x : Int) : bigW x = true ↔ -1000000000000 ≤ x ∧ x ≤ 1000000000000 := by simp [bigW]
theorem inW_iff (x : Int) : inW x = true ↔ -1000000 ≤ x ∧ x ≤ 1000000 := by simp [inW]

theorem inW_big {x : Int} (h : inW x = true) : bigW x = true := by
  rw [inW_iff] at h
  rw [bigW_iff]
  omega

set_option maxRecDepth 100000 in
set_option maxHeartbeats 4000000 in
theorem summed_some (a : Option Addr) (cap : Nat) (l : List Zp) (w : World) (h : ZsAt w a l) (hl : l.length ≤ 200000) (hn : 0 < l.length) (hw : ∀ x ∈ l, bigW x.2 = true) :
    Calls Try.prog 29 #[.slice a l.length cap] w fun e w' => ∃ s a' c', e = .returned (.slice a' (mergedL s).length c') ∧ s.Perm l ∧ (s.Pairwise fun x y => cmpL x.1 y.1 ≤ 0) ∧ ZsAt w' a' (mergedL s) ∧ Below w.heap.size w w' := by
  obtain ⟨i0, hi, hj0, hj1, hj2⟩ := info_parts Try.info42
  obtain ⟨d, hd, hdl, hc⟩ := h.arr
  go_enter Try.func29, Try.ntmps29
  go_wp2_with fail
  refine (clone_at a cap l w d hd (by omega) hc).mono ?_
  rintro e w1 ⟨v, rfl, hown, hb1⟩
  obtain ⟨g, c, rfl, hg, hgl⟩ := own_some hown hn
  have hH := own_holdsK hd.symm hown
  have hH := own_holdsK hd.symm hown
  have hH := own_holdsK hd.symm hown
  have hH := own_holdsK hd.symm hown
  have hH := own_holdsK hd.symm hown
  have con := sort_at w w1 hb1 g 0 c hg d hH hgl (by omega)
  rw [hd] at con
  have HN : Hid (0 < l.length) := hn
  clear hn hown hc
  go_wp2_with fail
  refine con.mono ?_
  clear con
  rintro e w2 ⟨rfl, d', n, os, hp, hs, hw2⟩
  obtain ⟨hd', hperm, hsort⟩ := sorted_list hd hp hs
  rw [hdl] at hperm
  have hb2 : Below w.heap.size w w2 := by rw [hw2]; exact below_sortWorld hb1 hg
  have hgl2 : g < w2.heap.size := by
    rw [hw2]
    exact Nat.lt_of_lt_of_le hgl (size_sortWorldK_c (encG w) 2 w1 g 0 n d' os)
  have zs : ZsAt w2 (some ⟨g, 0, none⟩) (d'.toList.map (plG w)) := by
    refine holdsK_zs hb2 ?_ hgl2 (by omega)
    rw [hw2]
    exact holdsK_sortWorldK_c (encG w) 2 w1 g 0 d d' n os hH hgl (by omega)
  generalize hs0 : d'.toList.map (plG w) = s at hperm hsort zs
  have hsl : s.length = l.length := by rw [← hs0]; simp [hd']
  have hws : ∀ x ∈ s, bigW x.2 = true := fun x hx => hw x (hperm.mem_iff.1 hx)
  have HP : Hid (s.Perm l) := hperm
  have HSo : Hid (s.Pairwise fun x y => cmpL x.1 y.1 ≤ 0) := hsort
  clear hperm hsort hw2 hs0 hd' hp hs hH hdl hd hgl h hw
  rw [← hsl]
  rw [← hsl] at hl
  clear HN
  go_wp2_with fail
  go_loopw [3, 13] (fun v i wr => ∃ k : Nat, k ≤ s.length ∧ i = .int .i64 k ∧ SumTo w2 wr v (mergedL (s.take k)) ∧ Below w2.heap.size w2 wr) (fun _ i _ => s.length - (intOf i).toNat)
  case atStart => exact ⟨0, Nat.zero_le _, rfl, ⟨[], World.ownsRow_nil _ _ _ _, rfl, fun i hi => by simp [mergedL] at hi⟩, Below.refl _ _⟩
  case round =>
    obtain ⟨k, hk, rfl, HS, hb⟩ := hrel
    have hz := hb.size
    by_cases hlt : k < s.length
    · obtain ⟨b, off, hh, hbl, c1, ar, cr, c0, sr⟩ := (zs.next hb).elem hlt
      obtain ⟨b', off', hh', hbl', c1', ar', cr', c0', sr'⟩ := zs.elem hlt
      simp only [Option.some.injEq, Addr.mk.injEq, and_true] at hh hh'
      obtain ⟨rfl, rfl⟩ := hh
      obtain ⟨rfl, rfl⟩ := hh'
      have ee := (hb.cell (p := ⟨g, _, none⟩) hgl2).trans c0'
      rw [c0] at ee
      simp only [Option.some.injEq, Value.slice.injEq, true_and] at ee
      obtain ⟨rfl, rfl⟩ := ee
      clear c0' c1' hbl'
      simp only [Nat.zero_add] at c0 c1
      have step : Hid (mergedL (s.take (k + 1)) = mergeTo (mergedL (s.take k)) s[k]) := by
        show mergedL (s.take (k + 1)) = _
        rw [List.take_succ_eq_append_getElem hlt, mergedL_snoc]
      have hlen := mergedL_len (s.take k)
      simp only [List.length_take] at hlen
      have hbd := mergedL_bd 1000000000000 (by omega) (s.take k) (fun x hx => (bigW_iff _).1 (hws x (List.mem_of_mem_take hx)))
      have hx := (bigW_iff _).1 (hws s[k] (List.getElem_mem hlt))
      generalize hacc : mergedL (s.take k) = acc at HS step hlen hbd
      clear hacc
      rcases List.eq_nil_or_concat acc with e | ⟨a', y, e⟩
      · subst e
        obtain ⟨xs, ho, he⟩ := HS
        obtain ⟨a3, c3, rfl⟩ := own_shape ho
        simp only [List.length_nil] at ho
        have hbA : Below wr.heap.size wr (wr.alloc (.cells #[.slice ar s[k].1.length cr, .int .i64 s[k].2] 45)) := (Below.refl _ _).alloc (Nat.le_refl _) _
        have q0 : (wr.alloc (.cells #[.slice ar s[k].1.length cr, .int .i64 s[k].2] 45)).cell? ⟨wr.heap.size, 0, none⟩ = some (.slice ar s[k].1.length cr) := by simp
        have q1 : (wr.alloc (.cells #[.slice ar s[k].1.length cr, .int .i64 s[k].2] 45)).cell? ⟨wr.heap.size, 1, none⟩ = some (.int .i64 s[k].2) := by simp
        haveI : Nonempty (Past (wr.alloc (.cells #[.slice ar s[k].1.length cr, .int .i64 s[k].2] 45))) := ⟨⟨_, Below.refl _ _⟩⟩
        simp only [List.length_nil]
        go_wp2_with fail
        generalize wr.alloc (.cells #[.slice ar s[k].1.length cr, .int .i64 s[k].2] 45) = wA at *
        refine wp_region_past (by kernel_rfl) (by kernel_rfl) ?_
        repeat (go_big_quiet_step (fail))
        refine wpQuiet_nil ?_
        rintro w4 ⟨⟨v4, hb4⟩, h4⟩
        obtain rfl : w4 = v4 := h4
        have ho4 := own_next (own_next ho hbA) hb4
        have r0 := (hb4.cell (p := ⟨wr.heap.size, 0, none⟩) (World.block_lt_of_cell? _ _ q0)).trans q0
        have r1 := (hb4.cell (p := ⟨wr.heap.size, 1, none⟩) (World.block_lt_of_cell? _ _ q1)).trans q1
        have hzA := hbA.size
        have hz4 := hb4.size
        clear ho
        go_wp2_with (at_builtin; refine wpList_append_own _ rfl _ _ 34 rfl w2.heap.size 45 i0 _ 2 32 Try.underlying34 hi hj0 hj1 hj2 rfl (by decide) _ _ _ rfl (ho4.alloc _) ⟨w4.heap.size, 0, none⟩ 1 1 [.slice ar s[k].1.length cr, .int .i64 s[k].2] rfl rfl ?Ac1 ?Ac2 ?Ac3 ?Ac4 ?Ac5 ?_)
        case Ac1 =>
          intro j u hj
          match j, hj with
          | 0, hj => simp at hj; subst hj; simp [Addr.add]
          | 1, hj => simp at hj; subst hj; simp [Addr.add]
        case Ac2 => intro u hu; simp at hu; rcases hu with rfl | rfl <;> rfl
        case Ac3 => unfold maxLen; first | omega | (simp; done) | (simp; omega)
        case Ac4 => first | omega | (simp; done) | (simp; omega)
        case Ac5 => simp; omega
        intro v' w5 ho5 hg5 _
        have hb5 : Below w2.heap.size w2 w5 := ((chain1 hb (chain1 hbA hb4)).alloc (by omega) _).grown hg5 (by simp; omega) (fun q hq => ((ho4.alloc (.cells #[.slice ar s[k].1.length cr, .int .i64 s[k].2] 45)).lt q hq).1)
        clear hg5 ho4 q0 q1
        go_wp2_with fail
        go_roundw
        case rel => exact ⟨k + 1, by omega, by go_num, by rw [step.out, mergeTo_nil]; exact ⟨_, ho5, he.push sr'⟩, hb5⟩
        case measure => simp [intOf]; omega
      · rw [List.concat_eq_append] at e
        subst e
        by_cases hc : cmpL y.1 s[k].1 = 0
        · have HS0 := HS
          obtain ⟨xs, ho, he⟩ := HS
          obtain ⟨g3, c3, rfl, hg3, hg3l⟩ := own_some ho (by simp)
          obtain ⟨ay, cy, x0, x1, sy⟩ := he.2 a'.length (by simp)
          simp only [List.getElem_concat_length] at x0 x1 sy
          have y0 : wr.cell? ⟨g3, a'.length * 2, none⟩ = some (.slice ay y.1.length cy) := by rw [ho.cellAt _ (by simp <;> omega)]; exact x0
          have y1 : wr.cell? ⟨g3, a'.length * 2 + 1, none⟩ = some (.int .i64 y.2) := by rw [ho.cellAt _ (by simp <;> omega)]; exact x1
          have f1 : wr.frozen? ⟨g3, a'.length * 2 + 1, none⟩ = false := ho.frozenAt _
          have el : (a' ++ [y]).length = a'.length + 1 := by simp
          rw [el] at ho HS0 ⊢
          have hy := hbd y (by simp)
          rw [el] at hlen
          have hkk : ((s.take k).length : Int) ≤ 200000 := by rw [List.length_take]; omega
          have hbA : Below wr.heap.size wr (wr.alloc (.cells #[.slice ar s[k].1.length cr, .int .i64 s[k].2] 45)) := (Below.refl _ _).alloc (Nat.le_refl _) _
          have q0 : (wr.alloc (.cells #[.slice ar s[k].1.length cr, .int .i64 s[k].2] 45)).cell? ⟨wr.heap.size, 0, none⟩ = some (.slice ar s[k].1.length cr) := by simp
          have q1 : (wr.alloc (.cells #[.slice ar s[k].1.length cr, .int .i64 s[k].2] 45)).cell? ⟨wr.heap.size, 1, none⟩ = some (.int .i64 s[k].2) := by simp
          have y0A := (hbA.cell (p := ⟨g3, _, none⟩) hg3l).trans y0
          have y1A := (hbA.cell (p := ⟨g3, _, none⟩) hg3l).trans y1
          have f1A := (hbA.frozen (p := ⟨g3, _, none⟩) hg3l).trans f1
          have hgA : g3 < (wr.alloc (.cells #[.slice ar s[k].1.length cr, .int .i64 s[k].2] 45)).heap.size := Nat.lt_of_lt_of_le hg3l hbA.size
          haveI : Nonempty (Past (wr.alloc (.cells #[.slice ar s[k].1.length cr, .int .i64 s[k].2] 45))) := ⟨⟨_, Below.refl _ _⟩⟩
          have sA := sr.next hbA
          have tA := (sy.next hb).next hbA
          have e1 : ((a'.length + 1 : Nat) : Int) - 1 = (a'.length : Int) := by omega
          have i1 : (0 : Int) ≤ (a'.length : Int) := by omega
          have i2 : (a'.length : Int) < ((a'.length + 1 : Nat) : Int) := by omega
          have i3 : a'.length < a'.length + 1 := by omega
          clear y0 y1 f1 x0 x1
          have HC : Hid (cmpL y.1 s[k].1 = 0) := hc
          go_wp2_with fail
          generalize wr.alloc (.cells #[.slice ar s[k].1.length cr, .int .i64 s[k].2] 45) = wA at *
          have p0 := past_cell y0A
          have p1 := past_cell q0
          refine wp_region_past (by kernel_rfl) (by kernel_rfl) ?_
          repeat (go_big_quiet_step (first | (go_at_call 39; exact in_past (rows_at _ _ _ _ _ _ _ (tA.next (Past.ok _)) (sA.next (Past.ok _))))))
          refine wpQuiet_nil ?_
          rintro w4 ⟨⟨v4, hb4⟩, h4⟩
          obtain rfl : w4 = v4 := h4
          clear p0 p1
          have r0 := (hb4.cell (p := ⟨wr.heap.size, 0, none⟩) (World.block_lt_of_cell? _ _ q0)).trans q0
          have r1 := (hb4.cell (p := ⟨wr.heap.size, 1, none⟩) (World.block_lt_of_cell? _ _ q1)).trans q1
          have z0 := (hb4.cell (p := ⟨g3, _, none⟩) hgA).trans y0A
          have z1 := (hb4.cell (p := ⟨g3, _, none⟩) hgA).trans y1A
          have zf := (hb4.frozen (p := ⟨g3, _, none⟩) hgA).trans f1A
          have hzA := hbA.size
          have hz4 := hb4.size
          have HS4 := (HS0.next hbA).next hb4
          clear ho y0A y1A f1A q0 q1
          have hv1 : -9223372036854775808 ≤ y.2 + s[k].2 := by omega
          have hv2 : y.2 + s[k].2 ≤ 9223372036854775807 := by omega
          go_wp2_with fail
          go_region
          have hb5 : Below w2.heap.size w2 (w4.setCell ⟨g3, a'.length * 2 + 1, none⟩ (.int .i64 (y.2 + s[k].2))).drew := ((chain1 hb (chain1 hbA hb4)).setCell (p := ⟨g3, a'.length * 2 + 1, none⟩) hg3 _).drew
          have HS5 : SumTo w2 (w4.setCell ⟨g3, a'.length * 2 + 1, none⟩ (.int .i64 (y.2 + s[k].2))).drew (.slice (some ⟨g3, 0, none⟩) (a'.length + 1) c3) (a' ++ [(y.1, y.2 + s[k].2)]) := (HS4.last _).next ((Below.refl _ _).drew)
          clear HS4 HS0 z0 z1 zf r0 r1
          go_wp2_with fail
          go_roundw
          case rel => exact ⟨k + 1, by omega, by go_num, by rw [step.out, mergeTo_snoc, if_pos HC.out]; exact HS5, hb5⟩
          case measure => simp [intOf]; omega
        · have HS0 := HS
          obtain ⟨xs, ho, he⟩ := HS
          obtain ⟨g3, c3, rfl, hg3, hg3l⟩ := own_some ho (by simp)
          obtain ⟨ay, cy, x0, x1, sy⟩ := he.2 a'.length (by simp)
          simp only [List.getElem_concat_length] at x0 x1 sy
          have y0 : wr.cell? ⟨g3, a'.length * 2, none⟩ = some (.slice ay y.1.length cy) := by rw [ho.cellAt _ (by simp <;> omega)]; exact x0
          have y1 : wr.cell? ⟨g3, a'.length * 2 + 1, none⟩ = some (.int .i64 y.2) := by rw [ho.cellAt _ (by simp <;> omega)]; exact x1
          have f1 : wr.frozen? ⟨g3, a'.length * 2 + 1, none⟩ = false := ho.frozenAt _
          have el : (a' ++ [y]).length = a'.length + 1 := by simp
          rw [el] at ho HS0 ⊢
          have hy := hbd y (by simp)
          rw [el] at hlen
          have hkk : ((s.take k).length : Int) ≤ 200000 := by rw [List.length_take]; omega
          have hbA : Below wr.heap.size wr (wr.alloc (.cells #[.slice ar s[k].1.length cr, .int .i64 s[k].2] 45)) := (Below.refl _ _).alloc (Nat.le_refl _) _
          have q0 : (wr.alloc (.cells #[.slice ar s[k].1.length cr, .int .i64 s[k].2] 45)).cell? ⟨wr.heap.size, 0, none⟩ = some (.slice ar s[k].1.length cr) := by simp
          have q1 : (wr.alloc (.cells #[.slice ar s[k].1.length cr, .int .i64 s[k].2] 45)).cell? ⟨wr.heap.size, 1, none⟩ = some (.int .i64 s[k].2) := by simp
          have y0A := (hbA.cell (p := ⟨g3, _, none⟩) hg3l).trans y0
          have y1A := (hbA.cell (p := ⟨g3, _, none⟩) hg3l).trans y1
          have f1A := (hbA.frozen (p := ⟨g3, _, none⟩) hg3l).trans f1
          have hgA : g3 < (wr.alloc (.cells #[.slice ar s[k].1.length cr, .int .i64 s[k].2] 45)).heap.size := Nat.lt_of_lt_of_le hg3l hbA.size
          haveI : Nonempty (Past (wr.alloc (.cells #[.slice ar s[k].1.length cr, .int .i64 s[k].2] 45))) := ⟨⟨_, Below.refl _ _⟩⟩
          have sA := sr.next hbA
          have tA := (sy.next hb).next hbA
          have e1 : ((a'.length + 1 : Nat) : Int) - 1 = (a'.length : Int) := by omega
          have i1 : (0 : Int) ≤ (a'.length : Int) := by omega
          have i2 : (a'.length : Int) < ((a'.length + 1 : Nat) : Int) := by omega
          have i3 : a'.length < a'.length + 1 := by omega
          clear y0 y1 f1 x0 x1
          have HC : Hid (¬ cmpL y.1 s[k].1 = 0) := hc
          have b0 : (cmpL y.1 s[k].1 == 0) = false := by simpa using hc
          go_wp2_with fail
          generalize wr.alloc (.cells #[.slice ar s[k].1.length cr, .int .i64 s[k].2] 45) = wA at *
          have p0 := past_cell y0A
          have p1 := past_cell q0
          refine wp_region_past (by kernel_rfl) (by kernel_rfl) ?_
          repeat (go_big_quiet_step (first | (go_at_call 39; exact in_past (rows_at _ _ _ _ _ _ _ (tA.next (Past.ok _)) (sA.next (Past.ok _))))))
          refine wpQuiet_nil ?_
          rintro w4 ⟨⟨v4, hb4⟩, h4⟩
          obtain rfl : w4 = v4 := h4
          clear p0 p1
          have r0 := (hb4.cell (p := ⟨wr.heap.size, 0, none⟩) (World.block_lt_of_cell? _ _ q0)).trans q0
          have r1 := (hb4.cell (p := ⟨wr.heap.size, 1, none⟩) (World.block_lt_of_cell? _ _ q1)).trans q1
          have z0 := (hb4.cell (p := ⟨g3, _, none⟩) hgA).trans y0A
          have z1 := (hb4.cell (p := ⟨g3, _, none⟩) hgA).trans y1A
          have zf := (hb4.frozen (p := ⟨g3, _, none⟩) hgA).trans f1A
          have hzA := hbA.size
          have hz4 := hb4.size
          have ho4 := own_next (own_next ho hbA) hb4
          clear ho y0A y1A f1A
          go_wp2_with (at_builtin; refine wpList_append_own _ rfl _ _ 34 rfl w2.heap.size 45 i0 _ 2 32 Try.underlying34 hi hj0 hj1 hj2 rfl (by decide) _ _ _ rfl (ho4.alloc _) ⟨w4.heap.size, 0, none⟩ 1 1 [.slice ar s[k].1.length cr, .int .i64 s[k].2] rfl rfl ?Bc1 ?Bc2 ?Bc3 ?Bc4 ?Bc5 ?_)
          case Bc1 =>
            intro j u hj
            match j, hj with
            | 0, hj => simp at hj; subst hj; simp [Addr.add]
            | 1, hj => simp at hj; subst hj; simp [Addr.add]
          case Bc2 => intro u hu; simp at hu; rcases hu with rfl | rfl <;> rfl
          case Bc3 => unfold maxLen; first | omega | (simp; done) | (simp; omega)
          case Bc4 => first | omega | (simp; done) | (simp; omega)
          case Bc5 => simp; omega
          intro v' w5 ho5 hg5 _
          have hb5 : Below w2.heap.size w2 w5 := ((chain1 hb (chain1 hbA hb4)).alloc (by omega) _).grown hg5 (by simp; omega) (fun q hq => ((ho4.alloc (.cells #[.slice ar s[k].1.length cr, .int .i64 s[k].2] 45)).lt q hq).1)
          clear hg5 ho4 q0 q1
          go_wp2_with fail
          go_roundw
          case rel => exact ⟨k + 1, by omega, by go_num, by rw [step.out, mergeTo_snoc, if_neg HC.out]; exact ⟨_, by simpa using ho5, he.push sr'⟩, hb5⟩
          case measure => simp [intOf]; omega
    · have e : k = s.length := by omega
      subst e
      rw [List.take_length] at HS
      obtain ⟨xs, ho, he⟩ := HS
      obtain ⟨a3, c3, rfl, z3⟩ := own_zsB ho rfl he hb
      go_wp2_with fail
      go_ret
      exact ⟨s, a3, c3, rfl, HP.out, HSo.out, z3, hb2.trans (hb.mono hb2.size)⟩
end Go.Proofs.Ytibobmkelmalkaa
