/- What is wrong with a set of rows of columns; the rows that are asked for. -/
import Derived.Test.YtfgpfnhbcbhkfadGreatK5
import Derived.Test.YtfgpfnhbcbhkfadGreatZC
import Derived.Test.YtfgpfnhbcbhkfadGreatY7
namespace Go.Proofs.YtfgpfnhbcbhkfadGreat
open Go.RowKit Go.Lib Go.Shelf

set_option maxHeartbeats 2000000 in
theorem wrongS_at (cols : List Int) (ca : Option Addr) (ccap : Nat) (a : Option Addr) (cap : Nat) (l : List Zp) (w : World) (hc : IsAt w.heap.size w ca cols) (h : ZsAt w a l) :
    Calls Tryz.prog 31 #[.slice ca cols.length ccap, .slice a l.length cap] w fun e w' => e = .returned (.int .i64 (inpE cols l)) ∧ Below w.heap.size w w' := by
  have hl := h.1
  unfold maxLen at hl
  have hcl := hc.1
  unfold maxLen at hcl
  by_cases h8 : 8 < cols.length
  · have e : inpE cols l = 5 := by simp [inpE, h8]
    rw [e]
    have hz : (8 : Int) < (cols.length : Int) := by omega
    go_enter Tryz.func31, Tryz.ntmps31
    go_wp2_with fail
    go_ret
    exact ⟨rfl, Below.refl _ _⟩
  have hz : ¬ (8 : Int) < (cols.length : Int) := by omega
  by_cases hw : wrongZ l = 0
  · have e : inpE cols l = fitsZ cols l := by simp [inpE, h8, hw]
    rw [e]
    clear e
    have Hw : Hid (wrongZ l = 0) := hw
    clear hw
    go_enter Tryz.func31, Tryz.ntmps31
    go_wp2_with fail
    refine (zWrong_at _ _ _ _ h).mono ?_
    rintro e w1 ⟨rfl, hb1⟩
    rw [Hw.out]
    go_wp2_with fail
    go_loopw [19] (fun i wr => ∃ k : Nat, k ≤ l.length ∧ i = .int .i64 k ∧ Hid (fitsZ cols l = fitsZ cols (l.drop k)) ∧ Below w.heap.size w wr) (fun i _ => l.length - (intOf i).toNat)
    case atStart => exact ⟨0, Nat.zero_le _, rfl, rfl, hb1⟩
    case round =>
      obtain ⟨k, hk, rfl, HC, hb⟩ := hrel
      have hz := hb.size
      by_cases hlt : k < l.length
      · obtain ⟨b, off, rfl, hbl, c1, ar, cr, c0, sr⟩ := (h.next hb).elem hlt
        have hA := hb.alloc hz (.cells #[.slice ar l[k].1.length cr, .int .i64 l[k].2] 53)
        have hal : Below wr.heap.size wr (wr.alloc (.cells #[.slice ar l[k].1.length cr, .int .i64 l[k].2] 53)) := (Below.refl _ _).alloc (Nat.le_refl _) _
        have con := fits_at cols l[k].1 ca ccap ar cr _ ((hc.next hA (Nat.le_refl _)).up hA.size) (sr.next hal)
        by_cases hw : fitsL cols l[k].1 = 0
        · have Hw : Hid (fitsL cols l[k].1 = 0) := hw
          rw [hw] at con
          clear hw
          go_wp2_with fail
          refine con.mono ?_
          rintro e w2 ⟨rfl, hb2⟩
          go_wp2_with fail
          go_roundw
          case rel => exact ⟨k + 1, by omega, by go_num, HC.out.trans (fitsZ_next cols l k hlt Hw.out), chain2 hb hb2⟩
          case measure => simp [intOf]; omega
        · have HN : Hid (fitsZ cols l = fitsL cols l[k].1) := HC.out.trans (fitsZ_bad cols l k hlt hw)
          have hne : (fitsL cols l[k].1 != 0) = true := by simpa using hw
          generalize fitsL cols l[k].1 = t at *
          go_wp2_with fail
          refine con.mono ?_
          rintro e w2 ⟨rfl, hb2⟩
          go_wp2_with fail
          go_ret
          exact ⟨ret_int HN.out.symm, chain2 hb hb2⟩
      · have HN : Hid (fitsZ cols l = 0) := HC.out.trans (fitsZ_end cols l k (by omega))
        go_wp2_with fail
        go_ret
        exact ⟨ret_int HN.out.symm, hb⟩
  · have e : inpE cols l = wrongZ l := by simp [inpE, h8, hw]
    rw [e]
    have hne : (wrongZ l != 0) = true := by simpa using hw
    go_enter Tryz.func31, Tryz.ntmps31
    go_wp2_with fail
    refine (zWrong_at _ _ _ _ h).mono ?_
    rintro e w1 ⟨rfl, hb1⟩
    go_wp2_with fail
    go_ret
    exact ⟨rfl, hb1⟩

/-- A slice of one's own, whose rows' values lie in w0. -/
def OwnB (w0 : World) (base : Nat) (W : World) (v : Value) (l : List Zp) : Prop := ∃ xs, W.ownsRow base 53 2 v l.length xs ∧ EncB w0 xs l
theorem OwnB.next {w0 W w1 : World} {base : Nat} {v : Value} {l : List Zp} (h : OwnB w0 base W v l) (hb : Below W.heap.size W w1) : OwnB w0 base w1 v l := by
  obtain ⟨xs, h1, h2⟩ := h
  exact ⟨xs, own_next h1 hb, h2⟩
theorem OwnB.zs {w0 W : World} {base : Nat} {v : Value} {l : List Zp} (h : OwnB w0 base W v l) (hb : Below w0.heap.size w0 W) : ∃ a cap, v = .slice a l.length cap ∧ ZsAt W a l ∧ (a = none → cap = 0) := by
  obtain ⟨xs, h1, h2⟩ := h
  have h1' := h1
  obtain ⟨hx, ⟨rfl, h0⟩ | ⟨g, cap, cur, rfl, hg, hh, hn, hc, hs, ht⟩⟩ := h1
  · have : l = [] := List.eq_nil_of_length_eq_zero h0
    subst this
    exact ⟨none, 0, rfl, ⟨by simp, .inl rfl⟩, fun _ => rfl⟩
  · refine ⟨_, cap, rfl, ⟨by omega, .inr ⟨g, 0, rfl, (h1'.lt g rfl).2, fun i hi => ?_⟩⟩, fun e => by cases e⟩
    obtain ⟨a, cp, e0, e1, e2⟩ := h2.2 i hi
    refine ⟨?_, a, cp, ?_, e2.next hb⟩
    · rw [h1'.cellAt _ (by omega), ← e1]; congr 1; omega
    · rw [h1'.cellAt _ (by omega), ← e0]; congr 1; omega
theorem own_since {lo base e size n : Nat} {W w1 : World} {v : Value} {xs : List Value} (h : W.ownsRow base e size v n xs) (hl : lo ≤ base) (hs : Since lo W w1) : w1.ownsRow base e size v n xs := by
  have h' := h
  obtain ⟨hx, h1 | ⟨g, cap, cur, rfl, hg, hh, rest⟩⟩ := h
  · exact ⟨hx, .inl h1⟩
  · exact ⟨hx, .inr ⟨g, cap, cur, rfl, hg, by rw [hs.2 g (by omega) (h'.lt g rfl).2]; exact hh, rest⟩⟩
theorem filter_take {l : List Zp} (p : Zp → Bool) {k : Nat} (h : k < l.length) : (l.take (k + 1)).filter p = (l.take k).filter p ++ (if p l[k] = true then [l[k]] else []) := by
  rw [List.take_succ_eq_append_getElem h, List.filter_append]
  congr 1
  rw [List.filter_cons]
  rfl

set_option maxHeartbeats 4000000 in
theorem picked_at (g : Nat) (cb : Array Value) (p : Zp → Bool) (a : Option Addr) (cap : Nat) (l : List Zp) (w0 w : World) (Inv : World → Prop) (h : ZsAt w0 a l) (hl : l.length ≤ 100000)
    (eg : ∀ args w, (callFunc g args).run Tryz.prog w = .ok (.enter g args) w) (hI0 : Inv w) (hI1 : ∀ W, Inv W → Below w0.heap.size w0 W) (hI2 : ∀ W W', Inv W → Below w.heap.size W W' → Inv W')
    (hcall : ∀ x ∈ l, ∀ (ra : Option Addr) (rc : Nat) (W : World), Inv W → SlAt w0 ra x.1 → w.heap.size ≤ W.heap.size → Calls Tryz.prog g (#[.agg #[.slice ra x.1.length rc, .int .i64 x.2]] ++ cb) W fun e w' => e = .returned (.bool (p x)) ∧ Inv w' ∧ Since w.heap.size W w') :
    Calls Tryz.prog 33 #[.slice a l.length cap, .func (.func g) #[] cb] w fun e w' => ∃ v, e = .returned v ∧ OwnB w0 w.heap.size w' v (l.filter p) ∧ Inv w' ∧ w.heap.size ≤ w'.heap.size := by
  obtain ⟨i0, hi, hj0, hj1, hj2⟩ := info_parts Tryz.info42
  have HC : Hid (∀ x ∈ l, ∀ (ra : Option Addr) (rc : Nat) (W : World), Inv W → SlAt w0 ra x.1 → w.heap.size ≤ W.heap.size → Calls Tryz.prog g (#[.agg #[.slice ra x.1.length rc, .int .i64 x.2]] ++ cb) W fun e w' => e = .returned (.bool (p x)) ∧ Inv w' ∧ Since w.heap.size W w') := hcall
  have H1 : Hid (∀ W, Inv W → Below w0.heap.size w0 W) := hI1
  have H2 : Hid (∀ W W', Inv W → Below w.heap.size W W' → Inv W') := hI2
  clear hcall hI1 hI2
  go_enter Tryz.func33, Tryz.ntmps33
  go_wp2_with fail
  go_loopw [5, 10] (fun v i wr => ∃ k : Nat, k ≤ l.length ∧ i = .int .i64 k ∧ OwnB w0 w.heap.size wr v ((l.take k).filter p) ∧ Hid (Inv wr) ∧ w.heap.size ≤ wr.heap.size) (fun _ i _ => l.length - (intOf i).toNat)
  case atStart => exact ⟨0, Nat.zero_le _, rfl, ⟨[], by simpa using World.ownsRow_nil _ _ _ _, by simp [EncB]⟩, hI0, Nat.le_refl _⟩
  case round =>
    clear hI0
    obtain ⟨k, hk, rfl, HO, HI, hz⟩ := hrel
    by_cases hlt : k < l.length
    · obtain ⟨b, off, rfl, hbl, d1, ar, cr, d0, sr⟩ := h.elem hlt
      have hB := H1.out _ HI.out
      have c1 := (hB.cell (p := ⟨b, _, none⟩) hbl).trans d1
      have c0 := (hB.cell (p := ⟨b, _, none⟩) hbl).trans d0
      have hbl' : b < wr.heap.size := Nat.lt_of_lt_of_le hbl hB.size
      have hlen : ((l.take k).filter p).length ≤ k := by have := List.length_filter_le p (l.take k); simp only [List.length_take] at this; omega
      have hal : Below wr.heap.size wr (wr.alloc (.cells #[.slice ar l[k].1.length cr, .int .i64 l[k].2] 53)) := (Below.refl _ _).alloc (Nat.le_refl _) _
      have IA : Inv (wr.alloc (.cells #[.slice ar l[k].1.length cr, .int .i64 l[k].2] 53)) := H2.out _ _ HI.out (hal.mono hz)
      have con := HC.out l[k] (List.getElem_mem hlt) ar cr _ IA sr (Nat.le_trans hz hal.size)
      have q0 : (wr.alloc (.cells #[.slice ar l[k].1.length cr, .int .i64 l[k].2] 53)).cell? ⟨wr.heap.size, 0, none⟩ = some (.slice ar l[k].1.length cr) := by simp
      have q1 : (wr.alloc (.cells #[.slice ar l[k].1.length cr, .int .i64 l[k].2] 53)).cell? ⟨wr.heap.size, 1, none⟩ = some (.int .i64 l[k].2) := by simp
      have za : (wr.alloc (.cells #[.slice ar l[k].1.length cr, .int .i64 l[k].2] 53)).heap.size = wr.heap.size + 1 := by simp
      have HS : Hid (SlAt w0 ar l[k].1) := sr
      obtain ⟨xs, ho, he⟩ := HO
      have HE : Hid (EncB w0 xs ((l.take k).filter p)) := he
      have ho1 := own_next ho hal
      clear d0 d1 sr he ho IA
      by_cases hp : p l[k] = true
      · rw [hp] at con
        have HP : Hid (p l[k] = true) := hp
        clear hp
        go_wp2_with (first | (go_at_fn g; refine con.mono ?_; rintro e w1 ⟨rfl, I1, s1⟩; have r0 := (s1.cell (p := ⟨wr.heap.size, 0, none⟩) hz (by show wr.heap.size < _; omega)).trans q0; have r1 := (s1.cell (p := ⟨wr.heap.size, 1, none⟩) hz (by show wr.heap.size < _; omega)).trans q1; have z1 := s1.1; have o1 := own_since ho1 (Nat.le_refl _) s1) | (at_builtin; refine wpList_append_own _ rfl _ _ 28 rfl w.heap.size 53 i0 _ 2 32 Tryz.underlying28 hi hj0 hj1 hj2 rfl (by decide) _ _ _ rfl (o1.alloc _) ⟨w1.heap.size, 0, none⟩ 1 1 [.slice ar l[k].1.length cr, .int .i64 l[k].2] rfl rfl ?Ac1 ?Ac2 ?Ac3 ?Ac4 ?Ac5 ?_))
        case Ac1 =>
          intro j u hj
          match j, hj with
          | 0, hj => simp at hj; subst hj; simp [Addr.add]
          | 1, hj => simp at hj; subst hj; simp [Addr.add]
        case Ac2 => intro u hu; simp at hu; rcases hu with rfl | rfl <;> rfl
        case Ac3 => unfold maxLen; omega
        case Ac4 => omega
        case Ac5 => simp; omega
        intro v' w5 ho5 hg5 _
        have hb5 : Below w.heap.size w1 w5 := ((Below.refl w.heap.size w1).alloc (by omega) _).grown hg5 (by simp; omega) (fun q hq => ((o1.alloc (.cells #[.slice ar l[k].1.length cr, .int .i64 l[k].2] 53)).lt q hq).1)
        have HI1 : Hid (Inv w5) := H2.out _ _ I1 hb5
        have z5 := hb5.size
        clear hg5 o1 I1 con q0 q1 ho1
        go_wp2_with fail
        go_roundw
        case rel => exact ⟨k + 1, by omega, by go_num, by rw [filter_take p hlt, if_pos HP.out]; exact ⟨_, by simpa using ho5, HE.out.push HS.out⟩, HI1, by omega⟩
        case measure => simp [intOf]; omega
      · have hp : p l[k] = false := by simpa using hp
        rw [hp] at con
        have HP : Hid (p l[k] = false) := hp
        clear hp
        go_wp2_with (go_at_fn g; refine con.mono ?_; rintro e w1 ⟨rfl, I1, s1⟩)
        have o1 := own_since ho1 (Nat.le_refl _) s1
        have z1 := s1.1
        have HI1 : Hid (Inv w1) := I1
        clear con q0 q1 ho1 I1
        go_roundw
        case rel => exact ⟨k + 1, by omega, by go_num, by rw [filter_take p hlt, HP.out, if_neg (by decide), List.append_nil]; exact ⟨_, o1, HE.out⟩, HI1, by omega⟩
        case measure => simp [intOf]; omega
    · have e : k = l.length := by omega
      subst e
      rw [List.take_length] at HO
      obtain ⟨av, cv, rfl, _⟩ := HO.zs (H1.out _ HI.out)
      go_wp2_with fail
      go_ret
      exact ⟨_, rfl, HO, HI.out, hz⟩
end Go.Proofs.YtfgpfnhbcbhkfadGreat
