/- Together: K6, K7, ZE, ZF, ZG, Q2, K8, L1, ZOpen. -/
import Derived.Shelf.Spec.SlicesGrow
import Derived.Ground.Names8Prog
import Derived.Laws.AppendOwnNone
import Derived.Laws.StructEq
import Derived.Deep.Slices
import Derived.Deep.Strs
import Derived.ProofKit
import Derived.OpenShut
import Derived.ChangeOld
import Derived.Lib.SmallJoins
import Derived.Test.YtfgpfnhbcbhkfadGreatB5
import Derived.Test.YtfgpfnhbcbhkfadGreatB1
/- What is wrong with a set of rows of columns; the rows that are asked for. -/
namespace Go.Proofs.YtfgpfnhbcbhkfadGreat
open Go.RowKit Go.Lib Go.Shelf

set_option maxHeartbeats 2000000 in
theorem wrongS_at (cols : List Int) (ca : Option Addr) (ccap : Nat) (a : Option Addr) (cap : Nat) (l : List Zp) (w : World) (hc : IsAt w.heap.size w ca cols) (h : ZsAt w a l) :
    Calls Tryz.prog 31 #[.slice ca cols.length ccap, .slice a l.length cap] w fun e w' => e = .returned (.int .i64 (inpE cols l)) ∧ Below w.heap.size w w' := by
  have hl := h.1
  unfold maxLen at hl
  have hcl := hc.1
  unfold maxLen at hcl
  by_cases h8 : 8 < cols.length
  · have e : inpE cols l = 5 := by simp [inpE, h8]
    rw [e]
    have hz : (8 : Int) < (cols.length : Int) := by omega
    go_enter Tryz.func31, Tryz.ntmps31
    go_wp2_with fail
    go_ret
    exact ⟨rfl, Below.refl _ _⟩
  have hz : ¬ (8 : Int) < (cols.length : Int) := by omega
  by_cases hw : wrongZ l = 0
  · have e : inpE cols l = fitsZ cols l := by simp [inpE, h8, hw]
    rw [e]
    clear e
    have Hw : Hid (wrongZ l = 0) := hw
    clear hw
    go_enter Tryz.func31, Tryz.ntmps31
    go_wp2_with fail
    refine (zWrong_at _ _ _ _ h).mono ?_
    rintro e w1 ⟨rfl, hb1⟩
    rw [Hw.out]
    go_wp2_with fail
    go_loopw [19] (fun i wr => ∃ k : Nat, k ≤ l.length ∧ i = .int .i64 k ∧ Hid (fitsZ cols l = fitsZ cols (l.drop k)) ∧ Below w.heap.size w wr) (fun i _ => l.length - (intOf i).toNat)
    case atStart => exact ⟨0, Nat.zero_le _, rfl, rfl, hb1⟩
    case round =>
      obtain ⟨k, hk, rfl, HC, hb⟩ := hrel
      have hz := hb.size
      by_cases hlt : k < l.length
      · obtain ⟨b, off, rfl, hbl, c1, ar, cr, c0, sr⟩ := (h.next hb).elem hlt
        have hA := hb.alloc hz (.cells #[.slice ar l[k].1.length cr, .int .i64 l[k].2] 53)
        have hal : Below wr.heap.size wr (wr.alloc (.cells #[.slice ar l[k].1.length cr, .int .i64 l[k].2] 53)) := (Below.refl _ _).alloc (Nat.le_refl _) _
        have con := fits_at cols l[k].1 ca ccap ar cr _ ((hc.next hA (Nat.le_refl _)).up hA.size) (sr.next hal)
        by_cases hw : fitsL cols l[k].1 = 0
        · have Hw : Hid (fitsL cols l[k].1 = 0) := hw
          rw [hw] at con
          clear hw
          go_wp2_with fail
          refine con.mono ?_
          rintro e w2 ⟨rfl, hb2⟩
          go_wp2_with fail
          go_roundw
          case rel => exact ⟨k + 1, by omega, by go_num, HC.out.trans (fitsZ_next cols l k hlt Hw.out), chain2 hb hb2⟩
          case measure => simp [intOf]; omega
        · have HN : Hid (fitsZ cols l = fitsL cols l[k].1) := HC.out.trans (fitsZ_bad cols l k hlt hw)
          have hne : (fitsL cols l[k].1 != 0) = true := by simpa using hw
          generalize fitsL cols l[k].1 = t at *
          go_wp2_with fail
          refine con.mono ?_
          rintro e w2 ⟨rfl, hb2⟩
          go_wp2_with fail
          go_ret
          exact ⟨ret_int HN.out.symm, chain2 hb hb2⟩
      · have HN : Hid (fitsZ cols l = 0) := HC.out.trans (fitsZ_end cols l k (by omega))
        go_wp2_with fail
        go_ret
        exact ⟨ret_int HN.out.symm, hb⟩
  · have e : inpE cols l = wrongZ l := by simp [inpE, h8, hw]
    rw [e]
    have hne : (wrongZ l != 0) = true := by simpa using hw
    go_enter Tryz.func31, Tryz.ntmps31
    go_wp2_with fail
    refine (zWrong_at _ _ _ _ h).mono ?_
    rintro e w1 ⟨rfl, hb1⟩
    go_wp2_with fail
    go_ret
    exact ⟨rfl, hb1⟩

/-- A slice of one's own, whose rows' values lie in w0. -/
def OwnB (w0 : World) (base : Nat) (W : World) (v : Value) (l : List Zp) : Prop := ∃ xs, W.ownsRow base 53 2 v l.length xs ∧ EncB w0 xs l
theorem OwnB.next {w0 W w1 : World} {base : Nat} {v : Value} {l : List Zp} (h : OwnB w0 base W v l) (hb : Below W.heap.size W w1) : OwnB w0 base w1 v l := by
  obtain ⟨xs, h1, h2⟩ := h
  exact ⟨xs, own_next h1 hb, h2⟩
theorem OwnB.zs {w0 W : World} {base : Nat} {v : Value} {l : List Zp} (h : OwnB w0 base W v l) (hb : Below w0.heap.size w0 W) : ∃ a cap, v = .slice a l.length cap ∧ ZsAt W a l ∧ (a = none → cap = 0) := by
  obtain ⟨xs, h1, h2⟩ := h
  have h1' := h1
  obtain ⟨hx, ⟨rfl, h0⟩ | ⟨g, cap, cur, rfl, hg, hh, hn, hc, hs, ht⟩⟩ := h1
  · have : l = [] := List.eq_nil_of_length_eq_zero h0
    subst this
    exact ⟨none, 0, rfl, ⟨by simp, .inl rfl⟩, fun _ => rfl⟩
  · refine ⟨_, cap, rfl, ⟨by omega, .inr ⟨g, 0, rfl, (h1'.lt g rfl).2, fun i hi => ?_⟩⟩, fun e => by cases e⟩
    obtain ⟨a, cp, e0, e1, e2⟩ := h2.2 i hi
    refine ⟨?_, a, cp, ?_, e2.next hb⟩
    · rw [h1'.cellAt _ (by omega), ← e1]; congr 1; omega
    · rw [h1'.cellAt _ (by omega), ← e0]; congr 1; omega
theorem own_since {lo base e size n : Nat} {W w1 : World} {v : Value} {xs : List Value} (h : W.ownsRow base e size v n xs) (hl : lo ≤ base) (hs : Since lo W w1) : w1.ownsRow base e size v n xs := by
  have h' := h
  obtain ⟨hx, h1 | ⟨g, cap, cur, rfl, hg, hh, rest⟩⟩ := h
  · exact ⟨hx, .inl h1⟩
  · exact ⟨hx, .inr ⟨g, cap, cur, rfl, hg, by rw [hs.2 g (by omega) (h'.lt g rfl).2]; exact hh, rest⟩⟩
theorem filter_take {l : List Zp} (p : Zp → Bool) {k : Nat} (h : k < l.length) : (l.take (k + 1)).filter p = (l.take k).filter p ++ (if p l[k] = true then [l[k]] else []) := by
  rw [List.take_succ_eq_append_getElem h, List.filter_append]
  congr 1
  rw [List.filter_cons]
  rfl

set_option maxHeartbeats 4000000 in
theorem picked_at (g : Nat) (cb : Array Value) (p : Zp → Bool) (a : Option Addr) (cap : Nat) (l : List Zp) (w0 w : World) (Inv : World → Prop) (h : ZsAt w0 a l) (hl : l.length ≤ 100000)
    (eg : ∀ args w, (callFunc g args).run Tryz.prog w = .ok (.enter g args) w) (hI0 : Inv w) (hI1 : ∀ W, Inv W → Below w0.heap.size w0 W) (hI2 : ∀ W W', Inv W → Below w.heap.size W W' → Inv W')
    (hcall : ∀ x ∈ l, ∀ (ra : Option Addr) (rc : Nat) (W : World), Inv W → SlAt w0 ra x.1 → w.heap.size ≤ W.heap.size → Calls Tryz.prog g (#[.agg #[.slice ra x.1.length rc, .int .i64 x.2]] ++ cb) W fun e w' => e = .returned (.bool (p x)) ∧ Inv w' ∧ Since w.heap.size W w') :
    Calls Tryz.prog 33 #[.slice a l.length cap, .func (.func g) #[] cb] w fun e w' => ∃ v, e = .returned v ∧ OwnB w0 w.heap.size w' v (l.filter p) ∧ Inv w' ∧ w.heap.size ≤ w'.heap.size := by
  obtain ⟨i0, hi, hj0, hj1, hj2⟩ := info_parts Tryz.info42
  have HC : Hid (∀ x ∈ l, ∀ (ra : Option Addr) (rc : Nat) (W : World), Inv W → SlAt w0 ra x.1 → w.heap.size ≤ W.heap.size → Calls Tryz.prog g (#[.agg #[.slice ra x.1.length rc, .int .i64 x.2]] ++ cb) W fun e w' => e = .returned (.bool (p x)) ∧ Inv w' ∧ Since w.heap.size W w') := hcall
  have H1 : Hid (∀ W, Inv W → Below w0.heap.size w0 W) := hI1
  have H2 : Hid (∀ W W', Inv W → Below w.heap.size W W' → Inv W') := hI2
  clear hcall hI1 hI2
  go_enter Tryz.func33, Tryz.ntmps33
  go_wp2_with fail
  go_loopw [5, 10] (fun v i wr => ∃ k : Nat, k ≤ l.length ∧ i = .int .i64 k ∧ OwnB w0 w.heap.size wr v ((l.take k).filter p) ∧ Hid (Inv wr) ∧ w.heap.size ≤ wr.heap.size) (fun _ i _ => l.length - (intOf i).toNat)
  case atStart => exact ⟨0, Nat.zero_le _, rfl, ⟨[], by simpa using World.ownsRow_nil _ _ _ _, by simp [EncB]⟩, hI0, Nat.le_refl _⟩
  case round =>
    clear hI0
    obtain ⟨k, hk, rfl, HO, HI, hz⟩ := hrel
    by_cases hlt : k < l.length
    · obtain ⟨b, off, rfl, hbl, d1, ar, cr, d0, sr⟩ := h.elem hlt
      have hB := H1.out _ HI.out
      have c1 := (hB.cell (p := ⟨b, _, none⟩) hbl).trans d1
      have c0 := (hB.cell (p := ⟨b, _, none⟩) hbl).trans d0
      have hbl' : b < wr.heap.size := Nat.lt_of_lt_of_le hbl hB.size
      have hlen : ((l.take k).filter p).length ≤ k := by have := List.length_filter_le p (l.take k); simp only [List.length_take] at this; omega
      have hal : Below wr.heap.size wr (wr.alloc (.cells #[.slice ar l[k].1.length cr, .int .i64 l[k].2] 53)) := (Below.refl _ _).alloc (Nat.le_refl _) _
      have IA : Inv (wr.alloc (.cells #[.slice ar l[k].1.length cr, .int .i64 l[k].2] 53)) := H2.out _ _ HI.out (hal.mono hz)
      have con := HC.out l[k] (List.getElem_mem hlt) ar cr _ IA sr (Nat.le_trans hz hal.size)
      have q0 : (wr.alloc (.cells #[.slice ar l[k].1.length cr, .int .i64 l[k].2] 53)).cell? ⟨wr.heap.size, 0, none⟩ = some (.slice ar l[k].1.length cr) := by simp
      have q1 : (wr.alloc (.cells #[.slice ar l[k].1.length cr, .int .i64 l[k].2] 53)).cell? ⟨wr.heap.size, 1, none⟩ = some (.int .i64 l[k].2) := by simp
      have za : (wr.alloc (.cells #[.slice ar l[k].1.length cr, .int .i64 l[k].2] 53)).heap.size = wr.heap.size + 1 := by simp
      have HS : Hid (SlAt w0 ar l[k].1) := sr
      obtain ⟨xs, ho, he⟩ := HO
      have HE : Hid (EncB w0 xs ((l.take k).filter p)) := he
      have ho1 := own_next ho hal
      clear d0 d1 sr he ho IA
      by_cases hp : p l[k] = true
      · rw [hp] at con
        have HP : Hid (p l[k] = true) := hp
        clear hp
        go_wp2_with (first | (go_at_fn g; refine con.mono ?_; rintro e w1 ⟨rfl, I1, s1⟩; have r0 := (s1.cell (p := ⟨wr.heap.size, 0, none⟩) hz (by show wr.heap.size < _; omega)).trans q0; have r1 := (s1.cell (p := ⟨wr.heap.size, 1, none⟩) hz (by show wr.heap.size < _; omega)).trans q1; have z1 := s1.1; have o1 := own_since ho1 (Nat.le_refl _) s1) | (at_builtin; refine wpList_append_own _ rfl _ _ 28 rfl w.heap.size 53 i0 _ 2 32 Tryz.underlying28 hi hj0 hj1 hj2 rfl (by decide) _ _ _ rfl (o1.alloc _) ⟨w1.heap.size, 0, none⟩ 1 1 [.slice ar l[k].1.length cr, .int .i64 l[k].2] rfl rfl ?Ac1 ?Ac2 ?Ac3 ?Ac4 ?Ac5 ?_))
        case Ac1 =>
          intro j u hj
          match j, hj with
          | 0, hj => simp at hj; subst hj; simp [Addr.add]
          | 1, hj => simp at hj; subst hj; simp [Addr.add]
        case Ac2 => intro u hu; simp at hu; rcases hu with rfl | rfl <;> rfl
        case Ac3 => unfold maxLen; omega
        case Ac4 => omega
        case Ac5 => simp; omega
        intro v' w5 ho5 hg5 _
        have hb5 : Below w.heap.size w1 w5 := ((Below.refl w.heap.size w1).alloc (by omega) _).grown hg5 (by simp; omega) (fun q hq => ((o1.alloc (.cells #[.slice ar l[k].1.length cr, .int .i64 l[k].2] 53)).lt q hq).1)
        have HI1 : Hid (Inv w5) := H2.out _ _ I1 hb5
        have z5 := hb5.size
        clear hg5 o1 I1 con q0 q1 ho1
        go_wp2_with fail
        go_roundw
        case rel => exact ⟨k + 1, by omega, by go_num, by rw [filter_take p hlt, if_pos HP.out]; exact ⟨_, by simpa using ho5, HE.out.push HS.out⟩, HI1, by omega⟩
        case measure => simp [intOf]; omega
      · have hp : p l[k] = false := by simpa using hp
        rw [hp] at con
        have HP : Hid (p l[k] = false) := hp
        clear hp
        go_wp2_with (go_at_fn g; refine con.mono ?_; rintro e w1 ⟨rfl, I1, s1⟩)
        have o1 := own_since ho1 (Nat.le_refl _) s1
        have z1 := s1.1
        have HI1 : Hid (Inv w1) := I1
        clear con q0 q1 ho1 I1
        go_roundw
        case rel => exact ⟨k + 1, by omega, by go_num, by rw [filter_take p hlt, HP.out, if_neg (by decide), List.append_nil]; exact ⟨_, o1, HE.out⟩, HI1, by omega⟩
        case measure => simp [intOf]; omega
    · have e : k = l.length := by omega
      subst e
      rw [List.take_length] at HO
      obtain ⟨av, cv, rfl, _⟩ := HO.zs (H1.out _ HI.out)
      go_wp2_with fail
      go_ret
      exact ⟨_, rfl, HO, HI.out, hz⟩
end Go.Proofs.YtfgpfnhbcbhkfadGreat
/- The walk of ops.Filter. -/
namespace Go.Proofs.YtfgpfnhbcbhkfadGreat
open Go.RowKit Go.Lib Go.Shelf

set_option maxHeartbeats 400000 in
theorem filter1_at (cols : List Int) (lo : Nat) (x : Ex) (u : Value) (b : Nat) (ra : Option Addr) (rc : Nat) (row : List Vl) (n : Int) (W : World) (hb : b < W.heap.size) (h0 : W.cell? ⟨b, 0, none⟩ = some u) (hA : Conds cols lo u x W) (hf : FitP cols row) (hs : SlAt W ra row) :
    Calls Tryz.prog 34 #[.agg #[.slice ra row.length rc, .int .i64 n], .pointer (some ⟨b, 0, none⟩)] W fun e w' => e = .returned (.bool (holdsP x row)) ∧ Below W.heap.size W w' := by
  obtain ⟨g, cb, rfl, eg, d⟩ := hA
  have hal : Below W.heap.size W (W.alloc (.cells #[.slice ra row.length rc, .int .i64 n] 53)) := (Below.refl _ _).alloc (Nat.le_refl _) _
  have d := d row ra rc _ hf (hs.next hal) (Since.of hal)
  have c0 := (hal.cell (p := ⟨b, 0, none⟩) hb).trans h0
  generalize holdsP x row = t at *
  go_enter Tryz.func34, Tryz.ntmps34
  go_wp2_with (go_at_fn g; refine d.mono ?_; rintro e w1 ⟨rfl, hb1⟩)
  go_ret
  exact ⟨rfl, chain hal hb1⟩

theorem row8 {cols : List Int} {z : List Zp} (h : InpOk cols z) : ∀ x ∈ z, x.1.length ≤ 8 := fun x hx => by
  have := (h.fit x hx).len
  have := h.cols8
  omega
theorem set_in {cols : List Int} {z : List Zp} (h : InpOk cols z) : ∀ x ∈ z, inW x.2 = true := fun x hx => (((wrongZ_iff z).1 h.set).2.1 x hx).2.2
theorem set_len {cols : List Int} {z : List Zp} (h : InpOk cols z) : z.length ≤ 400 := ((wrongZ_iff z).1 h.set).1

set_option maxRecDepth 100000 in
set_option maxHeartbeats 4000000 in
theorem filter_at (cols : List Int) (x : Ex) (ca : Option Addr) (ccap : Nat) (xa : Option Addr) (xcap : Nat) (a : Option Addr) (cap : Nat) (l : List Zp) (w : World) (hc : IsAt w.heap.size w ca cols) (hk : KsAt w.heap.size w xa x.ks) (h : ZsAt w a l) :
    Calls Tryz.prog 9 #[.slice ca cols.length ccap, exV x.k x.v x.c xa x.ks.length xcap, .slice a l.length cap] w fun e w' => ∃ v, e = .returned (.tuple #[v, .int .i64 (filtE cols x l)]) ∧ OwnZ w.heap.size w' v (filtZ cols x l) ∧ Below w.heap.size w w' := by
  have hal : Below w.heap.size w (w.alloc (.cells #[.int .i64 x.k, .int .i64 x.v.1, .int .i64 x.v.2.1, .string x.v.2.2, .int .i64 x.c, .slice xa x.ks.length xcap] 27)) := (Below.refl _ _).alloc (Nat.le_refl _) _
  have hk' := (KsAt.next hal (Nat.le_refl _) hk).up hal.size
  have hc' := (hc.next hal (Nat.le_refl _)).up hal.size
  by_cases h1 : condE cols x = 0
  · have con := condOk_at cols x ca ccap xa xcap _ hk' hc' h1
    have H1 : Hid (condE cols x = 0) := h1
    clear h1
    have HE : Hid (filtE cols x l = if inpE cols l ≠ 0 then inpE cols l else 0) := by
      show filtE cols x l = _
      unfold filtE
      rw [H1.out, if_neg (by simp)]
    generalize hfz : filtZ cols x l = fz
    generalize hfe : filtE cols x l = fe
    have HZ : Hid (filtZ cols x l = fz) := hfz
    have HF : Hid (filtE cols x l = fe) := hfe
    clear hfz hfe
    go_enter Tryz.func9, Tryz.ntmps9
    go_wp2_with fail
    generalize w.alloc (.cells #[.int .i64 x.k, .int .i64 x.v.1, .int .i64 x.v.2.1, .string x.v.2.2, .int .i64 x.c, .slice xa x.ks.length xcap] 27) = w1 at *
    refine con.mono ?_
    rintro e w2 ⟨u, rfl, hC2, hb2⟩
    clear con
    have hA := chain hal hb2
    have hC2 := hC2.down hal.size
    obtain ⟨ug, ucb, rfl⟩ : ∃ g cb, u = .func (.func g) #[] cb := by obtain ⟨g, cb, e, _⟩ := hC2; exact ⟨g, cb, e⟩
    have hal3 : Below w2.heap.size w2 (w2.alloc (.cells #[.func (.func ug) #[] ucb] 55)) := (Below.refl _ _).alloc (Nat.le_refl _) _
    have hA3 := chain hA hal3
    have con := wrongS_at cols ca ccap a cap l _ ((hc.next hA3 (Nat.le_refl _)).up hA3.size) (h.next hA3)
    have c3 : (w2.alloc (.cells #[.func (.func ug) #[] ucb] 55)).cell? ⟨w2.heap.size, 0, none⟩ = some (.func (.func ug) #[] ucb) := by simp
    have hC3 := hC2.next (Since.of hal3)
    have z3 : (w2.alloc (.cells #[.func (.func ug) #[] ucb] 55)).heap.size = w2.heap.size + 1 := by simp
    clear hk' hc'
    by_cases h2 : inpE cols l = 0
    · have hz := (inpE_ok cols l).1 h2
      rw [h2] at con
      have H2 : Hid (inpE cols l = 0) := h2
      clear h2
      have e0 : fe = 0 := by rw [← HF.out, HE.out, H2.out]; rfl
      have e1 : fz = canon (filtL x l) := by rw [← HZ.out]; unfold filtZ; rw [if_pos (by rw [HE.out, H2.out]; rfl)]
      have HN : Hid (fe = 0) := e0
      have HV : Hid (fz = canon (filtL x l)) := e1
      clear e0 e1
      go_wp2_with fail
      generalize w2.alloc (.cells #[.func (.func ug) #[] ucb] 55) = w3 at *
      refine con.mono ?_
      rintro e w4 ⟨rfl, hb4⟩
      clear con
      have hA4 := chain hA3 hb4
      have c4 := (hb4.cell (p := ⟨w2.heap.size, 0, none⟩) (by show w2.heap.size < _; omega)).trans c3
      have hC4 := hC3.next (Since.of hb4)
      have zs4 := h.next hA4
      have z4 := hb4.size
      have hl4 := set_len hz
      go_wp2_with fail
      refine (picked_at 34 #[.pointer (some ⟨w2.heap.size, 0, none⟩)] (fun p => holdsP x p.1) a cap l w4 w4 (fun W => Below w4.heap.size w4 W) zs4 (by omega) (enters_of Tryz.func34 (by kernel_rfl) rfl) (Below.refl _ _) (fun _ h => h) (fun _ _ h k => h.trans k) ?_).mono ?_
      · intro y hy ra rc W hW hs _
        refine (filter1_at cols w.heap.size x _ w2.heap.size ra rc y.1 y.2 W (by have := hW.size; omega) ((hW.cell (p := ⟨w2.heap.size, 0, none⟩) (by show w2.heap.size < _; omega)).trans c4) (hC4.next (Since.of hW)) (hz.fit y hy) (hs.next hW)).mono ?_
        rintro e w' ⟨rfl, hb⟩
        exact ⟨rfl, chain hW hb, Since.of hb⟩
      rintro e w5 ⟨v5, rfl, O5, hb5, _⟩
      obtain ⟨a5, c5, rfl, zs5, _⟩ := O5.zs hb5
      have hA5 := chain hA4 hb5
      have hfl : l.filter (fun p => holdsP x p.1) = filtL x l := rfl
      rw [hfl] at zs5
      have hsub : ∀ y ∈ filtL x l, y ∈ l := fun y hy => (List.mem_filter.1 hy).1
      have hfn : (filtL x l).length ≤ 400 := Nat.le_trans (List.length_filter_le _ _) hl4
      have hg0 : gatherE (filtL x l) = 0 := filt_gather hz.set _
      have con := gathered_at a5 c5 (filtL x l) w5 zs5 (by omega) (fun y hy => inW_big (set_in hz y (hsub y hy))) (fun y hy => row8 hz y (hsub y hy))
      have hgz : gatherZ (filtL x l) = fz := by rw [HV.out]; unfold gatherZ; rw [if_pos hg0]
      rw [hg0, hgz] at con
      clear hg0 hgz hC2 hC3 hC4 c3 c4 O5
      rw [hfl]
      go_wp2_with fail
      refine con.mono ?_
      rintro e w6 ⟨v6, rfl, O6, hb6⟩
      have O6' := O6.mono hA5.size
      obtain ⟨a6, c6, rfl, _⟩ := O6.zs
      go_wp2_with fail
      exact bodyPost_ret (v := .tuple #[.slice a6 fz.length c6, .int .i64 0]) (by simp [results, Tryz.results9, go_sem]) rfl ⟨_, by rw [HN.out], O6', chain hA5 hb6⟩
    · have e0 : fe = inpE cols l := by rw [← HF.out, HE.out, if_pos h2]
      have e1 : fz = [] := by rw [← HZ.out]; unfold filtZ; rw [HE.out, if_pos h2, if_neg h2]
      have HN : Hid (fe = inpE cols l) := e0
      have HV : Hid (fz = []) := e1
      have hne : (inpE cols l != 0) = true := by simpa using h2
      clear e0 e1
      generalize inpE cols l = t at *
      go_wp2_with fail
      generalize w2.alloc (.cells #[.func (.func ug) #[] ucb] 55) = w3 at *
      refine con.mono ?_
      rintro e w4 ⟨rfl, hb4⟩
      clear con
      go_wp2_with fail
      exact bodyPost_ret (v := .tuple #[.slice none 0 0, .int .i64 t]) (by simp [results, Tryz.results9, go_sem]) rfl ⟨_, by rw [HN.out], by rw [HV.out]; exact own_nil _ _, chain hA3 hb4⟩
  · have con := condBad_at cols x ca ccap xa xcap _ hk' hc' h1
    have e0 : filtE cols x l = condE cols x := by unfold filtE; rw [if_pos h1]
    have e1 : filtZ cols x l = [] := by unfold filtZ; rw [e0, if_neg h1]
    rw [e0, e1]
    have hne : (condE cols x != 0) = true := by simpa using h1
    generalize condE cols x = t at *
    clear e0 e1
    go_enter Tryz.func9, Tryz.ntmps9
    go_wp2_with fail
    generalize w.alloc (.cells #[.int .i64 x.k, .int .i64 x.v.1, .int .i64 x.v.2.1, .string x.v.2.2, .int .i64 x.c, .slice xa x.ks.length xcap] 27) = w1 at *
    refine con.mono ?_
    rintro e w2 ⟨rfl, hb2⟩
    have hA := chain hal hb2
    have hal3 : Below w2.heap.size w2 (w2.alloc (.cells #[.nilFunc] 55)) := (Below.refl _ _).alloc (Nat.le_refl _) _
    clear con
    go_wp2_with fail
    exact bodyPost_ret (v := .tuple #[.slice none 0 0, .int .i64 t]) (by simp [results, Tryz.results9, go_sem]) rfl ⟨_, rfl, own_nil _ _, chain hA hal3⟩
end Go.Proofs.YtfgpfnhbcbhkfadGreat
/- The walks of slices.Grow and slices.Concat at rows. -/
namespace Go.Proofs
open Go.Shelf Go.RowKit Go.Lib
shelf_lay_g Lays8.n4 Nm8 4 at Tryz 89 as Tryz.growZ
end Go.Proofs
namespace Go.Proofs.YtfgpfnhbcbhkfadGreat
open Go.RowKit Go.Lib Go.Shelf

theorem grow_at (n : Nat) (hn : n ≤ 200000) (w : World) :
    Calls Tryz.prog 89 #[.slice none 0 0, .int .i64 n] w fun e w' => ∃ v, e = .returned v ∧ w'.ownsRow w.heap.size 53 2 v 0 [] ∧ Below w.heap.size w w' := by
  obtain ⟨i0, hi, hj0, hj1, hj2⟩ := info_parts Tryz.info42
  by_cases h0 : n = 0
  · subst h0
    refine (Any8.slices_Grow_room Tryz.growZ none 0 0 0 w (by omega) (by omega) (by omega) (by omega)).mono ?_
    rintro e w' ⟨rfl, rfl⟩
    exact ⟨_, rfl, World.ownsRow_nil _ _ _ _, Below.refl _ _⟩
  · refine (Any8.slices_Grow_grow Tryz.growZ i0 _ hi hj0 (by rw [hj1]; omega) none 0 0 n [] w (by omega) (by omega) (by rw [hj2]; omega) (by omega) (by simp) (by simp) (by intro a e; cases e)).mono ?_
    rintro e w' ⟨rfl, rfl⟩
    refine ⟨_, rfl, ?_, ((Below.refl _ _).drew).alloc (Nat.le_refl _) _⟩
    rw [Nat.zero_add]
    have hc := grownCap_ge w n 0 53
    have hm := grownCap_le_maxLen w n 0 53 (by unfold maxLen; omega)
    have := World.ownsRow_made (w := w.drew) (base := w.heap.size) (e := 53) (size := 2) (cur := [].toArray ++ Builtin.zeroCells (Value.agg #[Value.slice none 0 0, Value.int IntKind.i64 0]).cells (n - 0) ++ Builtin.zeroCells (Value.agg #[Value.slice none 0 0, Value.int IntKind.i64 0]).cells (grownCap w n 0 53 - n)) (cap := grownCap w n 0 53) (Nat.le_refl _) hm (by simp [size_zeroCells, Value.cells]; omega)
    exact this

theorem encB_append {W : World} {xs ys : List Value} {l t : List Zp} (h : EncB W xs l) (k : EncB W ys t) : EncB W (xs ++ ys) (l ++ t) := by
  have lx := h.1
  have ly := k.1
  refine ⟨by simp [lx, ly]; omega, fun i hi => ?_⟩
  by_cases hi' : i < l.length
  · obtain ⟨a', c', h1, h2, h3⟩ := h.2 i hi'
    rw [List.getElem_append_left hi']
    refine ⟨a', c', ?_, ?_, h3⟩
    · rw [List.getElem?_append_left (by omega), h1]
    · rw [List.getElem?_append_left (by omega), h2]
  · have hi2 : i - l.length < t.length := by simp at hi; omega
    obtain ⟨a', c', h1, h2, h3⟩ := k.2 (i - l.length) hi2
    rw [List.getElem_append_right (by omega)]
    refine ⟨a', c', ?_, ?_, h3⟩
    · rw [List.getElem?_append_right (by omega), ← h1]; congr 1; omega
    · rw [List.getElem?_append_right (by omega), ← h2]; congr 1; omega
theorem src_of {w : World} {a : Option Addr} {l : List Zp} (h : ZsAt w a l) : ∃ news, EncB w news l ∧ (∀ u ∈ news, u.oneCell' = true) ∧ (a = none → l = []) ∧ ∀ ad, a = some ad → ∀ j u, news[j]? = some u → w.cell? (ad.add j) = some u := by
  obtain ⟨d, hd, hdl, hc⟩ := h.arr
  refine ⟨(Go.Sort.flatK (encG w) 2 d).toList, ⟨by simp [hd], fun i hi => ?_⟩, ?_, ?_, ?_⟩
  · have hi' : i < d.size := by omega
    have e : d[i]! = d[i] := getElem!_pos d i hi'
    have el : plG w d[i] = l[i] := by
      have : l[i] = (d.toList.map (plG w))[i]'(by simpa using hi') := by simp [hdl]
      rw [this]; simp
    refine ⟨d[i].1.a, d[i].1.cap, ?_, ?_, ?_⟩
    · rw [Array.getElem?_toList, Array.getElem?_eq_getElem (by simp; omega), ← getElem!_pos, flat_even d i hi', e, ← el]; rfl
    · rw [Array.getElem?_toList, Array.getElem?_eq_getElem (by simp; omega), ← getElem!_pos, flat_odd d i hi', e, ← el]; rfl
    · rw [← el]; exact d[i].2
  · intro u hu
    obtain ⟨j, hj, rfl⟩ := List.getElem_of_mem hu
    have hj' : j < d.size * 2 := by simpa using hj
    have e : (Go.Sort.flatK (encG w) 2 d).toList[j] = (Go.Sort.flatK (encG w) 2 d)[j]! := by
      rw [Array.getElem_toList, getElem!_pos]
    rw [e, Go.Sort.get_flatK _ _ _ _ hj']
    rcases Nat.mod_two_eq_zero_or_one j with h0 | h1
    · rw [h0]; rfl
    · rw [h1]; rfl
  · intro e
    rcases hc with h | ⟨b, off, e', _⟩
    · exact h
    · rw [e] at e'; cases e'
  · intro ad e j u hj
    have hj' : j < d.size * 2 := by
      rcases Nat.lt_or_ge j (d.size * 2) with h | h
      · exact h
      · rw [List.getElem?_eq_none (by simpa using h)] at hj; cases hj
    rcases hc with h | ⟨b, off, e', hlt, hc⟩
    · subst h; simp at hd; subst hd; simp at hj'
    · rw [e] at e'
      injection e' with e'
      subst e'
      rw [addr_add']
      rw [Array.getElem?_toList, Array.getElem?_eq_getElem (by simpa using hj')] at hj
      injection hj with hj
      have := hc j (by omega)
      rwa [getElem!_pos _ _ (by simpa using hj'), hj] at this
end Go.Proofs.YtfgpfnhbcbhkfadGreat
/- The walk of slices.Concat at two slices of rows. -/
namespace Go.Proofs.YtfgpfnhbcbhkfadGreat
open Go.RowKit Go.Lib Go.Shelf

/-- What has been laid behind each other so far. -/
def catTo (l l' : List Zp) : Nat → List Zp
  | 0 => []
  | 1 => l
  | _ => l ++ l'
structure Pair (w : World) (B : Nat) (l l' : List Zp) : Prop where
  lt : B < w.heap.size
  at_ : ∀ k, k < 2 → ∃ a cap ls, w.cell? ⟨B, k, none⟩ = some (.slice a ls.length cap) ∧ ZsAt w a ls ∧ (a = none → cap = 0) ∧ catTo l l' (k + 1) = catTo l l' k ++ ls
theorem Pair.next {w w1 : World} {B : Nat} {l l' : List Zp} (h : Pair w B l l') (hb : Below w.heap.size w w1) : Pair w1 B l l' :=
  ⟨Nat.lt_of_lt_of_le h.lt hb.size, fun k hk => by
    obtain ⟨a, cap, ls, h1, h2, h3, h4⟩ := h.at_ k hk
    exact ⟨a, cap, ls, (hb.cell (p := ⟨B, k, none⟩) h.lt).trans h1, h2.next hb, h3, h4⟩⟩
theorem catTo_len (l l' : List Zp) (k : Nat) : (catTo l l' k).length ≤ l.length + l'.length := by
  match k with
  | 0 => simp [catTo]
  | 1 => simp [catTo]
  | n + 2 => simp [catTo]

set_option maxRecDepth 100000 in
set_option maxHeartbeats 4000000 in
theorem concat_at (B : Nat) (l l' : List Zp) (w : World) (h : Pair w B l l') (hl : l.length + l'.length ≤ 200000) :
    Calls Tryz.prog 50 #[.slice (some ⟨B, 0, none⟩) 2 2] w fun e w' => ∃ a cap, e = .returned (.slice a (l ++ l').length cap) ∧ ZsAt w' a (l ++ l') ∧ (a = none → cap = 0) ∧ Below w.heap.size w w' := by
  obtain ⟨i0, hi, hj0, hj1, hj2⟩ := info_parts Tryz.info42
  go_enter Tryz.func50, Tryz.ntmps50
  go_wp2_with fail
  go_loopw [3, 11] (fun sz i wr => ∃ k : Nat, k ≤ 2 ∧ i = .int .i64 k ∧ sz = .int .i64 ((catTo l l' k).length : Int) ∧ wr = w) (fun _ i _ => 2 - (intOf i).toNat)
  case atStart => exact ⟨0, by omega, rfl, rfl, rfl⟩
  case round =>
    obtain ⟨k, hk, rfl, rfl, rfl⟩ := hrel
    have hcl := catTo_len l l' k
    by_cases hlt : k < 2
    · obtain ⟨a, cap, ls, c0, zs, hnil, hcat⟩ := h.at_ k hlt
      have hcl2 := catTo_len l l' (k + 1)
      rw [hcat, List.length_append] at hcl2
      have HCat : Hid (catTo l l' (k + 1) = catTo l l' k ++ ls) := hcat
      clear hcat
      generalize hq : catTo l l' k = q at *
      have HQ : Hid (catTo l l' k = q) := hq
      clear hq
      go_wp2_with fail
      go_roundw
      case rel => exact ⟨k + 1, by omega, by go_num, by rw [HCat.out, List.length_append]; go_num, by first | rfl | trivial⟩
      case measure => simp [intOf]; omega
    · have e : k = 2 := by omega
      subst e
      have el : ((catTo l l' 2).length : Int) = ((l ++ l').length : Nat) := rfl
      have gc := grow_at (l.length + l'.length) (by omega) wr
      rw [Int.natCast_add] at gc
      go_wp2_with fail
      refine gc.mono ?_
      clear gc el
      rintro e w1 ⟨v, rfl, ho, hb1⟩
      obtain ⟨a1, c1, rfl⟩ := own_shape ho
      have HS0 : SumTo wr w1 (.slice a1 0 c1) (catTo l l' 0) := ⟨[], ho, rfl, fun i hi => by simp [catTo] at hi⟩
      clear ho
      go_wp2_with fail
      generalize hw0 : wr = w0 at *
      have HW0 : Hid (wr = w0) := hw0
      clear hw0
      go_loopw [6, 27] (fun v i ws => ∃ k : Nat, k ≤ 2 ∧ i = .int .i64 k ∧ SumTo w0 ws v (catTo l l' k) ∧ Below w0.heap.size w0 ws) (fun _ i _ => 2 - (intOf i).toNat)
      case atStart => exact ⟨0, by omega, rfl, HS0, hb1⟩
      case round =>
        clear HS0
        obtain ⟨k, hk, rfl, HS, hb⟩ := hrel
        have hz := hb.size
        obtain ⟨xs, ho, he⟩ := HS
        by_cases hlt : k < 2
        · obtain ⟨a, cap, ls, c0, zs, hnil, hcat⟩ := h.at_ k hlt
          have hcl2 := catTo_len l l' (k + 1)
          rw [hcat, List.length_append] at hcl2
          have HCat : Hid (catTo l l' (k + 1) = catTo l l' k ++ ls) := hcat
          clear hcat
          obtain ⟨news, en, e1, en0, ec⟩ := src_of zs
          have c0' := (hb.cell (p := ⟨B, k, none⟩) h.lt).trans c0
          clear c0
          generalize catTo l l' k = q at *
          obtain ⟨a3, c3, rfl⟩ := own_shape ho
          rcases a with _ | ad
          · have hls := en0 rfl
            have hcp := hnil rfl
            subst hls hcp
            go_wp2_with (at_builtin; refine wpList_append_own_none rfl _ _ 28 rfl w0.heap.size 53 i0 2 Tryz.underlying28 hi _ _ _ rfl ho rfl ?_)
            go_roundw
            case rel => exact ⟨k + 1, by omega, by go_num, by rw [HCat.out, List.append_nil]; exact ⟨xs, ho, he⟩, hb⟩
            case measure => simp [intOf]; omega
          · have ec' : ∀ j u, news[j]? = some u → wr.cell? (ad.add j) = some u := fun j u hj => by
              have := ec ad rfl j u hj
              rw [hb.cell (World.block_lt_of_cell? _ _ this)]
              exact this
            go_wp2_with (at_builtin; refine wpList_append_own _ rfl _ _ 28 rfl w0.heap.size 53 i0 _ 2 32 Tryz.underlying28 hi hj0 hj1 hj2 rfl (by decide) _ _ _ rfl ho ad ls.length cap news rfl en.1 ec' e1 (by unfold maxLen; omega) (by omega) (by omega) ?_)
            intro v' w5 ho5 hg5 _
            have hb5 : Below w0.heap.size w0 w5 := hb.grown hg5 hz (fun q hq => (ho.lt q hq).1)
            clear hg5 ho
            go_wp2_with fail
            go_roundw
            case rel => exact ⟨k + 1, by omega, by go_num, by rw [HCat.out]; exact ⟨_, by simpa using ho5, encB_append he en⟩, hb5⟩
            case measure => simp [intOf]; omega
        · have e : k = 2 := by omega
          subst e
          obtain ⟨a3, c3, e3, z3⟩ := own_zsB ho rfl he hb
          have hn3 : a3 = none → c3 = 0 := by
            intro e
            subst e
            obtain ⟨_, ⟨e4, _⟩ | ⟨g, c1, cur, e4, _⟩⟩ := ho
            · rw [e3] at e4; injection e4
            · rw [e3] at e4; injection e4 with e4; cases e4
          subst e3
          go_wp2_with fail
          go_ret
          exact ⟨a3, c3, rfl, z3, hn3, by rw [HW0.out]; exact hb⟩
end Go.Proofs.YtfgpfnhbcbhkfadGreat
/- The walks of zsets.withTimes, zsets.Add and zsets.Sub. -/
namespace Go.Proofs.YtfgpfnhbcbhkfadGreat
open Go.RowKit Go.Lib Go.Shelf

theorem OwnZ.zs2 {base : Nat} {W : World} {v : Value} {l : List Zp} (h : OwnZ base W v l) : ∃ a cap, v = .slice a l.length cap ∧ ZsAt W a l ∧ (a = none → cap = 0) := by
  obtain ⟨a, cap, rfl, z⟩ := h.zs
  refine ⟨a, cap, rfl, z, ?_⟩
  intro e
  subst e
  obtain ⟨xs, ⟨_, ⟨e4, _⟩ | ⟨g, c1, cur, e4, _⟩⟩, _⟩ := h
  · injection e4
  · injection e4 with e4; cases e4

def timesF (t : Int) (w : Int) : Int := t * w
/-- What is wrong with two sets, or with what they make. -/
def bothE (t : Int) (a b : List Zp) : Int := if wrongZ a = 0 then (if wrongZ b = 0 then gatherE (a ++ weighL (timesF t) b) else wrongZ b) else wrongZ a
def bothZ (t : Int) (a b : List Zp) : List Zp := if bothE t a b = 0 then canon (a ++ weighL (timesF t) b) else []

theorem eg59 : ∀ args w, (callFunc 135 args).run Tryz.prog w = .ok (.enter 135 args) w := enters_of Tryz.func135 (by kernel_rfl) rfl
theorem makes59 (w : World) (B : Nat) (t : Int) (hB : w.cell? ⟨B, 0, none⟩ = some (.int .i64 t)) (ht : t = 1 ∨ t = -1) : Makes 135 #[.pointer (some ⟨B, 0, none⟩)] (timesF t) w := by
  intro x W hx hb
  have hx := (inW_iff _).1 hx
  have hc := (hb.cell (p := ⟨B, 0, none⟩) (World.block_lt_of_cell? _ _ hB)).trans hB
  show Calls Tryz.prog 135 #[.int .i64 x, .pointer (some ⟨B, 0, none⟩)] W _
  have e : timesF t x = t * x := rfl
  rw [e]
  rcases ht with rfl | rfl
  · go_enter Tryz.func135, Tryz.ntmps135
    go_wp2
    go_ret
    exact ⟨ret_int (by omega), Below.refl _ _⟩
  · go_enter Tryz.func135, Tryz.ntmps135
    go_wp2
    go_ret
    exact ⟨ret_int (by omega), Below.refl _ _⟩
theorem timesF_in (t : Int) (ht : t = 1 ∨ t = -1) (x : Int) (h : inW x = true) : inW (timesF t x) = true := by
  rw [inW_iff] at *
  unfold timesF
  rcases ht with rfl | rfl <;> omega

set_option maxRecDepth 100000 in
set_option maxHeartbeats 4000000 in
theorem withTimes_at (t : Int) (ht : t = 1 ∨ t = -1) (a b : Option Addr) (ca cb : Nat) (l l' : List Zp) (w : World) (h : ZsAt w a l) (h' : ZsAt w b l') (hn : a = none → ca = 0) :
    Calls Tryz.prog 101 #[.slice a l.length ca, .slice b l'.length cb, .int .i64 t] w fun e w' => ∃ v, e = .returned (.tuple #[v, .int .i64 (bothE t l l')]) ∧ OwnZ w.heap.size w' v (bothZ t l l') ∧ Below w.heap.size w w' := by
  have bA : Below w.heap.size w ((w.alloc (.cells #[.int .i64 t] 2)).alloc (.cells #[.slice a l.length ca, .slice b l'.length cb] 28)) := ((Below.refl _ _).alloc (Nat.le_refl _) _).alloc (by simp) _
  have cA0 : ((w.alloc (.cells #[.int .i64 t] 2)).alloc (.cells #[.slice a l.length ca, .slice b l'.length cb] 28)).cell? ⟨w.heap.size, 0, none⟩ = some (.int .i64 t) := by simp
  have cB0 : ((w.alloc (.cells #[.int .i64 t] 2)).alloc (.cells #[.slice a l.length ca, .slice b l'.length cb] 28)).cell? ⟨w.heap.size + 1, 0, none⟩ = some (.slice a l.length ca) := by simp
  have cB1 : ((w.alloc (.cells #[.int .i64 t] 2)).alloc (.cells #[.slice a l.length ca, .slice b l'.length cb] 28)).cell? ⟨w.heap.size + 1, 1, none⟩ = some (.slice b l'.length cb) := by simp
  have zA := h.next bA
  have zB := h'.next bA
  have hzA : w.heap.size + 2 ≤ ((w.alloc (.cells #[.int .i64 t] 2)).alloc (.cells #[.slice a l.length ca, .slice b l'.length cb] 28)).heap.size := by simp
  by_cases hw : wrongZ l = 0
  · have Hw : Hid (wrongZ l = 0) := hw
    by_cases hw' : wrongZ l' = 0
    · have Hw' : Hid (wrongZ l' = 0) := hw'
      have hok := (wrongZ_iff l).1 hw
      have hok' := (wrongZ_iff l').1 hw'
      have eE : bothE t l l' = gatherE (l ++ weighL (timesF t) l') := by simp [bothE, hw, hw']
      have eZ : bothZ t l l' = gatherZ (l ++ weighL (timesF t) l') := by unfold bothZ gatherZ; rw [eE]
      rw [eE, eZ]
      have hlen := weighL_len (timesF t) l'
      have hin : ∀ x ∈ l ++ weighL (timesF t) l', inW x.2 = true ∧ x.1.length ≤ 8 := by
        intro x hx
        rcases List.mem_append.1 hx with hx | hx
        · exact ⟨(hok.2.1 x hx).2.2, ((wrongRowF_zero _).1 (hok.2.1 x hx).1).1⟩
        · obtain ⟨y, hy, rfl, _⟩ := weighL_mem _ _ x hx
          exact ⟨timesF_in t ht _ (hok'.2.1 y hy).2.2, by simp only [bareL_length]; exact ((wrongRowF_zero _).1 (hok'.2.1 y hy).1).1⟩
      have HIn : Hid (∀ x ∈ l ++ weighL (timesF t) l', inW x.2 = true ∧ x.1.length ≤ 8) := hin
      clear hw hw' eE eZ hin
      go_enter Tryz.func101, Tryz.ntmps101
      go_wp2_with fail
      generalize ((w.alloc (.cells #[.int .i64 t] 2)).alloc (.cells #[.slice a l.length ca, .slice b l'.length cb] 28)) = wA at *
      refine wp_loop_rounds 3 ?_
      rw [rounds_succ]
      go_wp2_with fail
      refine (zWrong_at _ _ _ _ zA).mono ?_
      rintro e w1 ⟨rfl, hb1⟩
      rw [Hw.out]
      have cB1' := (hb1.cell (p := ⟨w.heap.size + 1, 1, none⟩) (World.block_lt_of_cell? _ _ cB1)).trans cB1
      have cA0' := (hb1.cell (p := ⟨w.heap.size, 0, none⟩) (World.block_lt_of_cell? _ _ cA0)).trans cA0
      go_wp2_with fail
      rw [rounds_succ]
      go_wp2_with fail
      refine (zWrong_at _ _ _ _ (zB.next hb1)).mono ?_
      rintro e w2 ⟨rfl, hb2⟩
      rw [Hw'.out]
      have cA2 := (hb2.cell (p := ⟨w.heap.size, 0, none⟩) (World.block_lt_of_cell? _ _ cA0')).trans cA0'
      go_wp2_with fail
      rw [rounds_succ]
      go_wp2_with fail
      refine (weighed_at 135 #[.pointer (some ⟨w.heap.size, 0, none⟩)] (timesF t) b cb l' w2 ((zB.next hb1).next hb2) eg59 (makes59 w2 w.heap.size t cA2 ht) (by omega) (fun x hx => ((wrongRowF_zero _).1 (hok'.2.1 x hx).1).1) (fun x hx => (hok'.2.1 x hx).2.2)).mono ?_
      rintro e w3 ⟨v3, rfl, O3, hb3⟩
      obtain ⟨a3, c3, rfl, z3, n3⟩ := O3.zs2
      have z1 := ((zA.next hb1).next hb2).next hb3
      have b3 := chain1 (chain1 (chain1 bA hb1) hb2) hb3
      have b4 : Below w3.heap.size w3 (w3.alloc (.cells #[.slice a l.length ca, .slice a3 (weighL (timesF t) l').length c3] 28)) := (Below.refl _ _).alloc (Nat.le_refl _) _
      have pr : Pair (w3.alloc (.cells #[.slice a l.length ca, .slice a3 (weighL (timesF t) l').length c3] 28)) w3.heap.size l (weighL (timesF t) l') := by
        refine ⟨by simp, fun k hk => ?_⟩
        match k, hk with
        | 0, _ => exact ⟨a, ca, l, by simp, z1.next b4, hn, by simp [catTo]⟩
        | 1, _ => exact ⟨a3, c3, _, by simp, z3.next b4, n3, by simp [catTo]⟩
      have cc := concat_at w3.heap.size l (weighL (timesF t) l') _ pr (by omega)
      clear O3 pr hb1 hb2 hb3 cA0 cB0 cB1 cA0' cB1' cA2 z1 z3
      generalize hm : weighL (timesF t) l' = m at *
      have HM : Hid (weighL (timesF t) l' = m) := hm
      clear hm
      go_wp2_with fail
      refine cc.mono ?_
      clear cc
      rintro e w5 ⟨a5, c5, rfl, z5, n5, hb5⟩
      have hql : (l ++ m).length ≤ 2000 := by simp; omega
      generalize hq : l ++ m = qq at *
      have HQ : Hid (l ++ m = qq) := hq
      clear hq
      go_wp2_with fail
      refine (gathered_at _ _ _ _ z5 (by omega) (fun x hx => inW_big (HIn.out x hx).1) (fun x hx => (HIn.out x hx).2)).mono ?_
      rintro e w6 ⟨v6, rfl, O6, hb6⟩
      have bb := chain1 (chain1 (chain1 b3 b4) hb5) hb6
      have O6' := O6.mono (Nat.le_trans (Nat.le_trans b3.size b4.size) hb5.size)
      obtain ⟨a6, c6, rfl, z6⟩ := O6.zs
      go_wp2_with fail
      exact bodyPost_ret (v := .tuple #[.slice a6 (gatherZ qq).length c6, .int .i64 (gatherE qq)]) (by simp [results, Tryz.results101, go_sem]) rfl ⟨_, by rw [HM.out, HQ.out], by rw [HM.out, HQ.out]; exact O6', bb⟩
    · have eE : bothE t l l' = wrongZ l' := by simp [bothE, hw, hw']
      have eZ : bothZ t l l' = [] := by simp [bothZ, eE, hw']
      rw [eE, eZ]
      have hne : (wrongZ l' != 0) = true := by simpa using hw'
      clear hw hw' eE eZ
      go_enter Tryz.func101, Tryz.ntmps101
      go_wp2_with fail
      generalize ((w.alloc (.cells #[.int .i64 t] 2)).alloc (.cells #[.slice a l.length ca, .slice b l'.length cb] 28)) = wA at *
      refine wp_loop_rounds 3 ?_
      rw [rounds_succ]
      go_wp2_with fail
      refine (zWrong_at _ _ _ _ zA).mono ?_
      rintro e w1 ⟨rfl, hb1⟩
      rw [Hw.out]
      have cB1' := (hb1.cell (p := ⟨w.heap.size + 1, 1, none⟩) (World.block_lt_of_cell? _ _ cB1)).trans cB1
      go_wp2_with fail
      rw [rounds_succ]
      go_wp2_with fail
      refine (zWrong_at _ _ _ _ (zB.next hb1)).mono ?_
      rintro e w2 ⟨rfl, hb2⟩
      go_wp2_with fail
      exact bodyPost_ret (v := .tuple #[.slice none 0 0, .int .i64 (wrongZ l')]) (by simp [results, Tryz.results101, go_sem]) rfl ⟨_, rfl, own_nil _ _, chain1 (chain1 bA hb1) hb2⟩
  · have eE : bothE t l l' = wrongZ l := by simp [bothE, hw]
    have eZ : bothZ t l l' = [] := by simp [bothZ, eE, hw]
    rw [eE, eZ]
    have hne : (wrongZ l != 0) = true := by simpa using hw
    clear hw eE eZ
    go_enter Tryz.func101, Tryz.ntmps101
    go_wp2_with fail
    generalize ((w.alloc (.cells #[.int .i64 t] 2)).alloc (.cells #[.slice a l.length ca, .slice b l'.length cb] 28)) = wA at *
    refine wp_loop_rounds 3 ?_
    rw [rounds_succ]
    go_wp2_with fail
    refine (zWrong_at _ _ _ _ zA).mono ?_
    rintro e w1 ⟨rfl, hb1⟩
    go_wp2_with fail
    exact bodyPost_ret (v := .tuple #[.slice none 0 0, .int .i64 (wrongZ l)]) (by simp [results, Tryz.results101, go_sem]) rfl ⟨_, rfl, own_nil _ _, chain1 bA hb1⟩

set_option maxRecDepth 100000 in
set_option maxHeartbeats 400000 in
theorem add_at (a b : Option Addr) (ca cb : Nat) (l l' : List Zp) (w : World) (h : ZsAt w a l) (h' : ZsAt w b l') (hn : a = none → ca = 0) :
    Calls Tryz.prog 62 #[.slice a l.length ca, .slice b l'.length cb] w fun e w' => ∃ v, e = .returned (.tuple #[v, .int .i64 (bothE 1 l l')]) ∧ OwnZ w.heap.size w' v (bothZ 1 l l') ∧ Below w.heap.size w w' := by
  go_enter Tryz.func62, Tryz.ntmps62
  go_wp2_with fail
  refine (withTimes_at 1 (by omega) a b ca cb l l' w h h' hn).mono ?_
  rintro e w1 ⟨v, rfl, O1, hb1⟩
  obtain ⟨a1, c1, rfl, z1⟩ := O1.zs
  go_wp2_with fail
  exact bodyPost_ret (v := .tuple #[.slice a1 (bothZ 1 l l').length c1, .int .i64 (bothE 1 l l')]) (by simp [results, Tryz.results62, go_sem]) rfl ⟨_, rfl, O1, hb1⟩

end Go.Proofs.YtfgpfnhbcbhkfadGreat
/- Sums of filters, maps and pairs, plainly. No program in sight. -/
namespace Go.Proofs.YtfgpfnhbcbhkfadGreat

/-- What two right sets make together, once it is known. -/
theorem plus_of {p q r : List Zp} (hp : wrongZ p = 0) (hq : wrongZ q = 0) (hs : IsSet r) (hr : wrongZ r = 0) (e : ∀ k, wt r k = wt p k + wt q k) : bothE 1 p q = 0 ∧ bothZ 1 p q = r := by
  have rq := ((wrongZ_iff q).1 hq).2.2
  have er : r = canon (p ++ weighL (timesF 1) q) := canon_of hs fun k => by
    rw [e, wt_append, weighL_wt (timesF 1) (by simp [timesF]) k q rq]
    simp [timesF]
  obtain ⟨r1, r2, _⟩ := (wrongZ_iff r).1 hr
  have g : gatherE (p ++ weighL (timesF 1) q) = 0 := by
    unfold gatherE
    rw [← er, outW_ok (fun j hj => (r2 _ (List.getElem_mem hj)).2.2), if_neg (by decide), if_neg (by omega)]
  have b : bothE 1 p q = 0 := by unfold bothE; rw [if_pos hp, if_pos hq, g]
  exact ⟨b, by unfold bothZ; rw [if_pos b, ← er]⟩
theorem bothE_ok {p q : List Zp} (h : bothE 1 p q = 0) : wrongZ p = 0 ∧ wrongZ q = 0 ∧ IsSet (bothZ 1 p q) ∧ ∀ k, wt (bothZ 1 p q) k = wt p k + wt q k := by
  have hz := h
  unfold bothE at hz
  by_cases hp : wrongZ p = 0
  · rw [if_pos hp] at hz
    by_cases hq : wrongZ q = 0
    · have rq := ((wrongZ_iff q).1 hq).2.2
      refine ⟨hp, hq, ?_, fun k => ?_⟩
      · unfold bothZ; rw [if_pos h]; exact canon_set _
      · unfold bothZ
        rw [if_pos h, canon_wt, wt_append, weighL_wt (timesF 1) (by simp [timesF]) k q rq]
        simp [timesF]
    · rw [if_neg hq] at hz; exact absurd hz hq
  · rw [if_neg hp] at hz; exact absurd hz hp
theorem tot_lin {s a b : List Zp} (e : ∀ k, wt s k = wt a k + wt b k) {g : List Vl → Int} (hg : Resp g) : tot g s = tot g a + tot g b := by
  rw [← tot_append]
  exact tot_set (fun k => by rw [e, wt_append]) hg
theorem right_rows {cols : List Int} {xs : List Ex} {z : List Zp} (hl : listE cols xs = 0) (hz : InpOk cols z) : ∀ x ∈ mapL xs z, wrongRowF x.1 = 0 := by
  intro x hx
  obtain ⟨p, hp, rfl⟩ := List.mem_map.1 hx
  obtain ⟨l8, lt⟩ := listE_ok hl
  rw [wrongRowF_zero]
  refine ⟨by simpa [rowX] using l8, ?_⟩
  unfold rightB rowX
  rw [List.all_map, List.all_eq_true]
  intro e he
  have := (valX_of (hz.fit p hp) e _ (typ_of (lt e he))).1
  simpa [wrongP] using this
theorem wrong_filt {cols : List Int} {x : Ex} {z : List Zp} (h : filtE cols x z = 0) : wrongZ (filtZ cols x z) = 0 := by
  have hz := (filtE_ok h).2
  unfold filtZ
  rw [if_pos h]
  exact wrong_canon (fun y hy => (((wrongZ_iff z).1 hz.set).2.1 y (List.mem_filter.1 hy).1).1) (filt_gather hz.set _)
theorem wrong_map {cols : List Int} {xs : List Ex} {z : List Zp} (h : mapE cols xs z = 0) : wrongZ (mapZ cols xs z) = 0 := by
  obtain ⟨h1, h2, h3⟩ := mapE_ok h
  unfold mapZ
  rw [if_pos h]
  exact wrong_canon (right_rows h1 h2) h3
theorem linear_filt {cols : List Int} {x : Ex} {a b : List Zp} (h : bothE 1 a b = 0) (ha : filtE cols x a = 0) (hb : filtE cols x b = 0) (hs : filtE cols x (bothZ 1 a b) = 0) :
    bothE 1 (filtZ cols x a) (filtZ cols x b) = 0 ∧ bothZ 1 (filtZ cols x a) (filtZ cols x b) = filtZ cols x (bothZ 1 a b) :=
  plus_of (wrong_filt ha) (wrong_filt hb) (filtZ_set hs) (wrong_filt hs) fun k => by
    rw [filtZ_wt hs, filtZ_wt ha, filtZ_wt hb, (bothE_ok h).2.2.2]
    split <;> simp
theorem linear_map {cols : List Int} {xs : List Ex} {a b : List Zp} (h : bothE 1 a b = 0) (ha : mapE cols xs a = 0) (hb : mapE cols xs b = 0) (hs : mapE cols xs (bothZ 1 a b) = 0) :
    bothE 1 (mapZ cols xs a) (mapZ cols xs b) = 0 ∧ bothZ 1 (mapZ cols xs a) (mapZ cols xs b) = mapZ cols xs (bothZ 1 a b) :=
  plus_of (wrong_map ha) (wrong_map hb) (mapZ_set hs) (wrong_map hs) fun k => by
    rw [mapZ_wt hs, mapZ_wt ha, mapZ_wt hb]
    exact tot_lin (bothE_ok h).2.2.2 (resp_map xs k)

/-! ### Pairs -/
def nulls (n : Nat) : List Vl := List.replicate n (1, 0, ⟨#[]⟩)
def pairsOf (x : Ex) (p : Zp) (b : List Zp) : List Zp := (b.filter fun q => holdsP x (p.1 ++ q.1)).map fun q => (p.1 ++ q.1, p.2 * q.2)
def joinL (x : Ex) (a b : List Zp) : List Zp := a.flatMap fun p => pairsOf x p b
def hasP (x : Ex) (b : List Zp) (row : List Vl) : Bool := b.any fun q => decide (0 < q.2) && holdsP x (row ++ q.1)
def semiL (x : Ex) (a b : List Zp) : List Zp := a.filter fun p => hasP x b p.1
def antiL (x : Ex) (a b : List Zp) : List Zp := a.filter fun p => !hasP x b p.1
def wideL (n : Nat) (z : List Zp) : List Zp := z.map fun p => (p.1 ++ nulls n, p.2)
def leftL (x : Ex) (n : Nat) (a b : List Zp) : List Zp := joinL x a b ++ wideL n (antiL x a b)
def twoE (l r : List Int) (x : Ex) (a b : List Zp) : Int := if 8 < l.length + r.length then 5 else if condE (l ++ r) x ≠ 0 then condE (l ++ r) x else if inpE l a ≠ 0 then inpE l a else inpE r b
structure TwoOk (l r : List Int) (x : Ex) (a b : List Zp) : Prop where
  len : l.length + r.length ≤ 8
  cond : condE (l ++ r) x = 0
  left : InpOk l a
  right : InpOk r b
theorem twoE_ok (l r : List Int) (x : Ex) (a b : List Zp) : twoE l r x a b = 0 ↔ TwoOk l r x a b := by
  unfold twoE
  by_cases h8 : 8 < l.length + r.length
  · rw [if_pos h8]
    constructor
    · intro h; omega
    · intro h; have := h.len; omega
  · rw [if_neg h8]
    by_cases h1 : condE (l ++ r) x = 0
    · rw [if_neg (by simpa using h1)]
      by_cases h2 : inpE l a = 0
      · rw [if_neg (by simpa using h2), inpE_ok]
        exact ⟨fun h => ⟨by omega, h1, (inpE_ok _ _).1 h2, h⟩, fun h => h.right⟩
      · rw [if_pos h2]
        exact ⟨fun h => absurd h h2, fun h => absurd ((inpE_ok _ _).2 h.left) h2⟩
    · rw [if_pos h1]
      exact ⟨fun h => absurd h h1, fun h => absurd h.cond h1⟩
def nameL (what : Nat) (n : Nat) (x : Ex) (a b : List Zp) : List Zp := if what = 0 then joinL x a b else if what = 1 then semiL x a b else if what = 2 then antiL x a b else leftL x n a b
def pairE (what : Nat) (l r : List Int) (x : Ex) (a b : List Zp) : Int := if twoE l r x a b ≠ 0 then twoE l r x a b else gatherE (nameL what r.length x a b)
def pairZ (what : Nat) (l r : List Int) (x : Ex) (a b : List Zp) : List Zp := if pairE what l r x a b = 0 then canon (nameL what r.length x a b) else []
theorem pairE_ok {what : Nat} {l r : List Int} {x : Ex} {a b : List Zp} (h : pairE what l r x a b = 0) : TwoOk l r x a b ∧ gatherE (nameL what r.length x a b) = 0 := by
  unfold pairE at h
  by_cases h1 : twoE l r x a b = 0
  · rw [if_neg (by simpa using h1)] at h
    exact ⟨(twoE_ok ..).1 h1, h⟩
  · rw [if_pos h1] at h; exact absurd h h1

theorem fit_append {l r : List Int} {u v : List Vl} (h : FitP l u) (k : FitP r v) : FitP (l ++ r) (u ++ v) := by
  have h1 := h.len
  have k1 := k.len
  refine ⟨by simp [h1, k1], fun i hi => ?_⟩
  by_cases c : i < u.length
  · rw [List.getElem_append_left c]
    have := h.one i c
    have e : (l ++ r).getD i 0 = l.getD i 0 := by simp only [List.getD]; rw [List.getElem?_append_left (by omega)]
    rwa [e]
  · have hi' : i - u.length < v.length := by simp at hi; omega
    rw [List.getElem_append_right (by omega)]
    have := k.one (i - u.length) hi'
    have e : (l ++ r).getD i 0 = r.getD (i - u.length) 0 := by simp only [List.getD]; rw [List.getElem?_append_right (by omega), h1]
    rwa [e]
theorem fit_right {cols : List Int} {row : List Vl} (h : FitP cols row) : rightB row = true := by
  unfold rightB
  rw [List.all_eq_true]
  intro v hv
  obtain ⟨i, hi, rfl⟩ := List.getElem_of_mem hv
  simpa [wrongP] using (h.one i hi).1
theorem fit_row {cols : List Int} {row : List Vl} (h : FitP cols row) (h8 : cols.length ≤ 8) : wrongRowF row = 0 := (wrongRowF_zero row).2 ⟨by have := h.len; omega, fit_right h⟩

theorem pairsOf_tot (x : Ex) (p : Zp) (q : List Vl) (b : List Zp) : wt (pairsOf x p b) q = tot (fun s => if holdsP x (p.1 ++ s) = true ∧ cmpL (p.1 ++ s) q = 0 then 1 else 0) b * p.2 := by
  induction b with
  | nil => simp [pairsOf, wt, tot]
  | cons y t ih =>
    unfold pairsOf at ih ⊢
    rw [tot, Int.add_mul, ← ih, List.filter_cons]
    by_cases h : holdsP x (p.1 ++ y.1) = true
    · rw [if_pos h, List.map_cons, wt]
      by_cases c : cmpL (p.1 ++ y.1) q = 0
      · simp only [c, if_true, h, and_self]
        rw [Int.one_mul, Int.mul_comm]
      · simp [c]
    · rw [if_neg h]
      simp [h]
theorem join_tot (x : Ex) (q : List Vl) (a b : List Zp) : wt (joinL x a b) q = tot (fun r => tot (fun s => if holdsP x (r ++ s) = true ∧ cmpL (r ++ s) q = 0 then 1 else 0) b) a := by
  induction a with
  | nil => rfl
  | cons p t ih =>
    unfold joinL at ih ⊢
    rw [List.flatMap_cons, wt_append, tot, ih, pairsOf_tot]
theorem resp_pair1 (x : Ex) (q : List Vl) (r : List Vl) : Resp (fun s => if holdsP x (r ++ s) = true ∧ cmpL (r ++ s) q = 0 then (1 : Int) else 0) := fun a b h => by
  have e := cmpL_append (cmpL_refl r) h
  simp only [holds_same e, cmpL_left e]
theorem resp_pair2 (x : Ex) (q : List Vl) (b : List Zp) : Resp (fun r => tot (fun s => if holdsP x (r ++ s) = true ∧ cmpL (r ++ s) q = 0 then (1 : Int) else 0) b) := fun r r' h => by
  refine tot_congr fun y _ => ?_
  have e := cmpL_append h (cmpL_refl y.1)
  simp only [holds_same e, cmpL_left e]
theorem join_bilinear {x : Ex} {a b c d s t : List Zp} (hs : ∀ k, wt s k = wt a k + wt b k) (ht : ∀ k, wt t k = wt c k + wt d k) (q : List Vl) :
    wt (joinL x s t) q = wt (joinL x a c) q + wt (joinL x a d) q + wt (joinL x b c) q + wt (joinL x b d) q := by
  simp only [join_tot]
  rw [tot_lin hs (resp_pair2 x q t)]
  have e : ∀ z : List Zp, tot (fun r => tot (fun s => if holdsP x (r ++ s) = true ∧ cmpL (r ++ s) q = 0 then 1 else 0) t) z =
      tot (fun r => tot (fun s => if holdsP x (r ++ s) = true ∧ cmpL (r ++ s) q = 0 then 1 else 0) c) z + tot (fun r => tot (fun s => if holdsP x (r ++ s) = true ∧ cmpL (r ++ s) q = 0 then 1 else 0) d) z := fun z => by
    rw [← tot_add]
    exact tot_congr fun y _ => tot_lin ht (resp_pair1 x q y.1)
  rw [e, e]
  omega
theorem hasP_same {row row' : List Vl} (h : cmpL row row' = 0) (x : Ex) (b : List Zp) : hasP x b row = hasP x b row' := by
  unfold hasP
  induction b with
  | nil => rfl
  | cons y t ih => rw [List.any_cons, List.any_cons, ih, holds_same (cmpL_append h (cmpL_refl y.1))]
theorem semi_wt (x : Ex) (a b : List Zp) (q : List Vl) : wt (semiL x a b) q = if hasP x b q then wt a q else 0 := wt_filter (hasP x b) (fun _ _ h => hasP_same h x b) q a
theorem anti_wt (x : Ex) (a b : List Zp) (q : List Vl) : wt (antiL x a b) q = if hasP x b q then 0 else wt a q := by
  have := wt_filter (fun r => !hasP x b r) (fun _ _ h => by show (!_) = (!_); rw [hasP_same h]) q a
  unfold antiL
  rw [this]
  cases hasP x b q <;> rfl
theorem wide_tot (n : Nat) (q : List Vl) (z : List Zp) : wt (wideL n z) q = tot (fun r => if cmpL (r ++ nulls n) q = 0 then 1 else 0) z := by
  induction z with
  | nil => rfl
  | cons x r ih =>
    show wt ((x.1 ++ nulls n, x.2) :: wideL n r) q = _
    rw [wt, tot, ih]
    split <;> simp
theorem resp_wide (n : Nat) (q : List Vl) : Resp (fun r => if cmpL (r ++ nulls n) q = 0 then (1 : Int) else 0) := fun a b h => by simp only [cmpL_left (cmpL_append h (cmpL_refl (nulls n)))]
theorem wide_set {n : Nat} {a b : List Zp} (h : ∀ k, wt a k = wt b k) (q : List Vl) : wt (wideL n a) q = wt (wideL n b) q := by
  rw [wide_tot, wide_tot]; exact tot_set h (resp_wide n q)
theorem cmpL_snoc_lt : ∀ (a b c : List Vl), a.length = b.length → cmpL a b < 0 → cmpL (a ++ c) (b ++ c) < 0
  | [], [], _, _, h => by simp [cmpL] at h
  | [], _ :: _, _, h, _ => by simp at h
  | _ :: _, [], _, h, _ => by simp at h
  | x :: r, y :: t, c, hl, h => by
    rw [List.cons_append, List.cons_append]
    unfold cmpL at h ⊢
    by_cases e : cmpP x y = 0
    · rw [if_pos e] at h ⊢
      exact cmpL_snoc_lt r t c (by simpa using hl) h
    · rw [if_neg e] at h ⊢
      exact h
end Go.Proofs.YtfgpfnhbcbhkfadGreat
/- The walk of ops.Map. -/
namespace Go.Proofs.YtfgpfnhbcbhkfadGreat
open Go.RowKit Go.Lib Go.Shelf

/-- Rows with weights in a slice of one's own that was made at once: k of them are there. -/
def MTo (W : World) (B n : Nat) (f : Nat → Zp) (k : Nat) : Prop := ∃ xs, W.ownsRow B 53 2 (.slice (some ⟨B, 0, none⟩) n n) n xs ∧ ∀ j : Nat, j < n → j < k → ∃ a cap, xs[j * 2]? = some (.slice a (f j).1.length cap) ∧ xs[j * 2 + 1]? = some (.int .i64 (f j).2) ∧ SlAt W a (f j).1 ∧ TyAt W a
theorem MTo.next {W w1 : World} {B n : Nat} {f : Nat → Zp} {k : Nat} (h : MTo W B n f k) (hb : Below W.heap.size W w1) : MTo w1 B n f k := by
  obtain ⟨xs, h1, h2⟩ := h
  refine ⟨xs, own_next h1 hb, fun j hj hk => ?_⟩
  obtain ⟨a, cap, e0, e1, e2, e3⟩ := h2 j hj hk
  exact ⟨a, cap, e0, e1, e2.next hb, e3.next hb⟩
theorem MTo.step {W : World} {B n : Nat} {f : Nat → Zp} {k : Nat} (h : MTo W B n f k) (hk : k < n) {a : Option Addr} {cap : Nat} (hs : SlAt W a (f k).1) (ht : TyAt W a) :
    MTo ((W.setCell ⟨B, k * 2, none⟩ (.slice a (f k).1.length cap)).setCell ⟨B, k * 2 + 1, none⟩ (.int .i64 (f k).2)) B n f (k + 1) := by
  obtain ⟨xs, h1, h2⟩ := h
  have lx := h1.1
  obtain ⟨o1, g1⟩ := h1.stored (k * 2) (.slice a (f k).1.length cap)
  obtain ⟨o2, g2⟩ := o1.stored (k * 2 + 1) (.int .i64 (f k).2)
  have go : ∀ {b : Option Addr} {r : List Vl}, SlAt W b r → TyAt W b → SlAt ((W.setCell ⟨B, k * 2, none⟩ (.slice a (f k).1.length cap)).setCell ⟨B, k * 2 + 1, none⟩ (.int .i64 (f k).2)) b r ∧ TyAt ((W.setCell ⟨B, k * 2, none⟩ (.slice a (f k).1.length cap)).setCell ⟨B, k * 2 + 1, none⟩ (.int .i64 (f k).2)) b := fun hs ht => by
    obtain ⟨s1, t1⟩ := sl_grown hs ht h1 g1
    exact sl_grown s1 t1 o1 g2
  refine ⟨_, o2, ?_⟩
  intro j hj hjk
  by_cases e : j = k
  · subst e
    refine ⟨a, cap, ?_, ?_, (go hs ht).1, (go hs ht).2⟩
    · rw [List.getElem?_set_ne (by omega)]; simp [List.getElem?_set, lx]; omega
    · simp [List.getElem?_set, lx]; omega
  · obtain ⟨b, c, e0, e1, e2, e3⟩ := h2 j hj (by omega)
    refine ⟨b, c, ?_, ?_, (go e2 e3).1, (go e2 e3).2⟩
    · rw [List.getElem?_set_ne (by omega), List.getElem?_set_ne (by omega)]; exact e0
    · rw [List.getElem?_set_ne (by omega), List.getElem?_set_ne (by omega)]; exact e1
theorem MTo.cells {W : World} {B n : Nat} {f : Nat → Zp} {k : Nat} (h : MTo W B n f k) (hk : k < n) : (∃ u0 u1, W.cell? ⟨B, k * 2, none⟩ = some u0 ∧ W.cell? ⟨B, k * 2 + 1, none⟩ = some u1) ∧ W.frozen? ⟨B, k * 2, none⟩ = false ∧ W.frozen? ⟨B, k * 2 + 1, none⟩ = false ∧ B < W.heap.size := by
  obtain ⟨xs, h1, h2⟩ := h
  have lx := h1.1
  refine ⟨⟨xs[k * 2]'(by omega), xs[k * 2 + 1]'(by omega), ?_, ?_⟩, h1.frozenAt _, h1.frozenAt _, (h1.lt B rfl).2⟩
  · rw [h1.cellAt _ (by omega)]; exact List.getElem?_eq_getElem (by omega)
  · rw [h1.cellAt _ (by omega)]; exact List.getElem?_eq_getElem (by omega)
theorem MTo.done {W : World} {B n : Nat} {f : Nat → Zp} (h : MTo W B n f n) (l : List Zp) (hn : n = l.length) (hv : ∀ j (hj : j < l.length), f j = l[j]) (h8 : l.length ≤ 200000) : ZsAt W (some ⟨B, 0, none⟩) l := by
  obtain ⟨xs, h1, h2⟩ := h
  subst hn
  refine ⟨by unfold maxLen; omega, .inr ⟨B, 0, rfl, (h1.lt B rfl).2, ?_⟩⟩
  intro i hi
  obtain ⟨a, cap, g0, g1, g2, _⟩ := h2 i hi hi
  rw [hv i hi] at g0 g1 g2
  refine ⟨?_, a, cap, ?_, g2⟩
  · rw [h1.cellAt _ (by omega), ← g1]; congr 1; omega
  · rw [h1.cellAt _ (by omega), ← g0]; congr 1; omega

set_option maxRecDepth 100000 in
set_option maxHeartbeats 4000000 in
theorem map_at (cols : List Int) (xs : List Ex) (ca : Option Addr) (ccap : Nat) (xa : Option Addr) (xcap : Nat) (a : Option Addr) (cap : Nat) (l : List Zp) (w : World) (hc : IsAt w.heap.size w ca cols) (hk : KsAt w.heap.size w xa xs) (h : ZsAt w a l) :
    Calls Tryz.prog 12 #[.slice ca cols.length ccap, .slice xa xs.length xcap, .slice a l.length cap] w fun e w' => ∃ v, e = .returned (.tuple #[v, .int .i64 (mapE cols xs l)]) ∧ OwnZ w.heap.size w' v (mapZ cols xs l) ∧ Below w.heap.size w w' := by
  obtain ⟨i0, hi, hz0, hz1, hz2⟩ := info_parts Tryz.info42
  have con := list_at cols xs ca ccap xa xcap w hk hc
  generalize hfz : mapZ cols xs l = fz
  generalize hfe : mapE cols xs l = fe
  have HZ : Hid (mapZ cols xs l = fz) := hfz
  have HF : Hid (mapE cols xs l = fe) := hfe
  clear hfz hfe
  by_cases h1 : listE cols xs = 0
  · have H1 : Hid (listE cols xs = 0) := h1
    rw [h1] at con
    clear h1
    go_enter Tryz.func12, Tryz.ntmps12
    go_wp2_with fail
    refine con.mono ?_
    rintro e w1 ⟨u, rfl, hL, hb1⟩
    clear con
    have hL : ListF cols w.heap.size u xs w1 := by
      rcases hL with ⟨_, hL⟩ | ⟨hL, _⟩
      · exact hL
      · exact absurd (by trivial) hL
    obtain ⟨g, cb, rfl, eg, d⟩ := hL
    have HD : Hid (∀ (row : List Vl) (a : Option Addr) (cap : Nat) (W : World), FitP cols row → SlAt W a row → Since w.heap.size w1 W → Calls Tryz.prog g (#[.slice a row.length cap] ++ cb) W fun e w' => e = .returned (.slice (some ⟨W.heap.size, 0, none⟩) xs.length xs.length) ∧ RowNew W.heap.size w' (rowX xs row) ∧ Below W.heap.size W w') := d
    clear d
    have con := wrongS_at cols ca ccap a cap l w1 ((hc.next hb1 (Nat.le_refl _)).up hb1.size) (h.next hb1)
    by_cases h2 : inpE cols l = 0
    · have hz := (inpE_ok cols l).1 h2
      rw [h2] at con
      have H2 : Hid (inpE cols l = 0) := h2
      clear h2
      have HE : Hid (fe = gatherE (mapL xs l)) := by
        show fe = _
        rw [← HF.out]; unfold mapE; rw [H1.out, H2.out]; rfl
      have HV : Hid (fz = gatherZ (mapL xs l)) := by
        show fz = _
        rw [← HZ.out]; unfold mapZ gatherZ; rw [HF.out, HE.out]
      have hl4 := set_len hz
      have HO : Hid (InpOk cols l) := hz
      go_wp2_with fail
      refine con.mono ?_
      rintro e w2 ⟨rfl, hb2⟩
      clear con
      have hA := chain hb1 hb2
      have z2 := hb2.size
      have z1 := hb1.size
      go_wp2_with (first | (at_make; refine wpList_make_full _ rfl _ _ 28 rfl w2.heap.size 53 i0 _ 2 Tryz.underlying28 hi hz0 hz1 .i64 .i64 l.length l.length l.length rfl rfl rfl rfl (by rw [hz2]; omega) (by unfold maxLen; omega) (Nat.le_refl _) ?_))
      intro w3 hown hgrow
      have hb3 : Below w2.heap.size w2 w3 := (Below.refl _ _).grown hgrow (Nat.le_refl _) (by simp)
      obtain ⟨f, hf⟩ : ∃ f : Nat → Zp, f = (fun j => (mapL xs l).getD j ([], 0)) := ⟨_, rfl⟩
      have HFn : Hid (f = (fun j => (mapL xs l).getD j ([], 0))) := hf
      clear hf
      have hB0 : MTo w3 w2.heap.size l.length f 0 := ⟨_, hown, fun j _ hj => absurd hj (Nat.not_lt_zero _)⟩
      clear hown hgrow
      go_wp2_with fail
      go_loopw [34] (fun i wr => ∃ k : Nat, k ≤ l.length ∧ i = .int .i64 k ∧ MTo wr w2.heap.size l.length f k ∧ Below w2.heap.size w2 wr) (fun i _ => l.length - (intOf i).toNat)
      case atStart => exact ⟨0, Nat.zero_le _, rfl, hB0, hb3⟩
      case round =>
        clear hB0 hb3
        obtain ⟨k, hk, rfl, HB, hb⟩ := hrel
        have hz := hb.size
        by_cases hlt : k < l.length
        · obtain ⟨b, off, rfl, hbl, c1, ar, cr, c0, sr⟩ := (h.next (chain hA hb)).elem hlt
          have hal : Below wr.heap.size wr (wr.alloc (.cells #[.slice ar l[k].1.length cr, .int .i64 l[k].2] 53)) := (Below.refl _ _).alloc (Nat.le_refl _) _
          have hd : Below (wr.alloc (.cells #[.slice ar l[k].1.length cr, .int .i64 l[k].2] 53)).heap.size (wr.alloc (.cells #[.slice ar l[k].1.length cr, .int .i64 l[k].2] 53)) (wr.alloc (.cells #[.slice ar l[k].1.length cr, .int .i64 l[k].2] 53)).drew := (Below.refl _ _).drew
          have hbk : Below w1.heap.size w1 (wr.alloc (.cells #[.slice ar l[k].1.length cr, .int .i64 l[k].2] 53)).drew := (chain (chain (chain hb2 hb) hal) hd)
          have con := HD.out l[k].1 ar cr _ (HO.out.fit l[k] (List.getElem_mem hlt)) ((sr.next hal).next hd) (Since.of hbk)
          have q0 : (wr.alloc (.cells #[.slice ar l[k].1.length cr, .int .i64 l[k].2] 53)).cell? ⟨wr.heap.size, 0, none⟩ = some (.slice ar l[k].1.length cr) := by simp
          have q1 : (wr.alloc (.cells #[.slice ar l[k].1.length cr, .int .i64 l[k].2] 53)).cell? ⟨wr.heap.size, 1, none⟩ = some (.int .i64 l[k].2) := by simp
          have za : (wr.alloc (.cells #[.slice ar l[k].1.length cr, .int .i64 l[k].2] 53)).heap.size = wr.heap.size + 1 := by simp
          have ef : f k = (rowX xs l[k].1, l[k].2) := by rw [HFn.out]; simp [mapL, List.getD, hlt]
          have EF : Hid (f k = (rowX xs l[k].1, l[k].2)) := ef
          have hrl : xs.length = (rowX xs l[k].1).length := by simp [rowX]
          have HR : Hid (xs.length = (rowX xs l[k].1).length) := hrl
          have i0' : (0 : Int) ≤ (k : Int) := by omega
          have i1 : (k : Int) < (l.length : Int) := by omega
          clear ef hrl
          go_wp2_with fail
          clear c0 c1 sr
          generalize wr.alloc (.cells #[.slice ar l[k].1.length cr, .int .i64 l[k].2] 53) = wk at *
          obtain ⟨⟨t0, t1, e0, e1⟩, f0, f1, hlb⟩ := (HB.next hal).cells hlt
          go_region_with (go_at_fn g; refine con.mono ?_; rintro e w5 ⟨rfl, hR, hb5⟩; have HB5 := ((HB.next hal).next hd).next hb5; obtain ⟨⟨u0, u1, d0, d1⟩, g0, g1, hlb5⟩ := HB5.cells hlt; have r1 := ((hd.trans (hb5.mono hd.size)).cell (p := ⟨wr.heap.size, 1, none⟩) (by show wr.heap.size < _; omega)).trans q1)
          all_goals (
            go_wp2_with fail
            go_roundw
            case rel =>
              refine ⟨k + 1, by omega, by go_num, ?_, ?_⟩
              · have := HB5.step hlt (a := some ⟨wk.drew.heap.size, 0, none⟩) (cap := xs.length) (by rw [EF.out]; exact hR.1) hR.2
                rw [EF.out, ← HR.out, show wk.drew.heap.size = wr.heap.size + 1 from za] at this
                exact this
              · exact ((chain (chain hb hal) (hd.trans (hb5.mono hd.size))).setCell (p := ⟨w2.heap.size, k * 2, none⟩) (Nat.le_refl _) _).setCell (p := ⟨w2.heap.size, k * 2 + 1, none⟩) (Nat.le_refl _) _
            case measure => simp [intOf]; omega)
        · have e : k = l.length := by omega
          subst e
          have hml : (mapL xs l).length = l.length := by simp [mapL]
          have zsm := HB.done (mapL xs l) hml.symm (fun j hj => by rw [HFn.out]; simp [List.getD, hj]) (by omega)
          have con := gathered_at (some ⟨w2.heap.size, 0, none⟩) l.length (mapL xs l) wr zsm (by omega) (fun y hy => by obtain ⟨p, hp, rfl⟩ := List.mem_map.1 hy; exact inW_big (set_in HO.out p hp)) (fun y hy => by obtain ⟨p, hp, rfl⟩ := List.mem_map.1 hy; have := (listE_ok H1.out).1; simpa [rowX] using this)
          rw [hml] at con
          have HV' := HV.out
          have HE' := HE.out
          rw [← HE', ← HV'] at con
          clear HV' HE' zsm HB
          go_wp2_with fail
          refine con.mono ?_
          rintro e w6 ⟨v6, rfl, O6, hb6⟩
          have hA6 := chain hA hb
          have O6' := O6.mono hA6.size
          obtain ⟨a6, c6, rfl, _⟩ := O6.zs
          go_wp2_with fail
          exact bodyPost_ret (v := .tuple #[.slice a6 fz.length c6, .int .i64 fe]) (by simp [results, Tryz.results12, go_sem]) rfl ⟨_, rfl, O6', chain hA6 hb6⟩
    · have e0 : fe = inpE cols l := by rw [← HF.out]; unfold mapE; rw [H1.out, if_neg (by simp), if_pos h2]
      have e1 : fz = [] := by rw [← HZ.out]; unfold mapZ; rw [HF.out, e0, if_neg h2]
      have hne : (inpE cols l != 0) = true := by simpa using h2
      rw [← e0] at con hne
      have HV : Hid (fz = []) := e1
      clear e0 e1
      go_wp2_with fail
      refine con.mono ?_
      rintro e w2 ⟨rfl, hb2⟩
      clear con
      go_wp2_with fail
      exact bodyPost_ret (v := .tuple #[.slice none 0 0, .int .i64 fe]) (by simp [results, Tryz.results12, go_sem]) rfl ⟨_, rfl, by rw [HV.out]; exact own_nil _ _, chain hb1 hb2⟩
  · have e0 : fe = listE cols xs := by rw [← HF.out]; unfold mapE; rw [if_pos h1]
    have e1 : fz = [] := by rw [← HZ.out]; unfold mapZ; rw [HF.out, e0, if_neg h1]
    have hne : (listE cols xs != 0) = true := by simpa using h1
    have HL : Hid (¬ listE cols xs = 0) := h1
    rw [← e0] at hne
    have HV : Hid (fz = []) := e1
    have HN : Hid (fe = listE cols xs) := e0
    clear e0 e1 h1
    go_enter Tryz.func12, Tryz.ntmps12
    go_wp2_with fail
    refine con.mono ?_
    rintro e w1 ⟨u, rfl, hL, hb1⟩
    obtain ⟨_, rfl⟩ : ¬ listE cols xs = 0 ∧ u = .nilFunc := by
      rcases hL with ⟨hL, _⟩ | hL
      · exact absurd hL HL.out
      · exact hL
    rw [← HN.out]
    clear con
    go_wp2_with fail
    exact bodyPost_ret (v := .tuple #[.slice none 0 0, .int .i64 fe]) (by simp [results, Tryz.results12, go_sem]) rfl ⟨_, rfl, by rw [HV.out]; exact own_nil _ _, hb1⟩
end Go.Proofs.YtfgpfnhbcbhkfadGreat
/- The statements' own small functions: num, col, alive, plus. -/
namespace Go.Proofs.YtfgpfnhbcbhkfadGreat
open Go.RowKit Go.Lib Go.Shelf

theorem num_at (n : Int) (w : World) :
    Calls Tryz.prog 60 #[.int .i64 n] w fun e w' => e = .returned (.agg #[.int .i64 3, .int .i64 n, .string ⟨#[]⟩]) ∧ Below w.heap.size w w' := by
  go_enter Tryz.func60, Tryz.ntmps60
  go_wp2_with fail
  exact bodyPost_ret (v := .agg #[.int .i64 3, .int .i64 n, .string ⟨#[]⟩]) (by simp [results, Tryz.results60, go_sem]) rfl ⟨rfl, (Below.refl _ _).alloc (Nat.le_refl _) _⟩
theorem col_at (c : Int) (w : World) :
    Calls Tryz.prog 61 #[.int .i64 c] w fun e w' => e = .returned (exV 2 vl0 c none 0 0) ∧ Below w.heap.size w w' := by
  go_enter Tryz.func61, Tryz.ntmps61
  go_wp2_with fail
  exact bodyPost_ret (v := exV 2 vl0 c none 0 0) (by simp [results, Tryz.results61, go_sem, vl0]) rfl ⟨rfl, (Below.refl _ _).alloc (Nat.le_refl _) _⟩
theorem ks_two (w : World) {B : Nat} {x y : Ex} (ax : Option Addr) (cx : Nat) (ay : Option Addr) (cy : Nat) (hB : B ≤ w.heap.size) (kx : KsAt B w ax x.ks) (ky : KsAt B w ay y.ks) :
    KsAt (w.heap.size + 1) (w.alloc (.cells #[.int .i64 x.k, .int .i64 x.v.1, .int .i64 x.v.2.1, .string x.v.2.2, .int .i64 x.c, .slice ax x.ks.length cx, .int .i64 y.k, .int .i64 y.v.1, .int .i64 y.v.2.1, .string y.v.2.2, .int .i64 y.c, .slice ay y.ks.length cy] 27)) (some ⟨w.heap.size, 0, none⟩) [x, y] := by
  have hal : Below w.heap.size w (w.alloc (.cells #[.int .i64 x.k, .int .i64 x.v.1, .int .i64 x.v.2.1, .string x.v.2.2, .int .i64 x.c, .slice ax x.ks.length cx, .int .i64 y.k, .int .i64 y.v.1, .int .i64 y.v.2.1, .string y.v.2.2, .int .i64 y.c, .slice ay y.ks.length cy] 27)) := (Below.refl _ _).alloc (Nat.le_refl _) _
  have Kx := (KsAt.next hal hB kx).up (Nat.le_succ_of_le hB)
  have Ky := (KsAt.next hal hB ky).up (Nat.le_succ_of_le hB)
  refine .some w.heap.size 0 _ (fun i => if i = 0 then ax else ay) (fun i => if i = 0 then cx else cy) (Nat.lt_succ_self _) (fun i hi => ?_) (fun i hi => ?_)
  · match i, hi with
    | 0, _ => exact ⟨by simp, by simp, by simp, by simp, by simp, by simp⟩
    | 1, _ => exact ⟨by simp, by simp, by simp, by simp, by simp, by simp⟩
  · match i, hi with
    | 0, _ => exact Kx
    | 1, _ => exact Ky

set_option maxHeartbeats 400000 in
theorem plus_at (a b : Option Addr) (ca cb : Nat) (l l' : List Zp) (w : World) (h : ZsAt w a l) (h' : ZsAt w b l') (hn : a = none → ca = 0) :
    Calls Tryz.prog 24 #[.slice a l.length ca, .slice b l'.length cb] w fun e w' => ∃ v, e = .returned (.tuple #[v, .bool (bothE 1 l l' == 0)]) ∧ OwnZ w.heap.size w' v (bothZ 1 l l') ∧ Below w.heap.size w w' := by
  have con := add_at a b ca cb l l' w h h' hn
  generalize bothE 1 l l' = t at *
  generalize bothZ 1 l l' = z at *
  go_enter Tryz.func24, Tryz.ntmps24
  go_wp2_with fail
  refine con.mono ?_
  rintro e w1 ⟨v, rfl, O, hb⟩
  obtain ⟨a1, c1, rfl, _⟩ := O.zs
  go_wp2_with fail
  exact bodyPost_ret (v := .tuple #[.slice a1 z.length c1, .bool (t == 0)]) (by simp [results, Tryz.results24, go_sem]) rfl ⟨_, rfl, O, hb⟩

/-! ### alive -/
def zA : List Zp := [([(3, 1, ⟨#[]⟩)], 2), ([(3, 2, ⟨#[]⟩)], 1)]
def xA : Ex := mk2 8 (.mk 2 vl0 0 []) (.mk 1 (3, 2, ⟨#[]⟩) 0 [])
theorem wrong_zA : wrongZ zA = 0 := by
  rw [wrongZ_iff]
  refine ⟨by decide, ?_, ?_⟩
  · intro x hx
    simp only [zA, List.mem_cons, List.not_mem_nil, or_false] at hx
    rcases hx with rfl | rfl
    · exact ⟨by rfl, by decide, by rfl⟩
    · exact ⟨by rfl, by decide, by rfl⟩
  · simp only [Rise, zA, List.pairwise_cons, List.mem_cons, List.not_mem_nil, or_false, forall_eq, List.Pairwise.nil, and_true, false_imp_iff, implies_true]
    simp [cmpL, cmpP, cmpV, cmpI]
theorem filtE_A : filtE [3] xA zA = 0 := by
  have h1 : condE [3] xA = 0 := by rfl
  have h2 : inpE [3] zA = 0 := by
    rw [inpE_ok]
    refine ⟨by decide, wrong_zA, ?_⟩
    intro x hx
    simp only [zA, List.mem_cons, List.not_mem_nil, or_false] at hx
    rcases hx with rfl | rfl
    · exact (fitsL_ok _ _).1 (by rfl)
    · exact (fitsL_ok _ _).1 (by rfl)
  unfold filtE
  rw [h1, h2]
  rfl
theorem rise_A : Rise zA := ((wrongZ_iff zA).1 wrong_zA).2.2
theorem filtZ_A : filtZ [3] xA zA = [([(3, 1, ⟨#[]⟩)], 2)] := by
  unfold filtZ
  rw [if_pos filtE_A]
  have e : filtL xA zA = [([(3, 1, ⟨#[]⟩)], 2)] := by rfl
  rw [e, canon_rise (by simp [Rise])]
  rfl
def sA : List Zp := [([(3, 1, ⟨#[]⟩)], 4), ([(3, 2, ⟨#[]⟩)], 2)]
theorem both_A : bothE 1 zA zA = 0 ∧ bothZ 1 zA zA = sA := by
  have hr : Rise sA := by
    simp only [Rise, sA, List.pairwise_cons, List.mem_cons, List.not_mem_nil, or_false, forall_eq, List.Pairwise.nil, and_true, false_imp_iff, implies_true]
    simp [cmpL, cmpP, cmpV, cmpI]
  refine plus_of wrong_zA wrong_zA ⟨hr, ?_, ?_⟩ ?_ ?_
  · intro x hx
    simp only [sA, List.mem_cons, List.not_mem_nil, or_false] at hx
    rcases hx with rfl | rfl <;> decide
  · intro x hx
    simp only [sA, List.mem_cons, List.not_mem_nil, or_false] at hx
    rcases hx with rfl | rfl <;> rfl
  · rw [wrongZ_iff]
    refine ⟨by decide, ?_, hr⟩
    intro x hx
    simp only [sA, List.mem_cons, List.not_mem_nil, or_false] at hx
    rcases hx with rfl | rfl
    · exact ⟨by rfl, by decide, by rfl⟩
    · exact ⟨by rfl, by decide, by rfl⟩
  · intro k
    simp only [wt, sA, zA]
    split <;> split <;> omega
theorem zs_two {W : World} {b a1 a2 : Nat} {x1 x2 : Int} {r1 r2 : List Vl} (hb : b < W.heap.size) (h0 : W.cell? ⟨b, 0, none⟩ = some (.slice (some ⟨a1, 0, none⟩) r1.length r1.length)) (h1 : W.cell? ⟨b, 1, none⟩ = some (.int .i64 x1)) (h2 : W.cell? ⟨b, 2, none⟩ = some (.slice (some ⟨a2, 0, none⟩) r2.length r2.length)) (h3 : W.cell? ⟨b, 3, none⟩ = some (.int .i64 x2))
    (s1 : SlAt W (some ⟨a1, 0, none⟩) r1) (s2 : SlAt W (some ⟨a2, 0, none⟩) r2) : ZsAt W (some ⟨b, 0, none⟩) [(r1, x1), (r2, x2)] := by
  refine ⟨by simp [maxLen], .inr ⟨b, 0, rfl, hb, fun i hi => ?_⟩⟩
  match i, hi with
  | 0, _ => exact ⟨h1, _, _, h0, s1⟩
  | 1, _ => exact ⟨h3, _, _, h2, s2⟩

set_option maxRecDepth 100000 in
set_option maxHeartbeats 4000000 in
theorem alive_at (w : World) : Calls Tryz.prog 23 #[] w fun e w' => e = .returned (.bool true) ∧ Below w.heap.size w w' := by
  go_enter Tryz.func23, Tryz.ntmps23
  go_wp2_with fail
  refine (num_at 1 w).mono ?_
  rintro e w1 ⟨rfl, hb1⟩
  go_wp2_with fail
  have h2 : Below w1.heap.size w1 (w1.alloc (.cells #[.int .i64 3, .int .i64 1, .string ⟨#[]⟩] 24)) := (Below.refl _ _).alloc (Nat.le_refl _) _
  have s1 : SlAt (w1.alloc (.cells #[.int .i64 3, .int .i64 1, .string ⟨#[]⟩] 24)) (some ⟨w1.heap.size, 0, none⟩) [(3, 1, ⟨#[]⟩)] :=
    ⟨by unfold maxLen; simp, .inr ⟨w1.heap.size, 0, rfl, fun i hi => by
      match i, hi with
      | 0, _ => exact ⟨by simp, by simp, by simp⟩, by simp⟩⟩
  generalize w1.alloc (.cells #[.int .i64 3, .int .i64 1, .string ⟨#[]⟩] 24) = w2 at *
  have hA := chain hb1 h2
  refine (num_at 2 w2).mono ?_
  rintro e w3 ⟨rfl, hb3⟩
  have hA := chain hA hb3
  have s1 := s1.next hb3
  go_wp2_with fail
  have h4 : Below w3.heap.size w3 (w3.alloc (.cells #[.int .i64 3, .int .i64 2, .string ⟨#[]⟩] 24)) := (Below.refl _ _).alloc (Nat.le_refl _) _
  have s2 : SlAt (w3.alloc (.cells #[.int .i64 3, .int .i64 2, .string ⟨#[]⟩] 24)) (some ⟨w3.heap.size, 0, none⟩) [(3, 2, ⟨#[]⟩)] :=
    ⟨by unfold maxLen; simp, .inr ⟨w3.heap.size, 0, rfl, fun i hi => by
      match i, hi with
      | 0, _ => exact ⟨by simp, by simp, by simp⟩, by simp⟩⟩
  have s1 := s1.next h4
  have z4 : (w3.alloc (.cells #[.int .i64 3, .int .i64 2, .string ⟨#[]⟩] 24)).heap.size = w3.heap.size + 1 := by simp
  generalize w3.alloc (.cells #[.int .i64 3, .int .i64 2, .string ⟨#[]⟩] 24) = w4 at *
  have hA := chain hA h4
  have h5 : Below w4.heap.size w4 (w4.alloc (.cells #[.slice (some ⟨w1.heap.size, 0, none⟩) 1 1, .int .i64 2, .slice (some ⟨w3.heap.size, 0, none⟩) 1 1, .int .i64 1] 53)) := (Below.refl _ _).alloc (Nat.le_refl _) _
  have zs : ZsAt (w4.alloc (.cells #[.slice (some ⟨w1.heap.size, 0, none⟩) 1 1, .int .i64 2, .slice (some ⟨w3.heap.size, 0, none⟩) 1 1, .int .i64 1] 53)) (some ⟨w4.heap.size, 0, none⟩) zA :=
    zs_two (by simp) (by simp) (by simp) (by simp) (by simp) (s1.next h5) (s2.next h5)
  have z5 : (w4.alloc (.cells #[.slice (some ⟨w1.heap.size, 0, none⟩) 1 1, .int .i64 2, .slice (some ⟨w3.heap.size, 0, none⟩) 1 1, .int .i64 1] 53)).heap.size = w4.heap.size + 1 := by simp
  rw [z4] at zs
  generalize w4.alloc (.cells #[.slice (some ⟨w1.heap.size, 0, none⟩) 1 1, .int .i64 2, .slice (some ⟨w3.heap.size, 0, none⟩) 1 1, .int .i64 1] 53) = w5 at *
  have hA := chain hA h5
  clear s1 s2
  refine (col_at 0 w5).mono ?_
  rintro e w6 ⟨rfl, hb6⟩
  have hA := chain hA hb6
  have zs := zs.next hb6
  have hS := hb6
  go_wp2_with fail
  refine (num_at 2 w6).mono ?_
  rintro e w7 ⟨rfl, hb7⟩
  have hA := chain hA hb7
  have zs := zs.next hb7
  go_wp2_with fail
  have K8 : KsAt (w7.heap.size + 1) (w7.alloc (.cells #[.int .i64 2, .int .i64 vl0.1, .int .i64 vl0.2.1, .string vl0.2.2, .int .i64 0, .slice none 0 0, .int .i64 1, .int .i64 3, .int .i64 2, .string ⟨#[]⟩, .int .i64 0, .slice none 0 0] 27)) (some ⟨w7.heap.size, 0, none⟩) xA.ks := ks_two w7 (B := w7.heap.size) (x := .mk 2 vl0 0 []) (y := .mk 1 (3, 2, ⟨#[]⟩) 0 []) none 0 none 0 (Nat.le_refl _) (.nil _) (.nil _)
  have h8 : Below w7.heap.size w7 (w7.alloc (.cells #[.int .i64 2, .int .i64 vl0.1, .int .i64 vl0.2.1, .string vl0.2.2, .int .i64 0, .slice none 0 0, .int .i64 1, .int .i64 3, .int .i64 2, .string ⟨#[]⟩, .int .i64 0, .slice none 0 0] 27)) := (Below.refl _ _).alloc (Nat.le_refl _) _
  have z8 : (w7.alloc (.cells #[.int .i64 2, .int .i64 vl0.1, .int .i64 vl0.2.1, .string vl0.2.2, .int .i64 0, .slice none 0 0, .int .i64 1, .int .i64 3, .int .i64 2, .string ⟨#[]⟩, .int .i64 0, .slice none 0 0] 27)).heap.size = w7.heap.size + 1 := by simp
  generalize w7.alloc (.cells #[.int .i64 2, .int .i64 vl0.1, .int .i64 vl0.2.1, .string vl0.2.2, .int .i64 0, .slice none 0 0, .int .i64 1, .int .i64 3, .int .i64 2, .string ⟨#[]⟩, .int .i64 0, .slice none 0 0] 27) = w8 at *
  have hA := chain hA h8
  have zs := zs.next h8
  have h9 : Below w8.heap.size w8 (w8.alloc (.cells #[.int .i64 8, .int .i64 0, .int .i64 0, .string ⟨#[]⟩, .int .i64 0, .slice (some ⟨w7.heap.size, 0, none⟩) 2 2] 27)) := (Below.refl _ _).alloc (Nat.le_refl _) _
  have z9 : (w8.alloc (.cells #[.int .i64 8, .int .i64 0, .int .i64 0, .string ⟨#[]⟩, .int .i64 0, .slice (some ⟨w7.heap.size, 0, none⟩) 2 2] 27)).heap.size = w8.heap.size + 1 := by simp
  generalize w8.alloc (.cells #[.int .i64 8, .int .i64 0, .int .i64 0, .string ⟨#[]⟩, .int .i64 0, .slice (some ⟨w7.heap.size, 0, none⟩) 2 2] 27) = w9 at *
  have hA := chain hA h9
  have zs := zs.next h9
  have K9 := KsAt.next h9 (by omega) K8
  have hA10 : Below w9.heap.size w9 (w9.alloc (.cells #[.int .i64 3] 3)) := (Below.refl _ _).alloc (Nat.le_refl _) _
  have z10 : (w9.alloc (.cells #[.int .i64 3] 3)).heap.size = w9.heap.size + 1 := by simp
  have IC : IsAt (w9.alloc (.cells #[.int .i64 3] 3)).heap.size (w9.alloc (.cells #[.int .i64 3] 3)) (some ⟨w9.heap.size, 0, none⟩) [3] :=
    ⟨by unfold maxLen; simp, .inr ⟨w9.heap.size, 0, rfl, by omega, fun i hi => by
      match i, hi with
      | 0, _ => simp⟩⟩
  generalize w9.alloc (.cells #[.int .i64 3] 3) = w10 at *
  have hA := chain hA hA10
  have zs := zs.next hA10
  have K10 := (KsAt.next hA10 (by omega) K9).up (show w7.heap.size + 1 ≤ w10.heap.size by omega)
  have e9 : w9.heap.size = w7.heap.size + 1 + 1 := by omega
  rw [e9] at IC
  have con : Calls Tryz.prog 9 #[.slice (some ⟨w7.heap.size + 1 + 1, 0, none⟩) 1 1, .agg #[.int .i64 8, .int .i64 0, .int .i64 0, .string ⟨#[]⟩, .int .i64 0, .slice (some ⟨w7.heap.size, 0, none⟩) 2 2], .slice (some ⟨w3.heap.size + 1, 0, none⟩) 2 2] w10 fun e w' => ∃ v, e = .returned (.tuple #[v, .int .i64 (filtE [3] xA zA)]) ∧ OwnZ w10.heap.size w' v (filtZ [3] xA zA) ∧ Below w10.heap.size w10 w' :=
    filter_at [3] xA _ 1 (some ⟨w7.heap.size, 0, none⟩) 2 _ 2 zA w10 IC K10 zs
  rw [filtE_A, filtZ_A] at con
  refine con.mono ?_
  rintro e w11 ⟨v11, rfl, O11, hb11⟩
  have hA := chain hA hb11
  have zs := zs.next hb11
  obtain ⟨a11, c11, rfl, zf⟩ := O11.zs
  clear con IC K8 K9 K10 O11
  have con : Calls Tryz.prog 62 #[.slice (some ⟨w3.heap.size + 1, 0, none⟩) 2 2, .slice (some ⟨w3.heap.size + 1, 0, none⟩) 2 2] w11 fun e w' => ∃ v, e = .returned (.tuple #[v, .int .i64 (bothE 1 zA zA)]) ∧ OwnZ w11.heap.size w' v (bothZ 1 zA zA) ∧ Below w11.heap.size w11 w' :=
    add_at _ _ 2 2 zA zA w11 zs zs (fun h => by cases h)
  rw [both_A.1, both_A.2] at con
  go_wp2_with fail
  refine con.mono ?_
  rintro e w12 ⟨v12, rfl, O12, hb12⟩
  have hA := chain hA hb12
  have zf := zf.next hb12
  obtain ⟨a12, c12, rfl, zp⟩ := O12.zs
  obtain ⟨b1, o1, rfl, l1, y1, _⟩ := zf.elem (k := 0) (by simp)
  obtain ⟨b2, o2, rfl, l2, y2, _⟩ := zp.elem (k := 0) (by simp [sA])
  simp only [Nat.zero_mul, Nat.add_zero, List.getElem_cons_zero, sA] at y1 y2
  clear con zs O12 zf zp
  go_wp2_with fail
  go_ret
  exact ⟨rfl, hA⟩
end Go.Proofs.YtfgpfnhbcbhkfadGreat
/- Opening arguments: slices of values, and slices of rows with weights. -/
namespace Go.Proofs.YtfgpfnhbcbhkfadGreat
open Go.ChangeShapes Go.WideShapes Go.ChangeAt Go.RowKit Go.Joins

set_option maxRecDepth 100000 in
theorem addr_add (b off i : Nat) : (⟨b, off, none⟩ : Addr).add i = ⟨b, off + i, none⟩ := by
  unfold Addr.add
  by_cases h : i = 0 <;> simp [h]
set_option maxRecDepth 100000 in
theorem open_row {H : Type} {enc : TypeId × Value → H} {W : World} {base : Nat} {sp : Nat → Bool} {hd : Bool} {fuel : Nat} {cs : List Value} {x : DataW H × List MemPlace} {a : Addr}
    (hc : W.cells? base a 3 = some cs) (h : DataW.trod enc Tryz.prog W base sp hd fuel 24 cs = some x) :
    ∃ v : Vl, W.cell? (a.add 0) = some (.int .i64 v.1) ∧ W.cell? (a.add 1) = some (.int .i64 v.2.1) ∧ W.cell? (a.add 2) = some (.string v.2.2) := by
  obtain ⟨_, hlen, hcell⟩ := World.cells?_some hc
  obtain ⟨y0, y1, y2, m, _, _, h0, h1, h2⟩ := Go.Deep.trod_struct3 Tryz.underlying24 h
  have q3 : Tryz.prog.cellsOf 3 = 1 := by kernel_rfl
  have q2 : Tryz.prog.cellsOf 2 = 1 := by kernel_rfl
  have q9 : Tryz.prog.cellsOf 9 = 1 := by kernel_rfl
  match cs, hlen with
  | [c0, c1, c2], _ =>
    simp only [q3, q2, q9] at h0 h1 h2
    obtain ⟨k, e0, _, _⟩ := DataW.trod_int Tryz.underlying3 h0
    obtain ⟨n, e1, _, _⟩ := DataW.trod_int Tryz.underlying2 h1
    obtain ⟨s, e2, _, _⟩ := DataW.trod_string Tryz.underlying9 h2
    simp at e0 e1 e2
    subst e0 e1 e2
    exact ⟨(k, n, s), hcell 0 (by omega), hcell 1 (by omega), hcell 2 (by omega)⟩
set_option maxRecDepth 100000 in
theorem open_valsT {H : Type} {enc : TypeId × Value → H} {W : World} {hd : Bool} {fuel : Nat} {cs : List Value} {x : DataW H × List MemPlace}
    (hf : DataW.trod enc Tryz.prog W 0 (fun _ => true) hd fuel 51 cs = some x) : ∃ (a : Option Addr) (cap : Nat) (l : List Vl), cs = [.slice a l.length cap] ∧ SlAt W a l := by
  rcases Go.Deep.open_slice Tryz.underlying51 hf with ⟨hcs, _⟩ | ⟨a, len, cap, m, n, D, Pl, hcs, _, hl, hm, hmm, _, hx⟩
  · exact ⟨none, 0, [], hcs, by simp, .inl rfl⟩
  · have q : Tryz.prog.cellsOf 24 = 3 := by kernel_rfl
    rw [q] at hx
    simp only [if_true] at hmm
    obtain ⟨f, hf'⟩ := Go.Deep.choose_lt (α := Vl) (n := len) (p := fun i (v : Vl) => W.cell? ((a.add (i * 3)).add 0) = some (.int .i64 v.1) ∧ W.cell? ((a.add (i * 3)).add 1) = some (.int .i64 v.2.1) ∧ W.cell? ((a.add (i * 3)).add 2) = some (.string v.2.2)) (fun i hi => by
      obtain ⟨cs', h1, h2⟩ := hx i (by omega)
      exact open_row h1 h2)
    refine ⟨some a, cap, (List.range len).map f, by simpa using hcs, ?_, ?_⟩
    · simp; omega
    by_cases h0 : len = 0
    · left; simp [h0]
    · right
      obtain ⟨b, off, spot⟩ := a
      have hc := (hf' 0 (by omega)).1
      have hspot : spot = none := by simpa [Addr.add] using World.cell?_spot hc
      subst hspot
      refine ⟨b, off, rfl, fun i hi => ?_, ?_⟩
      · have hi' : i < len := by simpa using hi
        have := hf' i hi'
        simp only [addr_add] at this
        simp only [List.getElem_map, List.getElem_range]
        exact this
      · exact World.block_lt_of_cell? W _ (by simpa [Addr.add] using hc)
set_option maxRecDepth 100000 in
theorem open_vals {H : Type} {enc : TypeId × Value → H} {W : World} {r : Reach} {b0 : Nat} {v : Value} {d : DataW H} {p : List MemPlace}
    (hv : Value.okWide Tryz.prog W r b0 51 v) (h : DataW.Trod enc Tryz.prog W 0 (fun _ => true) true 51 v d p) : ∃ (a : Option Addr) (cap : Nat) (l : List Vl), v = .slice a l.length cap ∧ SlAt W a l := by
  obtain ⟨a0, len, cap, rfl⟩ := okWide_slice Tryz.underlying51 hv
  obtain ⟨fuel, hf⟩ := h
  obtain ⟨a, c, l, e, hs⟩ := open_valsT hf
  refine ⟨a, c, l, ?_, hs⟩
  simpa [Value.cells] using e
set_option maxRecDepth 100000 in
theorem struct2 {P : Program} {H : Type} {enc : TypeId × Value → H} {w : World} {base : Nat} {spare : Nat → Bool} {held : Bool} {t : TypeId} {f0 f1 : Field} {fuel : Nat} {cs : List Value} {x : DataW H × List MemPlace} (ht : P.underlying t = some (.struct #[f0, f1])) (h : DataW.trod enc P w base spare held fuel t cs = some x) :
    ∃ y0 y1 n, DataW.trod enc P w base spare held n f0.type ((cs.drop f0.offset).take (P.cellsOf f0.type)) = some y0 ∧
      DataW.trod enc P w base spare held n f1.type ((cs.drop f1.offset).take (P.cellsOf f1.type)) = some y1 := by
  obtain ⟨xs, n, _, rfl, hl, hlen, hf⟩ := DataW.trod_struct ht h
  match xs, hlen with
  | [y0, y1], _ => exact ⟨y0, y1, n, by simpa using hf 0 f0 rfl, by simpa using hf 1 f1 rfl⟩
set_option maxRecDepth 100000 in
theorem open_zrow {H : Type} {enc : TypeId × Value → H} {W : World} {hd : Bool} {fuel : Nat} {cs : List Value} {x : DataW H × List MemPlace} {a : Addr}
    (hc : W.cells? 0 a 2 = some cs) (h : DataW.trod enc Tryz.prog W 0 (fun _ => true) hd fuel 53 cs = some x) :
    ∃ z : Zp, W.cell? (a.add 1) = some (.int .i64 z.2) ∧ ∃ ai cap, W.cell? (a.add 0) = some (.slice ai z.1.length cap) ∧ SlAt W ai z.1 := by
  obtain ⟨_, hlen, hcell⟩ := World.cells?_some hc
  obtain ⟨y0, y1, n, h0, h1⟩ := struct2 Tryz.underlying53 h
  have q23 : Tryz.prog.cellsOf 51 = 1 := by kernel_rfl
  have q2 : Tryz.prog.cellsOf 2 = 1 := by kernel_rfl
  match cs, hlen with
  | [c0, c1], _ =>
    simp only [q23, q2] at h0 h1
    obtain ⟨ai, cap, l, e0, hs⟩ := open_valsT h0
    obtain ⟨k, e1, _, _⟩ := DataW.trod_int Tryz.underlying2 h1
    simp at e0 e1
    subst e0 e1
    exact ⟨(l, k), hcell 1 (by omega), ai, cap, hcell 0 (by omega), hs⟩
set_option maxRecDepth 100000 in
theorem open_zrows {H : Type} {enc : TypeId × Value → H} {W : World} {r : Reach} {b0 : Nat} {v : Value} {d : DataW H} {p : List MemPlace}
    (hv : Value.okWide Tryz.prog W r b0 28 v) (h : DataW.Trod enc Tryz.prog W 0 (fun _ => true) true 28 v d p) : ∃ (a : Option Addr) (cap : Nat) (l : List Zp), v = .slice a l.length cap ∧ ZsAt W a l := by
  obtain ⟨a0, len, cap, rfl⟩ := okWide_slice Tryz.underlying28 hv
  obtain ⟨fuel, hf⟩ := h
  rcases Go.Deep.open_slice Tryz.underlying28 hf with ⟨hcs, _⟩ | ⟨a, len', cap', m, n, D, Pl, hcs, _, hl, hm, hmm, _, hx⟩
  · simp [Value.cells] at hcs
    obtain ⟨rfl, rfl, rfl⟩ := hcs
    exact ⟨none, 0, [], rfl, by simp, .inl rfl⟩
  · simp [Value.cells] at hcs
    obtain ⟨rfl, rfl, rfl⟩ := hcs
    have q : Tryz.prog.cellsOf 53 = 2 := by kernel_rfl
    rw [q] at hx
    simp only [if_true] at hmm
    obtain ⟨f, hf'⟩ := Go.Deep.choose_lt (α := Zp) (n := len) (p := fun i (z : Zp) => W.cell? ((a.add (i * 2)).add 1) = some (.int .i64 z.2) ∧ ∃ ai cap, W.cell? ((a.add (i * 2)).add 0) = some (.slice ai z.1.length cap) ∧ SlAt W ai z.1) (fun i hi => by
      obtain ⟨cs', h1, h2⟩ := hx i (by omega)
      exact open_zrow h1 h2)
    refine ⟨some a, cap, (List.range len).map f, by simp, ?_, ?_⟩
    · simp; omega
    by_cases h0 : len = 0
    · left; simp [h0]
    · right
      obtain ⟨b, off, spot⟩ := a
      obtain ⟨_, _, hc, _⟩ := (hf' 0 (by omega)).2
      have hspot : spot = none := by simpa [Addr.add] using World.cell?_spot hc
      subst hspot
      refine ⟨b, off, rfl, ?_, fun i hi => ?_⟩
      · exact World.block_lt_of_cell? W _ (by simpa [Addr.add] using hc)
      · have hi' : i < len := by simpa using hi
        have := hf' i hi'
        simp only [addr_add] at this
        simp only [List.getElem_map, List.getElem_range]
        exact this
end Go.Proofs.YtfgpfnhbcbhkfadGreat
