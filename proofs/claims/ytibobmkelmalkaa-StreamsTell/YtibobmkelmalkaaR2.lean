/- The walk of the document's Put. -/
import Derived.Test.YtibobmkelmalkaaR1
namespace Go.Proofs.Ytibobmkelmalkaa
open Go.RowKit Go.Lib Go.Shelf

def midL (r : List Vl) (x : Int) : List Zp := if x = 0 then [] else [(bareL r, x)]
theorem putL_end (r : List Vl) (x : Int) : ∀ z : List Zp, (∀ y ∈ z, cmpL y.1 r < 0) → putL z r x = z ++ midL r x
  | [], _ => rfl
  | y :: t, h => by
    rw [putL, if_pos (h y (by simp)), putL_end r x t (fun u hu => h u (by simp [hu]))]; rfl
theorem putL_skip (r : List Vl) (x : Int) (t : List Zp) : ∀ z : List Zp, (∀ y ∈ z, cmpL y.1 r < 0) → putL (z ++ t) r x = z ++ putL t r x
  | [], _ => rfl
  | y :: u, h => by
    rw [List.cons_append, putL, if_pos (h y (by simp)), putL_skip r x t u (fun v hv => h v (by simp [hv]))]; rfl
theorem take_lt {z : List Zp} {r : List Vl} {k : Nat} (h : ∀ t (ht : t < z.length), t < k → cmpL z[t].1 r < 0) : ∀ y ∈ z.take k, cmpL y.1 r < 0 := by
  intro y hy
  obtain ⟨t, ht, rfl⟩ := List.getElem_of_mem hy
  rw [List.length_take] at ht
  rw [List.getElem_take]
  exact h t (by omega) (by omega)
theorem putL_all {z : List Zp} {r : List Vl} {k : Nat} (x : Int) (hk : k = z.length) (h : ∀ t (ht : t < z.length), t < k → cmpL z[t].1 r < 0) : putL z r x = z.take k ++ midL r x ++ z.drop k := by
  subst hk
  have := take_lt h
  rw [List.take_length] at this
  rw [putL_end r x z this, List.take_length, List.drop_length, List.append_nil]
theorem putL_same {z : List Zp} {r : List Vl} {k : Nat} (x : Int) (hk : k < z.length) (h : ∀ t (ht : t < z.length), t < k → cmpL z[t].1 r < 0) (hc : cmpL z[k].1 r = 0) : putL z r x = z.take k ++ midL r (x + z[k].2) ++ z.drop (k + 1) := by
  have e : z = z.take k ++ z[k] :: z.drop (k + 1) := by rw [← List.drop_eq_getElem_cons hk, List.take_append_drop]
  have := putL_skip r x (z[k] :: z.drop (k + 1)) (z.take k) (take_lt h)
  rw [← e] at this
  rw [this, putL, if_neg (by omega), if_pos hc, List.append_assoc]
  congr 1
  unfold midL
  split <;> rfl
theorem putL_new {z : List Zp} {r : List Vl} {k : Nat} (x : Int) (hk : k < z.length) (h : ∀ t (ht : t < z.length), t < k → cmpL z[t].1 r < 0) (hc : 0 < cmpL z[k].1 r) : putL z r x = z.take k ++ midL r x ++ z.drop k := by
  have e : z = z.take k ++ z[k] :: z.drop (k + 1) := by rw [← List.drop_eq_getElem_cons hk, List.take_append_drop]
  have := putL_skip r x (z[k] :: z.drop (k + 1)) (z.take k) (take_lt h)
  rw [← e] at this
  rw [this, putL, if_neg (by omega), if_neg (by omega), List.append_assoc, List.drop_eq_getElem_cons hk]
  congr 1
  unfold midL
  split <;> rfl

theorem ZsAt.take {W : World} {a : Option Addr} {z : List Zp} (h : ZsAt W a z) (k : Nat) : ZsAt W a (z.take k) := by
  obtain ⟨h0, rfl | ⟨b, off, e, hlt, hr⟩⟩ := h
  · exact ⟨by simp, .inl (by simp)⟩
  · refine ⟨by rw [List.length_take]; omega, .inr ⟨b, off, e, hlt, fun i hi => ?_⟩⟩
    rw [List.length_take] at hi
    rw [List.getElem_take]
    exact hr i (by omega)
theorem ZsAt.drop {W : World} {b off : Nat} {z : List Zp} (h : ZsAt W (some ⟨b, off, none⟩) z) (k : Nat) : ZsAt W (some ⟨b, off + k * 2, none⟩) (z.drop k) := by
  obtain ⟨h0, rfl | ⟨b', off', e, hlt, hr⟩⟩ := h
  · exact ⟨by simp, .inl (by simp)⟩
  · injection e with e
    injection e with e1 e2 _
    subst e1 e2
    refine ⟨by rw [List.length_drop]; omega, .inr ⟨b, off + k * 2, rfl, hlt, fun i hi => ?_⟩⟩
    rw [List.length_drop] at hi
    rw [List.getElem_drop]
    have := hr (k + i) (by omega)
    rw [show off + (k + i) * 2 = off + k * 2 + i * 2 by omega] at this
    exact this

theorem ownM_pushN {B n N : Nat} {W w1 : World} {v v' : Value} {xs ys : List Value} {l t : List Zp} (ho : W.ownsRow B 45 2 v n xs) (he : EncM B W xs l) (hk : EncM B W ys t) (ho' : w1.ownsRow B 45 2 v' N (xs ++ ys)) (hN : N = (l ++ t).length) (hg : W.grownBy w1 v.ownBlock) : OwnM B w1 v' (l ++ t) := ownM_push ho he hk (hN ▸ ho') hg
theorem encM_new {B : Nat} {W : World} {a : Option Addr} {cap n : Nat} {r : List Vl} {x : Int} (hn : n = r.length) (hs : SlAt W a r) (ht : TyAt W a) : EncM B W [.slice a n cap, .int .i64 x] [(r, x)] := by
  subst hn
  refine ⟨rfl, fun i hi => ?_⟩
  have : i = 0 := by simp at hi; omega
  subst this
  exact ⟨a, cap, rfl, rfl, hs, .inr (.inl ht)⟩

set_option maxRecDepth 100000 in
set_option maxHeartbeats 4000000 in
theorem put_nil (a : Option Addr) (cap : Nat) (b : Option Addr) (cb : Nat) (r : List Vl) (x : Int) (w : World) (hn : a = none → cap = 0) (hmax : cap ≤ 9223372036854775807) (h' : SlAt w b r) (h8 : r.length ≤ 8) (hx : -400000000000000000 ≤ x ∧ x ≤ 400000000000000000) :
    Calls Try.prog 34 #[.slice a 0 cap, .slice b r.length cb, .int .i64 x] w fun e w' => ∃ v, e = .returned v ∧ OwnM w.heap.size w' v (putL [] r x) ∧ Below w.heap.size w w' := by
  obtain ⟨i0, hi, hj0, hj1, hj2⟩ := info_parts Try.info42
  rcases a with _ | ad
  · have hc0 : cap = 0 := hn rfl
    subst hc0
    clear hn hmax
    have hbA : Below w.heap.size w (w.alloc (.cells #[] 45)) := (Below.refl _ _).alloc (Nat.le_refl _) _
    have O2 : OwnM w.heap.size (w.alloc (.cells #[] 45)) (.slice (some ⟨w.heap.size, 0, none⟩) 0 0) [] := ⟨[], World.ownsRow_made w #[] 0 (Nat.le_refl _) (Nat.zero_le _) (by simp), rfl, fun i hi => by simp at hi⟩
    by_cases hx0 : x = 0
    · subst hx0
      go_enter Try.func34, Try.ntmps34
      go_wp2_with fail
      refine wp_loop_rounds 1 ?_
      rw [rounds_succ]
      go_wp2_with fail
      go_ret
      exact ⟨_, rfl, by simpa [putL] using O2, hbA⟩
    · have bx : (x != 0) = true := by simp [hx0]
      have HM : Hid (putL [] r x = [] ++ [(bareL r, x)] ++ []) := by show _ = _; simp [putL, hx0]
      have hlT : ([] : List Zp).length = 0 := rfl
      clear hx0
      go_enter Try.func34, Try.ntmps34
      go_wp2_with fail
      refine wp_loop_rounds 1 ?_
      rw [rounds_succ]
      go_wp2_with fail
      refine (refBareRow_at _ _ _ _ (h'.next hbA) h8).mono ?_
      rintro e w5 ⟨⟨ab, cbb, rfl, sb, tb⟩, hb5⟩
      have hb5' := chain1 hbA hb5
      have hz5 := hb5'.size
      obtain ⟨xm, hom, hem⟩ := O2.next hb5
      have bN : Below w5.heap.size w5 (w5.alloc (.cells #[.slice ab r.length cbb, .int .i64 (x)] 45)) := (Below.refl _ _).alloc (Nat.le_refl _) _
      have hemN := hem.next bN
      have newN : EncM w.heap.size (w5.alloc (.cells #[.slice ab r.length cbb, .int .i64 (x)] 45)) [.slice ab r.length cbb, .int .i64 (x)] [(bareL r, x)] := encM_new (bareL_length r).symm (sb.next bN) (tb.next bN)
      go_wp2_with (at_builtin; refine wpList_append_own _ rfl (.tmp 55) (.tmp 60) 34 rfl w.heap.size 45 i0 _ 2 32 Try.underlying34 hi hj0 hj1 hj2 rfl (by decide) _ _ _ rfl (hom.alloc _) ⟨w5.heap.size, 0, none⟩ 1 1 [.slice ab r.length cbb, .int .i64 (x)] rfl rfl (news2 rfl _ _) (one2 _ _ _ _) (by unfold maxLen; omega) (by omega) (by simp; omega) ?_)
      intro v6 w6 ho6 hg6 _
      have hb6 : Below w.heap.size w w6 := (hb5'.alloc hz5 _).grown hg6 (by simp; omega) (fun q hq => ((hom.alloc (.cells #[.slice ab r.length cbb, .int .i64 (x)] 45)).lt q hq).1)
      have O6 : OwnM w.heap.size w6 v6 (([] : List Zp) ++ [(bareL r, x)]) := ownM_pushN (hom.alloc _) hemN newN ho6 (by simp [hlT]) hg6
      have hl6 : (([] : List Zp) ++ [(bareL r, x)]).length = 0 + 1 := by rw [List.length_append, hlT]; rfl
      obtain ⟨a6, c6, rfl⟩ := own_shape ho6
      clear ho6 hg6 hom hem hemN newN sb tb
      obtain ⟨xo, ho, he⟩ := O6
      go_wp2_with (at_builtin; refine wpList_append_opt rfl (.tmp 62) (.tmp 65) 34 rfl w.heap.size 45 i0 _ 2 32 Try.underlying34 hi hj0 hj1 hj2 rfl (by decide) _ _ _ rfl ho _ _ _ [] rfl (fun _ => ⟨rfl, rfl⟩) (by simp) (fun ad e j u hj => by simp at hj) (by simp) (by unfold maxLen; simp) (by simp) hb6.size ?_)
      intro v9 w9 ho9 hg9
      have hb9 : Below w.heap.size w w9 := hb6.grown hg9 hb6.size (fun q hq => (ho.lt q hq).1)
      have R : OwnM w.heap.size w9 v9 ([] ++ [(bareL r, x)] ++ []) := ownM_pushN (ys := []) ho he ⟨rfl, fun i hi => by simp at hi⟩ (by rw [List.append_nil]; simpa using ho9) (by simp) hg9
      obtain ⟨a9, c9, rfl⟩ := own_shape ho9
      clear ho9 hg9 ho he
      go_wp2_with fail
      go_ret
      exact ⟨_, rfl, by rw [HM.out]; exact R, hb9⟩
  · clear hn
    by_cases hcp : cap = 0
    · subst hcp
      have hbA : Below w.heap.size w (w.alloc (.cells #[] 45)) := (Below.refl _ _).alloc (Nat.le_refl _) _
      have O2 : OwnM w.heap.size (w.alloc (.cells #[] 45)) (.slice (some ⟨w.heap.size, 0, none⟩) 0 0) [] := ⟨[], World.ownsRow_made w #[] 0 (Nat.le_refl _) (Nat.zero_le _) (by simp), rfl, fun i hi => by simp at hi⟩
      by_cases hx0 : x = 0
      · subst hx0
        go_enter Try.func34, Try.ntmps34
        go_wp2_with fail
        refine wp_loop_rounds 1 ?_
        rw [rounds_succ]
        go_wp2_with fail
        go_ret
        exact ⟨_, rfl, by simpa [putL] using O2, hbA⟩
      · have bx : (x != 0) = true := by simp [hx0]
        have HM : Hid (putL [] r x = [] ++ [(bareL r, x)] ++ []) := by show _ = _; simp [putL, hx0]
        have hlT : ([] : List Zp).length = 0 := rfl
        clear hx0
        go_enter Try.func34, Try.ntmps34
        go_wp2_with fail
        refine wp_loop_rounds 1 ?_
        rw [rounds_succ]
        go_wp2_with fail
        refine (refBareRow_at _ _ _ _ (h'.next hbA) h8).mono ?_
        rintro e w5 ⟨⟨ab, cbb, rfl, sb, tb⟩, hb5⟩
        have hb5' := chain1 hbA hb5
        have hz5 := hb5'.size
        obtain ⟨xm, hom, hem⟩ := O2.next hb5
        have bN : Below w5.heap.size w5 (w5.alloc (.cells #[.slice ab r.length cbb, .int .i64 (x)] 45)) := (Below.refl _ _).alloc (Nat.le_refl _) _
        have hemN := hem.next bN
        have newN : EncM w.heap.size (w5.alloc (.cells #[.slice ab r.length cbb, .int .i64 (x)] 45)) [.slice ab r.length cbb, .int .i64 (x)] [(bareL r, x)] := encM_new (bareL_length r).symm (sb.next bN) (tb.next bN)
        go_wp2_with (at_builtin; refine wpList_append_own _ rfl (.tmp 55) (.tmp 60) 34 rfl w.heap.size 45 i0 _ 2 32 Try.underlying34 hi hj0 hj1 hj2 rfl (by decide) _ _ _ rfl (hom.alloc _) ⟨w5.heap.size, 0, none⟩ 1 1 [.slice ab r.length cbb, .int .i64 (x)] rfl rfl (news2 rfl _ _) (one2 _ _ _ _) (by unfold maxLen; omega) (by omega) (by simp; omega) ?_)
        intro v6 w6 ho6 hg6 _
        have hb6 : Below w.heap.size w w6 := (hb5'.alloc hz5 _).grown hg6 (by simp; omega) (fun q hq => ((hom.alloc (.cells #[.slice ab r.length cbb, .int .i64 (x)] 45)).lt q hq).1)
        have O6 : OwnM w.heap.size w6 v6 (([] : List Zp) ++ [(bareL r, x)]) := ownM_pushN (hom.alloc _) hemN newN ho6 (by simp [hlT]) hg6
        have hl6 : (([] : List Zp) ++ [(bareL r, x)]).length = 0 + 1 := by rw [List.length_append, hlT]; rfl
        obtain ⟨a6, c6, rfl⟩ := own_shape ho6
        clear ho6 hg6 hom hem hemN newN sb tb
        obtain ⟨xo, ho, he⟩ := O6
        go_wp2_with (at_builtin; refine wpList_append_opt rfl (.tmp 62) (.tmp 65) 34 rfl w.heap.size 45 i0 _ 2 32 Try.underlying34 hi hj0 hj1 hj2 rfl (by decide) _ _ _ rfl ho _ _ _ [] rfl (by intro e; cases e) (by simp) (fun ad e j u hj => by simp at hj) (by simp) (by unfold maxLen; simp) (by simp) hb6.size ?_)
        intro v9 w9 ho9 hg9
        have hb9 : Below w.heap.size w w9 := hb6.grown hg9 hb6.size (fun q hq => (ho.lt q hq).1)
        have R : OwnM w.heap.size w9 v9 ([] ++ [(bareL r, x)] ++ []) := ownM_pushN (ys := []) ho he ⟨rfl, fun i hi => by simp at hi⟩ (by rw [List.append_nil]; simpa using ho9) (by simp) hg9
        obtain ⟨a9, c9, rfl⟩ := own_shape ho9
        clear ho9 hg9 ho he
        go_wp2_with fail
        go_ret
        exact ⟨_, rfl, by rw [HM.out]; exact R, hb9⟩
    · have hcp' : 0 < cap := by omega
      have hbA : Below w.heap.size w (w.alloc (.cells #[] 45)) := (Below.refl _ _).alloc (Nat.le_refl _) _
      have O2 : OwnM w.heap.size (w.alloc (.cells #[] 45)) (.slice (some ⟨w.heap.size, 0, none⟩) 0 0) [] := ⟨[], World.ownsRow_made w #[] 0 (Nat.le_refl _) (Nat.zero_le _) (by simp), rfl, fun i hi => by simp at hi⟩
      by_cases hx0 : x = 0
      · subst hx0
        go_enter Try.func34, Try.ntmps34
        go_wp2_with fail
        refine wp_loop_rounds 1 ?_
        rw [rounds_succ]
        go_wp2_with fail
        go_ret
        exact ⟨_, rfl, by simpa [putL] using O2, hbA⟩
      · have bx : (x != 0) = true := by simp [hx0]
        have HM : Hid (putL [] r x = [] ++ [(bareL r, x)] ++ []) := by show _ = _; simp [putL, hx0]
        have hlT : ([] : List Zp).length = 0 := rfl
        clear hx0
        go_enter Try.func34, Try.ntmps34
        go_wp2_with fail
        refine wp_loop_rounds 1 ?_
        rw [rounds_succ]
        go_wp2_with fail
        refine (refBareRow_at _ _ _ _ (h'.next hbA) h8).mono ?_
        rintro e w5 ⟨⟨ab, cbb, rfl, sb, tb⟩, hb5⟩
        have hb5' := chain1 hbA hb5
        have hz5 := hb5'.size
        obtain ⟨xm, hom, hem⟩ := O2.next hb5
        have bN : Below w5.heap.size w5 (w5.alloc (.cells #[.slice ab r.length cbb, .int .i64 (x)] 45)) := (Below.refl _ _).alloc (Nat.le_refl _) _
        have hemN := hem.next bN
        have newN : EncM w.heap.size (w5.alloc (.cells #[.slice ab r.length cbb, .int .i64 (x)] 45)) [.slice ab r.length cbb, .int .i64 (x)] [(bareL r, x)] := encM_new (bareL_length r).symm (sb.next bN) (tb.next bN)
        go_wp2_with (at_builtin; refine wpList_append_own _ rfl (.tmp 55) (.tmp 60) 34 rfl w.heap.size 45 i0 _ 2 32 Try.underlying34 hi hj0 hj1 hj2 rfl (by decide) _ _ _ rfl (hom.alloc _) ⟨w5.heap.size, 0, none⟩ 1 1 [.slice ab r.length cbb, .int .i64 (x)] rfl rfl (news2 rfl _ _) (one2 _ _ _ _) (by unfold maxLen; omega) (by omega) (by simp; omega) ?_)
        intro v6 w6 ho6 hg6 _
        have hb6 : Below w.heap.size w w6 := (hb5'.alloc hz5 _).grown hg6 (by simp; omega) (fun q hq => ((hom.alloc (.cells #[.slice ab r.length cbb, .int .i64 (x)] 45)).lt q hq).1)
        have O6 : OwnM w.heap.size w6 v6 (([] : List Zp) ++ [(bareL r, x)]) := ownM_pushN (hom.alloc _) hemN newN ho6 (by simp [hlT]) hg6
        have hl6 : (([] : List Zp) ++ [(bareL r, x)]).length = 0 + 1 := by rw [List.length_append, hlT]; rfl
        obtain ⟨a6, c6, rfl⟩ := own_shape ho6
        clear ho6 hg6 hom hem hemN newN sb tb
        obtain ⟨xo, ho, he⟩ := O6
        go_wp2_with (at_builtin; refine wpList_append_opt rfl (.tmp 62) (.tmp 65) 34 rfl w.heap.size 45 i0 _ 2 32 Try.underlying34 hi hj0 hj1 hj2 rfl (by decide) _ _ _ rfl ho _ _ _ [] rfl (by intro e; cases e) (by simp) (fun ad e j u hj => by simp at hj) (by simp) (by unfold maxLen; simp) (by simp) hb6.size ?_)
        intro v9 w9 ho9 hg9
        have hb9 : Below w.heap.size w w9 := hb6.grown hg9 hb6.size (fun q hq => (ho.lt q hq).1)
        have R : OwnM w.heap.size w9 v9 ([] ++ [(bareL r, x)] ++ []) := ownM_pushN (ys := []) ho he ⟨rfl, fun i hi => by simp at hi⟩ (by rw [List.append_nil]; simpa using ho9) (by simp) hg9
        obtain ⟨a9, c9, rfl⟩ := own_shape ho9
        clear ho9 hg9 ho he
        go_wp2_with fail
        go_ret
        exact ⟨_, rfl, by rw [HM.out]; exact R, hb9⟩

set_option maxRecDepth 100000 in
set_option maxHeartbeats 8000000 in
theorem put_at (a : Option Addr) (cap : Nat) (z : List Zp) (b : Option Addr) (cb : Nat) (r : List Vl) (x : Int) (w : World) (h : ZsAt w a z) (hL : Lie a cap z.length) (h' : SlAt w b r) (h8 : r.length ≤ 8) (hz : z.length ≤ 200000)
    (hr : ∀ y ∈ z, rightB y.1 = true) (hw : ∀ y ∈ z, -400000000000000000 ≤ y.2 ∧ y.2 ≤ 400000000000000000) (hx : -400000000000000000 ≤ x ∧ x ≤ 400000000000000000) :
    Calls Try.prog 34 #[.slice a z.length cap, .slice b r.length cb, .int .i64 x] w fun e w' => ∃ v, e = .returned v ∧ OwnM w.heap.size w' v (putL z r x) ∧ Below w.heap.size w w' := by
  by_cases hz0 : z = []
  · subst hz0
    exact put_nil a cap b cb r x w hL.nil (by have := hL.max; unfold maxLen at this; omega) h' h8 hx
  have hpos : 0 < z.length := List.length_pos_iff.2 hz0
  clear hz0
  obtain ⟨i0, hi, hj0, hj1, hj2⟩ := info_parts Try.info42
  have HRt : Hid (∀ y ∈ z, rightB y.1 = true) := hr
  clear hr
  go_enter Try.func34, Try.ntmps34
  go_wp2_with fail
  go_loopw [7] (fun i wr => ∃ k : Nat, k ≤ z.length ∧ i = .int .i64 k ∧ Hid (∀ t (ht : t < z.length), t < k → cmpL z[t].1 r < 0) ∧ Below w.heap.size w wr) (fun i _ => z.length - (intOf i).toNat)
  case atStart => exact ⟨0, Nat.zero_le _, rfl, fun t _ ht => absurd ht (Nat.not_lt_zero _), Below.refl _ _⟩
  case round =>
    obtain ⟨k, hk, rfl, HC, hb⟩ := hrel
    have hzz := hb.size
    have hcap := hL.room
    have hmax := hL.max
    unfold maxLen at hmax
    by_cases hlt : k < z.length
    · have i1 : (0 : Int) ≤ (k : Int) := by omega
      have i2 : (k : Int) < (z.length : Int) := by omega
      obtain ⟨bz, off, rfl, hbl, c1, ar, cr, c0, sr⟩ := (h.next hb).elem hlt
      have hR1 : Hid (rightB z[k].1 = true) := HRt.out _ (List.getElem_mem hlt)
      by_cases hc : cmpL z[k].1 r < 0
      · go_wp2_with fail
        refine (refRows_at _ _ _ _ _ _ _ sr (h'.next hb) hR1.out).mono ?_
        rintro e w1 ⟨rfl, hb1⟩
        go_wp2_with fail
        go_roundw
        case rel => exact ⟨k + 1, by omega, by go_num, fun t ht htk => by
          by_cases e : t = k
          · subst e; exact hc
          · exact HC.out t ht (by omega), chain1 hb hb1⟩
        case measure => simp [intOf]; omega
      · go_wp2_with fail
        refine (refRows_at _ _ _ _ _ _ _ sr (h'.next hb) hR1.out).mono ?_
        rintro e w1 ⟨rfl, hb1⟩
        have hb1' := chain1 hb hb1
        have hz1 := hb1'.size
        obtain ⟨nT, eT, oT, eT0, cT⟩ := src_of (h.take k)
        have hlT : (z.take k).length = k := by rw [List.length_take]; omega
        have eTl := eT.1
        rw [hlT] at eTl
        go_wp2_with (at_builtin; refine wpList_append_opt rfl (.tmp 25) (.tmp 28) 34 rfl w.heap.size 45 i0 _ 2 32 Try.underlying34 hi hj0 hj1 hj2 rfl (by decide) _ _ _ rfl (World.ownsRow_made w1 #[] 0 hz1 (Nat.zero_le _) (by simp)) _ k cap nT rfl (by intro e; cases e) eTl (fun ad e j u hj => Lib.cell?_alloc_some _ ((hb1'.cell (World.block_lt_of_cell? _ _ (cT ad e j u hj))).trans (cT ad e j u hj))) oT (by unfold maxLen; omega) (by omega) (by simp; omega) ?_)
        intro v2 w2 ho2 hg2
        have hb2 : Below w.heap.size w w2 := (hb1'.alloc hz1 _).grown hg2 (by simp; omega) (fun q hq => by simp [Value.ownBlock] at hq; omega)
        have hb12 : Below w1.heap.size w1 w2 := ((Below.refl _ _).alloc (Nat.le_refl _) _).grown hg2 (by simp) (fun q hq => by simp [Value.ownBlock] at hq; omega)
        have O2 : OwnM w.heap.size w2 v2 (z.take k) := ⟨nT, by rw [hlT]; simpa using ho2, encM_of eT hb2⟩
        obtain ⟨a2, c2, rfl⟩ := own_shape ho2
        clear ho2 hg2 eT oT eT0 cT eTl
        have d0 := (hb12.cell (p := ⟨bz, _, none⟩) (Nat.lt_of_lt_of_le hbl hb1.size)).trans ((hb1.cell (p := ⟨bz, _, none⟩) hbl).trans c0)
        have d1 := (hb12.cell (p := ⟨bz, _, none⟩) (Nat.lt_of_lt_of_le hbl hb1.size)).trans ((hb1.cell (p := ⟨bz, _, none⟩) hbl).trans c1)
        have hbl2 := Nat.lt_of_lt_of_le (Nat.lt_of_lt_of_le hbl hb1.size) hb12.size
        have sr2 := (sr.next hb1).next hb12
        clear c0 c1 sr
        by_cases h0 : cmpL z[k].1 r = 0
        · have HP : Hid (putL z r x = z.take k ++ midL r (x + z[k].2) ++ z.drop (k + 1)) := putL_same x hlt HC.out h0
          have b0 : (cmpL z[k].1 r == 0) = true := by simpa using h0
          have hwk := hw z[k] (List.getElem_mem hlt)
          clear h0 hc
          go_wp2_with fail
          refine (refRows_at _ _ _ _ _ _ _ sr2 (h'.next hb2) hR1.out).mono ?_
          rintro e w3 ⟨rfl, hb3⟩
          have d3 := (hb3.cell (p := ⟨bz, _, none⟩) hbl2).trans d1
          have hb3' := chain1 hb2 hb3
          have O3 := O2.next hb3
          clear d0 d1 O2
          by_cases hx0 : x + z[k].2 = 0
          · have HM : Hid (putL z r x = z.take k ++ z.drop (k + 1)) := by
              show _ = _
              rw [HP.out]
              simp only [midL, hx0, if_true, List.append_nil]
            have bx : ((x + z[k].2) != 0) = false := by simp [hx0]
            obtain ⟨nD, eD, oD, eD0, cD⟩ := src_of (h.drop (k + 1))
            have eDl := eD.1
            have hlD : (z.drop (k + 1)).length = z.length - (k + 1) := List.length_drop
            rw [hlD] at eDl
            by_cases hcc : k + 1 < cap
            · have hcc1 : ((cap : Int) - ((k + 1 : Nat) : Int) = 0) = False := by simp; omega
              have hcc2 : ¬ cap = k + 1 := by omega
              have hcc3 : ¬ cap - (k + 1) = 0 := by omega
              obtain ⟨xo, ho, he⟩ := O3
              go_wp2_with (at_builtin; refine wpList_append_opt rfl (.tmp 62) (.tmp 65) 34 rfl w.heap.size 45 i0 _ 2 32 Try.underlying34 hi hj0 hj1 hj2 rfl (by decide) _ _ _ rfl ho _ _ _ nD rfl (by intro e; cases e) (by omega) (fun ad e j u hj => by injection e with e; subst e; exact (hb3'.cell (World.block_lt_of_cell? _ _ (cD _ rfl j u hj))).trans (cD _ rfl j u hj)) oD (by unfold maxLen; omega) (by omega) hb3'.size ?_)
              intro v9 w9 ho9 hg9
              have hb9 : Below w.heap.size w w9 := hb3'.grown hg9 hb3'.size (fun q hq => (ho.lt q hq).1)
              have R : OwnM w.heap.size w9 v9 (z.take k ++ z.drop (k + 1)) := ownM_pushN ho he (encM_of eD hb3') ho9 (by first | (rw [List.length_append]; omega) | (rw [List.length_append, List.length_append, List.length_singleton]; omega)) hg9
              obtain ⟨a9, c9, rfl⟩ := own_shape ho9
              clear ho9 hg9 ho he
              go_wp2_with fail
              go_ret
              exact ⟨_, rfl, by rw [HM.out]; exact R, hb9⟩
            · have hcc1 : cap = k + 1 := by omega
              have hcc2 : cap - (k + 1) = 0 := by omega
              have hcc3 : z.length - (k + 1) = 0 := by omega
              have ND0 : Hid (nD = []) := List.eq_nil_of_length_eq_zero (by omega)
              obtain ⟨xo, ho, he⟩ := O3
              go_wp2_with (at_builtin; refine wpList_append_opt rfl (.tmp 62) (.tmp 65) 34 rfl w.heap.size 45 i0 _ 2 32 Try.underlying34 hi hj0 hj1 hj2 rfl (by decide) _ _ _ rfl ho _ _ _ nD rfl (by intro e; cases e) (by omega) (fun ad e j u hj => by rw [ND0.out] at hj; simp at hj) oD (by unfold maxLen; omega) (by omega) hb3'.size ?_)
              intro v9 w9 ho9 hg9
              have hb9 : Below w.heap.size w w9 := hb3'.grown hg9 hb3'.size (fun q hq => (ho.lt q hq).1)
              have R : OwnM w.heap.size w9 v9 (z.take k ++ z.drop (k + 1)) := ownM_pushN ho he (encM_of eD hb3') ho9 (by first | (rw [List.length_append]; omega) | (rw [List.length_append, List.length_append, List.length_singleton]; omega)) hg9
              obtain ⟨a9, c9, rfl⟩ := own_shape ho9
              clear ho9 hg9 ho he
              go_wp2_with fail
              go_ret
              exact ⟨_, rfl, by rw [HM.out]; exact R, hb9⟩
          · have HM : Hid (putL z r x = z.take k ++ [(bareL r, x + z[k].2)] ++ z.drop (k + 1)) := by
              show _ = _
              rw [HP.out]
              simp only [midL, hx0, if_false]
            have bx : ((x + z[k].2) != 0) = true := by simp [hx0]
            clear hx0
            go_wp2_with fail
            refine (refBareRow_at _ _ _ _ (h'.next hb3') h8).mono ?_
            rintro e w5 ⟨⟨ab, cbb, rfl, sb, tb⟩, hb5⟩
            have hb5' := chain1 hb3' hb5
            have hz5 := hb5'.size
            obtain ⟨xm, hom, hem⟩ := O3.next hb5
            have bN : Below w5.heap.size w5 (w5.alloc (.cells #[.slice ab r.length cbb, .int .i64 (x + z[k].2)] 45)) := (Below.refl _ _).alloc (Nat.le_refl _) _
            have hemN := hem.next bN
            have newN : EncM w.heap.size (w5.alloc (.cells #[.slice ab r.length cbb, .int .i64 (x + z[k].2)] 45)) [.slice ab r.length cbb, .int .i64 (x + z[k].2)] [(bareL r, x + z[k].2)] := encM_new (bareL_length r).symm (sb.next bN) (tb.next bN)
            go_wp2_with (at_builtin; refine wpList_append_own _ rfl (.tmp 55) (.tmp 60) 34 rfl w.heap.size 45 i0 _ 2 32 Try.underlying34 hi hj0 hj1 hj2 rfl (by decide) _ _ _ rfl (hom.alloc _) ⟨w5.heap.size, 0, none⟩ 1 1 [.slice ab r.length cbb, .int .i64 (x + z[k].2)] rfl rfl (news2 rfl _ _) (one2 _ _ _ _) (by unfold maxLen; omega) (by omega) (by simp; omega) ?_)
            intro v6 w6 ho6 hg6 _
            try rw [hlT] at ho6
            have hb6 : Below w.heap.size w w6 := (hb5'.alloc hz5 _).grown hg6 (by simp; omega) (fun q hq => ((hom.alloc (.cells #[.slice ab r.length cbb, .int .i64 (x + z[k].2)] 45)).lt q hq).1)
            have O6 : OwnM w.heap.size w6 v6 (z.take k ++ [(bareL r, x + z[k].2)]) := ownM_pushN (hom.alloc _) hemN newN ho6 (by simp [hlT]) hg6
            have hl6 : (z.take k ++ [(bareL r, x + z[k].2)]).length = k + 1 := by rw [List.length_append, hlT]; rfl
            obtain ⟨a6, c6, rfl⟩ := own_shape ho6
            clear ho6 hg6 hom hem hemN newN sb tb
            obtain ⟨nD, eD, oD, eD0, cD⟩ := src_of (h.drop (k + 1))
            have eDl := eD.1
            have hlD : (z.drop (k + 1)).length = z.length - (k + 1) := List.length_drop
            rw [hlD] at eDl
            by_cases hcc : k + 1 < cap
            · have hcc1 : ((cap : Int) - ((k + 1 : Nat) : Int) = 0) = False := by simp; omega
              have hcc2 : ¬ cap = k + 1 := by omega
              have hcc3 : ¬ cap - (k + 1) = 0 := by omega
              obtain ⟨xo, ho, he⟩ := O6
              go_wp2_with (at_builtin; refine wpList_append_opt rfl (.tmp 62) (.tmp 65) 34 rfl w.heap.size 45 i0 _ 2 32 Try.underlying34 hi hj0 hj1 hj2 rfl (by decide) _ _ _ rfl ho _ _ _ nD rfl (by intro e; cases e) (by omega) (fun ad e j u hj => by injection e with e; subst e; exact (hb6.cell (World.block_lt_of_cell? _ _ (cD _ rfl j u hj))).trans (cD _ rfl j u hj)) oD (by unfold maxLen; omega) (by omega) hb6.size ?_)
              intro v9 w9 ho9 hg9
              have hb9 : Below w.heap.size w w9 := hb6.grown hg9 hb6.size (fun q hq => (ho.lt q hq).1)
              have R : OwnM w.heap.size w9 v9 (z.take k ++ [(bareL r, x + z[k].2)] ++ z.drop (k + 1)) := ownM_pushN ho he (encM_of eD hb6) ho9 (by first | (rw [List.length_append]; omega) | (rw [List.length_append, List.length_append, List.length_singleton]; omega)) hg9
              obtain ⟨a9, c9, rfl⟩ := own_shape ho9
              clear ho9 hg9 ho he
              go_wp2_with fail
              go_ret
              exact ⟨_, rfl, by rw [HM.out]; exact R, hb9⟩
            · have hcc1 : cap = k + 1 := by omega
              have hcc2 : cap - (k + 1) = 0 := by omega
              have hcc3 : z.length - (k + 1) = 0 := by omega
              have ND0 : Hid (nD = []) := List.eq_nil_of_length_eq_zero (by omega)
              obtain ⟨xo, ho, he⟩ := O6
              go_wp2_with (at_builtin; refine wpList_append_opt rfl (.tmp 62) (.tmp 65) 34 rfl w.heap.size 45 i0 _ 2 32 Try.underlying34 hi hj0 hj1 hj2 rfl (by decide) _ _ _ rfl ho _ _ _ nD rfl (by intro e; cases e) (by omega) (fun ad e j u hj => by rw [ND0.out] at hj; simp at hj) oD (by unfold maxLen; omega) (by omega) hb6.size ?_)
              intro v9 w9 ho9 hg9
              have hb9 : Below w.heap.size w w9 := hb6.grown hg9 hb6.size (fun q hq => (ho.lt q hq).1)
              have R : OwnM w.heap.size w9 v9 (z.take k ++ [(bareL r, x + z[k].2)] ++ z.drop (k + 1)) := ownM_pushN ho he (encM_of eD hb6) ho9 (by first | (rw [List.length_append]; omega) | (rw [List.length_append, List.length_append, List.length_singleton]; omega)) hg9
              obtain ⟨a9, c9, rfl⟩ := own_shape ho9
              clear ho9 hg9 ho he
              go_wp2_with fail
              go_ret
              exact ⟨_, rfl, by rw [HM.out]; exact R, hb9⟩
        · have HP : Hid (putL z r x = z.take k ++ midL r x ++ z.drop k) := putL_new x hlt HC.out (by omega)
          have b0 : (cmpL z[k].1 r == 0) = false := by simpa using h0
          clear h0
          go_wp2_with fail
          refine (refRows_at _ _ _ _ _ _ _ sr2 (h'.next hb2) hR1.out).mono ?_
          rintro e w3 ⟨rfl, hb3⟩
          have hb3' := chain1 hb2 hb3
          have O3 := O2.next hb3
          clear d0 d1 O2
          by_cases hx0 : x = 0
          · have HM : Hid (putL z r x = z.take k ++ z.drop (k)) := by
              show _ = _
              rw [HP.out]
              simp only [midL, hx0, if_true, List.append_nil]
            have bx : ((x) != 0) = false := by simp [hx0]
            obtain ⟨nD, eD, oD, eD0, cD⟩ := src_of (h.drop (k))
            have eDl := eD.1
            have hlD : (z.drop (k)).length = z.length - (k) := List.length_drop
            rw [hlD] at eDl
            by_cases hcc : k < cap
            · have hcc1 : ((cap : Int) - ((k : Nat) : Int) = 0) = False := by simp; omega
              have hcc2 : ¬ cap = k := by omega
              have hcc3 : ¬ cap - (k) = 0 := by omega
              obtain ⟨xo, ho, he⟩ := O3
              go_wp2_with (at_builtin; refine wpList_append_opt rfl (.tmp 62) (.tmp 65) 34 rfl w.heap.size 45 i0 _ 2 32 Try.underlying34 hi hj0 hj1 hj2 rfl (by decide) _ _ _ rfl ho _ _ _ nD rfl (by intro e; cases e) (by omega) (fun ad e j u hj => by injection e with e; subst e; exact (hb3'.cell (World.block_lt_of_cell? _ _ (cD _ rfl j u hj))).trans (cD _ rfl j u hj)) oD (by unfold maxLen; omega) (by omega) hb3'.size ?_)
              intro v9 w9 ho9 hg9
              have hb9 : Below w.heap.size w w9 := hb3'.grown hg9 hb3'.size (fun q hq => (ho.lt q hq).1)
              have R : OwnM w.heap.size w9 v9 (z.take k ++ z.drop (k)) := ownM_pushN ho he (encM_of eD hb3') ho9 (by first | (rw [List.length_append]; omega) | (rw [List.length_append, List.length_append, List.length_singleton]; omega)) hg9
              obtain ⟨a9, c9, rfl⟩ := own_shape ho9
              clear ho9 hg9 ho he
              go_wp2_with fail
              go_ret
              exact ⟨_, rfl, by rw [HM.out]; exact R, hb9⟩
            · have hcc1 : cap = k := by omega
              have hcc2 : cap - (k) = 0 := by omega
              have hcc3 : z.length - (k) = 0 := by omega
              have ND0 : Hid (nD = []) := List.eq_nil_of_length_eq_zero (by omega)
              obtain ⟨xo, ho, he⟩ := O3
              go_wp2_with (at_builtin; refine wpList_append_opt rfl (.tmp 62) (.tmp 65) 34 rfl w.heap.size 45 i0 _ 2 32 Try.underlying34 hi hj0 hj1 hj2 rfl (by decide) _ _ _ rfl ho _ _ _ nD rfl (by intro e; cases e) (by omega) (fun ad e j u hj => by rw [ND0.out] at hj; simp at hj) oD (by unfold maxLen; omega) (by omega) hb3'.size ?_)
              intro v9 w9 ho9 hg9
              have hb9 : Below w.heap.size w w9 := hb3'.grown hg9 hb3'.size (fun q hq => (ho.lt q hq).1)
              have R : OwnM w.heap.size w9 v9 (z.take k ++ z.drop (k)) := ownM_pushN ho he (encM_of eD hb3') ho9 (by first | (rw [List.length_append]; omega) | (rw [List.length_append, List.length_append, List.length_singleton]; omega)) hg9
              obtain ⟨a9, c9, rfl⟩ := own_shape ho9
              clear ho9 hg9 ho he
              go_wp2_with fail
              go_ret
              exact ⟨_, rfl, by rw [HM.out]; exact R, hb9⟩
          · have HM : Hid (putL z r x = z.take k ++ [(bareL r, x)] ++ z.drop (k)) := by
              show _ = _
              rw [HP.out]
              simp only [midL, hx0, if_false]
            have bx : ((x) != 0) = true := by simp [hx0]
            clear hx0
            go_wp2_with fail
            refine (refBareRow_at _ _ _ _ (h'.next hb3') h8).mono ?_
            rintro e w5 ⟨⟨ab, cbb, rfl, sb, tb⟩, hb5⟩
            have hb5' := chain1 hb3' hb5
            have hz5 := hb5'.size
            obtain ⟨xm, hom, hem⟩ := O3.next hb5
            have bN : Below w5.heap.size w5 (w5.alloc (.cells #[.slice ab r.length cbb, .int .i64 (x)] 45)) := (Below.refl _ _).alloc (Nat.le_refl _) _
            have hemN := hem.next bN
            have newN : EncM w.heap.size (w5.alloc (.cells #[.slice ab r.length cbb, .int .i64 (x)] 45)) [.slice ab r.length cbb, .int .i64 (x)] [(bareL r, x)] := encM_new (bareL_length r).symm (sb.next bN) (tb.next bN)
            go_wp2_with (at_builtin; refine wpList_append_own _ rfl (.tmp 55) (.tmp 60) 34 rfl w.heap.size 45 i0 _ 2 32 Try.underlying34 hi hj0 hj1 hj2 rfl (by decide) _ _ _ rfl (hom.alloc _) ⟨w5.heap.size, 0, none⟩ 1 1 [.slice ab r.length cbb, .int .i64 (x)] rfl rfl (news2 rfl _ _) (one2 _ _ _ _) (by unfold maxLen; omega) (by omega) (by simp; omega) ?_)
            intro v6 w6 ho6 hg6 _
            try rw [hlT] at ho6
            have hb6 : Below w.heap.size w w6 := (hb5'.alloc hz5 _).grown hg6 (by simp; omega) (fun q hq => ((hom.alloc (.cells #[.slice ab r.length cbb, .int .i64 (x)] 45)).lt q hq).1)
            have O6 : OwnM w.heap.size w6 v6 (z.take k ++ [(bareL r, x)]) := ownM_pushN (hom.alloc _) hemN newN ho6 (by simp [hlT]) hg6
            have hl6 : (z.take k ++ [(bareL r, x)]).length = k + 1 := by rw [List.length_append, hlT]; rfl
            obtain ⟨a6, c6, rfl⟩ := own_shape ho6
            clear ho6 hg6 hom hem hemN newN sb tb
            obtain ⟨nD, eD, oD, eD0, cD⟩ := src_of (h.drop (k))
            have eDl := eD.1
            have hlD : (z.drop (k)).length = z.length - (k) := List.length_drop
            rw [hlD] at eDl
            by_cases hcc : k < cap
            · have hcc1 : ((cap : Int) - ((k : Nat) : Int) = 0) = False := by simp; omega
              have hcc2 : ¬ cap = k := by omega
              have hcc3 : ¬ cap - (k) = 0 := by omega
              obtain ⟨xo, ho, he⟩ := O6
              go_wp2_with (at_builtin; refine wpList_append_opt rfl (.tmp 62) (.tmp 65) 34 rfl w.heap.size 45 i0 _ 2 32 Try.underlying34 hi hj0 hj1 hj2 rfl (by decide) _ _ _ rfl ho _ _ _ nD rfl (by intro e; cases e) (by omega) (fun ad e j u hj => by injection e with e; subst e; exact (hb6.cell (World.block_lt_of_cell? _ _ (cD _ rfl j u hj))).trans (cD _ rfl j u hj)) oD (by unfold maxLen; omega) (by omega) hb6.size ?_)
              intro v9 w9 ho9 hg9
              have hb9 : Below w.heap.size w w9 := hb6.grown hg9 hb6.size (fun q hq => (ho.lt q hq).1)
              have R : OwnM w.heap.size w9 v9 (z.take k ++ [(bareL r, x)] ++ z.drop (k)) := ownM_pushN ho he (encM_of eD hb6) ho9 (by first | (rw [List.length_append]; omega) | (rw [List.length_append, List.length_append, List.length_singleton]; omega)) hg9
              obtain ⟨a9, c9, rfl⟩ := own_shape ho9
              clear ho9 hg9 ho he
              go_wp2_with fail
              go_ret
              exact ⟨_, rfl, by rw [HM.out]; exact R, hb9⟩
            · have hcc1 : cap = k := by omega
              have hcc2 : cap - (k) = 0 := by omega
              have hcc3 : z.length - (k) = 0 := by omega
              have ND0 : Hid (nD = []) := List.eq_nil_of_length_eq_zero (by omega)
              obtain ⟨xo, ho, he⟩ := O6
              go_wp2_with (at_builtin; refine wpList_append_opt rfl (.tmp 62) (.tmp 65) 34 rfl w.heap.size 45 i0 _ 2 32 Try.underlying34 hi hj0 hj1 hj2 rfl (by decide) _ _ _ rfl ho _ _ _ nD rfl (by intro e; cases e) (by omega) (fun ad e j u hj => by rw [ND0.out] at hj; simp at hj) oD (by unfold maxLen; omega) (by omega) hb6.size ?_)
              intro v9 w9 ho9 hg9
              have hb9 : Below w.heap.size w w9 := hb6.grown hg9 hb6.size (fun q hq => (ho.lt q hq).1)
              have R : OwnM w.heap.size w9 v9 (z.take k ++ [(bareL r, x)] ++ z.drop (k)) := ownM_pushN ho he (encM_of eD hb6) ho9 (by first | (rw [List.length_append]; omega) | (rw [List.length_append, List.length_append, List.length_singleton]; omega)) hg9
              obtain ⟨a9, c9, rfl⟩ := own_shape ho9
              clear ho9 hg9 ho he
              go_wp2_with fail
              go_ret
              exact ⟨_, rfl, by rw [HM.out]; exact R, hb9⟩
    · have hke : k = z.length := by omega
      obtain ⟨bz, off, rfl, hbl, -⟩ := (h.next hb).elem hpos
      have HP : Hid (putL z r x = z.take k ++ midL r x ++ z.drop k) := putL_all x hke HC.out
      clear hke
      have hb1 : Below wr.heap.size wr wr := Below.refl _ _
      have hb1' := chain1 hb hb1
      have hz1 := hb1'.size
      obtain ⟨nT, eT, oT, eT0, cT⟩ := src_of (h.take k)
      have hlT : (z.take k).length = k := by rw [List.length_take]; omega
      have eTl := eT.1
      rw [hlT] at eTl
      go_wp2_with (at_builtin; refine wpList_append_opt rfl (.tmp 25) (.tmp 28) 34 rfl w.heap.size 45 i0 _ 2 32 Try.underlying34 hi hj0 hj1 hj2 rfl (by decide) _ _ _ rfl (World.ownsRow_made wr #[] 0 hz1 (Nat.zero_le _) (by simp)) _ k cap nT rfl (by intro e; cases e) eTl (fun ad e j u hj => Lib.cell?_alloc_some _ ((hb1'.cell (World.block_lt_of_cell? _ _ (cT ad e j u hj))).trans (cT ad e j u hj))) oT (by unfold maxLen; omega) (by omega) (by simp; omega) ?_)
      intro v2 w2 ho2 hg2
      have hb2 : Below w.heap.size w w2 := (hb1'.alloc hz1 _).grown hg2 (by simp; omega) (fun q hq => by simp [Value.ownBlock] at hq; omega)
      have hb12 : Below wr.heap.size wr w2 := ((Below.refl _ _).alloc (Nat.le_refl _) _).grown hg2 (by simp) (fun q hq => by simp [Value.ownBlock] at hq; omega)
      have O2 : OwnM w.heap.size w2 v2 (z.take k) := ⟨nT, by rw [hlT]; simpa using ho2, encM_of eT hb2⟩
      obtain ⟨a2, c2, rfl⟩ := own_shape ho2
      clear ho2 hg2 eT oT eT0 cT eTl
      by_cases hx0 : x = 0
      · have HM : Hid (putL z r x = z.take k ++ z.drop (k)) := by
          show _ = _
          rw [HP.out]
          simp only [midL, hx0, if_true, List.append_nil]
        have bx : ((x) != 0) = false := by simp [hx0]
        obtain ⟨nD, eD, oD, eD0, cD⟩ := src_of (h.drop (k))
        have eDl := eD.1
        have hlD : (z.drop (k)).length = z.length - (k) := List.length_drop
        rw [hlD] at eDl
        by_cases hcc : k < cap
        · have hcc1 : ((cap : Int) - ((k : Nat) : Int) = 0) = False := by simp; omega
          have hcc2 : ¬ cap = k := by omega
          have hcc3 : ¬ cap - (k) = 0 := by omega
          obtain ⟨xo, ho, he⟩ := O2
          go_wp2_with (at_builtin; refine wpList_append_opt rfl (.tmp 62) (.tmp 65) 34 rfl w.heap.size 45 i0 _ 2 32 Try.underlying34 hi hj0 hj1 hj2 rfl (by decide) _ _ _ rfl ho _ _ _ nD rfl (by intro e; cases e) (by omega) (fun ad e j u hj => by injection e with e; subst e; exact (hb2.cell (World.block_lt_of_cell? _ _ (cD _ rfl j u hj))).trans (cD _ rfl j u hj)) oD (by unfold maxLen; omega) (by omega) hb2.size ?_)
          intro v9 w9 ho9 hg9
          have hb9 : Below w.heap.size w w9 := hb2.grown hg9 hb2.size (fun q hq => (ho.lt q hq).1)
          have R : OwnM w.heap.size w9 v9 (z.take k ++ z.drop (k)) := ownM_pushN ho he (encM_of eD hb2) ho9 (by first | (rw [List.length_append]; omega) | (rw [List.length_append, List.length_append, List.length_singleton]; omega)) hg9
          obtain ⟨a9, c9, rfl⟩ := own_shape ho9
          clear ho9 hg9 ho he
          go_wp2_with fail
          go_ret
          exact ⟨_, rfl, by rw [HM.out]; exact R, hb9⟩
        · have hcc1 : cap = k := by omega
          have hcc2 : cap - (k) = 0 := by omega
          have hcc3 : z.length - (k) = 0 := by omega
          have ND0 : Hid (nD = []) := List.eq_nil_of_length_eq_zero (by omega)
          obtain ⟨xo, ho, he⟩ := O2
          go_wp2_with (at_builtin; refine wpList_append_opt rfl (.tmp 62) (.tmp 65) 34 rfl w.heap.size 45 i0 _ 2 32 Try.underlying34 hi hj0 hj1 hj2 rfl (by decide) _ _ _ rfl ho _ _ _ nD rfl (by intro e; cases e) (by omega) (fun ad e j u hj => by rw [ND0.out] at hj; simp at hj) oD (by unfold maxLen; omega) (by omega) hb2.size ?_)
          intro v9 w9 ho9 hg9
          have hb9 : Below w.heap.size w w9 := hb2.grown hg9 hb2.size (fun q hq => (ho.lt q hq).1)
          have R : OwnM w.heap.size w9 v9 (z.take k ++ z.drop (k)) := ownM_pushN ho he (encM_of eD hb2) ho9 (by first | (rw [List.length_append]; omega) | (rw [List.length_append, List.length_append, List.length_singleton]; omega)) hg9
          obtain ⟨a9, c9, rfl⟩ := own_shape ho9
          clear ho9 hg9 ho he
          go_wp2_with fail
          go_ret
          exact ⟨_, rfl, by rw [HM.out]; exact R, hb9⟩
      · have HM : Hid (putL z r x = z.take k ++ [(bareL r, x)] ++ z.drop (k)) := by
          show _ = _
          rw [HP.out]
          simp only [midL, hx0, if_false]
        have bx : ((x) != 0) = true := by simp [hx0]
        clear hx0
        go_wp2_with fail
        refine (refBareRow_at _ _ _ _ (h'.next hb2) h8).mono ?_
        rintro e w5 ⟨⟨ab, cbb, rfl, sb, tb⟩, hb5⟩
        have hb5' := chain1 hb2 hb5
        have hz5 := hb5'.size
        obtain ⟨xm, hom, hem⟩ := O2.next hb5
        have bN : Below w5.heap.size w5 (w5.alloc (.cells #[.slice ab r.length cbb, .int .i64 (x)] 45)) := (Below.refl _ _).alloc (Nat.le_refl _) _
        have hemN := hem.next bN
        have newN : EncM w.heap.size (w5.alloc (.cells #[.slice ab r.length cbb, .int .i64 (x)] 45)) [.slice ab r.length cbb, .int .i64 (x)] [(bareL r, x)] := encM_new (bareL_length r).symm (sb.next bN) (tb.next bN)
        go_wp2_with (at_builtin; refine wpList_append_own _ rfl (.tmp 55) (.tmp 60) 34 rfl w.heap.size 45 i0 _ 2 32 Try.underlying34 hi hj0 hj1 hj2 rfl (by decide) _ _ _ rfl (hom.alloc _) ⟨w5.heap.size, 0, none⟩ 1 1 [.slice ab r.length cbb, .int .i64 (x)] rfl rfl (news2 rfl _ _) (one2 _ _ _ _) (by unfold maxLen; omega) (by omega) (by simp; omega) ?_)
        intro v6 w6 ho6 hg6 _
        try rw [hlT] at ho6
        have hb6 : Below w.heap.size w w6 := (hb5'.alloc hz5 _).grown hg6 (by simp; omega) (fun q hq => ((hom.alloc (.cells #[.slice ab r.length cbb, .int .i64 (x)] 45)).lt q hq).1)
        have O6 : OwnM w.heap.size w6 v6 (z.take k ++ [(bareL r, x)]) := ownM_pushN (hom.alloc _) hemN newN ho6 (by simp [hlT]) hg6
        have hl6 : (z.take k ++ [(bareL r, x)]).length = k + 1 := by rw [List.length_append, hlT]; rfl
        obtain ⟨a6, c6, rfl⟩ := own_shape ho6
        clear ho6 hg6 hom hem hemN newN sb tb
        obtain ⟨nD, eD, oD, eD0, cD⟩ := src_of (h.drop (k))
        have eDl := eD.1
        have hlD : (z.drop (k)).length = z.length - (k) := List.length_drop
        rw [hlD] at eDl
        by_cases hcc : k < cap
        · have hcc1 : ((cap : Int) - ((k : Nat) : Int) = 0) = False := by simp; omega
          have hcc2 : ¬ cap = k := by omega
          have hcc3 : ¬ cap - (k) = 0 := by omega
          obtain ⟨xo, ho, he⟩ := O6
          go_wp2_with (at_builtin; refine wpList_append_opt rfl (.tmp 62) (.tmp 65) 34 rfl w.heap.size 45 i0 _ 2 32 Try.underlying34 hi hj0 hj1 hj2 rfl (by decide) _ _ _ rfl ho _ _ _ nD rfl (by intro e; cases e) (by omega) (fun ad e j u hj => by injection e with e; subst e; exact (hb6.cell (World.block_lt_of_cell? _ _ (cD _ rfl j u hj))).trans (cD _ rfl j u hj)) oD (by unfold maxLen; omega) (by omega) hb6.size ?_)
          intro v9 w9 ho9 hg9
          have hb9 : Below w.heap.size w w9 := hb6.grown hg9 hb6.size (fun q hq => (ho.lt q hq).1)
          have R : OwnM w.heap.size w9 v9 (z.take k ++ [(bareL r, x)] ++ z.drop (k)) := ownM_pushN ho he (encM_of eD hb6) ho9 (by first | (rw [List.length_append]; omega) | (rw [List.length_append, List.length_append, List.length_singleton]; omega)) hg9
          obtain ⟨a9, c9, rfl⟩ := own_shape ho9
          clear ho9 hg9 ho he
          go_wp2_with fail
          go_ret
          exact ⟨_, rfl, by rw [HM.out]; exact R, hb9⟩
        · have hcc1 : cap = k := by omega
          have hcc2 : cap - (k) = 0 := by omega
          have hcc3 : z.length - (k) = 0 := by omega
          have ND0 : Hid (nD = []) := List.eq_nil_of_length_eq_zero (by omega)
          obtain ⟨xo, ho, he⟩ := O6
          go_wp2_with (at_builtin; refine wpList_append_opt rfl (.tmp 62) (.tmp 65) 34 rfl w.heap.size 45 i0 _ 2 32 Try.underlying34 hi hj0 hj1 hj2 rfl (by decide) _ _ _ rfl ho _ _ _ nD rfl (by intro e; cases e) (by omega) (fun ad e j u hj => by rw [ND0.out] at hj; simp at hj) oD (by unfold maxLen; omega) (by omega) hb6.size ?_)
          intro v9 w9 ho9 hg9
          have hb9 : Below w.heap.size w w9 := hb6.grown hg9 hb6.size (fun q hq => (ho.lt q hq).1)
          have R : OwnM w.heap.size w9 v9 (z.take k ++ [(bareL r, x)] ++ z.drop (k)) := ownM_pushN ho he (encM_of eD hb6) ho9 (by first | (rw [List.length_append]; omega) | (rw [List.length_append, List.length_append, List.length_singleton]; omega)) hg9
          obtain ⟨a9, c9, rfl⟩ := own_shape ho9
          clear ho9 hg9 ho he
          go_wp2_with fail
          go_ret
          exact ⟨_, rfl, by rw [HM.out]; exact R, hb9⟩
end Go.Proofs.Ytibobmkelmalkaa
