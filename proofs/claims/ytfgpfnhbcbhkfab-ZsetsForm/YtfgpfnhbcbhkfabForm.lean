/- The walk of tidelaw2.ZsetsForm. -/
import Derived.Test.YtfgpfnhbcbhkfabZD
namespace Go.Proofs.Ytfgpfnhbcbhkfab
open Go.RowKit Go.Lib Go.Shelf

theorem putL_mem (r : List Vl) (w : Int) : ∀ z : List Zp, ∀ y ∈ putL z r w, y ∈ z ∨ y.1 = bareL r
  | [] => by
    unfold putL
    split
    · simp
    · intro y hy; simp at hy; subst hy; exact .inr rfl
  | x :: t => by
    have ih := putL_mem r w t
    unfold putL
    split
    · intro y hy
      rcases List.mem_cons.1 hy with rfl | hy
      · exact .inl (by simp)
      · rcases ih y hy with h | h
        · exact .inl (by simp [h])
        · exact .inr h
    · split
      · split
        · intro y hy; exact .inl (by simp [hy])
        · intro y hy
          rcases List.mem_cons.1 hy with rfl | hy
          · exact .inr rfl
          · exact .inl (by simp [hy])
      · split
        · intro y hy; exact .inl hy
        · intro y hy
          rcases List.mem_cons.1 hy with rfl | hy
          · exact .inr rfl
          · exact .inl hy
theorem canonF_row (l : List Zp) : ∀ z : List Zp, ∀ y ∈ l.foldl (fun z x => putL z x.1 x.2) z, y ∈ z ∨ ∃ x ∈ l, y.1 = bareL x.1 := by
  induction l with
  | nil => intro z y hy; exact .inl hy
  | cons x r ih =>
    intro z y hy
    rcases ih _ y hy with h | ⟨u, hu, e⟩
    · rcases putL_mem _ _ _ y h with h | h
      · exact .inl h
      · exact .inr ⟨x, by simp, h⟩
    · exact .inr ⟨u, by simp [hu], e⟩
theorem canon_row (l : List Zp) : ∀ y ∈ canon l, ∃ x ∈ l, y.1 = bareL x.1 := fun y hy => by
  rcases canonF_row l [] y hy with h | h
  · cases h
  · exact h
theorem canon_congr {l t : List Zp} (h : ∀ q, wt l q = wt t q) : canon l = canon t :=
  set_unique _ _ (canon_set l) (canon_set t) fun q => by rw [canon_wt, canon_wt, h]
theorem canon_self {z : List Zp} (h : IsSet z) : canon z = z := (canon_of h fun _ => rfl).symm
theorem gather_ok {l : List Zp} (h : gatherE l = 0) : outW (canon l) = false ∧ (canon l).length ≤ 400 := by
  unfold gatherE at h
  by_cases h1 : outW (canon l) = true
  · rw [if_pos h1] at h; omega
  · rw [if_neg h1] at h
    by_cases h2 : 400 < (canon l).length
    · rw [if_pos h2] at h; omega
    · exact ⟨by simpa using h1, by omega⟩
theorem outW_in {z : List Zp} (h : outW z = false) : ∀ x ∈ z, inW x.2 = true := by
  unfold outW at h
  rw [List.any_eq_false] at h
  intro x hx
  simpa using h x hx
theorem wrong_canon {l : List Zp} (hr : ∀ x ∈ l, wrongRowF x.1 = 0) (h : gatherE l = 0) : wrongZ (canon l) = 0 := by
  obtain ⟨h1, h2⟩ := gather_ok h
  refine (wrongZ_iff _).2 ⟨h2, fun y hy => ?_, (canon_set l).rise⟩
  obtain ⟨x, hx, e⟩ := canon_row l y hy
  refine ⟨?_, (canon_set l).ne y hy, outW_in h1 y hy⟩
  rw [e, wrongRow_bare]
  exact hr x hx
theorem of_ok {l : List Zp} (h : ofE l = 0) : l.length ≤ 1600 ∧ goO l = 0 ∧ gatherE l = 0 := by
  unfold ofE at h
  by_cases h1 : 1600 < l.length
  · rw [if_pos h1] at h; omega
  · rw [if_neg h1] at h
    by_cases h2 : goO l = 0
    · rw [if_pos h2] at h; exact ⟨by omega, h2, h⟩
    · rw [if_neg h2] at h; exact absurd h h2
theorem of_set {z : List Zp} (h : wrongZ z = 0) (hs : IsSet z) : ofE z = 0 ∧ ofZ z = z := by
  obtain ⟨h1, h2, h3⟩ := (wrongZ_iff z).1 h
  have g : goO z = 0 := (goO_iff z).2 fun x hx => ⟨(h2 x hx).1, (h2 x hx).2.2⟩
  have e : ofE z = 0 := by
    unfold ofE gatherE
    rw [if_neg (by omega), if_pos g, canon_self hs]
    have : outW z = false := by
      unfold outW
      rw [List.any_eq_false]
      intro x hx
      simp [(h2 x hx).2.2]
    rw [this, if_neg (by decide), if_neg (by omega)]
  exact ⟨e, by unfold ofZ; rw [if_pos e, canon_self hs]⟩

def piece (at_ : Int) (m : Nat) (x : Zp) : List Zp := if (m : Int) = at_ ∧ 1 < x.2 then [(x.1, x.2 - 1), (x.1, 1)] else [x]
def backF (at_ : Int) : Nat → List Zp → List Zp
  | _, [] => []
  | m, x :: r => backF at_ (m + 1) r ++ piece at_ m x
theorem backF_step (at_ : Int) (l : List Zp) (k : Nat) (h : k < l.length) : backF at_ k (l.drop k) = backF at_ (k + 1) (l.drop (k + 1)) ++ piece at_ k l[k] := by
  rw [List.drop_eq_getElem_cons h]; rfl
theorem piece_wt (at_ : Int) (m : Nat) (x : Zp) (q : List Vl) : wt (piece at_ m x) q = wt [x] q := by
  unfold piece
  split
  · simp only [wt]; split <;> omega
  · rfl
theorem backF_wt (at_ : Int) (q : List Vl) : ∀ (t : List Zp) (m : Nat), wt (backF at_ m t) q = wt t q
  | [], _ => rfl
  | x :: r, m => by
    have ih := backF_wt at_ q r (m + 1)
    rw [backF, wt_append, ih, piece_wt]
    simp only [wt]; omega
theorem backF_in (at_ : Int) : ∀ (t : List Zp) (m : Nat), (∀ x ∈ t, wrongRowF x.1 = 0 ∧ inW x.2 = true) → ∀ x ∈ backF at_ m t, wrongRowF x.1 = 0 ∧ inW x.2 = true
  | [], _, _ => by simp [backF]
  | y :: r, m, h => by
    have ih := backF_in at_ r (m + 1) (fun x hx => h x (by simp [hx]))
    have hy := h y (by simp)
    intro x hx
    rw [backF] at hx
    rcases List.mem_append.1 hx with hx | hx
    · exact ih x hx
    · unfold piece at hx
      have := (inW_iff _).1 hy.2
      split at hx
      · simp at hx
        rcases hx with rfl | rfl
        · exact ⟨hy.1, (inW_iff _).2 (by simp only; omega)⟩
        · exact ⟨hy.1, (inW_iff _).2 (by simp only; omega)⟩
      · simp at hx; subst hx; exact hy
theorem backF_len (at_ : Int) : ∀ (t : List Zp) (m : Nat), (backF at_ m t).length ≤ t.length * 2
  | [], _ => by simp [backF]
  | y :: r, m => by
    have ih := backF_len at_ r (m + 1)
    rw [backF, List.length_append]
    have : (piece at_ m y).length ≤ 2 := by unfold piece; split <;> simp
    simp; omega
theorem back_of {l : List Zp} (at_ : Int) (h : ofE l = 0) (hl : (backF at_ 0 l).length ≤ 1600) : ofE (backF at_ 0 l) = 0 ∧ ofZ (backF at_ 0 l) = canon l := by
  obtain ⟨h1, h2, h3⟩ := of_ok h
  have hc : canon (backF at_ 0 l) = canon l := canon_congr fun q => backF_wt at_ q l 0
  have g : goO (backF at_ 0 l) = 0 := (goO_iff _).2 (backF_in at_ l 0 ((goO_iff l).1 h2))
  have ge : gatherE (backF at_ 0 l) = 0 := by
    unfold gatherE at h3 ⊢
    rw [hc]; exact h3
  have e : ofE (backF at_ 0 l) = 0 := by
    unfold ofE
    rw [if_neg (by omega), if_pos g, ge]
  exact ⟨e, by unfold ofZ; rw [if_pos e, hc]⟩

theorem news2 {W : World} {B : Nat} (hB : W.heap.size = B) (u0 u1 : Value) : ∀ j u, [u0, u1][j]? = some u → (W.alloc (.cells #[u0, u1] 42)).cell? ((⟨B, 0, none⟩ : Addr).add j) = some u := by
  subst hB
  intro j u hj
  have hn := heap_alloc_new W (.cells #[u0, u1] 42)
  match j, hj with
  | 0, hj => simp at hj; subst hj; simp [Addr.add]
  | 1, hj => simp at hj; subst hj; simp [Addr.add]
theorem one2 (a : Option Addr) (m c : Nat) (x : Int) : ∀ u ∈ [Value.slice a m c, .int .i64 x], u.oneCell' = true := by
  intro u hu; simp at hu; rcases hu with rfl | rfl <;> rfl

theorem box_ne {W : World} {base n B : Nat} {v : Value} {xs : List Value} {a : Option Addr} {m c : Nat} {x y : Int} (ho : W.ownsRow base 42 2 v n (xs ++ [.slice a m c, .int .i64 y])) (hbox : W.heap[B]? = some (.cells #[.slice a m c, .int .i64 x] 42 (0, 0))) (hne : y ≠ x) : v.ownBlock ≠ some B := by
  obtain ⟨hl, ⟨rfl, _⟩ | ⟨g, cap, cur, rfl, _, hh, hn, hc, hs, ht⟩⟩ := ho
  · simp [Value.ownBlock]
  · simp only [Value.ownBlock]
    intro e
    injection e with e
    subst e
    rw [hbox] at hh
    simp only [Option.some.injEq, Obj.cells.injEq, and_true] at hh
    subst hh
    simp at hs hl
    have n1 : n = 1 := by omega
    subst n1
    have x0 : xs = [] := List.eq_nil_of_length_eq_zero (by omega)
    subst x0
    simp at ht
    exact hne ht.symm

set_option maxHeartbeats 4000000 in
theorem form_walk (a : Option Addr) (cap : Nat) (l : List Zp) (at_ : Int) (w : World) (h : ZsAt w a l) :
    Calls Try.prog 7 #[.slice a l.length cap, .int .i64 at_] w fun e w' => e = .returned (.bool true) ∧ Below w.heap.size w w' := by
  by_cases hof : ofE l = 0
  · obtain ⟨i0, hi, hj0, hj1, hj2⟩ := info_parts Try.info42
    have ez : ofZ l = canon l := by simp [ofZ, hof]
    obtain ⟨h16, hgo, hga⟩ := of_ok hof
    have hwc := wrong_canon (fun x hx => ((goO_iff l).1 hgo x hx).1) hga
    have hself := of_set hwc (canon_set l)
    have ca := fun W => of_at a cap l W
    simp only [hof, ez] at ca
    have cb := fun a' c' W => of_at a' c' (canon l) W
    simp only [hself.1, hself.2] at cb
    have hbk := fun hl => back_of at_ hof hl
    have HB : Hid ((backF at_ 0 l).length ≤ 1600 → ofE (backF at_ 0 l) = 0 ∧ ofZ (backF at_ 0 l) = canon l) := hbk
    have HW : Hid (wrongZ (canon l) = 0) := hwc
    have HIn : Hid (∀ x ∈ l, inW x.2 = true) := fun x hx => ((goO_iff l).1 hgo x hx).2
    clear hof ez hgo hga hself hbk hwc
    generalize canon l = z at *
    go_enter Try.func7, Try.ntmps7
    go_wp2_with fail
    refine (alive_at _).mono ?_
    rintro e w1 ⟨rfl, hb1⟩
    go_wp2_with fail
    refine (ca w1 (h.next hb1)).mono ?_
    clear ca
    rintro e w2 ⟨v2, rfl, O2, hb2⟩
    obtain ⟨a2, c2, rfl, z2⟩ := O2.zs
    have hl2 := (h.next hb1).next hb2
    have bw := chain1 hb1 hb2
    clear h O2 hb1 hb2
    go_wp2_with fail
    go_loopw [7, 8] (fun v i wr => ∃ m : Nat, m ≤ l.length ∧ i = .int .i64 ((m : Int) - 1) ∧ SumTo w2 wr v (backF at_ m (l.drop m)) ∧ Below w2.heap.size w2 wr) (fun _ i _ => (intOf i + 1).toNat)
    case atStart => exact ⟨l.length, Nat.le_refl _, by go_num, by rw [List.drop_length]; exact ⟨[], World.ownsRow_nil _ _ _ _, rfl, fun i hi => by simp [backF] at hi⟩, Below.refl _ _⟩
    case round =>
      obtain ⟨m, hm, rfl, HS, hb⟩ := hrel
      have hz := hb.size
      by_cases hm0 : 0 < m
      · obtain ⟨k, rfl⟩ : ∃ k, m = k + 1 := ⟨m - 1, by omega⟩
        have e1 : ((k + 1 : Nat) : Int) - 1 = (k : Int) := by omega
        rw [e1]
        have hlt : k < l.length := by omega
        have hlen := backF_len at_ (l.drop (k + 1)) (k + 1)
        rw [List.length_drop] at hlen
        obtain ⟨b, off, hh, hbl, c1, ar, cr, c0, sr⟩ := (hl2.next hb).elem hlt
        obtain ⟨b', off', hh', hbl', c1', ar', cr', c0', sr'⟩ := hl2.elem hlt
        subst hh
        simp only [Option.some.injEq, Addr.mk.injEq, and_true] at hh'
        obtain ⟨rfl, rfl⟩ := hh'
        have ee := (hb.cell (p := ⟨b, _, none⟩) hbl').trans c0'
        rw [c0] at ee
        simp only [Option.some.injEq, Value.slice.injEq, true_and] at ee
        obtain ⟨rfl, rfl⟩ := ee
        have ee := (hb.cell (p := ⟨b, _, none⟩) hbl').trans c1'
        clear c0' c1' hbl' ee
        obtain ⟨xs, ho, he⟩ := HS
        generalize hacc : backF at_ (k + 1) (l.drop (k + 1)) = acc at ho he hlen
        have HAcc : Hid (backF at_ (k + 1) (l.drop (k + 1)) = acc) := hacc
        clear hacc
        obtain ⟨a3, c3, rfl⟩ := own_shape ho
        have i0' : (0 : Int) ≤ (k : Int) := by omega
        have i1' : (k : Int) < (l.length : Int) := by omega
        by_cases hat : (k : Int) = at_
        · by_cases hx : 1 < l[k].2
          · have hbA : Below wr.heap.size wr (wr.alloc (.cells #[.slice ar l[k].1.length cr, .int .i64 l[k].2] 42)) := (Below.refl _ _).alloc (Nat.le_refl _) _
            have hszA : (wr.alloc (.cells #[.slice ar l[k].1.length cr, .int .i64 l[k].2] 42)).heap.size = wr.heap.size + 1 := by simp
            have ho4 := own_next ho hbA
            have hgb : ∀ q, (Value.slice a3 acc.length c3).ownBlock = some q → q < wr.heap.size := fun q hq => (ho.lt q hq).2
            clear ho
            have pc : Hid (piece at_ k l[k] = [(l[k].1, l[k].2 - 1), (l[k].1, 1)]) := by show _ = _; unfold piece; rw [if_pos ⟨hat, hx⟩]
            have bat : ((k : Int) == at_) = true := by simpa using hat
            clear hat
            have hxin := (inW_iff _).1 (HIn.out l[k] (List.getElem_mem hlt))
            have hv1 : -9223372036854775808 ≤ l[k].2 - 1 := by omega
            have hv2 : l[k].2 - 1 ≤ 9223372036854775807 := by omega
            go_wp2_with (at_builtin; refine wpList_append_own _ rfl (.tmp 44) (.tmp 51) 22 rfl w2.heap.size 42 i0 _ 2 32 Try.underlying22 hi hj0 hj1 hj2 rfl (by decide) _ _ _ rfl (ho4.alloc _) ⟨wr.heap.size + 1, 0, none⟩ 1 1 [.slice ar l[k].1.length cr, .int .i64 (l[k].2 - 1)] rfl rfl (news2 hszA _ _) (one2 _ _ _ _) (by unfold maxLen; omega) (by omega) (by simp; omega) ?_)
            intro v' w5 ho5 hg5 _
            have hb5 : Below w2.heap.size w2 w5 := ((chain1 hb hbA).alloc (by omega) _).grown hg5 (by simp; omega) (fun q hq => ((ho4.alloc (.cells #[.slice ar l[k].1.length cr, .int .i64 (l[k].2 - 1)] 42)).lt q hq).1)
            have hz5 : wr.heap.size + 2 ≤ w5.heap.size := by have := hg5.size; simpa using this
            have hbox : w5.heap[wr.heap.size]? = some (.cells #[.slice ar l[k].1.length cr, .int .i64 l[k].2] 42 (0, 0)) := by
              rw [hg5.block wr.heap.size (by simp <;> omega) (fun e => by have := hgb _ e.symm; omega)]
              rw [Below.heap_alloc _ _ _ (by simp)]
              exact heap_alloc_new wr _
            have hnb := box_ne ho5 hbox (by omega)
            have g0 : w5.cell? ⟨wr.heap.size, 0, none⟩ = some (.slice ar l[k].1.length cr) := by simp [World.cell?, hbox]
            have g1 : w5.cell? ⟨wr.heap.size, 1, none⟩ = some (.int .i64 l[k].2) := by simp [World.cell?, hbox]
            have gf : w5.frozen? ⟨wr.heap.size, 1, none⟩ = false := by simp [World.frozen?, hbox]
            have ho6 := ho5.kept (w' := w5.setCell ⟨wr.heap.size, 1, none⟩ (.int .i64 1)) (row := some wr.heap.size) ⟨rfl, rfl, rfl, by simp [World.setCell], fun q hq hne => Below.heap_setCell _ _ _ _ (fun e => hne (by rw [e]))⟩ (.inr hnb)
            have hb6 : Below w2.heap.size w2 (w5.setCell ⟨wr.heap.size, 1, none⟩ (.int .i64 1)) := hb5.setCell (p := ⟨wr.heap.size, 1, none⟩) hz _
            obtain ⟨a6, c6, rfl⟩ := own_shape ho5
            have hz6 : (w5.setCell ⟨wr.heap.size, 1, none⟩ (.int .i64 1)).heap.size = w5.heap.size := by simp [World.setCell]
            clear ho5 hg5 hbox hnb ho4
            go_wp2_with (at_builtin; refine wpList_append_own _ rfl (.tmp 54) (.tmp 56) 22 rfl w2.heap.size 42 i0 _ 2 32 Try.underlying22 hi hj0 hj1 hj2 rfl (by decide) _ _ _ rfl (ho6.alloc _) ⟨w5.heap.size, 0, none⟩ 1 1 [.slice ar l[k].1.length cr, .int .i64 1] rfl rfl (news2 hz6 _ _) (one2 _ _ _ _) (by unfold maxLen; omega) (by omega) (by simp; omega) ?_)
            intro v7 w7 ho7 hg7 _
            have hb7 : Below w2.heap.size w2 w7 := (hb6.alloc (by omega) _).grown hg7 (by simp; omega) (fun q hq => ((ho6.alloc (.cells #[.slice ar l[k].1.length cr, .int .i64 1] 42)).lt q hq).1)
            clear hg7 ho6
            go_wp2_with fail
            go_roundw
            case rel =>
              refine ⟨k, by omega, by go_num, ?_, hb7⟩
              rw [backF_step at_ l k hlt, pc.out, HAcc.out, show acc ++ [(l[k].1, l[k].2 - 1), (l[k].1, 1)] = (acc ++ [(l[k].1, l[k].2 - 1)]) ++ [(l[k].1, 1)] by simp]
              exact ⟨_, by simpa using ho7, (he.push (x := (l[k].1, l[k].2 - 1)) sr').push (x := (l[k].1, 1)) sr'⟩
            case measure => simp [intOf]
          · have pc : Hid (piece at_ k l[k] = [l[k]]) := by show _ = _; unfold piece; rw [if_neg (by simp [hx])]
            have bat : ((k : Int) == at_) = true := by simpa using hat
            clear hat
            have hbA : Below wr.heap.size wr (wr.alloc (.cells #[.slice ar l[k].1.length cr, .int .i64 l[k].2] 42)) := (Below.refl _ _).alloc (Nat.le_refl _) _
            have hszA : (wr.alloc (.cells #[.slice ar l[k].1.length cr, .int .i64 l[k].2] 42)).heap.size = wr.heap.size + 1 := by simp
            have ho4 := own_next ho hbA
            have hgb : ∀ q, (Value.slice a3 acc.length c3).ownBlock = some q → q < wr.heap.size := fun q hq => (ho.lt q hq).2
            clear ho
            go_wp2_with (at_builtin; refine wpList_append_own _ rfl (.tmp 54) (.tmp 56) 22 rfl w2.heap.size 42 i0 _ 2 32 Try.underlying22 hi hj0 hj1 hj2 rfl (by decide) _ _ _ rfl (ho4.alloc _) ⟨wr.heap.size + 1, 0, none⟩ 1 1 [.slice ar l[k].1.length cr, .int .i64 l[k].2] rfl rfl (news2 hszA _ _) (one2 _ _ _ _) (by unfold maxLen; omega) (by omega) (by simp; omega) ?_)
            intro v' w5 ho5 hg5 _
            have hb5 : Below w2.heap.size w2 w5 := ((chain1 hb hbA).alloc (by omega) _).grown hg5 (by simp; omega) (fun q hq => ((ho4.alloc (.cells #[.slice ar l[k].1.length cr, .int .i64 l[k].2] 42)).lt q hq).1)
            clear hg5 ho4
            go_wp2_with fail
            go_roundw
            case rel => exact ⟨k, by omega, by go_num, by rw [backF_step at_ l k hlt, pc.out, HAcc.out]; exact ⟨_, by simpa using ho5, he.push sr'⟩, hb5⟩
            case measure => simp [intOf]
        · have pc : Hid (piece at_ k l[k] = [l[k]]) := by show _ = _; unfold piece; rw [if_neg (by simp [hat])]
          have bat : ((k : Int) == at_) = false := by simpa using hat
          have hbA : Below wr.heap.size wr (wr.alloc (.cells #[.slice ar l[k].1.length cr, .int .i64 l[k].2] 42)) := (Below.refl _ _).alloc (Nat.le_refl _) _
          have hszA : (wr.alloc (.cells #[.slice ar l[k].1.length cr, .int .i64 l[k].2] 42)).heap.size = wr.heap.size + 1 := by simp
          have ho4 := own_next ho hbA
          have hgb : ∀ q, (Value.slice a3 acc.length c3).ownBlock = some q → q < wr.heap.size := fun q hq => (ho.lt q hq).2
          clear ho
          go_wp2_with (at_builtin; refine wpList_append_own _ rfl (.tmp 54) (.tmp 56) 22 rfl w2.heap.size 42 i0 _ 2 32 Try.underlying22 hi hj0 hj1 hj2 rfl (by decide) _ _ _ rfl (ho4.alloc _) ⟨wr.heap.size + 1, 0, none⟩ 1 1 [.slice ar l[k].1.length cr, .int .i64 l[k].2] rfl rfl (news2 hszA _ _) (one2 _ _ _ _) (by unfold maxLen; omega) (by omega) (by simp; omega) ?_)
          intro v' w5 ho5 hg5 _
          have hb5 : Below w2.heap.size w2 w5 := ((chain1 hb hbA).alloc (by omega) _).grown hg5 (by simp; omega) (fun q hq => ((ho4.alloc (.cells #[.slice ar l[k].1.length cr, .int .i64 l[k].2] 42)).lt q hq).1)
          clear hg5 ho4
          go_wp2_with fail
          go_roundw
          case rel => exact ⟨k, by omega, by go_num, by rw [backF_step at_ l k hlt, pc.out, HAcc.out]; exact ⟨_, by simpa using ho5, he.push sr'⟩, hb5⟩
          case measure => simp [intOf]
      · have m0 : m = 0 := by omega
        subst m0
        rw [List.drop_zero] at HS
        obtain ⟨xs, ho, he⟩ := HS
        obtain ⟨a3, c3, rfl, z3⟩ := own_zsB ho rfl he hb
        have hlen := backF_len at_ l 0
        have z2' := z2.next hb
        have bw3 := chain1 bw hb
        clear ho he
        by_cases hbig : 1600 < (backF at_ 0 l).length
        · go_wp2_with fail
          go_ret
          exact ⟨rfl, bw3⟩
        · obtain ⟨o1, o2⟩ := HB.out (by omega)
          have cc := of_at a3 c3 (backF at_ 0 l) _ z3
          rw [o1, o2] at cc
          clear o1 o2 HB
          generalize backF at_ 0 l = bk at *
          go_wp2_with fail
          refine cc.mono ?_
          clear cc
          rintro e w4 ⟨v4, rfl, O4, hb4⟩
          obtain ⟨a4, c4, rfl, z4⟩ := O4.zs
          go_wp2_with fail
          refine (cb a2 c2 w4 (z2'.next hb4)).mono ?_
          rintro e w5 ⟨v5, rfl, O5, hb5⟩
          obtain ⟨a5, c5, rfl, z5⟩ := O5.zs
          have y2 := (z2'.next hb4).next hb5
          have y4 := z4.next hb5
          have bw5 := chain1 (chain1 bw3 hb4) hb5
          clear O4 O5 hb4 hb5 cb
          go_wp2_with fail
          refine (zWrong_at _ _ _ _ y2).mono ?_
          rintro e w6 ⟨rfl, hb6⟩
          rw [HW.out]
          go_wp2_with fail
          refine (same_eq _ _ _ _ _ _ (y4.next hb6) (y2.next hb6)).mono ?_
          rintro e w7 ⟨rfl, hb7⟩
          go_wp2_with fail
          refine (same_eq _ _ _ _ _ _ ((z5.next hb6).next hb7) ((y2.next hb6).next hb7)).mono ?_
          rintro e w8 ⟨rfl, hb8⟩
          go_wp2_with fail
          go_ret
          exact ⟨rfl, chain1 (chain1 (chain1 bw5 hb6) hb7) hb8⟩
  · have ez : ofZ l = [] := by simp [ofZ, hof]
    have hne : (ofE l != 0) = true := by simpa using hof
    have ca := fun W => of_at a cap l W
    simp only [ez] at ca
    go_enter Try.func7, Try.ntmps7
    go_wp2_with fail
    refine (alive_at _).mono ?_
    rintro e w1 ⟨rfl, hb1⟩
    go_wp2_with fail
    refine (ca w1 (h.next hb1)).mono ?_
    rintro e w2 ⟨v2, rfl, O2, hb2⟩
    obtain ⟨a2, c2, rfl, z2⟩ := O2.zs
    go_wp2_with fail
    go_ret
    exact ⟨rfl, chain1 hb1 hb2⟩
end Go.Proofs.Ytfgpfnhbcbhkfab
