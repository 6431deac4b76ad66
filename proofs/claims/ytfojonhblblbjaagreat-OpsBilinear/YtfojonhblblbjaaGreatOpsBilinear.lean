/- The walk of tidelaw4.OpsBilinear. -/
import Derived.Test.YtfojonhblblbjaaGreatB7
import Derived.Test.YtfojonhblblbjaaGreatB8
import Derived.Laws.EntriesVeiled
namespace Go.Proofs.YtfojonhblblbjaaGreat
open Go.RowKit Go.Lib Go.Shelf

set_option maxHeartbeats 400000 in
theorem bil1_at (left right : List Int) (x : Ex) (la : Option Addr) (lcap : Nat) (ra : Option Addr) (rcap : Nat) (xa : Option Addr) (xcap : Nat) (lb rb xb : Nat) (a : Option Addr) (ca : Nat) (p : List Zp) (b : Option Addr) (cb : Nat) (q : List Zp) (W : World) (c0 : W.cell? ⟨lb, 0, none⟩ = some (.slice la left.length lcap)) (c1 : W.cell? ⟨rb, 0, none⟩ = some (.slice ra right.length rcap)) (S : Six W xb 0 x.k x.v x.c xa x.ks.length xcap)
    (hcl : IsAt W.heap.size W la left) (hcr : IsAt W.heap.size W ra right) (hk : KsAt W.heap.size W xa x.ks) (h : ZsAt W a p) (h' : ZsAt W b q) (hll : left.length ≤ 100000000000000) (hrl : right.length ≤ 100000000000000) :
    Calls Tryz.prog 27 #[.slice a p.length ca, .slice b q.length cb, .pointer (some ⟨lb, 0, none⟩), .pointer (some ⟨rb, 0, none⟩), .pointer (some ⟨xb, 0, none⟩)] W fun e w' => ∃ v, e = .returned (.tuple #[v, .bool (pairE 0 left right x p q == 0)]) ∧ OwnZ W.heap.size w' v (pairZ 0 left right x p q) ∧ Below W.heap.size W w' := by
  obtain ⟨s0, s1, s2, s3, s4, s5⟩ := S
  simp only [Nat.zero_add] at s1 s2 s3 s4 s5
  have con := join_at left right x la lcap ra rcap xa xcap a ca p b cb q W hcl hcr hk h h' hll hrl
  generalize pairE 0 left right x p q = t at *
  generalize pairZ 0 left right x p q = f at *
  go_enter Tryz.func27, Tryz.ntmps27
  go_wp2_with fail
  refine con.mono ?_
  rintro e w1 ⟨v, rfl, O, hb⟩
  obtain ⟨a1, c1, rfl, _⟩ := O.zs
  go_wp2_with fail
  exact bodyPost_ret (v := .tuple #[.slice a1 f.length c1, .bool (t == 0)]) (by simp [results, Tryz.results27, go_sem]) rfl ⟨_, rfl, O, hb⟩

set_option maxRecDepth 100000 in
set_option maxHeartbeats 8000000 in
theorem bilinear_walk (la : Option Addr) (lcap : Nat) (left : List Int) (ra : Option Addr) (rcap : Nat) (right : List Int) (x : Ex) (xa : Option Addr) (xcap : Nat) (a : Option Addr) (acap : Nat) (l1 : List Zp) (b : Option Addr) (bcap : Nat) (l2 : List Zp) (c : Option Addr) (ccap : Nat) (l3 : List Zp) (d : Option Addr) (dcap : Nat) (l4 : List Zp) (w : World)
    (hcl : IsAt w.heap.size w la left) (hcr : IsAt w.heap.size w ra right) (hx : KsAt w.heap.size w xa x.ks) (z1 : ZsAt w a l1) (z2 : ZsAt w b l2) (z3 : ZsAt w c l3) (z4 : ZsAt w d l4) (n1 : a = none → acap = 0) (_n2 : b = none → bcap = 0) (n3 : c = none → ccap = 0) (_n4 : d = none → dcap = 0) (hll : left.length ≤ 100000000000000) (hrl : right.length ≤ 100000000000000) :
    Calls Tryz.prog 7 #[.slice la left.length lcap, .slice ra right.length rcap, exV x.k x.v x.c xa x.ks.length xcap, .slice a l1.length acap, .slice b l2.length bcap, .slice c l3.length ccap, .slice d l4.length dcap] w fun e w' => e = .returned (.bool true) ∧ Below w.heap.size w w' := by
  have h1 : Below w.heap.size w (w.alloc (.cells #[.slice la left.length lcap] 22)) := (Below.refl _ _).alloc (Nat.le_refl _) _
  have c1 : (w.alloc (.cells #[.slice la left.length lcap] 22)).cell? ⟨w.heap.size, 0, none⟩ = some (.slice la left.length lcap) := by simp
  have e1 : (w.alloc (.cells #[.slice la left.length lcap] 22)).heap.size = w.heap.size + 1 := by simp
  go_enter Tryz.func7, Tryz.ntmps7
  go_wp2_with fail
  generalize w.alloc (.cells #[.slice la left.length lcap] 22) = w1 at *
  have h2 : Below w1.heap.size w1 (w1.alloc (.cells #[.slice ra right.length rcap] 22)) := (Below.refl _ _).alloc (Nat.le_refl _) _
  have c2 : (w1.alloc (.cells #[.slice ra right.length rcap] 22)).cell? ⟨w1.heap.size, 0, none⟩ = some (.slice ra right.length rcap) := by simp
  have e2 : (w1.alloc (.cells #[.slice ra right.length rcap] 22)).heap.size = w1.heap.size + 1 := by simp
  have c1 := (h2.cell (p := ⟨w.heap.size, 0, none⟩) (by show w.heap.size < _; omega)).trans c1
  generalize w1.alloc (.cells #[.slice ra right.length rcap] 22) = w2 at *
  have h3 : Below w2.heap.size w2 (w2.alloc (.cells #[.int .i64 x.k, .int .i64 x.v.1, .int .i64 x.v.2.1, .string x.v.2.2, .int .i64 x.c, .slice xa x.ks.length xcap] 27)) := (Below.refl _ _).alloc (Nat.le_refl _) _
  have S3 := Six.new w2 x.k x.v x.c xa x.ks.length xcap 27
  have e3 : (w2.alloc (.cells #[.int .i64 x.k, .int .i64 x.v.1, .int .i64 x.v.2.1, .string x.v.2.2, .int .i64 x.c, .slice xa x.ks.length xcap] 27)).heap.size = w2.heap.size + 1 := by simp
  have c1 := (h3.cell (p := ⟨w.heap.size, 0, none⟩) (by show w.heap.size < _; omega)).trans c1
  have c2 := (h3.cell (p := ⟨w1.heap.size, 0, none⟩) (by show w1.heap.size < _; omega)).trans c2
  generalize w2.alloc (.cells #[.int .i64 x.k, .int .i64 x.v.1, .int .i64 x.v.2.1, .string x.v.2.2, .int .i64 x.c, .slice xa x.ks.length xcap] 27) = w3 at *
  have hA3 := chain (chain h1 h2) h3
  have e1' : w1.heap.size = w.heap.size + 1 := by omega
  have e2' : w2.heap.size = w.heap.size + 1 + 1 := by omega
  rw [e1'] at c2
  rw [e2'] at S3
  have JF : Hid (∀ (W : World) (a b : Option Addr) (ca cb : Nat) (p q : List Zp), Below w3.heap.size w3 W → ZsAt W a p → ZsAt W b q → Calls Tryz.prog 27 #[.slice a p.length ca, .slice b q.length cb, .pointer (some ⟨w.heap.size, 0, none⟩), .pointer (some ⟨w.heap.size + 1, 0, none⟩), .pointer (some ⟨w.heap.size + 1 + 1, 0, none⟩)] W fun e w' => ∃ v, e = .returned (.tuple #[v, .bool (pairE 0 left right x p q == 0)]) ∧ OwnZ W.heap.size w' v (pairZ 0 left right x p q) ∧ Below W.heap.size W w') := fun W a b ca cb p q hW ha hb => by
    have hE := chain hA3 hW
    exact bil1_at left right x la lcap ra rcap xa xcap _ _ _ a ca p b cb q W ((hW.cell (p := ⟨w.heap.size, 0, none⟩) (by show w.heap.size < _; omega)).trans c1) ((hW.cell (p := ⟨w.heap.size + 1, 0, none⟩) (by show w.heap.size + 1 < _; omega)).trans c2) (S3.next hW (by omega)) ((hcl.next hE (Nat.le_refl _)).up hE.size) ((hcr.next hE (Nat.le_refl _)).up hE.size) ((KsAt.next hE (Nat.le_refl _) hx).up hE.size) ha hb hll hrl
  refine (alive_at w3).mono ?_
  rintro e w4 ⟨rfl, hb4⟩
  have hA4 := chain hA3 hb4
  have con := plus_at a b acap bcap l1 l2 w4 (z1.next hA4) (z2.next hA4) n1
  generalize ht1 : (bothE 1 l1 l2 == 0) = t1 at con
  generalize hs1 : bothZ 1 l1 l2 = s1 at con
  have HT1 : Hid ((bothE 1 l1 l2 == 0) = t1) := ht1
  have HS1 : Hid (bothZ 1 l1 l2 = s1) := hs1
  clear ht1 hs1 c1 c2 S3 h1 h2 h3
  dsimp only
  go_wp2_with fail
  refine con.mono ?_
  rintro e w5 ⟨v5, rfl, O5, hb5⟩
  obtain ⟨a5, c5, rfl, zs5⟩ := O5.zs
  clear con O5
  have hA5 := chain hA4 hb5
  have con := plus_at c d ccap dcap l3 l4 w5 (z3.next hA5) (z4.next hA5) n3
  generalize ht2 : (bothE 1 l3 l4 == 0) = t2 at con
  generalize hs2 : bothZ 1 l3 l4 = s2 at con
  have HT2 : Hid ((bothE 1 l3 l4 == 0) = t2) := ht2
  have HS2 : Hid (bothZ 1 l3 l4 = s2) := hs2
  clear ht2 hs2
  dsimp only
  go_wp2_with fail
  refine con.mono ?_
  rintro e w6 ⟨v6, rfl, O6, hb6⟩
  obtain ⟨a6, c6, rfl, zs6⟩ := O6.zs
  clear con O6
  have hA6 := chain hA5 hb6
  have zs5' := zs5.next hb6
  have H36 : Hid (Below w3.heap.size w3 w6) := chain (chain hb4 hb5) hb6
  clear zs5 hb4 hb5 hb6
  dsimp only
  cases t1 with
  | false =>
    go_wp2_with fail
    go_ret
    exact ⟨rfl, hA6⟩
  | true =>
  cases t2 with
  | false =>
    go_wp2_with fail
    go_ret
    exact ⟨rfl, hA6⟩
  | true =>
  go_wp2_with fail
  have con := JF.out w6 a5 a6 c5 c6 s1 s2 H36.out zs5' zs6
  generalize ht : (pairE 0 left right x s1 s2 == 0) = b0 at con
  generalize hs : pairZ 0 left right x s1 s2 = j0 at con
  have HB0 : Hid ((pairE 0 left right x s1 s2 == 0) = b0) := ht
  have HJ0 : Hid (pairZ 0 left right x s1 s2 = j0) := hs
  clear ht hs
  refine con.mono ?_
  rintro e w7 ⟨v7, rfl, O7, hb7⟩
  obtain ⟨y0, d0, rfl, zj0, nj0⟩ := O7.zs2
  clear con O7
  have hA7 := chain hA6 hb7
  have H37 : Hid (Below w3.heap.size w3 w7) := chain H36.out hb7
  dsimp only
  go_wp2_with fail
  have con := JF.out w7 a c acap ccap l1 l3 H37.out (z1.next hA7) (z3.next hA7)
  generalize ht : (pairE 0 left right x l1 l3 == 0) = b1 at con
  generalize hs : pairZ 0 left right x l1 l3 = j1 at con
  have HB1 : Hid ((pairE 0 left right x l1 l3 == 0) = b1) := ht
  have HJ1 : Hid (pairZ 0 left right x l1 l3 = j1) := hs
  clear ht hs
  refine con.mono ?_
  rintro e w8 ⟨v8, rfl, O8, hb8⟩
  obtain ⟨y1, d1, rfl, zj1, nj1⟩ := O8.zs2
  clear con O8
  have hA8 := chain hA7 hb8
  have H38 : Hid (Below w3.heap.size w3 w8) := chain H37.out hb8
  have zj0 := zj0.next hb8
  dsimp only
  go_wp2_with fail
  have con := JF.out w8 a d acap dcap l1 l4 H38.out (z1.next hA8) (z4.next hA8)
  generalize ht : (pairE 0 left right x l1 l4 == 0) = b2 at con
  generalize hs : pairZ 0 left right x l1 l4 = j2 at con
  have HB2 : Hid ((pairE 0 left right x l1 l4 == 0) = b2) := ht
  have HJ2 : Hid (pairZ 0 left right x l1 l4 = j2) := hs
  clear ht hs
  refine con.mono ?_
  rintro e w9 ⟨v9, rfl, O9, hb9⟩
  obtain ⟨y2, d2, rfl, zj2, nj2⟩ := O9.zs2
  clear con O9
  have hA9 := chain hA8 hb9
  have H39 : Hid (Below w3.heap.size w3 w9) := chain H38.out hb9
  have zj0 := zj0.next hb9
  have zj1 := zj1.next hb9
  dsimp only
  go_wp2_with fail
  have con := JF.out w9 b c bcap ccap l2 l3 H39.out (z2.next hA9) (z3.next hA9)
  generalize ht : (pairE 0 left right x l2 l3 == 0) = b3 at con
  generalize hs : pairZ 0 left right x l2 l3 = j3 at con
  have HB3 : Hid ((pairE 0 left right x l2 l3 == 0) = b3) := ht
  have HJ3 : Hid (pairZ 0 left right x l2 l3 = j3) := hs
  clear ht hs
  refine con.mono ?_
  rintro e w10 ⟨v10, rfl, O10, hb10⟩
  obtain ⟨y3, d3, rfl, zj3, nj3⟩ := O10.zs2
  clear con O10
  have hA10 := chain hA9 hb10
  have H310 : Hid (Below w3.heap.size w3 w10) := chain H39.out hb10
  have zj0 := zj0.next hb10
  have zj1 := zj1.next hb10
  have zj2 := zj2.next hb10
  dsimp only
  go_wp2_with fail
  have con := JF.out w10 b d bcap dcap l2 l4 H310.out (z2.next hA10) (z4.next hA10)
  generalize ht : (pairE 0 left right x l2 l4 == 0) = b4 at con
  generalize hs : pairZ 0 left right x l2 l4 = j4 at con
  have HB4 : Hid ((pairE 0 left right x l2 l4 == 0) = b4) := ht
  have HJ4 : Hid (pairZ 0 left right x l2 l4 = j4) := hs
  clear ht hs
  refine con.mono ?_
  rintro e w11 ⟨v11, rfl, O11, hb11⟩
  obtain ⟨y4, d4, rfl, zj4, nj4⟩ := O11.zs2
  clear con O11
  have hA11 := chain hA10 hb11
  have H311 : Hid (Below w3.heap.size w3 w11) := chain H310.out hb11
  have zj0 := zj0.next hb11
  have zj1 := zj1.next hb11
  have zj2 := zj2.next hb11
  have zj3 := zj3.next hb11
  dsimp only
  cases b0 with
  | false =>
    go_wp2_with fail
    go_ret
    exact ⟨rfl, hA11⟩
  | true =>
  cases b1 with
  | false =>
    go_wp2_with fail
    go_ret
    exact ⟨rfl, hA11⟩
  | true =>
  cases b2 with
  | false =>
    go_wp2_with fail
    go_ret
    exact ⟨rfl, hA11⟩
  | true =>
  cases b3 with
  | false =>
    go_wp2_with fail
    go_ret
    exact ⟨rfl, hA11⟩
  | true =>
  cases b4 with
  | false =>
    go_wp2_with fail
    go_ret
    exact ⟨rfl, hA11⟩
  | true =>
  go_wp2_with fail
  have h12 : Below w11.heap.size w11 (w11.alloc (.cells #[.slice y1 j1.length d1, .slice y2 j2.length d2, .slice y3 j3.length d3, .slice y4 j4.length d4] 28)) := (Below.refl _ _).alloc (Nat.le_refl _) _
  have q12 := heap_new w11 #[.slice y1 j1.length d1, .slice y2 j2.length d2, .slice y3 j3.length d3, .slice y4 j4.length d4] 28
  generalize w11.alloc (.cells #[.slice y1 j1.length d1, .slice y2 j2.length d2, .slice y3 j3.length d3, .slice y4 j4.length d4] 28) = w12 at *
  have l12 := lt_of_heap q12
  have hA12 := chain hA11 h12
  have zj0 := zj0.next h12
  have HF : Hid (∀ k (hk : k < 4), ∃ y d, w12.cell? ⟨w11.heap.size, k, none⟩ = some (.slice y ([j1, j2, j3, j4][k]'hk).length d) ∧ ZsAt w12 y ([j1, j2, j3, j4][k]'hk)) := fun k hk => by
    match k, hk with
    | 0, _ => exact ⟨_, _, cell_of (i := 0) q12 rfl, zj1.next h12⟩
    | 1, _ => exact ⟨_, _, cell_of (i := 1) q12 rfl, zj2.next h12⟩
    | 2, _ => exact ⟨_, _, cell_of (i := 2) q12 rfl, zj3.next h12⟩
    | 3, _ => exact ⟨_, _, cell_of (i := 3) q12 rfl, zj4.next h12⟩
  have FIN : Hid (∀ s, IsSet s → (∀ q, wt s q = wts 4 [j1, j2, j3, j4] q) → s = j0) := fun s hs hw => by
    have f1 := HT1.out
    have f2 := HT2.out
    have g0 := HB0.out
    have g1 := HB1.out
    have g2 := HB2.out
    have g3 := HB3.out
    have g4 := HB4.out
    simp only [beq_iff_eq] at f1 f2 g0 g1 g2 g3 g4
    have := HS1.out
    have := HS2.out
    have := HJ0.out
    have := HJ1.out
    have := HJ2.out
    have := HJ3.out
    have := HJ4.out
    subst s1 s2 j0 j1 j2 j3 j4
    exact bilinear_fact f1 f2 g0 g1 g2 g3 g4 hs hw
  clear q12 zj1 zj2 zj3 zj4
  go_loopw [30, 114] (fun v i wr => ∃ k : Nat, k ≤ 4 ∧ i = .int .i64 k ∧ ∃ (sa : Option Addr) (sc : Nat) (s : List Zp), v = .slice sa s.length sc ∧ ZsAt wr sa s ∧ (sa = none → sc = 0) ∧ Hid (IsSet s ∧ ∀ q, wt s q = wts k [j1, j2, j3, j4] q) ∧ Below w12.heap.size w12 wr) (fun _ i _ => 4 - (intOf i).toNat)
  case atStart => exact ⟨0, by omega, rfl, none, 0, [], rfl, ⟨by simp, .inl rfl⟩, fun _ => rfl, ⟨canon_set [], fun q => rfl⟩, Below.refl _ _⟩
  case round =>
    obtain ⟨k, hk, rfl, sa, sc, s, rfl, zs, ns, HS, hb⟩ := hrel
    have hA13 := chain hA12 hb
    by_cases hlt : k < 4
    · obtain ⟨y, dd, cy, zy⟩ := HF.out k hlt
      have cy := (hb.cell (p := ⟨w11.heap.size, k, none⟩) l12).trans cy
      have hkz : (k : Int) < 4 := by omega
      have con := plus_at sa y sc dd s ([j1, j2, j3, j4][k]'hlt) wr zs (zy.next hb) ns
      have HW : Hid (bothE 1 s ([j1, j2, j3, j4][k]'hlt) = 0 → IsSet (bothZ 1 s ([j1, j2, j3, j4][k]'hlt)) ∧ ∀ q, wt (bothZ 1 s ([j1, j2, j3, j4][k]'hlt)) q = wts (k + 1) [j1, j2, j3, j4] q) := fun e => by
        obtain ⟨_, _, b3, b4⟩ := bothE_ok e
        refine ⟨b3, fun q => ?_⟩
        rw [b4, HS.out.2]; exact (wts_step k [j1, j2, j3, j4] q hlt).symm
      generalize bothZ 1 s ([j1, j2, j3, j4][k]'hlt) = s' at *
      generalize ht : (bothE 1 s ([j1, j2, j3, j4][k]'hlt) == 0) = t at con
      have HT : Hid ((bothE 1 s ([j1, j2, j3, j4][k]'hlt) == 0) = t) := ht
      clear ht
      generalize ([j1, j2, j3, j4][k]'hlt) = jk at *
      cases t with
      | false =>
        go_wp2_with fail
        refine con.mono ?_
        rintro e w13 ⟨v13, rfl, O13, hb13⟩
        obtain ⟨a13, c13, rfl, _⟩ := O13.zs
        clear con
        dsimp only
        go_wp2_with fail
        go_ret
        exact ⟨rfl, chain hA13 hb13⟩
      | true =>
        go_wp2_with fail
        refine con.mono ?_
        rintro e w13 ⟨v13, rfl, O13, hb13⟩
        obtain ⟨a13, c13, rfl, zs13, n13⟩ := O13.zs2
        clear con O13
        have hb14 := chain hb hb13
        dsimp only
        go_wp2_with fail
        go_roundw
        case rel => exact ⟨k + 1, by omega, by go_num, a13, c13, s', rfl, zs13, n13, HW.out (by simpa using HT.out), hb14⟩
        case measure => simp [intOf]; omega
    · have e : k = 4 := by omega
      subst e
      have e := FIN.out s HS.out.1 HS.out.2
      subst e
      have con := same_eq y0 sa d0 sc s wr (zj0.next hb) zs
      go_wp2_with fail
      refine con.mono ?_
      rintro e w13 ⟨rfl, hb13⟩
      clear con
      dsimp only
      go_wp2_with fail
      go_ret
      exact ⟨rfl, chain hA13 hb13⟩
end Go.Proofs.YtfojonhblblbjaaGreat
