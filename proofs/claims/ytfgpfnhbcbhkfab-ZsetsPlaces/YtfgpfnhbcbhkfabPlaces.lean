/- The walk of tidelaw2.ZsetsPlaces. -/
import Derived.Test.YtfgpfnhbcbhkfabZH
namespace Go.Proofs.Ytfgpfnhbcbhkfab
open Go.RowKit Go.Lib Go.Shelf

/-- An append to a slice of the call's own, of whatever other slice. -/
theorem wpList_append_opt {P : Program} {w : World} {ops : Array Oper} {rest : List Oper} {o : Oper} {a : Act} {Q : Exit → Act → World → Prop} (hgd : o.guard = none) (s x : Operand) (t : TypeId)
    (ho : o.op = .call { callee := .builtin .append, args := #[s, x], argTypes := #[t, t] })
    (base : Nat) (e : TypeId) (i : TypeInfo) (z : Value) (size bytes : Nat) (ht : P.underlying t = some (.slice e)) (hi : P.info? e = some i) (hz : i.zero = some z)
    (hsize : i.size = size) (hby : i.bytes = bytes) (hzs : z.cells.size = size) (hsz : 0 < size)
    (v : Value) (n : Nat) (xs : List Value) (hs : a.eval s = v) (hown : w.ownsRow base e size v n xs)
    (ao : Option Addr) (m c : Nat) (news : List Value) (hx : a.eval x = .slice ao m c) (hn0 : ao = none → m = 0 ∧ c = 0) (hl : news.length = m * size) (hnews : ∀ ad, ao = some ad → ∀ j u, news[j]? = some u → w.cell? (ad.add j) = some u) (h1 : ∀ u ∈ news, u.oneCell' = true)
    (h63 : n + m ≤ maxLen) (hbytes : (n + m) * bytes ≤ 140737488355328) (hbase : base ≤ w.heap.size)
    (h : ∀ v' w', w'.ownsRow base e size v' (n + m) (xs ++ news) → w.grownBy w' v.ownBlock → wpList P ops Q rest (a.put o.dst v') w') : wpList P ops Q (o :: rest) a w := by
  cases ao with
  | none =>
    obtain ⟨rfl, rfl⟩ := hn0 rfl
    have e0 : news = [] := List.eq_nil_of_length_eq_zero (by simpa using hl)
    subst e0
    refine wpList_append_own_none hgd s x t ho base e i size ht hi v n xs hs hown hx ?_
    exact h v w (by simpa using hown) ⟨rfl, rfl, rfl, Nat.le_refl _, fun _ _ _ => rfl⟩
  | some ad => exact wpList_append_own w hgd s x t ho base e i z size bytes ht hi hz hsize hby hzs hsz v n xs hs hown ad m c news hx hl (hnews ad rfl) h1 h63 hbytes hbase fun v' w' g1 g2 _ => h v' w' g1 g2
theorem encB_one {W : World} {a : Option Addr} {cap : Nat} {x : Zp} (h : SlAt W a x.1) : EncB W [.slice a x.1.length cap, .int .i64 x.2] [x] := by
  have := (show EncB W [] [] from ⟨rfl, fun i hi => by simp at hi⟩).push (cap := cap) h
  simpa using this

set_option maxHeartbeats 8000000 in
theorem places_walk (a : Option Addr) (ca : Nat) (l : List Zp) (b : Option Addr) (cb : Nat) (l' : List Zp) (c : Option Addr) (cr : Nat) (r : List Vl) (w : World) (h : ZsAt w a l) (h' : ZsAt w b l') (h'' : SlAt w c r) (na : a = none → ca = 0) (nb : b = none → cb = 0) :
    Calls Try.prog 6 #[.slice a l.length ca, .slice b l'.length cb, .slice c r.length cr] w fun e w' => e = .returned (.bool true) ∧ Below w.heap.size w w' := by
  by_cases hs : [l, l'].all smallB = true
  · have HS : Hid ([l, l'].all smallB = true) := hs
    by_cases hr : wrongRowF r = 0
    · have HR : Hid (wrongRowF r = 0) := hr
      have hs' : smallB l = true ∧ smallB l' = true := by simpa using hs
      have ga := small_good hs'.1
      have gb := small_good hs'.2
      obtain ⟨b1, -, gs, ss, ws⟩ := good_both ga gb (by omega) (t := 1) (.inl rfl)
      obtain ⟨-, gp, sp, wp⟩ := good_set ga (by omega) posF rfl (fun x => by unfold posF; split <;> omega)
      obtain ⟨-, gd, sd, wd⟩ := good_set ga (by omega) oneF rfl (fun x => by unfold oneF; split <;> omega)
      have W0 := ga.wrong (by omega)
      have W1 : Hid (wrongZ (bothZ 1 l l') = 0) := gs.wrong (by omega)
      have W2 : Hid (wrongZ (setZ posF l) = 0) := gp.wrong (by omega)
      have W3 : Hid (wrongZ (setZ oneF l) = 0) := gd.wrong (by omega)
      have LA := ga.len
      have LB := gb.len
      have LS := gs.len
      have LP := gp.len
      have LD := gd.len
      have RA := ga.rise
      have RB := gb.rise
      have RS := gs.rise
      have RP := gp.rise
      have RD := gd.rise
      have BA := ga.wt
      have BB := gb.wt
      have k0 := fun W hx hy => add_at a b ca cb l l' W hx hy na
      have k1 := fun W hx => positive_at a ca l W hx
      have k2 := fun W hx => distinct_at a ca l W hx
      simp only [b1] at k0
      simp only [W0] at k1 k2
      clear hs hr hs' ga gb gs ss gp sp gd sd b1 W0
      have WS : Hid (∀ q, wt (bothZ 1 l l') q = wt l q + 1 * wt l' q) := ws
      have WP : Hid (∀ q, wt (setZ posF l) q = posF (wt l q)) := wp
      have WD : Hid (∀ q, wt (setZ oneF l) q = oneF (wt l q)) := wd
      clear ws wp wd
      generalize bothZ 1 l l' = s at *
      generalize setZ posF l = p at *
      generalize setZ oneF l = d at *
      obtain ⟨i0, hi, hj0, hj1, hj2⟩ := info_parts Try.info42
      go_enter Try.func6, Try.ntmps6
      go_wp2_with fail
      refine (alive_at _).mono ?_
      rintro e w1 ⟨rfl, hb1⟩
      have zA := h.next hb1
      have zB := h'.next hb1
      have zR := h''.next hb1
      clear h h' h''
      have bS : Below w1.heap.size w1 (w1.alloc (.cells #[.slice a l.length ca, .slice b l'.length cb] 22)) := (Below.refl _ _).alloc (Nat.le_refl _) _
      have st : Sets (w1.alloc (.cells #[.slice a l.length ca, .slice b l'.length cb] 22)) w1.heap.size [l, l'] := by
        refine ⟨by simp, fun k hk => ?_⟩
        have hk' : k < 2 := hk
        match k, hk' with
        | 0, _ => exact ⟨a, ca, by simp, zA.next bS⟩
        | 1, _ => exact ⟨b, cb, by simp, zB.next bS⟩
      have sc := small_at w1.heap.size [l, l'] _ st (by simp)
      rw [HS.out] at sc
      have el : [l, l'].length = 2 := rfl
      rw [el] at sc
      clear st el
      replace zA := zA.next bS
      replace zB := zB.next bS
      replace zR := zR.next bS
      have bw := chain1 hb1 bS
      clear hb1 bS
      go_wp2_with fail
      refine sc.mono ?_
      clear sc
      rintro e w2 ⟨rfl, hb2⟩
      replace zA := zA.next hb2
      replace zB := zB.next hb2
      replace zR := zR.next hb2
      replace bw := chain1 bw hb2
      clear hb2
      go_wp2_with fail
      refine (refRow_at _ _ _ _ zR).mono ?_
      rintro e w3 ⟨rfl, hb3⟩
      rw [HR.out]
      replace zA := zA.next hb3
      replace zB := zB.next hb3
      replace zR := zR.next hb3
      replace bw := chain1 bw hb3
      clear hb3
      go_wp2_with fail
      refine (k0 _ zA zB).mono ?_
      rintro e w4 ⟨v4, rfl, O4, hb4⟩
      obtain ⟨a4, c4, rfl, zS, n4⟩ := O4.zs2
      replace zA := zA.next hb4
      replace zB := zB.next hb4
      replace zR := zR.next hb4
      replace bw := chain1 bw hb4
      clear hb4 O4
      go_wp2_with fail
      refine (k1 _ zA).mono ?_
      rintro e w5 ⟨v5, rfl, O5, hb5⟩
      obtain ⟨a5, c5, rfl, zP, n5⟩ := O5.zs2
      replace zA := zA.next hb5
      replace zB := zB.next hb5
      replace zR := zR.next hb5
      replace zS := zS.next hb5
      replace bw := chain1 bw hb5
      clear hb5 O5
      go_wp2_with fail
      refine (k2 _ zA).mono ?_
      rintro e w6 ⟨v6, rfl, O6, hb6⟩
      obtain ⟨a6, c6, rfl, zD, n6⟩ := O6.zs2
      replace zA := zA.next hb6
      replace zB := zB.next hb6
      replace zR := zR.next hb6
      replace zS := zS.next hb6
      replace zP := zP.next hb6
      replace bw := chain1 bw hb6
      clear hb6 O6 k0 k1 k2
      go_wp2_with fail
      refine (zWrong_at _ _ _ _ zS).mono ?_
      rintro e w7 ⟨rfl, hb7⟩
      rw [W1.out]
      replace zA := zA.next hb7
      replace zB := zB.next hb7
      replace zR := zR.next hb7
      replace zS := zS.next hb7
      replace zP := zP.next hb7
      replace zD := zD.next hb7
      replace bw := chain1 bw hb7
      clear hb7
      go_wp2_with fail
      refine (zWrong_at _ _ _ _ zP).mono ?_
      rintro e w8 ⟨rfl, hb8⟩
      rw [W2.out]
      replace zA := zA.next hb8
      replace zB := zB.next hb8
      replace zR := zR.next hb8
      replace zS := zS.next hb8
      replace zP := zP.next hb8
      replace zD := zD.next hb8
      replace bw := chain1 bw hb8
      clear hb8
      go_wp2_with fail
      refine (zWrong_at _ _ _ _ zD).mono ?_
      rintro e w9 ⟨rfl, hb9⟩
      rw [W3.out]
      replace zA := zA.next hb9
      replace zB := zB.next hb9
      replace zR := zR.next hb9
      replace zS := zS.next hb9
      replace zP := zP.next hb9
      replace zD := zD.next hb9
      replace bw := chain1 bw hb9
      clear hb9
      obtain ⟨nA, eA, oA, eA0, cA⟩ := src_of zA
      obtain ⟨nB, eB, oB, eB0, cB⟩ := src_of zB
      have nA0 : a = none → l.length = 0 ∧ ca = 0 := fun e => ⟨by rw [eA0 e]; rfl, na e⟩
      have nB0 : b = none → l'.length = 0 ∧ cb = 0 := fun e => ⟨by rw [eB0 e]; rfl, nb e⟩
      go_wp2_with (at_builtin; refine wpList_append_opt rfl (.tmp 70) (.tmp 71) 22 rfl w9.heap.size 42 i0 _ 2 32 Try.underlying22 hi hj0 hj1 hj2 rfl (by decide) _ _ _ rfl (World.ownsRow_made w9 #[] 0 (Nat.le_refl _) (Nat.zero_le _) (by simp)) a l.length ca nA rfl nA0 eA.1 (fun ad e j u hj => Lib.cell?_alloc_some _ (cA ad e j u hj)) oA (by unfold maxLen; omega) (by omega) (by simp) ?_)
      intro v10 w10 ho10 hg10
      have hb10 : Below w9.heap.size w9 w10 := ((Below.refl _ _).alloc (Nat.le_refl _) _).grown hg10 (by simp) (by simp [Value.ownBlock])
      clear hg10
      go_wp2_with (at_builtin; refine wpList_append_opt rfl (.tmp 72) (.tmp 73) 22 rfl w9.heap.size 42 i0 _ 2 32 Try.underlying22 hi hj0 hj1 hj2 rfl (by decide) _ _ _ rfl ho10 b l'.length cb nB rfl nB0 eB.1 (fun ad e j u hj => (hb10.cell (World.block_lt_of_cell? _ _ (cB ad e j u hj))).trans (cB ad e j u hj)) oB (by unfold maxLen; omega) (by omega) hb10.size ?_)
      intro v11 w11 ho11 hg11
      have hb11 : Below w9.heap.size w9 w11 := hb10.grown hg11 hb10.size (fun q hq => (ho10.lt q hq).1)
      clear hg11 ho10
      have hz11 := hb11.size
      go_wp2_with (at_builtin; refine wpList_append_own _ rfl (.tmp 74) (.tmp 77) 22 rfl w9.heap.size 42 i0 _ 2 32 Try.underlying22 hi hj0 hj1 hj2 rfl (by decide) _ _ _ rfl (ho11.alloc _) ⟨w11.heap.size, 0, none⟩ 1 1 [.slice c r.length cr, .int .i64 0] rfl rfl (news2 rfl _ _) (one2 _ _ _ _) (by unfold maxLen; omega) (by omega) (by simp; omega) ?_)
      intro v12 w12 ho12 hg12 _
      have hb12 : Below w9.heap.size w9 w12 := (hb11.alloc hz11 _).grown hg12 (by simp; omega) (fun q hq => ((ho11.alloc (.cells #[.slice c r.length cr, .int .i64 0] 42)).lt q hq).1)
      clear hg12 ho11
      have eX := encB_append (encB_append (encB_append (show EncB w9 [] [] from ⟨rfl, fun i hi => by simp at hi⟩) eA) eB) (encB_one (cap := cr) (x := (r, 0)) zR)
      obtain ⟨aX, cX, rfl, zX⟩ := own_zsB ho12 (l := [] ++ l ++ l' ++ [(r, 0)]) (by simp <;> omega) (by simpa using eX) hb12
      have lenX : ([] ++ l ++ l' ++ [(r, (0 : Int))]).length ≤ 300 := by simp; omega
      have e12 := zX
      replace zA := zA.next hb12
      replace zB := zB.next hb12
      replace zS := zS.next hb12
      replace zP := zP.next hb12
      replace zD := zD.next hb12
      replace bw := chain1 bw hb12
      clear hb12 hb11 hb10 ho12 eA eB cA cB oA oB eX e12 zR eA0 eB0 nA0 nB0 hz11
      generalize [] ++ l ++ l' ++ [(r, (0 : Int))] = X at *
      go_wp2_with fail
      go_loopw [80] (fun i wr => ∃ k : Nat, k ≤ X.length ∧ i = .int .i64 k ∧ Below w12.heap.size w12 wr) (fun i _ => X.length - (intOf i).toNat)
      case atStart => exact ⟨0, Nat.zero_le _, rfl, Below.refl _ _⟩
      case round =>
        obtain ⟨k, hk, rfl, hb⟩ := hrel
        by_cases hlt : k < X.length
        · obtain ⟨b9, off9, rfl, hbl, x1, ar, cq, x0, sr⟩ := (zX.next hb).elem hlt
          have yA := zA.next hb
          have yB := zB.next hb
          have yS := zS.next hb
          have yP := zP.next hb
          have yD := zD.next hb
          have hba := BA X[k].1
          have hbb := BB X[k].1
          have hS := WS.out X[k].1
          have hP := WP.out X[k].1
          have hD := WD.out X[k].1
          simp only [Int.one_mul] at hS
          clear BA BB
          generalize X[k].1 = q at *
          generalize X[k].2 = xw at *
          by_cases c1 : wt l q < 0
          · have hP : wt p q = 0 := by rw [hP]; unfold posF; rw [if_pos c1]
            have hD : wt d q = 0 := by rw [hD]; unfold oneF; rw [if_neg (by omega)]
            have hl2 : l.length ≤ 100000 := by omega
            have hl3 : l'.length ≤ 100000 := by omega
            have hl4 : s.length ≤ 100000 := by omega
            have hl5 : p.length ≤ 100000 := by omega
            have hl6 : d.length ≤ 100000 := by omega
            have bA : Below wr.heap.size wr (wr.alloc (.cells #[.slice ar q.length cq, .int .i64 xw] 42)) := (Below.refl _ _).alloc (Nat.le_refl _) _
            have q0 : (wr.alloc (.cells #[.slice ar q.length cq, .int .i64 xw] 42)).cell? ⟨wr.heap.size, 0, none⟩ = some (.slice ar q.length cq) := by simp
            have yA := yA.next bA
            have yB := yB.next bA
            have yS := yS.next bA
            have yP := yP.next bA
            have yD := yD.next bA
            have yq := sr.next bA
            go_wp2_with fail
            refine (weight_at _ _ _ _ _ _ _ yA yq RA hl2).mono ?_
            rintro e v1 ⟨rfl, hc1⟩
            have q1 := (hc1.cell (p := ⟨wr.heap.size, 0, none⟩) (World.block_lt_of_cell? _ _ q0)).trans q0
            have yB := yB.next hc1
            have yS := yS.next hc1
            have yP := yP.next hc1
            have yD := yD.next hc1
            have yq := yq.next hc1
            have bb := chain1 (chain1 hb bA) hc1
            clear q0 bA hc1 yA
            have p0 := past_cell q1
            haveI : Nonempty (Past v1) := ⟨⟨v1, Below.refl _ _⟩⟩
            go_wp2_with fail
            refine wp_region_past (by kernel_rfl) (by kernel_rfl) ?_
            repeat (go_big_quiet_step (first | (go_at_call 15; exact in_past (weight_at _ _ _ _ _ _ _ (yS.next (Past.ok _)) (yq.next (Past.ok _)) RS hl4)) | (go_at_call 15; exact in_past (weight_at _ _ _ _ _ _ _ (yB.next (Past.ok _)) (yq.next (Past.ok _)) RB hl3))))
            refine wpQuiet_nil ?_
            rintro v2 ⟨⟨u2, hc2⟩, h2⟩
            obtain rfl : v2 = u2 := h2
            have q2 := (hc2.cell (p := ⟨wr.heap.size, 0, none⟩) (World.block_lt_of_cell? _ _ q1)).trans q1
            have yP := yP.next hc2
            have yD := yD.next hc2
            have yq := yq.next hc2
            have bb := chain1 bb hc2
            clear q1 p0 hc2 yB yS
            go_wp2_with fail
            refine (weight_at _ _ _ _ _ _ _ yP yq RP hl5).mono ?_
            rintro e v3 ⟨rfl, hc3⟩
            have q3 := (hc3.cell (p := ⟨wr.heap.size, 0, none⟩) (World.block_lt_of_cell? _ _ q2)).trans q2
            have yD := yD.next hc3
            have yq := yq.next hc3
            have bb := chain1 bb hc3
            clear q2 hc3 yP
            go_wp2_with fail
            refine (weight_at _ _ _ _ _ _ _ yD yq RD hl6).mono ?_
            rintro e v4 ⟨rfl, hc4⟩
            have bb := chain1 bb hc4
            clear hc4 yD yq q3
            go_wp2_with fail
            go_roundw
            case rel => exact ⟨k + 1, by omega, by go_num, bb⟩
            case measure => simp [intOf]; omega
          · by_cases c2 : 0 < wt l q
            · have hP : wt p q = wt l q := by rw [hP]; unfold posF; rw [if_neg c1]
              have hD : wt d q = 1 := by rw [hD]; unfold oneF; rw [if_pos c2]
              have hl2 : l.length ≤ 100000 := by omega
              have hl3 : l'.length ≤ 100000 := by omega
              have hl4 : s.length ≤ 100000 := by omega
              have hl5 : p.length ≤ 100000 := by omega
              have hl6 : d.length ≤ 100000 := by omega
              have bA : Below wr.heap.size wr (wr.alloc (.cells #[.slice ar q.length cq, .int .i64 xw] 42)) := (Below.refl _ _).alloc (Nat.le_refl _) _
              have q0 : (wr.alloc (.cells #[.slice ar q.length cq, .int .i64 xw] 42)).cell? ⟨wr.heap.size, 0, none⟩ = some (.slice ar q.length cq) := by simp
              have yA := yA.next bA
              have yB := yB.next bA
              have yS := yS.next bA
              have yP := yP.next bA
              have yD := yD.next bA
              have yq := sr.next bA
              go_wp2_with fail
              refine (weight_at _ _ _ _ _ _ _ yA yq RA hl2).mono ?_
              rintro e v1 ⟨rfl, hc1⟩
              have q1 := (hc1.cell (p := ⟨wr.heap.size, 0, none⟩) (World.block_lt_of_cell? _ _ q0)).trans q0
              have yB := yB.next hc1
              have yS := yS.next hc1
              have yP := yP.next hc1
              have yD := yD.next hc1
              have yq := yq.next hc1
              have bb := chain1 (chain1 hb bA) hc1
              clear q0 bA hc1 yA
              have p0 := past_cell q1
              haveI : Nonempty (Past v1) := ⟨⟨v1, Below.refl _ _⟩⟩
              go_wp2_with fail
              refine wp_region_past (by kernel_rfl) (by kernel_rfl) ?_
              repeat (go_big_quiet_step (first | (go_at_call 15; exact in_past (weight_at _ _ _ _ _ _ _ (yS.next (Past.ok _)) (yq.next (Past.ok _)) RS hl4)) | (go_at_call 15; exact in_past (weight_at _ _ _ _ _ _ _ (yB.next (Past.ok _)) (yq.next (Past.ok _)) RB hl3))))
              refine wpQuiet_nil ?_
              rintro v2 ⟨⟨u2, hc2⟩, h2⟩
              obtain rfl : v2 = u2 := h2
              have q2 := (hc2.cell (p := ⟨wr.heap.size, 0, none⟩) (World.block_lt_of_cell? _ _ q1)).trans q1
              have yP := yP.next hc2
              have yD := yD.next hc2
              have yq := yq.next hc2
              have bb := chain1 bb hc2
              clear q1 p0 hc2 yB yS
              go_wp2_with fail
              refine (weight_at _ _ _ _ _ _ _ yP yq RP hl5).mono ?_
              rintro e v3 ⟨rfl, hc3⟩
              have q3 := (hc3.cell (p := ⟨wr.heap.size, 0, none⟩) (World.block_lt_of_cell? _ _ q2)).trans q2
              have yD := yD.next hc3
              have yq := yq.next hc3
              have bb := chain1 bb hc3
              clear q2 hc3 yP
              go_wp2_with fail
              refine (weight_at _ _ _ _ _ _ _ yD yq RD hl6).mono ?_
              rintro e v4 ⟨rfl, hc4⟩
              have bb := chain1 bb hc4
              clear hc4 yD yq q3
              go_wp2_with fail
              go_roundw
              case rel => exact ⟨k + 1, by omega, by go_num, bb⟩
              case measure => simp [intOf]; omega
            · have c3 : wt l q = 0 := by omega
              have hP : wt p q = 0 := by rw [hP]; unfold posF; rw [if_neg c1, c3]
              have hD : wt d q = 0 := by rw [hD]; unfold oneF; rw [if_neg c2]
              clear c1 c2
              have hl2 : l.length ≤ 100000 := by omega
              have hl3 : l'.length ≤ 100000 := by omega
              have hl4 : s.length ≤ 100000 := by omega
              have hl5 : p.length ≤ 100000 := by omega
              have hl6 : d.length ≤ 100000 := by omega
              have bA : Below wr.heap.size wr (wr.alloc (.cells #[.slice ar q.length cq, .int .i64 xw] 42)) := (Below.refl _ _).alloc (Nat.le_refl _) _
              have q0 : (wr.alloc (.cells #[.slice ar q.length cq, .int .i64 xw] 42)).cell? ⟨wr.heap.size, 0, none⟩ = some (.slice ar q.length cq) := by simp
              have yA := yA.next bA
              have yB := yB.next bA
              have yS := yS.next bA
              have yP := yP.next bA
              have yD := yD.next bA
              have yq := sr.next bA
              go_wp2_with fail
              refine (weight_at _ _ _ _ _ _ _ yA yq RA hl2).mono ?_
              rintro e v1 ⟨rfl, hc1⟩
              have q1 := (hc1.cell (p := ⟨wr.heap.size, 0, none⟩) (World.block_lt_of_cell? _ _ q0)).trans q0
              have yB := yB.next hc1
              have yS := yS.next hc1
              have yP := yP.next hc1
              have yD := yD.next hc1
              have yq := yq.next hc1
              have bb := chain1 (chain1 hb bA) hc1
              clear q0 bA hc1 yA
              have p0 := past_cell q1
              haveI : Nonempty (Past v1) := ⟨⟨v1, Below.refl _ _⟩⟩
              go_wp2_with fail
              refine wp_region_past (by kernel_rfl) (by kernel_rfl) ?_
              repeat (go_big_quiet_step (first | (go_at_call 15; exact in_past (weight_at _ _ _ _ _ _ _ (yS.next (Past.ok _)) (yq.next (Past.ok _)) RS hl4)) | (go_at_call 15; exact in_past (weight_at _ _ _ _ _ _ _ (yB.next (Past.ok _)) (yq.next (Past.ok _)) RB hl3))))
              refine wpQuiet_nil ?_
              rintro v2 ⟨⟨u2, hc2⟩, h2⟩
              obtain rfl : v2 = u2 := h2
              have q2 := (hc2.cell (p := ⟨wr.heap.size, 0, none⟩) (World.block_lt_of_cell? _ _ q1)).trans q1
              have yP := yP.next hc2
              have yD := yD.next hc2
              have yq := yq.next hc2
              have bb := chain1 bb hc2
              clear q1 p0 hc2 yB yS
              go_wp2_with fail
              refine (weight_at _ _ _ _ _ _ _ yP yq RP hl5).mono ?_
              rintro e v3 ⟨rfl, hc3⟩
              have q3 := (hc3.cell (p := ⟨wr.heap.size, 0, none⟩) (World.block_lt_of_cell? _ _ q2)).trans q2
              have yD := yD.next hc3
              have yq := yq.next hc3
              have bb := chain1 bb hc3
              clear q2 hc3 yP
              go_wp2_with fail
              refine (weight_at _ _ _ _ _ _ _ yD yq RD hl6).mono ?_
              rintro e v4 ⟨rfl, hc4⟩
              have bb := chain1 bb hc4
              clear hc4 yD yq q3
              go_wp2_with fail
              go_roundw
              case rel => exact ⟨k + 1, by omega, by go_num, bb⟩
              case measure => simp [intOf]; omega
        · go_wp2_with fail
          go_ret
          exact ⟨rfl, chain1 bw hb⟩
    · have hne : (wrongRowF r != 0) = true := by simpa using hr
      go_enter Try.func6, Try.ntmps6
      go_wp2_with fail
      refine (alive_at _).mono ?_
      rintro e w1 ⟨rfl, hb1⟩
      have bS : Below w1.heap.size w1 (w1.alloc (.cells #[.slice a l.length ca, .slice b l'.length cb] 22)) := (Below.refl _ _).alloc (Nat.le_refl _) _
      have st : Sets (w1.alloc (.cells #[.slice a l.length ca, .slice b l'.length cb] 22)) w1.heap.size [l, l'] := by
        refine ⟨by simp, fun k hk => ?_⟩
        have hk' : k < 2 := hk
        match k, hk' with
        | 0, _ => exact ⟨a, ca, by simp, (h.next hb1).next bS⟩
        | 1, _ => exact ⟨b, cb, by simp, (h'.next hb1).next bS⟩
      have sc := small_at w1.heap.size [l, l'] _ st (by simp)
      rw [HS.out] at sc
      have el : [l, l'].length = 2 := rfl
      rw [el] at sc
      clear st el
      go_wp2_with fail
      refine sc.mono ?_
      clear sc
      rintro e w2 ⟨rfl, hb2⟩
      go_wp2_with fail
      refine (refRow_at _ _ _ _ (((h''.next hb1).next bS).next hb2)).mono ?_
      rintro e w3 ⟨rfl, hb3⟩
      go_wp2_with fail
      go_ret
      exact ⟨rfl, chain1 (chain1 (chain1 hb1 bS) hb2) hb3⟩
  · have hs' : [l, l'].all smallB = false := by simpa using hs
    have HS : Hid ([l, l'].all smallB = false) := hs'
    clear hs hs'
    go_enter Try.func6, Try.ntmps6
    go_wp2_with fail
    refine (alive_at _).mono ?_
    rintro e w1 ⟨rfl, hb1⟩
    have bS : Below w1.heap.size w1 (w1.alloc (.cells #[.slice a l.length ca, .slice b l'.length cb] 22)) := (Below.refl _ _).alloc (Nat.le_refl _) _
    have st : Sets (w1.alloc (.cells #[.slice a l.length ca, .slice b l'.length cb] 22)) w1.heap.size [l, l'] := by
      refine ⟨by simp, fun k hk => ?_⟩
      have hk' : k < 2 := hk
      match k, hk' with
      | 0, _ => exact ⟨a, ca, by simp, (h.next hb1).next bS⟩
      | 1, _ => exact ⟨b, cb, by simp, (h'.next hb1).next bS⟩
    have sc := small_at w1.heap.size [l, l'] _ st (by simp)
    rw [HS.out] at sc
    have el : [l, l'].length = 2 := rfl
    rw [el] at sc
    clear st el
    go_wp2_with fail
    refine sc.mono ?_
    clear sc
    rintro e w2 ⟨rfl, hb2⟩
    go_wp2_with fail
    go_ret
    exact ⟨rfl, chain1 (chain1 hb1 bS) hb2⟩
end Go.Proofs.Ytfgpfnhbcbhkfab
