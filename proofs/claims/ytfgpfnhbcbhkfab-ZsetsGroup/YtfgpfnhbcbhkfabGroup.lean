/- The walk of tidelaw2.ZsetsGroup. -/
import Derived.Test.YtfgpfnhbcbhkfabZH
namespace Go.Proofs.Ytfgpfnhbcbhkfab
open Go.RowKit Go.Lib Go.Shelf

theorem good_neg {n : Nat} {x : List Zp} (hx : Good n x) (hn : n ≤ 4) : Good n (setZ (fun w => -w) x) ∧ IsSet (setZ (fun w => -w) x) ∧ ∀ q, wt (setZ (fun w => -w) x) q = -wt x q :=
  (good_set hx hn (fun w => -w) rfl (fun _ => .inl (.inr rfl))).2
theorem group_plain {a b c : List Zp} (ha : Good 1 a) (hb : Good 1 b) (hc : Good 1 c) :
    bothZ 1 b (bothZ 1 a []) = bothZ 1 (bothZ 1 a []) b ∧ bothZ 1 (bothZ 1 a []) (bothZ 1 b c) = bothZ 1 (bothZ 1 (bothZ 1 a []) b) c ∧ bothZ 1 (bothZ 1 a []) (setZ (fun w => -w) (bothZ 1 a [])) = [] ∧
    bothZ 1 (bothZ (-1) (bothZ 1 a []) b) b = bothZ 1 a [] ∧ bothZ 1 (bothZ 1 a []) (setZ (fun w => -w) b) = bothZ (-1) (bothZ 1 a []) b ∧ setZ (fun w => -w) (setZ (fun w => -w) (bothZ 1 a [])) = bothZ 1 a [] ∧ bothZ 1 (bothZ 1 a []) [] = bothZ 1 a [] := by
  obtain ⟨_, _, gA, sA, wA⟩ := good_both ha good_nil (by omega) (t := 1) (.inl rfl)
  generalize bothZ 1 a [] = α at *
  obtain ⟨_, _, g1, s1, w1⟩ := good_both hb gA (by omega) (t := 1) (.inl rfl)
  obtain ⟨_, _, g2, s2, w2⟩ := good_both gA hb (by omega) (t := 1) (.inl rfl)
  obtain ⟨_, _, g3, s3, w3⟩ := good_both hb hc (by omega) (t := 1) (.inl rfl)
  obtain ⟨_, _, g4, s4, w4⟩ := good_both gA g3 (by omega) (t := 1) (.inl rfl)
  obtain ⟨_, _, g5, s5, w5⟩ := good_both g2 hc (by omega) (t := 1) (.inl rfl)
  obtain ⟨g6, s6, w6⟩ := good_neg gA (by omega)
  obtain ⟨_, _, g7, s7, w7⟩ := good_both gA g6 (by omega) (t := 1) (.inl rfl)
  obtain ⟨_, _, g8, s8, w8⟩ := good_both gA hb (by omega) (t := -1) (.inr rfl)
  obtain ⟨_, _, g9, s9, w9⟩ := good_both g8 hb (by omega) (t := 1) (.inl rfl)
  obtain ⟨g10, s10, w10⟩ := good_neg hb (by omega)
  obtain ⟨_, _, g11, s11, w11⟩ := good_both gA g10 (by omega) (t := 1) (.inl rfl)
  obtain ⟨g12, s12, w12⟩ := good_neg g6 (by omega)
  obtain ⟨_, _, g13, s13, w13⟩ := good_both gA good_nil (by omega) (t := 1) (.inl rfl)
  refine ⟨?_, ?_, ?_, ?_, ?_, ?_, ?_⟩
  · exact set_unique _ _ s1 s2 fun q => by rw [w1, w2]; omega
  · exact set_unique _ _ s4 s5 fun q => by rw [w4, w3, w5, w2]; omega
  · exact set_unique _ _ s7 set_nil fun q => by rw [w7, w6]; simp only [wt]; omega
  · exact set_unique _ _ s9 sA fun q => by rw [w9, w8]; omega
  · exact set_unique _ _ s11 s8 fun q => by rw [w11, w10, w8]; omega
  · exact set_unique _ _ s12 sA fun q => by rw [w12, w6]; omega
  · exact set_unique _ _ s13 sA fun q => by rw [w13]; simp only [wt]; omega

set_option maxHeartbeats 8000000 in
theorem group_walk (a : Option Addr) (ca : Nat) (l : List Zp) (b : Option Addr) (cb : Nat) (l' : List Zp) (c : Option Addr) (cc : Nat) (l'' : List Zp) (w : World) (h : ZsAt w a l) (h' : ZsAt w b l') (h'' : ZsAt w c l'') (na : a = none → ca = 0) (nb : b = none → cb = 0) (_nc : c = none → cc = 0) :
    Calls Try.prog 5 #[.slice a l.length ca, .slice b l'.length cb, .slice c l''.length cc] w fun e w' => e = .returned (.bool true) ∧ Below w.heap.size w w' := by
  by_cases hs : [l, l', l''].all smallB = true
  · have hs' : smallB l = true ∧ smallB l' = true ∧ smallB l'' = true := by simpa using hs
    obtain ⟨e1, e2, e3, e4, e5, e6, e7⟩ := group_plain (small_good hs'.1) (small_good hs'.2.1) (small_good hs'.2.2)
    have HS : Hid ([l, l', l''].all smallB = true) := hs
    clear hs hs'
    have k0 := fun x y cx cy W hx hy hn => clAdd_at x y cx cy l [] W hx hy hn
    have k1 := fun x y cx cy W hx hy hn => clAdd_at x y cx cy (bothZ 1 l []) l' W hx hy hn
    have k2 := fun x y cx cy W hx hy hn => clAdd_at x y cx cy l' (bothZ 1 l []) W hx hy hn
    have k3 := fun x y cx cy W hx hy hn => clAdd_at x y cx cy (bothZ 1 (bothZ 1 l []) l') l'' W hx hy hn
    have k4 := fun x y cx cy W hx hy hn => clAdd_at x y cx cy l' l'' W hx hy hn
    have k5 := fun x y cx cy W hx hy hn => clAdd_at x y cx cy (bothZ 1 l []) (bothZ 1 l' l'') W hx hy hn
    have k6 := fun x cx W hx => clNeg_at x cx (bothZ 1 l []) W hx
    have k7 := fun x y cx cy W hx hy hn => clAdd_at x y cx cy (bothZ 1 l []) (setZ (fun w => -w) (bothZ 1 l [])) W hx hy hn
    have k8 := fun x y cx cy W hx hy hn => clSub_at x y cx cy (bothZ 1 l []) l' W hx hy hn
    have k9 := fun x y cx cy W hx hy hn => clAdd_at x y cx cy (bothZ (-1) (bothZ 1 l []) l') l' W hx hy hn
    have k10 := fun x cx W hx => clNeg_at x cx l' W hx
    have k11 := fun x y cx cy W hx hy hn => clAdd_at x y cx cy (bothZ 1 l []) (setZ (fun w => -w) l') W hx hy hn
    have k12 := fun x cx W hx => clNeg_at x cx (setZ (fun w => -w) (bothZ 1 l [])) W hx
    have k13 := fun x y cx cy W hx hy hn => clAdd_at x y cx cy (bothZ 1 l []) [] W hx hy hn
    simp only [e1] at k2
    simp only [e2] at k5
    simp only [e3] at k7
    simp only [e4] at k9
    simp only [e5] at k11
    simp only [e6] at k12
    simp only [e7] at k13
    clear e1 e2 e3 e4 e5 e6 e7
    generalize bothZ (-1) (bothZ 1 l []) l' = dd at *
    generalize bothZ 1 (bothZ 1 (bothZ 1 l []) l') l'' = tt at *
    generalize bothZ 1 (bothZ 1 l []) l' = ss at *
    generalize bothZ 1 l' l'' = uu at *
    generalize setZ (fun w => -w) (bothZ 1 l []) = na1 at *
    generalize setZ (fun w => -w) l' = nb1 at *
    generalize bothZ 1 l [] = aa at *
    go_enter Try.func5, Try.ntmps5
    go_wp2_with fail
    refine (alive_at _).mono ?_
    rintro e w1 ⟨rfl, hb1⟩
    have z0 := h.next hb1
    have zB := h'.next hb1
    have zC := h''.next hb1
    clear h h' h''
    have bS : Below w1.heap.size w1 (w1.alloc (.cells #[.slice a l.length ca, .slice b l'.length cb, .slice c l''.length cc] 22)) := (Below.refl _ _).alloc (Nat.le_refl _) _
    have st : Sets (w1.alloc (.cells #[.slice a l.length ca, .slice b l'.length cb, .slice c l''.length cc] 22)) w1.heap.size [l, l', l''] := by
      refine ⟨by simp, fun k hk => ?_⟩
      have hk' : k < 3 := hk
      match k, hk' with
      | 0, _ => exact ⟨a, ca, by simp, z0.next bS⟩
      | 1, _ => exact ⟨b, cb, by simp, zB.next bS⟩
      | 2, _ => exact ⟨c, cc, by simp, zC.next bS⟩
    have sc := small_at w1.heap.size [l, l', l''] _ st (by simp)
    rw [HS.out] at sc
    have el : [l, l', l''].length = 3 := rfl
    rw [el] at sc
    clear st el
    replace z0 := z0.next bS
    replace zB := zB.next bS
    replace zC := zC.next bS
    have bw := chain1 hb1 bS
    clear hb1 bS
    go_wp2_with fail
    refine sc.mono ?_
    clear sc
    rintro e w2 ⟨rfl, hb2⟩
    replace z0 := z0.next hb2
    replace zB := zB.next hb2
    replace zC := zC.next hb2
    replace bw := chain1 bw hb2
    clear hb2
    have zN : ∀ W : World, ZsAt W none [] := fun W => ⟨by simp, .inl rfl⟩
    go_wp2_with fail
    refine (k0 _ _ _ _ _ z0 (zN _) na).mono ?_
    rintro e w3 ⟨v3, rfl, O3, hb3⟩
    obtain ⟨aA, cA, rfl, zA, nA⟩ := O3.zs2
    clear O3
    clear z0
    replace zB := zB.next hb3
    replace zC := zC.next hb3
    replace bw := chain1 bw hb3
    clear hb3
    go_wp2_with fail
    refine (k1 _ _ _ _ _ zA zB nA).mono ?_
    rintro e w4 ⟨v4, rfl, O4, hb4⟩
    obtain ⟨as1, cs1, rfl, zs1, ns1⟩ := O4.zs2
    clear O4
    replace zB := zB.next hb4
    replace zC := zC.next hb4
    replace zA := zA.next hb4
    replace bw := chain1 bw hb4
    clear hb4
    go_wp2_with fail
    refine (k2 _ _ _ _ _ zB zA nb).mono ?_
    rintro e w5 ⟨v5, rfl, O5, hb5⟩
    obtain ⟨as2, cs2, rfl, zs2, ns2⟩ := O5.zs2
    clear O5
    replace zB := zB.next hb5
    replace zC := zC.next hb5
    replace zA := zA.next hb5
    replace zs1 := zs1.next hb5
    replace bw := chain1 bw hb5
    clear hb5
    go_wp2_with fail
    refine (same_eq _ _ _ _ _ _ zs1 zs2).mono ?_
    rintro e w6 ⟨rfl, hb6⟩
    clear zs1
    clear zs2
    replace zB := zB.next hb6
    replace zC := zC.next hb6
    replace zA := zA.next hb6
    replace bw := chain1 bw hb6
    clear hb6
    go_wp2_with fail
    refine (k1 _ _ _ _ _ zA zB nA).mono ?_
    rintro e w7 ⟨v7, rfl, O7, hb7⟩
    obtain ⟨as3, cs3, rfl, zs3, ns3⟩ := O7.zs2
    clear O7
    replace zB := zB.next hb7
    replace zC := zC.next hb7
    replace zA := zA.next hb7
    replace bw := chain1 bw hb7
    clear hb7
    go_wp2_with fail
    refine (k3 _ _ _ _ _ zs3 zC ns3).mono ?_
    rintro e w8 ⟨v8, rfl, O8, hb8⟩
    obtain ⟨at1, ct1, rfl, zt1, nt1⟩ := O8.zs2
    clear O8
    clear zs3
    replace zB := zB.next hb8
    replace zC := zC.next hb8
    replace zA := zA.next hb8
    replace bw := chain1 bw hb8
    clear hb8
    go_wp2_with fail
    refine (k4 _ _ _ _ _ zB zC nb).mono ?_
    rintro e w9 ⟨v9, rfl, O9, hb9⟩
    obtain ⟨au1, cu1, rfl, zu1, nu1⟩ := O9.zs2
    clear O9
    replace zB := zB.next hb9
    replace zC := zC.next hb9
    replace zA := zA.next hb9
    replace zt1 := zt1.next hb9
    replace bw := chain1 bw hb9
    clear hb9
    go_wp2_with fail
    refine (k5 _ _ _ _ _ zA zu1 nA).mono ?_
    rintro e w10 ⟨v10, rfl, O10, hb10⟩
    obtain ⟨at2, ct2, rfl, zt2, nt2⟩ := O10.zs2
    clear O10
    clear zu1
    clear zC
    replace zB := zB.next hb10
    replace zA := zA.next hb10
    replace zt1 := zt1.next hb10
    replace bw := chain1 bw hb10
    clear hb10
    go_wp2_with fail
    refine (same_eq _ _ _ _ _ _ zt1 zt2).mono ?_
    rintro e w11 ⟨rfl, hb11⟩
    clear zt1
    clear zt2
    replace zB := zB.next hb11
    replace zA := zA.next hb11
    replace bw := chain1 bw hb11
    clear hb11
    go_wp2_with fail
    refine (k6 _ _ _ zA).mono ?_
    rintro e w12 ⟨v12, rfl, O12, hb12⟩
    obtain ⟨ag1, cg1, rfl, zg1, ng1⟩ := O12.zs2
    clear O12
    replace zB := zB.next hb12
    replace zA := zA.next hb12
    replace bw := chain1 bw hb12
    clear hb12
    go_wp2_with fail
    refine (k7 _ _ _ _ _ zA zg1 nA).mono ?_
    rintro e w13 ⟨v13, rfl, O13, hb13⟩
    obtain ⟨ao1, co1, rfl, zo1, no1⟩ := O13.zs2
    clear O13
    clear zg1
    replace zB := zB.next hb13
    replace zA := zA.next hb13
    replace bw := chain1 bw hb13
    clear hb13
    go_wp2_with fail
    refine (k8 _ _ _ _ _ zA zB nA).mono ?_
    rintro e w14 ⟨v14, rfl, O14, hb14⟩
    obtain ⟨ad1, cd1, rfl, zd1, nd1⟩ := O14.zs2
    clear O14
    clear zo1
    replace zB := zB.next hb14
    replace zA := zA.next hb14
    replace bw := chain1 bw hb14
    clear hb14
    go_wp2_with fail
    refine (k9 _ _ _ _ _ zd1 zB nd1).mono ?_
    rintro e w15 ⟨v15, rfl, O15, hb15⟩
    obtain ⟨ap1, cp1, rfl, zp1, np1⟩ := O15.zs2
    clear O15
    clear zd1
    replace zB := zB.next hb15
    replace zA := zA.next hb15
    replace bw := chain1 bw hb15
    clear hb15
    go_wp2_with fail
    refine (same_eq _ _ _ _ _ _ zp1 zA).mono ?_
    rintro e w16 ⟨rfl, hb16⟩
    clear zp1
    replace zB := zB.next hb16
    replace zA := zA.next hb16
    replace bw := chain1 bw hb16
    clear hb16
    go_wp2_with fail
    refine (k8 _ _ _ _ _ zA zB nA).mono ?_
    rintro e w17 ⟨v17, rfl, O17, hb17⟩
    obtain ⟨ad2, cd2, rfl, zd2, nd2⟩ := O17.zs2
    clear O17
    replace zB := zB.next hb17
    replace zA := zA.next hb17
    replace bw := chain1 bw hb17
    clear hb17
    go_wp2_with fail
    refine (k10 _ _ _ zB).mono ?_
    rintro e w18 ⟨v18, rfl, O18, hb18⟩
    obtain ⟨ag2, cg2, rfl, zg2, ng2⟩ := O18.zs2
    clear O18
    clear zB
    replace zA := zA.next hb18
    replace zd2 := zd2.next hb18
    replace bw := chain1 bw hb18
    clear hb18
    go_wp2_with fail
    refine (k11 _ _ _ _ _ zA zg2 nA).mono ?_
    rintro e w19 ⟨v19, rfl, O19, hb19⟩
    obtain ⟨ad3, cd3, rfl, zd3, nd3⟩ := O19.zs2
    clear O19
    clear zg2
    replace zA := zA.next hb19
    replace zd2 := zd2.next hb19
    replace bw := chain1 bw hb19
    clear hb19
    go_wp2_with fail
    refine (same_eq _ _ _ _ _ _ zd2 zd3).mono ?_
    rintro e w20 ⟨rfl, hb20⟩
    clear zd2
    clear zd3
    replace zA := zA.next hb20
    replace bw := chain1 bw hb20
    clear hb20
    go_wp2_with fail
    refine (k6 _ _ _ zA).mono ?_
    rintro e w21 ⟨v21, rfl, O21, hb21⟩
    obtain ⟨ag3, cg3, rfl, zg3, ng3⟩ := O21.zs2
    clear O21
    replace zA := zA.next hb21
    replace bw := chain1 bw hb21
    clear hb21
    go_wp2_with fail
    refine (k12 _ _ _ zg3).mono ?_
    rintro e w22 ⟨v22, rfl, O22, hb22⟩
    obtain ⟨ap2, cp2, rfl, zp2, np2⟩ := O22.zs2
    clear O22
    clear zg3
    replace zA := zA.next hb22
    replace bw := chain1 bw hb22
    clear hb22
    go_wp2_with fail
    refine (same_eq _ _ _ _ _ _ zp2 zA).mono ?_
    rintro e w23 ⟨rfl, hb23⟩
    clear zp2
    replace zA := zA.next hb23
    replace bw := chain1 bw hb23
    clear hb23
    go_wp2_with fail
    refine (k13 _ _ _ _ _ zA (zN _) nA).mono ?_
    rintro e w24 ⟨v24, rfl, O24, hb24⟩
    obtain ⟨ap3, cp3, rfl, zp3, np3⟩ := O24.zs2
    clear O24
    replace zA := zA.next hb24
    replace bw := chain1 bw hb24
    clear hb24
    go_wp2_with fail
    refine (same_eq _ _ _ _ _ _ zp3 zA).mono ?_
    rintro e w25 ⟨rfl, hb25⟩
    clear zp3
    replace zA := zA.next hb25
    replace bw := chain1 bw hb25
    clear hb25
    go_wp2_with fail
    go_ret
    exact ⟨rfl, bw⟩
  · have hs' : [l, l', l''].all smallB = false := by simpa using hs
    have HS : Hid ([l, l', l''].all smallB = false) := hs'
    clear hs hs'
    go_enter Try.func5, Try.ntmps5
    go_wp2_with fail
    refine (alive_at _).mono ?_
    rintro e w1 ⟨rfl, hb1⟩
    have bS : Below w1.heap.size w1 (w1.alloc (.cells #[.slice a l.length ca, .slice b l'.length cb, .slice c l''.length cc] 22)) := (Below.refl _ _).alloc (Nat.le_refl _) _
    have st : Sets (w1.alloc (.cells #[.slice a l.length ca, .slice b l'.length cb, .slice c l''.length cc] 22)) w1.heap.size [l, l', l''] := by
      refine ⟨by simp, fun k hk => ?_⟩
      have hk' : k < 3 := hk
      match k, hk' with
      | 0, _ => exact ⟨a, ca, by simp, (h.next hb1).next bS⟩
      | 1, _ => exact ⟨b, cb, by simp, (h'.next hb1).next bS⟩
      | 2, _ => exact ⟨c, cc, by simp, (h''.next hb1).next bS⟩
    have sc := small_at w1.heap.size [l, l', l''] _ st (by simp)
    rw [HS.out] at sc
    have el : [l, l', l''].length = 3 := rfl
    rw [el] at sc
    clear st el
    go_wp2_with fail
    refine sc.mono ?_
    clear sc
    rintro e w2 ⟨rfl, hb2⟩
    go_wp2_with fail
    go_ret
    exact ⟨rfl, chain1 (chain1 hb1 bS) hb2⟩
end Go.Proofs.Ytfgpfnhbcbhkfab
