/- The walk of tidelaw4.OpsParted. -/
import Derived.Test.YtfojonhblblbjaaGreatB8
import Derived.Laws.EntriesVeiled
namespace Go.Proofs.YtfojonhblblbjaaGreat
open Go.RowKit Go.Lib Go.Shelf

theorem wide_take {n : Nat} {t : List Zp} {k : Nat} (h : k < t.length) : wideL n (t.take (k + 1)) = wideL n (t.take k) ++ [(t[k].1 ++ nulls n, t[k].2)] := by
  unfold wideL
  rw [List.take_succ_eq_append_getElem h, List.map_append]; rfl
theorem nulls_succ (j : Nat) : nulls (j + 1) = nulls j ++ [(1, 0, ⟨#[]⟩)] := by
  unfold nulls
  rw [List.replicate_succ']

set_option maxRecDepth 100000 in
set_option maxHeartbeats 8000000 in
theorem parted_walk (la : Option Addr) (lcap : Nat) (left : List Int) (ra : Option Addr) (rcap : Nat) (right : List Int) (x : Ex) (xa : Option Addr) (xcap : Nat) (a : Option Addr) (ca : Nat) (l : List Zp) (b : Option Addr) (cb : Nat) (r : List Zp) (w : World)
    (hcl : IsAt w.heap.size w la left) (hcr : IsAt w.heap.size w ra right) (hx : KsAt w.heap.size w xa x.ks) (h : ZsAt w a l) (h' : ZsAt w b r) (na : a = none → ca = 0) (_nb : b = none → cb = 0) (hll : left.length ≤ 100000000000000) (hrl : right.length ≤ 100000000000000) :
    Calls Tryz.prog 8 #[.slice la left.length lcap, .slice ra right.length rcap, exV x.k x.v x.c xa x.ks.length xcap, .slice a l.length ca, .slice b r.length cb] w fun e w' => e = .returned (.bool true) ∧ Below w.heap.size w w' := by
  have h1 : Below w.heap.size w (w.alloc (.cells #[.int .i64 x.k, .int .i64 x.v.1, .int .i64 x.v.2.1, .string x.v.2.2, .int .i64 x.c, .slice xa x.ks.length xcap] 27)) := (Below.refl _ _).alloc (Nat.le_refl _) _
  have S1 : Hid (Six (w.alloc (.cells #[.int .i64 x.k, .int .i64 x.v.1, .int .i64 x.v.2.1, .string x.v.2.2, .int .i64 x.c, .slice xa x.ks.length xcap] 27)) w.heap.size 0 x.k x.v x.c xa x.ks.length xcap) := Six.new w x.k x.v x.c xa x.ks.length xcap 27
  have z1 : (w.alloc (.cells #[.int .i64 x.k, .int .i64 x.v.1, .int .i64 x.v.2.1, .string x.v.2.2, .int .i64 x.c, .slice xa x.ks.length xcap] 27)).heap.size = w.heap.size + 1 := by simp
  obtain ⟨iv, hiv, hv0, hv1, hv2⟩ := info_parts infoV
  obtain ⟨i0, hi, hj0, hj1, hj2⟩ := info_parts Tryz.info42
  go_enter Tryz.func8, Tryz.ntmps8
  go_wp2_with fail
  generalize w.alloc (.cells #[.int .i64 x.k, .int .i64 x.v.1, .int .i64 x.v.2.1, .string x.v.2.2, .int .i64 x.c, .slice xa x.ks.length xcap] 27) = w1 at *
  refine (alive_at w1).mono ?_
  rintro e w2 ⟨rfl, hb2⟩
  have hA := chain h1 hb2
  have hS := hb2
  clear hb2
  dsimp only
  have con := semi_at left right x la lcap ra rcap xa xcap a ca l b cb r w2 ((hcl.next hA (Nat.le_refl _)).up hA.size) ((hcr.next hA (Nat.le_refl _)).up hA.size) ((KsAt.next hA (Nat.le_refl _) hx).up hA.size) (h.next hA) (h'.next hA) hll hrl
  generalize hE : pairE 1 left right x l r = t1 at con
  generalize hZ : pairZ 1 left right x l r = f1 at con
  have E1 : Hid (pairE 1 left right x l r = t1) := hE
  have Z1 : Hid (pairZ 1 left right x l r = f1) := hZ
  clear hE hZ
  obtain ⟨s0, s1, s2, s3, s4, s5⟩ := S1.out.next hS (by omega)
  simp only [Nat.zero_add] at s1 s2 s3 s4 s5
  go_wp2_with fail
  refine con.mono ?_
  rintro e w3 ⟨vw3, rfl, O, hb⟩
  obtain ⟨a1, c1, rfl, zs1, n1⟩ := O.zs2
  have hA := chain hA hb
  have hS := chain hS hb
  clear con O s0 s1 s2 s3 s4 s5 hb
  dsimp only
  have con := anti_at left right x la lcap ra rcap xa xcap a ca l b cb r w3 ((hcl.next hA (Nat.le_refl _)).up hA.size) ((hcr.next hA (Nat.le_refl _)).up hA.size) ((KsAt.next hA (Nat.le_refl _) hx).up hA.size) (h.next hA) (h'.next hA) hll hrl
  generalize hE : pairE 2 left right x l r = t2 at con
  generalize hZ : pairZ 2 left right x l r = f2 at con
  have E2 : Hid (pairE 2 left right x l r = t2) := hE
  have Z2 : Hid (pairZ 2 left right x l r = f2) := hZ
  clear hE hZ
  obtain ⟨s0, s1, s2, s3, s4, s5⟩ := S1.out.next hS (by omega)
  simp only [Nat.zero_add] at s1 s2 s3 s4 s5
  go_wp2_with fail
  refine con.mono ?_
  rintro e w4 ⟨vw4, rfl, O, hb⟩
  obtain ⟨a2, c2, rfl, zs2, n2⟩ := O.zs2
  have hA := chain hA hb
  have hS := chain hS hb
  have zs1 := zs1.next hb
  clear con O s0 s1 s2 s3 s4 s5 hb
  dsimp only
  have e12 : t1 = t2 := by rw [← E1.out, ← E2.out, pairE_half (.inl rfl), pairE_half (.inr rfl)]
  subst e12
  by_cases ht : t1 = 0
  · subst ht
    have HT : Hid (twoE left right x l r = 0) := by have := E1.out; rw [pairE_half (.inl rfl)] at this; exact this
    obtain ⟨q1, q2, q3⟩ := parted_one HT.out
    rw [Z1.out, Z2.out] at q1 q3
    have con := plus_at a1 a2 c1 c2 f1 f2 w4 zs1 zs2 n1
    rw [q1] at con
    generalize hP : bothZ 1 f1 f2 = s12 at con
    have HP : Hid (bothZ 1 f1 f2 = s12) := hP
    clear hP
    go_wp2_with fail
    refine con.mono ?_
    rintro e w5 ⟨v5, rfl, O5, hb⟩
    obtain ⟨a5, c5, rfl, zs5⟩ := O5.zs
    have hA := chain hA hb
    have hS := chain hS hb
    have zs2 := zs2.next hb
    clear con O5 hb zs1
    dsimp only
    have con := plus_at a none ca 0 l [] w5 (h.next hA) ⟨by simp, .inl rfl⟩ na
    rw [List.length_nil, q2] at con
    generalize hP : bothZ 1 l [] = s0 at con
    have HP0 : Hid (bothZ 1 l [] = s0) := hP
    clear hP
    go_wp2_with fail
    refine con.mono ?_
    rintro e w6 ⟨v6, rfl, O6, hb⟩
    obtain ⟨a6, c6, rfl, zs6⟩ := O6.zs
    have hA := chain hA hb
    have hS := chain hS hb
    have zs2 := zs2.next hb
    have zs5 := zs5.next hb
    clear con O6 hb
    have es : s12 = s0 := by rw [← HP.out, ← HP0.out]; exact q3
    subst es
    clear q1 q2 q3
    have con := same_eq a5 a6 c5 c6 s12 w6 zs5 zs6
    dsimp only
    go_wp2_with fail
    refine con.mono ?_
    rintro e w7 ⟨rfl, hb⟩
    have hA := chain hA hb
    have hS := chain hS hb
    have zs2 := zs2.next hb
    clear con hb zs5 zs6
    dsimp only
    have con := join_at left right x la lcap ra rcap xa xcap a ca l b cb r w7 ((hcl.next hA (Nat.le_refl _)).up hA.size) ((hcr.next hA (Nat.le_refl _)).up hA.size) ((KsAt.next hA (Nat.le_refl _) hx).up hA.size) (h.next hA) (h'.next hA) hll hrl
    generalize hE : pairE 0 left right x l r = t0 at con
    generalize hZ : pairZ 0 left right x l r = f0 at con
    have E0 : Hid (pairE 0 left right x l r = t0) := hE
    have Z0 : Hid (pairZ 0 left right x l r = f0) := hZ
    clear hE hZ
    obtain ⟨s0, s1, s2, s3, s4, s5⟩ := S1.out.next hS (by omega)
    simp only [Nat.zero_add] at s1 s2 s3 s4 s5
    go_wp2_with fail
    refine con.mono ?_
    rintro e w8 ⟨vw8, rfl, O, hb⟩
    obtain ⟨a0, c0, rfl, zs0, n0⟩ := O.zs2
    have hA := chain hA hb
    have hS := chain hS hb
    have zs2 := zs2.next hb
    clear con O s0 s1 s2 s3 s4 s5 hb
    dsimp only
    have con := left_at left right x la lcap ra rcap xa xcap a ca l b cb r w8 ((hcl.next hA (Nat.le_refl _)).up hA.size) ((hcr.next hA (Nat.le_refl _)).up hA.size) ((KsAt.next hA (Nat.le_refl _) hx).up hA.size) (h.next hA) (h'.next hA) hll hrl
    generalize hE : pairE 3 left right x l r = t3 at con
    generalize hZ : pairZ 3 left right x l r = f3 at con
    have E3 : Hid (pairE 3 left right x l r = t3) := hE
    have Z3 : Hid (pairZ 3 left right x l r = f3) := hZ
    clear hE hZ
    obtain ⟨s0, s1, s2, s3, s4, s5⟩ := S1.out.next hS (by omega)
    simp only [Nat.zero_add] at s1 s2 s3 s4 s5
    go_wp2_with fail
    refine con.mono ?_
    rintro e w9 ⟨vw9, rfl, O, hb⟩
    obtain ⟨a3, c3, rfl, zs3, n3⟩ := O.zs2
    have hA := chain hA hb
    have hS := chain hS hb
    have zs2 := zs2.next hb
    have zs0 := zs0.next hb
    clear con O s0 s1 s2 s3 s4 s5 hb
    dsimp only
    by_cases h0 : t0 = 0
    · subst h0
      by_cases h3 : t3 = 0
      · subst h3
        obtain ⟨p1, p2, p3⟩ := parted_two HT.out E0.out E3.out
        rw [Z2.out] at p1 p2 p3
        rw [Z0.out] at p2 p3
        rw [Z3.out] at p3
        have HT2 := (twoE_ok left right x l r).1 HT.out
        have hr8 : right.length ≤ 8 := by have := HT2.len; omega
        have hwz := wide_ok HT.out
        rw [Z2.out] at hwz
        have htl : f2.length ≤ 400 := by have := ((wrongZ_iff _).1 hwz.1).1; rwa [wideL_len] at this
        have HRow : Hid (∀ y ∈ f2, y.1.length + right.length ≤ 8) := fun y hy => by
          have := (((wrongZ_iff _).1 hwz.1).2.1 (y.1 ++ nulls right.length, y.2) (List.mem_map.2 ⟨y, hy, rfl⟩)).1
          rw [wrongRowF_zero] at this
          simpa [nulls] using this.1
        have HP1 : Hid (ofE (wideL right.length f2) = 0) := p1
        have HP2 : Hid (bothE 1 f0 (ofZ (wideL right.length f2)) = 0) := p2
        have HP3 : Hid (bothZ 1 f0 (ofZ (wideL right.length f2)) = f3) := p3
        clear p1 p2 p3 hwz HT2
        go_wp2_with fail
        go_loopw [21, 105] (fun v i wr => ∃ k : Nat, k ≤ f2.length ∧ i = .int .i64 k ∧ OwnJ w9.heap.size wr v (wideL right.length (f2.take k)) ∧ Below w9.heap.size w9 wr) (fun _ i _ => f2.length - (intOf i).toNat)
        case atStart => exact ⟨0, Nat.zero_le _, rfl, OwnJ.nil _ _, Below.refl _ _⟩
        case round =>
          obtain ⟨k, hk, rfl, HJ, hb⟩ := hrel
          have hzr := hb.size
          by_cases hlt : k < f2.length
          · obtain ⟨bb, off, rfl, hbl, d1, ar, cr, d0, sr⟩ := (zs2.next hb).elem hlt
            have hal : Below wr.heap.size wr (wr.alloc (.cells #[.slice ar f2[k].1.length cr, .int .i64 f2[k].2] 53)) := (Below.refl _ _).alloc (Nat.le_refl _) _
            have q0 : (wr.alloc (.cells #[.slice ar f2[k].1.length cr, .int .i64 f2[k].2] 53)).cell? ⟨wr.heap.size, 0, none⟩ = some (.slice ar f2[k].1.length cr) := by simp
            have q1 : (wr.alloc (.cells #[.slice ar f2[k].1.length cr, .int .i64 f2[k].2] 53)).cell? ⟨wr.heap.size, 1, none⟩ = some (.int .i64 f2[k].2) := by simp
            have za : (wr.alloc (.cells #[.slice ar f2[k].1.length cr, .int .i64 f2[k].2] 53)).heap.size = wr.heap.size + 1 := by simp
            have RW := raw_vals (sr.next hal)
            have hrow := HRow.out f2[k] (List.getElem_mem hlt)
            have hm63 : 0 + f2[k].1.length ≤ maxLen := by unfold maxLen; omega
            have hm32 : (0 + f2[k].1.length) * 32 ≤ 140737488355328 := by omega
            have JA := HJ.since (lo := 0) (Nat.zero_le _) (Since.of hal)
            have hbA := chain hb hal
            have HTk : Hid (wideL right.length (f2.take (k + 1)) = wideL right.length (f2.take k) ++ [(f2[k].1 ++ nulls right.length, f2[k].2)]) := wide_take hlt
            have hwl : (wideL right.length (f2.take k)).length ≤ 400 := by rw [wideL_len]; simp; omega
            have O0 : ((wr.alloc (.cells #[.slice ar f2[k].1.length cr, .int .i64 f2[k].2] 53)).alloc (.cells #[] 24)).ownsRow (wr.heap.size + 1) 24 3 (.slice (some ⟨wr.heap.size + 1, 0, none⟩) 0 0) 0 [] := by
              have := World.ownsRow_made (e := 24) (size := 3) (wr.alloc (.cells #[.slice ar f2[k].1.length cr, .int .i64 f2[k].2] 53)) #[] 0 (Nat.le_refl _) (Nat.zero_le _) (by simp)
              rw [za] at this
              exact this
            clear sr
            go_wp2_with (first | (at_builtin; refine wpList_append_raw rfl (.tmp 109) (.tmp 111) 51 rfl (wr.heap.size + 1) 24 iv _ 3 32 Tryz.underlying51 hiv hv0 hv1 hv2 rfl (by decide) _ 0 [] rfl O0 ar f2[k].1.length cr (flatV f2[k].1) rfl (RW.alloc _) hm63 hm32 (by simp) ?_))
            intro v1 w11 o1 g1
            have hb11 : Below (wr.alloc (.cells #[.slice ar f2[k].1.length cr, .int .i64 f2[k].2] 53)).heap.size (wr.alloc (.cells #[.slice ar f2[k].1.length cr, .int .i64 f2[k].2] 53)) w11 := ((Below.refl _ _).alloc (Nat.le_refl _) _).grown g1 (by simp) (by simp [Value.ownBlock])
            have o1 : w11.ownsRow (wr.heap.size + 1) 24 3 v1 (f2[k].1.length + 0) (flatV (f2[k].1 ++ nulls 0)) := by
              have : f2[k].1 ++ nulls 0 = f2[k].1 := by simp [nulls]
              rw [this]
              simpa [za] using o1
            clear g1 RW
            generalize (wr.alloc (.cells #[.slice ar f2[k].1.length cr, .int .i64 f2[k].2] 53)) = wa at *
            go_wp2_with fail
            obtain ⟨wo, hwo⟩ : ∃ z, z = wr := ⟨_, rfl⟩
            obtain ⟨uo, huo⟩ : ∃ z, z = u21 := ⟨_, rfl⟩
            subst hwo huo
            go_loopw [24, 115] (fun v i ws => ∃ j : Nat, j ≤ right.length ∧ i = .int .i64 j ∧ ws.ownsRow (wo.heap.size + 1) 24 3 v (f2[k].1.length + j) (flatV (f2[k].1 ++ nulls j)) ∧ Below wa.heap.size wa ws) (fun _ i _ => right.length - (intOf i).toNat)
            case atStart => exact ⟨0, Nat.zero_le _, rfl, o1, hb11⟩
            case round =>
              clear o1 hb11
              obtain ⟨j, hj, rfl, oj, hbj⟩ := hrel
              have hzj := hbj.size
              by_cases hjt : j < right.length
              · go_wp2_with fail
                refine (refNull_any _).mono ?_
                rintro e w12 ⟨rfl, hb12⟩
                have hz12 := hb12.size
                have oj2 := own_next oj hb12
                have hB12 := chain hbj hb12
                dsimp only
                go_wp2_with (first | (at_builtin; refine wpList_append_own _ rfl _ _ 51 rfl _ 24 iv _ 3 32 Tryz.underlying51 hiv hv0 hv1 hv2 rfl (by decide) _ _ _ rfl (oj2.alloc _) ⟨w12.heap.size, 0, none⟩ 1 1 [.int .i64 1, .int .i64 0, .string ⟨#[]⟩] rfl rfl ?Ac1 ?Ac2 ?Ac3 ?Ac4 ?Ac5 ?_))
                case Ac1 =>
                  intro i u hu
                  match i, hu with
                  | 0, hu => simp at hu; subst hu; simp [Addr.add]
                  | 1, hu => simp at hu; subst hu; simp [Addr.add]
                  | 2, hu => simp at hu; subst hu; simp [Addr.add]
                case Ac2 => intro u hu; simp at hu; rcases hu with rfl | rfl | rfl <;> rfl
                case Ac3 => unfold maxLen; omega
                case Ac4 => omega
                case Ac5 => simp; omega
                intro v' w13 o13 g13 _
                have hb13 : Below wa.heap.size wa w13 := hB12.trans (((Below.refl _ _).alloc (by omega) _).grown g13 (by simp; omega) (fun q hq => by have := ((oj2.alloc (.cells #[.int .i64 1, .int .i64 0, .string ⟨#[]⟩] 24)).lt q hq).1; omega))
                have o13' : w13.ownsRow (wo.heap.size + 1) 24 3 v' (f2[k].1.length + (j + 1)) (flatV (f2[k].1 ++ nulls (j + 1))) := by
                  rw [nulls_succ, ← List.append_assoc, flatV_append]
                  exact o13
                clear g13 oj oj2 o13
                go_wp2_with fail
                go_roundw
                case rel => exact ⟨j + 1, by omega, by go_num, o13', hb13⟩
                case measure => simp [intOf]; omega
              · have e : j = right.length := by omega
                subst e
                have ge8 : ∀ g, u24.ownBlock = some g → w9.heap.size ≤ g := fun g hg => by
                  have := (oj.lt g hg).1
                  omega
                obtain ⟨a8, c8, rfl, S8, T8, _⟩ := own_vals oj (by simp [nulls])
                have q1' := (hbj.cell (p := ⟨wo.heap.size, 1, none⟩) (by show wo.heap.size < _; omega)).trans q1
                obtain ⟨n8, hn8⟩ : ∃ n8, n8 = (f2[k].1 ++ nulls right.length).length := ⟨_, rfl⟩
                rw [← hn8]
                have HN8 : Hid (n8 = (f2[k].1 ++ nulls right.length).length) := hn8
                have hal3 : Below wr.heap.size wr (wr.alloc (.cells #[.slice a8 n8 c8, .int .i64 f2[k].2] 53)) := (Below.refl _ _).alloc (Nat.le_refl _) _
                have S9 := S8.next hal3
                have T9 := T8.next hal3
                have D3 := chain hbj hal3
                obtain ⟨xs, o9, en9, bb9⟩ := JA.since (lo := 0) (Nat.zero_le _) (Since.of D3)
                have ge9 : ∀ b o, a8 = some ⟨b, o, none⟩ → w9.heap.size ≤ b := fun b o e => ge8 b (by rw [e]; rfl)
                clear hn8 oj S8 T8 ge8
                go_wp2_with (first | (at_builtin; refine wpList_append_own _ rfl _ _ 28 rfl w9.heap.size 53 i0 _ 2 32 Tryz.underlying28 hi hj0 hj1 hj2 rfl (by decide) _ _ _ rfl o9 ⟨wr.heap.size, 0, none⟩ 1 1 [.slice a8 n8 c8, .int .i64 f2[k].2] rfl rfl ?Bc1 ?Bc2 ?Bc3 ?Bc4 ?Bc5 ?_))
                case Bc1 =>
                  intro i u hu
                  match i, hu with
                  | 0, hu => simp at hu; subst hu; simp [Addr.add]
                  | 1, hu => simp at hu; subst hu; simp [Addr.add]
                case Bc2 => intro u hu; simp at hu; rcases hu with rfl | rfl <;> rfl
                case Bc3 => unfold maxLen; omega
                case Bc4 => omega
                case Bc5 => simp; omega
                intro v' w14 o14 g14 _
                have hb14 : Below w9.heap.size w9 w14 := (chain hbA D3).trans ((Below.refl _ _).grown g14 (by simp; omega) (fun q hq => (o9.lt q hq).1))
                have OJ : OwnJ w9.heap.size w14 v' (wideL right.length (f2.take k) ++ [(f2[k].1 ++ nulls right.length, f2[k].2)]) := OwnJ.push o9 en9 bb9 S9 T9 ge9 (by have := HN8.out; rw [← this]; exact o14) g14
                clear o9 en9 bb9 S9 T9 o14 g14 D3 hal3
                go_wp2_with fail
                go_roundw
                case rel =>
                  (repeat apply Exists.intro)
                  exact ⟨⟨k + 1, by omega, by go_num, by rw [HTk.out]; exact OJ, hb14⟩, rfl⟩
                case measure => simp [intOf]; omega
          · have e : k = f2.length := by omega
            subst e
            rw [List.take_length] at HJ
            obtain ⟨av, cv, rfl, zsw⟩ := HJ.z.zs
            have con := of_at av cv (wideL right.length f2) wr zsw
            rw [HP1.out] at con
            generalize hO : ofZ (wideL right.length f2) = gz at con
            have HG : Hid (ofZ (wideL right.length f2) = gz) := hO
            clear hO HJ
            have hA10 := chain hA hb
            go_wp2_with fail
            refine con.mono ?_
            rintro e w15 ⟨v15, rfl, O15, hb15⟩
            obtain ⟨a15, c15, rfl, zs15⟩ := O15.zs
            have hA11 := chain hA10 hb15
            have zsj := (zs0.next hb).next hb15
            have zso := (zs3.next hb).next hb15
            clear con O15
            have con := plus_at a0 a15 c0 c15 f0 gz w15 zsj zs15 n0
            have e1 := HP2.out
            have e2 := HP3.out
            rw [HG.out] at e1 e2
            rw [e1, e2] at con
            clear e1 e2
            dsimp only
            go_wp2_with fail
            refine con.mono ?_
            rintro e w16 ⟨v16, rfl, O16, hb16⟩
            obtain ⟨a16, c16, rfl, zs16⟩ := O16.zs
            have hA12 := chain hA11 hb16
            have zso := zso.next hb16
            clear con O16
            have con := same_eq a3 a16 c3 c16 f3 w16 zso zs16
            dsimp only
            go_wp2_with fail
            refine con.mono ?_
            rintro e w17 ⟨rfl, hb17⟩
            clear con
            dsimp only
            go_wp2_with fail
            go_ret
            exact ⟨rfl, chain hA12 hb17⟩
      · have hne : (t3 != 0) = true := by simpa using h3
        clear h3
        go_wp2_with fail
        go_ret
        exact ⟨rfl, hA⟩
    · have hne : (t0 != 0) = true := by simpa using h0
      clear h0
      go_wp2_with fail
      go_ret
      exact ⟨rfl, hA⟩
  · have hne : (t1 != 0) = true := by simpa using ht
    clear ht
    go_wp2_with fail
    go_ret
    exact ⟨by simp, hA⟩
end Go.Proofs.YtfojonhblblbjaaGreat
