/- The walk of exprs' typeOf. -/
import Derived.Test.YtbdhmjojamoafaaY4
namespace Go.Proofs.Ytbdhmjojamoafaa
open Go.RowKit

/-- What typeOf is asked for. -/
def TypeOfAt (cols : List Int) (x : Ex) : Prop :=
  ∀ (B t : Nat) (ca : Option Addr) (ccap : Nat) (a : Option Addr) (cap : Nat) (m d : Int) (w : World), KsAt B w a x.ks → IsAt B w ca cols → B ≤ t → TyAt w t ca cols.length ccap m → 0 ≤ m → m ≤ 200 → 0 ≤ d → d ≤ 21 →
    Calls Try.prog 23 #[.pointer (some ⟨t, 0, none⟩), exV x.k x.v x.c a x.ks.length cap, .int .i64 d] w fun e w' =>
      e = .returned (.tuple #[.int .i64 (typeX cols x m d).1, .int .i64 (typeX cols x m d).2.1]) ∧ BelowX t w w' ∧ TyAt w' t ca cols.length ccap (typeX cols x m d).2.2

theorem typeX_bad {cols : List Int} {k : Int} {v : Vl} {c : Int} {ks : List Ex} {m d : Int} (h : ¬ nodeW k ks.length (m + 1) d = 0) : typeX cols (.mk k v c ks) m d = (0, nodeW k ks.length (m + 1) d, m + 1) := by
  rw [typeX, if_pos h]
theorem typeX_kid {cols : List Int} {k : Int} {v : Vl} {c : Int} {ks : List Ex} {m d : Int} (h : nodeW k ks.length (m + 1) d = 0) {e : Int} {ts : List Int} {n : Int} (hk : typesX cols ks [] (m + 1) (d + 1) = (e, ts, n)) (he : ¬ e = 0) : typeX cols (.mk k v c ks) m d = (0, e, n) := by
  rw [typeX, if_neg (by simp [h]), hk, if_pos he]
theorem typeX_own {cols : List Int} {k : Int} {v : Vl} {c : Int} {ks : List Ex} {m d : Int} (h : nodeW k ks.length (m + 1) d = 0) {ts : List Int} {n : Int} (hk : typesX cols ks [] (m + 1) (d + 1) = (0, ts, n)) : typeX cols (.mk k v c ks) m d = ((nodeT cols k v c ts).1, (nodeT cols k v c ts).2, n) := by
  rw [typeX, if_neg (by simp [h]), hk, if_neg (by simp)]
theorem typesX_end (cols : List Int) (ks : List Ex) (ts : List Int) (n d : Int) (j : Nat) (h : ks.length ≤ j) : typesX cols (ks.drop j) ts n d = (0, ts, n) := by
  rw [List.drop_eq_nil_of_le h, typesX]
theorem typesX_bad (cols : List Int) (ks : List Ex) (ts : List Int) (n d : Int) (j : Nat) (h : j < ks.length) (he : ¬ (typeX cols ks[j] n d).2.1 = 0) : typesX cols (ks.drop j) ts n d = ((typeX cols ks[j] n d).2.1, ts, (typeX cols ks[j] n d).2.2) := by
  rw [List.drop_eq_getElem_cons h, typesX, if_pos he]
theorem typesX_next (cols : List Int) (ks : List Ex) (ts : List Int) (n d : Int) (j : Nat) (h : j < ks.length) (he : (typeX cols ks[j] n d).2.1 = 0) : typesX cols (ks.drop j) ts n d = typesX cols (ks.drop (j + 1)) (ts ++ [(typeX cols ks[j] n d).1]) (typeX cols ks[j] n d).2.2 d := by
  rw [List.drop_eq_getElem_cons h, typesX, if_neg (by simp [he])]

theorem cell_far {W : World} {g o b p : Nat} {u : Value} (hn : g ≠ b) : (W.setCell ⟨g, o, none⟩ u).cell? ⟨b, p, none⟩ = W.cell? ⟨b, p, none⟩ :=
  World.cell?_setCell_other _ _ _ _ (by intro h; injection h with h; exact hn h)
theorem Six.far {W : World} {b off : Nat} {k : Int} {v : Vl} {c : Int} {a : Option Addr} {n cap : Nat} (h : Six W b off k v c a n cap) (g o : Nat) (u : Value) (hn : g ≠ b) : Six (W.setCell ⟨g, o, none⟩ u) b off k v c a n cap :=
  ⟨(cell_far hn).trans h.c0, (cell_far hn).trans h.c1, (cell_far hn).trans h.c2, (cell_far hn).trans h.c3, (cell_far hn).trans h.c4, (cell_far hn).trans h.c5⟩
theorem TyAt.far {W : World} {t : Nat} {ca : Option Addr} {n cap : Nat} {m : Int} (h : TyAt W t ca n cap m) (g o : Nat) (u : Value) (hn : g ≠ t) : TyAt (W.setCell ⟨g, o, none⟩ u) t ca n cap m :=
  ⟨by simpa using h.lt, (cell_far hn).trans h.c0, (cell_far hn).trans h.c1, by simpa using h.f1⟩
theorem pad_set (ts : List Int) (n j : Nat) (x : Int) (h : ts.length = j) (hj : j < n) : (ts ++ List.replicate (n - j) 0).set j x = (ts ++ [x]) ++ List.replicate (n - (j + 1)) 0 := by
  subst h
  obtain ⟨q, hq⟩ : ∃ q, n - ts.length = q + 1 := ⟨n - ts.length - 1, by omega⟩
  have hq' : n - (ts.length + 1) = q := by omega
  rw [hq, hq', List.replicate_succ, List.set_append_right _ _ (Nat.le_refl _)]
  simp

set_option maxHeartbeats 2000000 in
theorem typeOf_at (cols : List Int) (k : Int) (v : Vl) (c : Int) (ks : List Ex) (ih : ∀ x ∈ ks, TypeOfAt cols x) : TypeOfAt cols (.mk k v c ks) := by
  intro B t ca ccap a cap m d w hk hc hBt ht hm0 hm hd0 hd
  simp only [Ex.k, Ex.v, Ex.c, Ex.ks] at hk ⊢
  have H1 := ht.lt
  have H2 := ht.c1
  have H3 := ht.f1
  generalize hr : typeX cols (.mk k v c ks) m d = r
  have HR : Hid (typeX cols (.mk k v c ks) m d = r) := hr
  clear hr
  go_enter Try.func23, Try.ntmps23
  go_wp2_with fail
  have T0 := ht.count (m + 1)
  have X0 := (BelowX.refl t w).set 1 (.int .i64 (m + 1))
  have SA := Six.new (w.setCell ⟨t, 1, none⟩ (.int .i64 (m + 1))) k v c a ks.length cap 27
  rw [World.size_setCell] at SA
  have hal : Below (w.setCell ⟨t, 1, none⟩ (.int .i64 (m + 1))).heap.size (w.setCell ⟨t, 1, none⟩ (.int .i64 (m + 1))) ((w.setCell ⟨t, 1, none⟩ (.int .i64 (m + 1))).alloc (.cells #[.int .i64 k, .int .i64 v.1, .int .i64 v.2.1, .string v.2.2, .int .i64 c, .slice a ks.length cap] 27)) := (Below.refl _ _).alloc (Nat.le_refl _) _
  have TA := T0.next hal
  have XA := X0.trans (BelowX.of hal (by simp; omega))
  have zA : w.heap.size < ((w.setCell ⟨t, 1, none⟩ (.int .i64 (m + 1))).alloc (.cells #[.int .i64 k, .int .i64 v.1, .int .i64 v.2.1, .string v.2.2, .int .i64 c, .slice a ks.length cap] 27)).heap.size := by simp
  clear hal T0 X0 H2 H3 ht
  generalize (w.setCell ⟨t, 1, none⟩ (.int .i64 (m + 1))).alloc (.cells #[.int .i64 k, .int .i64 v.1, .int .i64 v.2.1, .string v.2.2, .int .i64 c, .slice a ks.length cap] 27) = wA at *
  have p0 := past_cell SA.c0
  have p1 := past_cell SA.c1
  have p2 := past_cell SA.c2
  have p3 := past_cell SA.c3
  have p4 := past_cell SA.c4
  have p5 := past_cell SA.c5
  have p6 := past_cell TA.c1
  simp only [Nat.zero_add] at p1 p2 p3 p4 p5
  haveI : Nonempty (Past wA) := ⟨⟨_, Below.refl _ _⟩⟩
  refine wp_region_past (by kernel_rfl) (by kernel_rfl) ?_
  repeat (go_big_quiet_step (first | (go_at_call 31; exact in_past (wrongNode_at k v c a ks.length cap (m + 1) d _))))
  refine wpQuiet_nil ?_
  rintro w3 ⟨⟨v3, hb3⟩, h3'⟩
  obtain rfl : w3 = v3 := h3'
  have T3 := TA.next hb3
  have S3 := SA.next hb3 zA
  have X3 := XA.trans (BelowX.of hb3 (by omega))
  have z3 := hb3.size
  clear p0 p1 p2 p3 p4 p5 p6 TA SA XA this
  generalize hw0 : nodeW k ks.length (m + 1) d = e0
  by_cases hw : e0 = 0
  · subst hw
    have HW : Hid (nodeW k ks.length (m + 1) d = 0) := hw0
    have hq : ks.length = kidsN k ∧ 1 ≤ k ∧ k ≤ 18 ∧ m + 1 ≤ 200 ∧ d ≤ 20 := by
      unfold nodeW at hw0
      by_cases g1 : 200 < m + 1 ∨ 20 < d
      · simp [g1] at hw0
      by_cases g2 : k < 1 ∨ 18 < k
      · simp [g1, g2] at hw0
      by_cases g3 : ks.length = kidsN k
      · exact ⟨g3, by omega⟩
      · simp [g1, g2, g3] at hw0
    obtain ⟨hln, hk1, hk18, hm1, hd1⟩ := hq
    have hl3 : ks.length ≤ 3 := by rw [hln]; exact kidsN_le k
    have HL : Hid (ks.length = kidsN k) := hln
    have hmk := make_ints hl3
    clear hw0 hln
    obtain ⟨s0, s1, s2, s3, s4, s5⟩ := S3
    simp only [Nat.zero_add] at s1 s2 s3 s4 s5
    have zl : w.heap.size < w3.heap.size := by omega
    go_wp2_with fail
    have S3 : Six w3 w.heap.size 0 k v c a ks.length cap := ⟨s0, s1, s2, s3, s4, s5⟩
    have O4 := Own1.new w3 ks.length 3
    have hal : Below w3.heap.size w3 (w3.alloc (.cells (Array.replicate ks.length (.int .i64 0)) 3)) := (Below.refl _ _).alloc (Nat.le_refl _) _
    have T4 := T3.next hal
    have S4 := S3.next hal zl
    have X4 := X3.trans (BelowX.of hal (by omega))
    generalize w3.alloc (.cells (Array.replicate ks.length (.int .i64 0)) 3) = w4 at *
    clear hal T3 S3 X3 s0 s1 s2 s3 s4 s5 hmk hb3 z3 zA
    generalize w3.heap.size = g at *
    go_loopw [38] (fun i wr => ∃ (j : Nat) (ts : List Int) (q : Int), j ≤ ks.length ∧ i = .int .i64 j ∧ Hid (ts.length = j) ∧ 0 ≤ q ∧ q ≤ 200 ∧ Hid (typesX cols ks [] (m + 1) (d + 1) = typesX cols (ks.drop j) ts q (d + 1)) ∧
      BelowX t w wr ∧ TyAt wr t ca cols.length ccap q ∧ Six wr w.heap.size 0 k v c a ks.length cap ∧ Own1 wr g (ts ++ List.replicate (ks.length - j) 0)) (fun i _ => ks.length - (intOf i).toNat)
    case atStart => exact ⟨0, [], m + 1, Nat.zero_le _, rfl, rfl, by omega, hm1, rfl, X4, T4, S4, by simpa using O4⟩
    case round =>
      obtain ⟨j, ts, q, hj, rfl, HT, hq0, hq, HE, hX, hT, hS, hO⟩ := hrel
      have hz := hX.size
      have hOl := hO.lt
      by_cases hlt : j < ks.length
      · obtain ⟨b, off, ai, ci, rfl, hbl, sx, kx⟩ := (KsAt.next (hX.below hBt) (Nat.le_refl _) hk).elem hlt
        have hcr := hc.next (hX.below hBt) (Nat.le_refl _)
        obtain ⟨x0, x1, x2, x3, x4, x5⟩ := sx
        have hal : Below wr.heap.size wr (wr.alloc (.cells #[.int .i64 ks[j].k, .int .i64 ks[j].v.1, .int .i64 ks[j].v.2.1, .string ks[j].v.2.2, .int .i64 ks[j].c, .slice ai ks[j].ks.length ci] 27)) := (Below.refl _ _).alloc (Nat.le_refl _) _
        have con := ih ks[j] (List.getElem_mem _) B t ca ccap ai ci q (d + 1) _ (KsAt.next hal (by omega) kx) (hcr.next hal (by omega)) hBt (hT.next hal) hq0 hq (by omega) (by omega)
        go_wp2_with fail
        refine con.mono ?_
        clear con
        rintro e w5 ⟨rfl, hX5, hT5⟩
        have X5 := (BelowX.of hal (t := t) (by omega)).trans hX5
        have hX5' := hX.trans X5
        have O5 := hO.nextX X5 (by omega)
        have S5 := hS.nextX X5 (by omega) (by omega)
        generalize hty : typeX cols ks[j] q (d + 1) = ty at *
        have HY : Hid (typeX cols ks[j] q (d + 1) = ty) := hty
        obtain ⟨t1, e1, n1⟩ := ty
        clear hty hX5 hal hT hS hO x0 x1 x2 x3 x4 x5 kx hcr
        by_cases he : e1 = 0
        · subst he
          have hn1 := typeX_n (by rw [HY.out] : (typeX cols ks[j] q (d + 1)).2.1 = 0)
          rw [HY.out] at hn1
          have HN : Hid (n1 ≤ 200 ∧ q < n1) := hn1
          have hlen : j < (ts ++ List.replicate (ks.length - j) 0).length := by have := HT.out; simp; omega
          have cc : w5.cell? ⟨g, j, none⟩ = some (.int .i64 ((ts ++ List.replicate (ks.length - j) 0).getD j 0)) := by rw [O5.c j hlen]; simp [List.getD, List.getElem?_eq_getElem hlen]
          generalize (ts ++ List.replicate (ks.length - j) 0).getD j 0 = old at cc
          have ff := O5.f j
          have O6 := O5.set j hlen t1
          rw [pad_set ts ks.length j t1 HT.out hlt] at O6
          have S6 := S5.far g j (.int .i64 t1) (by omega)
          have T6 := hT5.far g j (.int .i64 t1) (by omega)
          have X6 := hX5'.setNew g j (.int .i64 t1) (by omega) (by omega)
          clear hn1 O5 S5 hT5 hX5' X5 hlen
          go_wp2_with fail
          go_roundw
          case rel => exact ⟨j + 1, ts ++ [t1], n1, by omega, by go_num, by have := HT.out; show (ts ++ [t1]).length = j + 1; simp [this], by have := HN.out; omega, HN.out.1, by rw [HE.out, typesX_next cols ks ts q (d + 1) j hlt (by rw [HY.out]), HY.out]; rfl, X6, T6, S6, O6⟩
          case measure => simp [intOf]; omega
        · have er : r = (0, e1, n1) := by
            rw [← HR.out]
            refine typeX_kid HW.out (ts := ts) ?_ he
            rw [HE.out, typesX_bad cols ks ts q (d + 1) j hlt (by rw [HY.out]; exact he), HY.out]
          subst er
          have q' : (e1 != 0) = true := by simpa using he
          clear HR O5 S5
          go_wp2_with fail
          exact bodyPost_ret (v := .tuple #[.int .i64 0, .int .i64 e1]) (by simp [results, Try.results23, go_sem]) rfl ⟨rfl, hX5', hT5⟩
      · have ej : j = ks.length := by omega
        subst ej
        have hts := HT.out
        rw [Nat.sub_self, List.replicate_zero, List.append_nil] at hO
        have er : r = ((nodeT cols k v c ts).1, (nodeT cols k v c ts).2, q) := by
          rw [← HR.out]
          refine typeX_own HW.out ?_
          rw [HE.out, typesX_end cols ks ts q (d + 1) _ (Nat.le_refl _)]
        have HTS : Hid (ts.length = ks.length) := hts
        clear HR HE hts HT
        obtain ⟨s0, s1, s2, s3, s4, s5⟩ := hS
        simp only [Nat.zero_add] at s1 s2 s3 s4 s5
        by_cases k1 : k = 1
        · subst k1
          have e : nodeT cols 1 v c ts = litT v := by simp [nodeT]
          rw [e] at er
          subst er
          clear e
          go_wp2_with fail
          refine (litType_at v _).mono ?_
          rintro e w5 ⟨rfl, hb5⟩
          have T5 := hT.next hb5
          have X5 := hX.trans (BelowX.of hb5 (by omega))
          clear s0 s1 s2 s3 s4 s5
          go_wp2_with fail
          exact bodyPost_ret (v := .tuple #[.int .i64 (litT v).1, .int .i64 (litT v).2]) (by simp [results, Try.results23, go_sem]) rfl ⟨rfl, X5, T5⟩
        have n1 : (k == 1) = false := by simpa using k1
        by_cases k2 : k = 2
        · subst k2
          have e : nodeT cols 2 v c ts = colT cols c := by simp [nodeT]
          rw [e] at er
          subst er
          clear e
          have hcr := hc.next (hX.below hBt) (Nat.le_refl _)
          have p0 := past_cell hT.c0
          have p4 := past_cell s4
          haveI : Nonempty (Past wr) := ⟨⟨_, Below.refl _ _⟩⟩
          go_wp2_with fail
          refine wp_region_past (by kernel_rfl) (by kernel_rfl) ?_
          repeat (go_big_quiet_step (first | (go_at_call 33; exact in_past (colType_at B ca ccap cols c _ (hcr.next (Past.ok _) (by omega))))))
          refine wpQuiet_nil ?_
          rintro w5 ⟨⟨v5, hb5⟩, h5⟩
          obtain rfl : w5 = v5 := h5
          have T5 := hT.next hb5
          have X5 := hX.trans (BelowX.of hb5 (by omega))
          clear p0 p4 s0 s1 s2 s3 s4 s5
          go_wp2_with fail
          exact bodyPost_ret (v := .tuple #[.int .i64 (colT cols c).1, .int .i64 (colT cols c).2]) (by simp [results, Try.results23, go_sem]) rfl ⟨rfl, X5, T5⟩
        have n2 : (k == 2) = false := by simpa using k2
        have e : nodeT cols k v c ts = resT (kidsT k ts) := by simp [nodeT, k1, k2]
        rw [e] at er
        clear e
        have con := kidsType_at k wr.heap.size (some ⟨g, 0, none⟩) ks.length ts wr (Nat.le_refl _) (hO.is (by rw [HTS.out]; unfold maxLen; omega)) (by omega) hk18 (by rw [HTS.out]; exact HL.out)
        rw [HTS.out] at con
        generalize resT (kidsT k ts) = rr at *
        subst er
        go_wp2_with fail
        refine con.mono ?_
        rintro e w5 ⟨rfl, hb5⟩
        have T5 := hT.next hb5
        have X5 := hX.trans (BelowX.of hb5 (by omega))
        clear con s0 s1 s2 s3 s4 s5
        go_wp2_with fail
        exact bodyPost_ret (v := .tuple #[.int .i64 rr.1, .int .i64 rr.2]) (by simp [results, Try.results23, go_sem]) rfl ⟨rfl, X5, T5⟩
  · have er : r = (0, e0, m + 1) := by rw [← HR.out, ← hw0, typeX_bad (by rw [hw0]; exact hw)]
    subst er
    have q : (e0 != 0) = true := by simpa using hw
    clear hw0 HR S3
    go_wp2_with fail
    exact bodyPost_ret (v := .tuple #[.int .i64 0, .int .i64 e0]) (by simp [results, Try.results23, go_sem]) rfl ⟨rfl, X3, T3⟩
theorem typeOf_any (cols : List Int) : ∀ x, TypeOfAt cols x := Ex.ind fun k v c ks ih => typeOf_at cols k v c ks ih
end Go.Proofs.Ytbdhmjojamoafaa
