/- Together: Y5, K3, Y6, Z4, P1, Z5, Z6, Z7, Z8. -/
import Derived.Deep.RegionWith
import Derived.Laws.EntriesVeiled
import Derived.Shelf.Abstract
import Derived.Shelf.SlSortCmp.WholeK
import Derived.Shelf.Lay
import Derived.Ground.SlsfProg
import Derived.Deep.Slices
import Derived.Test.YtfojonhblblbjaaGreatB3
import Derived.Test.YtfojonhblblbjaaGreatB2
import Derived.Test.YtfojonhblblbjaaGreatB1
/- The walk of exprs' typeOf. -/
namespace Go.Proofs.YtfojonhblblbjaaGreat
open Go.RowKit

/-- What typeOf is asked for. -/
def TypeOfAt (cols : List Int) (x : Ex) : Prop :=
  ∀ (B t : Nat) (ca : Option Addr) (ccap : Nat) (a : Option Addr) (cap : Nat) (m d : Int) (w : World), KsAt B w a x.ks → IsAt B w ca cols → B ≤ t → TyC w t ca cols.length ccap m → 0 ≤ m → m ≤ 200 → 0 ≤ d → d ≤ 21 →
    Calls Tryz.prog 137 #[.pointer (some ⟨t, 0, none⟩), exV x.k x.v x.c a x.ks.length cap, .int .i64 d] w fun e w' =>
      e = .returned (.tuple #[.int .i64 (typeX cols x m d).1, .int .i64 (typeX cols x m d).2.1]) ∧ BelowX t w w' ∧ TyC w' t ca cols.length ccap (typeX cols x m d).2.2

theorem typeX_bad {cols : List Int} {k : Int} {v : Vl} {c : Int} {ks : List Ex} {m d : Int} (h : ¬ nodeW k ks.length (m + 1) d = 0) : typeX cols (.mk k v c ks) m d = (0, nodeW k ks.length (m + 1) d, m + 1) := by
  rw [typeX, if_pos h]
theorem typeX_kid {cols : List Int} {k : Int} {v : Vl} {c : Int} {ks : List Ex} {m d : Int} (h : nodeW k ks.length (m + 1) d = 0) {e : Int} {ts : List Int} {n : Int} (hk : typesX cols ks [] (m + 1) (d + 1) = (e, ts, n)) (he : ¬ e = 0) : typeX cols (.mk k v c ks) m d = (0, e, n) := by
  rw [typeX, if_neg (by simp [h]), hk, if_pos he]
theorem typeX_own {cols : List Int} {k : Int} {v : Vl} {c : Int} {ks : List Ex} {m d : Int} (h : nodeW k ks.length (m + 1) d = 0) {ts : List Int} {n : Int} (hk : typesX cols ks [] (m + 1) (d + 1) = (0, ts, n)) : typeX cols (.mk k v c ks) m d = ((nodeT cols k v c ts).1, (nodeT cols k v c ts).2, n) := by
  rw [typeX, if_neg (by simp [h]), hk, if_neg (by simp)]
theorem typesX_end (cols : List Int) (ks : List Ex) (ts : List Int) (n d : Int) (j : Nat) (h : ks.length ≤ j) : typesX cols (ks.drop j) ts n d = (0, ts, n) := by
  rw [List.drop_eq_nil_of_le h, typesX]
theorem typesX_bad (cols : List Int) (ks : List Ex) (ts : List Int) (n d : Int) (j : Nat) (h : j < ks.length) (he : ¬ (typeX cols ks[j] n d).2.1 = 0) : typesX cols (ks.drop j) ts n d = ((typeX cols ks[j] n d).2.1, ts, (typeX cols ks[j] n d).2.2) := by
  rw [List.drop_eq_getElem_cons h, typesX, if_pos he]
theorem typesX_next (cols : List Int) (ks : List Ex) (ts : List Int) (n d : Int) (j : Nat) (h : j < ks.length) (he : (typeX cols ks[j] n d).2.1 = 0) : typesX cols (ks.drop j) ts n d = typesX cols (ks.drop (j + 1)) (ts ++ [(typeX cols ks[j] n d).1]) (typeX cols ks[j] n d).2.2 d := by
  rw [List.drop_eq_getElem_cons h, typesX, if_neg (by simp [he])]

theorem cell_far {W : World} {g o b p : Nat} {u : Value} (hn : g ≠ b) : (W.setCell ⟨g, o, none⟩ u).cell? ⟨b, p, none⟩ = W.cell? ⟨b, p, none⟩ :=
  World.cell?_setCell_other _ _ _ _ (by intro h; injection h with h; exact hn h)
theorem Six.far {W : World} {b off : Nat} {k : Int} {v : Vl} {c : Int} {a : Option Addr} {n cap : Nat} (h : Six W b off k v c a n cap) (g o : Nat) (u : Value) (hn : g ≠ b) : Six (W.setCell ⟨g, o, none⟩ u) b off k v c a n cap :=
  ⟨(cell_far hn).trans h.c0, (cell_far hn).trans h.c1, (cell_far hn).trans h.c2, (cell_far hn).trans h.c3, (cell_far hn).trans h.c4, (cell_far hn).trans h.c5⟩
theorem TyC.far {W : World} {t : Nat} {ca : Option Addr} {n cap : Nat} {m : Int} (h : TyC W t ca n cap m) (g o : Nat) (u : Value) (hn : g ≠ t) : TyC (W.setCell ⟨g, o, none⟩ u) t ca n cap m :=
  ⟨by simpa using h.lt, (cell_far hn).trans h.c0, (cell_far hn).trans h.c1, by simpa using h.f1⟩
theorem pad_set (ts : List Int) (n j : Nat) (x : Int) (h : ts.length = j) (hj : j < n) : (ts ++ List.replicate (n - j) 0).set j x = (ts ++ [x]) ++ List.replicate (n - (j + 1)) 0 := by
  subst h
  obtain ⟨q, hq⟩ : ∃ q, n - ts.length = q + 1 := ⟨n - ts.length - 1, by omega⟩
  have hq' : n - (ts.length + 1) = q := by omega
  rw [hq, hq', List.replicate_succ, List.set_append_right _ _ (Nat.le_refl _)]
  simp

set_option maxHeartbeats 2000000 in
theorem typeOf_at (cols : List Int) (k : Int) (v : Vl) (c : Int) (ks : List Ex) (ih : ∀ x ∈ ks, TypeOfAt cols x) : TypeOfAt cols (.mk k v c ks) := by
  intro B t ca ccap a cap m d w hk hc hBt ht hm0 hm hd0 hd
  simp only [Ex.k, Ex.v, Ex.c, Ex.ks] at hk ⊢
  have H1 := ht.lt
  have H2 := ht.c1
  have H3 := ht.f1
  generalize hr : typeX cols (.mk k v c ks) m d = r
  have HR : Hid (typeX cols (.mk k v c ks) m d = r) := hr
  clear hr
  go_enter Tryz.func137, Tryz.ntmps137
  go_wp2_with fail
  have T0 := ht.count (m + 1)
  have X0 := (BelowX.refl t w).set 1 (.int .i64 (m + 1))
  have SA := Six.new (w.setCell ⟨t, 1, none⟩ (.int .i64 (m + 1))) k v c a ks.length cap 27
  rw [World.size_setCell] at SA
  have hal : Below (w.setCell ⟨t, 1, none⟩ (.int .i64 (m + 1))).heap.size (w.setCell ⟨t, 1, none⟩ (.int .i64 (m + 1))) ((w.setCell ⟨t, 1, none⟩ (.int .i64 (m + 1))).alloc (.cells #[.int .i64 k, .int .i64 v.1, .int .i64 v.2.1, .string v.2.2, .int .i64 c, .slice a ks.length cap] 27)) := (Below.refl _ _).alloc (Nat.le_refl _) _
  have TA := T0.next hal
  have XA := X0.trans (BelowX.of hal (by simp; omega))
  have zA : w.heap.size < ((w.setCell ⟨t, 1, none⟩ (.int .i64 (m + 1))).alloc (.cells #[.int .i64 k, .int .i64 v.1, .int .i64 v.2.1, .string v.2.2, .int .i64 c, .slice a ks.length cap] 27)).heap.size := by simp
  clear hal T0 X0 H2 H3 ht
  generalize (w.setCell ⟨t, 1, none⟩ (.int .i64 (m + 1))).alloc (.cells #[.int .i64 k, .int .i64 v.1, .int .i64 v.2.1, .string v.2.2, .int .i64 c, .slice a ks.length cap] 27) = wA at *
  have p0 := past_cell SA.c0
  have p1 := past_cell SA.c1
  have p2 := past_cell SA.c2
  have p3 := past_cell SA.c3
  have p4 := past_cell SA.c4
  have p5 := past_cell SA.c5
  have p6 := past_cell TA.c1
  simp only [Nat.zero_add] at p1 p2 p3 p4 p5
  haveI : Nonempty (Past wA) := ⟨⟨_, Below.refl _ _⟩⟩
  refine wp_region_past (by kernel_rfl) (by kernel_rfl) ?_
  repeat (go_big_quiet_step (first | (go_at_call 168; exact in_past (wrongNode_at k v c a ks.length cap (m + 1) d _))))
  refine wpQuiet_nil ?_
  rintro w3 ⟨⟨v3, hb3⟩, h3'⟩
  obtain rfl : w3 = v3 := h3'
  have T3 := TA.next hb3
  have S3 := SA.next hb3 zA
  have X3 := XA.trans (BelowX.of hb3 (by omega))
  have z3 := hb3.size
  clear p0 p1 p2 p3 p4 p5 p6 TA SA XA this
  generalize hw0 : nodeW k ks.length (m + 1) d = e0
  by_cases hw : e0 = 0
  · subst hw
    have HW : Hid (nodeW k ks.length (m + 1) d = 0) := hw0
    have hq : ks.length = kidsN k ∧ 1 ≤ k ∧ k ≤ 18 ∧ m + 1 ≤ 200 ∧ d ≤ 20 := by
      unfold nodeW at hw0
      by_cases g1 : 200 < m + 1 ∨ 20 < d
      · simp [g1] at hw0
      by_cases g2 : k < 1 ∨ 18 < k
      · simp [g1, g2] at hw0
      by_cases g3 : ks.length = kidsN k
      · exact ⟨g3, by omega⟩
      · simp [g1, g2, g3] at hw0
    obtain ⟨hln, hk1, hk18, hm1, hd1⟩ := hq
    have hl3 : ks.length ≤ 3 := by rw [hln]; exact kidsN_le k
    have HL : Hid (ks.length = kidsN k) := hln
    have hmk := make_ints hl3
    clear hw0 hln
    obtain ⟨s0, s1, s2, s3, s4, s5⟩ := S3
    simp only [Nat.zero_add] at s1 s2 s3 s4 s5
    have zl : w.heap.size < w3.heap.size := by omega
    go_wp2_with fail
    have S3 : Six w3 w.heap.size 0 k v c a ks.length cap := ⟨s0, s1, s2, s3, s4, s5⟩
    have O4 := Own1.new w3 ks.length 3
    have hal : Below w3.heap.size w3 (w3.alloc (.cells (Array.replicate ks.length (.int .i64 0)) 3)) := (Below.refl _ _).alloc (Nat.le_refl _) _
    have T4 := T3.next hal
    have S4 := S3.next hal zl
    have X4 := X3.trans (BelowX.of hal (by omega))
    generalize w3.alloc (.cells (Array.replicate ks.length (.int .i64 0)) 3) = w4 at *
    clear hal T3 S3 X3 s0 s1 s2 s3 s4 s5 hmk hb3 z3 zA
    generalize w3.heap.size = g at *
    go_loopw [38] (fun i wr => ∃ (j : Nat) (ts : List Int) (q : Int), j ≤ ks.length ∧ i = .int .i64 j ∧ Hid (ts.length = j) ∧ 0 ≤ q ∧ q ≤ 200 ∧ Hid (typesX cols ks [] (m + 1) (d + 1) = typesX cols (ks.drop j) ts q (d + 1)) ∧
      BelowX t w wr ∧ TyC wr t ca cols.length ccap q ∧ Six wr w.heap.size 0 k v c a ks.length cap ∧ Own1 wr g (ts ++ List.replicate (ks.length - j) 0)) (fun i _ => ks.length - (intOf i).toNat)
    case atStart => exact ⟨0, [], m + 1, Nat.zero_le _, rfl, rfl, by omega, hm1, rfl, X4, T4, S4, by simpa using O4⟩
    case round =>
      obtain ⟨j, ts, q, hj, rfl, HT, hq0, hq, HE, hX, hT, hS, hO⟩ := hrel
      have hz := hX.size
      have hOl := hO.lt
      by_cases hlt : j < ks.length
      · obtain ⟨b, off, ai, ci, rfl, hbl, sx, kx⟩ := (KsAt.next (hX.below hBt) (Nat.le_refl _) hk).elem hlt
        have hcr := hc.next (hX.below hBt) (Nat.le_refl _)
        obtain ⟨x0, x1, x2, x3, x4, x5⟩ := sx
        have hal : Below wr.heap.size wr (wr.alloc (.cells #[.int .i64 ks[j].k, .int .i64 ks[j].v.1, .int .i64 ks[j].v.2.1, .string ks[j].v.2.2, .int .i64 ks[j].c, .slice ai ks[j].ks.length ci] 27)) := (Below.refl _ _).alloc (Nat.le_refl _) _
        have con := ih ks[j] (List.getElem_mem _) B t ca ccap ai ci q (d + 1) _ (KsAt.next hal (by omega) kx) (hcr.next hal (by omega)) hBt (hT.next hal) hq0 hq (by omega) (by omega)
        go_wp2_with fail
        refine con.mono ?_
        clear con
        rintro e w5 ⟨rfl, hX5, hT5⟩
        have X5 := (BelowX.of hal (t := t) (by omega)).trans hX5
        have hX5' := hX.trans X5
        have O5 := hO.nextX X5 (by omega)
        have S5 := hS.nextX X5 (by omega) (by omega)
        generalize hty : typeX cols ks[j] q (d + 1) = ty at *
        have HY : Hid (typeX cols ks[j] q (d + 1) = ty) := hty
        obtain ⟨t1, e1, n1⟩ := ty
        clear hty hX5 hal hT hS hO x0 x1 x2 x3 x4 x5 kx hcr
        by_cases he : e1 = 0
        · subst he
          have hn1 := typeX_n (by rw [HY.out] : (typeX cols ks[j] q (d + 1)).2.1 = 0)
          rw [HY.out] at hn1
          have HN : Hid (n1 ≤ 200 ∧ q < n1) := hn1
          have hlen : j < (ts ++ List.replicate (ks.length - j) 0).length := by have := HT.out; simp; omega
          have cc : w5.cell? ⟨g, j, none⟩ = some (.int .i64 ((ts ++ List.replicate (ks.length - j) 0).getD j 0)) := by rw [O5.c j hlen]; simp [List.getD, List.getElem?_eq_getElem hlen]
          generalize (ts ++ List.replicate (ks.length - j) 0).getD j 0 = old at cc
          have ff := O5.f j
          have O6 := O5.set j hlen t1
          rw [pad_set ts ks.length j t1 HT.out hlt] at O6
          have S6 := S5.far g j (.int .i64 t1) (by omega)
          have T6 := hT5.far g j (.int .i64 t1) (by omega)
          have X6 := hX5'.setNew g j (.int .i64 t1) (by omega) (by omega)
          clear hn1 O5 S5 hT5 hX5' X5 hlen
          go_wp2_with fail
          go_roundw
          case rel => exact ⟨j + 1, ts ++ [t1], n1, by omega, by go_num, by have := HT.out; show (ts ++ [t1]).length = j + 1; simp [this], by have := HN.out; omega, HN.out.1, by rw [HE.out, typesX_next cols ks ts q (d + 1) j hlt (by rw [HY.out]), HY.out]; rfl, X6, T6, S6, O6⟩
          case measure => simp [intOf]; omega
        · have er : r = (0, e1, n1) := by
            rw [← HR.out]
            refine typeX_kid HW.out (ts := ts) ?_ he
            rw [HE.out, typesX_bad cols ks ts q (d + 1) j hlt (by rw [HY.out]; exact he), HY.out]
          subst er
          have q' : (e1 != 0) = true := by simpa using he
          clear HR O5 S5
          go_wp2_with fail
          exact bodyPost_ret (v := .tuple #[.int .i64 0, .int .i64 e1]) (by simp [results, Tryz.results137, go_sem]) rfl ⟨rfl, hX5', hT5⟩
      · have ej : j = ks.length := by omega
        subst ej
        have hts := HT.out
        rw [Nat.sub_self, List.replicate_zero, List.append_nil] at hO
        have er : r = ((nodeT cols k v c ts).1, (nodeT cols k v c ts).2, q) := by
          rw [← HR.out]
          refine typeX_own HW.out ?_
          rw [HE.out, typesX_end cols ks ts q (d + 1) _ (Nat.le_refl _)]
        have HTS : Hid (ts.length = ks.length) := hts
        clear HR HE hts HT
        obtain ⟨s0, s1, s2, s3, s4, s5⟩ := hS
        simp only [Nat.zero_add] at s1 s2 s3 s4 s5
        by_cases k1 : k = 1
        · subst k1
          have e : nodeT cols 1 v c ts = litT v := by simp [nodeT]
          rw [e] at er
          subst er
          clear e
          go_wp2_with fail
          refine (litType_at v _).mono ?_
          rintro e w5 ⟨rfl, hb5⟩
          have T5 := hT.next hb5
          have X5 := hX.trans (BelowX.of hb5 (by omega))
          clear s0 s1 s2 s3 s4 s5
          go_wp2_with fail
          exact bodyPost_ret (v := .tuple #[.int .i64 (litT v).1, .int .i64 (litT v).2]) (by simp [results, Tryz.results137, go_sem]) rfl ⟨rfl, X5, T5⟩
        have n1 : (k == 1) = false := by simpa using k1
        by_cases k2 : k = 2
        · subst k2
          have e : nodeT cols 2 v c ts = colT cols c := by simp [nodeT]
          rw [e] at er
          subst er
          clear e
          have hcr := hc.next (hX.below hBt) (Nat.le_refl _)
          have p0 := past_cell hT.c0
          have p4 := past_cell s4
          haveI : Nonempty (Past wr) := ⟨⟨_, Below.refl _ _⟩⟩
          go_wp2_with fail
          refine wp_region_past (by kernel_rfl) (by kernel_rfl) ?_
          repeat (go_big_quiet_step (first | (go_at_call 170; exact in_past (colType_at B ca ccap cols c _ (hcr.next (Past.ok _) (by omega))))))
          refine wpQuiet_nil ?_
          rintro w5 ⟨⟨v5, hb5⟩, h5⟩
          obtain rfl : w5 = v5 := h5
          have T5 := hT.next hb5
          have X5 := hX.trans (BelowX.of hb5 (by omega))
          clear p0 p4 s0 s1 s2 s3 s4 s5
          go_wp2_with fail
          exact bodyPost_ret (v := .tuple #[.int .i64 (colT cols c).1, .int .i64 (colT cols c).2]) (by simp [results, Tryz.results137, go_sem]) rfl ⟨rfl, X5, T5⟩
        have n2 : (k == 2) = false := by simpa using k2
        have e : nodeT cols k v c ts = resT (kidsT k ts) := by simp [nodeT, k1, k2]
        rw [e] at er
        clear e
        have con := kidsType_at k wr.heap.size (some ⟨g, 0, none⟩) ks.length ts wr (Nat.le_refl _) (hO.is (by rw [HTS.out]; unfold maxLen; omega)) (by omega) hk18 (by rw [HTS.out]; exact HL.out)
        rw [HTS.out] at con
        generalize resT (kidsT k ts) = rr at *
        subst er
        go_wp2_with fail
        refine con.mono ?_
        rintro e w5 ⟨rfl, hb5⟩
        have T5 := hT.next hb5
        have X5 := hX.trans (BelowX.of hb5 (by omega))
        clear con s0 s1 s2 s3 s4 s5
        go_wp2_with fail
        exact bodyPost_ret (v := .tuple #[.int .i64 rr.1, .int .i64 rr.2]) (by simp [results, Tryz.results137, go_sem]) rfl ⟨rfl, X5, T5⟩
  · have er : r = (0, e0, m + 1) := by rw [← HR.out, ← hw0, typeX_bad (by rw [hw0]; exact hw)]
    subst er
    have q : (e0 != 0) = true := by simpa using hw
    clear hw0 HR S3
    go_wp2_with fail
    exact bodyPost_ret (v := .tuple #[.int .i64 0, .int .i64 e0]) (by simp [results, Tryz.results137, go_sem]) rfl ⟨rfl, X3, T3⟩
theorem typeOf_any (cols : List Int) : ∀ x, TypeOfAt cols x := Ex.ind fun k v c ks ih => typeOf_at cols k v c ks ih
end Go.Proofs.YtfojonhblblbjaaGreat
/- What an expression comes to, as a function value: ready. -/
namespace Go.Proofs.YtfojonhblblbjaaGreat
open Go.RowKit

theorem Asks.congr {cols : List Int} {lo : Nat} {u : Value} {f f' : List Vl → Vl} {w : World} (h : Asks cols lo u f w) (e : ∀ row, FitP cols row → f row = f' row) : Asks cols lo u f' w := by
  obtain ⟨g, cb, eu, eg, hd⟩ := h
  exact ⟨g, cb, eu, eg, fun row a cap W hf hs hW => by rw [← e row hf]; exact hd row a cap W hf hs hW⟩
/-- 'make' of no more than eight functions. -/
theorem make_funcs {n : Nat} (h : n ≤ 8) (w : World) : (Instr.makeSlice 116 (.int .i64 n) (.int .i64 n)).run Tryz.prog w = .ok (.slice (some ⟨w.heap.size, 0, none⟩) n n) (w.alloc (.cells (Array.replicate n Value.nilFunc) 103)) := by
  obtain rfl | rfl | rfl | rfl | rfl | rfl | rfl | rfl | rfl : n = 0 ∨ n = 1 ∨ n = 2 ∨ n = 3 ∨ n = 4 ∨ n = 5 ∨ n = 6 ∨ n = 7 ∨ n = 8 := by omega
  all_goals kernel_rfl

/-- Functions in a slice in a variable, the first j of them made. -/
structure FTo (cols : List Int) (K kb M : Nat) (W : World) (ks : List Ex) (j : Nat) : Prop where
  lt : K < M ∧ kb < M ∧ K ≠ kb ∧ M ≤ W.heap.size
  box : W.cell? ⟨kb, 0, none⟩ = some (.slice (some ⟨K, 0, none⟩) ks.length ks.length)
  room : ∀ i, i < ks.length → (∃ u, W.cell? ⟨K, i, none⟩ = some u) ∧ W.frozen? ⟨K, i, none⟩ = false
  done : ∀ i (h : i < ks.length), i < j → ∃ u, W.cell? ⟨K, i, none⟩ = some u ∧ Asks cols M u (fun row => valX row ks[i]) W
theorem FTo.next {cols : List Int} {K kb M : Nat} {W w1 : World} {ks : List Ex} {j : Nat} (h : FTo cols K kb M W ks j) (hb : Below W.heap.size W w1) : FTo cols K kb M w1 ks j := by
  obtain ⟨h1, h2, h3, h4⟩ := h
  have z := hb.size
  refine ⟨⟨h1.1, h1.2.1, h1.2.2.1, by omega⟩, (hb.cell (p := ⟨kb, 0, none⟩) (by show kb < _; omega)).trans h2, fun i hi => ?_, fun i hi hj => ?_⟩
  · obtain ⟨⟨u, hu⟩, hf⟩ := h3 i hi
    exact ⟨⟨u, (hb.cell (p := ⟨K, i, none⟩) (by show K < _; omega)).trans hu⟩, (hb.frozen (p := ⟨K, i, none⟩) (by show K < _; omega)).trans hf⟩
  · obtain ⟨u, hu, ha⟩ := h4 i hi hj
    exact ⟨u, (hb.cell (p := ⟨K, i, none⟩) (by show K < _; omega)).trans hu, ha.next (Since.of hb)⟩
theorem FTo.store {cols : List Int} {K kb M : Nat} {W : World} {ks : List Ex} {j : Nat} (h : FTo cols K kb M W ks j) (hj : j < ks.length) {u : Value} (ha : Asks cols M u (fun row => valX row ks[j]) W) : FTo cols K kb M (W.setCell ⟨K, j, none⟩ u) ks (j + 1) := by
  obtain ⟨h1, h2, h3, h4⟩ := h
  have hS : Since M W (W.setCell ⟨K, j, none⟩ u) := (Since.refl M W).set K j u (by omega)
  have same : (W.setCell ⟨K, j, none⟩ u).cell? ⟨K, j, none⟩ = some u := World.cell?_setCell_same' _ _ _ (by obtain ⟨⟨u', hu⟩, _⟩ := h3 j hj; rw [hu]; rfl)
  refine ⟨⟨h1.1, h1.2.1, h1.2.2.1, by simpa using h1.2.2.2⟩, ?_, fun i hi => ?_, fun i hi hij => ?_⟩
  · rw [World.cell?_setCell_other _ _ _ _ (by intro e; injection e with e; omega)]; exact h2
  · obtain ⟨⟨u', hu⟩, hf⟩ := h3 i hi
    refine ⟨?_, by rw [World.frozen?_setCell]; exact hf⟩
    by_cases e : i = j
    · subst e; exact ⟨_, same⟩
    · exact ⟨u', by rw [World.cell?_setCell_other _ _ _ _ (by intro e; injection e with _ e; omega)]; exact hu⟩
  · by_cases e : i = j
    · subst e; exact ⟨u, same, ha.next hS⟩
    · obtain ⟨u', hu, ha'⟩ := h4 i hi (by omega)
      exact ⟨u', by rw [World.cell?_setCell_other _ _ _ _ (by intro e; injection e with _ e; omega)]; exact hu, ha'.next hS⟩
theorem FTo.kids {cols : List Int} {K kb M lo : Nat} {W : World} {ks : List Ex} (h : FTo cols K kb M W ks ks.length) (h1 : lo ≤ K) (h2 : lo ≤ kb) : KidsF cols lo W kb ks := by
  obtain ⟨l1, l2, _, l4⟩ := h
  refine ⟨K, h2, by omega, h1, by omega, l2, fun i hi => ?_⟩
  obtain ⟨u, hu, ha⟩ := l4 i hi hi
  exact ⟨u, hu, ha.down (by omega)⟩
theorem FTo.new {cols : List Int} {w : World} {n : Nat} (ks : List Ex) (hn : n = ks.length) (T T' : TypeId) {o : Obj} :
    FTo cols (w.heap.size + 1) (w.heap.size + 2) (w.heap.size + 3) (((w.alloc o).alloc (.cells (Array.replicate n Value.nilFunc) T)).alloc (.cells #[.slice (some ⟨w.heap.size + 1, 0, none⟩) n n] T')) ks 0 := by
  subst hn
  refine ⟨⟨by omega, by omega, by omega, by simp⟩, ?_, fun i hi => ⟨⟨Value.nilFunc, ?_⟩, ?_⟩, fun i _ h => absurd h (Nat.not_lt_zero _)⟩
  · rw [World.cell?_alloc_at _ _ _ _ (by simp)]; rfl
  · rw [World.cell?_alloc_past _ _ _ (by simp), World.cell?_alloc_at _ _ _ _ (by simp)]
    simp [hi]
  · rw [World.frozen?_alloc_past _ _ _ (by simp)]
    exact World.frozen?_alloc_at _ _ _ _ (by simp)

theorem Fn2.down {lo lo' : Nat} {u : Value} {f : Vl → Vl → Vl} {w : World} (h : Fn2 lo u f w) (hl : lo' ≤ lo) : Fn2 lo' u f w := by
  obtain ⟨g, cb, e, eg, hd⟩ := h
  exact ⟨g, cb, e, eg, fun p q W hp hq hW => hd p q W hp hq (hW.up hl)⟩
theorem vals_at (row : List Vl) (ks : List Ex) (i : Nat) (hi : i < ks.length) : (valsX row ks).getD i vl0 = valX row ks[i] := by
  rw [valsX_map]
  simp [List.getD, hi]
/-- What ready is asked for. -/
def ReadyAt (cols : List Int) (x : Ex) : Prop :=
  ∀ (B : Nat) (a : Option Addr) (cap : Nat) (w : World), KsAt B w a x.ks → B ≤ w.heap.size →
    Calls Tryz.prog 104 #[exV x.k x.v x.c a x.ks.length cap] w fun e w' => ∃ u, e = .returned u ∧ Asks cols w.heap.size u (fun row => valX row x) w' ∧ Below w.heap.size w w'

set_option maxHeartbeats 4000000 in
theorem ready_at (cols : List Int) (k : Int) (v : Vl) (c : Int) (ks : List Ex) (t : Int) (ht : typP cols (.mk k v c ks) = some t) (ih : ∀ x ∈ ks, ReadyAt cols x) : ReadyAt cols (.mk k v c ks) := by
  obtain ⟨h1, h18, hl, ts, hts, hn⟩ := typP_node ht
  intro B a cap w hk hB
  simp only [Ex.k, Ex.v, Ex.c, Ex.ks] at hk ⊢
  have hl3 : ks.length ≤ 8 := by have := kidsN_le k; omega
  have HL : Hid (ks.length = kidsN k) := hl
  have hmk := make_funcs hl3
  have S0 := Six.new w k v c a ks.length cap 27
  have HI : Hid (∀ x ∈ ks, ReadyAt cols x) := ih
  clear hl ih
  obtain ⟨s0, s1, s2, s3, s4, s5⟩ := S0
  simp only [Nat.zero_add] at s1 s2 s3 s4 s5
  have S1 : Six (w.alloc (.cells #[.int .i64 k, .int .i64 v.1, .int .i64 v.2.1, .string v.2.2, .int .i64 c, .slice a ks.length cap] 27)) w.heap.size 0 k v c a ks.length cap := ⟨s0, s1, s2, s3, s4, s5⟩
  have F0 : FTo cols (w.heap.size + 1) (w.heap.size + 2) (w.heap.size + 3) (((w.alloc (.cells #[.int .i64 k, .int .i64 v.1, .int .i64 v.2.1, .string v.2.2, .int .i64 c, .slice a ks.length cap] 27)).alloc (.cells (Array.replicate ks.length Value.nilFunc) 103)).alloc (.cells #[.slice (some ⟨w.heap.size + 1, 0, none⟩) ks.length ks.length] 116)) ks 0 := FTo.new ks rfl _ _
  have hA : Below w.heap.size w (((w.alloc (.cells #[.int .i64 k, .int .i64 v.1, .int .i64 v.2.1, .string v.2.2, .int .i64 c, .slice a ks.length cap] 27)).alloc (.cells (Array.replicate ks.length Value.nilFunc) 103)).alloc (.cells #[.slice (some ⟨w.heap.size + 1, 0, none⟩) ks.length ks.length] 116)) := (((Below.refl _ _).alloc (Nat.le_refl _) _).alloc (by simp) _).alloc (by simp; omega) _
  have S3 : Six (((w.alloc (.cells #[.int .i64 k, .int .i64 v.1, .int .i64 v.2.1, .string v.2.2, .int .i64 c, .slice a ks.length cap] 27)).alloc (.cells (Array.replicate ks.length Value.nilFunc) 103)).alloc (.cells #[.slice (some ⟨w.heap.size + 1, 0, none⟩) ks.length ks.length] 116)) w.heap.size 0 k v c a ks.length cap := (S1.next ((Below.refl _ _).alloc (Nat.le_refl _) _) (by simp)).next ((Below.refl _ _).alloc (Nat.le_refl _) _) (by simp; omega)
  clear S1
  go_enter Tryz.func104, Tryz.ntmps104
  go_wp2_with fail
  generalize ((w.alloc (.cells #[.int .i64 k, .int .i64 v.1, .int .i64 v.2.1, .string v.2.2, .int .i64 c, .slice a ks.length cap] 27)).alloc (.cells (Array.replicate ks.length Value.nilFunc) 103)).alloc (.cells #[.slice (some ⟨w.heap.size + 1, 0, none⟩) ks.length ks.length] 116) = w3 at *
  clear s0 s1 s2 s3 s4 s5 hmk
  go_loopw [14] (fun i wr => ∃ j : Nat, j ≤ ks.length ∧ i = .int .i64 j ∧ FTo cols (w.heap.size + 1) (w.heap.size + 2) (w.heap.size + 3) wr ks j ∧ Six wr w.heap.size 0 k v c a ks.length cap ∧ Below w.heap.size w wr) (fun i _ => ks.length - (intOf i).toNat)
  case atStart => exact ⟨0, Nat.zero_le _, rfl, F0, S3, hA⟩
  case round =>
    clear F0 S3 hA
    obtain ⟨j, hj, rfl, F, S, hb⟩ := hrel
    have hz := hb.size
    have hzF := F.lt.2.2.2
    by_cases hlt : j < ks.length
    · obtain ⟨b, off, ai, ci, rfl, hbl, sx, kx⟩ := (KsAt.next hb hB hk).elem hlt
      obtain ⟨x0, x1, x2, x3, x4, x5⟩ := sx
      have hal : Below wr.heap.size wr (wr.alloc (.cells #[.int .i64 ks[j].k, .int .i64 ks[j].v.1, .int .i64 ks[j].v.2.1, .string ks[j].v.2.2, .int .i64 ks[j].c, .slice ai ks[j].ks.length ci] 27)) := (Below.refl _ _).alloc (Nat.le_refl _) _
      have hd : Below (wr.alloc (.cells #[.int .i64 ks[j].k, .int .i64 ks[j].v.1, .int .i64 ks[j].v.2.1, .string ks[j].v.2.2, .int .i64 ks[j].c, .slice ai ks[j].ks.length ci] 27)).heap.size (wr.alloc (.cells #[.int .i64 ks[j].k, .int .i64 ks[j].v.1, .int .i64 ks[j].v.2.1, .string ks[j].v.2.2, .int .i64 ks[j].c, .slice ai ks[j].ks.length ci] 27)) (wr.alloc (.cells #[.int .i64 ks[j].k, .int .i64 ks[j].v.1, .int .i64 ks[j].v.2.1, .string ks[j].v.2.2, .int .i64 ks[j].c, .slice ai ks[j].ks.length ci] 27)).drew := (Below.refl _ _).drew
      have con := HI.out ks[j] (List.getElem_mem _) B ai ci (wr.alloc (.cells #[.int .i64 ks[j].k, .int .i64 ks[j].v.1, .int .i64 ks[j].v.2.1, .string ks[j].v.2.2, .int .i64 ks[j].c, .slice ai ks[j].ks.length ci] 27)).drew (KsAt.next (hal.trans (hd.mono hal.size)) (by omega) kx) (by have := hal.size; have := hd.size; omega)
      have Fk := F.next hal
      have bx := Fk.box
      obtain ⟨⟨uo, ro⟩, fo⟩ := Fk.room j hlt
      have Sk := Six.new wr ks[j].k ks[j].v ks[j].c ai ks[j].ks.length ci 27
      obtain ⟨k0, k1, k2, k3, k4, k5⟩ := Sk
      simp only [Nat.zero_add] at k1 k2 k3 k4 k5
      have hjz : (j : Int) < ks.length := by omega
      go_wp2_with fail
      clear x0 x1 x2 x3 x4 x5 kx
      have hal2 := hal
      have zk : (wr.alloc (.cells #[.int .i64 ks[j].k, .int .i64 ks[j].v.1, .int .i64 ks[j].v.2.1, .string ks[j].v.2.2, .int .i64 ks[j].c, .slice ai ks[j].ks.length ci] 27)).heap.size = wr.heap.size + 1 := by simp
      generalize wr.alloc (.cells #[.int .i64 ks[j].k, .int .i64 ks[j].v.1, .int .i64 ks[j].v.2.1, .string ks[j].v.2.2, .int .i64 ks[j].c, .slice ai ks[j].ks.length ci] 27) = wk at *
      go_region_with (go_at_call 104; refine con.mono ?_; rintro e w1 ⟨u, rfl, hA1, hb1⟩; have F1 := (Fk.next hd).next hb1; have q1 := F1.box; obtain ⟨⟨un, q2⟩, q3⟩ := F1.room j hlt; obtain ⟨ug, ucb, eu⟩ : ∃ g cb, u = .func (.func g) #[] cb := (by obtain ⟨g, cb, e, _⟩ := hA1; exact ⟨g, cb, e⟩); subst eu)
      all_goals (
        go_wp2_with fail
        go_roundw
        case rel =>
          refine ⟨j + 1, by omega, by go_num, F1.store hlt (hA1.down (by show w.heap.size + 3 ≤ wk.drew.heap.size; have := hd.size; omega)), ((S.next hal2 (by omega)).next (hd.trans (hb1.mono hd.size)) (by omega)).far _ _ _ (by omega), ?_⟩
          exact (chain (chain hb hal2) (hd.trans (hb1.mono hd.size))).setCell (p := ⟨w.heap.size + 1, j, none⟩) (by show w.heap.size ≤ w.heap.size + 1; omega) _
        case measure => simp [intOf]; omega)
    · have e : j = ks.length := by omega
      subst e
      obtain ⟨s0, s1, s2, s3, s4, s5⟩ := S
      simp only [Nat.zero_add] at s1 s2 s3 s4 s5
      by_cases k1 : k = 1
      · subst k1
        go_wp2_with fail
        refine (always_at cols v wr).mono ?_
        rintro e w1 ⟨u, rfl, hA1, hb1⟩
        go_wp2_with fail
        go_ret
        exact ⟨_, rfl, (hA1.down hz).congr (fun row _ => by rw [valX, nodeV, if_pos rfl]), chain hb hb1⟩
      have n1 : (k == 1) = false := by simpa using k1
      by_cases k2 : k = 2
      · subst k2
        unfold nodeT at hn
        rw [if_neg (by decide), if_pos rfl] at hn
        obtain ⟨q0, q1, _⟩ := colT_ok hn
        clear hn
        go_wp2_with fail
        refine (column_at cols c wr q0 q1).mono ?_
        rintro e w1 ⟨u, rfl, hA1, hb1⟩
        go_wp2_with fail
        go_ret
        exact ⟨_, rfl, (hA1.down hz).congr (fun row _ => by rw [valX, nodeV, if_neg (by decide), if_pos rfl]), chain hb hb1⟩
      have n2 : (k == 2) = false := by simpa using k2
      have KF : KidsF cols w.heap.size wr (w.heap.size + 2) ks := F.kids (by omega) (by omega)
      by_cases k3 : k = 3
      · subst k3
        have l1 : ks.length = 1 := HL.out
        have HK : Hid (KidsF cols w.heap.size wr (w.heap.size + 2) ks) := KF
        have H1 : Hid (ks.length = 1) := l1
        clear KF l1
        go_wp2_with fail
        go_ret
        refine ⟨_, rfl, ⟨140, _, rfl, enters_of Tryz.func140 (by kernel_rfl) rfl, ?_⟩, hb⟩
        intro row a cap W hf hs hW
        have e : valX row (.mk 3 v c ks) = notP (valX row (ks[0]'(by rw [H1.out]; omega))) := by rw [valX, nodeV, if_neg (by decide), if_neg (by decide), if_pos rfl, vals_at row ks 0 (by rw [H1.out]; omega)]
        show Calls _ _ _ _ fun e w' => e = .returned (agV (valX row (.mk 3 v c ks))) ∧ _
        rw [e]
        exact ready1_at cols w.heap.size (w.heap.size + 2) ks a row cap W (HK.out.next hW) (by rw [H1.out]; omega) hf hs
      have n3 : (k == 3) = false := by simpa using k3
      by_cases k16 : k = 16
      · subst k16
        have l1 : ks.length = 1 := HL.out
        have HK : Hid (KidsF cols w.heap.size wr (w.heap.size + 2) ks) := KF
        have H1 : Hid (ks.length = 1) := l1
        clear KF l1
        go_wp2_with fail
        go_ret
        refine ⟨_, rfl, ⟨142, _, rfl, enters_of Tryz.func142 (by kernel_rfl) rfl, ?_⟩, hb⟩
        intro row a cap W hf hs hW
        have e : valX row (.mk 16 v c ks) = tri (some ((valX row (ks[0]'(by rw [H1.out]; omega))).1 == 1)) := by rw [valX, nodeV, if_neg (by decide), if_neg (by decide), if_neg (by decide), if_pos rfl, vals_at row ks 0 (by rw [H1.out]; omega)]
        show Calls _ _ _ _ fun e w' => e = .returned (agV (valX row (.mk 16 v c ks))) ∧ _
        rw [e]
        exact ready2_at cols w.heap.size (w.heap.size + 2) ks a row cap W (HK.out.next hW) (by rw [H1.out]; omega) hf hs
      have n16 : (k == 16) = false := by simpa using k16
      by_cases k17 : k = 17
      · subst k17
        have l3 : ks.length = 3 := HL.out
        have m0 : 0 < ks.length := by omega
        have m1 : 1 < ks.length := by omega
        have m2 : 2 < ks.length := by omega
        have bx := F.box
        obtain ⟨u0, c0, A0⟩ := F.done 0 m0 m0
        obtain ⟨u1, c1, A1⟩ := F.done 1 m1 m1
        obtain ⟨u2, c2, A2⟩ := F.done 2 m2 m2
        have A0 := A0.down (show w.heap.size ≤ w.heap.size + 3 by omega)
        have A1 := A1.down (show w.heap.size ≤ w.heap.size + 3 by omega)
        have A2 := A2.down (show w.heap.size ≤ w.heap.size + 3 by omega)
        obtain ⟨g0, cb0, rfl⟩ : ∃ g cb, u0 = .func (.func g) #[] cb := by obtain ⟨g, cb, e, _⟩ := A0; exact ⟨g, cb, e⟩
        obtain ⟨g1, cb1, rfl⟩ : ∃ g cb, u1 = .func (.func g) #[] cb := by obtain ⟨g, cb, e, _⟩ := A1; exact ⟨g, cb, e⟩
        obtain ⟨g2, cb2, rfl⟩ : ∃ g cb, u2 = .func (.func g) #[] cb := by obtain ⟨g, cb, e, _⟩ := A2; exact ⟨g, cb, e⟩
        have p0 := past_cell bx
        have p1 := past_cell c0
        have p2 := past_cell c1
        have p3 := past_cell c2
        have z0 : (0 : Int) < (ks.length : Int) := by omega
        have z1 : (1 : Int) < (ks.length : Int) := by omega
        have z2 : (2 : Int) < (ks.length : Int) := by omega
        have H3 : Hid (ks.length = 3) := l3
        clear l3 KF
        go_wp2_with fail
        have hB0 : Below wr.heap.size wr wr.drew := (Below.refl _ _).drew
        refine wp_region_ext (by kernel_rfl) ?_
        refine wpX_take (some 45) (i := 0) (v := .slice (some ⟨w.heap.size + 1, 0, none⟩) ks.length ks.length) rfl rfl (by kernel_rfl) (by kernel_rfl) (by kernel_rfl) (fun _ _ _ h => h) (Or.inl ⟨rfl, fun n => ?_⟩) hB0 ?_
        · go_simp
        simp only [Act.put, List.setIfInBounds_toArray, List.set_cons_zero, List.set_cons_succ]
        refine wpX_take (some 46) (i := 1) (v := .pointer (some ⟨w.heap.size + 1, 0, none⟩)) rfl rfl (by kernel_rfl) (by kernel_rfl) (by kernel_rfl) (fun _ _ _ h => h) (Or.inl ⟨rfl, fun n => ?_⟩) hB0 ?_
        · go_simp
        simp only [Act.put, List.setIfInBounds_toArray, List.set_cons_zero, List.set_cons_succ]
        refine wpX_take (some 47) (i := 2) (v := .func (.func g0) #[] cb0) rfl rfl (by kernel_rfl) (by kernel_rfl) (by kernel_rfl) (fun _ _ _ h => h) (Or.inl ⟨rfl, fun n => ?_⟩) hB0 ?_
        · go_simp
        simp only [Act.put, List.setIfInBounds_toArray, List.set_cons_zero, List.set_cons_succ]
        refine wpX_take (some 48) (i := 3) (v := .slice (some ⟨w.heap.size + 1, 0, none⟩) ks.length ks.length) rfl rfl (by kernel_rfl) (by kernel_rfl) (by kernel_rfl) (fun _ _ _ h => h) (Or.inl ⟨rfl, fun n => ?_⟩) hB0 ?_
        · go_simp
        simp only [Act.put, List.setIfInBounds_toArray, List.set_cons_zero, List.set_cons_succ]
        refine wpX_take (some 49) (i := 4) (v := .pointer (some ⟨w.heap.size + 1, 1, none⟩)) rfl rfl (by kernel_rfl) (by kernel_rfl) (by kernel_rfl) (fun _ _ _ h => h) (Or.inl ⟨rfl, fun n => ?_⟩) hB0 ?_
        · go_simp
        simp only [Act.put, List.setIfInBounds_toArray, List.set_cons_zero, List.set_cons_succ]
        refine wpX_take (some 50) (i := 5) (v := .func (.func g1) #[] cb1) rfl rfl (by kernel_rfl) (by kernel_rfl) (by kernel_rfl) (fun _ _ _ h => h) (Or.inl ⟨rfl, fun n => ?_⟩) hB0 ?_
        · go_simp
        simp only [Act.put, List.setIfInBounds_toArray, List.set_cons_zero, List.set_cons_succ]
        refine wpX_take (some 51) (i := 6) (v := .slice (some ⟨w.heap.size + 1, 0, none⟩) ks.length ks.length) rfl rfl (by kernel_rfl) (by kernel_rfl) (by kernel_rfl) (fun _ _ _ h => h) (Or.inl ⟨rfl, fun n => ?_⟩) hB0 ?_
        · go_simp
        simp only [Act.put, List.setIfInBounds_toArray, List.set_cons_zero, List.set_cons_succ]
        refine wpX_take (some 52) (i := 7) (v := .pointer (some ⟨w.heap.size + 1, 2, none⟩)) rfl rfl (by kernel_rfl) (by kernel_rfl) (by kernel_rfl) (fun _ _ _ h => h) (Or.inl ⟨rfl, fun n => ?_⟩) hB0 ?_
        · go_simp
        simp only [Act.put, List.setIfInBounds_toArray, List.set_cons_zero, List.set_cons_succ]
        refine wpX_take (some 53) (i := 8) (v := .func (.func g2) #[] cb2) rfl rfl (by kernel_rfl) (by kernel_rfl) (by kernel_rfl) (fun _ _ _ h => h) (Or.inl ⟨rfl, fun n => ?_⟩) hB0 ?_
        · go_simp
        simp only [Act.put, List.setIfInBounds_toArray, List.set_cons_zero, List.set_cons_succ]
        clear p0 p1 p2 p3
        refine wpX_step (rs := [9]) (by kernel_rfl) (by simp) ?_
        intro w5 hb5 i hi
        obtain rfl : i = 9 := by simpa using hi
        clear hi
        have D5 := hB0.trans (hb5.mono hB0.size)
        refine wpOp_step rfl (fun K hK => ?_)
        go_simp
        refine (either_at cols w.heap.size _ _ _ _ _ _ w5 (by have := D5.size; omega) (A0.next (Since.of D5)) (A1.next (Since.of D5)) (A2.next (Since.of D5))).mono ?_
        rintro e w6 ⟨u, rfl, hA6, hb6⟩
        have D6 := D5.trans (hb6.mono D5.size)
        refine hK _ _ ⟨D6, ?_⟩
        clear hK K
        refine wpX_step (rs := [10]) (by kernel_rfl) (by simp) ?_
        intro w7 hb7 i hi
        obtain rfl : i = 10 := by simpa using hi
        clear hi
        have D7 := D6.trans (hb7.mono D6.size)
        refine wpOp_step rfl (fun K hK => ?_)
        go_simp
        refine hK _ _ ⟨D7, ?_⟩
        clear hK K
        refine wpX_done (by kernel_rfl) ?_
        intro w8 hb8
        have D8 := D7.trans (hb8.mono D7.size)
        go_wp2_with fail
        go_ret
        refine ⟨_, rfl, (hA6.next (Since.of (chain hb7 hb8))).congr (fun row _ => ?_), chain hb D8⟩
        rw [valX, nodeV, if_neg k1, if_neg k2, if_neg k3, if_neg k16, if_pos (show (17 : Int) = 17 from rfl), vals_at row ks 0 m0, vals_at row ks 1 m1, vals_at row ks 2 m2]
      have n17 : (k == 17) = false := by simpa using k17
      have l2 : ks.length = 2 := by rw [HL.out]; unfold kidsN; rw [if_neg (by omega), if_neg (by omega), if_neg k17]
      have H2 : Hid (ks.length = 2) := l2
      have HK : Hid (KidsF cols w.heap.size wr (w.heap.size + 2) ks) := KF
      clear l2 KF
      go_wp2_with fail
      refine (ofTwo_at k (by omega) (by omega) wr).mono ?_
      rintro e w1 ⟨u, rfl, hF, hb1⟩
      obtain ⟨g0, cb0, rfl⟩ : ∃ g cb, u = .func (.func g) #[] cb := by obtain ⟨g, cb, e, _⟩ := hF; exact ⟨g, cb, e⟩
      have hal : Below w1.heap.size w1 (w1.alloc (.cells #[.func (.func g0) #[] cb0] 169)) := (Below.refl _ _).alloc (Nat.le_refl _) _
      have hb1' := chain hb hb1
      go_wp2_with fail
      go_ret
      refine ⟨_, rfl, ⟨146, _, rfl, enters_of Tryz.func146 (by kernel_rfl) rfl, ?_⟩, chain hb1' hal⟩
      intro row a cap W hf hs hW
      have m0 : 0 < ks.length := by rw [H2.out]; omega
      have m1 : 1 < ks.length := by rw [H2.out]; omega
      have e : valX row (.mk k v c ks) = twoP k (valX row ks[0]) (valX row ks[1]) := by rw [valX, nodeV, if_neg k1, if_neg k2, if_neg k3, if_neg k16, if_neg k17, vals_at row ks 0 m0, vals_at row ks 1 m1]
      show Calls _ _ _ _ fun e w' => e = .returned (agV (valX row (.mk k v c ks))) ∧ _
      rw [e]
      have zz := hb1'.size
      exact ready3_at cols w.heap.size (w.heap.size + 2) w1.heap.size k ks a row cap W _ ((hW.cell (p := ⟨w1.heap.size, 0, none⟩) zz (by simp)).trans (by simp)) (((hF.down (by omega)).next (Since.of hal)).next hW) (((HK.out.next (Since.of hb1)).next (Since.of hal)).next hW) m1 hf hs
        (valX_of hf _ _ (typsP_at hts 0 m0)).1 (valX_of hf _ _ (typsP_at hts 1 m1)).1
theorem ready_any (cols : List Int) : ∀ x t, typP cols x = some t → ReadyAt cols x := by
  refine Ex.ind fun k v c ks ih t ht => ready_at cols k v c ks t ht fun x hx => ?_
  obtain ⟨_, _, _, ts, hts, _⟩ := typP_node ht
  obtain ⟨i, hi, rfl⟩ := List.getElem_of_mem hx
  exact ih _ hx _ (typsP_at hts i hi)
end Go.Proofs.YtfojonhblblbjaaGreat
/- The walk of exprs.Type. -/
namespace Go.Proofs.YtfojonhblblbjaaGreat
open Go.RowKit

theorem typeX_zero (cols : List Int) : ∀ (x : Ex) (n d : Int), ¬ (typeX cols x n d).2.1 = 0 → (typeX cols x n d).1 = 0
  | .mk k v c ks, n, d => by
    rw [typeX]
    split
    · intro _; rfl
    split
    · intro _; rfl
    · generalize (typesX cols ks [] (n + 1) (d + 1)).2.1 = ts
      unfold nodeT
      split
      · unfold litT; split <;> simp
      split
      · unfold colT; split <;> simp
      · cases kidsT k ts <;> simp [resT]
theorem typeTop_of {cols : List Int} {x : Ex} (h1 : cols.length ≤ 16) (h2 : colsB cols = true) : typeTop cols x = ((typeX cols x 0 1).1, (typeX cols x 0 1).2.1) := by
  unfold typeTop
  rw [if_neg (by omega), if_neg (by simp [h2])]
  by_cases h : (typeX cols x 0 1).2.1 = 0
  · rw [if_pos h, h]
  · rw [if_neg h, typeX_zero cols x 0 1 h]
theorem colsB_end (l : List Int) (k : Nat) (h : l.length ≤ k) : colsB (l.drop k) = true := by rw [List.drop_eq_nil_of_le h]; rfl
theorem colsB_no (l : List Int) (k : Nat) (h : k < l.length) (e : l[k] < 1 ∨ 4 < l[k]) : colsB (l.drop k) = false := by
  rw [List.drop_eq_getElem_cons h, colsB, List.all_cons]
  have : (decide (1 ≤ l[k]) && decide (l[k] ≤ 4)) = false := by
    rcases e with e | e
    · have : decide (1 ≤ l[k]) = false := decide_eq_false (by omega)
      rw [this]; rfl
    · have : decide (l[k] ≤ 4) = false := decide_eq_false (by omega)
      rw [this, Bool.and_false]
  rw [this, Bool.false_and]
theorem colsB_next (l : List Int) (k : Nat) (h : k < l.length) (e : ¬ l[k] < 1) (e' : ¬ 4 < l[k]) : colsB (l.drop k) = colsB (l.drop (k + 1)) := by
  rw [List.drop_eq_getElem_cons h, colsB, List.all_cons]
  have : (decide (1 ≤ l[k]) && decide (l[k] ≤ 4)) = true := by
    rw [decide_eq_true (by omega), decide_eq_true (by omega)]; rfl
  rw [this, Bool.true_and]
  rfl

set_option maxHeartbeats 2000000 in
theorem type_at (cols : List Int) (x : Ex) (ca : Option Addr) (ccap : Nat) (a : Option Addr) (cap : Nat) (w : World) (hk : KsAt w.heap.size w a x.ks) (hc : IsAt w.heap.size w ca cols) :
    Calls Tryz.prog 103 #[.slice ca cols.length ccap, exV x.k x.v x.c a x.ks.length cap] w fun e w' => e = .returned (.tuple #[.int .i64 (typeTop cols x).1, .int .i64 (typeTop cols x).2]) ∧ Below w.heap.size w w' := by
  have hl := hc.1
  unfold maxLen at hl
  generalize hr : typeTop cols x = r
  have HR : Hid (typeTop cols x = r) := hr
  clear hr
  by_cases h16 : 16 < cols.length
  · have er : r = (0, 5) := by rw [← HR.out, typeTop, if_pos h16]
    subst er
    clear HR
    go_enter Tryz.func103, Tryz.ntmps103
    go_wp2_with fail
    exact bodyPost_ret (v := .tuple #[.int .i64 0, .int .i64 5]) (by simp [results, Tryz.results103, go_sem]) rfl ⟨rfl, (Below.refl _ _).alloc (Nat.le_refl _) _⟩
  go_enter Tryz.func103, Tryz.ntmps103
  go_wp2_with fail
  have S0 := Six.new w x.k x.v x.c a x.ks.length cap 27
  have hal : Below w.heap.size w (w.alloc (.cells #[.int .i64 x.k, .int .i64 x.v.1, .int .i64 x.v.2.1, .string x.v.2.2, .int .i64 x.c, .slice a x.ks.length cap] 27)) := (Below.refl _ _).alloc (Nat.le_refl _) _
  have z0 : w.heap.size < (w.alloc (.cells #[.int .i64 x.k, .int .i64 x.v.1, .int .i64 x.v.2.1, .string x.v.2.2, .int .i64 x.c, .slice a x.ks.length cap] 27)).heap.size := by simp
  generalize w.alloc (.cells #[.int .i64 x.k, .int .i64 x.v.1, .int .i64 x.v.2.1, .string x.v.2.2, .int .i64 x.c, .slice a x.ks.length cap] 27) = w0 at *
  go_loopw [14] (fun i wr => ∃ j : Nat, j ≤ cols.length ∧ i = .int .i64 j ∧ Hid (colsB cols = colsB (cols.drop j)) ∧ wr = w0) (fun i _ => cols.length - (intOf i).toNat)
  case atStart => exact ⟨0, Nat.zero_le _, rfl, rfl, rfl⟩
  case round =>
    obtain ⟨j, hj, rfl, HE, rfl⟩ := hrel
    by_cases hlt : j < cols.length
    · obtain ⟨b, off, rfl, hbl, c⟩ := (hc.next hal (Nat.le_refl _)).elem hlt
      by_cases g1 : cols[j] < 1
      · have er : r = (0, 1) := by
          rw [← HR.out, typeTop, if_neg h16, HE.out, colsB_no cols j hlt (.inl g1), if_pos rfl]
        subst er
        clear HR HE
        go_wp2_with fail
        exact bodyPost_ret (v := .tuple #[.int .i64 0, .int .i64 1]) (by simp [results, Tryz.results103, go_sem]) rfl ⟨rfl, hal⟩
      by_cases g2 : 4 < cols[j]
      · have er : r = (0, 1) := by
          rw [← HR.out, typeTop, if_neg h16, HE.out, colsB_no cols j hlt (.inr g2), if_pos rfl]
        subst er
        clear HR HE
        go_wp2_with fail
        exact bodyPost_ret (v := .tuple #[.int .i64 0, .int .i64 1]) (by simp [results, Tryz.results103, go_sem]) rfl ⟨rfl, hal⟩
      have HC : Hid (colsB (cols.drop j) = colsB (cols.drop (j + 1))) := colsB_next cols j hlt g1 g2
      go_wp2_with fail
      go_roundw
      case rel => exact ⟨j + 1, by omega, by go_num, HE.out.trans HC.out, trivial⟩
      case measure => simp [intOf]; omega
    · have hcb : colsB cols = true := by rw [HE.out, colsB_end cols j (by omega)]
      have er : r = ((typeX cols x 0 1).1, (typeX cols x 0 1).2.1) := by rw [← HR.out, typeTop_of (by omega) hcb]
      have T0 : TyC (wr.alloc (.cells #[.slice ca cols.length ccap, .int .i64 0] 164)) wr.heap.size ca cols.length ccap 0 := ⟨by simp, by simp, by simp, by simp⟩
      have hal2 : Below wr.heap.size wr (wr.alloc (.cells #[.slice ca cols.length ccap, .int .i64 0] 164)) := (Below.refl _ _).alloc (Nat.le_refl _) _
      have con := typeOf_any cols x w.heap.size wr.heap.size ca ccap a cap 0 1 _ (KsAt.next (chain hal hal2) (Nat.le_refl _) hk) (hc.next (chain hal hal2) (Nat.le_refl _)) hal.size T0 (by omega) (by omega) (by omega) (by omega)
      generalize typeX cols x 0 1 = ty at *
      subst er
      clear HR HE hcb
      obtain ⟨s0, s1, s2, s3, s4, s5⟩ := S0
      simp only [Nat.zero_add] at s1 s2 s3 s4 s5
      go_wp2_with fail
      refine con.mono ?_
      rintro e w5 ⟨rfl, hX, _⟩
      have hb5 := (chain hal hal2).trans (hX.below hal.size)
      clear con s0 s1 s2 s3 s4 s5 hX T0 hal2
      go_wp2_with fail
      exact bodyPost_ret (v := .tuple #[.int .i64 ty.1, .int .i64 ty.2.1]) (by simp [results, Tryz.results103, go_sem]) rfl ⟨rfl, hb5⟩
end Go.Proofs.YtfojonhblblbjaaGreat
/- The walk of zsets.weighed, whatever is made of weights. -/
namespace Go.Proofs.YtfojonhblblbjaaGreat
open Go.RowKit

/-- Rows with what is made of their weights, without those that are then gone, and without what values have not. -/
def weighL (f : Int → Int) : List Zp → List Zp
  | [] => []
  | x :: r => if f x.2 = 0 then weighL f r else (bareL x.1, f x.2) :: weighL f r
theorem weighL_append (f : Int → Int) (l t : List Zp) : weighL f (l ++ t) = weighL f l ++ weighL f t := by
  induction l with
  | nil => rfl
  | cons x r ih =>
    rw [List.cons_append, weighL, weighL, ih]
    split <;> simp
theorem weighL_take (f : Int → Int) (l : List Zp) (k : Nat) (h : k < l.length) : weighL f (l.take (k + 1)) = weighL f (l.take k) ++ (if f l[k].2 = 0 then [] else [(bareL l[k].1, f l[k].2)]) := by
  rw [List.take_succ_eq_append_getElem h, weighL_append]
  simp [weighL]
theorem weighL_len (f : Int → Int) (l : List Zp) : (weighL f l).length ≤ l.length := by
  induction l with
  | nil => simp [weighL]
  | cons x r ih =>
    rw [weighL]
    split <;> simp <;> omega

/-- A function value makes f of a weight, in whatever world that has grown out of this one, and makes memory alone. -/
def Makes (g : Nat) (cb : Array Value) (f : Int → Int) (w : World) : Prop :=
  ∀ (x : Int) (W : World), inW x = true → Below w.heap.size w W → Calls Tryz.prog g (#[.int .i64 x] ++ cb) W fun e w' => e = .returned (.int .i64 (f x)) ∧ Below W.heap.size W w'

set_option maxHeartbeats 2000000 in
theorem weighed_at (g : Nat) (cb : Array Value) (f : Int → Int) (a : Option Addr) (cap : Nat) (l : List Zp) (w : World) (h : ZsAt w a l)
    (eg : ∀ args w, (callFunc g args).run Tryz.prog w = .ok (.enter g args) w) (hm : Makes g cb f w) (hl : l.length ≤ 200000) (hr : ∀ x ∈ l, x.1.length ≤ 8) (hw : ∀ x ∈ l, inW x.2 = true) :
    Calls Tryz.prog 71 #[.slice a l.length cap, .func (.func g) #[] cb] w fun e w' => ∃ v, e = .returned v ∧ OwnZ w.heap.size w' v (weighL f l) ∧ Below w.heap.size w w' := by
  obtain ⟨i0, hi, hj0, hj1, hj2⟩ := info_parts Tryz.info42
  go_enter Tryz.func71, Tryz.ntmps71
  go_wp2_with fail
  go_loopw [5, 11] (fun v i wr => ∃ k : Nat, k ≤ l.length ∧ i = .int .i64 k ∧ OwnZ w.heap.size wr v (weighL f (l.take k)) ∧ Below w.heap.size w wr) (fun _ i _ => l.length - (intOf i).toNat)
  case atStart => exact ⟨0, Nat.zero_le _, rfl, ⟨[], by simpa [weighL] using World.ownsRow_nil _ _ _ _, by simp [weighL, EncT]⟩, Below.refl _ _⟩
  case round =>
    obtain ⟨k, hk, rfl, HO, hb⟩ := hrel
    have hz := hb.size
    by_cases hlt : k < l.length
    · obtain ⟨b, off, rfl, hbl, c1, ar, cr, c0, sr⟩ := (h.next hb).elem hlt
      have hin := hw l[k] (List.getElem_mem hlt)
      have h8 := hr l[k] (List.getElem_mem hlt)
      have HI : Hid (inW l[k].2 = true) := hin
      have H8 : Hid (l[k].1.length ≤ 8) := h8
      clear hin h8
      have hlen := weighL_len f (l.take k)
      simp only [List.length_take] at hlen
      by_cases h0 : f l[k].2 = 0
      · have H0 : Hid (f l[k].2 = 0) := h0
        clear h0
        go_wp2_with (go_at_fn g; refine (hm _ _ HI.out (hb.alloc hz _)).mono ?_; rintro e w1 ⟨rfl, hb1⟩; rw [H0.out])
        go_roundw
        case rel => exact ⟨k + 1, by omega, by go_num, by rw [weighL_take f l k hlt, if_pos H0.out, List.append_nil]; exact (HO.next ((Below.refl _ _).alloc (Nat.le_refl _) _)).next hb1, chain2 hb hb1⟩
        case measure => simp [intOf]; omega
      · have H0 : Hid (¬ f l[k].2 = 0) := h0
        have n0 : (f l[k].2 != 0) = true := by simpa using h0
        clear h0
        obtain ⟨xs, ho, he⟩ := HO
        go_wp2_with (go_at_fn g; refine (hm _ _ HI.out (hb.alloc hz _)).mono ?_; rintro e w1 ⟨rfl, hb1⟩; have q0 : w1.cell? ⟨wr.heap.size, 0, none⟩ = some (.slice ar l[k].1.length cr) := (hb1.cell (p := ⟨wr.heap.size, 0, none⟩) (by simp)).trans (by simp))
        have hb1' := chain2 hb hb1
        have hz1 := hb1'.size
        have s1 := (sr.next ((Below.refl _ _).alloc (Nat.le_refl _) _)).next hb1
        have o1 := own_next (own_next ho ((Below.refl _ _).alloc (Nat.le_refl _) _)) hb1
        have e1 := (he.next ((Below.refl _ _).alloc (Nat.le_refl _) _)).next hb1
        refine (bareRow_at _ _ _ _ s1 H8.out).mono ?_
        rintro e w2 ⟨rfl, ⟨s2, t2⟩, hb2⟩
        have o2 := own_next o1 hb2
        have e2 := e1.next hb2
        have hz2' := hb2.size
        clear o1 e1 ho he s1
        have bl : (bareL l[k].1).length = l[k].1.length := by simp [bareL]
        have ss := (s2.next ((Below.refl _ _).alloc (Nat.le_refl _) (.cells #[.slice (some ⟨w1.heap.size, 0, none⟩) l[k].1.length l[k].1.length, .int .i64 (f l[k].2)] 53)))
        have st := (t2.next ((Below.refl _ _).alloc (Nat.le_refl _) (.cells #[.slice (some ⟨w1.heap.size, 0, none⟩) l[k].1.length l[k].1.length, .int .i64 (f l[k].2)] 53)))
        have eo := e2.next ((Below.refl _ _).alloc (Nat.le_refl _) (.cells #[.slice (some ⟨w1.heap.size, 0, none⟩) l[k].1.length l[k].1.length, .int .i64 (f l[k].2)] 53))
        go_wp2_with (at_builtin; (refine wpList_append_own _ rfl _ _ 28 rfl w.heap.size 53 i0 _ 2 32 Tryz.underlying28 hi hj0 hj1 hj2 rfl (by decide) _ _ _ rfl (o2.alloc _) ⟨w2.heap.size, 0, none⟩ 1 1 [.slice (some ⟨w1.heap.size, 0, none⟩) l[k].1.length l[k].1.length, .int .i64 (f l[k].2)] rfl rfl ?c1 ?c2 ?c3 ?c4 ?c5 ?_))
        case c1 =>
          intro j u hj
          match j, hj with
          | 0, hj => simp at hj; subst hj; simp [Addr.add]
          | 1, hj => simp at hj; subst hj; simp [Addr.add]
        case c2 => intro u hu; simp at hu; rcases hu with rfl | rfl <;> rfl
        case c3 => unfold maxLen; omega
        case c4 => omega
        case c5 => simp; omega
        intro v' w3 ho3 hg3 _
        have R := own_push (o2.alloc _) eo ss st (by rw [bl]; exact ho3) hg3
        have hb3 : Below w.heap.size w w3 := ((chain1 hb1' hb2).alloc (by omega) _).grown hg3 (by simp; omega) (fun q hq => ((o2.alloc (.cells #[.slice (some ⟨w1.heap.size, 0, none⟩) l[k].1.length l[k].1.length, .int .i64 (f l[k].2)] 53)).lt q hq).1)
        clear ho3 hg3 o2 e2 eo ss st s2 t2
        go_wp2_with fail
        go_roundw
        case rel => exact ⟨k + 1, by omega, by go_num, by rw [weighL_take f l k hlt, if_neg H0.out]; exact R, hb3⟩
        case measure => simp [intOf]; omega
    · have e : k = l.length := by omega
      subst e
      rw [List.take_length] at HO
      obtain ⟨av, cv, rfl, _⟩ := HO.zs
      go_wp2_with fail
      go_ret
      exact ⟨_, rfl, HO, hb⟩
end Go.Proofs.YtfojonhblblbjaaGreat
/- Sets with weights, plainly: the order of rows, weights place by place, one form. No program in sight. -/
namespace Go.Proofs.YtfojonhblblbjaaGreat

theorem cmpP_trans (x y z : Vl) (h : cmpP x y ≤ 0) (j : cmpP y z ≤ 0) : cmpP x z ≤ 0 := cmpV_trans _ _ _ _ _ _ _ _ _ h j
theorem cmpL_trans : ∀ a b c : List Vl, cmpL a b ≤ 0 → cmpL b c ≤ 0 → cmpL a c ≤ 0
  | [], _, [] => by simp [cmpL]
  | [], _, _ :: _ => by simp [cmpL]
  | _ :: _, [], _ => by simp [cmpL]
  | _ :: _, _ :: _, [] => by simp [cmpL]
  | x :: r, y :: t, z :: u => by
    have ih := cmpL_trans r t u
    have t1 := cmpP_trans x y z
    have t2 := cmpP_trans y x z
    have t3 := cmpP_trans z y x
    have t4 := cmpP_trans x z y
    have t5 := cmpP_trans y z x
    have t6 := cmpP_trans z x y
    have n1 := cmpP_neg x y
    have n2 := cmpP_neg y z
    have n3 := cmpP_neg x z
    unfold cmpL
    split <;> split <;> split <;> intro h1 h2 <;> first | exact ih h1 h2 | omega
theorem cmpL_refl (a : List Vl) : cmpL a a = 0 := by have := cmpL_neg a a; omega
theorem cmpL_lt_le {a b c : List Vl} (h : cmpL a b < 0) (k : cmpL b c ≤ 0) : cmpL a c < 0 := by
  have t := cmpL_trans b c a
  have n1 := cmpL_neg a b
  have n2 := cmpL_neg a c
  omega
theorem cmpL_le_lt {a b c : List Vl} (h : cmpL a b ≤ 0) (k : cmpL b c < 0) : cmpL a c < 0 := by
  have t := cmpL_trans c a b
  have n1 := cmpL_neg b c
  have n2 := cmpL_neg a c
  omega
theorem cmpL_left {a b : List Vl} (h : cmpL a b = 0) (c : List Vl) : cmpL a c = cmpL b c := by
  have t1 := cmpL_trans a b c
  have t2 := cmpL_trans b a c
  have t3 := cmpL_trans c a b
  have t4 := cmpL_trans c b a
  have n1 := cmpL_neg a b
  have n2 := cmpL_neg a c
  have n3 := cmpL_neg b c
  have b1 := cmpL_bd a c
  have b2 := cmpL_bd b c
  omega
theorem cmpL_right {a b : List Vl} (h : cmpL a b = 0) (c : List Vl) : cmpL c a = cmpL c b := by
  have := cmpL_left h c
  have n2 := cmpL_neg a c
  have n3 := cmpL_neg b c
  omega

theorem cmpV_bareL (k n k' n' : Int) (s s' : ByteArray) : cmpV k (bareN k n) (bareS k s) k' n' s' = cmpV k n s k' n' s' := by
  unfold cmpV bareN bareS
  by_cases h : k = k'
  · subst h
    by_cases h2 : k = 2 ∨ k = 3
    · simp [h2]
    · by_cases h4 : k = 4
      · simp [h4]
      · simp [h2, h4]
  · simp [h]
theorem cmpP_bare (x y : Vl) : cmpP (bareP x) y = cmpP x y := cmpV_bareL _ _ _ _ _ _
theorem cmpL_bare : ∀ a b : List Vl, cmpL (bareL a) b = cmpL a b
  | [], [] => rfl
  | [], _ :: _ => rfl
  | _ :: _, [] => rfl
  | x :: r, y :: t => by
    have ih := cmpL_bare r t
    show (if cmpP (bareP x) y = 0 then cmpL (bareL r) t else cmpP (bareP x) y) = _
    rw [cmpP_bare, ih]; rfl
theorem cmpL_bareR (a b : List Vl) : cmpL a (bareL b) = cmpL a b := by
  have := cmpL_bare b a
  have n1 := cmpL_neg a b
  have n2 := cmpL_neg a (bareL b)
  omega
theorem toList_inj {s t : ByteArray} (h : s.toList = t.toList) : s = t := by
  rw [ByteArray.toList_eq, ByteArray.toList_eq] at h
  rcases s with ⟨⟨s⟩⟩
  rcases t with ⟨⟨t⟩⟩
  simpa using h
theorem bareP_of {x y : Vl} (h : cmpP x y = 0) : bareP x = bareP y := by
  unfold cmpP cmpV at h
  unfold bareP bareN bareS
  by_cases e : x.1 = y.1
  · simp only [e, ne_eq, not_true, if_false] at h ⊢
    by_cases h2 : y.1 = 2 ∨ y.1 = 3
    · simp only [h2, if_true] at h ⊢
      rw [cmpI_zero] at h
      have h4 : ¬ y.1 = 4 := by omega
      simp [h, h4]
    · by_cases h4 : y.1 = 4
      · simp [h4] at h
        rw [cmpS_zero] at h
        simp [h2, toList_inj h]
      · simp [h2, h4]
  · simp only [e, ne_eq, not_false_iff, if_true] at h
    rw [cmpI_zero] at h
    exact absurd h e
theorem bareL_of : ∀ {a b : List Vl}, cmpL a b = 0 → bareL a = bareL b
  | [], [], _ => rfl
  | [], _ :: _, h => by simp [cmpL] at h
  | _ :: _, [], h => by simp [cmpL] at h
  | x :: r, y :: t, h => by
    unfold cmpL at h
    by_cases e : cmpP x y = 0
    · rw [if_pos e] at h
      show bareP x :: bareL r = bareP y :: bareL t
      rw [bareP_of e, bareL_of h]
    · rw [if_neg e] at h
      exact absurd h e
theorem bareP_idem (x : Vl) : bareP (bareP x) = bareP x := by
  unfold bareP bareN bareS
  by_cases h : x.1 = 2 ∨ x.1 = 3 <;> by_cases h4 : x.1 = 4 <;> simp [h, h4]
theorem bareL_idem (l : List Vl) : bareL (bareL l) = bareL l := by
  simp [bareL, bareP_idem]
theorem wrong_bare (x : Vl) : wrongF (bareP x).1 (bareP x).2.1 (bareP x).2.2 = wrongF x.1 x.2.1 x.2.2 := by
  unfold bareP bareN bareS wrongF
  by_cases h1 : x.1 = 1
  · simp [h1]
  by_cases h2 : x.1 = 2
  · simp [h2]
  by_cases h3 : x.1 = 3
  · simp [h3]
  by_cases h4 : x.1 = 4
  · simp [h4]
  simp [h1, h2, h3, h4]
theorem right_bare (l : List Vl) : rightB (bareL l) = rightB l := by
  unfold rightB bareL
  rw [List.all_map]
  congr 1
  funext x
  simp [wrong_bare]
theorem bareL_length (l : List Vl) : (bareL l).length = l.length := by simp [bareL]
theorem wrongRow_bare (l : List Vl) : wrongRowF (bareL l) = 0 ↔ wrongRowF l = 0 := by rw [wrongRowF_zero, wrongRowF_zero, bareL_length, right_bare]

/-- A row's weight among rows. -/
def wt : List Zp → List Vl → Int
  | [], _ => 0
  | x :: r, q => (if cmpL x.1 q = 0 then x.2 else 0) + wt r q
theorem wt_append (l t : List Zp) (q : List Vl) : wt (l ++ t) q = wt l q + wt t q := by
  induction l with
  | nil => simp [wt]
  | cons x r ih => rw [List.cons_append, wt, wt, ih]; omega
theorem wt_perm {l t : List Zp} (h : l.Perm t) (q : List Vl) : wt l q = wt t q := by
  induction h with
  | nil => rfl
  | cons x _ ih => rw [wt, wt, ih]
  | swap x y l => simp only [wt]; omega
  | trans _ _ h1 h2 => exact h1.trans h2
theorem wt_none {l : List Zp} {q : List Vl} (h : ∀ x ∈ l, ¬ cmpL x.1 q = 0) : wt l q = 0 := by
  induction l with
  | nil => rfl
  | cons x r ih =>
    rw [wt, if_neg (h x (by simp)), ih (fun y hy => h y (by simp [hy]))]
    rfl
theorem wt_congr {q q' : List Vl} (h : cmpL q q' = 0) (l : List Zp) : wt l q = wt l q' := by
  induction l with
  | nil => rfl
  | cons x r ih => rw [wt, wt, ih, cmpL_right h]

/-- Rows rise. -/
def Rise (z : List Zp) : Prop := z.Pairwise fun x y => cmpL x.1 y.1 < 0
/-- Rows rise, count, and have what their kinds have alone. -/
structure IsSet (z : List Zp) : Prop where
  rise : Rise z
  ne : ∀ x ∈ z, x.2 ≠ 0
  bare : ∀ x ∈ z, bareL x.1 = x.1
theorem IsSet.tail {x : Zp} {r : List Zp} (h : IsSet (x :: r)) : IsSet r := ⟨(List.pairwise_cons.1 h.rise).2, fun y hy => h.ne y (by simp [hy]), fun y hy => h.bare y (by simp [hy])⟩
theorem wt_head {x : Zp} {r : List Zp} (h : Rise (x :: r)) : wt (x :: r) x.1 = x.2 := by
  rw [wt, if_pos (cmpL_refl _), wt_none]
  · omega
  · intro y hy
    have := (List.pairwise_cons.1 h).1 y hy
    have n := cmpL_neg x.1 y.1
    omega
theorem wt_mem {z : List Zp} (h : Rise z) : ∀ x ∈ z, wt z x.1 = x.2 := by
  induction z with
  | nil => intro x hx; cases hx
  | cons y t ih =>
    intro x hx
    rcases List.mem_cons.1 hx with rfl | hx
    · exact wt_head h
    · have h' := List.pairwise_cons.1 h
      have := h'.1 x hx
      rw [wt, if_neg (by omega), ih h'.2 x hx]
      omega
theorem wt_below {x : Zp} {t : List Zp} (_h : Rise t) (hx : ∀ y ∈ t, cmpL x.1 y.1 < 0) : wt t x.1 = 0 :=
  wt_none fun y hy => by have := hx y hy; have := cmpL_neg x.1 y.1; omega
theorem set_unique : ∀ (z z' : List Zp), IsSet z → IsSet z' → (∀ q, wt z q = wt z' q) → z = z'
  | [], [], _, _, _ => rfl
  | [], y :: t, _, h', e => by
    have := e y.1
    rw [wt_head h'.rise] at this
    exact absurd this.symm (h'.ne y (by simp))
  | x :: r, [], h, _, e => by
    have := e x.1
    rw [wt_head h.rise] at this
    exact absurd this (h.ne x (by simp))
  | x :: r, y :: t, h, h', e => by
    have p := List.pairwise_cons.1 h.rise
    have p' := List.pairwise_cons.1 h'.rise
    have ex := e x.1
    have ey := e y.1
    rw [wt_head h.rise] at ex
    rw [wt_head h'.rise] at ey
    have nx := h.ne x (by simp)
    have ny := h'.ne y (by simp)
    by_cases c : cmpL x.1 y.1 = 0
    · have e1 : x.1 = y.1 := by
        have := bareL_of c
        rwa [h.bare x (by simp), h'.bare y (by simp)] at this
      have e2 : x.2 = y.2 := by
        rw [e1, wt_head h'.rise] at ex
        exact ex
      have exy : x = y := Prod.ext e1 e2
      subst exy
      rw [set_unique r t h.tail h'.tail fun q => by have := e q; rw [wt, wt] at this; omega]
    · exfalso
      have n := cmpL_neg x.1 y.1
      by_cases c' : cmpL x.1 y.1 < 0
      · rw [wt_below h'.rise (x := x) (fun v hv => by
          rcases List.mem_cons.1 hv with rfl | hv
          · exact c'
          · exact cmpL_lt_le c' (by have := p'.1 v hv; omega))] at ex
        exact nx ex
      · rw [wt_below h.rise (x := y) (fun v hv => by
          rcases List.mem_cons.1 hv with rfl | hv
          · omega
          · exact cmpL_lt_le (b := x.1) (by omega) (by have := p.1 v hv; omega))] at ey
        exact ny ey.symm

/-- So much of a row more. -/
def putL : List Zp → List Vl → Int → List Zp
  | [], r, w => if w = 0 then [] else [(bareL r, w)]
  | y :: t, r, w => if cmpL y.1 r < 0 then y :: putL t r w else if cmpL y.1 r = 0 then (if w + y.2 = 0 then t else (bareL r, w + y.2) :: t) else (if w = 0 then y :: t else (bareL r, w) :: y :: t)
theorem putL_above (r : List Vl) (w : Int) (b : List Vl) (hb : cmpL b r < 0) : ∀ z : List Zp, (∀ y ∈ z, cmpL b y.1 < 0) → ∀ y ∈ putL z r w, cmpL b y.1 < 0
  | [], _ => by
    unfold putL
    split
    · simp
    · intro y hy; simp at hy; subst hy; rw [cmpL_bareR]; exact hb
  | x :: t, h => by
    have hx := h x (by simp)
    have ht : ∀ y ∈ t, cmpL b y.1 < 0 := fun y hy => h y (by simp [hy])
    have ih := putL_above r w b hb t ht
    unfold putL
    split
    · intro y hy
      rcases List.mem_cons.1 hy with rfl | hy
      · exact hx
      · exact ih y hy
    · split
      · split
        · exact ht
        · intro y hy
          rcases List.mem_cons.1 hy with rfl | hy
          · show cmpL b (bareL r) < 0
            rw [cmpL_bareR]; exact hb
          · exact ht y hy
      · split
        · exact h
        · intro y hy
          rcases List.mem_cons.1 hy with rfl | hy
          · show cmpL b (bareL r) < 0
            rw [cmpL_bareR]; exact hb
          · exact h y hy
theorem putL_rise (r : List Vl) (w : Int) : ∀ z : List Zp, Rise z → Rise (putL z r w)
  | [], _ => by unfold putL; split <;> simp [Rise]
  | x :: t, h => by
    have p := List.pairwise_cons.1 h
    unfold putL
    split
    · rename_i c
      exact List.pairwise_cons.2 ⟨putL_above r w x.1 c t p.1, putL_rise r w t p.2⟩
    · split
      · rename_i c
        split
        · exact p.2
        · refine List.pairwise_cons.2 ⟨fun y hy => ?_, p.2⟩
          show cmpL (bareL r) y.1 < 0
          rw [cmpL_bare, ← cmpL_left c]
          exact p.1 y hy
      · rename_i c c'
        split
        · exact h
        · refine List.pairwise_cons.2 ⟨fun y hy => ?_, h⟩
          show cmpL (bareL r) y.1 < 0
          rw [cmpL_bare]
          have n := cmpL_neg x.1 r
          rcases List.mem_cons.1 hy with rfl | hy
          · omega
          · exact cmpL_lt_le (b := x.1) (by omega) (by have := p.1 y hy; omega)
theorem putL_set (r : List Vl) (w : Int) : ∀ z : List Zp, IsSet z → IsSet (putL z r w) := fun z h => by
  refine ⟨putL_rise r w z h.rise, ?_, ?_⟩
  · have hn := h.ne
    clear h
    induction z with
    | nil => unfold putL; split <;> simp_all
    | cons x t ih =>
      have ih := ih (fun y hy => hn y (by simp [hy]))
      have hx := hn x (by simp)
      unfold putL
      split
      · intro y hy
        rcases List.mem_cons.1 hy with rfl | hy
        · exact hx
        · exact ih y hy
      · split
        · split
          · exact fun y hy => hn y (by simp [hy])
          · intro y hy
            rcases List.mem_cons.1 hy with rfl | hy
            · assumption
            · exact hn y (by simp [hy])
        · split
          · exact hn
          · intro y hy
            rcases List.mem_cons.1 hy with rfl | hy
            · assumption
            · exact hn y hy
  · have hn := h.bare
    clear h
    induction z with
    | nil =>
      unfold putL
      split
      · simp
      · intro y hy; simp at hy; subst hy; exact bareL_idem r
    | cons x t ih =>
      have ih := ih (fun y hy => hn y (by simp [hy]))
      have hx := hn x (by simp)
      unfold putL
      split
      · intro y hy
        rcases List.mem_cons.1 hy with rfl | hy
        · exact hx
        · exact ih y hy
      · split
        · split
          · exact fun y hy => hn y (by simp [hy])
          · intro y hy
            rcases List.mem_cons.1 hy with rfl | hy
            · exact bareL_idem r
            · exact hn y (by simp [hy])
        · split
          · exact hn
          · intro y hy
            rcases List.mem_cons.1 hy with rfl | hy
            · exact bareL_idem r
            · exact hn y hy
theorem putL_wt (r : List Vl) (w : Int) (q : List Vl) : ∀ z : List Zp, wt (putL z r w) q = wt z q + (if cmpL r q = 0 then w else 0)
  | [] => by
    unfold putL
    split
    · rename_i h; subst h; simp [wt]
    · simp [wt, cmpL_bare]
  | x :: t => by
    have ih := putL_wt r w q t
    unfold putL
    split
    · rw [wt, ih, wt]; omega
    · split
      · rename_i c
        have e := cmpL_left c q
        split
        · rename_i h0
          rw [wt, e]
          split <;> omega
        · rw [wt, wt, e]
          simp only [cmpL_bare]
          split <;> omega
      · split
        · rename_i h0; subst h0; simp
        · rw [wt]
          simp only [cmpL_bare]
          omega

/-- The set of rows. -/
def canon (l : List Zp) : List Zp := l.foldl (fun z x => putL z x.1 x.2) []
theorem canonF_set (l : List Zp) : ∀ z : List Zp, IsSet z → IsSet (l.foldl (fun z x => putL z x.1 x.2) z) := by
  induction l with
  | nil => intro z h; exact h
  | cons x r ih => intro z h; exact ih _ (putL_set _ _ _ h)
theorem canonF_wt (l : List Zp) (q : List Vl) : ∀ z : List Zp, wt (l.foldl (fun z x => putL z x.1 x.2) z) q = wt z q + wt l q := by
  induction l with
  | nil => intro z; simp [wt]
  | cons x r ih => intro z; rw [List.foldl_cons, ih, putL_wt, wt]; omega
theorem set_nil : IsSet [] := ⟨List.Pairwise.nil, by simp, by simp⟩
theorem canon_set (l : List Zp) : IsSet (canon l) := canonF_set l [] set_nil
theorem canon_wt (l : List Zp) (q : List Vl) : wt (canon l) q = wt l q := by
  unfold canon
  rw [canonF_wt]
  simp [wt]
theorem canon_of {z l : List Zp} (h : IsSet z) (e : ∀ q, wt z q = wt l q) : z = canon l :=
  set_unique _ _ h (canon_set l) fun q => (e q).trans (canon_wt l q).symm

/-- What is made of weights, place by place. -/
theorem weighL_mem (f : Int → Int) (z : List Zp) : ∀ y ∈ weighL f z, ∃ x ∈ z, y = (bareL x.1, f x.2) ∧ ¬ f x.2 = 0 := by
  induction z with
  | nil => intro y hy; cases hy
  | cons x r ih =>
    intro y hy
    unfold weighL at hy
    split at hy
    · obtain ⟨u, hu, e⟩ := ih y hy
      exact ⟨u, by simp [hu], e⟩
    · rename_i h0
      rcases List.mem_cons.1 hy with rfl | hy
      · exact ⟨x, by simp, rfl, h0⟩
      · obtain ⟨u, hu, e⟩ := ih y hy
        exact ⟨u, by simp [hu], e⟩
theorem weighL_rise (f : Int → Int) : ∀ z : List Zp, Rise z → Rise (weighL f z)
  | [], _ => List.Pairwise.nil
  | x :: r, h => by
    have p := List.pairwise_cons.1 h
    have ih := weighL_rise f r p.2
    unfold weighL
    split
    · exact ih
    · refine List.pairwise_cons.2 ⟨fun y hy => ?_, ih⟩
      obtain ⟨u, hu, rfl, _⟩ := weighL_mem f r y hy
      show cmpL (bareL x.1) (bareL u.1) < 0
      rw [cmpL_bare, cmpL_bareR]
      exact p.1 u hu
theorem weighL_set (f : Int → Int) (z : List Zp) (h : Rise z) : IsSet (weighL f z) :=
  ⟨weighL_rise f z h, fun y hy => by obtain ⟨u, _, rfl, h0⟩ := weighL_mem f z y hy; exact h0, fun y hy => by obtain ⟨u, _, rfl, h0⟩ := weighL_mem f z y hy; exact bareL_idem u.1⟩
theorem weighL_wt (f : Int → Int) (f0 : f 0 = 0) (q : List Vl) : ∀ z : List Zp, Rise z → wt (weighL f z) q = f (wt z q)
  | [], _ => by simp [weighL, wt, f0]
  | x :: r, h => by
    have p := List.pairwise_cons.1 h
    have ih := weighL_wt f f0 q r p.2
    by_cases c : cmpL x.1 q = 0
    · have z0 : wt r q = 0 := by
        rw [wt_congr (q := q) (q' := x.1) (by have := cmpL_neg x.1 q; omega)]
        exact wt_below p.2 p.1
      rw [z0, f0] at ih
      unfold weighL
      split
      · rename_i h0
        rw [ih, wt, if_pos c, z0]
        simp [h0]
      · rw [wt, wt, ih, z0]
        simp [cmpL_bare, c]
    · unfold weighL
      split
      · rw [ih, wt, if_neg c]; simp
      · rw [wt, wt, ih]
        simp [cmpL_bare, c]

/-- One more row behind rows that rise. -/
def mergeTo (acc : List Zp) (x : Zp) : List Zp :=
  match acc.getLast? with
  | none => [x]
  | some y => if cmpL y.1 x.1 = 0 then acc.dropLast ++ [(y.1, y.2 + x.2)] else acc ++ [x]
def mergedL (l : List Zp) : List Zp := l.foldl mergeTo []
theorem mergedL_snoc (l : List Zp) (x : Zp) : mergedL (l ++ [x]) = mergeTo (mergedL l) x := by simp [mergedL]
theorem mergeTo_nil (x : Zp) : mergeTo [] x = [x] := rfl
theorem mergeTo_snoc (a : List Zp) (y x : Zp) : mergeTo (a ++ [y]) x = if cmpL y.1 x.1 = 0 then a ++ [(y.1, y.2 + x.2)] else a ++ [y] ++ [x] := by simp [mergeTo]
theorem snoc_rec {p : List Zp → Prop} (h0 : p []) (h1 : ∀ l x, p l → p (l ++ [x])) : ∀ l, p l := by
  have key : ∀ (n : Nat) (l : List Zp), l.length = n → p l := by
    intro n
    induction n with
    | zero => intro l h; rw [List.eq_nil_of_length_eq_zero h]; exact h0
    | succ n ih =>
      intro l h
      rcases List.eq_nil_or_concat l with rfl | ⟨a, y, rfl⟩
      · exact h0
      · rw [List.concat_eq_append]
        exact h1 a y (ih a (by simpa using h))
  exact fun l => key l.length l rfl
structure Merged (l z : List Zp) : Prop where
  rise : Rise z
  wt : ∀ q, wt z q = wt l q
  row : ∀ y ∈ z, ∃ x ∈ l, y.1 = x.1
theorem Merged.push {l z : List Zp} (h : Merged l z) {x : Zp} (hx : ∀ y ∈ l, cmpL y.1 x.1 ≤ 0) : Merged (l ++ [x]) (mergeTo z x) := by
  rcases List.eq_nil_or_concat z with rfl | ⟨a, y, rfl⟩
  · rw [mergeTo_nil]
    refine ⟨by simp [Rise], fun q => ?_, ?_⟩
    · rw [wt_append, ← h.wt q]; simp [YtfojonhblblbjaaGreat.wt]
    · intro y hy; simp at hy; subst hy; exact ⟨y, by simp, rfl⟩
  · rw [List.concat_eq_append] at h ⊢
    have hr := List.pairwise_append.1 h.rise
    have hy : cmpL y.1 x.1 ≤ 0 := by
      obtain ⟨u, hu, e⟩ := h.row y (by simp)
      rw [e]; exact hx u hu
    rw [mergeTo_snoc]
    split
    · rename_i c
      refine ⟨?_, fun q => ?_, ?_⟩
      · refine List.pairwise_append.2 ⟨hr.1, by simp, ?_⟩
        intro u hu v hv
        simp at hv
        subst hv
        exact hr.2.2 u hu y (by simp)
      · have := h.wt q
        rw [wt_append] at this ⊢
        rw [wt_append, ← this]
        simp only [YtfojonhblblbjaaGreat.wt, ← cmpL_left c q]
        split <;> omega
      · intro u hu
        simp at hu
        rcases hu with hu | rfl
        · obtain ⟨v, hv, e⟩ := h.row u (by simp [hu])
          exact ⟨v, by simp [hv], e⟩
        · obtain ⟨v, hv, e⟩ := h.row y (by simp)
          exact ⟨v, by simp [hv], e⟩
    · rename_i c
      refine ⟨?_, fun q => ?_, ?_⟩
      · refine List.pairwise_append.2 ⟨h.rise, by simp, ?_⟩
        intro u hu v hv
        simp at hv
        subst hv
        simp at hu
        rcases hu with hu | rfl
        · exact cmpL_lt_le (hr.2.2 u hu y (by simp)) hy
        · omega
      · rw [wt_append, h.wt q, wt_append]
      · intro u hu
        rcases List.mem_append.1 hu with hu | hu
        · obtain ⟨v, hv, e⟩ := h.row u hu
          exact ⟨v, by simp [hv], e⟩
        · simp at hu; subst hu; exact ⟨u, by simp, rfl⟩
theorem merged_ok : ∀ (l : List Zp), (l.Pairwise fun x y => cmpL x.1 y.1 ≤ 0) → Merged l (mergedL l) := by
  refine snoc_rec (fun _ => ⟨List.Pairwise.nil, fun _ => rfl, by simp [mergedL]⟩) ?_
  · intro l x ih h
    have p := List.pairwise_append.1 h
    rw [mergedL_snoc]
    exact (ih p.1).push fun y hy => p.2.2 y hy x (by simp)
theorem mergedL_len (l : List Zp) : (mergedL l).length ≤ l.length := by
  revert l
  refine snoc_rec (by simp [mergedL]) ?_
  · intro l x ih
    rw [mergedL_snoc]
    unfold mergeTo
    split
    · simp
    · rename_i y hy
      split <;> simp <;> omega
/-- Sorted, then merged, without what is gone: the set. -/
theorem gather_canon {s l : List Zp} (hp : s.Perm l) (hs : s.Pairwise fun x y => cmpL x.1 y.1 ≤ 0) : weighL (fun w => w) (mergedL s) = canon l := by
  have m := merged_ok s hs
  refine canon_of (weighL_set _ _ m.rise) fun q => ?_
  rw [weighL_wt (fun w => w) rfl q _ m.rise, m.wt q, wt_perm hp q]
end Go.Proofs.YtfojonhblblbjaaGreat
/- The sort of rows: what slices.SortFunc leaves, by the shelf's contract, and what it is asked. -/
namespace Go.Proofs
open Go.Shelf Go.RowKit Go.Lib
shelf_lay_g SlLaysF0.n6 Slsf 6 at Tryz 106 as Tryz.sortZ
end Go.Proofs
namespace Go.Proofs.YtfojonhblblbjaaGreat
open Go.RowKit Go.Lib Go.Shelf

/-- A row with its weight, and where its values lie. -/
structure Zr where
  a : Option Addr
  cap : Nat
  row : List Vl
  w : Int
/-- .. whose values lie in w. -/
abbrev Zg (w : World) : Type := { x : Zr // SlAt w x.a x.row }
instance (w : World) : Inhabited (Zg w) := ⟨⟨⟨none, 0, [], 0⟩, by simp, .inl rfl⟩⟩
def encG (w : World) (x : Zg w) : List Value := [.slice x.1.a x.1.row.length x.1.cap, .int .i64 x.1.w]
def cfG (w : World) (x y : Zg w) : Int := cmpL x.1.row y.1.row
def plG (w : World) (x : Zg w) : Zp := (x.1.row, x.1.w)

theorem swoG (w : World) : Go.Sort.SWO (ltOf (cfG w)) where
  irrefl x := by simp [ltOf, cfG, cmpL_refl]
  trans x y z h1 h2 := by
    have g1 : cmpL x.1.row y.1.row < 0 := of_decide_eq_true h1
    have g2 : cmpL y.1.row z.1.row < 0 := of_decide_eq_true h2
    exact decide_eq_true (cmpL_lt_le g1 (by omega))
  ntrans x y z h1 h2 := by
    have g1 : ¬ cmpL x.1.row y.1.row < 0 := of_decide_eq_false h1
    have g2 : ¬ cmpL y.1.row z.1.row < 0 := of_decide_eq_false h2
    have n1 := cmpL_neg x.1.row y.1.row
    have n2 := cmpL_neg y.1.row z.1.row
    have n3 := cmpL_neg x.1.row z.1.row
    have t := cmpL_trans z.1.row y.1.row x.1.row
    refine decide_eq_false ?_
    show ¬ cmpL x.1.row z.1.row < 0
    omega

theorem grow_of_below {W w1 : World} (hb : Below W.heap.size W w1) (hd : W.drawn ≤ w1.drawn) : ∃ q os, w1 = Go.Sort.grow (W.drewN q) os := by
  refine ⟨w1.drawn - W.drawn, w1.heap.extract W.heap.size w1.heap.size, ?_⟩
  have hs := hb.size
  have hh : w1.heap = W.heap ++ w1.heap.extract W.heap.size w1.heap.size := by
    apply Array.ext_getElem?
    intro k
    rw [Array.getElem?_append]
    split
    · exact hb.block k (by assumption)
    · rw [Array.getElem?_extract]
      by_cases hk : k < w1.heap.size
      · simp [show W.heap.size + (k - W.heap.size) = k by omega]
        intro h; omega
      · rw [Array.getElem?_eq_none (by omega)]
        simp
        intro h; omega
  obtain ⟨h1, h2, h3, h4, h5⟩ := w1
  obtain ⟨g1, g2, g3, g4, g5⟩ := W
  have q1 := hb.os
  have q2 := hb.tape
  have q3 := hb.output
  simp only at q1 q2 q3 hd hh hs
  subst q1 q2 q3
  simp only [Go.Sort.grow, World.drewN, World.mk.injEq, true_and, and_true]
  exact ⟨hh, by omega⟩

theorem below_sortWorld {α : Type} [Inhabited α] {w0 w : World} {enc : α → List Value} {k blk off m : Nat} {dk : Array α} {os : Array Obj} (hb : Below w0.heap.size w0 w) (hk : w0.heap.size ≤ blk) : Below w0.heap.size w0 (sortWorldK enc k w blk off m dk os) := by
  refine ⟨hb.os, hb.tape, hb.output, ?_, fun j hj => ?_⟩
  · exact Nat.le_trans hb.size (size_sortWorldK_c enc k w blk off m dk os)
  · rw [← hb.block j hj]
    show ((Go.Sort.mapBlock _ _ _).heap ++ os)[j]? = _
    have hs := hb.size
    rw [Array.getElem?_append_left (by simp [Go.Sort.mapBlock, Go.Sort.ahead]; omega)]
    simp only [Go.Sort.mapBlock, Go.Sort.ahead, Array.getElem?_modify]
    rw [if_neg (by omega)]

set_option maxHeartbeats 400000 in
theorem summed1_at (a a' : Option Addr) (cap cap' : Nat) (x x' : Int) (l l' : List Vl) (w : World) (h : SlAt w a l) (h' : SlAt w a' l') :
    Calls Tryz.prog 107 #[.agg #[.slice a l.length cap, .int .i64 x], .agg #[.slice a' l'.length cap', .int .i64 x']] w fun e w' => e = .returned (.int .i64 (cmpL l l')) ∧ ∃ q os', w' = Go.Sort.grow (w.drewN q) os' := by
  go_enter Tryz.func107, Tryz.ntmps107
  go_wp2_with fail
  have b2 : Below w.heap.size w ((w.alloc (.cells #[.slice a l.length cap, .int .i64 x] 53)).alloc (.cells #[.slice a' l'.length cap', .int .i64 x'] 53)) := ((Below.refl _ _).alloc (Nat.le_refl _) _).alloc (by simp) _
  refine (rows_d _ _ _ _ _ _ _ (h.next b2) (h'.next b2)).mono ?_
  rintro e w1 ⟨rfl, hb1, hd1⟩
  go_wp2_with fail
  go_ret
  exact ⟨rfl, grow_of_below (below2 hb1) hd1⟩

theorem cmpLaysG (w0 w : World) (hb : Below w0.heap.size w0 w) (blk off size : Nat) (hk : w0.heap.size ≤ blk) : CmpLays Tryz.prog 107 #[] (encG w0) 2 (cfG w0) blk off size w :=
  fun _ _ _ _ x y => summed1_at _ _ _ _ _ _ _ _ _ (x.2.next (below_sortWorld hb hk)) (y.2.next (below_sortWorld hb hk))

theorem Tryz.isAgg53' : ∀ w, (isAgg 53).run Tryz.prog w = .ok true w := Tryz.isAgg53
theorem Tryz.sizeOf53' : ∀ w, (Go.sizeOf 53).run Tryz.prog w = .ok 2 w := Tryz.sizeOf53

theorem sort_at (w0 w : World) (hb : Below w0.heap.size w0 w) (blk off cap : Nat) (hk : w0.heap.size ≤ blk) (d : Array (Zg w0)) (hH : Go.Sort.HoldsK (encG w0) 2 w blk off d) (hblk : blk < w.heap.size) (hsz : d.size < 4611686018427387904) :
    Calls Tryz.prog 106 #[.slice (some ⟨blk, off, none⟩) d.size cap, .func (.func 107) #[] #[]] w fun e w' =>
      e = .returned (.tuple #[]) ∧ ∃ d' n os, Go.Sort.PermIn 0 d.size d d' ∧ Go.Sort.SortedIn (ltOf (cfG w0)) 0 d.size d' ∧ w' = sortWorldK (encG w0) 2 w blk off n d' os := by
  have eg : ∀ args w, (callFunc 107 args).run Tryz.prog w = .ok (.enter 107 args) w := enters_of Tryz.func107 (by kernel_rfl) rfl
  exact AnyQ.slices_SortFunc Tryz.sortZ 2 Tryz.isAgg53' Tryz.sizeOf53' (encG w0) (fun _ => rfl) (fun x v hv => by simp [encG] at hv; rcases hv with rfl | rfl <;> rfl) (cfG w0) (swoG w0) 107 #[] blk off cap d w eg (cmpLaysG w0 w hb blk off d.size hk) hH hblk hsz
end Go.Proofs.YtfojonhblblbjaaGreat
/- Rows in memory as an array for the sort; the walk of slices.Clone at rows. -/
namespace Go.Proofs.YtfojonhblblbjaaGreat
open Go.RowKit Go.Lib Go.Shelf

theorem addr_add' (b off i : Nat) : (⟨b, off, none⟩ : Addr).add i = ⟨b, off + i, none⟩ := by
  unfold Addr.add
  by_cases h : i = 0 <;> simp [h]
theorem flat_even {w : World} (d : Array (Zg w)) (i : Nat) (h : i < d.size) : (Go.Sort.flatK (encG w) 2 d)[i * 2]! = .slice d[i]!.1.a d[i]!.1.row.length d[i]!.1.cap := by
  rw [Go.Sort.get_flatK _ _ _ _ (by omega), show i * 2 / 2 = i by omega, show i * 2 % 2 = 0 by omega]; rfl
theorem flat_odd {w : World} (d : Array (Zg w)) (i : Nat) (h : i < d.size) : (Go.Sort.flatK (encG w) 2 d)[i * 2 + 1]! = .int .i64 d[i]!.1.w := by
  rw [Go.Sort.get_flatK _ _ _ _ (by omega), show (i * 2 + 1) / 2 = i by omega, show (i * 2 + 1) % 2 = 1 by omega]; rfl

theorem ZsAt.arr {w : World} {a : Option Addr} {l : List Zp} (h : ZsAt w a l) : ∃ d : Array (Zg w), d.size = l.length ∧ d.toList.map (plG w) = l ∧
    (l = [] ∨ ∃ b off, a = some ⟨b, off, none⟩ ∧ b < w.heap.size ∧ ∀ j, j < l.length * 2 → w.cell? ⟨b, off + j, none⟩ = some (Go.Sort.flatK (encG w) 2 d)[j]!) := by
  obtain ⟨_, rfl | ⟨b, off, e, hlt, hr⟩⟩ := h
  · exact ⟨#[], rfl, rfl, .inl rfl⟩
  · obtain ⟨f, hf⟩ := Go.Deep.choose_lt (α := Zg w) (n := l.length) (p := fun i x => ∀ hi : i < l.length, plG w x = l[i] ∧ w.cell? ⟨b, off + i * 2, none⟩ = some (.slice x.1.a x.1.row.length x.1.cap) ∧ w.cell? ⟨b, off + i * 2 + 1, none⟩ = some (.int .i64 x.1.w)) (fun i hi => by
      obtain ⟨c1, ai, ci, c0, si⟩ := hr i hi
      exact ⟨⟨⟨ai, ci, l[i].1, l[i].2⟩, si⟩, fun _ => ⟨rfl, c0, c1⟩⟩)
    have hd : ∀ i, i < l.length → ((Array.range l.length).map f)[i]! = f i := fun i hi => by simp [hi]
    refine ⟨(Array.range l.length).map f, by simp, ?_, .inr ⟨b, off, e, hlt, ?_⟩⟩
    · apply List.ext_getElem
      · simp
      · intro i h1 h2
        have := (hf i h2 h2).1
        simpa using this
    · intro j hj
      have hi : j / 2 < l.length := by omega
      obtain ⟨_, g0, g1⟩ := hf (j / 2) hi hi
      rcases Nat.mod_two_eq_zero_or_one j with h0 | h1
      · have ej : j = j / 2 * 2 := by omega
        rw [ej, flat_even _ _ (by simpa using hi), hd _ hi]
        exact g0
      · have ej : j = j / 2 * 2 + 1 := by omega
        rw [ej, flat_odd _ _ (by simpa using hi), hd _ hi, ← Nat.add_assoc]
        exact g1

theorem holdsK_zs {w W : World} {blk off : Nat} {d : Array (Zg w)} (hb : Below w.heap.size w W) (hH : Go.Sort.HoldsK (encG w) 2 W blk off d) (hlt : blk < W.heap.size) (hl : d.size ≤ 200000) : ZsAt W (some ⟨blk, off, none⟩) (d.toList.map (plG w)) := by
  refine ⟨by simp [maxLen]; omega, .inr ⟨blk, off, rfl, hlt, fun i hi => ?_⟩⟩
  have hi' : i < d.size := by simpa using hi
  have e : d[i]! = d[i] := getElem!_pos d i hi'
  have h0 := (hH (i * 2) (by simp; omega)).1
  have h1 := (hH (i * 2 + 1) (by simp; omega)).1
  rw [flat_even d i hi', e] at h0
  rw [flat_odd d i hi', e] at h1
  simp only [List.getElem_map, Array.getElem_toList]
  refine ⟨?_, d[i].1.a, d[i].1.cap, ?_, d[i].2.next hb⟩
  · rw [← Nat.add_assoc] at h1; exact h1
  · exact h0

theorem own_holdsK {w W : World} {base g n cap : Nat} {d : Array (Zg w)} (hn : n = d.size) (h : W.ownsRow base 53 2 (.slice (some ⟨g, 0, none⟩) n cap) n (Go.Sort.flatK (encG w) 2 d).toList) : Go.Sort.HoldsK (encG w) 2 W g 0 d := by
  intro j hj
  have hj' : j < n * 2 := by rw [hn]; simpa using hj
  refine ⟨?_, ?_⟩
  · rw [Nat.zero_add, h.cellAt j hj']
    show _ = some (Go.Sort.flatK (encG w) 2 d)[j]!
    rw [Array.getElem?_toList, getElem!_pos (Go.Sort.flatK (encG w) 2 d) j hj]
    exact Array.getElem?_eq_getElem hj
  · rw [Nat.zero_add]; exact h.frozenAt j

set_option maxHeartbeats 1000000 in
theorem clone_at (a : Option Addr) (cap : Nat) (l : List Zp) (w : World) (d : Array (Zg w)) (hd : d.size = l.length) (hl : l.length ≤ 200000)
    (h : l = [] ∨ ∃ b off, a = some ⟨b, off, none⟩ ∧ b < w.heap.size ∧ ∀ j, j < l.length * 2 → w.cell? ⟨b, off + j, none⟩ = some (Go.Sort.flatK (encG w) 2 d)[j]!) :
    Calls Tryz.prog 105 #[.slice a l.length cap] w fun e w' => ∃ v, e = .returned v ∧ w'.ownsRow w.heap.size 53 2 v l.length (Go.Sort.flatK (encG w) 2 d).toList ∧ Below w.heap.size w w' := by
  obtain ⟨i0, hi, hj0, hj1, hj2⟩ := info_parts Tryz.info42
  have hone : ∀ u ∈ (Go.Sort.flatK (encG w) 2 d).toList, u.oneCell' = true := by
    intro u hu
    obtain ⟨j, hj, rfl⟩ := List.getElem_of_mem hu
    have hj' : j < d.size * 2 := by simpa using hj
    have e : (Go.Sort.flatK (encG w) 2 d).toList[j] = (Go.Sort.flatK (encG w) 2 d)[j]! := by
      rw [Array.getElem_toList, getElem!_pos]
    rw [e, Go.Sort.get_flatK _ _ _ _ hj']
    rcases Nat.mod_two_eq_zero_or_one j with h0 | h1
    · rw [h0]; rfl
    · rw [h1]; rfl
  rcases a with _ | ad
  · have e : l = [] := by
      rcases h with h | ⟨b, off, e, _⟩
      · exact h
      · cases e
    subst e
    have d0 : (Go.Sort.flatK (encG w) 2 d).toList = [] := by
      apply List.eq_nil_of_length_eq_zero
      simp [hd]
    rw [d0]
    rw [List.length_nil]
    have q22 : ∀ (w : World) (a : Option Addr) (n c n' c' : Nat), (binOp .eql 28 (.slice a n c) (.slice none n' c')).run Tryz.prog w = .ok (.bool a.isNone) w := fun w a n c n' c' => Lib.run_eql_slice_nil w _ _ a n c n' c' Tryz.underlying28
    go_enter Tryz.func105, Tryz.ntmps105
    go_wp2_with fail
    go_ret
    exact ⟨_, rfl, World.ownsRow_nil _ _ _ _, Below.refl _ _⟩
  · have q22 : ∀ (w : World) (a : Option Addr) (n c n' c' : Nat), (binOp .eql 28 (.slice a n c) (.slice none n' c')).run Tryz.prog w = .ok (.bool a.isNone) w := fun w a n c n' c' => Lib.run_eql_slice_nil w _ _ a n c n' c' Tryz.underlying28
    go_enter Tryz.func105, Tryz.ntmps105
    go_wp2_with (at_builtin; refine wpList_append_own _ rfl _ _ 28 rfl w.heap.size 53 i0 _ 2 32 Tryz.underlying28 hi hj0 hj1 hj2 rfl (by decide) _ _ _ rfl (World.ownsRow_made w #[] 0 (Nat.le_refl _) (Nat.zero_le _) (by simp)) ad l.length cap (Go.Sort.flatK (encG w) 2 d).toList rfl ?qc1 ?qc2 hone ?qc4 ?qc5 ?qc6 ?_)
    case qc1 => simp [hd]
    case qc2 =>
      intro j u hj
      have hj' : j < d.size * 2 := by
        rcases Nat.lt_or_ge j (d.size * 2) with h | h
        · exact h
        · rw [List.getElem?_eq_none (by simpa using h)] at hj; cases hj
      rcases h with h | ⟨b, off, e, hlt, hc⟩
      · subst h; simp at hd; subst hd; simp at hj'
      · have e := Option.some.inj e
        subst e
        rw [addr_add']
        rw [Array.getElem?_toList, Array.getElem?_eq_getElem (by simpa using hj')] at hj
        have hj := Option.some.inj hj
        have := hc j (by omega)
        rw [getElem!_pos _ _ (by simpa using hj'), hj] at this
        exact Lib.cell?_alloc_some _ this
    case qc4 => rw [Nat.zero_add]; unfold maxLen; omega
    case qc5 => rw [Nat.zero_add]; omega
    case qc6 => simp
    intro v' w1 hown hgrow _
    have hb1 : Below w.heap.size w w1 := ((Below.refl _ _).alloc (Nat.le_refl _) _).grown hgrow (by simp) (by simp [Value.ownBlock])
    have hv : ∃ a1 c1, v' = .slice a1 l.length c1 := by
      obtain ⟨_, ⟨rfl, h0⟩ | ⟨g, c1, cur, rfl, _⟩⟩ := hown
      · exact ⟨none, 0, by rw [h0]⟩
      · exact ⟨_, c1, rfl⟩
    obtain ⟨a1, c1, rfl⟩ := hv
    clear hgrow
    go_wp2_with fail
    go_ret
    exact ⟨_, rfl, hown, hb1⟩
end Go.Proofs.YtfojonhblblbjaaGreat
/- The walk of zsets.summed. -/
namespace Go.Proofs.YtfojonhblblbjaaGreat
open Go.RowKit Go.Lib Go.Shelf

theorem mergedL_bd (m : Int) (hm : 0 ≤ m) : ∀ l : List Zp, (∀ x ∈ l, -m ≤ x.2 ∧ x.2 ≤ m) → ∀ y ∈ mergedL l, -(m * l.length) ≤ y.2 ∧ y.2 ≤ m * l.length := by
  refine snoc_rec (by simp [mergedL]) ?_
  intro l x ih h y hy
  have hx := h x (by simp)
  have ih := ih (fun u hu => h u (by simp [hu]))
  rw [mergedL_snoc] at hy
  have e : m * ((l ++ [x]).length : Int) = m * l.length + m := by
    simp only [List.length_append, List.length_singleton]
    rw [Int.natCast_add, Int.mul_add]; simp
  rw [e]
  have hp : 0 ≤ m * (l.length : Int) := Int.mul_nonneg hm (by omega)
  rcases List.eq_nil_or_concat (mergedL l) with e' | ⟨a, u, e'⟩
  · rw [e', mergeTo_nil] at hy
    simp at hy; subst hy; omega
  · rw [e', List.concat_eq_append, mergeTo_snoc] at hy
    have hu := ih u (by rw [e']; simp)
    split at hy
    · simp at hy
      rcases hy with hy | rfl
      · have := ih y (by rw [e']; simp [hy]); omega
      · simp only; omega
    · rcases List.mem_append.1 hy with hy | hy
      · have := ih y (by rw [e', List.concat_eq_append]; exact hy); omega
      · simp at hy; subst hy; omega

theorem sorted_list {w : World} {d d' : Array (Zg w)} {n : Nat} (hn : d.size = n) (hp : Go.Sort.PermIn 0 n d d') (hs : Go.Sort.SortedIn (ltOf (cfG w)) 0 n d') :
    d'.size = n ∧ (d'.toList.map (plG w)).Perm (d.toList.map (plG w)) ∧ (d'.toList.map (plG w)).Pairwise fun x y => cmpL x.1 y.1 ≤ 0 := by
  obtain ⟨h1, _, h3⟩ := hp
  have e1 : d'.size = n := h1.trans hn
  have x1 : d'.extract 0 n = d' := by rw [← e1]; exact Array.extract_size
  have x2 : d.extract 0 n = d := by rw [← hn]; exact Array.extract_size
  rw [x1, x2] at h3
  refine ⟨e1, h3.map _, ?_⟩
  rw [List.pairwise_map, List.pairwise_iff_getElem]
  intro i j hi hj hij
  have hi' : i < d'.size := by simpa using hi
  have hj' : j < d'.size := by simpa using hj
  have := of_decide_eq_false (hs i j (Nat.zero_le _) hij (by omega))
  rw [getElem!_pos d' i hi', getElem!_pos d' j hj'] at this
  simp only [Array.getElem_toList, plG]
  simp only [cfG] at this
  have n1 := cmpL_neg d'[i].1.row d'[j].1.row
  omega

/-- Cells that hold rows with weights, whose values lie in a world. -/
def EncB (W : World) (xs : List Value) (l : List Zp) : Prop :=
  xs.length = l.length * 2 ∧ ∀ (i : Nat) (h : i < l.length), ∃ a cap, xs[i * 2]? = some (.slice a l[i].1.length cap) ∧ xs[i * 2 + 1]? = some (.int .i64 l[i].2) ∧ SlAt W a l[i].1
theorem EncB.push {W : World} {xs : List Value} {l : List Zp} (h : EncB W xs l) {a : Option Addr} {cap : Nat} {x : Zp} (hs : SlAt W a x.1) : EncB W (xs ++ [.slice a x.1.length cap, .int .i64 x.2]) (l ++ [x]) := by
  have lx := h.1
  refine ⟨by simp [lx]; omega, fun i hi => ?_⟩
  by_cases hi' : i < l.length
  · obtain ⟨a', c', h1, h2, h3⟩ := h.2 i hi'
    refine ⟨a', c', ?_, ?_, ?_⟩
    · rw [List.getElem?_append_left (by omega), h1, List.getElem_append_left hi']
    · rw [List.getElem?_append_left (by omega), h2, List.getElem_append_left hi']
    · rw [List.getElem_append_left hi']; exact h3
  · have : i = l.length := by simp at hi; omega
    subst this
    refine ⟨a, cap, ?_, ?_, ?_⟩
    · rw [List.getElem?_append_right (by omega)]; simp [lx]
    · rw [List.getElem?_append_right (by omega)]; simp [lx]
    · simpa using hs
theorem EncB.last {W : World} {xs : List Value} {l : List Zp} {y : Zp} (h : EncB W xs (l ++ [y])) (z : Int) : EncB W (xs.set (l.length * 2 + 1) (.int .i64 z)) (l ++ [(y.1, z)]) := by
  have lx := h.1
  refine ⟨by simpa using lx, fun i hi => ?_⟩
  have hi0 : i < (l ++ [y]).length := by simpa using hi
  obtain ⟨a', c', h1, h2, h3⟩ := h.2 i hi0
  by_cases hi' : i < l.length
  · rw [List.getElem_append_left hi'] at h1 h2 h3 ⊢
    refine ⟨a', c', ?_, ?_, h3⟩
    · rw [List.getElem?_set_ne (by omega)]; exact h1
    · rw [List.getElem?_set_ne (by omega)]; exact h2
  · have : i = l.length := by simp at hi; omega
    subst this
    simp only [List.getElem_concat_length] at h1 h2 h3 ⊢
    refine ⟨a', c', ?_, ?_, h3⟩
    · rw [List.getElem?_set_ne (by omega)]; exact h1
    · rw [List.getElem?_set_self (by rw [lx]; simp; omega)]
theorem own_shape {W : World} {base n : Nat} {v : Value} {xs : List Value} (h : W.ownsRow base 53 2 v n xs) : ∃ a c, v = .slice a n c := by
  obtain ⟨_, ⟨rfl, h0⟩ | ⟨g, c1, cur, rfl, _⟩⟩ := h
  · exact ⟨none, 0, by rw [h0]⟩
  · exact ⟨_, c1, rfl⟩
theorem own_some {W : World} {base n : Nat} {v : Value} {xs : List Value} (h : W.ownsRow base 53 2 v n xs) (hn : 0 < n) : ∃ g c, v = .slice (some ⟨g, 0, none⟩) n c ∧ base ≤ g ∧ g < W.heap.size := by
  have h' := h
  obtain ⟨_, ⟨rfl, h0⟩ | ⟨g, c1, cur, rfl, hg, _⟩⟩ := h
  · omega
  · exact ⟨g, c1, rfl, hg, (h'.lt g rfl).2⟩
theorem own_zsB {W w2 : World} {base n : Nat} {v : Value} {xs : List Value} {l : List Zp} (h : W.ownsRow base 53 2 v n xs) (hn : n = l.length) (he : EncB w2 xs l) (hb : Below w2.heap.size w2 W) : ∃ a cap, v = .slice a l.length cap ∧ ZsAt W a l := by
  subst hn
  have h1' := h
  obtain ⟨hx, h1 | ⟨g, cap, cur, e, hg, hh, hn, hc, hs, ht⟩⟩ := h
  · obtain ⟨rfl, h0⟩ := h1
    have : l = [] := List.eq_nil_of_length_eq_zero h0
    subst this
    exact ⟨none, 0, rfl, Nat.zero_le _, .inl rfl⟩
  · subst e
    refine ⟨_, cap, rfl, Nat.le_trans hn hc, .inr ⟨g, 0, rfl, (h1'.lt g rfl).2, ?_⟩⟩
    intro i hi
    obtain ⟨a, cp, e0, e1, e2⟩ := he.2 i hi
    refine ⟨?_, a, cp, ?_, e2.next hb⟩
    · rw [h1'.cellAt _ (by omega), ← e1]; congr 1; omega
    · rw [h1'.cellAt _ (by omega), ← e0]; congr 1; omega

/-- What the loop has come to. -/
def SumTo (w2 wr : World) (v : Value) (acc : List Zp) : Prop := ∃ xs, wr.ownsRow w2.heap.size 53 2 v acc.length xs ∧ EncB w2 xs acc
theorem SumTo.next {w2 wr w3 : World} {v : Value} {acc : List Zp} (h : SumTo w2 wr v acc) (hb : Below wr.heap.size wr w3) : SumTo w2 w3 v acc := by
  obtain ⟨xs, h1, h2⟩ := h
  exact ⟨xs, own_next h1 hb, h2⟩
theorem SumTo.last {w2 wr : World} {g c : Nat} {a : List Zp} {y : Zp} (h : SumTo w2 wr (.slice (some ⟨g, 0, none⟩) (a.length + 1) c) (a ++ [y])) (z : Int) :
    SumTo w2 (wr.setCell ⟨g, a.length * 2 + 1, none⟩ (.int .i64 z)) (.slice (some ⟨g, 0, none⟩) (a.length + 1) c) (a ++ [(y.1, z)]) := by
  obtain ⟨xs, h1, h2⟩ := h
  have e : (a ++ [y]).length = a.length + 1 := by simp
  rw [e] at h1
  refine ⟨_, ?_, h2.last z⟩
  have := (h1.stored (a.length * 2 + 1) (.int .i64 z)).1
  simpa using this

end Go.Proofs.YtfojonhblblbjaaGreat
/- The walk of zsets.summed: rows that are there. -/
namespace Go.Proofs.YtfojonhblblbjaaGreat
open Go.RowKit Go.Lib Go.Shelf

def bigW (w : Int) : Bool := decide (-1000000000000 ≤ w) && decide (w ≤ 1000000000000)
theorem bigW_iff (x : Int) : bigW x = true ↔ -1000000000000 ≤ x ∧ x ≤ 1000000000000 := by simp [bigW]
theorem inW_iff (x : Int) : inW x = true ↔ -1000000 ≤ x ∧ x ≤ 1000000 := by simp [inW]

theorem inW_big {x : Int} (h : inW x = true) : bigW x = true := by
  rw [inW_iff] at h
  rw [bigW_iff]
  omega

set_option maxRecDepth 100000 in
set_option maxHeartbeats 4000000 in
theorem summed_some (a : Option Addr) (cap : Nat) (l : List Zp) (w : World) (h : ZsAt w a l) (hl : l.length ≤ 200000) (hn : 0 < l.length) (hw : ∀ x ∈ l, bigW x.2 = true) :
    Calls Tryz.prog 70 #[.slice a l.length cap] w fun e w' => ∃ s a' c', e = .returned (.slice a' (mergedL s).length c') ∧ s.Perm l ∧ (s.Pairwise fun x y => cmpL x.1 y.1 ≤ 0) ∧ ZsAt w' a' (mergedL s) ∧ Below w.heap.size w w' := by
  obtain ⟨i0, hi, hj0, hj1, hj2⟩ := info_parts Tryz.info42
  obtain ⟨d, hd, hdl, hc⟩ := h.arr
  go_enter Tryz.func70, Tryz.ntmps70
  go_wp2_with fail
  refine (clone_at a cap l w d hd (by omega) hc).mono ?_
  rintro e w1 ⟨v, rfl, hown, hb1⟩
  obtain ⟨g, c, rfl, hg, hgl⟩ := own_some hown hn
  have hH := own_holdsK hd.symm hown
  have hH := own_holdsK hd.symm hown
  have hH := own_holdsK hd.symm hown
  have hH := own_holdsK hd.symm hown
  have hH := own_holdsK hd.symm hown
  have con := sort_at w w1 hb1 g 0 c hg d hH hgl (by omega)
  rw [hd] at con
  have HN : Hid (0 < l.length) := hn
  clear hn hown hc
  go_wp2_with fail
  refine con.mono ?_
  clear con
  rintro e w2 ⟨rfl, d', n, os, hp, hs, hw2⟩
  obtain ⟨hd', hperm, hsort⟩ := sorted_list hd hp hs
  rw [hdl] at hperm
  have hb2 : Below w.heap.size w w2 := by rw [hw2]; exact below_sortWorld hb1 hg
  have hgl2 : g < w2.heap.size := by
    rw [hw2]
    exact Nat.lt_of_lt_of_le hgl (size_sortWorldK_c (encG w) 2 w1 g 0 n d' os)
  have zs : ZsAt w2 (some ⟨g, 0, none⟩) (d'.toList.map (plG w)) := by
    refine holdsK_zs hb2 ?_ hgl2 (by omega)
    rw [hw2]
    exact holdsK_sortWorldK_c (encG w) 2 w1 g 0 d d' n os hH hgl (by omega)
  generalize hs0 : d'.toList.map (plG w) = s at hperm hsort zs
  have hsl : s.length = l.length := by rw [← hs0]; simp [hd']
  have hws : ∀ x ∈ s, bigW x.2 = true := fun x hx => hw x (hperm.mem_iff.1 hx)
  have HP : Hid (s.Perm l) := hperm
  have HSo : Hid (s.Pairwise fun x y => cmpL x.1 y.1 ≤ 0) := hsort
  clear hperm hsort hw2 hs0 hd' hp hs hH hdl hd hgl h hw
  rw [← hsl]
  rw [← hsl] at hl
  clear HN
  go_wp2_with fail
  go_loopw [3, 13] (fun v i wr => ∃ k : Nat, k ≤ s.length ∧ i = .int .i64 k ∧ SumTo w2 wr v (mergedL (s.take k)) ∧ Below w2.heap.size w2 wr) (fun _ i _ => s.length - (intOf i).toNat)
  case atStart => exact ⟨0, Nat.zero_le _, rfl, ⟨[], World.ownsRow_nil _ _ _ _, rfl, fun i hi => by simp [mergedL] at hi⟩, Below.refl _ _⟩
  case round =>
    obtain ⟨k, hk, rfl, HS, hb⟩ := hrel
    have hz := hb.size
    by_cases hlt : k < s.length
    · obtain ⟨b, off, hh, hbl, c1, ar, cr, c0, sr⟩ := (zs.next hb).elem hlt
      obtain ⟨b', off', hh', hbl', c1', ar', cr', c0', sr'⟩ := zs.elem hlt
      simp only [Option.some.injEq, Addr.mk.injEq, and_true] at hh hh'
      obtain ⟨rfl, rfl⟩ := hh
      obtain ⟨rfl, rfl⟩ := hh'
      have ee := (hb.cell (p := ⟨g, _, none⟩) hgl2).trans c0'
      rw [c0] at ee
      simp only [Option.some.injEq, Value.slice.injEq, true_and] at ee
      obtain ⟨rfl, rfl⟩ := ee
      clear c0' c1' hbl'
      simp only [Nat.zero_add] at c0 c1
      have step : Hid (mergedL (s.take (k + 1)) = mergeTo (mergedL (s.take k)) s[k]) := by
        show mergedL (s.take (k + 1)) = _
        rw [List.take_succ_eq_append_getElem hlt, mergedL_snoc]
      have hlen := mergedL_len (s.take k)
      simp only [List.length_take] at hlen
      have hbd := mergedL_bd 1000000000000 (by omega) (s.take k) (fun x hx => (bigW_iff _).1 (hws x (List.mem_of_mem_take hx)))
      have hx := (bigW_iff _).1 (hws s[k] (List.getElem_mem hlt))
      generalize hacc : mergedL (s.take k) = acc at HS step hlen hbd
      clear hacc
      rcases List.eq_nil_or_concat acc with e | ⟨a', y, e⟩
      · subst e
        obtain ⟨xs, ho, he⟩ := HS
        obtain ⟨a3, c3, rfl⟩ := own_shape ho
        simp only [List.length_nil] at ho
        have hbA : Below wr.heap.size wr (wr.alloc (.cells #[.slice ar s[k].1.length cr, .int .i64 s[k].2] 53)) := (Below.refl _ _).alloc (Nat.le_refl _) _
        have q0 : (wr.alloc (.cells #[.slice ar s[k].1.length cr, .int .i64 s[k].2] 53)).cell? ⟨wr.heap.size, 0, none⟩ = some (.slice ar s[k].1.length cr) := by simp
        have q1 : (wr.alloc (.cells #[.slice ar s[k].1.length cr, .int .i64 s[k].2] 53)).cell? ⟨wr.heap.size, 1, none⟩ = some (.int .i64 s[k].2) := by simp
        haveI : Nonempty (Past (wr.alloc (.cells #[.slice ar s[k].1.length cr, .int .i64 s[k].2] 53))) := ⟨⟨_, Below.refl _ _⟩⟩
        simp only [List.length_nil]
        go_wp2_with fail
        generalize wr.alloc (.cells #[.slice ar s[k].1.length cr, .int .i64 s[k].2] 53) = wA at *
        refine wp_region_past (by kernel_rfl) (by kernel_rfl) ?_
        repeat (go_big_quiet_step (fail))
        refine wpQuiet_nil ?_
        rintro w4 ⟨⟨v4, hb4⟩, h4⟩
        obtain rfl : w4 = v4 := h4
        have ho4 := own_next (own_next ho hbA) hb4
        have r0 := (hb4.cell (p := ⟨wr.heap.size, 0, none⟩) (World.block_lt_of_cell? _ _ q0)).trans q0
        have r1 := (hb4.cell (p := ⟨wr.heap.size, 1, none⟩) (World.block_lt_of_cell? _ _ q1)).trans q1
        have hzA := hbA.size
        have hz4 := hb4.size
        clear ho
        go_wp2_with (at_builtin; refine wpList_append_own _ rfl _ _ 28 rfl w2.heap.size 53 i0 _ 2 32 Tryz.underlying28 hi hj0 hj1 hj2 rfl (by decide) _ _ _ rfl (ho4.alloc _) ⟨w4.heap.size, 0, none⟩ 1 1 [.slice ar s[k].1.length cr, .int .i64 s[k].2] rfl rfl ?Ac1 ?Ac2 ?Ac3 ?Ac4 ?Ac5 ?_)
        case Ac1 =>
          intro j u hj
          match j, hj with
          | 0, hj => simp at hj; subst hj; simp [Addr.add]
          | 1, hj => simp at hj; subst hj; simp [Addr.add]
        case Ac2 => intro u hu; simp at hu; rcases hu with rfl | rfl <;> rfl
        case Ac3 => unfold maxLen; first | omega | (simp; done) | (simp; omega)
        case Ac4 => first | omega | (simp; done) | (simp; omega)
        case Ac5 => simp; omega
        intro v' w5 ho5 hg5 _
        have hb5 : Below w2.heap.size w2 w5 := ((chain1 hb (chain1 hbA hb4)).alloc (by omega) _).grown hg5 (by simp; omega) (fun q hq => ((ho4.alloc (.cells #[.slice ar s[k].1.length cr, .int .i64 s[k].2] 53)).lt q hq).1)
        clear hg5 ho4 q0 q1
        go_wp2_with fail
        go_roundw
        case rel => exact ⟨k + 1, by omega, by go_num, by rw [step.out, mergeTo_nil]; exact ⟨_, ho5, he.push sr'⟩, hb5⟩
        case measure => simp [intOf]; omega
      · rw [List.concat_eq_append] at e
        subst e
        by_cases hc : cmpL y.1 s[k].1 = 0
        · have HS0 := HS
          obtain ⟨xs, ho, he⟩ := HS
          obtain ⟨g3, c3, rfl, hg3, hg3l⟩ := own_some ho (by simp)
          obtain ⟨ay, cy, x0, x1, sy⟩ := he.2 a'.length (by simp)
          simp only [List.getElem_concat_length] at x0 x1 sy
          have y0 : wr.cell? ⟨g3, a'.length * 2, none⟩ = some (.slice ay y.1.length cy) := by rw [ho.cellAt _ (by simp <;> omega)]; exact x0
          have y1 : wr.cell? ⟨g3, a'.length * 2 + 1, none⟩ = some (.int .i64 y.2) := by rw [ho.cellAt _ (by simp <;> omega)]; exact x1
          have f1 : wr.frozen? ⟨g3, a'.length * 2 + 1, none⟩ = false := ho.frozenAt _
          have el : (a' ++ [y]).length = a'.length + 1 := by simp
          rw [el] at ho HS0 ⊢
          have hy := hbd y (by simp)
          rw [el] at hlen
          have hkk : ((s.take k).length : Int) ≤ 200000 := by rw [List.length_take]; omega
          have hbA : Below wr.heap.size wr (wr.alloc (.cells #[.slice ar s[k].1.length cr, .int .i64 s[k].2] 53)) := (Below.refl _ _).alloc (Nat.le_refl _) _
          have q0 : (wr.alloc (.cells #[.slice ar s[k].1.length cr, .int .i64 s[k].2] 53)).cell? ⟨wr.heap.size, 0, none⟩ = some (.slice ar s[k].1.length cr) := by simp
          have q1 : (wr.alloc (.cells #[.slice ar s[k].1.length cr, .int .i64 s[k].2] 53)).cell? ⟨wr.heap.size, 1, none⟩ = some (.int .i64 s[k].2) := by simp
          have y0A := (hbA.cell (p := ⟨g3, _, none⟩) hg3l).trans y0
          have y1A := (hbA.cell (p := ⟨g3, _, none⟩) hg3l).trans y1
          have f1A := (hbA.frozen (p := ⟨g3, _, none⟩) hg3l).trans f1
          have hgA : g3 < (wr.alloc (.cells #[.slice ar s[k].1.length cr, .int .i64 s[k].2] 53)).heap.size := Nat.lt_of_lt_of_le hg3l hbA.size
          haveI : Nonempty (Past (wr.alloc (.cells #[.slice ar s[k].1.length cr, .int .i64 s[k].2] 53))) := ⟨⟨_, Below.refl _ _⟩⟩
          have sA := sr.next hbA
          have tA := (sy.next hb).next hbA
          have e1 : ((a'.length + 1 : Nat) : Int) - 1 = (a'.length : Int) := by omega
          have i1 : (0 : Int) ≤ (a'.length : Int) := by omega
          have i2 : (a'.length : Int) < ((a'.length + 1 : Nat) : Int) := by omega
          have i3 : a'.length < a'.length + 1 := by omega
          clear y0 y1 f1 x0 x1
          have HC : Hid (cmpL y.1 s[k].1 = 0) := hc
          go_wp2_with fail
          generalize wr.alloc (.cells #[.slice ar s[k].1.length cr, .int .i64 s[k].2] 53) = wA at *
          have p0 := past_cell y0A
          have p1 := past_cell q0
          refine wp_region_past (by kernel_rfl) (by kernel_rfl) ?_
          repeat (go_big_quiet_step (first | (go_at_call 84; exact in_past (rows_at _ _ _ _ _ _ _ (tA.next (Past.ok _)) (sA.next (Past.ok _))))))
          refine wpQuiet_nil ?_
          rintro w4 ⟨⟨v4, hb4⟩, h4⟩
          obtain rfl : w4 = v4 := h4
          clear p0 p1
          have r0 := (hb4.cell (p := ⟨wr.heap.size, 0, none⟩) (World.block_lt_of_cell? _ _ q0)).trans q0
          have r1 := (hb4.cell (p := ⟨wr.heap.size, 1, none⟩) (World.block_lt_of_cell? _ _ q1)).trans q1
          have z0 := (hb4.cell (p := ⟨g3, _, none⟩) hgA).trans y0A
          have z1 := (hb4.cell (p := ⟨g3, _, none⟩) hgA).trans y1A
          have zf := (hb4.frozen (p := ⟨g3, _, none⟩) hgA).trans f1A
          have hzA := hbA.size
          have hz4 := hb4.size
          have HS4 := (HS0.next hbA).next hb4
          clear ho y0A y1A f1A q0 q1
          have hv1 : -9223372036854775808 ≤ y.2 + s[k].2 := by omega
          have hv2 : y.2 + s[k].2 ≤ 9223372036854775807 := by omega
          go_wp2_with fail
          go_region
          have hb5 : Below w2.heap.size w2 (w4.setCell ⟨g3, a'.length * 2 + 1, none⟩ (.int .i64 (y.2 + s[k].2))).drew := ((chain1 hb (chain1 hbA hb4)).setCell (p := ⟨g3, a'.length * 2 + 1, none⟩) hg3 _).drew
          have HS5 : SumTo w2 (w4.setCell ⟨g3, a'.length * 2 + 1, none⟩ (.int .i64 (y.2 + s[k].2))).drew (.slice (some ⟨g3, 0, none⟩) (a'.length + 1) c3) (a' ++ [(y.1, y.2 + s[k].2)]) := (HS4.last _).next ((Below.refl _ _).drew)
          clear HS4 HS0 z0 z1 zf r0 r1
          go_wp2_with fail
          go_roundw
          case rel => exact ⟨k + 1, by omega, by go_num, by rw [step.out, mergeTo_snoc, if_pos HC.out]; exact HS5, hb5⟩
          case measure => simp [intOf]; omega
        · have HS0 := HS
          obtain ⟨xs, ho, he⟩ := HS
          obtain ⟨g3, c3, rfl, hg3, hg3l⟩ := own_some ho (by simp)
          obtain ⟨ay, cy, x0, x1, sy⟩ := he.2 a'.length (by simp)
          simp only [List.getElem_concat_length] at x0 x1 sy
          have y0 : wr.cell? ⟨g3, a'.length * 2, none⟩ = some (.slice ay y.1.length cy) := by rw [ho.cellAt _ (by simp <;> omega)]; exact x0
          have y1 : wr.cell? ⟨g3, a'.length * 2 + 1, none⟩ = some (.int .i64 y.2) := by rw [ho.cellAt _ (by simp <;> omega)]; exact x1
          have f1 : wr.frozen? ⟨g3, a'.length * 2 + 1, none⟩ = false := ho.frozenAt _
          have el : (a' ++ [y]).length = a'.length + 1 := by simp
          rw [el] at ho HS0 ⊢
          have hy := hbd y (by simp)
          rw [el] at hlen
          have hkk : ((s.take k).length : Int) ≤ 200000 := by rw [List.length_take]; omega
          have hbA : Below wr.heap.size wr (wr.alloc (.cells #[.slice ar s[k].1.length cr, .int .i64 s[k].2] 53)) := (Below.refl _ _).alloc (Nat.le_refl _) _
          have q0 : (wr.alloc (.cells #[.slice ar s[k].1.length cr, .int .i64 s[k].2] 53)).cell? ⟨wr.heap.size, 0, none⟩ = some (.slice ar s[k].1.length cr) := by simp
          have q1 : (wr.alloc (.cells #[.slice ar s[k].1.length cr, .int .i64 s[k].2] 53)).cell? ⟨wr.heap.size, 1, none⟩ = some (.int .i64 s[k].2) := by simp
          have y0A := (hbA.cell (p := ⟨g3, _, none⟩) hg3l).trans y0
          have y1A := (hbA.cell (p := ⟨g3, _, none⟩) hg3l).trans y1
          have f1A := (hbA.frozen (p := ⟨g3, _, none⟩) hg3l).trans f1
          have hgA : g3 < (wr.alloc (.cells #[.slice ar s[k].1.length cr, .int .i64 s[k].2] 53)).heap.size := Nat.lt_of_lt_of_le hg3l hbA.size
          haveI : Nonempty (Past (wr.alloc (.cells #[.slice ar s[k].1.length cr, .int .i64 s[k].2] 53))) := ⟨⟨_, Below.refl _ _⟩⟩
          have sA := sr.next hbA
          have tA := (sy.next hb).next hbA
          have e1 : ((a'.length + 1 : Nat) : Int) - 1 = (a'.length : Int) := by omega
          have i1 : (0 : Int) ≤ (a'.length : Int) := by omega
          have i2 : (a'.length : Int) < ((a'.length + 1 : Nat) : Int) := by omega
          have i3 : a'.length < a'.length + 1 := by omega
          clear y0 y1 f1 x0 x1
          have HC : Hid (¬ cmpL y.1 s[k].1 = 0) := hc
          have b0 : (cmpL y.1 s[k].1 == 0) = false := by simpa using hc
          go_wp2_with fail
          generalize wr.alloc (.cells #[.slice ar s[k].1.length cr, .int .i64 s[k].2] 53) = wA at *
          have p0 := past_cell y0A
          have p1 := past_cell q0
          refine wp_region_past (by kernel_rfl) (by kernel_rfl) ?_
          repeat (go_big_quiet_step (first | (go_at_call 84; exact in_past (rows_at _ _ _ _ _ _ _ (tA.next (Past.ok _)) (sA.next (Past.ok _))))))
          refine wpQuiet_nil ?_
          rintro w4 ⟨⟨v4, hb4⟩, h4⟩
          obtain rfl : w4 = v4 := h4
          clear p0 p1
          have r0 := (hb4.cell (p := ⟨wr.heap.size, 0, none⟩) (World.block_lt_of_cell? _ _ q0)).trans q0
          have r1 := (hb4.cell (p := ⟨wr.heap.size, 1, none⟩) (World.block_lt_of_cell? _ _ q1)).trans q1
          have z0 := (hb4.cell (p := ⟨g3, _, none⟩) hgA).trans y0A
          have z1 := (hb4.cell (p := ⟨g3, _, none⟩) hgA).trans y1A
          have zf := (hb4.frozen (p := ⟨g3, _, none⟩) hgA).trans f1A
          have hzA := hbA.size
          have hz4 := hb4.size
          have ho4 := own_next (own_next ho hbA) hb4
          clear ho y0A y1A f1A
          go_wp2_with (at_builtin; refine wpList_append_own _ rfl _ _ 28 rfl w2.heap.size 53 i0 _ 2 32 Tryz.underlying28 hi hj0 hj1 hj2 rfl (by decide) _ _ _ rfl (ho4.alloc _) ⟨w4.heap.size, 0, none⟩ 1 1 [.slice ar s[k].1.length cr, .int .i64 s[k].2] rfl rfl ?Bc1 ?Bc2 ?Bc3 ?Bc4 ?Bc5 ?_)
          case Bc1 =>
            intro j u hj
            match j, hj with
            | 0, hj => simp at hj; subst hj; simp [Addr.add]
            | 1, hj => simp at hj; subst hj; simp [Addr.add]
          case Bc2 => intro u hu; simp at hu; rcases hu with rfl | rfl <;> rfl
          case Bc3 => unfold maxLen; first | omega | (simp; done) | (simp; omega)
          case Bc4 => first | omega | (simp; done) | (simp; omega)
          case Bc5 => simp; omega
          intro v' w5 ho5 hg5 _
          have hb5 : Below w2.heap.size w2 w5 := ((chain1 hb (chain1 hbA hb4)).alloc (by omega) _).grown hg5 (by simp; omega) (fun q hq => ((ho4.alloc (.cells #[.slice ar s[k].1.length cr, .int .i64 s[k].2] 53)).lt q hq).1)
          clear hg5 ho4 q0 q1
          go_wp2_with fail
          go_roundw
          case rel => exact ⟨k + 1, by omega, by go_num, by rw [step.out, mergeTo_snoc, if_neg HC.out]; exact ⟨_, by simpa using ho5, he.push sr'⟩, hb5⟩
          case measure => simp [intOf]; omega
    · have e : k = s.length := by omega
      subst e
      rw [List.take_length] at HS
      obtain ⟨xs, ho, he⟩ := HS
      obtain ⟨a3, c3, rfl, z3⟩ := own_zsB ho rfl he hb
      go_wp2_with fail
      go_ret
      exact ⟨s, a3, c3, rfl, HP.out, HSo.out, z3, hb2.trans (hb.mono hb2.size)⟩
end Go.Proofs.YtfojonhblblbjaaGreat
