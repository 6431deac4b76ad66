/- The walk of the document's Type. -/
import Derived.Test.YtbdhmjojamoafaaT1
import Derived.Test.YtbdhmjojamoafaaY5
import Derived.Test.YtbdhmjojamoafaaYG
namespace Go.Proofs.Ytbdhmjojamoafaa
open Go.RowKit

/-- The letter of an answer. -/
def lv (r : Int × Int × Int) : Int := if r.2.1 = 0 then ltr r.1 else 0
def TypeLAt (cols : List Int) (x : Ex) : Prop :=
  ∀ (B t : Nat) (ca : Option Addr) (ccap : Nat) (a : Option Addr) (cap : Nat) (m d : Int) (w : World), KsAt B w a x.ks → IsAt B w ca cols → B ≤ t → TyAt w t ca cols.length ccap m → 0 ≤ m → m ≤ 200 → 0 ≤ d → d ≤ 21 →
    Calls Try.prog 24 #[.pointer (some ⟨t, 0, none⟩), exV x.k x.v x.c a x.ks.length cap, .int .i64 d] w fun e w' =>
      e = .returned (.tuple #[.int .u8 (lv (typeX cols x m d)), .int .i64 (typeX cols x m d).2.1]) ∧ BelowX t w w' ∧ TyAt w' t ca cols.length ccap (typeX cols x m d).2.2

theorem info5 : (Try.prog.info? 5).map (fun i => (i.zero, i.size, i.bytes)) = some (some (.int .u8 0), 1, 1) := by kernel_rfl
def bytesOf (ts : List Int) : List Value := ts.map fun t => .int .u8 (ltr t)
theorem goes_bool {t : Int} (h : inT t) : (togL (ltr t) 98 == 98) = (tog t 2).isSome := by
  unfold inT at h
  obtain rfl | rfl | rfl | rfl : t = 1 ∨ t = 2 ∨ t = 3 ∨ t = 4 := by omega
  all_goals rfl
theorem goes_int {t : Int} (h : inT t) : (togL (ltr t) 105 == 105) = (tog t 3).isSome := by
  unfold inT at h
  obtain rfl | rfl | rfl | rfl : t = 1 ∨ t = 2 ∨ t = 3 ∨ t = 4 := by omega
  all_goals rfl
theorem goes_text {t : Int} (h : inT t) : (togL (ltr t) 116 == 116) = (tog t 4).isSome := by
  unfold inT at h
  obtain rfl | rfl | rfl | rfl : t = 1 ∨ t = 2 ∨ t = 3 ∨ t = 4 := by omega
  all_goals rfl
theorem goes_two {t u : Int} (h : inT t) (h' : inT u) : (togL (ltr t) (ltr u) != 0) = (tog t u).isSome := by
  unfold inT at h h'
  obtain rfl | rfl | rfl | rfl : t = 1 ∨ t = 2 ∨ t = 3 ∨ t = 4 := by omega
  all_goals (obtain rfl | rfl | rfl | rfl : u = 1 ∨ u = 2 ∨ u = 3 ∨ u = 4 := by omega)
  all_goals rfl
theorem goes_type {t u r : Int} (h : inT t) (h' : inT u) (e : tog t u = some r) : togL (ltr t) (ltr u) = ltr r := by rw [togL_tog h h', e]
theorem goes_none {t u : Int} (h : inT t) (h' : inT u) (e : tog t u = none) : togL (ltr t) (ltr u) = 0 := by rw [togL_tog h h', e]
theorem all1 (T t0 : Int) : allO T [t0] = if (tog t0 T).isSome then some T else none := by simp [allO]
theorem all2 (T t0 t1 : Int) : allO T [t0, t1] = if (tog t0 T).isSome && (tog t1 T).isSome then some T else none := by simp [allO]
/-- All types of kids are types. -/
def InAll (ts : List Int) : Prop := ∀ t ∈ ts, inT t

/-- What the walk holds behind the loop. -/
structure Behind (W w : World) (t g cg : Nat) (ca : Option Addr) (cn ccap : Nat) (q : Int) (k : Int) (v : Vl) (c : Int) (a : Option Addr) (n cap : Nat) : Prop where
  x : BelowX t w W
  ty : TyAt W t ca cn ccap q
  six : Six W w.heap.size 0 k v c a n cap

theorem own_nextX {t base n : Nat} {W w1 : World} {v : Value} {xs : List Value} (h : W.ownsRow base 5 1 v n xs) (hb : BelowX t W w1) (hn : t < base) : w1.ownsRow base 5 1 v n xs := by
  have hlt := h.lt
  obtain ⟨h0, ⟨rfl, h1⟩ | ⟨g, c1, cur, rfl, hg, hh, r⟩⟩ := h
  · exact ⟨h0, .inl ⟨rfl, h1⟩⟩
  · have := (hlt g rfl).2
    exact ⟨h0, .inr ⟨g, c1, cur, rfl, hg, (hb.2 g this (by omega)).trans hh, r⟩⟩
theorem TyAt.low {B : Nat} {W w1 : World} {t : Nat} {ca : Option Addr} {n cap : Nat} {m : Int} (h : TyAt W t ca n cap m) (hb : Below B W w1) (hB : t < B) : TyAt w1 t ca n cap m :=
  ⟨Nat.lt_of_lt_of_le h.lt hb.size, (hb.cell (p := ⟨t, 0, none⟩) hB).trans h.c0, (hb.cell (p := ⟨t, 1, none⟩) hB).trans h.c1, (hb.frozen (p := ⟨t, 1, none⟩) hB).trans h.f1⟩
theorem BelowX.low {B t : Nat} {a b c : World} (h : BelowX t a b) (hb : Below B b c) (hB : a.heap.size ≤ B) (ht : t ≤ B) : BelowX t a c :=
  ⟨h.1.trans (hb.mono ht), fun k hk hn => (hb.block k (by omega)).trans (h.2 k hk hn)⟩
theorem inAll_snoc {ts : List Int} {t : Int} (h : InAll ts) (h' : inT t) : InAll (ts ++ [t]) := by
  intro u hu
  simp at hu
  rcases hu with hu | rfl
  · exact h u hu
  · exact h'
theorem own5_some {W : World} {base n : Nat} {v : Value} {xs : List Value} (h : W.ownsRow base 5 1 v n xs) (hn : 0 < n) : ∃ g c, v = .slice (some ⟨g, 0, none⟩) n c ∧ base ≤ g ∧ g < W.heap.size := by
  have h' := h
  obtain ⟨_, ⟨rfl, h0⟩ | ⟨g, c1, cur, rfl, hg, _⟩⟩ := h
  · omega
  · exact ⟨g, c1, rfl, hg, (h'.lt g rfl).2⟩
theorem list1 {l : List Int} (h : l.length = 1) : ∃ x, l = [x] := by
  match l, h with
  | [x], _ => exact ⟨x, rfl⟩
theorem news1 (w : World) (u : Value) (t : Nat) : ∀ (j : Nat) (x : Value), [u][j]? = some x → (w.alloc (.cells #[u] t)).cell? ((⟨w.heap.size, 0, none⟩ : Addr).add j) = some x := by
  intro j x hj
  match j, hj with
  | 0, hj => simp at hj; subst hj; simp [Addr.add]
theorem one1 (n : Int) : ∀ u ∈ [Value.int .u8 n], u.oneCell' = true := by
  intro u hu; simp at hu; subst hu; rfl

set_option maxRecDepth 100000 in
set_option maxHeartbeats 8000000 in
theorem typeL_at (cols : List Int) (hcols : colsB cols = true) (k : Int) (v : Vl) (c : Int) (ks : List Ex) (ih : ∀ x ∈ ks, TypeLAt cols x) : TypeLAt cols (.mk k v c ks) := by
  intro B t ca ccap a cap m d w hk hc hBt ht hm0 hm hd0 hd
  simp only [Ex.k, Ex.v, Ex.c, Ex.ks] at hk ⊢
  have H1 := ht.lt
  have H2 := ht.c1
  have H3 := ht.f1
  generalize hr : typeX cols (.mk k v c ks) m d = r
  have HR : Hid (typeX cols (.mk k v c ks) m d = r) := hr
  clear hr
  by_cases hmuch : 200 < m + 1 ∨ 20 < d
  · have er : r = (0, 4, m + 1) := by
      have e := nodeW_much (k := k) (n := ks.length) hmuch
      rw [← HR.out, typeX_bad (by rw [e]; decide), e]
    subst er
    have T0 := ht.count (m + 1)
    have X0 := (BelowX.refl t w).set 1 (.int .i64 (m + 1))
    have hal : Below (w.setCell ⟨t, 1, none⟩ (.int .i64 (m + 1))).heap.size (w.setCell ⟨t, 1, none⟩ (.int .i64 (m + 1))) ((w.setCell ⟨t, 1, none⟩ (.int .i64 (m + 1))).alloc (.cells #[.int .i64 k, .int .i64 v.1, .int .i64 v.2.1, .string v.2.2, .int .i64 c, .slice a ks.length cap] 27)) := (Below.refl _ _).alloc (Nat.le_refl _) _
    have TA := T0.next hal
    have XA := X0.trans (BelowX.of hal (by simp; omega))
    clear HR hal T0 X0
    by_cases h1 : 200 < m + 1
    · go_enter Try.func24, Try.ntmps24
      go_wp2_with fail
      exact bodyPost_ret (v := .tuple #[.int .u8 0, .int .i64 4]) (by simp [results, Try.results24, go_sem]) rfl ⟨rfl, XA, TA⟩
    · have h2 : 20 < d := by omega
      go_enter Try.func24, Try.ntmps24
      go_wp2_with fail
      exact bodyPost_ret (v := .tuple #[.int .u8 0, .int .i64 4]) (by simp [results, Try.results24, go_sem]) rfl ⟨rfl, XA, TA⟩
  have hm1 : ¬ 200 < m + 1 := by omega
  have hd1 : ¬ 20 < d := by omega
  clear hmuch
  have T0 := ht.count (m + 1)
  have X0 := (BelowX.refl t w).set 1 (.int .i64 (m + 1))
  have SA := Six.new (w.setCell ⟨t, 1, none⟩ (.int .i64 (m + 1))) k v c a ks.length cap 27
  rw [World.size_setCell] at SA
  have hal : Below (w.setCell ⟨t, 1, none⟩ (.int .i64 (m + 1))).heap.size (w.setCell ⟨t, 1, none⟩ (.int .i64 (m + 1))) ((w.setCell ⟨t, 1, none⟩ (.int .i64 (m + 1))).alloc (.cells #[.int .i64 k, .int .i64 v.1, .int .i64 v.2.1, .string v.2.2, .int .i64 c, .slice a ks.length cap] 27)) := (Below.refl _ _).alloc (Nat.le_refl _) _
  have TA := T0.next hal
  have XA := X0.trans (BelowX.of hal (by simp; omega))
  have zA : w.heap.size < ((w.setCell ⟨t, 1, none⟩ (.int .i64 (m + 1))).alloc (.cells #[.int .i64 k, .int .i64 v.1, .int .i64 v.2.1, .string v.2.2, .int .i64 c, .slice a ks.length cap] 27)).heap.size := by simp
  clear hal T0 X0 ht
  go_enter Try.func24, Try.ntmps24
  go_wp2_with fail
  clear H2 H3
  generalize (w.setCell ⟨t, 1, none⟩ (.int .i64 (m + 1))).alloc (.cells #[.int .i64 k, .int .i64 v.1, .int .i64 v.2.1, .string v.2.2, .int .i64 c, .slice a ks.length cap] 27) = wA at *
  refine (kids_at k wA).mono ?_
  rintro e w3 ⟨rfl, hb3⟩
  have T3 := TA.next hb3
  have S3 := SA.next hb3 zA
  have X3 := XA.trans (BelowX.of hb3 (by omega))
  have z3 := hb3.size
  clear TA SA XA
  by_cases hkind : k < 1 ∨ 18 < k
  · have e := nodeW_kind (n := ks.length) (m := m + 1) (d := d) (by omega) (by omega) hkind
    have er : r = (0, 1, m + 1) := by rw [← HR.out, typeX_bad (by rw [e]; decide), e]
    subst er
    have ek : kidsR k = -1 := by unfold kidsR; rw [if_pos hkind]
    rw [ek]
    clear HR S3
    go_wp2_with fail
    exact bodyPost_ret (v := .tuple #[.int .u8 0, .int .i64 1]) (by simp [results, Try.results24, go_sem]) rfl ⟨rfl, X3, T3⟩
  have ek : kidsR k = kidsN k := by unfold kidsR; rw [if_neg hkind]
  rw [ek]
  have hk1 : ¬ k < 1 := by omega
  have hk18 : ¬ 18 < k := by omega
  clear hkind ek
  obtain ⟨s0, s1, s2, s3, s4, s5⟩ := S3
  simp only [Nat.zero_add] at s1 s2 s3 s4 s5
  by_cases hlen : ks.length = kidsN k
  case neg =>
    have e := nodeW_many (m := m + 1) (d := d) (by omega) (by omega) (by omega) (by omega) hlen
    have er : r = (0, 5, m + 1) := by rw [← HR.out, typeX_bad (by rw [e]; decide), e]
    subst er
    have q0 : ¬ (kidsN k : Int) < 0 := by omega
    have q1 : ((ks.length : Int) != (kidsN k : Nat)) = true := by simp; omega
    generalize kidsN k = kn at *
    clear HR hlen
    go_wp2_with fail
    exact bodyPost_ret (v := .tuple #[.int .u8 0, .int .i64 5]) (by simp [results, Try.results24, go_sem]) rfl ⟨rfl, X3, T3⟩
  have HW : Hid (nodeW k ks.length (m + 1) d = 0) := nodeW_ok (by omega) (by omega) (by omega) (by omega) hlen
  have hl3 : ks.length ≤ 3 := by rw [hlen]; exact kidsN_le k
  have HL : Hid (ks.length = kidsN k) := hlen
  rw [← hlen]
  clear hlen
  have zl : w.heap.size < w3.heap.size := by omega
  obtain ⟨i0, hi, hj0, hj1, hj2⟩ := info_parts info5
  go_wp2_with fail
  have S3 : Six w3 w.heap.size 0 k v c a ks.length cap := ⟨s0, s1, s2, s3, s4, s5⟩
  have O4 : (w3.alloc (.cells #[] 5)).ownsRow w3.heap.size 5 1 (.slice (some ⟨w3.heap.size, 0, none⟩) 0 0) 0 [] := World.ownsRow_made w3 #[] 0 (Nat.le_refl _) (Nat.zero_le _) (by simp)
  have hal : Below w3.heap.size w3 (w3.alloc (.cells #[] 5)) := (Below.refl _ _).alloc (Nat.le_refl _) _
  have T4 := T3.next hal
  have S4 := S3.next hal zl
  have X4 := X3.trans (BelowX.of hal (by omega))
  have z4 : w3.heap.size < (w3.alloc (.cells #[] 5)).heap.size := by simp
  generalize w3.alloc (.cells #[] 5) = w4 at *
  clear hal T3 S3 X3 s0 s1 s2 s3 s4 s5 hb3 z3 zA
  go_loopw [9, 47] (fun u i wr => ∃ (j : Nat) (ts : List Int) (q : Int), j ≤ ks.length ∧ i = .int .i64 j ∧ Hid (ts.length = j) ∧ Hid (InAll ts) ∧ 0 ≤ q ∧ q ≤ 200 ∧ Hid (typesX cols ks [] (m + 1) (d + 1) = typesX cols (ks.drop j) ts q (d + 1)) ∧
    BelowX t w wr ∧ TyAt wr t ca cols.length ccap q ∧ Six wr w.heap.size 0 k v c a ks.length cap ∧ w3.heap.size < wr.heap.size ∧ wr.ownsRow w3.heap.size 5 1 u j (bytesOf ts)) (fun _ i _ => ks.length - (intOf i).toNat)
  case atStart => exact ⟨0, [], m + 1, Nat.zero_le _, rfl, rfl, (fun t ht => by simp at ht), by omega, by omega, rfl, X4, T4, S4, z4, O4⟩
  case round =>
    obtain ⟨j, ts, q, hj, rfl, HT, HI, hq0, hq, HE, hX, hT, hS, hwz, hO⟩ := hrel
    have hz := hX.size
    by_cases hlt : j < ks.length
    · obtain ⟨b, off, ai, ci, rfl, hbl, sx, kx⟩ := (KsAt.next (hX.below hBt) (Nat.le_refl _) hk).elem hlt
      have hcr := hc.next (hX.below hBt) (Nat.le_refl _)
      obtain ⟨x0, x1, x2, x3, x4, x5⟩ := sx
      have hal : Below wr.heap.size wr (wr.alloc (.cells #[.int .i64 ks[j].k, .int .i64 ks[j].v.1, .int .i64 ks[j].v.2.1, .string ks[j].v.2.2, .int .i64 ks[j].c, .slice ai ks[j].ks.length ci] 27)) := (Below.refl _ _).alloc (Nat.le_refl _) _
      have con := ih ks[j] (List.getElem_mem _) B t ca ccap ai ci q (d + 1) _ (KsAt.next hal (by omega) kx) (hcr.next hal (by omega)) hBt (hT.next hal) hq0 hq (by omega) (by omega)
      go_wp2_with fail
      refine con.mono ?_
      clear con
      rintro e w5 ⟨rfl, hX5, hT5⟩
      have X5 := (BelowX.of hal (t := t) (by omega)).trans hX5
      have hX5' := hX.trans X5
      have S5 := hS.nextX X5 (by omega) (by omega)
      have O5 := own_nextX hO X5 (by omega)
      have z5 := X5.size
      generalize hty : typeX cols ks[j] q (d + 1) = ty at *
      have HY : Hid (typeX cols ks[j] q (d + 1) = ty) := hty
      obtain ⟨t1, e1, n1⟩ := ty
      clear hty hX5 hal hT hS hO x0 x1 x2 x3 x4 x5 kx hcr
      by_cases he : e1 = 0
      · subst he
        have hn1 := typeX_n (by rw [HY.out] : (typeX cols ks[j] q (d + 1)).2.1 = 0)
        rw [HY.out] at hn1
        have HN : Hid (n1 ≤ 200 ∧ q < n1) := hn1
        have HIn : Hid (inT t1) := by
          have := (typeX_ok cols ks[j] q (d + 1) t1 n1).1 HY.out
          exact typP_in (colsB_at hcols) _ _ this.1
        have el : lv (t1, 0, n1) = ltr t1 := rfl
        rw [el]
        clear hn1 el
        go_wp2_with (at_builtin; refine wpList_append_own _ rfl (.tmp 62) (.tmp 64) 68 rfl w3.heap.size 5 i0 _ 1 1 Try.underlying68 hi hj0 hj1 hj2 rfl (by decide) _ _ _ rfl (O5.alloc _) ⟨w5.heap.size, 0, none⟩ 1 1 [.int .u8 (ltr t1)] rfl rfl (news1 _ _ _) (one1 _) (by unfold maxLen; omega) (by omega) (by simp; omega) ?_)
        intro v' w6 ho6 hg6 _
        have hb6 : Below w3.heap.size w5 w6 := ((Below.refl _ _).alloc (by omega) _).grown hg6 (by simp; omega) (fun q hq => ((O5.alloc (.cells #[.int .u8 (ltr t1)] 5)).lt q hq).1)
        have T6 := hT5.low hb6 (by omega)
        have S6 := S5.next hb6 (by omega)
        have X6 := hX5'.low hb6 (by omega) (by omega)
        have z6 := hb6.size
        have ho7 : w6.ownsRow w3.heap.size 5 1 v' (j + 1) (bytesOf (ts ++ [t1])) := by
          have e : bytesOf (ts ++ [t1]) = bytesOf ts ++ [.int .u8 (ltr t1)] := by simp [bytesOf]
          rw [e]; exact ho6
        clear ho6 hg6 hb6 O5 S5 hT5 hX5' X5
        go_wp2_with fail
        go_roundw
        case rel => exact ⟨j + 1, ts ++ [t1], n1, by omega, by go_num, by have := HT.out; show (ts ++ [t1]).length = j + 1; simp [this], inAll_snoc HI.out HIn.out, by have := HN.out; omega, HN.out.1, by rw [HE.out, typesX_next cols ks ts q (d + 1) j hlt (by rw [HY.out]), HY.out]; rfl, X6, T6, S6, by omega, ho7⟩
        case measure => simp [intOf]; omega
      · have er : r = (0, e1, n1) := by
          rw [← HR.out]
          refine typeX_kid HW.out (ts := ts) ?_ he
          rw [HE.out, typesX_bad cols ks ts q (d + 1) j hlt (by rw [HY.out]; exact he), HY.out]
        subst er
        have q' : (e1 != 0) = true := by simpa using he
        clear HR O5 S5
        go_wp2_with fail
        exact bodyPost_ret (v := .tuple #[.int .u8 0, .int .i64 e1]) (by simp [results, Try.results24, go_sem]) rfl ⟨by simp [lv, he], hX5', hT5⟩
    · have ej : j = ks.length := by omega
      subst ej
      have hts := HT.out
      have er : r = ((nodeT cols k v c ts).1, (nodeT cols k v c ts).2, q) := by
        rw [← HR.out]
        refine typeX_own HW.out ?_
        rw [HE.out, typesX_end cols ks ts q (d + 1) _ (Nat.le_refl _)]
      have HER : Hid _ := er
      have hkn := HL.out
      rw [hkn] at hts
      have HTS : Hid (ts.length = kidsN k) := hts
      have HKN : Hid (ks.length = kidsN k) := hkn
      clear HR HE hts HT er hkn HL HW
      have hcr := hc.next (hX.below hBt) (Nat.le_refl _)
      obtain ⟨s0, s1, s2, s3, s4, s5⟩ := hS
      simp only [Nat.zero_add] at s1 s2 s3 s4 s5
      obtain rfl | rfl | rfl | rfl | rfl | rfl | rfl | rfl | rfl | rfl | rfl | rfl | rfl | rfl | rfl | rfl | rfl | rfl : k = 1 ∨ k = 2 ∨ k = 3 ∨ k = 4 ∨ k = 5 ∨ k = 6 ∨ k = 7 ∨ k = 8 ∨ k = 9 ∨ k = 10 ∨ k = 11 ∨ k = 12 ∨ k = 13 ∨ k = 14 ∨ k = 15 ∨ k = 16 ∨ k = 17 ∨ k = 18 := by omega
      · -- 1
        have e1 : nodeT cols 1 v c ts = litT v := rfl
        by_cases hw : wrongF v.1 v.2.1 v.2.2 = 0
        · have er : r = (v.1, 0, q) := by rw [HER.out, e1]; simp [litT, wrongP, hw]
          subst er
          have hin : inT v.1 := wrong_kind (v := v) hw
          clear HER e1
          go_wp2_with fail
          refine (refWrong_any v.1 v.2.1 v.2.2 wr).mono ?_
          rintro e w5 ⟨rfl, hb5⟩
          rw [hw]
          have s1' := (hb5.cell (p := ⟨w.heap.size, 1, none⟩) (by show w.heap.size < _; omega)).trans s1
          have hX := hX.trans (BelowX.of hb5 (by omega))
          have hT := hT.next hb5
          have z5 := hb5.size
          clear s0 s1 s2 s3 s4 s5
          go_wp2_with fail
          refine (letter_at v.1 w5 hin).mono ?_
          rintro e w6 ⟨rfl, hb6⟩
          have hX := hX.trans (BelowX.of hb6 (by omega))
          have hT := hT.next hb6
          go_wp2_with fail
          exact bodyPost_ret (v := .tuple #[.int .u8 (ltr v.1), .int .i64 0]) (by simp [results, Try.results24, go_sem]) rfl ⟨rfl, hX, hT⟩
        · have er : r = (0, wrongF v.1 v.2.1 v.2.2, q) := by rw [HER.out, e1]; simp [litT, wrongP, hw]
          subst er
          clear HER e1
          go_wp2_with fail
          refine (refWrong_any v.1 v.2.1 v.2.2 wr).mono ?_
          rintro e w5 ⟨rfl, hb5⟩
          have hX := hX.trans (BelowX.of hb5 (by omega))
          have hT := hT.next hb5
          have qw : (wrongF v.1 v.2.1 v.2.2 != 0) = true := by simpa using hw
          clear s0 s1 s2 s3 s4 s5
          go_wp2_with fail
          exact bodyPost_ret (v := .tuple #[.int .u8 0, .int .i64 (wrongF v.1 v.2.1 v.2.2)]) (by simp [results, Try.results24, go_sem]) rfl ⟨by simp [lv, hw], hX, hT⟩
      · -- 2
        have e1 : nodeT cols 2 v c ts = colT cols c := rfl
        have p0 := past_cell hT.c0
        have p4 := past_cell s4
        haveI : Nonempty (Past wr) := ⟨⟨_, Below.refl _ _⟩⟩
        by_cases h1 : c < 0
        · have er : r = (0, 7, q) := by rw [HER.out, e1]; simp [colT, h1]
          subst er
          clear HER e1
          go_wp2_with fail
          refine wp_region_past (by kernel_rfl) (by kernel_rfl) ?_
          repeat (go_big_quiet_step (fail))
          refine wpQuiet_nil ?_
          rintro w6 ⟨⟨v6, hb6⟩, h6⟩
          obtain rfl : w6 = v6 := h6
          have hX := hX.trans (BelowX.of hb6 (by omega))
          have hT := hT.next hb6
          clear p0 p4 s0 s1 s2 s3 s4 s5
          go_wp2_with fail
          exact bodyPost_ret (v := .tuple #[.int .u8 0, .int .i64 7]) (by simp [results, Try.results24, go_sem]) rfl ⟨rfl, hX, hT⟩
        have d1 : decide (c < 0) = false := decide_eq_false h1
        by_cases h2 : (cols.length : Int) ≤ c
        · have d2 : decide ((cols.length : Int) ≤ c) = true := decide_eq_true h2
          have er : r = (0, 7, q) := by rw [HER.out, e1]; simp [colT, h2]
          subst er
          clear HER e1
          go_wp2_with fail
          refine wp_region_past (by kernel_rfl) (by kernel_rfl) ?_
          repeat (go_big_quiet_step (fail))
          refine wpQuiet_nil ?_
          rintro w6 ⟨⟨v6, hb6⟩, h6⟩
          obtain rfl : w6 = v6 := h6
          have hX := hX.trans (BelowX.of hb6 (by omega))
          have hT := hT.next hb6
          clear p0 p4 s0 s1 s2 s3 s4 s5
          go_wp2_with fail
          exact bodyPost_ret (v := .tuple #[.int .u8 0, .int .i64 7]) (by simp [results, Try.results24, go_sem]) rfl ⟨rfl, hX, hT⟩
        obtain ⟨i, rfl⟩ : ∃ i : Nat, c = i := ⟨c.toNat, by omega⟩
        have hi : i < cols.length := by omega
        have er : r = (cols[i], 0, q) := by
          rw [HER.out, e1, colT, if_neg (by omega)]
          simp [List.getD, hi]
        have d2 : decide ((cols.length : Int) ≤ (i : Int)) = false := decide_eq_false h2
        have hin : inT cols[i] := by
          have := colsB_at hcols i hi
          simpa [List.getD, hi] using this
        obtain ⟨cb, co, rfl, hcb, cc⟩ := hcr.elem hi
        generalize cols[i] = ct at *
        subst er
        have p7 := past_cell cc
        clear HER e1
        go_wp2_with fail
        refine wp_region_past (by kernel_rfl) (by kernel_rfl) ?_
        repeat (go_big_quiet_step (fail))
        refine wpQuiet_nil ?_
        rintro w6 ⟨⟨v6, hb6⟩, h6⟩
        obtain rfl : w6 = v6 := h6
        have hX := hX.trans (BelowX.of hb6 (by omega))
        have hT := hT.next hb6
        have z6 := hb6.size
        have d4 := past_cell ((hb6.cell (p := ⟨w.heap.size, 4, none⟩) (by show w.heap.size < _; omega)).trans s4)
        have d7 := past_cell ((hb6.cell (p := ⟨cb, co + i, none⟩) (by show cb < _; omega)).trans cc)
        have d0 := past_cell hT.c0
        haveI : Nonempty (Past w6) := ⟨⟨_, Below.refl _ _⟩⟩
        clear p0 p4 p7 s0 s1 s2 s3 s4 s5 cc
        go_wp2_with fail
        refine wp_region_past (by kernel_rfl) (by kernel_rfl) ?_
        repeat (go_big_quiet_step (first | (go_at_call 25; exact in_past (letter_at ct _ hin))))
        refine wpQuiet_nil ?_
        rintro w7 ⟨⟨v7, hb7⟩, h7⟩
        obtain rfl : w7 = v7 := h7
        have hX := hX.trans (BelowX.of hb7 (by omega))
        have hT := hT.next hb7
        clear d0 d4 d7
        go_wp2_with fail
        exact bodyPost_ret (v := .tuple #[.int .u8 (ltr ct), .int .i64 0]) (by simp [results, Try.results24, go_sem]) rfl ⟨rfl, hX, hT⟩
      · -- 3
        obtain ⟨t0, rfl⟩ := list1 HTS.out
        have ekn : ks.length = 1 := HKN.out
        rw [ekn] at hO
        obtain ⟨g, cg, rfl, hgb, hgl⟩ := own5_some hO (by decide)
        have c0 : wr.cell? ⟨g, 0, none⟩ = some (.int .u8 (ltr t0)) := (hO.cellAt 0 (by decide)).trans rfl
        have i0 : inT t0 := HI.out t0 (by simp)
        clear hO
        have eN : nodeT cols 3 v c [t0] = resT (allO 2 [t0]) := rfl
        rw [all1] at eN
        have g0 := goes_bool i0
        generalize (tog t0 2).isSome = b0 at *
        generalize ltr t0 = l0 at *
        cases b0
        · have er : r = (0, 9, q) := by rw [HER.out, eN]; rfl
          subst er
          clear HER eN
          go_wp2_with fail
          refine (togl_at l0 98 wr).mono ?_
          rintro e w5 ⟨rfl, hb5⟩
          have hX := hX.trans (BelowX.of hb5 (by omega))
          have hT := hT.next hb5
          have z5 := hb5.size
          clear s0 s1 s2 s3 s4 s5 c0
          go_wp2_with fail
          exact bodyPost_ret (v := .tuple #[.int .u8 0, .int .i64 9]) (by simp [results, Try.results24, go_sem]) rfl ⟨rfl, hX, hT⟩
        · have er : r = (2, 0, q) := by rw [HER.out, eN]; rfl
          subst er
          clear HER eN
          go_wp2_with fail
          refine (togl_at l0 98 wr).mono ?_
          rintro e w5 ⟨rfl, hb5⟩
          have hX := hX.trans (BelowX.of hb5 (by omega))
          have hT := hT.next hb5
          have z5 := hb5.size
          clear s0 s1 s2 s3 s4 s5 c0
          go_wp2_with fail
          exact bodyPost_ret (v := .tuple #[.int .u8 98, .int .i64 0]) (by simp [results, Try.results24, go_sem]) rfl ⟨rfl, hX, hT⟩
      · -- 4
        obtain ⟨t0, t1, rfl⟩ := list2 HTS.out
        have ekn : ks.length = 2 := HKN.out
        rw [ekn] at hO
        obtain ⟨g, cg, rfl, hgb, hgl⟩ := own5_some hO (by decide)
        have c0 : wr.cell? ⟨g, 0, none⟩ = some (.int .u8 (ltr t0)) := (hO.cellAt 0 (by decide)).trans rfl
        have i0 : inT t0 := HI.out t0 (by simp)
        have c1 : wr.cell? ⟨g, 1, none⟩ = some (.int .u8 (ltr t1)) := (hO.cellAt 1 (by decide)).trans rfl
        have i1 : inT t1 := HI.out t1 (by simp)
        clear hO
        have eN : nodeT cols 4 v c [t0, t1] = resT (allO 2 [t0, t1]) := rfl
        rw [all2] at eN
        have g0 := goes_bool i0
        have g1 := goes_bool i1
        generalize (tog t0 2).isSome = b0 at *
        generalize (tog t1 2).isSome = b1 at *
        generalize ltr t0 = l0 at *
        generalize ltr t1 = l1 at *
        cases b0
        · have er : r = (0, 9, q) := by rw [HER.out, eN]; rfl
          subst er
          clear HER eN
          go_wp2_with fail
          refine (togl_at l0 98 wr).mono ?_
          rintro e w5 ⟨rfl, hb5⟩
          have hX := hX.trans (BelowX.of hb5 (by omega))
          have hT := hT.next hb5
          have z5 := hb5.size
          clear s0 s1 s2 s3 s4 s5 c0 c1
          go_wp2_with fail
          exact bodyPost_ret (v := .tuple #[.int .u8 0, .int .i64 9]) (by simp [results, Try.results24, go_sem]) rfl ⟨rfl, hX, hT⟩
        · cases b1
          · have er : r = (0, 9, q) := by rw [HER.out, eN]; rfl
            subst er
            clear HER eN
            go_wp2_with fail
            refine (togl_at l0 98 wr).mono ?_
            rintro e w5 ⟨rfl, hb5⟩
            have hX := hX.trans (BelowX.of hb5 (by omega))
            have hT := hT.next hb5
            have z5 := hb5.size
            have c1' := (hb5.cell (p := ⟨g, 1, none⟩) (by show g < _; omega)).trans c1
            clear s0 s1 s2 s3 s4 s5 c0 c1
            go_wp2_with fail
            refine (togl_at l1 98 w5).mono ?_
            rintro e w6 ⟨rfl, hb6⟩
            have hX := hX.trans (BelowX.of hb6 (by omega))
            have hT := hT.next hb6
            go_wp2_with fail
            exact bodyPost_ret (v := .tuple #[.int .u8 0, .int .i64 9]) (by simp [results, Try.results24, go_sem]) rfl ⟨rfl, hX, hT⟩
          · have er : r = (2, 0, q) := by rw [HER.out, eN]; rfl
            subst er
            clear HER eN
            go_wp2_with fail
            refine (togl_at l0 98 wr).mono ?_
            rintro e w5 ⟨rfl, hb5⟩
            have hX := hX.trans (BelowX.of hb5 (by omega))
            have hT := hT.next hb5
            have z5 := hb5.size
            have c1' := (hb5.cell (p := ⟨g, 1, none⟩) (by show g < _; omega)).trans c1
            clear s0 s1 s2 s3 s4 s5 c0 c1
            go_wp2_with fail
            refine (togl_at l1 98 w5).mono ?_
            rintro e w6 ⟨rfl, hb6⟩
            have hX := hX.trans (BelowX.of hb6 (by omega))
            have hT := hT.next hb6
            go_wp2_with fail
            exact bodyPost_ret (v := .tuple #[.int .u8 98, .int .i64 0]) (by simp [results, Try.results24, go_sem]) rfl ⟨rfl, hX, hT⟩
      · -- 5
        obtain ⟨t0, t1, rfl⟩ := list2 HTS.out
        have ekn : ks.length = 2 := HKN.out
        rw [ekn] at hO
        obtain ⟨g, cg, rfl, hgb, hgl⟩ := own5_some hO (by decide)
        have c0 : wr.cell? ⟨g, 0, none⟩ = some (.int .u8 (ltr t0)) := (hO.cellAt 0 (by decide)).trans rfl
        have i0 : inT t0 := HI.out t0 (by simp)
        have c1 : wr.cell? ⟨g, 1, none⟩ = some (.int .u8 (ltr t1)) := (hO.cellAt 1 (by decide)).trans rfl
        have i1 : inT t1 := HI.out t1 (by simp)
        clear hO
        have eN : nodeT cols 5 v c [t0, t1] = resT (allO 2 [t0, t1]) := rfl
        rw [all2] at eN
        have g0 := goes_bool i0
        have g1 := goes_bool i1
        generalize (tog t0 2).isSome = b0 at *
        generalize (tog t1 2).isSome = b1 at *
        generalize ltr t0 = l0 at *
        generalize ltr t1 = l1 at *
        cases b0
        · have er : r = (0, 9, q) := by rw [HER.out, eN]; rfl
          subst er
          clear HER eN
          go_wp2_with fail
          refine (togl_at l0 98 wr).mono ?_
          rintro e w5 ⟨rfl, hb5⟩
          have hX := hX.trans (BelowX.of hb5 (by omega))
          have hT := hT.next hb5
          have z5 := hb5.size
          clear s0 s1 s2 s3 s4 s5 c0 c1
          go_wp2_with fail
          exact bodyPost_ret (v := .tuple #[.int .u8 0, .int .i64 9]) (by simp [results, Try.results24, go_sem]) rfl ⟨rfl, hX, hT⟩
        · cases b1
          · have er : r = (0, 9, q) := by rw [HER.out, eN]; rfl
            subst er
            clear HER eN
            go_wp2_with fail
            refine (togl_at l0 98 wr).mono ?_
            rintro e w5 ⟨rfl, hb5⟩
            have hX := hX.trans (BelowX.of hb5 (by omega))
            have hT := hT.next hb5
            have z5 := hb5.size
            have c1' := (hb5.cell (p := ⟨g, 1, none⟩) (by show g < _; omega)).trans c1
            clear s0 s1 s2 s3 s4 s5 c0 c1
            go_wp2_with fail
            refine (togl_at l1 98 w5).mono ?_
            rintro e w6 ⟨rfl, hb6⟩
            have hX := hX.trans (BelowX.of hb6 (by omega))
            have hT := hT.next hb6
            go_wp2_with fail
            exact bodyPost_ret (v := .tuple #[.int .u8 0, .int .i64 9]) (by simp [results, Try.results24, go_sem]) rfl ⟨rfl, hX, hT⟩
          · have er : r = (2, 0, q) := by rw [HER.out, eN]; rfl
            subst er
            clear HER eN
            go_wp2_with fail
            refine (togl_at l0 98 wr).mono ?_
            rintro e w5 ⟨rfl, hb5⟩
            have hX := hX.trans (BelowX.of hb5 (by omega))
            have hT := hT.next hb5
            have z5 := hb5.size
            have c1' := (hb5.cell (p := ⟨g, 1, none⟩) (by show g < _; omega)).trans c1
            clear s0 s1 s2 s3 s4 s5 c0 c1
            go_wp2_with fail
            refine (togl_at l1 98 w5).mono ?_
            rintro e w6 ⟨rfl, hb6⟩
            have hX := hX.trans (BelowX.of hb6 (by omega))
            have hT := hT.next hb6
            go_wp2_with fail
            exact bodyPost_ret (v := .tuple #[.int .u8 98, .int .i64 0]) (by simp [results, Try.results24, go_sem]) rfl ⟨rfl, hX, hT⟩
      · -- 6
        obtain ⟨t0, t1, rfl⟩ := list2 HTS.out
        have ekn : ks.length = 2 := HKN.out
        rw [ekn] at hO
        obtain ⟨g, cg, rfl, hgb, hgl⟩ := own5_some hO (by decide)
        have c0 : wr.cell? ⟨g, 0, none⟩ = some (.int .u8 (ltr t0)) := (hO.cellAt 0 (by decide)).trans rfl
        have i0 : inT t0 := HI.out t0 (by simp)
        have c1 : wr.cell? ⟨g, 1, none⟩ = some (.int .u8 (ltr t1)) := (hO.cellAt 1 (by decide)).trans rfl
        have i1 : inT t1 := HI.out t1 (by simp)
        clear hO
        have eN : resT (kidsT 6 [t0, t1]) = nodeT cols 6 v c [t0, t1] := rfl
        have p0 := past_cell c0
        have p1 := past_cell c1
        haveI : Nonempty (Past wr) := ⟨⟨_, Below.refl _ _⟩⟩
        rcases ht : tog t0 t1 with _ | u
        · have gn := goes_none i0 i1 ht
          have er : r = (0, 9, q) := by rw [HER.out, ← eN]; simp [kidsT, ht, resT]
          subst er
          generalize ltr t0 = l0 at *
          generalize ltr t1 = l1 at *
          clear HER eN
          go_wp2_with fail
          refine wp_region_past (by kernel_rfl) (by kernel_rfl) ?_
          repeat (go_big_quiet_step (first | (go_at_call 36; exact in_past (togl_at l0 l1 _))))
          refine wpQuiet_nil ?_
          rintro w7 ⟨⟨v7, hb7⟩, h7⟩
          obtain rfl : w7 = v7 := h7
          have hX := hX.trans (BelowX.of hb7 (by omega))
          have hT := hT.next hb7
          rw [gn]
          clear p0 p1 c0 c1 s0 s1 s2 s3 s4 s5
          go_wp2_with fail
          exact bodyPost_ret (v := .tuple #[.int .u8 0, .int .i64 9]) (by simp [results, Try.results24, go_sem]) rfl ⟨rfl, hX, hT⟩
        · have gn := goes_type i0 i1 ht
          have nz : (ltr u != 0) = true := by simpa using ltr_ne (t := u)
          have er : r = (2, 0, q) := by rw [HER.out, ← eN]; simp [kidsT, ht, resT]
          subst er
          generalize ltr t0 = l0 at *
          generalize ltr t1 = l1 at *
          generalize hlu : ltr u = lu at *
          have HLU : Hid (ltr u = lu) := hlu
          clear hlu
          clear HER eN
          go_wp2_with fail
          refine wp_region_past (by kernel_rfl) (by kernel_rfl) ?_
          repeat (go_big_quiet_step (first | (go_at_call 36; exact in_past (togl_at l0 l1 _))))
          refine wpQuiet_nil ?_
          rintro w7 ⟨⟨v7, hb7⟩, h7⟩
          obtain rfl : w7 = v7 := h7
          have hX := hX.trans (BelowX.of hb7 (by omega))
          have hT := hT.next hb7
          rw [gn]
          clear p0 p1 c0 c1 s0 s1 s2 s3 s4 s5
          go_wp2_with fail
          exact bodyPost_ret (v := .tuple #[.int .u8 98, .int .i64 0]) (by simp [results, Try.results24, go_sem]) rfl ⟨rfl, hX, hT⟩
      · -- 7
        obtain ⟨t0, t1, rfl⟩ := list2 HTS.out
        have ekn : ks.length = 2 := HKN.out
        rw [ekn] at hO
        obtain ⟨g, cg, rfl, hgb, hgl⟩ := own5_some hO (by decide)
        have c0 : wr.cell? ⟨g, 0, none⟩ = some (.int .u8 (ltr t0)) := (hO.cellAt 0 (by decide)).trans rfl
        have i0 : inT t0 := HI.out t0 (by simp)
        have c1 : wr.cell? ⟨g, 1, none⟩ = some (.int .u8 (ltr t1)) := (hO.cellAt 1 (by decide)).trans rfl
        have i1 : inT t1 := HI.out t1 (by simp)
        clear hO
        have eN : resT (kidsT 7 [t0, t1]) = nodeT cols 7 v c [t0, t1] := rfl
        have p0 := past_cell c0
        have p1 := past_cell c1
        haveI : Nonempty (Past wr) := ⟨⟨_, Below.refl _ _⟩⟩
        rcases ht : tog t0 t1 with _ | u
        · have gn := goes_none i0 i1 ht
          have er : r = (0, 9, q) := by rw [HER.out, ← eN]; simp [kidsT, ht, resT]
          subst er
          generalize ltr t0 = l0 at *
          generalize ltr t1 = l1 at *
          clear HER eN
          go_wp2_with fail
          refine wp_region_past (by kernel_rfl) (by kernel_rfl) ?_
          repeat (go_big_quiet_step (first | (go_at_call 36; exact in_past (togl_at l0 l1 _))))
          refine wpQuiet_nil ?_
          rintro w7 ⟨⟨v7, hb7⟩, h7⟩
          obtain rfl : w7 = v7 := h7
          have hX := hX.trans (BelowX.of hb7 (by omega))
          have hT := hT.next hb7
          rw [gn]
          clear p0 p1 c0 c1 s0 s1 s2 s3 s4 s5
          go_wp2_with fail
          exact bodyPost_ret (v := .tuple #[.int .u8 0, .int .i64 9]) (by simp [results, Try.results24, go_sem]) rfl ⟨rfl, hX, hT⟩
        · have gn := goes_type i0 i1 ht
          have nz : (ltr u != 0) = true := by simpa using ltr_ne (t := u)
          have er : r = (2, 0, q) := by rw [HER.out, ← eN]; simp [kidsT, ht, resT]
          subst er
          generalize ltr t0 = l0 at *
          generalize ltr t1 = l1 at *
          generalize hlu : ltr u = lu at *
          have HLU : Hid (ltr u = lu) := hlu
          clear hlu
          clear HER eN
          go_wp2_with fail
          refine wp_region_past (by kernel_rfl) (by kernel_rfl) ?_
          repeat (go_big_quiet_step (first | (go_at_call 36; exact in_past (togl_at l0 l1 _))))
          refine wpQuiet_nil ?_
          rintro w7 ⟨⟨v7, hb7⟩, h7⟩
          obtain rfl : w7 = v7 := h7
          have hX := hX.trans (BelowX.of hb7 (by omega))
          have hT := hT.next hb7
          rw [gn]
          clear p0 p1 c0 c1 s0 s1 s2 s3 s4 s5
          go_wp2_with fail
          exact bodyPost_ret (v := .tuple #[.int .u8 98, .int .i64 0]) (by simp [results, Try.results24, go_sem]) rfl ⟨rfl, hX, hT⟩
      · -- 8
        obtain ⟨t0, t1, rfl⟩ := list2 HTS.out
        have ekn : ks.length = 2 := HKN.out
        rw [ekn] at hO
        obtain ⟨g, cg, rfl, hgb, hgl⟩ := own5_some hO (by decide)
        have c0 : wr.cell? ⟨g, 0, none⟩ = some (.int .u8 (ltr t0)) := (hO.cellAt 0 (by decide)).trans rfl
        have i0 : inT t0 := HI.out t0 (by simp)
        have c1 : wr.cell? ⟨g, 1, none⟩ = some (.int .u8 (ltr t1)) := (hO.cellAt 1 (by decide)).trans rfl
        have i1 : inT t1 := HI.out t1 (by simp)
        clear hO
        have eN : resT (kidsT 8 [t0, t1]) = nodeT cols 8 v c [t0, t1] := rfl
        have p0 := past_cell c0
        have p1 := past_cell c1
        haveI : Nonempty (Past wr) := ⟨⟨_, Below.refl _ _⟩⟩
        rcases ht : tog t0 t1 with _ | u
        · have gn := goes_none i0 i1 ht
          have er : r = (0, 9, q) := by rw [HER.out, ← eN]; simp [kidsT, ht, resT]
          subst er
          generalize ltr t0 = l0 at *
          generalize ltr t1 = l1 at *
          clear HER eN
          go_wp2_with fail
          refine wp_region_past (by kernel_rfl) (by kernel_rfl) ?_
          repeat (go_big_quiet_step (first | (go_at_call 36; exact in_past (togl_at l0 l1 _))))
          refine wpQuiet_nil ?_
          rintro w7 ⟨⟨v7, hb7⟩, h7⟩
          obtain rfl : w7 = v7 := h7
          have hX := hX.trans (BelowX.of hb7 (by omega))
          have hT := hT.next hb7
          rw [gn]
          clear p0 p1 c0 c1 s0 s1 s2 s3 s4 s5
          go_wp2_with fail
          exact bodyPost_ret (v := .tuple #[.int .u8 0, .int .i64 9]) (by simp [results, Try.results24, go_sem]) rfl ⟨rfl, hX, hT⟩
        · have gn := goes_type i0 i1 ht
          have nz : (ltr u != 0) = true := by simpa using ltr_ne (t := u)
          have er : r = (2, 0, q) := by rw [HER.out, ← eN]; simp [kidsT, ht, resT]
          subst er
          generalize ltr t0 = l0 at *
          generalize ltr t1 = l1 at *
          generalize hlu : ltr u = lu at *
          have HLU : Hid (ltr u = lu) := hlu
          clear hlu
          clear HER eN
          go_wp2_with fail
          refine wp_region_past (by kernel_rfl) (by kernel_rfl) ?_
          repeat (go_big_quiet_step (first | (go_at_call 36; exact in_past (togl_at l0 l1 _))))
          refine wpQuiet_nil ?_
          rintro w7 ⟨⟨v7, hb7⟩, h7⟩
          obtain rfl : w7 = v7 := h7
          have hX := hX.trans (BelowX.of hb7 (by omega))
          have hT := hT.next hb7
          rw [gn]
          clear p0 p1 c0 c1 s0 s1 s2 s3 s4 s5
          go_wp2_with fail
          exact bodyPost_ret (v := .tuple #[.int .u8 98, .int .i64 0]) (by simp [results, Try.results24, go_sem]) rfl ⟨rfl, hX, hT⟩
      · -- 9
        obtain ⟨t0, t1, rfl⟩ := list2 HTS.out
        have ekn : ks.length = 2 := HKN.out
        rw [ekn] at hO
        obtain ⟨g, cg, rfl, hgb, hgl⟩ := own5_some hO (by decide)
        have c0 : wr.cell? ⟨g, 0, none⟩ = some (.int .u8 (ltr t0)) := (hO.cellAt 0 (by decide)).trans rfl
        have i0 : inT t0 := HI.out t0 (by simp)
        have c1 : wr.cell? ⟨g, 1, none⟩ = some (.int .u8 (ltr t1)) := (hO.cellAt 1 (by decide)).trans rfl
        have i1 : inT t1 := HI.out t1 (by simp)
        clear hO
        have eN : resT (kidsT 9 [t0, t1]) = nodeT cols 9 v c [t0, t1] := rfl
        have p0 := past_cell c0
        have p1 := past_cell c1
        haveI : Nonempty (Past wr) := ⟨⟨_, Below.refl _ _⟩⟩
        rcases ht : tog t0 t1 with _ | u
        · have gn := goes_none i0 i1 ht
          have er : r = (0, 9, q) := by rw [HER.out, ← eN]; simp [kidsT, ht, resT]
          subst er
          generalize ltr t0 = l0 at *
          generalize ltr t1 = l1 at *
          clear HER eN
          go_wp2_with fail
          refine wp_region_past (by kernel_rfl) (by kernel_rfl) ?_
          repeat (go_big_quiet_step (first | (go_at_call 36; exact in_past (togl_at l0 l1 _))))
          refine wpQuiet_nil ?_
          rintro w7 ⟨⟨v7, hb7⟩, h7⟩
          obtain rfl : w7 = v7 := h7
          have hX := hX.trans (BelowX.of hb7 (by omega))
          have hT := hT.next hb7
          rw [gn]
          clear p0 p1 c0 c1 s0 s1 s2 s3 s4 s5
          go_wp2_with fail
          exact bodyPost_ret (v := .tuple #[.int .u8 0, .int .i64 9]) (by simp [results, Try.results24, go_sem]) rfl ⟨rfl, hX, hT⟩
        · have gn := goes_type i0 i1 ht
          have nz : (ltr u != 0) = true := by simpa using ltr_ne (t := u)
          have er : r = (2, 0, q) := by rw [HER.out, ← eN]; simp [kidsT, ht, resT]
          subst er
          generalize ltr t0 = l0 at *
          generalize ltr t1 = l1 at *
          generalize hlu : ltr u = lu at *
          have HLU : Hid (ltr u = lu) := hlu
          clear hlu
          clear HER eN
          go_wp2_with fail
          refine wp_region_past (by kernel_rfl) (by kernel_rfl) ?_
          repeat (go_big_quiet_step (first | (go_at_call 36; exact in_past (togl_at l0 l1 _))))
          refine wpQuiet_nil ?_
          rintro w7 ⟨⟨v7, hb7⟩, h7⟩
          obtain rfl : w7 = v7 := h7
          have hX := hX.trans (BelowX.of hb7 (by omega))
          have hT := hT.next hb7
          rw [gn]
          clear p0 p1 c0 c1 s0 s1 s2 s3 s4 s5
          go_wp2_with fail
          exact bodyPost_ret (v := .tuple #[.int .u8 98, .int .i64 0]) (by simp [results, Try.results24, go_sem]) rfl ⟨rfl, hX, hT⟩
      · -- 10
        obtain ⟨t0, t1, rfl⟩ := list2 HTS.out
        have ekn : ks.length = 2 := HKN.out
        rw [ekn] at hO
        obtain ⟨g, cg, rfl, hgb, hgl⟩ := own5_some hO (by decide)
        have c0 : wr.cell? ⟨g, 0, none⟩ = some (.int .u8 (ltr t0)) := (hO.cellAt 0 (by decide)).trans rfl
        have i0 : inT t0 := HI.out t0 (by simp)
        have c1 : wr.cell? ⟨g, 1, none⟩ = some (.int .u8 (ltr t1)) := (hO.cellAt 1 (by decide)).trans rfl
        have i1 : inT t1 := HI.out t1 (by simp)
        clear hO
        have eN : resT (kidsT 10 [t0, t1]) = nodeT cols 10 v c [t0, t1] := rfl
        have p0 := past_cell c0
        have p1 := past_cell c1
        haveI : Nonempty (Past wr) := ⟨⟨_, Below.refl _ _⟩⟩
        rcases ht : tog t0 t1 with _ | u
        · have gn := goes_none i0 i1 ht
          have er : r = (0, 9, q) := by rw [HER.out, ← eN]; simp [kidsT, ht, resT]
          subst er
          generalize ltr t0 = l0 at *
          generalize ltr t1 = l1 at *
          clear HER eN
          go_wp2_with fail
          refine wp_region_past (by kernel_rfl) (by kernel_rfl) ?_
          repeat (go_big_quiet_step (first | (go_at_call 36; exact in_past (togl_at l0 l1 _))))
          refine wpQuiet_nil ?_
          rintro w7 ⟨⟨v7, hb7⟩, h7⟩
          obtain rfl : w7 = v7 := h7
          have hX := hX.trans (BelowX.of hb7 (by omega))
          have hT := hT.next hb7
          rw [gn]
          clear p0 p1 c0 c1 s0 s1 s2 s3 s4 s5
          go_wp2_with fail
          exact bodyPost_ret (v := .tuple #[.int .u8 0, .int .i64 9]) (by simp [results, Try.results24, go_sem]) rfl ⟨rfl, hX, hT⟩
        · have gn := goes_type i0 i1 ht
          have nz : (ltr u != 0) = true := by simpa using ltr_ne (t := u)
          have er : r = (2, 0, q) := by rw [HER.out, ← eN]; simp [kidsT, ht, resT]
          subst er
          generalize ltr t0 = l0 at *
          generalize ltr t1 = l1 at *
          generalize hlu : ltr u = lu at *
          have HLU : Hid (ltr u = lu) := hlu
          clear hlu
          clear HER eN
          go_wp2_with fail
          refine wp_region_past (by kernel_rfl) (by kernel_rfl) ?_
          repeat (go_big_quiet_step (first | (go_at_call 36; exact in_past (togl_at l0 l1 _))))
          refine wpQuiet_nil ?_
          rintro w7 ⟨⟨v7, hb7⟩, h7⟩
          obtain rfl : w7 = v7 := h7
          have hX := hX.trans (BelowX.of hb7 (by omega))
          have hT := hT.next hb7
          rw [gn]
          clear p0 p1 c0 c1 s0 s1 s2 s3 s4 s5
          go_wp2_with fail
          exact bodyPost_ret (v := .tuple #[.int .u8 98, .int .i64 0]) (by simp [results, Try.results24, go_sem]) rfl ⟨rfl, hX, hT⟩
      · -- 11
        obtain ⟨t0, t1, rfl⟩ := list2 HTS.out
        have ekn : ks.length = 2 := HKN.out
        rw [ekn] at hO
        obtain ⟨g, cg, rfl, hgb, hgl⟩ := own5_some hO (by decide)
        have c0 : wr.cell? ⟨g, 0, none⟩ = some (.int .u8 (ltr t0)) := (hO.cellAt 0 (by decide)).trans rfl
        have i0 : inT t0 := HI.out t0 (by simp)
        have c1 : wr.cell? ⟨g, 1, none⟩ = some (.int .u8 (ltr t1)) := (hO.cellAt 1 (by decide)).trans rfl
        have i1 : inT t1 := HI.out t1 (by simp)
        clear hO
        have eN : resT (kidsT 11 [t0, t1]) = nodeT cols 11 v c [t0, t1] := rfl
        have p0 := past_cell c0
        have p1 := past_cell c1
        haveI : Nonempty (Past wr) := ⟨⟨_, Below.refl _ _⟩⟩
        rcases ht : tog t0 t1 with _ | u
        · have gn := goes_none i0 i1 ht
          have er : r = (0, 9, q) := by rw [HER.out, ← eN]; simp [kidsT, ht, resT]
          subst er
          generalize ltr t0 = l0 at *
          generalize ltr t1 = l1 at *
          clear HER eN
          go_wp2_with fail
          refine wp_region_past (by kernel_rfl) (by kernel_rfl) ?_
          repeat (go_big_quiet_step (first | (go_at_call 36; exact in_past (togl_at l0 l1 _))))
          refine wpQuiet_nil ?_
          rintro w7 ⟨⟨v7, hb7⟩, h7⟩
          obtain rfl : w7 = v7 := h7
          have hX := hX.trans (BelowX.of hb7 (by omega))
          have hT := hT.next hb7
          rw [gn]
          clear p0 p1 c0 c1 s0 s1 s2 s3 s4 s5
          go_wp2_with fail
          exact bodyPost_ret (v := .tuple #[.int .u8 0, .int .i64 9]) (by simp [results, Try.results24, go_sem]) rfl ⟨rfl, hX, hT⟩
        · have gn := goes_type i0 i1 ht
          have nz : (ltr u != 0) = true := by simpa using ltr_ne (t := u)
          have er : r = (2, 0, q) := by rw [HER.out, ← eN]; simp [kidsT, ht, resT]
          subst er
          generalize ltr t0 = l0 at *
          generalize ltr t1 = l1 at *
          generalize hlu : ltr u = lu at *
          have HLU : Hid (ltr u = lu) := hlu
          clear hlu
          clear HER eN
          go_wp2_with fail
          refine wp_region_past (by kernel_rfl) (by kernel_rfl) ?_
          repeat (go_big_quiet_step (first | (go_at_call 36; exact in_past (togl_at l0 l1 _))))
          refine wpQuiet_nil ?_
          rintro w7 ⟨⟨v7, hb7⟩, h7⟩
          obtain rfl : w7 = v7 := h7
          have hX := hX.trans (BelowX.of hb7 (by omega))
          have hT := hT.next hb7
          rw [gn]
          clear p0 p1 c0 c1 s0 s1 s2 s3 s4 s5
          go_wp2_with fail
          exact bodyPost_ret (v := .tuple #[.int .u8 98, .int .i64 0]) (by simp [results, Try.results24, go_sem]) rfl ⟨rfl, hX, hT⟩
      · -- 12
        obtain ⟨t0, t1, rfl⟩ := list2 HTS.out
        have ekn : ks.length = 2 := HKN.out
        rw [ekn] at hO
        obtain ⟨g, cg, rfl, hgb, hgl⟩ := own5_some hO (by decide)
        have c0 : wr.cell? ⟨g, 0, none⟩ = some (.int .u8 (ltr t0)) := (hO.cellAt 0 (by decide)).trans rfl
        have i0 : inT t0 := HI.out t0 (by simp)
        have c1 : wr.cell? ⟨g, 1, none⟩ = some (.int .u8 (ltr t1)) := (hO.cellAt 1 (by decide)).trans rfl
        have i1 : inT t1 := HI.out t1 (by simp)
        clear hO
        have eN : nodeT cols 12 v c [t0, t1] = resT (allO 3 [t0, t1]) := rfl
        rw [all2] at eN
        have g0 := goes_int i0
        have g1 := goes_int i1
        generalize (tog t0 3).isSome = b0 at *
        generalize (tog t1 3).isSome = b1 at *
        generalize ltr t0 = l0 at *
        generalize ltr t1 = l1 at *
        cases b0
        · have er : r = (0, 9, q) := by rw [HER.out, eN]; rfl
          subst er
          clear HER eN
          go_wp2_with fail
          refine (togl_at l0 105 wr).mono ?_
          rintro e w5 ⟨rfl, hb5⟩
          have hX := hX.trans (BelowX.of hb5 (by omega))
          have hT := hT.next hb5
          have z5 := hb5.size
          clear s0 s1 s2 s3 s4 s5 c0 c1
          go_wp2_with fail
          exact bodyPost_ret (v := .tuple #[.int .u8 0, .int .i64 9]) (by simp [results, Try.results24, go_sem]) rfl ⟨rfl, hX, hT⟩
        · cases b1
          · have er : r = (0, 9, q) := by rw [HER.out, eN]; rfl
            subst er
            clear HER eN
            go_wp2_with fail
            refine (togl_at l0 105 wr).mono ?_
            rintro e w5 ⟨rfl, hb5⟩
            have hX := hX.trans (BelowX.of hb5 (by omega))
            have hT := hT.next hb5
            have z5 := hb5.size
            have c1' := (hb5.cell (p := ⟨g, 1, none⟩) (by show g < _; omega)).trans c1
            clear s0 s1 s2 s3 s4 s5 c0 c1
            go_wp2_with fail
            refine (togl_at l1 105 w5).mono ?_
            rintro e w6 ⟨rfl, hb6⟩
            have hX := hX.trans (BelowX.of hb6 (by omega))
            have hT := hT.next hb6
            go_wp2_with fail
            exact bodyPost_ret (v := .tuple #[.int .u8 0, .int .i64 9]) (by simp [results, Try.results24, go_sem]) rfl ⟨rfl, hX, hT⟩
          · have er : r = (3, 0, q) := by rw [HER.out, eN]; rfl
            subst er
            clear HER eN
            go_wp2_with fail
            refine (togl_at l0 105 wr).mono ?_
            rintro e w5 ⟨rfl, hb5⟩
            have hX := hX.trans (BelowX.of hb5 (by omega))
            have hT := hT.next hb5
            have z5 := hb5.size
            have c1' := (hb5.cell (p := ⟨g, 1, none⟩) (by show g < _; omega)).trans c1
            clear s0 s1 s2 s3 s4 s5 c0 c1
            go_wp2_with fail
            refine (togl_at l1 105 w5).mono ?_
            rintro e w6 ⟨rfl, hb6⟩
            have hX := hX.trans (BelowX.of hb6 (by omega))
            have hT := hT.next hb6
            go_wp2_with fail
            exact bodyPost_ret (v := .tuple #[.int .u8 105, .int .i64 0]) (by simp [results, Try.results24, go_sem]) rfl ⟨rfl, hX, hT⟩
      · -- 13
        obtain ⟨t0, t1, rfl⟩ := list2 HTS.out
        have ekn : ks.length = 2 := HKN.out
        rw [ekn] at hO
        obtain ⟨g, cg, rfl, hgb, hgl⟩ := own5_some hO (by decide)
        have c0 : wr.cell? ⟨g, 0, none⟩ = some (.int .u8 (ltr t0)) := (hO.cellAt 0 (by decide)).trans rfl
        have i0 : inT t0 := HI.out t0 (by simp)
        have c1 : wr.cell? ⟨g, 1, none⟩ = some (.int .u8 (ltr t1)) := (hO.cellAt 1 (by decide)).trans rfl
        have i1 : inT t1 := HI.out t1 (by simp)
        clear hO
        have eN : nodeT cols 13 v c [t0, t1] = resT (allO 3 [t0, t1]) := rfl
        rw [all2] at eN
        have g0 := goes_int i0
        have g1 := goes_int i1
        generalize (tog t0 3).isSome = b0 at *
        generalize (tog t1 3).isSome = b1 at *
        generalize ltr t0 = l0 at *
        generalize ltr t1 = l1 at *
        cases b0
        · have er : r = (0, 9, q) := by rw [HER.out, eN]; rfl
          subst er
          clear HER eN
          go_wp2_with fail
          refine (togl_at l0 105 wr).mono ?_
          rintro e w5 ⟨rfl, hb5⟩
          have hX := hX.trans (BelowX.of hb5 (by omega))
          have hT := hT.next hb5
          have z5 := hb5.size
          clear s0 s1 s2 s3 s4 s5 c0 c1
          go_wp2_with fail
          exact bodyPost_ret (v := .tuple #[.int .u8 0, .int .i64 9]) (by simp [results, Try.results24, go_sem]) rfl ⟨rfl, hX, hT⟩
        · cases b1
          · have er : r = (0, 9, q) := by rw [HER.out, eN]; rfl
            subst er
            clear HER eN
            go_wp2_with fail
            refine (togl_at l0 105 wr).mono ?_
            rintro e w5 ⟨rfl, hb5⟩
            have hX := hX.trans (BelowX.of hb5 (by omega))
            have hT := hT.next hb5
            have z5 := hb5.size
            have c1' := (hb5.cell (p := ⟨g, 1, none⟩) (by show g < _; omega)).trans c1
            clear s0 s1 s2 s3 s4 s5 c0 c1
            go_wp2_with fail
            refine (togl_at l1 105 w5).mono ?_
            rintro e w6 ⟨rfl, hb6⟩
            have hX := hX.trans (BelowX.of hb6 (by omega))
            have hT := hT.next hb6
            go_wp2_with fail
            exact bodyPost_ret (v := .tuple #[.int .u8 0, .int .i64 9]) (by simp [results, Try.results24, go_sem]) rfl ⟨rfl, hX, hT⟩
          · have er : r = (3, 0, q) := by rw [HER.out, eN]; rfl
            subst er
            clear HER eN
            go_wp2_with fail
            refine (togl_at l0 105 wr).mono ?_
            rintro e w5 ⟨rfl, hb5⟩
            have hX := hX.trans (BelowX.of hb5 (by omega))
            have hT := hT.next hb5
            have z5 := hb5.size
            have c1' := (hb5.cell (p := ⟨g, 1, none⟩) (by show g < _; omega)).trans c1
            clear s0 s1 s2 s3 s4 s5 c0 c1
            go_wp2_with fail
            refine (togl_at l1 105 w5).mono ?_
            rintro e w6 ⟨rfl, hb6⟩
            have hX := hX.trans (BelowX.of hb6 (by omega))
            have hT := hT.next hb6
            go_wp2_with fail
            exact bodyPost_ret (v := .tuple #[.int .u8 105, .int .i64 0]) (by simp [results, Try.results24, go_sem]) rfl ⟨rfl, hX, hT⟩
      · -- 14
        obtain ⟨t0, t1, rfl⟩ := list2 HTS.out
        have ekn : ks.length = 2 := HKN.out
        rw [ekn] at hO
        obtain ⟨g, cg, rfl, hgb, hgl⟩ := own5_some hO (by decide)
        have c0 : wr.cell? ⟨g, 0, none⟩ = some (.int .u8 (ltr t0)) := (hO.cellAt 0 (by decide)).trans rfl
        have i0 : inT t0 := HI.out t0 (by simp)
        have c1 : wr.cell? ⟨g, 1, none⟩ = some (.int .u8 (ltr t1)) := (hO.cellAt 1 (by decide)).trans rfl
        have i1 : inT t1 := HI.out t1 (by simp)
        clear hO
        have eN : nodeT cols 14 v c [t0, t1] = resT (allO 3 [t0, t1]) := rfl
        rw [all2] at eN
        have g0 := goes_int i0
        have g1 := goes_int i1
        generalize (tog t0 3).isSome = b0 at *
        generalize (tog t1 3).isSome = b1 at *
        generalize ltr t0 = l0 at *
        generalize ltr t1 = l1 at *
        cases b0
        · have er : r = (0, 9, q) := by rw [HER.out, eN]; rfl
          subst er
          clear HER eN
          go_wp2_with fail
          refine (togl_at l0 105 wr).mono ?_
          rintro e w5 ⟨rfl, hb5⟩
          have hX := hX.trans (BelowX.of hb5 (by omega))
          have hT := hT.next hb5
          have z5 := hb5.size
          clear s0 s1 s2 s3 s4 s5 c0 c1
          go_wp2_with fail
          exact bodyPost_ret (v := .tuple #[.int .u8 0, .int .i64 9]) (by simp [results, Try.results24, go_sem]) rfl ⟨rfl, hX, hT⟩
        · cases b1
          · have er : r = (0, 9, q) := by rw [HER.out, eN]; rfl
            subst er
            clear HER eN
            go_wp2_with fail
            refine (togl_at l0 105 wr).mono ?_
            rintro e w5 ⟨rfl, hb5⟩
            have hX := hX.trans (BelowX.of hb5 (by omega))
            have hT := hT.next hb5
            have z5 := hb5.size
            have c1' := (hb5.cell (p := ⟨g, 1, none⟩) (by show g < _; omega)).trans c1
            clear s0 s1 s2 s3 s4 s5 c0 c1
            go_wp2_with fail
            refine (togl_at l1 105 w5).mono ?_
            rintro e w6 ⟨rfl, hb6⟩
            have hX := hX.trans (BelowX.of hb6 (by omega))
            have hT := hT.next hb6
            go_wp2_with fail
            exact bodyPost_ret (v := .tuple #[.int .u8 0, .int .i64 9]) (by simp [results, Try.results24, go_sem]) rfl ⟨rfl, hX, hT⟩
          · have er : r = (3, 0, q) := by rw [HER.out, eN]; rfl
            subst er
            clear HER eN
            go_wp2_with fail
            refine (togl_at l0 105 wr).mono ?_
            rintro e w5 ⟨rfl, hb5⟩
            have hX := hX.trans (BelowX.of hb5 (by omega))
            have hT := hT.next hb5
            have z5 := hb5.size
            have c1' := (hb5.cell (p := ⟨g, 1, none⟩) (by show g < _; omega)).trans c1
            clear s0 s1 s2 s3 s4 s5 c0 c1
            go_wp2_with fail
            refine (togl_at l1 105 w5).mono ?_
            rintro e w6 ⟨rfl, hb6⟩
            have hX := hX.trans (BelowX.of hb6 (by omega))
            have hT := hT.next hb6
            go_wp2_with fail
            exact bodyPost_ret (v := .tuple #[.int .u8 105, .int .i64 0]) (by simp [results, Try.results24, go_sem]) rfl ⟨rfl, hX, hT⟩
      · -- 15
        obtain ⟨t0, t1, rfl⟩ := list2 HTS.out
        have ekn : ks.length = 2 := HKN.out
        rw [ekn] at hO
        obtain ⟨g, cg, rfl, hgb, hgl⟩ := own5_some hO (by decide)
        have c0 : wr.cell? ⟨g, 0, none⟩ = some (.int .u8 (ltr t0)) := (hO.cellAt 0 (by decide)).trans rfl
        have i0 : inT t0 := HI.out t0 (by simp)
        have c1 : wr.cell? ⟨g, 1, none⟩ = some (.int .u8 (ltr t1)) := (hO.cellAt 1 (by decide)).trans rfl
        have i1 : inT t1 := HI.out t1 (by simp)
        clear hO
        have eN : nodeT cols 15 v c [t0, t1] = resT (allO 4 [t0, t1]) := rfl
        rw [all2] at eN
        have g0 := goes_text i0
        have g1 := goes_text i1
        generalize (tog t0 4).isSome = b0 at *
        generalize (tog t1 4).isSome = b1 at *
        generalize ltr t0 = l0 at *
        generalize ltr t1 = l1 at *
        cases b0
        · have er : r = (0, 9, q) := by rw [HER.out, eN]; rfl
          subst er
          clear HER eN
          go_wp2_with fail
          refine (togl_at l0 116 wr).mono ?_
          rintro e w5 ⟨rfl, hb5⟩
          have hX := hX.trans (BelowX.of hb5 (by omega))
          have hT := hT.next hb5
          have z5 := hb5.size
          clear s0 s1 s2 s3 s4 s5 c0 c1
          go_wp2_with fail
          exact bodyPost_ret (v := .tuple #[.int .u8 0, .int .i64 9]) (by simp [results, Try.results24, go_sem]) rfl ⟨rfl, hX, hT⟩
        · cases b1
          · have er : r = (0, 9, q) := by rw [HER.out, eN]; rfl
            subst er
            clear HER eN
            go_wp2_with fail
            refine (togl_at l0 116 wr).mono ?_
            rintro e w5 ⟨rfl, hb5⟩
            have hX := hX.trans (BelowX.of hb5 (by omega))
            have hT := hT.next hb5
            have z5 := hb5.size
            have c1' := (hb5.cell (p := ⟨g, 1, none⟩) (by show g < _; omega)).trans c1
            clear s0 s1 s2 s3 s4 s5 c0 c1
            go_wp2_with fail
            refine (togl_at l1 116 w5).mono ?_
            rintro e w6 ⟨rfl, hb6⟩
            have hX := hX.trans (BelowX.of hb6 (by omega))
            have hT := hT.next hb6
            go_wp2_with fail
            exact bodyPost_ret (v := .tuple #[.int .u8 0, .int .i64 9]) (by simp [results, Try.results24, go_sem]) rfl ⟨rfl, hX, hT⟩
          · have er : r = (4, 0, q) := by rw [HER.out, eN]; rfl
            subst er
            clear HER eN
            go_wp2_with fail
            refine (togl_at l0 116 wr).mono ?_
            rintro e w5 ⟨rfl, hb5⟩
            have hX := hX.trans (BelowX.of hb5 (by omega))
            have hT := hT.next hb5
            have z5 := hb5.size
            have c1' := (hb5.cell (p := ⟨g, 1, none⟩) (by show g < _; omega)).trans c1
            clear s0 s1 s2 s3 s4 s5 c0 c1
            go_wp2_with fail
            refine (togl_at l1 116 w5).mono ?_
            rintro e w6 ⟨rfl, hb6⟩
            have hX := hX.trans (BelowX.of hb6 (by omega))
            have hT := hT.next hb6
            go_wp2_with fail
            exact bodyPost_ret (v := .tuple #[.int .u8 116, .int .i64 0]) (by simp [results, Try.results24, go_sem]) rfl ⟨rfl, hX, hT⟩
      · -- 16
        have er : r = (2, 0, q) := HER.out
        subst er
        clear HER
        go_wp2_with fail
        exact bodyPost_ret (v := .tuple #[.int .u8 98, .int .i64 0]) (by simp [results, Try.results24, go_sem]) rfl ⟨rfl, hX, hT⟩
      · -- 17
        obtain ⟨t0, t1, t2, rfl⟩ := list3 HTS.out
        have ekn : ks.length = 3 := HKN.out
        rw [ekn] at hO
        obtain ⟨g, cg, rfl, hgb, hgl⟩ := own5_some hO (by decide)
        have c0 : wr.cell? ⟨g, 0, none⟩ = some (.int .u8 (ltr t0)) := (hO.cellAt 0 (by decide)).trans rfl
        have i0 : inT t0 := HI.out t0 (by simp)
        have c1 : wr.cell? ⟨g, 1, none⟩ = some (.int .u8 (ltr t1)) := (hO.cellAt 1 (by decide)).trans rfl
        have i1 : inT t1 := HI.out t1 (by simp)
        have c2 : wr.cell? ⟨g, 2, none⟩ = some (.int .u8 (ltr t2)) := (hO.cellAt 2 (by decide)).trans rfl
        have i2 : inT t2 := HI.out t2 (by simp)
        clear hO
        have eN : resT (kidsT 17 [t0, t1, t2]) = nodeT cols 17 v c [t0, t1, t2] := rfl
        have p0 := past_cell c1
        have p1 := past_cell c2
        haveI : Nonempty (Past wr) := ⟨⟨_, Below.refl _ _⟩⟩
        have g0 := goes_bool i0
        rcases ht : tog t1 t2 with _ | u
        · have gn := goes_none i1 i2 ht
          have er : r = (0, 9, q) := by rw [HER.out, ← eN]; simp [kidsT, ht, resT]
          subst er
          generalize ltr t0 = l0 at *
          generalize ltr t1 = l1 at *
          generalize ltr t2 = l2 at *
          clear HER eN g0
          go_wp2_with fail
          refine wp_region_past (by kernel_rfl) (by kernel_rfl) ?_
          repeat (go_big_quiet_step (first | (go_at_call 36; exact in_past (togl_at l1 l2 _))))
          refine wpQuiet_nil ?_
          rintro w7 ⟨⟨v7, hb7⟩, h7⟩
          obtain rfl : w7 = v7 := h7
          have hX := hX.trans (BelowX.of hb7 (by omega))
          have hT := hT.next hb7
          rw [gn]
          clear p0 p1 c0 c1 c2 s0 s1 s2 s3 s4 s5
          go_wp2_with fail
          exact bodyPost_ret (v := .tuple #[.int .u8 0, .int .i64 9]) (by simp [results, Try.results24, go_sem]) rfl ⟨rfl, hX, hT⟩
        · have gn := goes_type i1 i2 ht
          have nz : (ltr u != 0) = true := by simpa using ltr_ne (t := u)
          have er : r = (if (tog t0 2).isSome then (u, 0, q) else (0, 9, q)) := by
            rw [HER.out, ← eN]
            have : kidsT 17 [t0, t1, t2] = if (tog t0 2).isSome then tog t1 t2 else none := rfl
            rw [this, ht]
            cases (tog t0 2).isSome <;> rfl
          generalize (tog t0 2).isSome = b0 at *
          generalize ltr t0 = l0 at *
          generalize ltr t1 = l1 at *
          generalize ltr t2 = l2 at *
          generalize hlu : ltr u = lu at *
          have HLU : Hid (ltr u = lu) := hlu
          clear hlu HER eN
          cases b0
          all_goals
            simp only [if_true, if_false, Bool.false_eq_true] at er
            subst er
            go_wp2_with fail
            refine wp_region_past (by kernel_rfl) (by kernel_rfl) ?_
            repeat (go_big_quiet_step (first | (go_at_call 36; exact in_past (togl_at l1 l2 _))))
            refine wpQuiet_nil ?_
            rintro w7 ⟨⟨v7, hb7⟩, h7⟩
            obtain rfl : w7 = v7 := h7
            have hX := hX.trans (BelowX.of hb7 (by omega))
            have hT := hT.next hb7
            have z7 := hb7.size
            rw [gn]
            have c0' := (hb7.cell (p := ⟨g, 0, none⟩) (by show g < _; omega)).trans c0
            clear p0 p1 c0 c1 c2 s0 s1 s2 s3 s4 s5
            go_wp2_with fail
            refine (togl_at l0 98 w7).mono ?_
            rintro e w8 ⟨rfl, hb8⟩
            have hX := hX.trans (BelowX.of hb8 (by omega))
            have hT := hT.next hb8
            go_wp2_with fail
          · exact bodyPost_ret (v := .tuple #[.int .u8 0, .int .i64 9]) (by simp [results, Try.results24, go_sem]) rfl ⟨rfl, hX, hT⟩
          · exact bodyPost_ret (v := .tuple #[.int .u8 lu, .int .i64 0]) (by simp [results, Try.results24, go_sem]) rfl ⟨by rw [← HLU.out]; rfl, hX, hT⟩
      · -- 18
        obtain ⟨t0, t1, rfl⟩ := list2 HTS.out
        have ekn : ks.length = 2 := HKN.out
        rw [ekn] at hO
        obtain ⟨g, cg, rfl, hgb, hgl⟩ := own5_some hO (by decide)
        have c0 : wr.cell? ⟨g, 0, none⟩ = some (.int .u8 (ltr t0)) := (hO.cellAt 0 (by decide)).trans rfl
        have i0 : inT t0 := HI.out t0 (by simp)
        have c1 : wr.cell? ⟨g, 1, none⟩ = some (.int .u8 (ltr t1)) := (hO.cellAt 1 (by decide)).trans rfl
        have i1 : inT t1 := HI.out t1 (by simp)
        clear hO
        have eN : resT (kidsT 18 [t0, t1]) = nodeT cols 18 v c [t0, t1] := rfl
        have p0 := past_cell c0
        have p1 := past_cell c1
        haveI : Nonempty (Past wr) := ⟨⟨_, Below.refl _ _⟩⟩
        rcases ht : tog t0 t1 with _ | u
        · have gn := goes_none i0 i1 ht
          have er : r = (0, 9, q) := by rw [HER.out, ← eN]; simp [kidsT, ht, resT]
          subst er
          generalize ltr t0 = l0 at *
          generalize ltr t1 = l1 at *
          clear HER eN
          go_wp2_with fail
          refine wp_region_past (by kernel_rfl) (by kernel_rfl) ?_
          repeat (go_big_quiet_step (first | (go_at_call 36; exact in_past (togl_at l0 l1 _))))
          refine wpQuiet_nil ?_
          rintro w7 ⟨⟨v7, hb7⟩, h7⟩
          obtain rfl : w7 = v7 := h7
          have hX := hX.trans (BelowX.of hb7 (by omega))
          have hT := hT.next hb7
          rw [gn]
          clear p0 p1 c0 c1 s0 s1 s2 s3 s4 s5
          go_wp2_with fail
          exact bodyPost_ret (v := .tuple #[.int .u8 0, .int .i64 9]) (by simp [results, Try.results24, go_sem]) rfl ⟨rfl, hX, hT⟩
        · have gn := goes_type i0 i1 ht
          have nz : (ltr u != 0) = true := by simpa using ltr_ne (t := u)
          have er : r = (u, 0, q) := by rw [HER.out, ← eN]; simp [kidsT, ht, resT]
          subst er
          generalize ltr t0 = l0 at *
          generalize ltr t1 = l1 at *
          generalize hlu : ltr u = lu at *
          have HLU : Hid (ltr u = lu) := hlu
          clear hlu
          clear HER eN
          go_wp2_with fail
          refine wp_region_past (by kernel_rfl) (by kernel_rfl) ?_
          repeat (go_big_quiet_step (first | (go_at_call 36; exact in_past (togl_at l0 l1 _))))
          refine wpQuiet_nil ?_
          rintro w7 ⟨⟨v7, hb7⟩, h7⟩
          obtain rfl : w7 = v7 := h7
          have hX := hX.trans (BelowX.of hb7 (by omega))
          have hT := hT.next hb7
          rw [gn]
          clear p0 p1 c0 c1 s0 s1 s2 s3 s4 s5
          go_wp2_with fail
          exact bodyPost_ret (v := .tuple #[.int .u8 lu, .int .i64 0]) (by simp [results, Try.results24, go_sem]) rfl ⟨by rw [← HLU.out]; rfl, hX, hT⟩
theorem typeL_any {cols : List Int} (hcols : colsB cols = true) : ∀ x, TypeLAt cols x := Ex.ind fun k v c ks ih => typeL_at cols hcols k v c ks ih
end Go.Proofs.Ytbdhmjojamoafaa
