/- Together: T2, T3, T4, W13, T5, T6a. -/
import Derived.Deep.RegionWith
import Derived.Test.YtfojonhblblbjaaGreatUB9
import Derived.Test.YtfojonhblblbjaaGreatUB4
import Derived.Test.YtfojonhblblbjaaGreatUB6
import Derived.Test.YtfojonhblblbjaaGreatUB3
import Derived.Test.YtfojonhblblbjaaGreatUB2
import Derived.Test.YtfojonhblblbjaaGreatUB1
/- The walk of the document's Type. -/
namespace Go.Proofs.YtfojonhblblbjaaGreat
open Go.RowKit

/-- The letter of an answer. -/
def lv (r : Int × Int × Int) : Int := if r.2.1 = 0 then ltr r.1 else 0
def TypeLAt (cols : List Int) (x : Ex) : Prop :=
 ∀ (B t : Nat) (ca : Option Addr) (ccap : Nat) (a : Option Addr) (cap : Nat) (m d : Int) (w : World), KsAt B w a x.ks → IsAt B w ca cols → B ≤ t → TyC w t ca cols.length ccap m → 0 ≤ m → m ≤ 200 → 0 ≤ d → d ≤ 21 →
  Calls Tryz.prog 109 #[.pointer (some ⟨t, 0, none⟩), exV x.k x.v x.c a x.ks.length cap, .int .i64 d] w fun e w' =>
   e = .returned (.tuple #[.int .u8 (lv (typeX cols x m d)), .int .i64 (typeX cols x m d).2.1]) ∧ BelowX t w w' ∧ TyC w' t ca cols.length ccap (typeX cols x m d).2.2

theorem info5 : (Tryz.prog.info? 5).map (fun i => (i.zero, i.size, i.bytes)) = some (some (.int .u8 0), 1, 1) := by kernel_rfl
def bytesOf (ts : List Int) : List Value := ts.map fun t => .int .u8 (ltr t)
theorem goes_bool {t : Int} (h : inT t) : (togL (ltr t) 98 == 98) = (tog t 2).isSome := by
 unfold inT at h
 obtain rfl | rfl | rfl | rfl : t = 1 ∨ t = 2 ∨ t = 3 ∨ t = 4 := by omega
 all_goals rfl
theorem goes_int {t : Int} (h : inT t) : (togL (ltr t) 105 == 105) = (tog t 3).isSome := by
 unfold inT at h
 obtain rfl | rfl | rfl | rfl : t = 1 ∨ t = 2 ∨ t = 3 ∨ t = 4 := by omega
 all_goals rfl
theorem goes_text {t : Int} (h : inT t) : (togL (ltr t) 116 == 116) = (tog t 4).isSome := by
 unfold inT at h
 obtain rfl | rfl | rfl | rfl : t = 1 ∨ t = 2 ∨ t = 3 ∨ t = 4 := by omega
 all_goals rfl
theorem goes_type {t u r : Int} (h : inT t) (h' : inT u) (e : tog t u = some r) : togL (ltr t) (ltr u) = ltr r := by rw [togL_tog h h', e]
theorem goes_none {t u : Int} (h : inT t) (h' : inT u) (e : tog t u = none) : togL (ltr t) (ltr u) = 0 := by rw [togL_tog h h', e]
theorem all1 (T t0 : Int) : allO T [t0] = if (tog t0 T).isSome then some T else none := by simp [allO]
theorem all2 (T t0 t1 : Int) : allO T [t0, t1] = if (tog t0 T).isSome && (tog t1 T).isSome then some T else none := by simp [allO]
/-- All types of kids are types. -/
def InAll (ts : List Int) : Prop := ∀ t ∈ ts, inT t

/-- What the walk holds behind the loop. -/
structure Behind (W w : World) (t g cg : Nat) (ca : Option Addr) (cn ccap : Nat) (q : Int) (k : Int) (v : Vl) (c : Int) (a : Option Addr) (n cap : Nat) : Prop where
 x : BelowX t w W
 ty : TyC W t ca cn ccap q
 six : Six W w.heap.size 0 k v c a n cap

theorem own_nextX {t base n : Nat} {W w1 : World} {v : Value} {xs : List Value} (h : W.ownsRow base 5 1 v n xs) (hb : BelowX t W w1) (hn : t < base) : w1.ownsRow base 5 1 v n xs := by
 have hlt := h.lt
 obtain ⟨h0, ⟨rfl, h1⟩ | ⟨g, c1, cur, rfl, hg, hh, r⟩⟩ := h
 ·exact ⟨h0, .inl ⟨rfl, h1⟩⟩
 ·have := (hlt g rfl).2
  exact ⟨h0, .inr ⟨g, c1, cur, rfl, hg, (hb.2 g this (by omega)).trans hh, r⟩⟩
theorem TyC.low {B : Nat} {W w1 : World} {t : Nat} {ca : Option Addr} {n cap : Nat} {m : Int} (h : TyC W t ca n cap m) (hb : Below B W w1) (hB : t < B) : TyC w1 t ca n cap m :=
 ⟨Nat.lt_of_lt_of_le h.lt hb.size, (hb.cell (p := ⟨t, 0, none⟩) hB).trans h.c0, (hb.cell (p := ⟨t, 1, none⟩) hB).trans h.c1, (hb.frozen (p := ⟨t, 1, none⟩) hB).trans h.f1⟩
theorem BelowX.low {B t : Nat} {a b c : World} (h : BelowX t a b) (hb : Below B b c) (hB : a.heap.size ≤ B) (ht : t ≤ B) : BelowX t a c :=
 ⟨h.1.trans (hb.mono ht), fun k hk hn => (hb.block k (by omega)).trans (h.2 k hk hn)⟩
theorem inAll_snoc {ts : List Int} {t : Int} (h : InAll ts) (h' : inT t) : InAll (ts ++ [t]) := by
 intro u hu
 simp at hu
 rcases hu with hu | rfl
 ·exact h u hu
 ·exact h'
theorem own5_some {W : World} {base n : Nat} {v : Value} {xs : List Value} (h : W.ownsRow base 5 1 v n xs) (hn : 0 < n) : ∃ g c, v = .slice (some ⟨g, 0, none⟩) n c ∧ base ≤ g ∧ g < W.heap.size := by
 have h' := h
 obtain ⟨_, ⟨rfl, h0⟩ | ⟨g, c1, cur, rfl, hg, _⟩⟩ := h
 ·omega
 ·exact ⟨g, c1, rfl, hg, (h'.lt g rfl).2⟩
theorem list1 {l : List Int} (h : l.length = 1) : ∃ x, l = [x] := by
 match l, h with
 | [x], _ => exact ⟨x, rfl⟩
theorem news1 (w : World) (u : Value) (t : Nat) : ∀ (j : Nat) (x : Value), [u][j]? = some x → (w.alloc (.cells #[u] t)).cell? ((⟨w.heap.size, 0, none⟩ : Addr).add j) = some x := by
 intro j x hj
 match j, hj with
 | 0, hj => simp at hj; subst hj; simp [Addr.add]
theorem one1 (n : Int) : ∀ u ∈ [Value.int .u8 n], u.oneCell' = true := by
 intro u hu; simp at hu; subst hu; rfl

set_option maxRecDepth 100000 in
set_option maxRecDepth 100000 in
set_option maxHeartbeats 8000000 in
theorem typeL_at (cols : List Int) (hcols : colsB cols = true) (k : Int) (v : Vl) (c : Int) (ks : List Ex) (ih : ∀ x ∈ ks, TypeLAt cols x) : TypeLAt cols (.mk k v c ks) := by
 intro B t ca ccap a cap m d w hk hc hBt ht hm0 hm hd0 hd
 simp only [Ex.k, Ex.v, Ex.c, Ex.ks] at hk ⊢
 have H1 := ht.lt
 have H2 := ht.c1
 have H3 := ht.f1
 generalize hr : typeX cols (.mk k v c ks) m d = r
 have HR : Hid (typeX cols (.mk k v c ks) m d = r) := hr
 clear hr
 by_cases hmuch : 200 < m + 1 ∨ 20 < d
 ·have er : r = (0, 4, m + 1) := by
   have e := nodeW_much (k := k) (n := ks.length) hmuch
   rw [← HR.out, typeX_bad (by rw [e]; decide), e]
  subst er
  have T0 := ht.count (m + 1)
  have X0 := (BelowX.refl t w).set 1 (.int .i64 (m + 1))
  have hal : Below (w.setCell ⟨t, 1, none⟩ (.int .i64 (m + 1))).heap.size (w.setCell ⟨t, 1, none⟩ (.int .i64 (m + 1))) ((w.setCell ⟨t, 1, none⟩ (.int .i64 (m + 1))).alloc (.cells #[.int .i64 k, .int .i64 v.1, .int .i64 v.2.1, .string v.2.2, .int .i64 c, .slice a ks.length cap] 27)) := (Below.refl _ _).alloc (Nat.le_refl _) _
  have TA := T0.next hal
  have XA := X0.trans (BelowX.of hal (by simp; omega))
  clear HR hal T0 X0
  by_cases h1 : 200 < m + 1
  ·go_enter Tryz.func109, Tryz.ntmps109
   go_wp2_with fail
   exact bodyPost_ret (v := .tuple #[.int .u8 0, .int .i64 4]) (by simp [results, Tryz.results109, go_sem]) rfl ⟨rfl, XA, TA⟩
  ·have h2 : 20 < d := by omega
   go_enter Tryz.func109, Tryz.ntmps109
   go_wp2_with fail
   exact bodyPost_ret (v := .tuple #[.int .u8 0, .int .i64 4]) (by simp [results, Tryz.results109, go_sem]) rfl ⟨rfl, XA, TA⟩
 have hm1 : ¬ 200 < m + 1 := by omega
 have hd1 : ¬ 20 < d := by omega
 clear hmuch
 have T0 := ht.count (m + 1)
 have X0 := (BelowX.refl t w).set 1 (.int .i64 (m + 1))
 have SA := Six.new (w.setCell ⟨t, 1, none⟩ (.int .i64 (m + 1))) k v c a ks.length cap 27
 rw [World.size_setCell] at SA
 have hal : Below (w.setCell ⟨t, 1, none⟩ (.int .i64 (m + 1))).heap.size (w.setCell ⟨t, 1, none⟩ (.int .i64 (m + 1))) ((w.setCell ⟨t, 1, none⟩ (.int .i64 (m + 1))).alloc (.cells #[.int .i64 k, .int .i64 v.1, .int .i64 v.2.1, .string v.2.2, .int .i64 c, .slice a ks.length cap] 27)) := (Below.refl _ _).alloc (Nat.le_refl _) _
 have TA := T0.next hal
 have XA := X0.trans (BelowX.of hal (by simp; omega))
 have zA : w.heap.size < ((w.setCell ⟨t, 1, none⟩ (.int .i64 (m + 1))).alloc (.cells #[.int .i64 k, .int .i64 v.1, .int .i64 v.2.1, .string v.2.2, .int .i64 c, .slice a ks.length cap] 27)).heap.size := by simp
 clear hal T0 X0 ht
 go_enter Tryz.func109, Tryz.ntmps109
 go_wp2_with fail
 clear H2 H3
 generalize (w.setCell ⟨t, 1, none⟩ (.int .i64 (m + 1))).alloc (.cells #[.int .i64 k, .int .i64 v.1, .int .i64 v.2.1, .string v.2.2, .int .i64 c, .slice a ks.length cap] 27) = wA at *
 refine (kids_at k wA).mono ?_
 rintro e w3 ⟨rfl, hb3⟩
 have T3 := TA.next hb3
 have S3 := SA.next hb3 zA
 have X3 := XA.trans (BelowX.of hb3 (by omega))
 have z3 := hb3.size
 clear TA SA XA
 by_cases hkind : k < 1 ∨ 18 < k
 ·have e := nodeW_kind (n := ks.length) (m := m + 1) (d := d) (by omega) (by omega) hkind
  have er : r = (0, 1, m + 1) := by rw [← HR.out, typeX_bad (by rw [e]; decide), e]
  subst er
  have ek : kidsR k = -1 := by unfold kidsR; rw [if_pos hkind]
  rw [ek]
  clear HR S3
  go_wp2_with fail
  exact bodyPost_ret (v := .tuple #[.int .u8 0, .int .i64 1]) (by simp [results, Tryz.results109, go_sem]) rfl ⟨rfl, X3, T3⟩
 have ek : kidsR k = kidsN k := by unfold kidsR; rw [if_neg hkind]
 rw [ek]
 have hk1 : ¬ k < 1 := by omega
 have hk18 : ¬ 18 < k := by omega
 clear hkind ek
 obtain ⟨s0, s1, s2, s3, s4, s5⟩ := S3
 simp only [Nat.zero_add] at s1 s2 s3 s4 s5
 by_cases hlen : ks.length = kidsN k
 case neg =>
  have e := nodeW_many (m := m + 1) (d := d) (by omega) (by omega) (by omega) (by omega) hlen
  have er : r = (0, 5, m + 1) := by rw [← HR.out, typeX_bad (by rw [e]; decide), e]
  subst er
  have q0 : ¬ (kidsN k : Int) < 0 := by omega
  have q1 : ((ks.length : Int) != (kidsN k : Nat)) = true := by simp; omega
  generalize kidsN k = kn at *
  clear HR hlen
  go_wp2_with fail
  exact bodyPost_ret (v := .tuple #[.int .u8 0, .int .i64 5]) (by simp [results, Tryz.results109, go_sem]) rfl ⟨rfl, X3, T3⟩
 have HW : Hid (nodeW k ks.length (m + 1) d = 0) := nodeW_ok (by omega) (by omega) (by omega) (by omega) hlen
 have hl3 : ks.length ≤ 3 := by rw [hlen]; exact kidsN_le k
 have HL : Hid (ks.length = kidsN k) := hlen
 rw [← hlen]
 clear hlen
 have zl : w.heap.size < w3.heap.size := by omega
 obtain ⟨i0, hi, hj0, hj1, hj2⟩ := info_parts info5
 go_wp2_with fail
 have S3 : Six w3 w.heap.size 0 k v c a ks.length cap := ⟨s0, s1, s2, s3, s4, s5⟩
 have O4 : (w3.alloc (.cells #[] 5)).ownsRow w3.heap.size 5 1 (.slice (some ⟨w3.heap.size, 0, none⟩) 0 0) 0 [] := World.ownsRow_made w3 #[] 0 (Nat.le_refl _) (Nat.zero_le _) (by simp)
 have hal : Below w3.heap.size w3 (w3.alloc (.cells #[] 5)) := (Below.refl _ _).alloc (Nat.le_refl _) _
 have T4 := T3.next hal
 have S4 := S3.next hal zl
 have X4 := X3.trans (BelowX.of hal (by omega))
 have z4 : w3.heap.size < (w3.alloc (.cells #[] 5)).heap.size := by simp
 generalize w3.alloc (.cells #[] 5) = w4 at *
 clear hal T3 S3 X3 s0 s1 s2 s3 s4 s5 hb3 z3 zA
 go_loopw [9, 47] (fun u i wr => ∃ (j : Nat) (ts : List Int) (q : Int), j ≤ ks.length ∧ i = .int .i64 j ∧ Hid (ts.length = j) ∧ Hid (InAll ts) ∧ 0 ≤ q ∧ q ≤ 200 ∧ Hid (typesX cols ks [] (m + 1) (d + 1) = typesX cols (ks.drop j) ts q (d + 1)) ∧
  BelowX t w wr ∧ TyC wr t ca cols.length ccap q ∧ Six wr w.heap.size 0 k v c a ks.length cap ∧ w3.heap.size < wr.heap.size ∧ wr.ownsRow w3.heap.size 5 1 u j (bytesOf ts)) (fun _ i _ => ks.length - (intOf i).toNat)
 case atStart => exact ⟨0, [], m + 1, Nat.zero_le _, rfl, rfl, (fun t ht => by simp at ht), by omega, by omega, rfl, X4, T4, S4, z4, O4⟩
 case round =>
  obtain ⟨j, ts, q, hj, rfl, HT, HI, hq0, hq, HE, hX, hT, hS, hwz, hO⟩ := hrel
  have hz := hX.size
  by_cases hlt : j < ks.length
  ·obtain ⟨b, off, ai, ci, rfl, hbl, sx, kx⟩ := (KsAt.next (hX.below hBt) (Nat.le_refl _) hk).elem hlt
   have hcr := hc.next (hX.below hBt) (Nat.le_refl _)
   obtain ⟨x0, x1, x2, x3, x4, x5⟩ := sx
   have hal : Below wr.heap.size wr (wr.alloc (.cells #[.int .i64 ks[j].k, .int .i64 ks[j].v.1, .int .i64 ks[j].v.2.1, .string ks[j].v.2.2, .int .i64 ks[j].c, .slice ai ks[j].ks.length ci] 27)) := (Below.refl _ _).alloc (Nat.le_refl _) _
   have con := ih ks[j] (List.getElem_mem _) B t ca ccap ai ci q (d + 1) _ (KsAt.next hal (by omega) kx) (hcr.next hal (by omega)) hBt (hT.next hal) hq0 hq (by omega) (by omega)
   go_wp2_with fail
   refine con.mono ?_
   clear con
   rintro e w5 ⟨rfl, hX5, hT5⟩
   have X5 := (BelowX.of hal (t := t) (by omega)).trans hX5
   have hX5' := hX.trans X5
   have S5 := hS.nextX X5 (by omega) (by omega)
   have O5 := own_nextX hO X5 (by omega)
   have z5 := X5.size
   generalize hty : typeX cols ks[j] q (d + 1) = ty at *
   have HY : Hid (typeX cols ks[j] q (d + 1) = ty) := hty
   obtain ⟨t1, e1, n1⟩ := ty
   clear hty hX5 hal hT hS hO x0 x1 x2 x3 x4 x5 kx hcr
   by_cases he : e1 = 0
   ·subst he
    have hn1 := typeX_n (by rw [HY.out] : (typeX cols ks[j] q (d + 1)).2.1 = 0)
    rw [HY.out] at hn1
    have HN : Hid (n1 ≤ 200 ∧ q < n1) := hn1
    have HIn : Hid (inT t1) := by
     have := (typeX_ok cols ks[j] q (d + 1) t1 n1).1 HY.out
     exact typP_in (colsB_at hcols) _ _ this.1
    have el : lv (t1, 0, n1) = ltr t1 := rfl
    rw [el]
    clear hn1 el
    go_wp2_with (at_builtin; refine wpList_append_own _ rfl (.tmp 62) (.tmp 64) 174 rfl w3.heap.size 5 i0 _ 1 1 Tryz.underlying174 hi hj0 hj1 hj2 rfl (by decide) _ _ _ rfl (O5.alloc _) ⟨w5.heap.size, 0, none⟩ 1 1 [.int .u8 (ltr t1)] rfl rfl (news1 _ _ _) (one1 _) (by unfold maxLen; omega) (by omega) (by simp; omega) ?_)
    intro v' w6 ho6 hg6 _
    have hb6 : Below w3.heap.size w5 w6 := ((Below.refl _ _).alloc (by omega) _).grown hg6 (by simp; omega) (fun q hq => ((O5.alloc (.cells #[.int .u8 (ltr t1)] 5)).lt q hq).1)
    have T6 := hT5.low hb6 (by omega)
    have S6 := S5.next hb6 (by omega)
    have X6 := hX5'.low hb6 (by omega) (by omega)
    have z6 := hb6.size
    have ho7 : w6.ownsRow w3.heap.size 5 1 v' (j + 1) (bytesOf (ts ++ [t1])) := by
     have e : bytesOf (ts ++ [t1]) = bytesOf ts ++ [.int .u8 (ltr t1)] := by simp [bytesOf]
     rw [e]; exact ho6
    clear ho6 hg6 hb6 O5 S5 hT5 hX5' X5
    go_wp2_with fail
    go_roundw
    case rel => exact ⟨j + 1, ts ++ [t1], n1, by omega, by go_num, by have := HT.out; show (ts ++ [t1]).length = j + 1; simp [this], inAll_snoc HI.out HIn.out, by have := HN.out; omega, HN.out.1, by rw [HE.out, typesX_next cols ks ts q (d + 1) j hlt (by rw [HY.out]), HY.out]; rfl, X6, T6, S6, by omega, ho7⟩
    case measure => simp [intOf]; omega
   ·have er : r = (0, e1, n1) := by
     rw [← HR.out]
     refine typeX_kid HW.out (ts := ts) ?_ he
     rw [HE.out, typesX_bad cols ks ts q (d + 1) j hlt (by rw [HY.out]; exact he), HY.out]
    subst er
    have q' : (e1 != 0) = true := by simpa using he
    clear HR O5 S5
    go_wp2_with fail
    exact bodyPost_ret (v := .tuple #[.int .u8 0, .int .i64 e1]) (by simp [results, Tryz.results109, go_sem]) rfl ⟨by simp [lv, he], hX5', hT5⟩
  ·have ej : j = ks.length := by omega
   subst ej
   have hts := HT.out
   have er : r = ((nodeT cols k v c ts).1, (nodeT cols k v c ts).2, q) := by
    rw [← HR.out]
    refine typeX_own HW.out ?_
    rw [HE.out, typesX_end cols ks ts q (d + 1) _ (Nat.le_refl _)]
   have HER : Hid _ := er
   have hkn := HL.out
   rw [hkn] at hts
   have HTS : Hid (ts.length = kidsN k) := hts
   have HKN : Hid (ks.length = kidsN k) := hkn
   clear HR HE hts HT er hkn HL HW
   have hcr := hc.next (hX.below hBt) (Nat.le_refl _)
   obtain ⟨s0, s1, s2, s3, s4, s5⟩ := hS
   simp only [Nat.zero_add] at s1 s2 s3 s4 s5
   obtain rfl | rfl | rfl | rfl | rfl | rfl | rfl | rfl | rfl | rfl | rfl | rfl | rfl | rfl | rfl | rfl | rfl | rfl : k = 1 ∨ k = 2 ∨ k = 3 ∨ k = 4 ∨ k = 5 ∨ k = 6 ∨ k = 7 ∨ k = 8 ∨ k = 9 ∨ k = 10 ∨ k = 11 ∨ k = 12 ∨ k = 13 ∨ k = 14 ∨ k = 15 ∨ k = 16 ∨ k = 17 ∨ k = 18 := by omega
   ·-- 1
    have e1 : nodeT cols 1 v c ts = litT v := rfl
    by_cases hw : wrongF v.1 v.2.1 v.2.2 = 0
    ·have er : r = (v.1, 0, q) := by rw [HER.out, e1]; simp [litT, wrongP, hw]
     subst er
     have hin : inT v.1 := wrong_kind (v := v) hw
     clear HER e1
     go_wp2_with fail
     refine (refWrong_any v.1 v.2.1 v.2.2 wr).mono ?_
     rintro e w5 ⟨rfl, hb5⟩
     rw [hw]
     have s1' := (hb5.cell (p := ⟨w.heap.size, 1, none⟩) (by show w.heap.size < _; omega)).trans s1
     have hX := hX.trans (BelowX.of hb5 (by omega))
     have hT := hT.next hb5
     have z5 := hb5.size
     clear s0 s1 s2 s3 s4 s5
     go_wp2_with fail
     refine (letter_at v.1 w5 hin).mono ?_
     rintro e w6 ⟨rfl, hb6⟩
     have hX := hX.trans (BelowX.of hb6 (by omega))
     have hT := hT.next hb6
     go_wp2_with fail
     exact bodyPost_ret (v := .tuple #[.int .u8 (ltr v.1), .int .i64 0]) (by simp [results, Tryz.results109, go_sem]) rfl ⟨rfl, hX, hT⟩
    ·have er : r = (0, wrongF v.1 v.2.1 v.2.2, q) := by rw [HER.out, e1]; simp [litT, wrongP, hw]
     subst er
     clear HER e1
     go_wp2_with fail
     refine (refWrong_any v.1 v.2.1 v.2.2 wr).mono ?_
     rintro e w5 ⟨rfl, hb5⟩
     have hX := hX.trans (BelowX.of hb5 (by omega))
     have hT := hT.next hb5
     have qw : (wrongF v.1 v.2.1 v.2.2 != 0) = true := by simpa using hw
     clear s0 s1 s2 s3 s4 s5
     go_wp2_with fail
     exact bodyPost_ret (v := .tuple #[.int .u8 0, .int .i64 (wrongF v.1 v.2.1 v.2.2)]) (by simp [results, Tryz.results109, go_sem]) rfl ⟨by simp [lv, hw], hX, hT⟩
   ·-- 2
    have e1 : nodeT cols 2 v c ts = colT cols c := rfl
    have p0 := past_cell hT.c0
    have p4 := past_cell s4
    haveI : Nonempty (Past wr) := ⟨⟨_, Below.refl _ _⟩⟩
    by_cases h1 : c < 0
    ·have er : r = (0, 7, q) := by rw [HER.out, e1]; simp [colT, h1]
     subst er
     clear HER e1
     go_wp2_with fail
     refine wp_region_past (by kernel_rfl) (by kernel_rfl) ?_
     repeat (go_big_quiet_step (fail))
     refine wpQuiet_nil ?_
     rintro w6 ⟨⟨v6, hb6⟩, h6⟩
     obtain rfl : w6 = v6 := h6
     have hX := hX.trans (BelowX.of hb6 (by omega))
     have hT := hT.next hb6
     clear p0 p4 s0 s1 s2 s3 s4 s5
     go_wp2_with fail
     exact bodyPost_ret (v := .tuple #[.int .u8 0, .int .i64 7]) (by simp [results, Tryz.results109, go_sem]) rfl ⟨rfl, hX, hT⟩
    have d1 : decide (c < 0) = false := decide_eq_false h1
    by_cases h2 : (cols.length : Int) ≤ c
    ·have d2 : decide ((cols.length : Int) ≤ c) = true := decide_eq_true h2
     have er : r = (0, 7, q) := by rw [HER.out, e1]; simp [colT, h2]
     subst er
     clear HER e1
     go_wp2_with fail
     refine wp_region_past (by kernel_rfl) (by kernel_rfl) ?_
     repeat (go_big_quiet_step (fail))
     refine wpQuiet_nil ?_
     rintro w6 ⟨⟨v6, hb6⟩, h6⟩
     obtain rfl : w6 = v6 := h6
     have hX := hX.trans (BelowX.of hb6 (by omega))
     have hT := hT.next hb6
     clear p0 p4 s0 s1 s2 s3 s4 s5
     go_wp2_with fail
     exact bodyPost_ret (v := .tuple #[.int .u8 0, .int .i64 7]) (by simp [results, Tryz.results109, go_sem]) rfl ⟨rfl, hX, hT⟩
    obtain ⟨i, rfl⟩ : ∃ i : Nat, c = i := ⟨c.toNat, by omega⟩
    have hi : i < cols.length := by omega
    have er : r = (cols[i], 0, q) := by
     rw [HER.out, e1, colT, if_neg (by omega)]
     simp [List.getD, hi]
    have d2 : decide ((cols.length : Int) ≤ (i : Int)) = false := decide_eq_false h2
    have hin : inT cols[i] := by
     have := colsB_at hcols i hi
     simpa [List.getD, hi] using this
    obtain ⟨cb, co, rfl, hcb, cc⟩ := hcr.elem hi
    generalize cols[i] = ct at *
    subst er
    have p7 := past_cell cc
    clear HER e1
    go_wp2_with fail
    refine wp_region_past (by kernel_rfl) (by kernel_rfl) ?_
    repeat (go_big_quiet_step (fail))
    refine wpQuiet_nil ?_
    rintro w6 ⟨⟨v6, hb6⟩, h6⟩
    obtain rfl : w6 = v6 := h6
    have hX := hX.trans (BelowX.of hb6 (by omega))
    have hT := hT.next hb6
    have z6 := hb6.size
    have d4 := past_cell ((hb6.cell (p := ⟨w.heap.size, 4, none⟩) (by show w.heap.size < _; omega)).trans s4)
    have d7 := past_cell ((hb6.cell (p := ⟨cb, co + i, none⟩) (by show cb < _; omega)).trans cc)
    have d0 := past_cell hT.c0
    haveI : Nonempty (Past w6) := ⟨⟨_, Below.refl _ _⟩⟩
    clear p0 p4 p7 s0 s1 s2 s3 s4 s5 cc
    go_wp2_with fail
    refine wp_region_past (by kernel_rfl) (by kernel_rfl) ?_
    repeat (go_big_quiet_step (first | (go_at_call 110; exact in_past (letter_at ct _ hin))))
    refine wpQuiet_nil ?_
    rintro w7 ⟨⟨v7, hb7⟩, h7⟩
    obtain rfl : w7 = v7 := h7
    have hX := hX.trans (BelowX.of hb7 (by omega))
    have hT := hT.next hb7
    clear d0 d4 d7
    go_wp2_with fail
    exact bodyPost_ret (v := .tuple #[.int .u8 (ltr ct), .int .i64 0]) (by simp [results, Tryz.results109, go_sem]) rfl ⟨rfl, hX, hT⟩
   ·-- 3
    obtain ⟨t0, rfl⟩ := list1 HTS.out
    have ekn : ks.length = 1 := HKN.out
    rw [ekn] at hO
    obtain ⟨g, cg, rfl, hgb, hgl⟩ := own5_some hO (by decide)
    have c0 : wr.cell? ⟨g, 0, none⟩ = some (.int .u8 (ltr t0)) := (hO.cellAt 0 (by decide)).trans rfl
    have i0 : inT t0 := HI.out t0 (by simp)
    clear hO
    have eN : nodeT cols 3 v c [t0] = resT (allO 2 [t0]) := rfl
    rw [all1] at eN
    have g0 := goes_bool i0
    generalize (tog t0 2).isSome = b0 at *
    generalize ltr t0 = l0 at *
    cases b0
    ·have er : r = (0, 9, q) := by rw [HER.out, eN]; rfl
     subst er
     clear HER eN
     go_wp2_with fail
     refine (togl_at l0 98 wr).mono ?_
     rintro e w5 ⟨rfl, hb5⟩
     have hX := hX.trans (BelowX.of hb5 (by omega))
     have hT := hT.next hb5
     have z5 := hb5.size
     clear s0 s1 s2 s3 s4 s5 c0
     go_wp2_with fail
     exact bodyPost_ret (v := .tuple #[.int .u8 0, .int .i64 9]) (by simp [results, Tryz.results109, go_sem]) rfl ⟨rfl, hX, hT⟩
    ·have er : r = (2, 0, q) := by rw [HER.out, eN]; rfl
     subst er
     clear HER eN
     go_wp2_with fail
     refine (togl_at l0 98 wr).mono ?_
     rintro e w5 ⟨rfl, hb5⟩
     have hX := hX.trans (BelowX.of hb5 (by omega))
     have hT := hT.next hb5
     have z5 := hb5.size
     clear s0 s1 s2 s3 s4 s5 c0
     go_wp2_with fail
     exact bodyPost_ret (v := .tuple #[.int .u8 98, .int .i64 0]) (by simp [results, Tryz.results109, go_sem]) rfl ⟨rfl, hX, hT⟩
   ·-- 4
    obtain ⟨t0, t1, rfl⟩ := list2 HTS.out
    have ekn : ks.length = 2 := HKN.out
    rw [ekn] at hO
    obtain ⟨g, cg, rfl, hgb, hgl⟩ := own5_some hO (by decide)
    have c0 : wr.cell? ⟨g, 0, none⟩ = some (.int .u8 (ltr t0)) := (hO.cellAt 0 (by decide)).trans rfl
    have i0 : inT t0 := HI.out t0 (by simp)
    have c1 : wr.cell? ⟨g, 1, none⟩ = some (.int .u8 (ltr t1)) := (hO.cellAt 1 (by decide)).trans rfl
    have i1 : inT t1 := HI.out t1 (by simp)
    clear hO
    have eN : nodeT cols 4 v c [t0, t1] = resT (allO 2 [t0, t1]) := rfl
    rw [all2] at eN
    have g0 := goes_bool i0
    have g1 := goes_bool i1
    generalize (tog t0 2).isSome = b0 at *
    generalize (tog t1 2).isSome = b1 at *
    generalize ltr t0 = l0 at *
    generalize ltr t1 = l1 at *
    cases b0
    ·have er : r = (0, 9, q) := by rw [HER.out, eN]; rfl
     subst er
     clear HER eN
     go_wp2_with fail
     refine (togl_at l0 98 wr).mono ?_
     rintro e w5 ⟨rfl, hb5⟩
     have hX := hX.trans (BelowX.of hb5 (by omega))
     have hT := hT.next hb5
     have z5 := hb5.size
     clear s0 s1 s2 s3 s4 s5 c0 c1
     go_wp2_with fail
     exact bodyPost_ret (v := .tuple #[.int .u8 0, .int .i64 9]) (by simp [results, Tryz.results109, go_sem]) rfl ⟨rfl, hX, hT⟩
    ·cases b1
     ·have er : r = (0, 9, q) := by rw [HER.out, eN]; rfl
      subst er
      clear HER eN
      go_wp2_with fail
      refine (togl_at l0 98 wr).mono ?_
      rintro e w5 ⟨rfl, hb5⟩
      have hX := hX.trans (BelowX.of hb5 (by omega))
      have hT := hT.next hb5
      have z5 := hb5.size
      have c1' := (hb5.cell (p := ⟨g, 1, none⟩) (by show g < _; omega)).trans c1
      clear s0 s1 s2 s3 s4 s5 c0 c1
      go_wp2_with fail
      refine (togl_at l1 98 w5).mono ?_
      rintro e w6 ⟨rfl, hb6⟩
      have hX := hX.trans (BelowX.of hb6 (by omega))
      have hT := hT.next hb6
      go_wp2_with fail
      exact bodyPost_ret (v := .tuple #[.int .u8 0, .int .i64 9]) (by simp [results, Tryz.results109, go_sem]) rfl ⟨rfl, hX, hT⟩
     ·have er : r = (2, 0, q) := by rw [HER.out, eN]; rfl
      subst er
      clear HER eN
      go_wp2_with fail
      refine (togl_at l0 98 wr).mono ?_
      rintro e w5 ⟨rfl, hb5⟩
      have hX := hX.trans (BelowX.of hb5 (by omega))
      have hT := hT.next hb5
      have z5 := hb5.size
      have c1' := (hb5.cell (p := ⟨g, 1, none⟩) (by show g < _; omega)).trans c1
      clear s0 s1 s2 s3 s4 s5 c0 c1
      go_wp2_with fail
      refine (togl_at l1 98 w5).mono ?_
      rintro e w6 ⟨rfl, hb6⟩
      have hX := hX.trans (BelowX.of hb6 (by omega))
      have hT := hT.next hb6
      go_wp2_with fail
      exact bodyPost_ret (v := .tuple #[.int .u8 98, .int .i64 0]) (by simp [results, Tryz.results109, go_sem]) rfl ⟨rfl, hX, hT⟩
   ·-- 5
    obtain ⟨t0, t1, rfl⟩ := list2 HTS.out
    have ekn : ks.length = 2 := HKN.out
    rw [ekn] at hO
    obtain ⟨g, cg, rfl, hgb, hgl⟩ := own5_some hO (by decide)
    have c0 : wr.cell? ⟨g, 0, none⟩ = some (.int .u8 (ltr t0)) := (hO.cellAt 0 (by decide)).trans rfl
    have i0 : inT t0 := HI.out t0 (by simp)
    have c1 : wr.cell? ⟨g, 1, none⟩ = some (.int .u8 (ltr t1)) := (hO.cellAt 1 (by decide)).trans rfl
    have i1 : inT t1 := HI.out t1 (by simp)
    clear hO
    have eN : nodeT cols 5 v c [t0, t1] = resT (allO 2 [t0, t1]) := rfl
    rw [all2] at eN
    have g0 := goes_bool i0
    have g1 := goes_bool i1
    generalize (tog t0 2).isSome = b0 at *
    generalize (tog t1 2).isSome = b1 at *
    generalize ltr t0 = l0 at *
    generalize ltr t1 = l1 at *
    cases b0
    ·have er : r = (0, 9, q) := by rw [HER.out, eN]; rfl
     subst er
     clear HER eN
     go_wp2_with fail
     refine (togl_at l0 98 wr).mono ?_
     rintro e w5 ⟨rfl, hb5⟩
     have hX := hX.trans (BelowX.of hb5 (by omega))
     have hT := hT.next hb5
     have z5 := hb5.size
     clear s0 s1 s2 s3 s4 s5 c0 c1
     go_wp2_with fail
     exact bodyPost_ret (v := .tuple #[.int .u8 0, .int .i64 9]) (by simp [results, Tryz.results109, go_sem]) rfl ⟨rfl, hX, hT⟩
    ·cases b1
     ·have er : r = (0, 9, q) := by rw [HER.out, eN]; rfl
      subst er
      clear HER eN
      go_wp2_with fail
      refine (togl_at l0 98 wr).mono ?_
      rintro e w5 ⟨rfl, hb5⟩
      have hX := hX.trans (BelowX.of hb5 (by omega))
      have hT := hT.next hb5
      have z5 := hb5.size
      have c1' := (hb5.cell (p := ⟨g, 1, none⟩) (by show g < _; omega)).trans c1
      clear s0 s1 s2 s3 s4 s5 c0 c1
      go_wp2_with fail
      refine (togl_at l1 98 w5).mono ?_
      rintro e w6 ⟨rfl, hb6⟩
      have hX := hX.trans (BelowX.of hb6 (by omega))
      have hT := hT.next hb6
      go_wp2_with fail
      exact bodyPost_ret (v := .tuple #[.int .u8 0, .int .i64 9]) (by simp [results, Tryz.results109, go_sem]) rfl ⟨rfl, hX, hT⟩
     ·have er : r = (2, 0, q) := by rw [HER.out, eN]; rfl
      subst er
      clear HER eN
      go_wp2_with fail
      refine (togl_at l0 98 wr).mono ?_
      rintro e w5 ⟨rfl, hb5⟩
      have hX := hX.trans (BelowX.of hb5 (by omega))
      have hT := hT.next hb5
      have z5 := hb5.size
      have c1' := (hb5.cell (p := ⟨g, 1, none⟩) (by show g < _; omega)).trans c1
      clear s0 s1 s2 s3 s4 s5 c0 c1
      go_wp2_with fail
      refine (togl_at l1 98 w5).mono ?_
      rintro e w6 ⟨rfl, hb6⟩
      have hX := hX.trans (BelowX.of hb6 (by omega))
      have hT := hT.next hb6
      go_wp2_with fail
      exact bodyPost_ret (v := .tuple #[.int .u8 98, .int .i64 0]) (by simp [results, Tryz.results109, go_sem]) rfl ⟨rfl, hX, hT⟩
   ·-- 6
    obtain ⟨t0, t1, rfl⟩ := list2 HTS.out
    have ekn : ks.length = 2 := HKN.out
    rw [ekn] at hO
    obtain ⟨g, cg, rfl, hgb, hgl⟩ := own5_some hO (by decide)
    have c0 : wr.cell? ⟨g, 0, none⟩ = some (.int .u8 (ltr t0)) := (hO.cellAt 0 (by decide)).trans rfl
    have i0 : inT t0 := HI.out t0 (by simp)
    have c1 : wr.cell? ⟨g, 1, none⟩ = some (.int .u8 (ltr t1)) := (hO.cellAt 1 (by decide)).trans rfl
    have i1 : inT t1 := HI.out t1 (by simp)
    clear hO
    have eN : resT (kidsT 6 [t0, t1]) = nodeT cols 6 v c [t0, t1] := rfl
    have p0 := past_cell c0
    have p1 := past_cell c1
    haveI : Nonempty (Past wr) := ⟨⟨_, Below.refl _ _⟩⟩
    rcases ht : tog t0 t1 with _ | u
    ·have gn := goes_none i0 i1 ht
     have er : r = (0, 9, q) := by rw [HER.out, ← eN]; simp [kidsT, ht, resT]
     subst er
     generalize ltr t0 = l0 at *
     generalize ltr t1 = l1 at *
     clear HER eN
     go_wp2_with fail
     refine wp_region_past (by kernel_rfl) (by kernel_rfl) ?_
     repeat (go_big_quiet_step (first | (go_at_call 151; exact in_past (togl_at l0 l1 _))))
     refine wpQuiet_nil ?_
     rintro w7 ⟨⟨v7, hb7⟩, h7⟩
     obtain rfl : w7 = v7 := h7
     have hX := hX.trans (BelowX.of hb7 (by omega))
     have hT := hT.next hb7
     rw [gn]
     clear p0 p1 c0 c1 s0 s1 s2 s3 s4 s5
     go_wp2_with fail
     exact bodyPost_ret (v := .tuple #[.int .u8 0, .int .i64 9]) (by simp [results, Tryz.results109, go_sem]) rfl ⟨rfl, hX, hT⟩
    ·have gn := goes_type i0 i1 ht
     have nz : (ltr u != 0) = true := by simpa using ltr_ne (t := u)
     have er : r = (2, 0, q) := by rw [HER.out, ← eN]; simp [kidsT, ht, resT]
     subst er
     generalize ltr t0 = l0 at *
     generalize ltr t1 = l1 at *
     generalize hlu : ltr u = lu at *
     have HLU : Hid (ltr u = lu) := hlu
     clear hlu
     clear HER eN
     go_wp2_with fail
     refine wp_region_past (by kernel_rfl) (by kernel_rfl) ?_
     repeat (go_big_quiet_step (first | (go_at_call 151; exact in_past (togl_at l0 l1 _))))
     refine wpQuiet_nil ?_
     rintro w7 ⟨⟨v7, hb7⟩, h7⟩
     obtain rfl : w7 = v7 := h7
     have hX := hX.trans (BelowX.of hb7 (by omega))
     have hT := hT.next hb7
     rw [gn]
     clear p0 p1 c0 c1 s0 s1 s2 s3 s4 s5
     go_wp2_with fail
     exact bodyPost_ret (v := .tuple #[.int .u8 98, .int .i64 0]) (by simp [results, Tryz.results109, go_sem]) rfl ⟨rfl, hX, hT⟩
   ·-- 7
    obtain ⟨t0, t1, rfl⟩ := list2 HTS.out
    have ekn : ks.length = 2 := HKN.out
    rw [ekn] at hO
    obtain ⟨g, cg, rfl, hgb, hgl⟩ := own5_some hO (by decide)
    have c0 : wr.cell? ⟨g, 0, none⟩ = some (.int .u8 (ltr t0)) := (hO.cellAt 0 (by decide)).trans rfl
    have i0 : inT t0 := HI.out t0 (by simp)
    have c1 : wr.cell? ⟨g, 1, none⟩ = some (.int .u8 (ltr t1)) := (hO.cellAt 1 (by decide)).trans rfl
    have i1 : inT t1 := HI.out t1 (by simp)
    clear hO
    have eN : resT (kidsT 7 [t0, t1]) = nodeT cols 7 v c [t0, t1] := rfl
    have p0 := past_cell c0
    have p1 := past_cell c1
    haveI : Nonempty (Past wr) := ⟨⟨_, Below.refl _ _⟩⟩
    rcases ht : tog t0 t1 with _ | u
    ·have gn := goes_none i0 i1 ht
     have er : r = (0, 9, q) := by rw [HER.out, ← eN]; simp [kidsT, ht, resT]
     subst er
     generalize ltr t0 = l0 at *
     generalize ltr t1 = l1 at *
     clear HER eN
     go_wp2_with fail
     refine wp_region_past (by kernel_rfl) (by kernel_rfl) ?_
     repeat (go_big_quiet_step (first | (go_at_call 151; exact in_past (togl_at l0 l1 _))))
     refine wpQuiet_nil ?_
     rintro w7 ⟨⟨v7, hb7⟩, h7⟩
     obtain rfl : w7 = v7 := h7
     have hX := hX.trans (BelowX.of hb7 (by omega))
     have hT := hT.next hb7
     rw [gn]
     clear p0 p1 c0 c1 s0 s1 s2 s3 s4 s5
     go_wp2_with fail
     exact bodyPost_ret (v := .tuple #[.int .u8 0, .int .i64 9]) (by simp [results, Tryz.results109, go_sem]) rfl ⟨rfl, hX, hT⟩
    ·have gn := goes_type i0 i1 ht
     have nz : (ltr u != 0) = true := by simpa using ltr_ne (t := u)
     have er : r = (2, 0, q) := by rw [HER.out, ← eN]; simp [kidsT, ht, resT]
     subst er
     generalize ltr t0 = l0 at *
     generalize ltr t1 = l1 at *
     generalize hlu : ltr u = lu at *
     have HLU : Hid (ltr u = lu) := hlu
     clear hlu
     clear HER eN
     go_wp2_with fail
     refine wp_region_past (by kernel_rfl) (by kernel_rfl) ?_
     repeat (go_big_quiet_step (first | (go_at_call 151; exact in_past (togl_at l0 l1 _))))
     refine wpQuiet_nil ?_
     rintro w7 ⟨⟨v7, hb7⟩, h7⟩
     obtain rfl : w7 = v7 := h7
     have hX := hX.trans (BelowX.of hb7 (by omega))
     have hT := hT.next hb7
     rw [gn]
     clear p0 p1 c0 c1 s0 s1 s2 s3 s4 s5
     go_wp2_with fail
     exact bodyPost_ret (v := .tuple #[.int .u8 98, .int .i64 0]) (by simp [results, Tryz.results109, go_sem]) rfl ⟨rfl, hX, hT⟩
   ·-- 8
    obtain ⟨t0, t1, rfl⟩ := list2 HTS.out
    have ekn : ks.length = 2 := HKN.out
    rw [ekn] at hO
    obtain ⟨g, cg, rfl, hgb, hgl⟩ := own5_some hO (by decide)
    have c0 : wr.cell? ⟨g, 0, none⟩ = some (.int .u8 (ltr t0)) := (hO.cellAt 0 (by decide)).trans rfl
    have i0 : inT t0 := HI.out t0 (by simp)
    have c1 : wr.cell? ⟨g, 1, none⟩ = some (.int .u8 (ltr t1)) := (hO.cellAt 1 (by decide)).trans rfl
    have i1 : inT t1 := HI.out t1 (by simp)
    clear hO
    have eN : resT (kidsT 8 [t0, t1]) = nodeT cols 8 v c [t0, t1] := rfl
    have p0 := past_cell c0
    have p1 := past_cell c1
    haveI : Nonempty (Past wr) := ⟨⟨_, Below.refl _ _⟩⟩
    rcases ht : tog t0 t1 with _ | u
    ·have gn := goes_none i0 i1 ht
     have er : r = (0, 9, q) := by rw [HER.out, ← eN]; simp [kidsT, ht, resT]
     subst er
     generalize ltr t0 = l0 at *
     generalize ltr t1 = l1 at *
     clear HER eN
     go_wp2_with fail
     refine wp_region_past (by kernel_rfl) (by kernel_rfl) ?_
     repeat (go_big_quiet_step (first | (go_at_call 151; exact in_past (togl_at l0 l1 _))))
     refine wpQuiet_nil ?_
     rintro w7 ⟨⟨v7, hb7⟩, h7⟩
     obtain rfl : w7 = v7 := h7
     have hX := hX.trans (BelowX.of hb7 (by omega))
     have hT := hT.next hb7
     rw [gn]
     clear p0 p1 c0 c1 s0 s1 s2 s3 s4 s5
     go_wp2_with fail
     exact bodyPost_ret (v := .tuple #[.int .u8 0, .int .i64 9]) (by simp [results, Tryz.results109, go_sem]) rfl ⟨rfl, hX, hT⟩
    ·have gn := goes_type i0 i1 ht
     have nz : (ltr u != 0) = true := by simpa using ltr_ne (t := u)
     have er : r = (2, 0, q) := by rw [HER.out, ← eN]; simp [kidsT, ht, resT]
     subst er
     generalize ltr t0 = l0 at *
     generalize ltr t1 = l1 at *
     generalize hlu : ltr u = lu at *
     have HLU : Hid (ltr u = lu) := hlu
     clear hlu
     clear HER eN
     go_wp2_with fail
     refine wp_region_past (by kernel_rfl) (by kernel_rfl) ?_
     repeat (go_big_quiet_step (first | (go_at_call 151; exact in_past (togl_at l0 l1 _))))
     refine wpQuiet_nil ?_
     rintro w7 ⟨⟨v7, hb7⟩, h7⟩
     obtain rfl : w7 = v7 := h7
     have hX := hX.trans (BelowX.of hb7 (by omega))
     have hT := hT.next hb7
     rw [gn]
     clear p0 p1 c0 c1 s0 s1 s2 s3 s4 s5
     go_wp2_with fail
     exact bodyPost_ret (v := .tuple #[.int .u8 98, .int .i64 0]) (by simp [results, Tryz.results109, go_sem]) rfl ⟨rfl, hX, hT⟩
   ·-- 9
    obtain ⟨t0, t1, rfl⟩ := list2 HTS.out
    have ekn : ks.length = 2 := HKN.out
    rw [ekn] at hO
    obtain ⟨g, cg, rfl, hgb, hgl⟩ := own5_some hO (by decide)
    have c0 : wr.cell? ⟨g, 0, none⟩ = some (.int .u8 (ltr t0)) := (hO.cellAt 0 (by decide)).trans rfl
    have i0 : inT t0 := HI.out t0 (by simp)
    have c1 : wr.cell? ⟨g, 1, none⟩ = some (.int .u8 (ltr t1)) := (hO.cellAt 1 (by decide)).trans rfl
    have i1 : inT t1 := HI.out t1 (by simp)
    clear hO
    have eN : resT (kidsT 9 [t0, t1]) = nodeT cols 9 v c [t0, t1] := rfl
    have p0 := past_cell c0
    have p1 := past_cell c1
    haveI : Nonempty (Past wr) := ⟨⟨_, Below.refl _ _⟩⟩
    rcases ht : tog t0 t1 with _ | u
    ·have gn := goes_none i0 i1 ht
     have er : r = (0, 9, q) := by rw [HER.out, ← eN]; simp [kidsT, ht, resT]
     subst er
     generalize ltr t0 = l0 at *
     generalize ltr t1 = l1 at *
     clear HER eN
     go_wp2_with fail
     refine wp_region_past (by kernel_rfl) (by kernel_rfl) ?_
     repeat (go_big_quiet_step (first | (go_at_call 151; exact in_past (togl_at l0 l1 _))))
     refine wpQuiet_nil ?_
     rintro w7 ⟨⟨v7, hb7⟩, h7⟩
     obtain rfl : w7 = v7 := h7
     have hX := hX.trans (BelowX.of hb7 (by omega))
     have hT := hT.next hb7
     rw [gn]
     clear p0 p1 c0 c1 s0 s1 s2 s3 s4 s5
     go_wp2_with fail
     exact bodyPost_ret (v := .tuple #[.int .u8 0, .int .i64 9]) (by simp [results, Tryz.results109, go_sem]) rfl ⟨rfl, hX, hT⟩
    ·have gn := goes_type i0 i1 ht
     have nz : (ltr u != 0) = true := by simpa using ltr_ne (t := u)
     have er : r = (2, 0, q) := by rw [HER.out, ← eN]; simp [kidsT, ht, resT]
     subst er
     generalize ltr t0 = l0 at *
     generalize ltr t1 = l1 at *
     generalize hlu : ltr u = lu at *
     have HLU : Hid (ltr u = lu) := hlu
     clear hlu
     clear HER eN
     go_wp2_with fail
     refine wp_region_past (by kernel_rfl) (by kernel_rfl) ?_
     repeat (go_big_quiet_step (first | (go_at_call 151; exact in_past (togl_at l0 l1 _))))
     refine wpQuiet_nil ?_
     rintro w7 ⟨⟨v7, hb7⟩, h7⟩
     obtain rfl : w7 = v7 := h7
     have hX := hX.trans (BelowX.of hb7 (by omega))
     have hT := hT.next hb7
     rw [gn]
     clear p0 p1 c0 c1 s0 s1 s2 s3 s4 s5
     go_wp2_with fail
     exact bodyPost_ret (v := .tuple #[.int .u8 98, .int .i64 0]) (by simp [results, Tryz.results109, go_sem]) rfl ⟨rfl, hX, hT⟩
   ·-- 10
    obtain ⟨t0, t1, rfl⟩ := list2 HTS.out
    have ekn : ks.length = 2 := HKN.out
    rw [ekn] at hO
    obtain ⟨g, cg, rfl, hgb, hgl⟩ := own5_some hO (by decide)
    have c0 : wr.cell? ⟨g, 0, none⟩ = some (.int .u8 (ltr t0)) := (hO.cellAt 0 (by decide)).trans rfl
    have i0 : inT t0 := HI.out t0 (by simp)
    have c1 : wr.cell? ⟨g, 1, none⟩ = some (.int .u8 (ltr t1)) := (hO.cellAt 1 (by decide)).trans rfl
    have i1 : inT t1 := HI.out t1 (by simp)
    clear hO
    have eN : resT (kidsT 10 [t0, t1]) = nodeT cols 10 v c [t0, t1] := rfl
    have p0 := past_cell c0
    have p1 := past_cell c1
    haveI : Nonempty (Past wr) := ⟨⟨_, Below.refl _ _⟩⟩
    rcases ht : tog t0 t1 with _ | u
    ·have gn := goes_none i0 i1 ht
     have er : r = (0, 9, q) := by rw [HER.out, ← eN]; simp [kidsT, ht, resT]
     subst er
     generalize ltr t0 = l0 at *
     generalize ltr t1 = l1 at *
     clear HER eN
     go_wp2_with fail
     refine wp_region_past (by kernel_rfl) (by kernel_rfl) ?_
     repeat (go_big_quiet_step (first | (go_at_call 151; exact in_past (togl_at l0 l1 _))))
     refine wpQuiet_nil ?_
     rintro w7 ⟨⟨v7, hb7⟩, h7⟩
     obtain rfl : w7 = v7 := h7
     have hX := hX.trans (BelowX.of hb7 (by omega))
     have hT := hT.next hb7
     rw [gn]
     clear p0 p1 c0 c1 s0 s1 s2 s3 s4 s5
     go_wp2_with fail
     exact bodyPost_ret (v := .tuple #[.int .u8 0, .int .i64 9]) (by simp [results, Tryz.results109, go_sem]) rfl ⟨rfl, hX, hT⟩
    ·have gn := goes_type i0 i1 ht
     have nz : (ltr u != 0) = true := by simpa using ltr_ne (t := u)
     have er : r = (2, 0, q) := by rw [HER.out, ← eN]; simp [kidsT, ht, resT]
     subst er
     generalize ltr t0 = l0 at *
     generalize ltr t1 = l1 at *
     generalize hlu : ltr u = lu at *
     have HLU : Hid (ltr u = lu) := hlu
     clear hlu
     clear HER eN
     go_wp2_with fail
     refine wp_region_past (by kernel_rfl) (by kernel_rfl) ?_
     repeat (go_big_quiet_step (first | (go_at_call 151; exact in_past (togl_at l0 l1 _))))
     refine wpQuiet_nil ?_
     rintro w7 ⟨⟨v7, hb7⟩, h7⟩
     obtain rfl : w7 = v7 := h7
     have hX := hX.trans (BelowX.of hb7 (by omega))
     have hT := hT.next hb7
     rw [gn]
     clear p0 p1 c0 c1 s0 s1 s2 s3 s4 s5
     go_wp2_with fail
     exact bodyPost_ret (v := .tuple #[.int .u8 98, .int .i64 0]) (by simp [results, Tryz.results109, go_sem]) rfl ⟨rfl, hX, hT⟩
   ·-- 11
    obtain ⟨t0, t1, rfl⟩ := list2 HTS.out
    have ekn : ks.length = 2 := HKN.out
    rw [ekn] at hO
    obtain ⟨g, cg, rfl, hgb, hgl⟩ := own5_some hO (by decide)
    have c0 : wr.cell? ⟨g, 0, none⟩ = some (.int .u8 (ltr t0)) := (hO.cellAt 0 (by decide)).trans rfl
    have i0 : inT t0 := HI.out t0 (by simp)
    have c1 : wr.cell? ⟨g, 1, none⟩ = some (.int .u8 (ltr t1)) := (hO.cellAt 1 (by decide)).trans rfl
    have i1 : inT t1 := HI.out t1 (by simp)
    clear hO
    have eN : resT (kidsT 11 [t0, t1]) = nodeT cols 11 v c [t0, t1] := rfl
    have p0 := past_cell c0
    have p1 := past_cell c1
    haveI : Nonempty (Past wr) := ⟨⟨_, Below.refl _ _⟩⟩
    rcases ht : tog t0 t1 with _ | u
    ·have gn := goes_none i0 i1 ht
     have er : r = (0, 9, q) := by rw [HER.out, ← eN]; simp [kidsT, ht, resT]
     subst er
     generalize ltr t0 = l0 at *
     generalize ltr t1 = l1 at *
     clear HER eN
     go_wp2_with fail
     refine wp_region_past (by kernel_rfl) (by kernel_rfl) ?_
     repeat (go_big_quiet_step (first | (go_at_call 151; exact in_past (togl_at l0 l1 _))))
     refine wpQuiet_nil ?_
     rintro w7 ⟨⟨v7, hb7⟩, h7⟩
     obtain rfl : w7 = v7 := h7
     have hX := hX.trans (BelowX.of hb7 (by omega))
     have hT := hT.next hb7
     rw [gn]
     clear p0 p1 c0 c1 s0 s1 s2 s3 s4 s5
     go_wp2_with fail
     exact bodyPost_ret (v := .tuple #[.int .u8 0, .int .i64 9]) (by simp [results, Tryz.results109, go_sem]) rfl ⟨rfl, hX, hT⟩
    ·have gn := goes_type i0 i1 ht
     have nz : (ltr u != 0) = true := by simpa using ltr_ne (t := u)
     have er : r = (2, 0, q) := by rw [HER.out, ← eN]; simp [kidsT, ht, resT]
     subst er
     generalize ltr t0 = l0 at *
     generalize ltr t1 = l1 at *
     generalize hlu : ltr u = lu at *
     have HLU : Hid (ltr u = lu) := hlu
     clear hlu
     clear HER eN
     go_wp2_with fail
     refine wp_region_past (by kernel_rfl) (by kernel_rfl) ?_
     repeat (go_big_quiet_step (first | (go_at_call 151; exact in_past (togl_at l0 l1 _))))
     refine wpQuiet_nil ?_
     rintro w7 ⟨⟨v7, hb7⟩, h7⟩
     obtain rfl : w7 = v7 := h7
     have hX := hX.trans (BelowX.of hb7 (by omega))
     have hT := hT.next hb7
     rw [gn]
     clear p0 p1 c0 c1 s0 s1 s2 s3 s4 s5
     go_wp2_with fail
     exact bodyPost_ret (v := .tuple #[.int .u8 98, .int .i64 0]) (by simp [results, Tryz.results109, go_sem]) rfl ⟨rfl, hX, hT⟩
   ·-- 12
    obtain ⟨t0, t1, rfl⟩ := list2 HTS.out
    have ekn : ks.length = 2 := HKN.out
    rw [ekn] at hO
    obtain ⟨g, cg, rfl, hgb, hgl⟩ := own5_some hO (by decide)
    have c0 : wr.cell? ⟨g, 0, none⟩ = some (.int .u8 (ltr t0)) := (hO.cellAt 0 (by decide)).trans rfl
    have i0 : inT t0 := HI.out t0 (by simp)
    have c1 : wr.cell? ⟨g, 1, none⟩ = some (.int .u8 (ltr t1)) := (hO.cellAt 1 (by decide)).trans rfl
    have i1 : inT t1 := HI.out t1 (by simp)
    clear hO
    have eN : nodeT cols 12 v c [t0, t1] = resT (allO 3 [t0, t1]) := rfl
    rw [all2] at eN
    have g0 := goes_int i0
    have g1 := goes_int i1
    generalize (tog t0 3).isSome = b0 at *
    generalize (tog t1 3).isSome = b1 at *
    generalize ltr t0 = l0 at *
    generalize ltr t1 = l1 at *
    cases b0
    ·have er : r = (0, 9, q) := by rw [HER.out, eN]; rfl
     subst er
     clear HER eN
     go_wp2_with fail
     refine (togl_at l0 105 wr).mono ?_
     rintro e w5 ⟨rfl, hb5⟩
     have hX := hX.trans (BelowX.of hb5 (by omega))
     have hT := hT.next hb5
     have z5 := hb5.size
     clear s0 s1 s2 s3 s4 s5 c0 c1
     go_wp2_with fail
     exact bodyPost_ret (v := .tuple #[.int .u8 0, .int .i64 9]) (by simp [results, Tryz.results109, go_sem]) rfl ⟨rfl, hX, hT⟩
    ·cases b1
     ·have er : r = (0, 9, q) := by rw [HER.out, eN]; rfl
      subst er
      clear HER eN
      go_wp2_with fail
      refine (togl_at l0 105 wr).mono ?_
      rintro e w5 ⟨rfl, hb5⟩
      have hX := hX.trans (BelowX.of hb5 (by omega))
      have hT := hT.next hb5
      have z5 := hb5.size
      have c1' := (hb5.cell (p := ⟨g, 1, none⟩) (by show g < _; omega)).trans c1
      clear s0 s1 s2 s3 s4 s5 c0 c1
      go_wp2_with fail
      refine (togl_at l1 105 w5).mono ?_
      rintro e w6 ⟨rfl, hb6⟩
      have hX := hX.trans (BelowX.of hb6 (by omega))
      have hT := hT.next hb6
      go_wp2_with fail
      exact bodyPost_ret (v := .tuple #[.int .u8 0, .int .i64 9]) (by simp [results, Tryz.results109, go_sem]) rfl ⟨rfl, hX, hT⟩
     ·have er : r = (3, 0, q) := by rw [HER.out, eN]; rfl
      subst er
      clear HER eN
      go_wp2_with fail
      refine (togl_at l0 105 wr).mono ?_
      rintro e w5 ⟨rfl, hb5⟩
      have hX := hX.trans (BelowX.of hb5 (by omega))
      have hT := hT.next hb5
      have z5 := hb5.size
      have c1' := (hb5.cell (p := ⟨g, 1, none⟩) (by show g < _; omega)).trans c1
      clear s0 s1 s2 s3 s4 s5 c0 c1
      go_wp2_with fail
      refine (togl_at l1 105 w5).mono ?_
      rintro e w6 ⟨rfl, hb6⟩
      have hX := hX.trans (BelowX.of hb6 (by omega))
      have hT := hT.next hb6
      go_wp2_with fail
      exact bodyPost_ret (v := .tuple #[.int .u8 105, .int .i64 0]) (by simp [results, Tryz.results109, go_sem]) rfl ⟨rfl, hX, hT⟩
   ·-- 13
    obtain ⟨t0, t1, rfl⟩ := list2 HTS.out
    have ekn : ks.length = 2 := HKN.out
    rw [ekn] at hO
    obtain ⟨g, cg, rfl, hgb, hgl⟩ := own5_some hO (by decide)
    have c0 : wr.cell? ⟨g, 0, none⟩ = some (.int .u8 (ltr t0)) := (hO.cellAt 0 (by decide)).trans rfl
    have i0 : inT t0 := HI.out t0 (by simp)
    have c1 : wr.cell? ⟨g, 1, none⟩ = some (.int .u8 (ltr t1)) := (hO.cellAt 1 (by decide)).trans rfl
    have i1 : inT t1 := HI.out t1 (by simp)
    clear hO
    have eN : nodeT cols 13 v c [t0, t1] = resT (allO 3 [t0, t1]) := rfl
    rw [all2] at eN
    have g0 := goes_int i0
    have g1 := goes_int i1
    generalize (tog t0 3).isSome = b0 at *
    generalize (tog t1 3).isSome = b1 at *
    generalize ltr t0 = l0 at *
    generalize ltr t1 = l1 at *
    cases b0
    ·have er : r = (0, 9, q) := by rw [HER.out, eN]; rfl
     subst er
     clear HER eN
     go_wp2_with fail
     refine (togl_at l0 105 wr).mono ?_
     rintro e w5 ⟨rfl, hb5⟩
     have hX := hX.trans (BelowX.of hb5 (by omega))
     have hT := hT.next hb5
     have z5 := hb5.size
     clear s0 s1 s2 s3 s4 s5 c0 c1
     go_wp2_with fail
     exact bodyPost_ret (v := .tuple #[.int .u8 0, .int .i64 9]) (by simp [results, Tryz.results109, go_sem]) rfl ⟨rfl, hX, hT⟩
    ·cases b1
     ·have er : r = (0, 9, q) := by rw [HER.out, eN]; rfl
      subst er
      clear HER eN
      go_wp2_with fail
      refine (togl_at l0 105 wr).mono ?_
      rintro e w5 ⟨rfl, hb5⟩
      have hX := hX.trans (BelowX.of hb5 (by omega))
      have hT := hT.next hb5
      have z5 := hb5.size
      have c1' := (hb5.cell (p := ⟨g, 1, none⟩) (by show g < _; omega)).trans c1
      clear s0 s1 s2 s3 s4 s5 c0 c1
      go_wp2_with fail
      refine (togl_at l1 105 w5).mono ?_
      rintro e w6 ⟨rfl, hb6⟩
      have hX := hX.trans (BelowX.of hb6 (by omega))
      have hT := hT.next hb6
      go_wp2_with fail
      exact bodyPost_ret (v := .tuple #[.int .u8 0, .int .i64 9]) (by simp [results, Tryz.results109, go_sem]) rfl ⟨rfl, hX, hT⟩
     ·have er : r = (3, 0, q) := by rw [HER.out, eN]; rfl
      subst er
      clear HER eN
      go_wp2_with fail
      refine (togl_at l0 105 wr).mono ?_
      rintro e w5 ⟨rfl, hb5⟩
      have hX := hX.trans (BelowX.of hb5 (by omega))
      have hT := hT.next hb5
      have z5 := hb5.size
      have c1' := (hb5.cell (p := ⟨g, 1, none⟩) (by show g < _; omega)).trans c1
      clear s0 s1 s2 s3 s4 s5 c0 c1
      go_wp2_with fail
      refine (togl_at l1 105 w5).mono ?_
      rintro e w6 ⟨rfl, hb6⟩
      have hX := hX.trans (BelowX.of hb6 (by omega))
      have hT := hT.next hb6
      go_wp2_with fail
      exact bodyPost_ret (v := .tuple #[.int .u8 105, .int .i64 0]) (by simp [results, Tryz.results109, go_sem]) rfl ⟨rfl, hX, hT⟩
   ·-- 14
    obtain ⟨t0, t1, rfl⟩ := list2 HTS.out
    have ekn : ks.length = 2 := HKN.out
    rw [ekn] at hO
    obtain ⟨g, cg, rfl, hgb, hgl⟩ := own5_some hO (by decide)
    have c0 : wr.cell? ⟨g, 0, none⟩ = some (.int .u8 (ltr t0)) := (hO.cellAt 0 (by decide)).trans rfl
    have i0 : inT t0 := HI.out t0 (by simp)
    have c1 : wr.cell? ⟨g, 1, none⟩ = some (.int .u8 (ltr t1)) := (hO.cellAt 1 (by decide)).trans rfl
    have i1 : inT t1 := HI.out t1 (by simp)
    clear hO
    have eN : nodeT cols 14 v c [t0, t1] = resT (allO 3 [t0, t1]) := rfl
    rw [all2] at eN
    have g0 := goes_int i0
    have g1 := goes_int i1
    generalize (tog t0 3).isSome = b0 at *
    generalize (tog t1 3).isSome = b1 at *
    generalize ltr t0 = l0 at *
    generalize ltr t1 = l1 at *
    cases b0
    ·have er : r = (0, 9, q) := by rw [HER.out, eN]; rfl
     subst er
     clear HER eN
     go_wp2_with fail
     refine (togl_at l0 105 wr).mono ?_
     rintro e w5 ⟨rfl, hb5⟩
     have hX := hX.trans (BelowX.of hb5 (by omega))
     have hT := hT.next hb5
     have z5 := hb5.size
     clear s0 s1 s2 s3 s4 s5 c0 c1
     go_wp2_with fail
     exact bodyPost_ret (v := .tuple #[.int .u8 0, .int .i64 9]) (by simp [results, Tryz.results109, go_sem]) rfl ⟨rfl, hX, hT⟩
    ·cases b1
     ·have er : r = (0, 9, q) := by rw [HER.out, eN]; rfl
      subst er
      clear HER eN
      go_wp2_with fail
      refine (togl_at l0 105 wr).mono ?_
      rintro e w5 ⟨rfl, hb5⟩
      have hX := hX.trans (BelowX.of hb5 (by omega))
      have hT := hT.next hb5
      have z5 := hb5.size
      have c1' := (hb5.cell (p := ⟨g, 1, none⟩) (by show g < _; omega)).trans c1
      clear s0 s1 s2 s3 s4 s5 c0 c1
      go_wp2_with fail
      refine (togl_at l1 105 w5).mono ?_
      rintro e w6 ⟨rfl, hb6⟩
      have hX := hX.trans (BelowX.of hb6 (by omega))
      have hT := hT.next hb6
      go_wp2_with fail
      exact bodyPost_ret (v := .tuple #[.int .u8 0, .int .i64 9]) (by simp [results, Tryz.results109, go_sem]) rfl ⟨rfl, hX, hT⟩
     ·have er : r = (3, 0, q) := by rw [HER.out, eN]; rfl
      subst er
      clear HER eN
      go_wp2_with fail
      refine (togl_at l0 105 wr).mono ?_
      rintro e w5 ⟨rfl, hb5⟩
      have hX := hX.trans (BelowX.of hb5 (by omega))
      have hT := hT.next hb5
      have z5 := hb5.size
      have c1' := (hb5.cell (p := ⟨g, 1, none⟩) (by show g < _; omega)).trans c1
      clear s0 s1 s2 s3 s4 s5 c0 c1
      go_wp2_with fail
      refine (togl_at l1 105 w5).mono ?_
      rintro e w6 ⟨rfl, hb6⟩
      have hX := hX.trans (BelowX.of hb6 (by omega))
      have hT := hT.next hb6
      go_wp2_with fail
      exact bodyPost_ret (v := .tuple #[.int .u8 105, .int .i64 0]) (by simp [results, Tryz.results109, go_sem]) rfl ⟨rfl, hX, hT⟩
   ·-- 15
    obtain ⟨t0, t1, rfl⟩ := list2 HTS.out
    have ekn : ks.length = 2 := HKN.out
    rw [ekn] at hO
    obtain ⟨g, cg, rfl, hgb, hgl⟩ := own5_some hO (by decide)
    have c0 : wr.cell? ⟨g, 0, none⟩ = some (.int .u8 (ltr t0)) := (hO.cellAt 0 (by decide)).trans rfl
    have i0 : inT t0 := HI.out t0 (by simp)
    have c1 : wr.cell? ⟨g, 1, none⟩ = some (.int .u8 (ltr t1)) := (hO.cellAt 1 (by decide)).trans rfl
    have i1 : inT t1 := HI.out t1 (by simp)
    clear hO
    have eN : nodeT cols 15 v c [t0, t1] = resT (allO 4 [t0, t1]) := rfl
    rw [all2] at eN
    have g0 := goes_text i0
    have g1 := goes_text i1
    generalize (tog t0 4).isSome = b0 at *
    generalize (tog t1 4).isSome = b1 at *
    generalize ltr t0 = l0 at *
    generalize ltr t1 = l1 at *
    cases b0
    ·have er : r = (0, 9, q) := by rw [HER.out, eN]; rfl
     subst er
     clear HER eN
     go_wp2_with fail
     refine (togl_at l0 116 wr).mono ?_
     rintro e w5 ⟨rfl, hb5⟩
     have hX := hX.trans (BelowX.of hb5 (by omega))
     have hT := hT.next hb5
     have z5 := hb5.size
     clear s0 s1 s2 s3 s4 s5 c0 c1
     go_wp2_with fail
     exact bodyPost_ret (v := .tuple #[.int .u8 0, .int .i64 9]) (by simp [results, Tryz.results109, go_sem]) rfl ⟨rfl, hX, hT⟩
    ·cases b1
     ·have er : r = (0, 9, q) := by rw [HER.out, eN]; rfl
      subst er
      clear HER eN
      go_wp2_with fail
      refine (togl_at l0 116 wr).mono ?_
      rintro e w5 ⟨rfl, hb5⟩
      have hX := hX.trans (BelowX.of hb5 (by omega))
      have hT := hT.next hb5
      have z5 := hb5.size
      have c1' := (hb5.cell (p := ⟨g, 1, none⟩) (by show g < _; omega)).trans c1
      clear s0 s1 s2 s3 s4 s5 c0 c1
      go_wp2_with fail
      refine (togl_at l1 116 w5).mono ?_
      rintro e w6 ⟨rfl, hb6⟩
      have hX := hX.trans (BelowX.of hb6 (by omega))
      have hT := hT.next hb6
      go_wp2_with fail
      exact bodyPost_ret (v := .tuple #[.int .u8 0, .int .i64 9]) (by simp [results, Tryz.results109, go_sem]) rfl ⟨rfl, hX, hT⟩
     ·have er : r = (4, 0, q) := by rw [HER.out, eN]; rfl
      subst er
      clear HER eN
      go_wp2_with fail
      refine (togl_at l0 116 wr).mono ?_
      rintro e w5 ⟨rfl, hb5⟩
      have hX := hX.trans (BelowX.of hb5 (by omega))
      have hT := hT.next hb5
      have z5 := hb5.size
      have c1' := (hb5.cell (p := ⟨g, 1, none⟩) (by show g < _; omega)).trans c1
      clear s0 s1 s2 s3 s4 s5 c0 c1
      go_wp2_with fail
      refine (togl_at l1 116 w5).mono ?_
      rintro e w6 ⟨rfl, hb6⟩
      have hX := hX.trans (BelowX.of hb6 (by omega))
      have hT := hT.next hb6
      go_wp2_with fail
      exact bodyPost_ret (v := .tuple #[.int .u8 116, .int .i64 0]) (by simp [results, Tryz.results109, go_sem]) rfl ⟨rfl, hX, hT⟩
   ·-- 16
    have er : r = (2, 0, q) := HER.out
    subst er
    clear HER
    go_wp2_with fail
    exact bodyPost_ret (v := .tuple #[.int .u8 98, .int .i64 0]) (by simp [results, Tryz.results109, go_sem]) rfl ⟨rfl, hX, hT⟩
   ·-- 17
    obtain ⟨t0, t1, t2, rfl⟩ := list3 HTS.out
    have ekn : ks.length = 3 := HKN.out
    rw [ekn] at hO
    obtain ⟨g, cg, rfl, hgb, hgl⟩ := own5_some hO (by decide)
    have c0 : wr.cell? ⟨g, 0, none⟩ = some (.int .u8 (ltr t0)) := (hO.cellAt 0 (by decide)).trans rfl
    have i0 : inT t0 := HI.out t0 (by simp)
    have c1 : wr.cell? ⟨g, 1, none⟩ = some (.int .u8 (ltr t1)) := (hO.cellAt 1 (by decide)).trans rfl
    have i1 : inT t1 := HI.out t1 (by simp)
    have c2 : wr.cell? ⟨g, 2, none⟩ = some (.int .u8 (ltr t2)) := (hO.cellAt 2 (by decide)).trans rfl
    have i2 : inT t2 := HI.out t2 (by simp)
    clear hO
    have eN : resT (kidsT 17 [t0, t1, t2]) = nodeT cols 17 v c [t0, t1, t2] := rfl
    have p0 := past_cell c1
    have p1 := past_cell c2
    haveI : Nonempty (Past wr) := ⟨⟨_, Below.refl _ _⟩⟩
    have g0 := goes_bool i0
    rcases ht : tog t1 t2 with _ | u
    ·have gn := goes_none i1 i2 ht
     have er : r = (0, 9, q) := by rw [HER.out, ← eN]; simp [kidsT, ht, resT]
     subst er
     generalize ltr t0 = l0 at *
     generalize ltr t1 = l1 at *
     generalize ltr t2 = l2 at *
     clear HER eN g0
     go_wp2_with fail
     refine wp_region_past (by kernel_rfl) (by kernel_rfl) ?_
     repeat (go_big_quiet_step (first | (go_at_call 151; exact in_past (togl_at l1 l2 _))))
     refine wpQuiet_nil ?_
     rintro w7 ⟨⟨v7, hb7⟩, h7⟩
     obtain rfl : w7 = v7 := h7
     have hX := hX.trans (BelowX.of hb7 (by omega))
     have hT := hT.next hb7
     rw [gn]
     clear p0 p1 c0 c1 c2 s0 s1 s2 s3 s4 s5
     go_wp2_with fail
     exact bodyPost_ret (v := .tuple #[.int .u8 0, .int .i64 9]) (by simp [results, Tryz.results109, go_sem]) rfl ⟨rfl, hX, hT⟩
    ·have gn := goes_type i1 i2 ht
     have nz : (ltr u != 0) = true := by simpa using ltr_ne (t := u)
     have er : r = (if (tog t0 2).isSome then (u, 0, q) else (0, 9, q)) := by
      rw [HER.out, ← eN]
      have : kidsT 17 [t0, t1, t2] = if (tog t0 2).isSome then tog t1 t2 else none := rfl
      rw [this, ht]
      cases (tog t0 2).isSome <;> rfl
     generalize (tog t0 2).isSome = b0 at *
     generalize ltr t0 = l0 at *
     generalize ltr t1 = l1 at *
     generalize ltr t2 = l2 at *
     generalize hlu : ltr u = lu at *
     have HLU : Hid (ltr u = lu) := hlu
     clear hlu HER eN
     cases b0
     all_goals
      simp only [if_true, if_false, Bool.false_eq_true] at er
      subst er
      go_wp2_with fail
      refine wp_region_past (by kernel_rfl) (by kernel_rfl) ?_
      repeat (go_big_quiet_step (first | (go_at_call 151; exact in_past (togl_at l1 l2 _))))
      refine wpQuiet_nil ?_
      rintro w7 ⟨⟨v7, hb7⟩, h7⟩
      obtain rfl : w7 = v7 := h7
      have hX := hX.trans (BelowX.of hb7 (by omega))
      have hT := hT.next hb7
      have z7 := hb7.size
      rw [gn]
      have c0' := (hb7.cell (p := ⟨g, 0, none⟩) (by show g < _; omega)).trans c0
      clear p0 p1 c0 c1 c2 s0 s1 s2 s3 s4 s5
      go_wp2_with fail
      refine (togl_at l0 98 w7).mono ?_
      rintro e w8 ⟨rfl, hb8⟩
      have hX := hX.trans (BelowX.of hb8 (by omega))
      have hT := hT.next hb8
      go_wp2_with fail
     ·exact bodyPost_ret (v := .tuple #[.int .u8 0, .int .i64 9]) (by simp [results, Tryz.results109, go_sem]) rfl ⟨rfl, hX, hT⟩
     ·exact bodyPost_ret (v := .tuple #[.int .u8 lu, .int .i64 0]) (by simp [results, Tryz.results109, go_sem]) rfl ⟨by rw [← HLU.out]; rfl, hX, hT⟩
   ·-- 18
    obtain ⟨t0, t1, rfl⟩ := list2 HTS.out
    have ekn : ks.length = 2 := HKN.out
    rw [ekn] at hO
    obtain ⟨g, cg, rfl, hgb, hgl⟩ := own5_some hO (by decide)
    have c0 : wr.cell? ⟨g, 0, none⟩ = some (.int .u8 (ltr t0)) := (hO.cellAt 0 (by decide)).trans rfl
    have i0 : inT t0 := HI.out t0 (by simp)
    have c1 : wr.cell? ⟨g, 1, none⟩ = some (.int .u8 (ltr t1)) := (hO.cellAt 1 (by decide)).trans rfl
    have i1 : inT t1 := HI.out t1 (by simp)
    clear hO
    have eN : resT (kidsT 18 [t0, t1]) = nodeT cols 18 v c [t0, t1] := rfl
    have p0 := past_cell c0
    have p1 := past_cell c1
    haveI : Nonempty (Past wr) := ⟨⟨_, Below.refl _ _⟩⟩
    rcases ht : tog t0 t1 with _ | u
    ·have gn := goes_none i0 i1 ht
     have er : r = (0, 9, q) := by rw [HER.out, ← eN]; simp [kidsT, ht, resT]
     subst er
     generalize ltr t0 = l0 at *
     generalize ltr t1 = l1 at *
     clear HER eN
     go_wp2_with fail
     refine wp_region_past (by kernel_rfl) (by kernel_rfl) ?_
     repeat (go_big_quiet_step (first | (go_at_call 151; exact in_past (togl_at l0 l1 _))))
     refine wpQuiet_nil ?_
     rintro w7 ⟨⟨v7, hb7⟩, h7⟩
     obtain rfl : w7 = v7 := h7
     have hX := hX.trans (BelowX.of hb7 (by omega))
     have hT := hT.next hb7
     rw [gn]
     clear p0 p1 c0 c1 s0 s1 s2 s3 s4 s5
     go_wp2_with fail
     exact bodyPost_ret (v := .tuple #[.int .u8 0, .int .i64 9]) (by simp [results, Tryz.results109, go_sem]) rfl ⟨rfl, hX, hT⟩
    ·have gn := goes_type i0 i1 ht
     have nz : (ltr u != 0) = true := by simpa using ltr_ne (t := u)
     have er : r = (u, 0, q) := by rw [HER.out, ← eN]; simp [kidsT, ht, resT]
     subst er
     generalize ltr t0 = l0 at *
     generalize ltr t1 = l1 at *
     generalize hlu : ltr u = lu at *
     have HLU : Hid (ltr u = lu) := hlu
     clear hlu
     clear HER eN
     go_wp2_with fail
     refine wp_region_past (by kernel_rfl) (by kernel_rfl) ?_
     repeat (go_big_quiet_step (first | (go_at_call 151; exact in_past (togl_at l0 l1 _))))
     refine wpQuiet_nil ?_
     rintro w7 ⟨⟨v7, hb7⟩, h7⟩
     obtain rfl : w7 = v7 := h7
     have hX := hX.trans (BelowX.of hb7 (by omega))
     have hT := hT.next hb7
     rw [gn]
     clear p0 p1 c0 c1 s0 s1 s2 s3 s4 s5
     go_wp2_with fail
     exact bodyPost_ret (v := .tuple #[.int .u8 lu, .int .i64 0]) (by simp [results, Tryz.results109, go_sem]) rfl ⟨by rw [← HLU.out]; rfl, hX, hT⟩
theorem typeL_any {cols : List Int} (hcols : colsB cols = true) : ∀ x, TypeLAt cols x := Ex.ind fun k v c ks ih => typeL_at cols hcols k v c ks ih
end Go.Proofs.YtfojonhblblbjaaGreat
/- The walk of the document's TypeOf. -/
namespace Go.Proofs.YtfojonhblblbjaaGreat
open Go.RowKit

set_option maxHeartbeats 2000000 in
theorem refType_at (cols : List Int) (x : Ex) (ca : Option Addr) (ccap : Nat) (a : Option Addr) (cap : Nat) (w : World) (hk : KsAt w.heap.size w a x.ks) (hc : IsAt w.heap.size w ca cols) :
  Calls Tryz.prog 73 #[.slice ca cols.length ccap, exV x.k x.v x.c a x.ks.length cap] w fun e w' => e = .returned (.tuple #[.int .i64 (typeTop cols x).1, .int .i64 (typeTop cols x).2]) ∧ Below w.heap.size w w' := by
 have hl := hc.1
 unfold maxLen at hl
 generalize hr : typeTop cols x = r
 have HR : Hid (typeTop cols x = r) := hr
 clear hr
 by_cases h16 : 16 < cols.length
 ·have er : r = (0, 5) := by rw [← HR.out, typeTop, if_pos h16]
  subst er
  clear HR
  go_enter Tryz.func73, Tryz.ntmps73
  go_wp2_with fail
  exact bodyPost_ret (v := .tuple #[.int .i64 0, .int .i64 5]) (by simp [results, Tryz.results73, go_sem]) rfl ⟨rfl, (Below.refl _ _).alloc (Nat.le_refl _) _⟩
 go_enter Tryz.func73, Tryz.ntmps73
 go_wp2_with fail
 have S0 := Six.new w x.k x.v x.c a x.ks.length cap 27
 have hal : Below w.heap.size w (w.alloc (.cells #[.int .i64 x.k, .int .i64 x.v.1, .int .i64 x.v.2.1, .string x.v.2.2, .int .i64 x.c, .slice a x.ks.length cap] 27)) := (Below.refl _ _).alloc (Nat.le_refl _) _
 have z0 : w.heap.size < (w.alloc (.cells #[.int .i64 x.k, .int .i64 x.v.1, .int .i64 x.v.2.1, .string x.v.2.2, .int .i64 x.c, .slice a x.ks.length cap] 27)).heap.size := by simp
 generalize w.alloc (.cells #[.int .i64 x.k, .int .i64 x.v.1, .int .i64 x.v.2.1, .string x.v.2.2, .int .i64 x.c, .slice a x.ks.length cap] 27) = w0 at *
 go_loopw [16] (fun i wr => ∃ j : Nat, j ≤ cols.length ∧ i = .int .i64 j ∧ Hid (colsB cols = colsB (cols.drop j)) ∧ wr = w0) (fun i _ => cols.length - (intOf i).toNat)
 case atStart => exact ⟨0, Nat.zero_le _, rfl, rfl, rfl⟩
 case round =>
  obtain ⟨j, hj, rfl, HE, rfl⟩ := hrel
  by_cases hlt : j < cols.length
  ·obtain ⟨b, off, rfl, hbl, c⟩ := (hc.next hal (Nat.le_refl _)).elem hlt
   by_cases g1 : cols[j] < 1
   ·have er : r = (0, 1) := by
     rw [← HR.out, typeTop, if_neg h16, HE.out, colsB_no cols j hlt (.inl g1), if_pos rfl]
    subst er
    clear HR HE
    go_wp2_with fail
    exact bodyPost_ret (v := .tuple #[.int .i64 0, .int .i64 1]) (by simp [results, Tryz.results73, go_sem]) rfl ⟨rfl, hal⟩
   by_cases g2 : 4 < cols[j]
   ·have er : r = (0, 1) := by
     rw [← HR.out, typeTop, if_neg h16, HE.out, colsB_no cols j hlt (.inr g2), if_pos rfl]
    subst er
    clear HR HE
    go_wp2_with fail
    exact bodyPost_ret (v := .tuple #[.int .i64 0, .int .i64 1]) (by simp [results, Tryz.results73, go_sem]) rfl ⟨rfl, hal⟩
   have HC : Hid (colsB (cols.drop j) = colsB (cols.drop (j + 1))) := colsB_next cols j hlt g1 g2
   go_wp2_with fail
   go_roundw
   case rel => exact ⟨j + 1, by omega, by go_num, HE.out.trans HC.out, trivial⟩
   case measure => simp [intOf]; omega
  ·have hcb : colsB cols = true := by rw [HE.out, colsB_end cols j (by omega)]
   have er : r = ((typeX cols x 0 1).1, (typeX cols x 0 1).2.1) := by rw [← HR.out, typeTop_of (by omega) hcb]
   have HI : Hid ((typeX cols x 0 1).2.1 = 0 → inT (typeX cols x 0 1).1) := fun h =>
    typP_in (colsB_at hcb) x _ ((typeX_ok cols x 0 1 (typeX cols x 0 1).1 (typeX cols x 0 1).2.2).1 (Prod.ext rfl (Prod.ext h rfl))).1
   have HZ : Hid (¬ (typeX cols x 0 1).2.1 = 0 → (typeX cols x 0 1).1 = 0) := typeX_zero cols x 0 1
   have T0 : TyC (wr.alloc (.cells #[.slice ca cols.length ccap, .int .i64 0] 143)) wr.heap.size ca cols.length ccap 0 := ⟨by simp, by simp, by simp, by simp⟩
   have hal2 : Below wr.heap.size wr (wr.alloc (.cells #[.slice ca cols.length ccap, .int .i64 0] 143)) := (Below.refl _ _).alloc (Nat.le_refl _) _
   have con := typeL_any hcb x w.heap.size wr.heap.size ca ccap a cap 0 1 _ (KsAt.next (chain hal hal2) (Nat.le_refl _) hk) (hc.next (chain hal hal2) (Nat.le_refl _)) hal.size T0 (by omega) (by omega) (by omega) (by omega)
   generalize typeX cols x 0 1 = ty at *
   subst er
   clear HR HE hcb
   obtain ⟨s0, s1, s2, s3, s4, s5⟩ := S0
   simp only [Nat.zero_add] at s1 s2 s3 s4 s5
   obtain ⟨t1, t2, t3⟩ := ty
   go_wp2_with fail
   refine con.mono ?_
   rintro e w5 ⟨rfl, hX, _⟩
   have hb5 := (chain hal hal2).trans (hX.below hal.size)
   clear con s0 s1 s2 s3 s4 s5 hX T0 hal2
   by_cases he : t2 = 0
   ·subst he
    have hin : inT t1 := HI.out rfl
    have el : lv (t1, 0, t3) = ltr t1 := rfl
    rw [el]
    clear HI HZ el
    obtain ⟨n, rfl⟩ : ∃ n : Nat, t1 = n := ⟨t1.toNat, by unfold inT at hin; omega⟩
    have hn : 1 ≤ n ∧ n ≤ 4 := by unfold inT at hin; omega
    have HIn : Hid (inT (n : Int)) := hin
    clear hin
    go_wp2_with fail
    go_loopw [10] (fun i wr => ∃ j : Nat, 1 ≤ j ∧ j ≤ n ∧ i = .int .i64 j ∧ Below w.heap.size w wr) (fun i _ => n - (intOf i).toNat)
    case atStart => exact ⟨1, by omega, by omega, rfl, hb5⟩
    case round =>
     obtain ⟨j, hj1, hjn, rfl, hb⟩ := hrel
     have HJ : Hid (inT (j : Int)) := by show inT _; unfold inT; omega
     by_cases e : j = n
     ·subst e
      go_wp2_with fail
      refine (letter_at (j : Int) _ HJ.out).mono ?_
      rintro e w7 ⟨rfl, hb7⟩
      have hb7' := chain hb hb7
      go_wp2_with fail
      exact bodyPost_ret (v := .tuple #[.int .i64 j, .int .i64 0]) (by simp [results, Tryz.results73, go_sem]) rfl ⟨rfl, hb7'⟩
     ·have hne : (ltr (j : Int) == ltr (n : Int)) = false := by
       have : ¬ ltr (j : Int) = ltr (n : Int) := fun q => e (by have := ltr_inj HJ.out HIn.out q; omega)
       simpa using this
      go_wp2_with fail
      refine (letter_at (j : Int) _ HJ.out).mono ?_
      rintro e w7 ⟨rfl, hb7⟩
      have hb7' := chain hb hb7
      go_wp2_with fail
      go_roundw
      case rel => exact ⟨j + 1, by omega, by omega, by go_num, hb7'⟩
      case measure => simp [intOf]; omega
   ·have ez : t1 = 0 := HZ.out he
    subst ez
    have q' : (t2 != 0) = true := by simpa using he
    clear HI HZ
    go_wp2_with fail
    exact bodyPost_ret (v := .tuple #[.int .i64 0, .int .i64 t2]) (by simp [results, Tryz.results73, go_sem]) rfl ⟨rfl, hb5⟩
end Go.Proofs.YtfojonhblblbjaaGreat
/- The walk of the document's Fits. -/
namespace Go.Proofs.YtfojonhblblbjaaGreat
open Go.RowKit

set_option maxHeartbeats 2000000 in
theorem refFits_at (cols : List Int) (row : List Vl) (ca : Option Addr) (ccap : Nat) (ra : Option Addr) (rcap : Nat) (w : World) (hc : IsAt w.heap.size w ca cols) (hs : SlAt w ra row) :
  Calls Tryz.prog 75 #[.slice ca cols.length ccap, .slice ra row.length rcap] w fun e w' => e = .returned (.int .i64 (fitsL cols row)) ∧ Below w.heap.size w w' := by
 have hl := hs.1
 unfold maxLen at hl
 generalize hr : fitsL cols row = r
 have HR : Hid (fitsL cols row = r) := hr
 clear hr
 by_cases hlen : row.length = cols.length
 ·have HG : Hid (fitsG cols row = r) := by show fitsG cols row = r; rw [← HR.out, fitsL, if_neg (by simp [hlen])]
  have HL : Hid (row.length = cols.length) := hlen
  have q : ((cols.length : Int) != (row.length : Int)) = false := by simp; omega
  clear HR hlen
  go_enter Tryz.func75, Tryz.ntmps75
  go_wp2_with fail
  go_loopw [14] (fun i wr => ∃ j : Nat, j ≤ row.length ∧ i = .int .i64 j ∧ Hid (fitsG cols row = fitsG (cols.drop j) (row.drop j)) ∧ Below w.heap.size w wr) (fun i _ => row.length - (intOf i).toNat)
  case atStart => exact ⟨0, Nat.zero_le _, rfl, rfl, Below.refl _ _⟩
  case round =>
   obtain ⟨j, hj, rfl, HE, hb⟩ := hrel
   have hz := hb.size
   by_cases hlt : j < row.length
   ·have hlt' : j < cols.length := by have := HL.out; omega
    obtain ⟨b, off, rfl, hbl, r0, r1, r2⟩ := (hs.next hb).elem hlt
    obtain ⟨b', off', rfl, hbl', c0⟩ := (hc.next hb (Nat.le_refl _)).elem hlt'
    generalize hv : row[j] = v at *
    generalize hcj : cols[j] = cj at *
    have HV : Hid (row[j] = v) := hv
    have HC : Hid (cols[j] = cj) := hcj
    clear hv hcj
    obtain ⟨k, n, s⟩ := v
    go_wp2_with fail
    refine (refWrong_any _ _ _ _).mono ?_
    rintro e w1 ⟨rfl, hb1⟩
    have hb1' := chain hb hb1
    have d0 := (hb1.cell (p := ⟨b, off + j * 3, none⟩) hbl).trans r0
    have c1 := (hb1.cell (p := ⟨b', off' + j, none⟩) (by show b' < _; omega)).trans c0
    clear r0 r1 r2 c0
    by_cases hw : wrongF k n s = 0
    ·rw [hw]
     have HW : Hid (wrongP row[j] = 0) := by show wrongP row[j] = 0; rw [HV.out]; exact hw
     clear hw
     have p0 := past_cell d0
     have p1 := past_cell c1
     haveI : Nonempty (Past w1) := ⟨⟨_, Below.refl _ _⟩⟩
     by_cases kc : k = cj
     ·subst kc
      have HN : Hid (fitsG (cols.drop j) (row.drop j) = fitsG (cols.drop (j + 1)) (row.drop (j + 1))) := fitsG_next cols row j hlt hlt' HW.out (.inr (by rw [HV.out, HC.out]))
      go_wp2_with fail
      refine wp_region_past (by kernel_rfl) (by kernel_rfl) ?_
      repeat (go_big_quiet_step (fail))
      refine wpQuiet_nil ?_
      rintro w2 ⟨⟨v2, hb2⟩, h2⟩
      obtain rfl : w2 = v2 := h2
      clear p0 p1 d0 c1
      go_wp2_with fail
      go_roundw
      case rel => exact ⟨j + 1, by omega, by go_num, HE.out.trans HN.out, chain hb1' hb2⟩
      case measure => simp [intOf]; omega
     have q2 : (k != cj) = true := by simpa using kc
     by_cases k1 : k = 1
     ·subst k1
      have HN : Hid (fitsG (cols.drop j) (row.drop j) = fitsG (cols.drop (j + 1)) (row.drop (j + 1))) := fitsG_next cols row j hlt hlt' HW.out (.inl (by rw [HV.out]))
      go_wp2_with fail
      refine wp_region_past (by kernel_rfl) (by kernel_rfl) ?_
      repeat (go_big_quiet_step (fail))
      refine wpQuiet_nil ?_
      rintro w2 ⟨⟨v2, hb2⟩, h2⟩
      obtain rfl : w2 = v2 := h2
      clear p0 p1 d0 c1
      go_wp2_with fail
      go_roundw
      case rel => exact ⟨j + 1, by omega, by go_num, HE.out.trans HN.out, chain hb1' hb2⟩
      case measure => simp [intOf]; omega
     have q1 : (k != 1) = true := by simpa using k1
     have er : r = 9 := by rw [← HG.out, HE.out, fitsG_type cols row j hlt hlt' HW.out (by rw [HV.out]; exact k1) (by rw [HV.out, HC.out]; exact kc)]
     subst er
     clear HG HE
     go_wp2_with fail
     refine wp_region_past (by kernel_rfl) (by kernel_rfl) ?_
     repeat (go_big_quiet_step (fail))
     refine wpQuiet_nil ?_
     rintro w2 ⟨⟨v2, hb2⟩, h2⟩
     obtain rfl : w2 = v2 := h2
     clear p0 p1 d0 c1
     go_wp2_with fail
     go_ret
     exact ⟨rfl, chain hb1' hb2⟩
    ·have er : r = wrongF k n s := by rw [← HG.out, HE.out, fitsG_wrong cols row j hlt hlt' (by rw [HV.out]; exact hw), HV.out]; rfl
     subst er
     clear HG HE
     have q3 : (wrongF k n s != 0) = true := by simpa using hw
     go_wp2_with fail
     go_ret
     exact ⟨rfl, hb1'⟩
   ·have er : r = 0 := by rw [← HG.out, HE.out, fitsG_end cols row j (by omega)]
    subst er
    clear HG HE
    go_wp2_with fail
    go_ret
    exact ⟨rfl, hb⟩
 ·have er : r = 8 := by rw [← HR.out, fitsL, if_pos hlen]
  subst er
  have q : ((cols.length : Int) != (row.length : Int)) = true := by simp; omega
  clear HR
  go_enter Tryz.func75, Tryz.ntmps75
  go_wp2_with fail
  go_ret
  exact ⟨rfl, Below.refl _ _⟩
end Go.Proofs.YtfojonhblblbjaaGreat
/- The walk of the document's answer, of right values: Reckon. -/
namespace Go.Proofs.YtfojonhblblbjaaGreat
open Go.RowKit

theorem quo_neg (A : Int) (h : 0 < A) : wrap64 (-Int.tdiv 1000000000000000 A) = -(1000000000000000 / A) := by
 have e : Int.tdiv 1000000000000000 A = 1000000000000000 / A := Int.tdiv_eq_ediv_of_nonneg (by omega)
 have h1 : 0 ≤ 1000000000000000 / A := Int.ediv_nonneg (by omega) (by omega)
 have h2 : 1000000000000000 / A ≤ 1000000000000000 := Int.ediv_le_self _ (by omega)
 rw [e]
 generalize 1000000000000000 / A = D at *
 unfold wrap64
 omega

set_option maxHeartbeats 400000 in
theorem refAbs_any (n : Int) (w : World) (h0 : -1000000000000000 ≤ n) (h1 : n ≤ 1000000000000000) :
  Calls Tryz.prog 152 #[.int .i64 n] w fun e w' => e = .returned (.int .i64 (n.natAbs : Int)) ∧ w' = w := by
 by_cases h : n < 0
 ·go_enter Tryz.func152, Tryz.ntmps152
  go_wp2
  go_ret
  exact ⟨ret_int (by omega), rfl⟩
 ·go_enter Tryz.func152, Tryz.ntmps152
  go_wp2
  go_ret
  exact ⟨ret_int (by omega), rfl⟩

set_option maxHeartbeats 1000000 in
theorem refRec_add_in (c n n' : Int) (s s' : ByteArray) (w : World) (h1 : ¬ 1000000000000000 < n + n') (h2 : ¬ n + n' < -1000000000000000) (hc : c = 43) :
  Calls Tryz.prog 118 #[.int .i32 c, .agg #[.int .i64 3, .int .i64 n, .string s], .agg #[.int .i64 3, .int .i64 n', .string s']] w fun e w' => e = .returned (.agg #[.int .i64 3, .int .i64 (n + n'), .string ⟨#[]⟩]) ∧ Below w.heap.size w w' := by
 subst hc
 have A0 := ((Box.new w (.int .i64 3) (.int .i64 n) (.string s) 24).alloc (.cells #[.int .i64 3, .int .i64 n', .string s'] 24)).alloc (.cells #[.int .i64 0, .int .i64 0, .string ⟨#[]⟩] 24)
 have B0 := (Box.new (w.alloc (.cells #[.int .i64 3, .int .i64 n, .string s] 24)) (.int .i64 3) (.int .i64 n') (.string s') 24).alloc (.cells #[.int .i64 0, .int .i64 0, .string ⟨#[]⟩] 24)
 have R0 := Box.new ((w.alloc (.cells #[.int .i64 3, .int .i64 n, .string s] 24)).alloc (.cells #[.int .i64 3, .int .i64 n', .string s'] 24)) (.int .i64 0) (.int .i64 0) (.string ⟨#[]⟩) 24
 have Z0 : Below w.heap.size w (((w.alloc (.cells #[.int .i64 3, .int .i64 n, .string s] 24)).alloc (.cells #[.int .i64 3, .int .i64 n', .string s'] 24)).alloc (.cells #[.int .i64 0, .int .i64 0, .string ⟨#[]⟩] 24)) := (((Below.refl _ _).alloc (Nat.le_refl _) _).alloc (by simp) _).alloc (by simp; omega) _
 simp only [World.size_alloc] at B0 R0
 go_enter Tryz.func118, Tryz.ntmps118
 go_wp2_with fail
 generalize (((w.alloc (.cells #[.int .i64 3, .int .i64 n, .string s] 24)).alloc (.cells #[.int .i64 3, .int .i64 n', .string s'] 24)).alloc (.cells #[.int .i64 0, .int .i64 0, .string ⟨#[]⟩] 24)) = W at *
 haveI : Nonempty (Past W) := ⟨⟨W, Below.refl _ _⟩⟩
 have x1 := past_cell A0.c1
 have y1 := past_cell B0.c1
 refine wp_region_past (by kernel_rfl) (by kernel_rfl) ?_
 repeat (go_big_quiet_step (fail))
 refine wpQuiet_nil ?_
 rintro _ ⟨⟨w1, hb1⟩, rfl⟩
 have R1 := R0.next hb1
 have Z1 := chain Z0 hb1
 clear A0 B0 R0 Z0 x1 y1 hb1
 have ⟨r0, r1, r2, r3, r4, r5, r6⟩ := R1
 go_wp2_with fail
 exact bodyPost_ret (v := .agg #[.int .i64 3, .int .i64 (n + n'), .string ⟨#[]⟩]) (by simp [results, Tryz.results118, go_sem, r1, r2, r3]) rfl ⟨rfl, below_set3 Z1 (by omega)⟩

set_option maxHeartbeats 1000000 in
theorem refRec_add_gt (c n n' : Int) (s s' : ByteArray) (w : World) (b : n + n' ≤ 4000000000000000) (h1 : 1000000000000000 < n + n') (hc : c = 43) :
  Calls Tryz.prog 118 #[.int .i32 c, .agg #[.int .i64 3, .int .i64 n, .string s], .agg #[.int .i64 3, .int .i64 n', .string s']] w fun e w' => e = .returned (.agg #[.int .i64 1, .int .i64 0, .string ⟨#[]⟩]) ∧ Below w.heap.size w w' := by
 subst hc
 have A0 := ((Box.new w (.int .i64 3) (.int .i64 n) (.string s) 24).alloc (.cells #[.int .i64 3, .int .i64 n', .string s'] 24)).alloc (.cells #[.int .i64 0, .int .i64 0, .string ⟨#[]⟩] 24)
 have B0 := (Box.new (w.alloc (.cells #[.int .i64 3, .int .i64 n, .string s] 24)) (.int .i64 3) (.int .i64 n') (.string s') 24).alloc (.cells #[.int .i64 0, .int .i64 0, .string ⟨#[]⟩] 24)
 have R0 := Box.new ((w.alloc (.cells #[.int .i64 3, .int .i64 n, .string s] 24)).alloc (.cells #[.int .i64 3, .int .i64 n', .string s'] 24)) (.int .i64 0) (.int .i64 0) (.string ⟨#[]⟩) 24
 have Z0 : Below w.heap.size w (((w.alloc (.cells #[.int .i64 3, .int .i64 n, .string s] 24)).alloc (.cells #[.int .i64 3, .int .i64 n', .string s'] 24)).alloc (.cells #[.int .i64 0, .int .i64 0, .string ⟨#[]⟩] 24)) := (((Below.refl _ _).alloc (Nat.le_refl _) _).alloc (by simp) _).alloc (by simp; omega) _
 simp only [World.size_alloc] at B0 R0
 go_enter Tryz.func118, Tryz.ntmps118
 go_wp2_with fail
 generalize (((w.alloc (.cells #[.int .i64 3, .int .i64 n, .string s] 24)).alloc (.cells #[.int .i64 3, .int .i64 n', .string s'] 24)).alloc (.cells #[.int .i64 0, .int .i64 0, .string ⟨#[]⟩] 24)) = W at *
 haveI : Nonempty (Past W) := ⟨⟨W, Below.refl _ _⟩⟩
 have x1 := past_cell A0.c1
 have y1 := past_cell B0.c1
 refine wp_region_past (by kernel_rfl) (by kernel_rfl) ?_
 repeat (go_big_quiet_step (fail))
 refine wpQuiet_nil ?_
 rintro _ ⟨⟨w1, hb1⟩, rfl⟩
 have R1 := R0.next hb1
 have Z1 := chain Z0 hb1
 clear A0 B0 R0 Z0 x1 y1 hb1
 have ⟨r0, r1, r2, r3, r4, r5, r6⟩ := R1
 go_wp2_with fail
 refine (refNull_any _).mono ?_
 rintro e w2 ⟨rfl, hb2⟩
 have R2 := R1.next hb2
 have Z2 := chain Z1 hb2
 clear r0 r1 r2 r3 r4 r5 r6
 have ⟨r0, r1, r2, r3, r4, r5, r6⟩ := R2
 go_wp2_with fail
 exact bodyPost_ret (v := .agg #[.int .i64 1, .int .i64 0, .string ⟨#[]⟩]) (by simp [results, Tryz.results118, go_sem, r1, r2, r3]) rfl ⟨rfl, below_set3 Z2 (by omega)⟩

set_option maxHeartbeats 1000000 in
theorem refRec_add_lt (c n n' : Int) (s s' : ByteArray) (w : World) (b : -4000000000000000 ≤ n + n') (h1 : ¬ 1000000000000000 < n + n') (h2 : n + n' < -1000000000000000) (hc : c = 43) :
  Calls Tryz.prog 118 #[.int .i32 c, .agg #[.int .i64 3, .int .i64 n, .string s], .agg #[.int .i64 3, .int .i64 n', .string s']] w fun e w' => e = .returned (.agg #[.int .i64 1, .int .i64 0, .string ⟨#[]⟩]) ∧ Below w.heap.size w w' := by
 subst hc
 have A0 := ((Box.new w (.int .i64 3) (.int .i64 n) (.string s) 24).alloc (.cells #[.int .i64 3, .int .i64 n', .string s'] 24)).alloc (.cells #[.int .i64 0, .int .i64 0, .string ⟨#[]⟩] 24)
 have B0 := (Box.new (w.alloc (.cells #[.int .i64 3, .int .i64 n, .string s] 24)) (.int .i64 3) (.int .i64 n') (.string s') 24).alloc (.cells #[.int .i64 0, .int .i64 0, .string ⟨#[]⟩] 24)
 have R0 := Box.new ((w.alloc (.cells #[.int .i64 3, .int .i64 n, .string s] 24)).alloc (.cells #[.int .i64 3, .int .i64 n', .string s'] 24)) (.int .i64 0) (.int .i64 0) (.string ⟨#[]⟩) 24
 have Z0 : Below w.heap.size w (((w.alloc (.cells #[.int .i64 3, .int .i64 n, .string s] 24)).alloc (.cells #[.int .i64 3, .int .i64 n', .string s'] 24)).alloc (.cells #[.int .i64 0, .int .i64 0, .string ⟨#[]⟩] 24)) := (((Below.refl _ _).alloc (Nat.le_refl _) _).alloc (by simp) _).alloc (by simp; omega) _
 simp only [World.size_alloc] at B0 R0
 go_enter Tryz.func118, Tryz.ntmps118
 go_wp2_with fail
 generalize (((w.alloc (.cells #[.int .i64 3, .int .i64 n, .string s] 24)).alloc (.cells #[.int .i64 3, .int .i64 n', .string s'] 24)).alloc (.cells #[.int .i64 0, .int .i64 0, .string ⟨#[]⟩] 24)) = W at *
 haveI : Nonempty (Past W) := ⟨⟨W, Below.refl _ _⟩⟩
 have x1 := past_cell A0.c1
 have y1 := past_cell B0.c1
 refine wp_region_past (by kernel_rfl) (by kernel_rfl) ?_
 repeat (go_big_quiet_step (fail))
 refine wpQuiet_nil ?_
 rintro _ ⟨⟨w1, hb1⟩, rfl⟩
 have R1 := R0.next hb1
 have Z1 := chain Z0 hb1
 clear A0 B0 R0 Z0 x1 y1 hb1
 have ⟨r0, r1, r2, r3, r4, r5, r6⟩ := R1
 go_wp2_with fail
 refine (refNull_any _).mono ?_
 rintro e w2 ⟨rfl, hb2⟩
 have R2 := R1.next hb2
 have Z2 := chain Z1 hb2
 clear r0 r1 r2 r3 r4 r5 r6
 have ⟨r0, r1, r2, r3, r4, r5, r6⟩ := R2
 go_wp2_with fail
 exact bodyPost_ret (v := .agg #[.int .i64 1, .int .i64 0, .string ⟨#[]⟩]) (by simp [results, Tryz.results118, go_sem, r1, r2, r3]) rfl ⟨rfl, below_set3 Z2 (by omega)⟩

set_option maxHeartbeats 1000000 in
theorem refRec_sub_in (c n n' : Int) (s s' : ByteArray) (w : World) (h1 : ¬ 1000000000000000 < n - n') (h2 : ¬ n - n' < -1000000000000000) (hc : c = 45) :
  Calls Tryz.prog 118 #[.int .i32 c, .agg #[.int .i64 3, .int .i64 n, .string s], .agg #[.int .i64 3, .int .i64 n', .string s']] w fun e w' => e = .returned (.agg #[.int .i64 3, .int .i64 (n - n'), .string ⟨#[]⟩]) ∧ Below w.heap.size w w' := by
 subst hc
 have A0 := ((Box.new w (.int .i64 3) (.int .i64 n) (.string s) 24).alloc (.cells #[.int .i64 3, .int .i64 n', .string s'] 24)).alloc (.cells #[.int .i64 0, .int .i64 0, .string ⟨#[]⟩] 24)
 have B0 := (Box.new (w.alloc (.cells #[.int .i64 3, .int .i64 n, .string s] 24)) (.int .i64 3) (.int .i64 n') (.string s') 24).alloc (.cells #[.int .i64 0, .int .i64 0, .string ⟨#[]⟩] 24)
 have R0 := Box.new ((w.alloc (.cells #[.int .i64 3, .int .i64 n, .string s] 24)).alloc (.cells #[.int .i64 3, .int .i64 n', .string s'] 24)) (.int .i64 0) (.int .i64 0) (.string ⟨#[]⟩) 24
 have Z0 : Below w.heap.size w (((w.alloc (.cells #[.int .i64 3, .int .i64 n, .string s] 24)).alloc (.cells #[.int .i64 3, .int .i64 n', .string s'] 24)).alloc (.cells #[.int .i64 0, .int .i64 0, .string ⟨#[]⟩] 24)) := (((Below.refl _ _).alloc (Nat.le_refl _) _).alloc (by simp) _).alloc (by simp; omega) _
 simp only [World.size_alloc] at B0 R0
 go_enter Tryz.func118, Tryz.ntmps118
 go_wp2_with fail
 generalize (((w.alloc (.cells #[.int .i64 3, .int .i64 n, .string s] 24)).alloc (.cells #[.int .i64 3, .int .i64 n', .string s'] 24)).alloc (.cells #[.int .i64 0, .int .i64 0, .string ⟨#[]⟩] 24)) = W at *
 haveI : Nonempty (Past W) := ⟨⟨W, Below.refl _ _⟩⟩
 have x1 := past_cell A0.c1
 have y1 := past_cell B0.c1
 refine wp_region_past (by kernel_rfl) (by kernel_rfl) ?_
 repeat (go_big_quiet_step (fail))
 refine wpQuiet_nil ?_
 rintro _ ⟨⟨w1, hb1⟩, rfl⟩
 have R1 := R0.next hb1
 have Z1 := chain Z0 hb1
 clear A0 B0 R0 Z0 x1 y1 hb1
 have ⟨r0, r1, r2, r3, r4, r5, r6⟩ := R1
 go_wp2_with fail
 exact bodyPost_ret (v := .agg #[.int .i64 3, .int .i64 (n - n'), .string ⟨#[]⟩]) (by simp [results, Tryz.results118, go_sem, r1, r2, r3]) rfl ⟨rfl, below_set3 Z1 (by omega)⟩

set_option maxHeartbeats 1000000 in
theorem refRec_sub_gt (c n n' : Int) (s s' : ByteArray) (w : World) (b : n - n' ≤ 4000000000000000) (h1 : 1000000000000000 < n - n') (hc : c = 45) :
  Calls Tryz.prog 118 #[.int .i32 c, .agg #[.int .i64 3, .int .i64 n, .string s], .agg #[.int .i64 3, .int .i64 n', .string s']] w fun e w' => e = .returned (.agg #[.int .i64 1, .int .i64 0, .string ⟨#[]⟩]) ∧ Below w.heap.size w w' := by
 subst hc
 have A0 := ((Box.new w (.int .i64 3) (.int .i64 n) (.string s) 24).alloc (.cells #[.int .i64 3, .int .i64 n', .string s'] 24)).alloc (.cells #[.int .i64 0, .int .i64 0, .string ⟨#[]⟩] 24)
 have B0 := (Box.new (w.alloc (.cells #[.int .i64 3, .int .i64 n, .string s] 24)) (.int .i64 3) (.int .i64 n') (.string s') 24).alloc (.cells #[.int .i64 0, .int .i64 0, .string ⟨#[]⟩] 24)
 have R0 := Box.new ((w.alloc (.cells #[.int .i64 3, .int .i64 n, .string s] 24)).alloc (.cells #[.int .i64 3, .int .i64 n', .string s'] 24)) (.int .i64 0) (.int .i64 0) (.string ⟨#[]⟩) 24
 have Z0 : Below w.heap.size w (((w.alloc (.cells #[.int .i64 3, .int .i64 n, .string s] 24)).alloc (.cells #[.int .i64 3, .int .i64 n', .string s'] 24)).alloc (.cells #[.int .i64 0, .int .i64 0, .string ⟨#[]⟩] 24)) := (((Below.refl _ _).alloc (Nat.le_refl _) _).alloc (by simp) _).alloc (by simp; omega) _
 simp only [World.size_alloc] at B0 R0
 go_enter Tryz.func118, Tryz.ntmps118
 go_wp2_with fail
 generalize (((w.alloc (.cells #[.int .i64 3, .int .i64 n, .string s] 24)).alloc (.cells #[.int .i64 3, .int .i64 n', .string s'] 24)).alloc (.cells #[.int .i64 0, .int .i64 0, .string ⟨#[]⟩] 24)) = W at *
 haveI : Nonempty (Past W) := ⟨⟨W, Below.refl _ _⟩⟩
 have x1 := past_cell A0.c1
 have y1 := past_cell B0.c1
 refine wp_region_past (by kernel_rfl) (by kernel_rfl) ?_
 repeat (go_big_quiet_step (fail))
 refine wpQuiet_nil ?_
 rintro _ ⟨⟨w1, hb1⟩, rfl⟩
 have R1 := R0.next hb1
 have Z1 := chain Z0 hb1
 clear A0 B0 R0 Z0 x1 y1 hb1
 have ⟨r0, r1, r2, r3, r4, r5, r6⟩ := R1
 go_wp2_with fail
 refine (refNull_any _).mono ?_
 rintro e w2 ⟨rfl, hb2⟩
 have R2 := R1.next hb2
 have Z2 := chain Z1 hb2
 clear r0 r1 r2 r3 r4 r5 r6
 have ⟨r0, r1, r2, r3, r4, r5, r6⟩ := R2
 go_wp2_with fail
 exact bodyPost_ret (v := .agg #[.int .i64 1, .int .i64 0, .string ⟨#[]⟩]) (by simp [results, Tryz.results118, go_sem, r1, r2, r3]) rfl ⟨rfl, below_set3 Z2 (by omega)⟩

set_option maxHeartbeats 1000000 in
theorem refRec_sub_lt (c n n' : Int) (s s' : ByteArray) (w : World) (b : -4000000000000000 ≤ n - n') (h1 : ¬ 1000000000000000 < n - n') (h2 : n - n' < -1000000000000000) (hc : c = 45) :
  Calls Tryz.prog 118 #[.int .i32 c, .agg #[.int .i64 3, .int .i64 n, .string s], .agg #[.int .i64 3, .int .i64 n', .string s']] w fun e w' => e = .returned (.agg #[.int .i64 1, .int .i64 0, .string ⟨#[]⟩]) ∧ Below w.heap.size w w' := by
 subst hc
 have A0 := ((Box.new w (.int .i64 3) (.int .i64 n) (.string s) 24).alloc (.cells #[.int .i64 3, .int .i64 n', .string s'] 24)).alloc (.cells #[.int .i64 0, .int .i64 0, .string ⟨#[]⟩] 24)
 have B0 := (Box.new (w.alloc (.cells #[.int .i64 3, .int .i64 n, .string s] 24)) (.int .i64 3) (.int .i64 n') (.string s') 24).alloc (.cells #[.int .i64 0, .int .i64 0, .string ⟨#[]⟩] 24)
 have R0 := Box.new ((w.alloc (.cells #[.int .i64 3, .int .i64 n, .string s] 24)).alloc (.cells #[.int .i64 3, .int .i64 n', .string s'] 24)) (.int .i64 0) (.int .i64 0) (.string ⟨#[]⟩) 24
 have Z0 : Below w.heap.size w (((w.alloc (.cells #[.int .i64 3, .int .i64 n, .string s] 24)).alloc (.cells #[.int .i64 3, .int .i64 n', .string s'] 24)).alloc (.cells #[.int .i64 0, .int .i64 0, .string ⟨#[]⟩] 24)) := (((Below.refl _ _).alloc (Nat.le_refl _) _).alloc (by simp) _).alloc (by simp; omega) _
 simp only [World.size_alloc] at B0 R0
 go_enter Tryz.func118, Tryz.ntmps118
 go_wp2_with fail
 generalize (((w.alloc (.cells #[.int .i64 3, .int .i64 n, .string s] 24)).alloc (.cells #[.int .i64 3, .int .i64 n', .string s'] 24)).alloc (.cells #[.int .i64 0, .int .i64 0, .string ⟨#[]⟩] 24)) = W at *
 haveI : Nonempty (Past W) := ⟨⟨W, Below.refl _ _⟩⟩
 have x1 := past_cell A0.c1
 have y1 := past_cell B0.c1
 refine wp_region_past (by kernel_rfl) (by kernel_rfl) ?_
 repeat (go_big_quiet_step (fail))
 refine wpQuiet_nil ?_
 rintro _ ⟨⟨w1, hb1⟩, rfl⟩
 have R1 := R0.next hb1
 have Z1 := chain Z0 hb1
 clear A0 B0 R0 Z0 x1 y1 hb1
 have ⟨r0, r1, r2, r3, r4, r5, r6⟩ := R1
 go_wp2_with fail
 refine (refNull_any _).mono ?_
 rintro e w2 ⟨rfl, hb2⟩
 have R2 := R1.next hb2
 have Z2 := chain Z1 hb2
 clear r0 r1 r2 r3 r4 r5 r6
 have ⟨r0, r1, r2, r3, r4, r5, r6⟩ := R2
 go_wp2_with fail
 exact bodyPost_ret (v := .agg #[.int .i64 1, .int .i64 0, .string ⟨#[]⟩]) (by simp [results, Tryz.results118, go_sem, r1, r2, r3]) rfl ⟨rfl, below_set3 Z2 (by omega)⟩

set_option maxHeartbeats 1000000 in
theorem refRec_z (c n n' : Int) (s s' : ByteArray) (w : World) (c1 : (c == 43) = false) (c2 : (c == 45) = false) (c3 : (c == 42) = false) :
  Calls Tryz.prog 118 #[.int .i32 c, .agg #[.int .i64 3, .int .i64 n, .string s], .agg #[.int .i64 3, .int .i64 n', .string s']] w fun e w' => e = .returned (.agg #[.int .i64 1, .int .i64 0, .string ⟨#[]⟩]) ∧ Below w.heap.size w w' := by
 have A0 := ((Box.new w (.int .i64 3) (.int .i64 n) (.string s) 24).alloc (.cells #[.int .i64 3, .int .i64 n', .string s'] 24)).alloc (.cells #[.int .i64 0, .int .i64 0, .string ⟨#[]⟩] 24)
 have B0 := (Box.new (w.alloc (.cells #[.int .i64 3, .int .i64 n, .string s] 24)) (.int .i64 3) (.int .i64 n') (.string s') 24).alloc (.cells #[.int .i64 0, .int .i64 0, .string ⟨#[]⟩] 24)
 have R0 := Box.new ((w.alloc (.cells #[.int .i64 3, .int .i64 n, .string s] 24)).alloc (.cells #[.int .i64 3, .int .i64 n', .string s'] 24)) (.int .i64 0) (.int .i64 0) (.string ⟨#[]⟩) 24
 have Z0 : Below w.heap.size w (((w.alloc (.cells #[.int .i64 3, .int .i64 n, .string s] 24)).alloc (.cells #[.int .i64 3, .int .i64 n', .string s'] 24)).alloc (.cells #[.int .i64 0, .int .i64 0, .string ⟨#[]⟩] 24)) := (((Below.refl _ _).alloc (Nat.le_refl _) _).alloc (by simp) _).alloc (by simp; omega) _
 simp only [World.size_alloc] at B0 R0
 go_enter Tryz.func118, Tryz.ntmps118
 go_wp2_with fail
 generalize (((w.alloc (.cells #[.int .i64 3, .int .i64 n, .string s] 24)).alloc (.cells #[.int .i64 3, .int .i64 n', .string s'] 24)).alloc (.cells #[.int .i64 0, .int .i64 0, .string ⟨#[]⟩] 24)) = W at *
 haveI : Nonempty (Past W) := ⟨⟨W, Below.refl _ _⟩⟩
 have x1 := past_cell A0.c1
 have y1 := past_cell B0.c1
 refine wp_region_past (by kernel_rfl) (by kernel_rfl) ?_
 repeat (go_big_quiet_step (fail))
 refine wpQuiet_nil ?_
 rintro _ ⟨⟨w1, hb1⟩, rfl⟩
 have R1 := R0.next hb1
 have Z1 := chain Z0 hb1
 clear A0 B0 R0 Z0 x1 y1 hb1
 have ⟨r0, r1, r2, r3, r4, r5, r6⟩ := R1
 go_wp2_with fail
 refine (refNull_any _).mono ?_
 rintro e w2 ⟨rfl, hb2⟩
 have R2 := R1.next hb2
 have Z2 := chain Z1 hb2
 clear r0 r1 r2 r3 r4 r5 r6
 have ⟨r0, r1, r2, r3, r4, r5, r6⟩ := R2
 go_wp2_with fail
 exact bodyPost_ret (v := .agg #[.int .i64 1, .int .i64 0, .string ⟨#[]⟩]) (by simp [results, Tryz.results118, go_sem, r1, r2, r3]) rfl ⟨rfl, below_set3 Z2 (by omega)⟩

set_option maxHeartbeats 1000000 in
theorem refRec_mul_gt (c n n' : Int) (s s' : ByteArray) (w : World) (p0 : -1000000000000000 ≤ n') (p1 : n' ≤ 1000000000000000) (hn : n' ≠ 0) (h : 1000000000000000 / (n'.natAbs : Int) < n) (hc : c = 42) :
  Calls Tryz.prog 118 #[.int .i32 c, .agg #[.int .i64 3, .int .i64 n, .string s], .agg #[.int .i64 3, .int .i64 n', .string s']] w fun e w' => e = .returned (.agg #[.int .i64 1, .int .i64 0, .string ⟨#[]⟩]) ∧ Below w.heap.size w w' := by
 subst hc
 have bn : (n' != 0) = true := by simpa using hn
 have g0 : 0 < (n'.natAbs : Int) := by omega
 have g1 : (n'.natAbs : Int) ≤ 1000000000000000 := by omega
 have A0 := ((Box.new w (.int .i64 3) (.int .i64 n) (.string s) 24).alloc (.cells #[.int .i64 3, .int .i64 n', .string s'] 24)).alloc (.cells #[.int .i64 0, .int .i64 0, .string ⟨#[]⟩] 24)
 have B0 := (Box.new (w.alloc (.cells #[.int .i64 3, .int .i64 n, .string s] 24)) (.int .i64 3) (.int .i64 n') (.string s') 24).alloc (.cells #[.int .i64 0, .int .i64 0, .string ⟨#[]⟩] 24)
 have R0 := Box.new ((w.alloc (.cells #[.int .i64 3, .int .i64 n, .string s] 24)).alloc (.cells #[.int .i64 3, .int .i64 n', .string s'] 24)) (.int .i64 0) (.int .i64 0) (.string ⟨#[]⟩) 24
 have Z0 : Below w.heap.size w (((w.alloc (.cells #[.int .i64 3, .int .i64 n, .string s] 24)).alloc (.cells #[.int .i64 3, .int .i64 n', .string s'] 24)).alloc (.cells #[.int .i64 0, .int .i64 0, .string ⟨#[]⟩] 24)) := (((Below.refl _ _).alloc (Nat.le_refl _) _).alloc (by simp) _).alloc (by simp; omega) _
 simp only [World.size_alloc] at B0 R0
 go_enter Tryz.func118, Tryz.ntmps118
 go_wp2_with fail
 generalize (((w.alloc (.cells #[.int .i64 3, .int .i64 n, .string s] 24)).alloc (.cells #[.int .i64 3, .int .i64 n', .string s'] 24)).alloc (.cells #[.int .i64 0, .int .i64 0, .string ⟨#[]⟩] 24)) = W at *
 haveI : Nonempty (Past W) := ⟨⟨W, Below.refl _ _⟩⟩
 have x1 := past_cell A0.c1
 have y1 := past_cell B0.c1
 refine wp_region_past (by kernel_rfl) (by kernel_rfl) ?_
 repeat (go_big_quiet_step (fail))
 refine wpQuiet_nil ?_
 rintro _ ⟨⟨w1, hb1⟩, rfl⟩
 have R1 := R0.next hb1
 have Z1 := chain Z0 hb1
 clear A0 B0 R0 Z0 x1 y1 hb1
 have ⟨r0, r1, r2, r3, r4, r5, r6⟩ := R1
 go_wp2_with fail
 refine (refAbs_any _ _ p0 p1).mono ?_
 rintro e wx ⟨rfl, rfl⟩
 go_wp2_with fail
 refine (refNull_any _).mono ?_
 rintro e w2 ⟨rfl, hb2⟩
 have R2 := R1.next hb2
 have Z2 := chain Z1 hb2
 clear r0 r1 r2 r3 r4 r5 r6
 have ⟨r0, r1, r2, r3, r4, r5, r6⟩ := R2
 go_wp2_with fail
 exact bodyPost_ret (v := .agg #[.int .i64 1, .int .i64 0, .string ⟨#[]⟩]) (by simp [results, Tryz.results118, go_sem, r1, r2, r3]) rfl ⟨rfl, below_set3 Z2 (by omega)⟩

set_option maxHeartbeats 1000000 in
theorem refRec_mul_lt (c n n' : Int) (s s' : ByteArray) (w : World) (p0 : -1000000000000000 ≤ n') (p1 : n' ≤ 1000000000000000) (hn : n' ≠ 0) (h : ¬ 1000000000000000 / (n'.natAbs : Int) < n) (h' : n < -(1000000000000000 / (n'.natAbs : Int))) (hc : c = 42) :
  Calls Tryz.prog 118 #[.int .i32 c, .agg #[.int .i64 3, .int .i64 n, .string s], .agg #[.int .i64 3, .int .i64 n', .string s']] w fun e w' => e = .returned (.agg #[.int .i64 1, .int .i64 0, .string ⟨#[]⟩]) ∧ Below w.heap.size w w' := by
 subst hc
 have bn : (n' != 0) = true := by simpa using hn
 have g0 : 0 < (n'.natAbs : Int) := by omega
 have g1 : (n'.natAbs : Int) ≤ 1000000000000000 := by omega
 have hq := quo_neg (n'.natAbs : Int) g0
 have A0 := ((Box.new w (.int .i64 3) (.int .i64 n) (.string s) 24).alloc (.cells #[.int .i64 3, .int .i64 n', .string s'] 24)).alloc (.cells #[.int .i64 0, .int .i64 0, .string ⟨#[]⟩] 24)
 have B0 := (Box.new (w.alloc (.cells #[.int .i64 3, .int .i64 n, .string s] 24)) (.int .i64 3) (.int .i64 n') (.string s') 24).alloc (.cells #[.int .i64 0, .int .i64 0, .string ⟨#[]⟩] 24)
 have R0 := Box.new ((w.alloc (.cells #[.int .i64 3, .int .i64 n, .string s] 24)).alloc (.cells #[.int .i64 3, .int .i64 n', .string s'] 24)) (.int .i64 0) (.int .i64 0) (.string ⟨#[]⟩) 24
 have Z0 : Below w.heap.size w (((w.alloc (.cells #[.int .i64 3, .int .i64 n, .string s] 24)).alloc (.cells #[.int .i64 3, .int .i64 n', .string s'] 24)).alloc (.cells #[.int .i64 0, .int .i64 0, .string ⟨#[]⟩] 24)) := (((Below.refl _ _).alloc (Nat.le_refl _) _).alloc (by simp) _).alloc (by simp; omega) _
 simp only [World.size_alloc] at B0 R0
 go_enter Tryz.func118, Tryz.ntmps118
 go_wp2_with fail
 generalize (((w.alloc (.cells #[.int .i64 3, .int .i64 n, .string s] 24)).alloc (.cells #[.int .i64 3, .int .i64 n', .string s'] 24)).alloc (.cells #[.int .i64 0, .int .i64 0, .string ⟨#[]⟩] 24)) = W at *
 haveI : Nonempty (Past W) := ⟨⟨W, Below.refl _ _⟩⟩
 have x1 := past_cell A0.c1
 have y1 := past_cell B0.c1
 refine wp_region_past (by kernel_rfl) (by kernel_rfl) ?_
 repeat (go_big_quiet_step (fail))
 refine wpQuiet_nil ?_
 rintro _ ⟨⟨w1, hb1⟩, rfl⟩
 have R1 := R0.next hb1
 have Z1 := chain Z0 hb1
 clear A0 B0 R0 Z0 x1 y1 hb1
 have ⟨r0, r1, r2, r3, r4, r5, r6⟩ := R1
 go_wp2_with fail
 refine (refAbs_any _ _ p0 p1).mono ?_
 rintro e wx ⟨rfl, rfl⟩
 go_wp2_with fail
 refine (refAbs_any _ _ p0 p1).mono ?_
 rintro e wx ⟨rfl, rfl⟩
 go_wp2_with fail
 refine (refNull_any _).mono ?_
 rintro e w2 ⟨rfl, hb2⟩
 have R2 := R1.next hb2
 have Z2 := chain Z1 hb2
 clear r0 r1 r2 r3 r4 r5 r6
 have ⟨r0, r1, r2, r3, r4, r5, r6⟩ := R2
 go_wp2_with fail
 exact bodyPost_ret (v := .agg #[.int .i64 1, .int .i64 0, .string ⟨#[]⟩]) (by simp [results, Tryz.results118, go_sem, r1, r2, r3]) rfl ⟨rfl, below_set3 Z2 (by omega)⟩

set_option maxHeartbeats 1000000 in
theorem refRec_mul_in (c n n' : Int) (s s' : ByteArray) (w : World) (p0 : -1000000000000000 ≤ n') (p1 : n' ≤ 1000000000000000) (hn : n' ≠ 0) (h : ¬ 1000000000000000 / (n'.natAbs : Int) < n) (h' : ¬ n < -(1000000000000000 / (n'.natAbs : Int))) (m1 : ¬ 1000000000000000 < n * n') (m2 : ¬ n * n' < -1000000000000000) (hc : c = 42) :
  Calls Tryz.prog 118 #[.int .i32 c, .agg #[.int .i64 3, .int .i64 n, .string s], .agg #[.int .i64 3, .int .i64 n', .string s']] w fun e w' => e = .returned (.agg #[.int .i64 3, .int .i64 (n * n'), .string ⟨#[]⟩]) ∧ Below w.heap.size w w' := by
 subst hc
 have bn : (n' != 0) = true := by simpa using hn
 have g0 : 0 < (n'.natAbs : Int) := by omega
 have g1 : (n'.natAbs : Int) ≤ 1000000000000000 := by omega
 have hq := quo_neg (n'.natAbs : Int) g0
 have A0 := ((Box.new w (.int .i64 3) (.int .i64 n) (.string s) 24).alloc (.cells #[.int .i64 3, .int .i64 n', .string s'] 24)).alloc (.cells #[.int .i64 0, .int .i64 0, .string ⟨#[]⟩] 24)
 have B0 := (Box.new (w.alloc (.cells #[.int .i64 3, .int .i64 n, .string s] 24)) (.int .i64 3) (.int .i64 n') (.string s') 24).alloc (.cells #[.int .i64 0, .int .i64 0, .string ⟨#[]⟩] 24)
 have R0 := Box.new ((w.alloc (.cells #[.int .i64 3, .int .i64 n, .string s] 24)).alloc (.cells #[.int .i64 3, .int .i64 n', .string s'] 24)) (.int .i64 0) (.int .i64 0) (.string ⟨#[]⟩) 24
 have Z0 : Below w.heap.size w (((w.alloc (.cells #[.int .i64 3, .int .i64 n, .string s] 24)).alloc (.cells #[.int .i64 3, .int .i64 n', .string s'] 24)).alloc (.cells #[.int .i64 0, .int .i64 0, .string ⟨#[]⟩] 24)) := (((Below.refl _ _).alloc (Nat.le_refl _) _).alloc (by simp) _).alloc (by simp; omega) _
 simp only [World.size_alloc] at B0 R0
 go_enter Tryz.func118, Tryz.ntmps118
 go_wp2_with fail
 generalize (((w.alloc (.cells #[.int .i64 3, .int .i64 n, .string s] 24)).alloc (.cells #[.int .i64 3, .int .i64 n', .string s'] 24)).alloc (.cells #[.int .i64 0, .int .i64 0, .string ⟨#[]⟩] 24)) = W at *
 haveI : Nonempty (Past W) := ⟨⟨W, Below.refl _ _⟩⟩
 have x1 := past_cell A0.c1
 have y1 := past_cell B0.c1
 refine wp_region_past (by kernel_rfl) (by kernel_rfl) ?_
 repeat (go_big_quiet_step (fail))
 refine wpQuiet_nil ?_
 rintro _ ⟨⟨w1, hb1⟩, rfl⟩
 have R1 := R0.next hb1
 have Z1 := chain Z0 hb1
 clear A0 B0 R0 Z0 x1 y1 hb1
 have ⟨r0, r1, r2, r3, r4, r5, r6⟩ := R1
 go_wp2_with fail
 refine (refAbs_any _ _ p0 p1).mono ?_
 rintro e wx ⟨rfl, rfl⟩
 go_wp2_with fail
 refine (refAbs_any _ _ p0 p1).mono ?_
 rintro e wx ⟨rfl, rfl⟩
 go_wp2_with fail
 exact bodyPost_ret (v := .agg #[.int .i64 3, .int .i64 (n * n'), .string ⟨#[]⟩]) (by simp [results, Tryz.results118, go_sem, r1, r2, r3]) rfl ⟨rfl, below_set3 Z1 (by omega)⟩

set_option maxHeartbeats 1000000 in
theorem refRec_mul_0 (c n : Int) (s s' : ByteArray) (w : World) (hc : c = 42) :
  Calls Tryz.prog 118 #[.int .i32 c, .agg #[.int .i64 3, .int .i64 n, .string s], .agg #[.int .i64 3, .int .i64 0, .string s']] w fun e w' => e = .returned (.agg #[.int .i64 3, .int .i64 0, .string ⟨#[]⟩]) ∧ Below w.heap.size w w' := by
 subst hc
 have A0 := ((Box.new w (.int .i64 3) (.int .i64 n) (.string s) 24).alloc (.cells #[.int .i64 3, .int .i64 0, .string s'] 24)).alloc (.cells #[.int .i64 0, .int .i64 0, .string ⟨#[]⟩] 24)
 have B0 := (Box.new (w.alloc (.cells #[.int .i64 3, .int .i64 n, .string s] 24)) (.int .i64 3) (.int .i64 0) (.string s') 24).alloc (.cells #[.int .i64 0, .int .i64 0, .string ⟨#[]⟩] 24)
 have R0 := Box.new ((w.alloc (.cells #[.int .i64 3, .int .i64 n, .string s] 24)).alloc (.cells #[.int .i64 3, .int .i64 0, .string s'] 24)) (.int .i64 0) (.int .i64 0) (.string ⟨#[]⟩) 24
 have Z0 : Below w.heap.size w (((w.alloc (.cells #[.int .i64 3, .int .i64 n, .string s] 24)).alloc (.cells #[.int .i64 3, .int .i64 0, .string s'] 24)).alloc (.cells #[.int .i64 0, .int .i64 0, .string ⟨#[]⟩] 24)) := (((Below.refl _ _).alloc (Nat.le_refl _) _).alloc (by simp) _).alloc (by simp; omega) _
 simp only [World.size_alloc] at B0 R0
 go_enter Tryz.func118, Tryz.ntmps118
 go_wp2_with fail
 generalize (((w.alloc (.cells #[.int .i64 3, .int .i64 n, .string s] 24)).alloc (.cells #[.int .i64 3, .int .i64 0, .string s'] 24)).alloc (.cells #[.int .i64 0, .int .i64 0, .string ⟨#[]⟩] 24)) = W at *
 haveI : Nonempty (Past W) := ⟨⟨W, Below.refl _ _⟩⟩
 have x1 := past_cell A0.c1
 have y1 := past_cell B0.c1
 refine wp_region_past (by kernel_rfl) (by kernel_rfl) ?_
 repeat (go_big_quiet_step (fail))
 refine wpQuiet_nil ?_
 rintro _ ⟨⟨w1, hb1⟩, rfl⟩
 have R1 := R0.next hb1
 have Z1 := chain Z0 hb1
 clear A0 B0 R0 Z0 x1 y1 hb1
 have ⟨r0, r1, r2, r3, r4, r5, r6⟩ := R1
 go_wp2_with fail
 exact bodyPost_ret (v := .agg #[.int .i64 3, .int .i64 0, .string ⟨#[]⟩]) (by simp [results, Tryz.results118, go_sem, r1, r2, r3]) rfl ⟨rfl, below_set3 Z1 (by omega)⟩

theorem refReckon_x (c k n k' n' : Int) (s s' : ByteArray) (w : World) (h : (k != 3) = true) :
  Calls Tryz.prog 118 #[.int .i32 c, .agg #[.int .i64 k, .int .i64 n, .string s], .agg #[.int .i64 k', .int .i64 n', .string s']] w fun e w' => e = .returned (.agg #[.int .i64 1, .int .i64 0, .string ⟨#[]⟩]) ∧ Below w.heap.size w w' := by
 have R0 := Box.new ((w.alloc (.cells #[.int .i64 k, .int .i64 n, .string s] 24)).alloc (.cells #[.int .i64 k', .int .i64 n', .string s'] 24)) (.int .i64 0) (.int .i64 0) (.string ⟨#[]⟩) 24
 simp only [World.size_alloc] at R0
 go_enter Tryz.func118, Tryz.ntmps118
 go_wp2_with fail
 refine (refNull_any _).mono ?_
 rintro e w1 ⟨rfl, hb1⟩
 have ⟨r0, r1, r2, r3, r4, r5, r6⟩ := R0.next hb1
 go_wp2_with fail
 exact bodyPost_ret (v := .agg #[.int .i64 1, .int .i64 0, .string ⟨#[]⟩]) (by simp [results, Tryz.results118, go_sem, r1, r2, r3]) rfl ⟨rfl, below_set3 (below3 hb1) (by omega)⟩
theorem refReckon_y (c n k' n' : Int) (s s' : ByteArray) (w : World) (h : (k' != 3) = true) :
  Calls Tryz.prog 118 #[.int .i32 c, .agg #[.int .i64 3, .int .i64 n, .string s], .agg #[.int .i64 k', .int .i64 n', .string s']] w fun e w' => e = .returned (.agg #[.int .i64 1, .int .i64 0, .string ⟨#[]⟩]) ∧ Below w.heap.size w w' := by
 have R0 := Box.new ((w.alloc (.cells #[.int .i64 3, .int .i64 n, .string s] 24)).alloc (.cells #[.int .i64 k', .int .i64 n', .string s'] 24)) (.int .i64 0) (.int .i64 0) (.string ⟨#[]⟩) 24
 simp only [World.size_alloc] at R0
 go_enter Tryz.func118, Tryz.ntmps118
 go_wp2_with fail
 refine (refNull_any _).mono ?_
 rintro e w1 ⟨rfl, hb1⟩
 have ⟨r0, r1, r2, r3, r4, r5, r6⟩ := R0.next hb1
 go_wp2_with fail
 exact bodyPost_ret (v := .agg #[.int .i64 1, .int .i64 0, .string ⟨#[]⟩]) (by simp [results, Tryz.results118, go_sem, r1, r2, r3]) rfl ⟨rfl, below_set3 (below3 hb1) (by omega)⟩

theorem abs_lt_cases (n n' : Int) (hn : n' ≠ 0) (h : ¬ 1000000000000000 / (n'.natAbs : Int) < n) (h' : ¬ n < -(1000000000000000 / (n'.natAbs : Int))) : -1000000000000000 ≤ n * n' ∧ n * n' ≤ 1000000000000000 := by
 have := mul_in n' n (by omega) hn
 rwa [Int.mul_comm]
theorem refReckon_any (c k n k' n' : Int) (s s' : ByteArray) (w : World) (q : k = 3 → -1000000000000000 ≤ n ∧ n ≤ 1000000000000000) (q' : k' = 3 → -1000000000000000 ≤ n' ∧ n' ≤ 1000000000000000) :
  Calls Tryz.prog 118 #[.int .i32 c, .agg #[.int .i64 k, .int .i64 n, .string s], .agg #[.int .i64 k', .int .i64 n', .string s']] w fun e w' => e = .returned (.agg #[.int .i64 (optK (recO c k n k' n')), .int .i64 (optN (recO c k n k' n')), .string ⟨#[]⟩]) ∧ Below w.heap.size w w' := by
 by_cases hk : k = 3
 ·subst hk
  by_cases hk' : k' = 3
  ·subst hk'
   obtain ⟨q0, q1⟩ := q rfl
   obtain ⟨p0, p1⟩ := q' rfl
   have e : recO c 3 n 3 n' = recT c n n' := by simp [recO, numB, inB_mk q0 q1, inB_mk p0 p1]
   rw [e]
   by_cases c1 : c = 43
   ·have e : recT c n n' = some (n + n') := by simp [recT, c1]
    rw [e]
    by_cases h1 : 1000000000000000 < n + n'
    ·have i := inB_no (n := n + n') (.inr h1)
     simp only [optK, optN, intK, intN, i]
     exact refRec_add_gt c n n' s s' w (by omega) h1 c1
    by_cases h2 : n + n' < -1000000000000000
    ·have i := inB_no (n := n + n') (.inl h2)
     simp only [optK, optN, intK, intN, i]
     exact refRec_add_lt c n n' s s' w (by omega) h1 h2 c1
    ·have i := inB_mk (n := n + n') (by omega) (by omega)
     simp only [optK, optN, intK, intN, i]
     exact refRec_add_in c n n' s s' w h1 h2 c1
   by_cases c2 : c = 45
   ·have e : recT c n n' = some (n - n') := by simp [recT, c2]
    rw [e]
    by_cases h1 : 1000000000000000 < n - n'
    ·have i := inB_no (n := n - n') (.inr h1)
     simp only [optK, optN, intK, intN, i]
     exact refRec_sub_gt c n n' s s' w (by omega) h1 c2
    by_cases h2 : n - n' < -1000000000000000
    ·have i := inB_no (n := n - n') (.inl h2)
     simp only [optK, optN, intK, intN, i]
     exact refRec_sub_lt c n n' s s' w (by omega) h1 h2 c2
    ·have i := inB_mk (n := n - n') (by omega) (by omega)
     simp only [optK, optN, intK, intN, i]
     exact refRec_sub_in c n n' s s' w h1 h2 c2
   by_cases c3 : c = 42
   ·have e : recT c n n' = some (n * n') := by simp [recT, c3]
    rw [e]
    by_cases hn : n' = 0
    ·have e0 : n * n' = 0 := by rw [hn, Int.mul_zero]
     have i := inB_mk (n := 0) (by omega) (by omega)
     rw [e0]
     simp only [optK, optN, intK, intN, i]
     rw [hn]
     exact refRec_mul_0 c n s s' w c3
    by_cases h1 : 1000000000000000 / (n'.natAbs : Int) < n
    ·have i : inB (n * n') = false := by rw [Int.mul_comm]; exact mul_out n' n (by omega) hn
     simp only [optK, optN, intK, intN, i]
     exact refRec_mul_gt c n n' s s' w p0 p1 hn h1 c3
    by_cases h2 : n < -(1000000000000000 / (n'.natAbs : Int))
    ·have i : inB (n * n') = false := by rw [Int.mul_comm]; exact mul_out n' n (by omega) hn
     simp only [optK, optN, intK, intN, i]
     exact refRec_mul_lt c n n' s s' w p0 p1 hn h1 h2 c3
    ·obtain ⟨m1, m2⟩ := abs_lt_cases n n' hn h1 h2
     have i := inB_mk m1 m2
     simp only [optK, optN, intK, intN, i]
     exact refRec_mul_in c n n' s s' w p0 p1 hn h1 h2 (by omega) (by omega) c3
   have e : recT c n n' = none := by simp [recT, c1, c2, c3]
   rw [e]; exact refRec_z c n n' s s' w (by simpa using c1) (by simpa using c2) (by simpa using c3)
  ·have e : recO c 3 n k' n' = none := by simp [recO, numB, hk']
   rw [e]; exact refReckon_y c n k' n' s s' w (by simpa using hk')
 ·have e : recO c k n k' n' = none := by simp [recO, numB, hk]
  rw [e]; exact refReckon_x c k n k' n' s s' w (by simpa using hk)
end Go.Proofs.YtfojonhblblbjaaGreat
/- The walk of the document's Of. -/
namespace Go.Proofs.YtfojonhblblbjaaGreat
open Go.RowKit

/-- What Of is asked for. -/
def OfAt (row : List Vl) (x : Ex) : Prop :=
 ∀ (B : Nat) (a : Option Addr) (cap : Nat) (ra : Option Addr) (rcap : Nat) (w : World), KsAt B w a x.ks → B ≤ w.heap.size → SlAt w ra row →
  Calls Tryz.prog 77 #[exV x.k x.v x.c a x.ks.length cap, .slice ra row.length rcap] w fun e w' => e = .returned (agV (valX row x)) ∧ Below w.heap.size w w'

/-- The world of Of's variables. -/
abbrev ow (w : World) (k : Int) (v : Vl) (c : Int) (a : Option Addr) (n cap : Nat) : World := (w.alloc (.cells #[.int .i64 k, .int .i64 v.1, .int .i64 v.2.1, .string v.2.2, .int .i64 c, .slice a n cap] 27)).alloc (.cells #[.int .i64 0, .int .i64 0, .string ⟨#[]⟩] 24)
structure OwF (w w3 : World) (k : Int) (v : Vl) (c : Int) (a : Option Addr) (n cap : Nat) : Prop where
 six : Six w3 w.heap.size 0 k v c a n cap
 box : Box w3 (w.heap.size + 1) (.int .i64 0) (.int .i64 0) (.string ⟨#[]⟩)
 low : Below w.heap.size w w3
 lt : w.heap.size + 1 < w3.heap.size
theorem ow_facts (w : World) (k : Int) (v : Vl) (c : Int) (a : Option Addr) (n cap : Nat) : OwF w (ow w k v c a n cap) k v c a n cap := by
 have h1 : Below w.heap.size w (w.alloc (.cells #[.int .i64 k, .int .i64 v.1, .int .i64 v.2.1, .string v.2.2, .int .i64 c, .slice a n cap] 27)) := (Below.refl _ _).alloc (Nat.le_refl _) _
 have S := Six.new w k v c a n cap 27
 have z1 : (w.alloc (.cells #[.int .i64 k, .int .i64 v.1, .int .i64 v.2.1, .string v.2.2, .int .i64 c, .slice a n cap] 27)).heap.size = w.heap.size + 1 := by simp
 unfold ow
 generalize w.alloc (.cells #[.int .i64 k, .int .i64 v.1, .int .i64 v.2.1, .string v.2.2, .int .i64 c, .slice a n cap] 27) = w1 at *
 have h3 : Below w1.heap.size w1 (w1.alloc (.cells #[.int .i64 0, .int .i64 0, .string ⟨#[]⟩] 24)) := (Below.refl _ _).alloc (Nat.le_refl _) _
 have B := Box.new w1 (.int .i64 0) (.int .i64 0) (.string ⟨#[]⟩) 24
 have z3 : (w1.alloc (.cells #[.int .i64 0, .int .i64 0, .string ⟨#[]⟩] 24)).heap.size = w1.heap.size + 1 := by simp
 generalize w1.alloc (.cells #[.int .i64 0, .int .i64 0, .string ⟨#[]⟩] 24) = w3 at *
 rw [z1] at B
 exact ⟨S.next h3 (by omega), B, chain h1 h3, by omega⟩

/-- The kid in a place comes to r, wherever the world has grown. -/
def KidOf (b o : Nat) (ra : Option Addr) (rn rcap : Nat) (r : Vl) (w : World) : Prop :=
 ∃ x : Ex, ∃ ai ci, Six w b o x.k x.v x.c ai x.ks.length ci ∧ b < w.heap.size ∧
  ∀ W, Below w.heap.size w W → Calls Tryz.prog 77 #[exV x.k x.v x.c ai x.ks.length ci, .slice ra rn rcap] W fun e w' => e = .returned (agV r) ∧ Below W.heap.size W w'
theorem KidOf.next {b o : Nat} {ra : Option Addr} {rn rcap : Nat} {r : Vl} {w w1 : World} (h : KidOf b o ra rn rcap r w) (hb : Below w.heap.size w w1) : KidOf b o ra rn rcap r w1 := by
 obtain ⟨x, ai, ci, S, hlt, con⟩ := h
 exact ⟨x, ai, ci, S.next hb hlt, Nat.lt_of_lt_of_le hlt hb.size, fun W hW => con W (chain hb hW)⟩

set_option maxRecDepth 100000 in
set_option maxRecDepth 100000 in
set_option maxHeartbeats 4000000 in
theorem of_3 (v : Vl) (c : Int) (b off cap : Nat) (ra : Option Addr) (rn rcap : Nat) (w : World) (u0 : Vl) (k0 : KidOf b (off) ra rn rcap u0 w) (g0 : wrongP u0 = 0)  :
  Calls Tryz.prog 77 #[exV 3 v c (some ⟨b, off, none⟩) 1 cap, .slice ra rn rcap] w fun e w' => e = .returned (agV (notP u0)) ∧ Below w.heap.size w w' := by
 have F := ow_facts w 3 v c (some ⟨b, off, none⟩) 1 cap
 replace k0 := k0.next F.low
 unfold ow at F k0
 obtain ⟨x0, ai0, ci0, S0, l0, con0⟩ := k0
 obtain ⟨a0, a1, a2, a3, a4, a5⟩ := S0
 replace con0 := con0 _ (Below.refl _ _)
 go_enter Tryz.func77, Tryz.ntmps77
 go_wp2_with fail
 refine con0.mono ?_
 clear con0
 rintro e w4 ⟨rfl, hb⟩
 clear a0 a1 a2 a3 a4 a5
 generalize (w.alloc (.cells #[.int .i64 3, .int .i64 v.1, .int .i64 v.2.1, .string v.2.2, .int .i64 c, .slice (some ⟨b, off, none⟩) 1 cap] 27)).alloc (.cells #[.int .i64 0, .int .i64 0, .string ⟨#[]⟩] 24) = w3 at *
 obtain ⟨S, R, hA, lt0⟩ := F
 replace S := S.next hb (by omega)
 replace R := R.next hb
 replace hA := chain hA hb
 replace lt0 := Nat.lt_of_lt_of_le lt0 hb.size
 clear hb
 have hal : Below w4.heap.size w4 (w4.alloc (.cells #[.int .i64 u0.1, .int .i64 u0.2.1, .string u0.2.2] 24)) := (Below.refl _ _).alloc (Nat.le_refl _) _
 have BA := Box.new w4 (.int .i64 u0.1) (.int .i64 u0.2.1) (.string u0.2.2) 24
 replace S := S.next hal (by omega)
 replace R := R.next hal
 replace hA := chain hA hal
 replace lt0 := Nat.lt_of_lt_of_le lt0 hal.size
 have ⟨s0, s1, s2, s3, s4, s5⟩ := S
 simp only [Nat.zero_add] at s1 s2 s3 s4 s5
 have ⟨q0, q1, q2, q3, q4, q5, q6⟩ := BA
 go_wp2_with fail
 clear s0 s1 s2 s3 s4 s5
 refine (refNot_any _ _ _ _ (wrong_tru g0)).mono ?_
 rintro e w6 ⟨rfl, hb⟩
 replace S := S.next hb (by omega)
 replace hA := chain hA hb
 replace lt0 := Nat.lt_of_lt_of_le lt0 hb.size
 replace R := R.next hb
 clear q0 q1 q2 q3 q4 q5 q6
 have ⟨b0, b1, b2, b3, b4, b5, b6⟩ := R
 go_wp2_with fail
 exact bodyPost_ret (v := .agg #[.int .i64 (tk (not3 (cls u0.1 u0.2.1))), .int .i64 (tn (not3 (cls u0.1 u0.2.1))), .string ⟨#[]⟩]) (by simp [results, Tryz.results77, go_sem, b1, b2, b3]) rfl ⟨rfl, below_set3 hA (by omega)⟩

set_option maxRecDepth 100000 in
set_option maxRecDepth 100000 in
set_option maxHeartbeats 4000000 in
theorem of_16 (v : Vl) (c : Int) (b off cap : Nat) (ra : Option Addr) (rn rcap : Nat) (w : World) (u0 : Vl) (k0 : KidOf b (off) ra rn rcap u0 w) (_g0 : wrongP u0 = 0)  :
  Calls Tryz.prog 77 #[exV 16 v c (some ⟨b, off, none⟩) 1 cap, .slice ra rn rcap] w fun e w' => e = .returned (agV (tri (some (u0.1 == 1)))) ∧ Below w.heap.size w w' := by
 have F := ow_facts w 16 v c (some ⟨b, off, none⟩) 1 cap
 replace k0 := k0.next F.low
 unfold ow at F k0
 obtain ⟨x0, ai0, ci0, S0, l0, con0⟩ := k0
 obtain ⟨a0, a1, a2, a3, a4, a5⟩ := S0
 replace con0 := con0 _ (Below.refl _ _)
 go_enter Tryz.func77, Tryz.ntmps77
 go_wp2_with fail
 refine con0.mono ?_
 clear con0
 rintro e w4 ⟨rfl, hb⟩
 clear a0 a1 a2 a3 a4 a5
 generalize (w.alloc (.cells #[.int .i64 16, .int .i64 v.1, .int .i64 v.2.1, .string v.2.2, .int .i64 c, .slice (some ⟨b, off, none⟩) 1 cap] 27)).alloc (.cells #[.int .i64 0, .int .i64 0, .string ⟨#[]⟩] 24) = w3 at *
 obtain ⟨S, R, hA, lt0⟩ := F
 replace S := S.next hb (by omega)
 replace R := R.next hb
 replace hA := chain hA hb
 replace lt0 := Nat.lt_of_lt_of_le lt0 hb.size
 clear hb
 have hal : Below w4.heap.size w4 (w4.alloc (.cells #[.int .i64 u0.1, .int .i64 u0.2.1, .string u0.2.2] 24)) := (Below.refl _ _).alloc (Nat.le_refl _) _
 have BA := Box.new w4 (.int .i64 u0.1) (.int .i64 u0.2.1) (.string u0.2.2) 24
 replace S := S.next hal (by omega)
 replace R := R.next hal
 replace hA := chain hA hal
 replace lt0 := Nat.lt_of_lt_of_le lt0 hal.size
 have ⟨s0, s1, s2, s3, s4, s5⟩ := S
 simp only [Nat.zero_add] at s1 s2 s3 s4 s5
 have ⟨q0, q1, q2, q3, q4, q5, q6⟩ := BA
 go_wp2_with fail
 clear s0 s1 s2 s3 s4 s5
 refine (refTruth_any _ _).mono ?_
 rintro e w6 ⟨rfl, hb⟩
 replace S := S.next hb (by omega)
 replace hA := chain hA hb
 replace lt0 := Nat.lt_of_lt_of_le lt0 hb.size
 replace R := R.next hb
 clear q0 q1 q2 q3 q4 q5 q6
 have ⟨b0, b1, b2, b3, b4, b5, b6⟩ := R
 go_wp2_with fail
 exact bodyPost_ret (v := .agg #[.int .i64 2, .int .i64 (tn (some (u0.1 == 1))), .string ⟨#[]⟩]) (by simp [results, Tryz.results77, go_sem, b1, b2, b3]) rfl ⟨rfl, below_set3 hA (by omega)⟩

set_option maxRecDepth 100000 in
set_option maxRecDepth 100000 in
set_option maxHeartbeats 4000000 in
theorem of_17t (v : Vl) (c : Int) (b off cap : Nat) (ra : Option Addr) (rn rcap : Nat) (w : World) (u0 : Vl) (k0 : KidOf b (off) ra rn rcap u0 w) (g0 : wrongP u0 = 0) (u1 : Vl) (k1 : KidOf b (off + 6) ra rn rcap u1 w) (_g1 : wrongP u1 = 0) (ht : (cls u0.1 u0.2.1 == some true) = true) :
  Calls Tryz.prog 77 #[exV 17 v c (some ⟨b, off, none⟩) 3 cap, .slice ra rn rcap] w fun e w' => e = .returned (agV u1) ∧ Below w.heap.size w w' := by
 have F := ow_facts w 17 v c (some ⟨b, off, none⟩) 3 cap
 replace k0 := k0.next F.low
 replace k1 := k1.next F.low
 unfold ow at F k0 k1
 obtain ⟨x0, ai0, ci0, S0, l0, con0⟩ := k0
 obtain ⟨a0, a1, a2, a3, a4, a5⟩ := S0
 replace con0 := con0 _ (Below.refl _ _)
 go_enter Tryz.func77, Tryz.ntmps77
 go_wp2_with fail
 refine con0.mono ?_
 clear con0
 rintro e w4 ⟨rfl, hb⟩
 clear a0 a1 a2 a3 a4 a5
 generalize (w.alloc (.cells #[.int .i64 17, .int .i64 v.1, .int .i64 v.2.1, .string v.2.2, .int .i64 c, .slice (some ⟨b, off, none⟩) 3 cap] 27)).alloc (.cells #[.int .i64 0, .int .i64 0, .string ⟨#[]⟩] 24) = w3 at *
 obtain ⟨S, R, hA, lt0⟩ := F
 replace S := S.next hb (by omega)
 replace R := R.next hb
 replace hA := chain hA hb
 replace lt0 := Nat.lt_of_lt_of_le lt0 hb.size
 replace k1 := k1.next hb
 clear hb
 have hal : Below w4.heap.size w4 (w4.alloc (.cells #[.int .i64 u0.1, .int .i64 u0.2.1, .string u0.2.2] 24)) := (Below.refl _ _).alloc (Nat.le_refl _) _
 have BA := Box.new w4 (.int .i64 u0.1) (.int .i64 u0.2.1) (.string u0.2.2) 24
 replace S := S.next hal (by omega)
 replace R := R.next hal
 replace hA := chain hA hal
 replace lt0 := Nat.lt_of_lt_of_le lt0 hal.size
 replace k1 := k1.next hal
 have ⟨s0, s1, s2, s3, s4, s5⟩ := S
 simp only [Nat.zero_add] at s1 s2 s3 s4 s5
 have ⟨q0, q1, q2, q3, q4, q5, q6⟩ := BA
 go_wp2_with fail
 clear s0 s1 s2 s3 s4 s5
 clear q0 q1 q2 q3 q4 q5 q6
 refine (refIs_any _ _ _ true _ (wrong_tru g0)).mono ?_
 rintro e w6 ⟨rfl, hb⟩
 replace S := S.next hb (by omega)
 replace hA := chain hA hb
 replace lt0 := Nat.lt_of_lt_of_le lt0 hb.size
 replace R := R.next hb
 replace k1 := k1.next hb
 clear hb
 rw [ht]
 obtain ⟨x1, ai1, ci1, S1, l1, con1⟩ := k1
 obtain ⟨a0, a1, a2, a3, a4, a5⟩ := S1
 replace con1 := con1 _ (Below.refl _ _)
 have ⟨s0, s1, s2, s3, s4, s5⟩ := S
 simp only [Nat.zero_add] at s1 s2 s3 s4 s5
 go_wp2_with fail
 clear s0 s1 s2 s3 s4 s5
 clear a0 a1 a2 a3 a4 a5
 refine (con1).mono ?_
 rintro e w7 ⟨rfl, hb⟩
 replace S := S.next hb (by omega)
 replace hA := chain hA hb
 replace lt0 := Nat.lt_of_lt_of_le lt0 hb.size
 replace R := R.next hb
 clear con1
 have ⟨b0, b1, b2, b3, b4, b5, b6⟩ := R
 go_wp2_with fail
 exact bodyPost_ret (v := agV u1) (by simp [results, Tryz.results77, go_sem, b1, b2, b3]) rfl ⟨rfl, below_set3 hA (by omega)⟩

set_option maxRecDepth 100000 in
set_option maxRecDepth 100000 in
set_option maxHeartbeats 4000000 in
theorem of_17f (v : Vl) (c : Int) (b off cap : Nat) (ra : Option Addr) (rn rcap : Nat) (w : World) (u0 : Vl) (k0 : KidOf b (off) ra rn rcap u0 w) (g0 : wrongP u0 = 0) (u2 : Vl) (k2 : KidOf b (off + 12) ra rn rcap u2 w) (_g2 : wrongP u2 = 0) (ht : (cls u0.1 u0.2.1 == some true) = false) :
  Calls Tryz.prog 77 #[exV 17 v c (some ⟨b, off, none⟩) 3 cap, .slice ra rn rcap] w fun e w' => e = .returned (agV u2) ∧ Below w.heap.size w w' := by
 have F := ow_facts w 17 v c (some ⟨b, off, none⟩) 3 cap
 replace k0 := k0.next F.low
 replace k2 := k2.next F.low
 unfold ow at F k0 k2
 obtain ⟨x0, ai0, ci0, S0, l0, con0⟩ := k0
 obtain ⟨a0, a1, a2, a3, a4, a5⟩ := S0
 replace con0 := con0 _ (Below.refl _ _)
 go_enter Tryz.func77, Tryz.ntmps77
 go_wp2_with fail
 refine con0.mono ?_
 clear con0
 rintro e w4 ⟨rfl, hb⟩
 clear a0 a1 a2 a3 a4 a5
 generalize (w.alloc (.cells #[.int .i64 17, .int .i64 v.1, .int .i64 v.2.1, .string v.2.2, .int .i64 c, .slice (some ⟨b, off, none⟩) 3 cap] 27)).alloc (.cells #[.int .i64 0, .int .i64 0, .string ⟨#[]⟩] 24) = w3 at *
 obtain ⟨S, R, hA, lt0⟩ := F
 replace S := S.next hb (by omega)
 replace R := R.next hb
 replace hA := chain hA hb
 replace lt0 := Nat.lt_of_lt_of_le lt0 hb.size
 replace k2 := k2.next hb
 clear hb
 have hal : Below w4.heap.size w4 (w4.alloc (.cells #[.int .i64 u0.1, .int .i64 u0.2.1, .string u0.2.2] 24)) := (Below.refl _ _).alloc (Nat.le_refl _) _
 have BA := Box.new w4 (.int .i64 u0.1) (.int .i64 u0.2.1) (.string u0.2.2) 24
 replace S := S.next hal (by omega)
 replace R := R.next hal
 replace hA := chain hA hal
 replace lt0 := Nat.lt_of_lt_of_le lt0 hal.size
 replace k2 := k2.next hal
 have ⟨s0, s1, s2, s3, s4, s5⟩ := S
 simp only [Nat.zero_add] at s1 s2 s3 s4 s5
 have ⟨q0, q1, q2, q3, q4, q5, q6⟩ := BA
 go_wp2_with fail
 clear s0 s1 s2 s3 s4 s5
 clear q0 q1 q2 q3 q4 q5 q6
 refine (refIs_any _ _ _ true _ (wrong_tru g0)).mono ?_
 rintro e w6 ⟨rfl, hb⟩
 replace S := S.next hb (by omega)
 replace hA := chain hA hb
 replace lt0 := Nat.lt_of_lt_of_le lt0 hb.size
 replace R := R.next hb
 replace k2 := k2.next hb
 clear hb
 rw [ht]
 obtain ⟨x2, ai2, ci2, S2, l2, con2⟩ := k2
 obtain ⟨a0, a1, a2, a3, a4, a5⟩ := S2
 replace con2 := con2 _ (Below.refl _ _)
 have ⟨s0, s1, s2, s3, s4, s5⟩ := S
 simp only [Nat.zero_add] at s1 s2 s3 s4 s5
 go_wp2_with fail
 clear s0 s1 s2 s3 s4 s5
 clear a0 a1 a2 a3 a4 a5
 refine (con2).mono ?_
 rintro e w7 ⟨rfl, hb⟩
 replace S := S.next hb (by omega)
 replace hA := chain hA hb
 replace lt0 := Nat.lt_of_lt_of_le lt0 hb.size
 replace R := R.next hb
 clear con2
 have ⟨b0, b1, b2, b3, b4, b5, b6⟩ := R
 go_wp2_with fail
 exact bodyPost_ret (v := agV u2) (by simp [results, Tryz.results77, go_sem, b1, b2, b3]) rfl ⟨rfl, below_set3 hA (by omega)⟩

set_option maxRecDepth 100000 in
set_option maxRecDepth 100000 in
set_option maxHeartbeats 4000000 in
theorem of_18n (v : Vl) (c : Int) (b off cap : Nat) (ra : Option Addr) (rn rcap : Nat) (w : World) (u0 : Vl) (k0 : KidOf b (off) ra rn rcap u0 w) (_g0 : wrongP u0 = 0) (u1 : Vl) (k1 : KidOf b (off + 6) ra rn rcap u1 w) (_g1 : wrongP u1 = 0) (hn : (u0.1 == 1) = true) :
  Calls Tryz.prog 77 #[exV 18 v c (some ⟨b, off, none⟩) 2 cap, .slice ra rn rcap] w fun e w' => e = .returned (agV u1) ∧ Below w.heap.size w w' := by
 have hn' : (u0.1 != 1) = false := by simpa using hn
 have F := ow_facts w 18 v c (some ⟨b, off, none⟩) 2 cap
 replace k0 := k0.next F.low
 replace k1 := k1.next F.low
 unfold ow at F k0 k1
 obtain ⟨x0, ai0, ci0, S0, l0, con0⟩ := k0
 obtain ⟨a0, a1, a2, a3, a4, a5⟩ := S0
 replace con0 := con0 _ (Below.refl _ _)
 go_enter Tryz.func77, Tryz.ntmps77
 go_wp2_with fail
 refine con0.mono ?_
 clear con0
 rintro e w4 ⟨rfl, hb⟩
 clear a0 a1 a2 a3 a4 a5
 generalize (w.alloc (.cells #[.int .i64 18, .int .i64 v.1, .int .i64 v.2.1, .string v.2.2, .int .i64 c, .slice (some ⟨b, off, none⟩) 2 cap] 27)).alloc (.cells #[.int .i64 0, .int .i64 0, .string ⟨#[]⟩] 24) = w3 at *
 obtain ⟨S, R, hA, lt0⟩ := F
 replace S := S.next hb (by omega)
 replace R := R.next hb
 replace hA := chain hA hb
 replace lt0 := Nat.lt_of_lt_of_le lt0 hb.size
 replace k1 := k1.next hb
 clear hb
 have hal : Below w4.heap.size w4 (w4.alloc (.cells #[.int .i64 u0.1, .int .i64 u0.2.1, .string u0.2.2] 24)) := (Below.refl _ _).alloc (Nat.le_refl _) _
 have BA := Box.new w4 (.int .i64 u0.1) (.int .i64 u0.2.1) (.string u0.2.2) 24
 replace S := S.next hal (by omega)
 replace R := R.next hal
 replace hA := chain hA hal
 replace lt0 := Nat.lt_of_lt_of_le lt0 hal.size
 replace k1 := k1.next hal
 obtain ⟨x1, ai1, ci1, S1, l1, con1⟩ := k1
 obtain ⟨a0, a1, a2, a3, a4, a5⟩ := S1
 replace con1 := con1 _ (Below.refl _ _)
 have ⟨s0, s1, s2, s3, s4, s5⟩ := S
 simp only [Nat.zero_add] at s1 s2 s3 s4 s5
 have ⟨q0, q1, q2, q3, q4, q5, q6⟩ := BA
 go_wp2_with fail
 clear s0 s1 s2 s3 s4 s5
 clear a0 a1 a2 a3 a4 a5
 clear q0 q1 q2 q3 q4 q5 q6
 refine (con1).mono ?_
 rintro e w6 ⟨rfl, hb⟩
 replace S := S.next hb (by omega)
 replace hA := chain hA hb
 replace lt0 := Nat.lt_of_lt_of_le lt0 hb.size
 replace R := R.next hb
 clear con1
 have ⟨b0, b1, b2, b3, b4, b5, b6⟩ := R
 go_wp2_with fail
 exact bodyPost_ret (v := agV u1) (by simp [results, Tryz.results77, go_sem, b1, b2, b3]) rfl ⟨rfl, below_set3 hA (by omega)⟩

set_option maxRecDepth 100000 in
set_option maxRecDepth 100000 in
set_option maxHeartbeats 4000000 in
theorem of_18k (v : Vl) (c : Int) (b off cap : Nat) (ra : Option Addr) (rn rcap : Nat) (w : World) (u0 : Vl) (k0 : KidOf b (off) ra rn rcap u0 w) (_g0 : wrongP u0 = 0) (hn : (u0.1 == 1) = false) :
  Calls Tryz.prog 77 #[exV 18 v c (some ⟨b, off, none⟩) 2 cap, .slice ra rn rcap] w fun e w' => e = .returned (agV u0) ∧ Below w.heap.size w w' := by
 have hn' : (u0.1 != 1) = true := by simpa using hn
 have F := ow_facts w 18 v c (some ⟨b, off, none⟩) 2 cap
 replace k0 := k0.next F.low
 unfold ow at F k0
 obtain ⟨x0, ai0, ci0, S0, l0, con0⟩ := k0
 obtain ⟨a0, a1, a2, a3, a4, a5⟩ := S0
 replace con0 := con0 _ (Below.refl _ _)
 go_enter Tryz.func77, Tryz.ntmps77
 go_wp2_with fail
 refine con0.mono ?_
 clear con0
 rintro e w4 ⟨rfl, hb⟩
 clear a0 a1 a2 a3 a4 a5
 generalize (w.alloc (.cells #[.int .i64 18, .int .i64 v.1, .int .i64 v.2.1, .string v.2.2, .int .i64 c, .slice (some ⟨b, off, none⟩) 2 cap] 27)).alloc (.cells #[.int .i64 0, .int .i64 0, .string ⟨#[]⟩] 24) = w3 at *
 obtain ⟨S, R, hA, lt0⟩ := F
 replace S := S.next hb (by omega)
 replace R := R.next hb
 replace hA := chain hA hb
 replace lt0 := Nat.lt_of_lt_of_le lt0 hb.size
 clear hb
 have hal : Below w4.heap.size w4 (w4.alloc (.cells #[.int .i64 u0.1, .int .i64 u0.2.1, .string u0.2.2] 24)) := (Below.refl _ _).alloc (Nat.le_refl _) _
 have BA := Box.new w4 (.int .i64 u0.1) (.int .i64 u0.2.1) (.string u0.2.2) 24
 replace S := S.next hal (by omega)
 replace R := R.next hal
 replace hA := chain hA hal
 replace lt0 := Nat.lt_of_lt_of_le lt0 hal.size
 have ⟨s0, s1, s2, s3, s4, s5⟩ := S
 simp only [Nat.zero_add] at s1 s2 s3 s4 s5
 have ⟨q0, q1, q2, q3, q4, q5, q6⟩ := BA
 have ⟨b0, b1, b2, b3, b4, b5, b6⟩ := R
 go_wp2_with fail
 exact bodyPost_ret (v := agV u0) (by simp [results, Tryz.results77, go_sem, b1, b2, b3]) rfl ⟨rfl, below_set3 hA (by omega)⟩

set_option maxRecDepth 100000 in
set_option maxRecDepth 100000 in
set_option maxHeartbeats 4000000 in
theorem of_4 (v : Vl) (c : Int) (b off cap : Nat) (ra : Option Addr) (rn rcap : Nat) (w : World) (u0 : Vl) (k0 : KidOf b (off) ra rn rcap u0 w) (g0 : wrongP u0 = 0) (u1 : Vl) (k1 : KidOf b (off + 6) ra rn rcap u1 w) (g1 : wrongP u1 = 0) (m0 m1 : Bool) (e0 : (u0.1 != 1) = m0) (e1 : (u1.1 != 1) = m1) :
  Calls Tryz.prog 77 #[exV 4 v c (some ⟨b, off, none⟩) 2 cap, .slice ra rn rcap] w fun e w' => e = .returned (agV (andP u0 u1)) ∧ Below w.heap.size w w' := by
 have F := ow_facts w 4 v c (some ⟨b, off, none⟩) 2 cap
 replace k0 := k0.next F.low
 replace k1 := k1.next F.low
 unfold ow at F k0 k1
 obtain ⟨x0, ai0, ci0, S0, l0, con0⟩ := k0
 obtain ⟨a0, a1, a2, a3, a4, a5⟩ := S0
 replace con0 := con0 _ (Below.refl _ _)
 go_enter Tryz.func77, Tryz.ntmps77
 go_wp2_with fail
 refine con0.mono ?_
 clear con0
 rintro e w4 ⟨rfl, hb⟩
 clear a0 a1 a2 a3 a4 a5
 generalize (w.alloc (.cells #[.int .i64 4, .int .i64 v.1, .int .i64 v.2.1, .string v.2.2, .int .i64 c, .slice (some ⟨b, off, none⟩) 2 cap] 27)).alloc (.cells #[.int .i64 0, .int .i64 0, .string ⟨#[]⟩] 24) = w3 at *
 obtain ⟨S, R, hA, lt0⟩ := F
 replace S := S.next hb (by omega)
 replace R := R.next hb
 replace hA := chain hA hb
 replace lt0 := Nat.lt_of_lt_of_le lt0 hb.size
 replace k1 := k1.next hb
 clear hb
 have hal : Below w4.heap.size w4 (w4.alloc (.cells #[.int .i64 u0.1, .int .i64 u0.2.1, .string u0.2.2] 24)) := (Below.refl _ _).alloc (Nat.le_refl _) _
 have BA := Box.new w4 (.int .i64 u0.1) (.int .i64 u0.2.1) (.string u0.2.2) 24
 replace S := S.next hal (by omega)
 replace R := R.next hal
 replace hA := chain hA hal
 replace lt0 := Nat.lt_of_lt_of_le lt0 hal.size
 replace k1 := k1.next hal
 obtain ⟨x1, ai1, ci1, S1, l1, con1⟩ := k1
 obtain ⟨a0, a1, a2, a3, a4, a5⟩ := S1
 replace con1 := con1 _ (Below.refl _ _)
 have ⟨s0, s1, s2, s3, s4, s5⟩ := S
 simp only [Nat.zero_add] at s1 s2 s3 s4 s5
 have ⟨q0, q1, q2, q3, q4, q5, q6⟩ := BA
 go_wp2_with fail
 clear s0 s1 s2 s3 s4 s5
 clear a0 a1 a2 a3 a4 a5
 clear q0 q1 q2 q3 q4 q5 q6
 refine (con1).mono ?_
 rintro e w6 ⟨rfl, hb⟩
 replace S := S.next hb (by omega)
 replace hA := chain hA hb
 replace lt0 := Nat.lt_of_lt_of_le lt0 hb.size
 replace R := R.next hb
 replace BA := BA.next hb
 clear con1
 have hal2 : Below w6.heap.size w6 (w6.alloc (.cells #[.int .i64 u1.1, .int .i64 u1.2.1, .string u1.2.2] 24)) := (Below.refl _ _).alloc (Nat.le_refl _) _
 have BB := Box.new w6 (.int .i64 u1.1) (.int .i64 u1.2.1) (.string u1.2.2) 24
 replace S := S.next hal2 (by omega)
 replace R := R.next hal2
 replace BA := BA.next hal2
 replace hA := chain hA hal2
 replace lt0 := Nat.lt_of_lt_of_le lt0 hal2.size
 obtain ⟨w1', w4'⟩ := wrong_kind g0
 have n0 : (u0.1 != 1) = m0 := e0
 have n1 : (u1.1 != 1) = m1 := e1
 cases m0 <;> cases m1
 all_goals
  have ⟨s0, s1, s2, s3, s4, s5⟩ := S
  simp only [Nat.zero_add] at s1 s2 s3 s4 s5
  have ⟨q0, q1, q2, q3, q4, q5, q6⟩ := BA
  have ⟨r0, r1, r2, r3, r4, r5, r6⟩ := BB
  go_wp2_with fail
  refine (refOrder_any _ _ _ _ _ _ _ w1' w4').mono ?_
  rintro e w8 ⟨rfl, hb8⟩
  have S8 := S.next hb8 (by omega)
  have R8 := R.next hb8
  have BA8 := BA.next hb8
  have BB8 := BB.next hb8
  have hA8 := chain hA hb8
  have lt8 := Nat.lt_of_lt_of_le lt0 hb8.size
  generalize cmpV u0.1 u0.2.1 u0.2.2 u1.1 u1.2.1 u1.2.2 = oo at *
  clear s0 s1 s2 s3 s4 s5 q0 q1 q2 q3 q4 q5 q6 r0 r1 r2 r3 r4 r5 r6
  have ⟨s0, s1, s2, s3, s4, s5⟩ := S8
  simp only [Nat.zero_add] at s1 s2 s3 s4 s5
  have ⟨q0, q1, q2, q3, q4, q5, q6⟩ := BA8
  have ⟨r0, r1, r2, r3, r4, r5, r6⟩ := BB8
  go_wp2_with fail
  refine (refAnd_any _ _ _ _ _ _ _ (wrong_tru g0) (wrong_tru g1)).mono ?_
  rintro e w9 ⟨rfl, hb9⟩
  have hA9 := chain hA8 hb9
  have ⟨b0, b1, b2, b3, b4, b5, b6⟩ := R8.next hb9
  have lt9 := Nat.lt_of_lt_of_le lt8 hb9.size
  clear s0 s1 s2 s3 s4 s5 q0 q1 q2 q3 q4 q5 q6 r0 r1 r2 r3 r4 r5 r6
  go_wp2_with fail
  exact bodyPost_ret (v := .agg #[.int .i64 (tk (and3 (cls u0.1 u0.2.1) (cls u1.1 u1.2.1))), .int .i64 (tn (and3 (cls u0.1 u0.2.1) (cls u1.1 u1.2.1))), .string ⟨#[]⟩]) (by simp [results, Tryz.results77, go_sem, b1, b2, b3]) rfl ⟨rfl, below_set3 hA9 (by omega)⟩
end Go.Proofs.YtfojonhblblbjaaGreat
/- Of: or, and what is reckoned. -/
namespace Go.Proofs.YtfojonhblblbjaaGreat
open Go.RowKit

set_option maxRecDepth 100000 in
set_option maxRecDepth 100000 in
set_option maxHeartbeats 4000000 in
theorem of_5 (v : Vl) (c : Int) (b off cap : Nat) (ra : Option Addr) (rn rcap : Nat) (w : World) (u0 : Vl) (k0 : KidOf b (off) ra rn rcap u0 w) (g0 : wrongP u0 = 0) (u1 : Vl) (k1 : KidOf b (off + 6) ra rn rcap u1 w) (g1 : wrongP u1 = 0) (m0 m1 : Bool) (e0 : (u0.1 != 1) = m0) (e1 : (u1.1 != 1) = m1) :
  Calls Tryz.prog 77 #[exV 5 v c (some ⟨b, off, none⟩) 2 cap, .slice ra rn rcap] w fun e w' => e = .returned (agV (orP u0 u1)) ∧ Below w.heap.size w w' := by
 have F := ow_facts w 5 v c (some ⟨b, off, none⟩) 2 cap
 replace k0 := k0.next F.low
 replace k1 := k1.next F.low
 unfold ow at F k0 k1
 obtain ⟨x0, ai0, ci0, S0, l0, con0⟩ := k0
 obtain ⟨a0, a1, a2, a3, a4, a5⟩ := S0
 replace con0 := con0 _ (Below.refl _ _)
 go_enter Tryz.func77, Tryz.ntmps77
 go_wp2_with fail
 refine con0.mono ?_
 clear con0
 rintro e w4 ⟨rfl, hb⟩
 clear a0 a1 a2 a3 a4 a5
 generalize (w.alloc (.cells #[.int .i64 5, .int .i64 v.1, .int .i64 v.2.1, .string v.2.2, .int .i64 c, .slice (some ⟨b, off, none⟩) 2 cap] 27)).alloc (.cells #[.int .i64 0, .int .i64 0, .string ⟨#[]⟩] 24) = w3 at *
 obtain ⟨S, R, hA, lt0⟩ := F
 replace S := S.next hb (by omega)
 replace R := R.next hb
 replace hA := chain hA hb
 replace lt0 := Nat.lt_of_lt_of_le lt0 hb.size
 replace k1 := k1.next hb
 clear hb
 have hal : Below w4.heap.size w4 (w4.alloc (.cells #[.int .i64 u0.1, .int .i64 u0.2.1, .string u0.2.2] 24)) := (Below.refl _ _).alloc (Nat.le_refl _) _
 have BA := Box.new w4 (.int .i64 u0.1) (.int .i64 u0.2.1) (.string u0.2.2) 24
 replace S := S.next hal (by omega)
 replace R := R.next hal
 replace hA := chain hA hal
 replace lt0 := Nat.lt_of_lt_of_le lt0 hal.size
 replace k1 := k1.next hal
 obtain ⟨x1, ai1, ci1, S1, l1, con1⟩ := k1
 obtain ⟨a0, a1, a2, a3, a4, a5⟩ := S1
 replace con1 := con1 _ (Below.refl _ _)
 have ⟨s0, s1, s2, s3, s4, s5⟩ := S
 simp only [Nat.zero_add] at s1 s2 s3 s4 s5
 have ⟨q0, q1, q2, q3, q4, q5, q6⟩ := BA
 go_wp2_with fail
 clear s0 s1 s2 s3 s4 s5
 clear a0 a1 a2 a3 a4 a5
 clear q0 q1 q2 q3 q4 q5 q6
 refine (con1).mono ?_
 rintro e w6 ⟨rfl, hb⟩
 replace S := S.next hb (by omega)
 replace hA := chain hA hb
 replace lt0 := Nat.lt_of_lt_of_le lt0 hb.size
 replace R := R.next hb
 replace BA := BA.next hb
 clear con1
 have hal2 : Below w6.heap.size w6 (w6.alloc (.cells #[.int .i64 u1.1, .int .i64 u1.2.1, .string u1.2.2] 24)) := (Below.refl _ _).alloc (Nat.le_refl _) _
 have BB := Box.new w6 (.int .i64 u1.1) (.int .i64 u1.2.1) (.string u1.2.2) 24
 replace S := S.next hal2 (by omega)
 replace R := R.next hal2
 replace BA := BA.next hal2
 replace hA := chain hA hal2
 replace lt0 := Nat.lt_of_lt_of_le lt0 hal2.size
 obtain ⟨w1', w4'⟩ := wrong_kind g0
 have n0 : (u0.1 != 1) = m0 := e0
 have n1 : (u1.1 != 1) = m1 := e1
 cases m0 <;> cases m1
 all_goals
  have ⟨s0, s1, s2, s3, s4, s5⟩ := S
  simp only [Nat.zero_add] at s1 s2 s3 s4 s5
  have ⟨q0, q1, q2, q3, q4, q5, q6⟩ := BA
  have ⟨r0, r1, r2, r3, r4, r5, r6⟩ := BB
  go_wp2_with fail
  refine (refOrder_any _ _ _ _ _ _ _ w1' w4').mono ?_
  rintro e w8 ⟨rfl, hb8⟩
  have S8 := S.next hb8 (by omega)
  have R8 := R.next hb8
  have BA8 := BA.next hb8
  have BB8 := BB.next hb8
  have hA8 := chain hA hb8
  have lt8 := Nat.lt_of_lt_of_le lt0 hb8.size
  generalize cmpV u0.1 u0.2.1 u0.2.2 u1.1 u1.2.1 u1.2.2 = oo at *
  clear s0 s1 s2 s3 s4 s5 q0 q1 q2 q3 q4 q5 q6 r0 r1 r2 r3 r4 r5 r6
  have ⟨s0, s1, s2, s3, s4, s5⟩ := S8
  simp only [Nat.zero_add] at s1 s2 s3 s4 s5
  have ⟨q0, q1, q2, q3, q4, q5, q6⟩ := BA8
  have ⟨r0, r1, r2, r3, r4, r5, r6⟩ := BB8
  go_wp2_with fail
  refine (refOr_any _ _ _ _ _ _ _ (wrong_tru g0) (wrong_tru g1)).mono ?_
  rintro e w9 ⟨rfl, hb9⟩
  have hA9 := chain hA8 hb9
  have ⟨b0, b1, b2, b3, b4, b5, b6⟩ := R8.next hb9
  have lt9 := Nat.lt_of_lt_of_le lt8 hb9.size
  clear s0 s1 s2 s3 s4 s5 q0 q1 q2 q3 q4 q5 q6 r0 r1 r2 r3 r4 r5 r6
  go_wp2_with fail
  exact bodyPost_ret (v := .agg #[.int .i64 (tk (or3 (cls u0.1 u0.2.1) (cls u1.1 u1.2.1))), .int .i64 (tn (or3 (cls u0.1 u0.2.1) (cls u1.1 u1.2.1))), .string ⟨#[]⟩]) (by simp [results, Tryz.results77, go_sem, b1, b2, b3]) rfl ⟨rfl, below_set3 hA9 (by omega)⟩

set_option maxRecDepth 100000 in
set_option maxRecDepth 100000 in
set_option maxHeartbeats 4000000 in
theorem of_12 (v : Vl) (c : Int) (b off cap : Nat) (ra : Option Addr) (rn rcap : Nat) (w : World) (u0 : Vl) (k0 : KidOf b (off) ra rn rcap u0 w) (g0 : wrongP u0 = 0) (u1 : Vl) (k1 : KidOf b (off + 6) ra rn rcap u1 w) (g1 : wrongP u1 = 0) (m0 m1 : Bool) (e0 : (u0.1 != 1) = m0) (e1 : (u1.1 != 1) = m1) :
  Calls Tryz.prog 77 #[exV 12 v c (some ⟨b, off, none⟩) 2 cap, .slice ra rn rcap] w fun e w' => e = .returned (agV (recP 43 u0 u1)) ∧ Below w.heap.size w w' := by
 have F := ow_facts w 12 v c (some ⟨b, off, none⟩) 2 cap
 replace k0 := k0.next F.low
 replace k1 := k1.next F.low
 unfold ow at F k0 k1
 obtain ⟨x0, ai0, ci0, S0, l0, con0⟩ := k0
 obtain ⟨a0, a1, a2, a3, a4, a5⟩ := S0
 replace con0 := con0 _ (Below.refl _ _)
 go_enter Tryz.func77, Tryz.ntmps77
 go_wp2_with fail
 refine con0.mono ?_
 clear con0
 rintro e w4 ⟨rfl, hb⟩
 clear a0 a1 a2 a3 a4 a5
 generalize (w.alloc (.cells #[.int .i64 12, .int .i64 v.1, .int .i64 v.2.1, .string v.2.2, .int .i64 c, .slice (some ⟨b, off, none⟩) 2 cap] 27)).alloc (.cells #[.int .i64 0, .int .i64 0, .string ⟨#[]⟩] 24) = w3 at *
 obtain ⟨S, R, hA, lt0⟩ := F
 replace S := S.next hb (by omega)
 replace R := R.next hb
 replace hA := chain hA hb
 replace lt0 := Nat.lt_of_lt_of_le lt0 hb.size
 replace k1 := k1.next hb
 clear hb
 have hal : Below w4.heap.size w4 (w4.alloc (.cells #[.int .i64 u0.1, .int .i64 u0.2.1, .string u0.2.2] 24)) := (Below.refl _ _).alloc (Nat.le_refl _) _
 have BA := Box.new w4 (.int .i64 u0.1) (.int .i64 u0.2.1) (.string u0.2.2) 24
 replace S := S.next hal (by omega)
 replace R := R.next hal
 replace hA := chain hA hal
 replace lt0 := Nat.lt_of_lt_of_le lt0 hal.size
 replace k1 := k1.next hal
 obtain ⟨x1, ai1, ci1, S1, l1, con1⟩ := k1
 obtain ⟨a0, a1, a2, a3, a4, a5⟩ := S1
 replace con1 := con1 _ (Below.refl _ _)
 have ⟨s0, s1, s2, s3, s4, s5⟩ := S
 simp only [Nat.zero_add] at s1 s2 s3 s4 s5
 have ⟨q0, q1, q2, q3, q4, q5, q6⟩ := BA
 go_wp2_with fail
 clear s0 s1 s2 s3 s4 s5
 clear a0 a1 a2 a3 a4 a5
 clear q0 q1 q2 q3 q4 q5 q6
 refine (con1).mono ?_
 rintro e w6 ⟨rfl, hb⟩
 replace S := S.next hb (by omega)
 replace hA := chain hA hb
 replace lt0 := Nat.lt_of_lt_of_le lt0 hb.size
 replace R := R.next hb
 replace BA := BA.next hb
 clear con1
 have hal2 : Below w6.heap.size w6 (w6.alloc (.cells #[.int .i64 u1.1, .int .i64 u1.2.1, .string u1.2.2] 24)) := (Below.refl _ _).alloc (Nat.le_refl _) _
 have BB := Box.new w6 (.int .i64 u1.1) (.int .i64 u1.2.1) (.string u1.2.2) 24
 replace S := S.next hal2 (by omega)
 replace R := R.next hal2
 replace BA := BA.next hal2
 replace hA := chain hA hal2
 replace lt0 := Nat.lt_of_lt_of_le lt0 hal2.size
 obtain ⟨w1', w4'⟩ := wrong_kind g0
 have n0 : (u0.1 != 1) = m0 := e0
 have n1 : (u1.1 != 1) = m1 := e1
 cases m0 <;> cases m1
 all_goals
  have ⟨s0, s1, s2, s3, s4, s5⟩ := S
  simp only [Nat.zero_add] at s1 s2 s3 s4 s5
  have ⟨q0, q1, q2, q3, q4, q5, q6⟩ := BA
  have ⟨r0, r1, r2, r3, r4, r5, r6⟩ := BB
  go_wp2_with fail
  refine (refOrder_any _ _ _ _ _ _ _ w1' w4').mono ?_
  rintro e w8 ⟨rfl, hb8⟩
  have S8 := S.next hb8 (by omega)
  have R8 := R.next hb8
  have BA8 := BA.next hb8
  have BB8 := BB.next hb8
  have hA8 := chain hA hb8
  have lt8 := Nat.lt_of_lt_of_le lt0 hb8.size
  generalize cmpV u0.1 u0.2.1 u0.2.2 u1.1 u1.2.1 u1.2.2 = oo at *
  clear s0 s1 s2 s3 s4 s5 q0 q1 q2 q3 q4 q5 q6 r0 r1 r2 r3 r4 r5 r6
  have ⟨s0, s1, s2, s3, s4, s5⟩ := S8
  simp only [Nat.zero_add] at s1 s2 s3 s4 s5
  have ⟨q0, q1, q2, q3, q4, q5, q6⟩ := BA8
  have ⟨r0, r1, r2, r3, r4, r5, r6⟩ := BB8
  go_wp2_with fail
  refine (refReckon_any 43 _ _ _ _ _ _ _ (wrong_num g0) (wrong_num g1)).mono ?_
  rintro e w9 ⟨rfl, hb9⟩
  have hA9 := chain hA8 hb9
  have ⟨b0, b1, b2, b3, b4, b5, b6⟩ := R8.next hb9
  have lt9 := Nat.lt_of_lt_of_le lt8 hb9.size
  clear s0 s1 s2 s3 s4 s5 q0 q1 q2 q3 q4 q5 q6 r0 r1 r2 r3 r4 r5 r6
  go_wp2_with fail
  exact bodyPost_ret (v := .agg #[.int .i64 (optK (recO 43 u0.1 u0.2.1 u1.1 u1.2.1)), .int .i64 (optN (recO 43 u0.1 u0.2.1 u1.1 u1.2.1)), .string ⟨#[]⟩]) (by simp [results, Tryz.results77, go_sem, b1, b2, b3]) rfl ⟨rfl, below_set3 hA9 (by omega)⟩

set_option maxRecDepth 100000 in
set_option maxRecDepth 100000 in
set_option maxHeartbeats 4000000 in
theorem of_13 (v : Vl) (c : Int) (b off cap : Nat) (ra : Option Addr) (rn rcap : Nat) (w : World) (u0 : Vl) (k0 : KidOf b (off) ra rn rcap u0 w) (g0 : wrongP u0 = 0) (u1 : Vl) (k1 : KidOf b (off + 6) ra rn rcap u1 w) (g1 : wrongP u1 = 0) (m0 m1 : Bool) (e0 : (u0.1 != 1) = m0) (e1 : (u1.1 != 1) = m1) :
  Calls Tryz.prog 77 #[exV 13 v c (some ⟨b, off, none⟩) 2 cap, .slice ra rn rcap] w fun e w' => e = .returned (agV (recP 45 u0 u1)) ∧ Below w.heap.size w w' := by
 have F := ow_facts w 13 v c (some ⟨b, off, none⟩) 2 cap
 replace k0 := k0.next F.low
 replace k1 := k1.next F.low
 unfold ow at F k0 k1
 obtain ⟨x0, ai0, ci0, S0, l0, con0⟩ := k0
 obtain ⟨a0, a1, a2, a3, a4, a5⟩ := S0
 replace con0 := con0 _ (Below.refl _ _)
 go_enter Tryz.func77, Tryz.ntmps77
 go_wp2_with fail
 refine con0.mono ?_
 clear con0
 rintro e w4 ⟨rfl, hb⟩
 clear a0 a1 a2 a3 a4 a5
 generalize (w.alloc (.cells #[.int .i64 13, .int .i64 v.1, .int .i64 v.2.1, .string v.2.2, .int .i64 c, .slice (some ⟨b, off, none⟩) 2 cap] 27)).alloc (.cells #[.int .i64 0, .int .i64 0, .string ⟨#[]⟩] 24) = w3 at *
 obtain ⟨S, R, hA, lt0⟩ := F
 replace S := S.next hb (by omega)
 replace R := R.next hb
 replace hA := chain hA hb
 replace lt0 := Nat.lt_of_lt_of_le lt0 hb.size
 replace k1 := k1.next hb
 clear hb
 have hal : Below w4.heap.size w4 (w4.alloc (.cells #[.int .i64 u0.1, .int .i64 u0.2.1, .string u0.2.2] 24)) := (Below.refl _ _).alloc (Nat.le_refl _) _
 have BA := Box.new w4 (.int .i64 u0.1) (.int .i64 u0.2.1) (.string u0.2.2) 24
 replace S := S.next hal (by omega)
 replace R := R.next hal
 replace hA := chain hA hal
 replace lt0 := Nat.lt_of_lt_of_le lt0 hal.size
 replace k1 := k1.next hal
 obtain ⟨x1, ai1, ci1, S1, l1, con1⟩ := k1
 obtain ⟨a0, a1, a2, a3, a4, a5⟩ := S1
 replace con1 := con1 _ (Below.refl _ _)
 have ⟨s0, s1, s2, s3, s4, s5⟩ := S
 simp only [Nat.zero_add] at s1 s2 s3 s4 s5
 have ⟨q0, q1, q2, q3, q4, q5, q6⟩ := BA
 go_wp2_with fail
 clear s0 s1 s2 s3 s4 s5
 clear a0 a1 a2 a3 a4 a5
 clear q0 q1 q2 q3 q4 q5 q6
 refine (con1).mono ?_
 rintro e w6 ⟨rfl, hb⟩
 replace S := S.next hb (by omega)
 replace hA := chain hA hb
 replace lt0 := Nat.lt_of_lt_of_le lt0 hb.size
 replace R := R.next hb
 replace BA := BA.next hb
 clear con1
 have hal2 : Below w6.heap.size w6 (w6.alloc (.cells #[.int .i64 u1.1, .int .i64 u1.2.1, .string u1.2.2] 24)) := (Below.refl _ _).alloc (Nat.le_refl _) _
 have BB := Box.new w6 (.int .i64 u1.1) (.int .i64 u1.2.1) (.string u1.2.2) 24
 replace S := S.next hal2 (by omega)
 replace R := R.next hal2
 replace BA := BA.next hal2
 replace hA := chain hA hal2
 replace lt0 := Nat.lt_of_lt_of_le lt0 hal2.size
 obtain ⟨w1', w4'⟩ := wrong_kind g0
 have n0 : (u0.1 != 1) = m0 := e0
 have n1 : (u1.1 != 1) = m1 := e1
 cases m0 <;> cases m1
 all_goals
  have ⟨s0, s1, s2, s3, s4, s5⟩ := S
  simp only [Nat.zero_add] at s1 s2 s3 s4 s5
  have ⟨q0, q1, q2, q3, q4, q5, q6⟩ := BA
  have ⟨r0, r1, r2, r3, r4, r5, r6⟩ := BB
  go_wp2_with fail
  refine (refOrder_any _ _ _ _ _ _ _ w1' w4').mono ?_
  rintro e w8 ⟨rfl, hb8⟩
  have S8 := S.next hb8 (by omega)
  have R8 := R.next hb8
  have BA8 := BA.next hb8
  have BB8 := BB.next hb8
  have hA8 := chain hA hb8
  have lt8 := Nat.lt_of_lt_of_le lt0 hb8.size
  generalize cmpV u0.1 u0.2.1 u0.2.2 u1.1 u1.2.1 u1.2.2 = oo at *
  clear s0 s1 s2 s3 s4 s5 q0 q1 q2 q3 q4 q5 q6 r0 r1 r2 r3 r4 r5 r6
  have ⟨s0, s1, s2, s3, s4, s5⟩ := S8
  simp only [Nat.zero_add] at s1 s2 s3 s4 s5
  have ⟨q0, q1, q2, q3, q4, q5, q6⟩ := BA8
  have ⟨r0, r1, r2, r3, r4, r5, r6⟩ := BB8
  go_wp2_with fail
  refine (refReckon_any 45 _ _ _ _ _ _ _ (wrong_num g0) (wrong_num g1)).mono ?_
  rintro e w9 ⟨rfl, hb9⟩
  have hA9 := chain hA8 hb9
  have ⟨b0, b1, b2, b3, b4, b5, b6⟩ := R8.next hb9
  have lt9 := Nat.lt_of_lt_of_le lt8 hb9.size
  clear s0 s1 s2 s3 s4 s5 q0 q1 q2 q3 q4 q5 q6 r0 r1 r2 r3 r4 r5 r6
  go_wp2_with fail
  exact bodyPost_ret (v := .agg #[.int .i64 (optK (recO 45 u0.1 u0.2.1 u1.1 u1.2.1)), .int .i64 (optN (recO 45 u0.1 u0.2.1 u1.1 u1.2.1)), .string ⟨#[]⟩]) (by simp [results, Tryz.results77, go_sem, b1, b2, b3]) rfl ⟨rfl, below_set3 hA9 (by omega)⟩
end Go.Proofs.YtfojonhblblbjaaGreat
