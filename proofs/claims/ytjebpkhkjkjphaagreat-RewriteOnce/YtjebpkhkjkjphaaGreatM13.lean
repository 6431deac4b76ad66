/- Together: IHb, IA, IB, IW, IC, ICb, ICc. -/
import Derived.Deep.CutBlock
import Derived.Deep.DeepCutAuto
import Derived.Test.YtjebpkhkjkjphaaGreatM12
import Derived.Test.YtjebpkhkjkjphaaGreatM11
namespace Go.Proofs.YtjebpkhkjkjphaaGreat
open Go.RowKit Go.Lib Go.Shelf
set_option maxRecDepth 100000
set_option maxHeartbeats 16000000
theorem yi {B g:Nat} {W0 W:World} (h:Below B W0 W) (hg:B≤g) (v1 v2 v3 v4 v5 v6:Value):Below B W0 ((((((W.setCell ⟨g,1,none⟩ (v1)).setCell ⟨g,2,none⟩ (v2)).setCell ⟨g,3,none⟩ (v3)).setCell ⟨g,4,none⟩ (v4)).setCell ⟨g,5,none⟩ (v5)).setCell ⟨g,6,none⟩ (v6)) :=
 (((((h.setCell (p:=⟨g,1,none⟩) hg v1).setCell (p:=⟨g,2,none⟩) hg v2).setCell (p:=⟨g,3,none⟩) hg v3).setCell (p:=⟨g,4,none⟩) hg v4).setCell (p:=⟨g,5,none⟩) hg v5).setCell (p:=⟨g,6,none⟩) hg v6
theorem qo {S:Nat→Prop} {g:Nat} {W0 W:World} (h:ah S W0 W) (hg:¬ S g) (v1 v2 v3 v4 v5 v6:Value):ah S W0 ((((((W.setCell ⟨g,1,none⟩ (v1)).setCell ⟨g,2,none⟩ (v2)).setCell ⟨g,3,none⟩ (v3)).setCell ⟨g,4,none⟩ (v4)).setCell ⟨g,5,none⟩ (v5)).setCell ⟨g,6,none⟩ (v6)) :=
 (((((h.set g 1 v1 hg).set g 2 v2 hg).set g 3 v3 hg).set g 4 v4 hg).set g 5 v5 hg).set g 6 v6 hg
theorem BU {g:Nat} {T:TypeId} {W:World} {c0 c1 c2 c3 c4 c5 c6:Value} (h:W.heap[g]? = some (.cells #[c0,c1,c2,c3,c4,c5,c6] T (0,0))) (v1 v2 v3 v4 v5 v6:Value):((((((W.setCell ⟨g,1,none⟩ (v1)).setCell ⟨g,2,none⟩ (v2)).setCell ⟨g,3,none⟩ (v3)).setCell ⟨g,4,none⟩ (v4)).setCell ⟨g,5,none⟩ (v5)).setCell ⟨g,6,none⟩ (v6)).heap[g]? = some (.cells #[c0,v1,v2,v3,v4,v5,v6] T (0,0)):=by
 have h1:=Hn _ g 1 _ _ v1 h;have h2:=Hn _ g 2 _ _ v2 h1;have h3:=Hn _ g 3 _ _ v3 h2;have h4:=Hn _ g 4 _ _ v4 h3;have h5:=Hn _ g 5 _ _ v5 h4;exact Hn _ g 6 _ _ v6 h5
theorem De {g:Ag} {a:Option Addr} {c:Nat}:∀ u ∈ Ep g a c,u.oneCell'=true:=by
 intro u hu;simp only [Ep,H6,I4,or_false] at hu;rcases hu with rfl | rfl | rfl | rfl | rfl | rfl | rfl <;> rfl
theorem bR.eI {α:Type} {En:(Nat→Prop)→World→α→List Value→Prop} (ok:qM En) {e size base:Nat} {S:Nat→Prop} {W W1:World} {v:Value} {l:List α} (h:bR En e size base S W v l) (hk:ah (fun b=>b<W.heap.size) W W1):bR En e size base S W1 v l:=by
 obtain ⟨xs,h1,h2⟩:=h;refine ⟨xs,?_,fun i hi=>?_⟩
 ·obtain ⟨h0,⟨h1,h2⟩ | ⟨k,cap,cur,h1,h2,h3,h4⟩⟩:=h1
  ·exact ⟨h0,.inl ⟨h1,h2⟩⟩
  ·exact ⟨h0,.inr ⟨k,cap,cur,h1,h2,(hk.2 k (ae h3) (ae h3)).trans h3,h4⟩⟩
 ·obtain ⟨cs,c1,c2,c3⟩:=h2 i hi;exact ⟨cs,c1,c2,ok.mono (fun b hb' _=>⟨hb'.1,Hi hb'.2.1 hk.1,hb'.2.2⟩) (ok.next (hk.mono fun b h=>h.2.1) c3)⟩
def yE:Ex:=.mk 0 fV 0 []
def jw (g:Ag):Ag:=(g.1,if g.1=1 then yE else il (fun c=>c) g.2)
theorem Fb:(Tryz.prog.info? 67).map (fun i=>(i.zero,i.size,i.bytes))=some (some (.agg #[.int .i64 0,.int .i64 0,.int .i64 0,.int .i64 0,.string ⟨#[]⟩,.int .i64 0,.slice none 0 0]),7,80):=by kernel_rfl
theorem Bh {gs:List Ag} {j:Nat} (h:j<gs.length):(gs.take (j+1)).map jw=(gs.take j).map jw ++ [jw gs[j]]:=by
 rw [Ht h,IM];rfl
theorem pg (P : Int → Prop) (gs : List Ag) (a : Option Addr) (cap : Nat) (w : World) (hx : fJ w.heap.size w a gs) (hw : ∀ g ∈ gs, g.1 ≠ 1 → dz P g.2) (hl : gs.length ≤ 100000) :
    Calls Tryz.prog 26 #[.slice a gs.length cap] w fun e w' => ∃ a' c', e = .returned (.slice a' gs.length c') ∧ nz (fun b => w.heap.size ≤ b) w' a' (gs.map jw) ∧ Below w.heap.size w w' := by
  obtain ⟨i0, hi, hj0, hj1, hj2⟩ := info_parts Fb
  have HW : Hid (∀ g ∈ gs, g.1 ≠ 1 → dz P g.2) := hw
  have HX : Hid (fJ w.heap.size w a gs) := hx
  clear hw hx
  go_enter Tryz.func26, Tryz.ntmps26
  go_wp2_with fail
  go_loopw [3, 9] (fun s i wr => ∃ j : Nat, j ≤ gs.length ∧ i = .int .i64 j ∧ bR Gg 67 7 w.heap.size (fun b => w.heap.size ≤ b) wr s ((gs.take j).map jw) ∧ Below w.heap.size w wr) (fun _ i _ => gs.length - (intOf i).toNat)
  case atStart => exact ⟨0, Hl _, rfl, by rw [List.take_zero]; exact bR.nil _ _ _ _ _ _, He _ _⟩
  case round =>
    obtain ⟨j, hj, rfl, OS, hb⟩ := hrel
    by_cases hlt : j < gs.length
    · obtain ⟨b, off, ai, ci, rfl, hbl, x0, sx, kx⟩ := (fJ.next hb (Hd _) HX.out).elem hlt
      obtain ⟨x1, x2, x3, x4, x5, x6⟩ := sx
      simp only [IZ, Nat.reduceAdd] at x2 x3 x4 x5 x6
      simp only [← IZ] at x2 x3 x4 x5 x6
      have hjz : (j : Int) < (gs.length : Int) := by omega
      have hal : Below wr.heap.size wr (wr.alloc (.cells #[.int .i64 gs[j].1, .int .i64 gs[j].2.k, .int .i64 gs[j].2.v.1, .int .i64 gs[j].2.v.2.1, .string gs[j].2.v.2.2, .int .i64 gs[j].2.c, .slice ai gs[j].2.ks.length ci] 67)) := (He _ _).alloc (Hd _) _
      have qk := an wr #[.int .i64 gs[j].1, .int .i64 gs[j].2.k, .int .i64 gs[j].2.v.1, .int .i64 gs[j].2.v.2.1, .string gs[j].2.v.2.2, .int .i64 gs[j].2.c, .slice ai gs[j].2.ks.length ci] 67
      have hz := hb.size
      have kx := (aO.next hal hz kx).up (HJ hz hal.size)
      have hba := chain hb hal
      have HOS : Hid (bR Gg 67 7 w.heap.size (fun b => w.heap.size ≤ b) wr u3 ((gs.take j).map jw)) := OS
      have hwj := HW.out gs[j] (Hm hlt)
      have HWJ : Hid (gs[j].1 ≠ 1 → dz P gs[j].2) := hwj
      have HT : Hid ((gs.take (j + 1)).map jw = (gs.take j).map jw ++ [jw gs[j]]) := Bh hlt
      have hln : ((gs.take j).map jw).length = j := by rw [Ik, Ij]; omega
      have HLN : Hid (((gs.take j).map jw).length = j) := hln
      have hnb := OS.lt
      clear hln hwj OS
      go_upto_region 5 with fail
      clear x0 x1 x2 x3 x4 x5 x6
      generalize wr.alloc (.cells #[.int .i64 gs[j].1, .int .i64 gs[j].2.k, .int .i64 gs[j].2.v.1, .int .i64 gs[j].2.v.2.1, .string gs[j].2.v.2.2, .int .i64 gs[j].2.c, .slice ai gs[j].2.ks.length ci] 67) = wa at *
      obtain ⟨k0, k1, k2, k3, k4, k5, k6⟩ := oz qk
      have alb : Below wa.heap.size wa (wa.alloc (.cells #[.int .i64 gs[j].1, .int .i64 0, .int .i64 0, .int .i64 0, .string ⟨#[]⟩, .int .i64 0, .slice none 0 0] 67)) := (He _ _).alloc (Hd _) _
      have qb := an wa #[.int .i64 gs[j].1, .int .i64 0, .int .i64 0, .int .i64 0, .string ⟨#[]⟩, .int .i64 0, .slice none 0 0] 67
      go_upto_region 6 with fail
      clear k0 k1 k2 k3 k4 k5 k6
      have qkb := (alb.block _ (ae qk)).trans qk
      have hbb := chain hba alb
      have D4 := chain hal alb
      have kxb := (aO.next alb (Hd _) kx).up alb.size
      have lk := ae qk
      generalize wa.alloc (.cells #[.int .i64 gs[j].1, .int .i64 0, .int .i64 0, .int .i64 0, .string ⟨#[]⟩, .int .i64 0, .slice none 0 0] 67) = w4 at *
      have l4 := ae qb
      have z4 := alb.size
      have za := hal.size
      clear alb hal hba kx qk
      obtain ⟨k0, k1, k2, k3, k4, k5, k6⟩ := oz qkb
      obtain ⟨b0, b1, b2, b3, b4, b5, b6⟩ := oz qb
      obtain ⟨bf0, bf1, bf2, bf3, bf4, bf5, bf6⟩ := EM qb
      obtain ⟨h, hcg⟩ : ∃ h, jw gs[j] = h := ⟨_, rfl⟩
      have HCG : Hid (jw gs[j] = h) := hcg
      clear hcg
      obtain ⟨m4, hm4⟩ : ∃ m4, w4.heap.size = m4 := ⟨_, rfl⟩
      have lm : wa.heap.size < m4 ∧ wr.heap.size < m4 ∧ w.heap.size < m4 := by omega
      by_cases g1 : gs[j].1 = 1
      all_goals first
        | (have gb : (gs[j].1 != 1) = false := by simpa using g1
           have eh : h = (gs[j].1, yE) := by rw [← HCG.out, jw, if_pos g1]
           clear g1
           go_upto_region 8 with fail
           obtain ⟨ha, hc, Q8, K8⟩ : ∃ ha hc, w4.heap[wa.heap.size]? = some (.cells (Ep h ha hc).toArray 67 (0, 0)) ∧ dD (fun b => m4 ≤ b) w4 ha h.2.ks := ⟨none, 0, by rw [eh]; exact qb, by rw [eh]; exact .nil _⟩
           have O8 := HOS.out.next EO D4
           have A8 := hbb
           have z8 : m4 ≤ w4.heap.size := by omega
           clear k0 k1 k2 k3 k4 k5 k6 b0 bf0 b1 bf1 b2 bf2 b3 bf3 b4 bf4 b5 bf5 b6 bf6 hbb qb qkb kxb eh gb hm4 l4 z4 D4
           generalize w4 = w8 at *)
        | (have gb : (gs[j].1 != 1) = true := by simpa using g1
           have con := j0 (fun c => c) P gs[j].2 (.func (.func 24) #[] #[]) ai ci w4 (qI P _) (HWJ.out g1) kxb
           obtain ⟨y, hy⟩ : ∃ y, il (fun c => c) gs[j].2 = y := ⟨_, rfl⟩
           rw [hy] at con
           have eh : h = (gs[j].1, y) := by rw [← HCG.out, jw, if_neg g1, hy]
           clear g1 hy
           go_wp2_with fail
           refine con.mono ?_
           rintro e w5 ⟨ya, yc, rfl, KY, hb5⟩
           clear con k0 k1 k2 k3 k4 k5 k6 b0 bf0 b1 bf1 b2 bf2 b3 bf3 b4 bf4 b5 bf5 b6 bf6
           have qb5 := (hb5.block _ (ae qb)).trans qb
           have hb5' := chain hbb hb5
           have D5 := chain D4 hb5
           have z5 := hb5.size
           obtain ⟨b0, b1, b2, b3, b4, b5, b6⟩ := oz qb5
           obtain ⟨bf0, bf1, bf2, bf3, bf4, bf5, bf6⟩ := EM qb5
           have Q8 : ((((((w5.setCell ⟨wa.heap.size, 1, none⟩ (.int .i64 y.k)).setCell ⟨wa.heap.size, 2, none⟩ (.int .i64 y.v.1)).setCell ⟨wa.heap.size, 3, none⟩ (.int .i64 y.v.2.1)).setCell ⟨wa.heap.size, 4, none⟩ (.string y.v.2.2)).setCell ⟨wa.heap.size, 5, none⟩ (.int .i64 y.c)).setCell ⟨wa.heap.size, 6, none⟩ (.slice ya y.ks.length yc)).heap[wa.heap.size]? = some (.cells (Ep h ya yc).toArray 67 (0, 0)) := by rw [eh]; exact BU qb5 (.int .i64 y.k) (.int .i64 y.v.1) (.int .i64 y.v.2.1) (.string y.v.2.2) (.int .i64 y.c) (.slice ya y.ks.length yc)
           have A8 : Below w.heap.size w ((((((w5.setCell ⟨wa.heap.size, 1, none⟩ (.int .i64 y.k)).setCell ⟨wa.heap.size, 2, none⟩ (.int .i64 y.v.1)).setCell ⟨wa.heap.size, 3, none⟩ (.int .i64 y.v.2.1)).setCell ⟨wa.heap.size, 4, none⟩ (.string y.v.2.2)).setCell ⟨wa.heap.size, 5, none⟩ (.int .i64 y.c)).setCell ⟨wa.heap.size, 6, none⟩ (.slice ya y.ks.length yc)) := yi hb5' (by omega) (.int .i64 y.k) (.int .i64 y.v.1) (.int .i64 y.v.2.1) (.string y.v.2.2) (.int .i64 y.c) (.slice ya y.ks.length yc)
           have z8 : m4 ≤ ((((((w5.setCell ⟨wa.heap.size, 1, none⟩ (.int .i64 y.k)).setCell ⟨wa.heap.size, 2, none⟩ (.int .i64 y.v.1)).setCell ⟨wa.heap.size, 3, none⟩ (.int .i64 y.v.2.1)).setCell ⟨wa.heap.size, 4, none⟩ (.string y.v.2.2)).setCell ⟨wa.heap.size, 5, none⟩ (.int .i64 y.c)).setCell ⟨wa.heap.size, 6, none⟩ (.slice ya y.ks.length yc)).heap.size := by simp only [Ip]; omega
           have K8 : dD (fun b => m4 ≤ b) ((((((w5.setCell ⟨wa.heap.size, 1, none⟩ (.int .i64 y.k)).setCell ⟨wa.heap.size, 2, none⟩ (.int .i64 y.v.1)).setCell ⟨wa.heap.size, 3, none⟩ (.int .i64 y.v.2.1)).setCell ⟨wa.heap.size, 4, none⟩ (.string y.v.2.2)).setCell ⟨wa.heap.size, 5, none⟩ (.int .i64 y.c)).setCell ⟨wa.heap.size, 6, none⟩ (.slice ya y.ks.length yc)) ya h.2.ks := by
             rw [eh]
             have := KY.next (qo (g := wa.heap.size) (ah.refl _ _) (by omega) (.int .i64 y.k) (.int .i64 y.v.1) (.int .i64 y.v.2.1) (.string y.v.2.2) (.int .i64 y.c) (.slice ya y.ks.length yc))
             rw [hm4] at this
             exact this
           have O8 : bR Gg 67 7 w.heap.size (fun b => w.heap.size ≤ b) ((((((w5.setCell ⟨wa.heap.size, 1, none⟩ (.int .i64 y.k)).setCell ⟨wa.heap.size, 2, none⟩ (.int .i64 y.v.1)).setCell ⟨wa.heap.size, 3, none⟩ (.int .i64 y.v.2.1)).setCell ⟨wa.heap.size, 4, none⟩ (.string y.v.2.2)).setCell ⟨wa.heap.size, 5, none⟩ (.int .i64 y.c)).setCell ⟨wa.heap.size, 6, none⟩ (.slice ya y.ks.length yc)) u3 ((gs.take j).map jw) := HOS.out.eI EO (qo (ah.of D5) (by omega) (.int .i64 y.k) (.int .i64 y.v.1) (.int .i64 y.v.2.1) (.string y.v.2.2) (.int .i64 y.c) (.slice ya y.ks.length yc))
           go_upto_region 8 with fail
           clear b0 bf0 b1 bf1 b2 bf2 b3 bf3 b4 bf4 b5 bf5 b6 bf6 D5 D4 hb5' qb5 KY hb5 hbb qb qkb kxb eh gb hm4 l4 z4
           generalize ((((((w5.setCell ⟨wa.heap.size, 1, none⟩ (.int .i64 y.k)).setCell ⟨wa.heap.size, 2, none⟩ (.int .i64 y.v.1)).setCell ⟨wa.heap.size, 3, none⟩ (.int .i64 y.v.2.1)).setCell ⟨wa.heap.size, 4, none⟩ (.string y.v.2.2)).setCell ⟨wa.heap.size, 5, none⟩ (.int .i64 y.c)).setCell ⟨wa.heap.size, 6, none⟩ (.slice ya y.ks.length yc)) = w8 at *
           generalize ya = ha at *
           generalize yc = hc at *)
      all_goals (
        unfold Ep at Q8
        obtain ⟨b0, b1, b2, b3, b4, b5, b6⟩ := oz Q8
        have al9 : Below w8.heap.size w8 (w8.alloc (.cells #[.int .i64 h.1, .int .i64 h.2.k, .int .i64 h.2.v.1, .int .i64 h.2.v.2.1, .string h.2.v.2.2, .int .i64 h.2.c, .slice ha h.2.ks.length hc] 67)) := (He _ _).alloc (Hd _) _
        have q9 : (w8.alloc (.cells #[.int .i64 h.1, .int .i64 h.2.k, .int .i64 h.2.v.1, .int .i64 h.2.v.2.1, .string h.2.v.2.2, .int .i64 h.2.c, .slice ha h.2.ks.length hc] 67)).heap[w8.heap.size]? = some (.cells (Ep h ha hc).toArray 67 (0, 0)) := an w8 _ _
        have K9 := K8.next (ah.of al9)
        obtain ⟨ys, o9, en9⟩ := O8.next EO al9
        have z9 := al9.size
        have l9 := HLN.out
        have hws : w.heap.size ≤ (w8.alloc (.cells #[.int .i64 h.1, .int .i64 h.2.k, .int .i64 h.2.v.1, .int .i64 h.2.v.2.1, .string h.2.v.2.2, .int .i64 h.2.c, .slice ha h.2.ks.length hc] 67)).heap.size := by omega
        go_wp2_with (at_builtin; refine iL rfl _ _ 28 rfl w.heap.size 67 i0 _ 7 80 Tryz.underlying28 hi hj0 hj1 hj2 rfl (by decide) u3 _ ys rfl o9 ⟨w8.heap.size, 0, none⟩ 1 1 (Ep h ha hc) rfl rfl (nC q9) De (by unfold maxLen; omega) (by omega) hws ?_)
        intro v' w7 o7 g7 hd7
        have OS7 : bR Gg 67 7 w.heap.size (fun b => w.heap.size ≤ b) w7 v' ((gs.take j).map jw ++ [h]) := bR.push EO o9 en9 rfl ⟨ha, hc, rfl, K9.mono fun b hb hl => ⟨by omega, hl, fun e => by have := (hnb b e).2; omega⟩⟩ (by rw [HLN.out]; exact o7) g7 (by simpa only [Hg] using hd7)
        have A7 : Below w.heap.size w w7 := (chain A8 al9).trans ((He _ _).grown g7 (by omega) (fun q hq => (hnb q hq).1))
        clear o9 en9 o7 g7 hd7 K9 K8 q9 al9 O8 A8 b0 b1 b2 b3 b4 b5 b6
        go_wp2_with fail
        go_roundw
        case rel => exact ⟨j + 1, by omega, by go_num, by rw [HT.out, HCG.out]; exact OS7, A7⟩
        case measure => simp [intOf]; omega)
    · have e : j = gs.length := by omega
      subst e
      rw [Ib] at OS
      obtain ⟨sa, sc, rfl, KS⟩ := OS.G3 (fun _ h => h)
      have HLE : Hid ((gs.map jw).length = gs.length) := by show _ = _; rw [Ik]
      clear OS
      go_wp2_with fail
      go_ret
      exact ⟨sa, sc, by simp [HLE.out], KS, hb⟩
end Go.Proofs.YtjebpkhkjkjphaaGreat
namespace Go.Proofs.YtjebpkhkjkjphaaGreat
open Go.RowKit
set_option maxRecDepth 100000
set_option maxHeartbeats 16000000
mutual
def dM (f:Int→Bool):Ex→Bool
 | .mk k _ c ks=>if k=2 then f c else fF f ks
def fF (f:Int→Bool):List Ex→Bool
 | []=>true
 | x :: r=>dM f x && fF f r
end
def lu (n:Int) (x:Ex):Ex:=il (fun c=>c - n) x
theorem oS {f:Int→Bool}:∀ {l:List Ex},fF f l=true→∀ x ∈ l,dM f x=true
 | [],_,_,hx=>by cases hx
 | y :: r,h,x,hx=>by
  rw [fF,IB] at h
  rcases List.mem_cons.1 hx with rfl | hx
  ·exact h.1
  ·exact oS h.2 x hx
mutual
def eV (ts:List (List Int)):Pl→Prop
 | .mk k n _ _ _ ks=>(1≤k∧k≤13)∧ks.length=dI k∧(k=1→0≤n∧n<(ts.length:Int))∧(k=8∨k=9→((aU ts ks).getD 0 []).length=((aU ts ks).getD 1 []).length)∧(k=13→0≤n)∧Br ts ks
def Br (ts:List (List Int)):List Pl→Prop
 | []=>True
 | p :: r=>eV ts p∧Br ts r
end
theorem jP {ts:List (List Int)}:∀ {l:List Pl},Br ts l↔∀ p ∈ l,eV ts p
 | []=>by simp [Br]
 | p :: r=>by rw [Br,jP (l:=r)]; simp
theorem bS {ts:List (List Int)} {k n:Int} {x:Ex} {xs:List Ex} {gs:List Ag} {ks:List Pl} (h:eV ts (.mk k n x xs gs ks)) :
  (1≤k∧k≤13)∧(∀ r ∈ ks,eV ts r)∧((k=1∧ks = []∧0≤n∧n<(ts.length:Int))∨((4≤k∧k≤9)∧∃ p q,ks = [p,q]∧(k=8∨k=9→(aj ts p).length=(aj ts q).length))∨((k=2∨k=3∨10≤k)∧(k=13→0≤n)∧∃ p,ks = [p])):=by
 rw [eV] at h;obtain ⟨hk,hln,h1,h2,h3,h4⟩:=h;refine ⟨hk,jP.1 h4,?_⟩;unfold dI at hln;by_cases e1:k=1
 ·rw [if_pos e1] at hln;exact .inl ⟨e1,Hs hln,h1 e1⟩
 rw [if_neg e1] at hln;by_cases e2:4≤k∧k≤9
 ·rw [if_pos e2] at hln
  match ks,hln,h2 with
  | [p,q],_,h2=>exact .inr (.inl ⟨e2,p,q,rfl,fun e=>by simpa [aU] using h2 e⟩)
 ·rw [if_neg e2] at hln
  match ks,hln with
  | [p],_=>exact .inr (.inr ⟨by omega,h3,p,rfl⟩)
theorem mG {ts:List (List Int)}:∀ (p:Pl) (m d:Int),(aS ts p m d).1=0→eV ts p :=
 Pl.ind fun k n x xs gs ks ih m d hl=>by
  obtain ⟨h1,h2,h3,_⟩:=eU hl
  obtain ⟨hln,hk1,hk2,_,_⟩:=gG h1
  rw [eV]
  refine ⟨⟨hk1,hk2⟩,hln,fun e=>?_,fun e=>?_,fun e=>?_,jP.2 fun r hr=>?_⟩
  ·unfold dI at hln
   rw [if_pos e] at hln
   have hks:ks = []:=Hs hln
   subst hks
   simp only [aU,ep] at h3
   by_cases c:n<0∨(ts.length:Int)≤n
   ·rw [if_pos c] at h3; cases h3
   ·omega
  ·unfold dI at hln
   rw [if_neg (by omega),if_pos (by omega)] at hln
   match ks,hln,h3 with
   | [p,q],_,h3 =>
    simp only [aU,ep,ni] at h3
    rw [if_pos e] at h3
    unfold oT at h3
    by_cases c:(aj ts p).length=(aj ts q).length
    ·simpa [aU] using c
    ·rw [if_pos c] at h3; cases h3
  ·unfold dI at hln
   rw [if_neg (by omega),if_neg (by omega)] at hln
   match ks,hln,h3 with
   | [p],_,h3 =>
    simp only [aU,ep,fm] at h3
    rw [if_neg (by omega),if_neg (by omega),if_neg (by omega),if_pos e] at h3
    unfold j9 at h3
    by_cases c:bj (aj ts p) xs=0
    ·rw [if_neg (by simpa using c)] at h3
     by_cases c':n<0∨50<n
     ·rw [if_pos c'] at h3; cases h3
     ·omega
    ·rw [if_pos c] at h3; exact absurd h3 c
  ·obtain ⟨m',hm'⟩:=gK h2 r hr
   exact ih r hr m' (d+1) hm'
theorem cP {ts:List (List Int)} {k n:Int} {x:Ex} {xs:List Ex} {gs:List Ag} {p:Pl}:aj ts (.mk k n x xs gs [p])=jS k xs gs (aj ts p):=by rw [aj,aU,aU]; rfl
theorem dC {ts:List (List Int)} {k n:Int} {x:Ex} {xs:List Ex} {gs:List Ag} {p q:Pl}:aj ts (.mk k n x xs gs [p,q])=nu k (aj ts p) (aj ts q):=by rw [aj,aU,aU,aU]; rfl
def bQ (x:Ex):Bool:=x.k == 1 && (x.v.1 == 2 && x.v.2.1 == 1)
def da (x:Ex) (p:Pl):Pl:=.mk 2 0 x [] [] [p]
def fb (ts:List (List Int)) (ks:List Pl):List Int:=(aU ts ks).headD []
mutual
def az (ok:List Int→Ex→Bool) (ts:List (List Int)):Pl→Ex→Pl
 | .mk k n y xs gs ks,x =>
  if bQ x=true then .mk k n y xs gs ks
  else if k=2 then (if ok (fb ts ks) (gR 4 y x)=true then .mk k n (gR 4 y x) xs gs ks else da x (.mk k n y xs gs ks))
  else if k=8∨k=9∨k=10∨k=11 then .mk k n y xs gs (dS ok ts ks x)
  else if k=5∨k=6 then .mk k n y xs gs (dF ok ts ks x)
  else if k=4 then
   (if dM (fun c=>decide (c<((fb ts ks).length:Int))) x=true then .mk k n y xs gs (dF ok ts ks x)
   else if dM (fun c=>decide (((fb ts ks).length:Int)≤c)) x=true then .mk k n y xs gs (jz ok ts ks (lu (fb ts ks).length x))
   else if ok (fx ts k n xs gs (aU ts ks)) (gR 4 y x)=true then .mk k n (gR 4 y x) xs gs ks
   else da x (.mk k n y xs gs ks))
  else da x (.mk k n y xs gs ks)
def dS (ok:List Int→Ex→Bool) (ts:List (List Int)):List Pl→Ex→List Pl
 | [],_=>[]
 | p :: r,x=>az ok ts p x :: dS ok ts r x
def dF (ok:List Int→Ex→Bool) (ts:List (List Int)):List Pl→Ex→List Pl
 | [],_=>[]
 | p :: r,x=>az ok ts p x :: r
def jz (ok:List Int→Ex→Bool) (ts:List (List Int)):List Pl→Ex→List Pl
 | [],_=>[]
 | p :: r,x=>p :: dF ok ts r x
end
theorem kp {ts:List (List Int)} (x:Ex) (p:Pl):aj ts (da x p)=aj ts p:=by
 unfold da;rw [cP];rfl
theorem jc {ts:List (List Int)} {p:Pl} {r:List Pl}:fb ts (p :: r)=aj ts p:=by unfold fb; rw [aU]; rfl
theorem eZ (ok:List Int→Ex→Bool) {ts:List (List Int)}:∀ (p:Pl) (x:Ex),eV ts p→aj ts (az ok ts p x)=aj ts p :=
 Pl.ind fun k n y xs gs ks ih x hs=>by
  obtain ⟨_,hks,hsh⟩:=bS hs
  rw [az]
  by_cases ht:bQ x=true
  ·rw [if_pos ht]
  rw [if_neg ht]
  by_cases k2:k=2
  ·rw [if_pos k2]
   obtain ⟨e,_⟩ | ⟨e,_⟩ | ⟨_,_,p,rfl⟩:=hsh
   ·omega
   ·omega
   split
   ·rw [cP,cP]
   ·exact kp _ _
  rw [if_neg k2]
  by_cases k8:k=8∨k=9∨k=10∨k=11
  ·rw [if_pos k8]
   obtain ⟨e,_⟩ | ⟨_,p,q,rfl,_⟩ | ⟨_,_,p,rfl⟩:=hsh
   ·omega
   ·rw [dS,dS,dS,dC,dC,ih p (by simp) x (hks p (by simp)),ih q (by simp) x (hks q (by simp))]
   ·rw [dS,dS,cP,cP,ih p (by simp) x (hks p (by simp))]
  rw [if_neg k8]
  by_cases k5:k=5∨k=6
  ·rw [if_pos k5]
   obtain ⟨e,_⟩ | ⟨_,p,q,rfl,_⟩ | ⟨e,_⟩:=hsh
   ·omega
   ·rw [dF,dC,dC,ih p (by simp) x (hks p (by simp))]
   ·omega
  rw [if_neg k5]
  by_cases k4:k=4
  ·rw [if_pos k4]
   obtain ⟨e,_⟩ | ⟨_,p,q,rfl,_⟩ | ⟨e,_⟩:=hsh
   ·omega
   ·split
    ·rw [dF,dC,dC,ih p (by simp) x (hks p (by simp))]
    split
    ·rw [jz,dF,dC,dC,ih q (by simp) _ (hks q (by simp))]
    split
    ·rw [dC,dC]
    ·exact kp _ _
   ·omega
  rw [if_neg k4]
  exact kp _ _
theorem lM {ts:List (List Int)} {x:Ex} {p:Pl} (h:eV ts p):eV ts (da x p):=by
 unfold da;rw [eV];exact ⟨by omega,by simp [dI],fun e=>by omega,fun e=>by omega,fun e=>by omega,jP.2 fun r hr=>by rw [List.mem_singleton.1 hr]; exact h⟩
theorem jh {ts:List (List Int)} {k n:Int} {y y':Ex} {xs xs':List Ex} {gs gs':List Ag} {ks ks':List Pl} (h:eV ts (.mk k n y xs gs ks)) (hl:ks'.length=ks.length) (hc:aU ts ks'=aU ts ks) (hs:∀ r ∈ ks',eV ts r):eV ts (.mk k n y' xs' gs' ks'):=by
 rw [eV] at h ⊢;obtain ⟨h1,h2,h3,h4,h5,_⟩:=h;exact ⟨h1,by rw [hl]; exact h2,h3,by rw [hc]; exact h4,h5,jP.2 hs⟩
theorem Aj (ok:List Int→Ex→Bool) {ts:List (List Int)}:∀ (p:Pl) (x:Ex),eV ts p→eV ts (az ok ts p x) :=
 Pl.ind fun k n y xs gs ks ih x hs=>by
  obtain ⟨_,hks,hsh⟩:=bS hs
  rw [az]
  by_cases ht:bQ x=true
  ·rw [if_pos ht]; exact hs
  rw [if_neg ht]
  by_cases k2:k=2
  ·rw [if_pos k2]
   split
   ·exact jh hs rfl rfl hks
   ·exact lM hs
  rw [if_neg k2]
  by_cases k8:k=8∨k=9∨k=10∨k=11
  ·rw [if_pos k8]
   obtain ⟨e,_⟩ | ⟨_,p,q,rfl,_⟩ | ⟨_,_,p,rfl⟩:=hsh
   ·omega
   ·rw [dS,dS,dS]
    refine jh hs rfl (by simp only [aU,eZ ok p x (hks p (by simp)),eZ ok q x (hks q (by simp))]) fun r hr=>?_
    simp only [H6,I4,or_false] at hr
    rcases hr with rfl | rfl
    ·exact ih p (by simp) x (hks p (by simp))
    ·exact ih q (by simp) x (hks q (by simp))
   ·rw [dS,dS]
    refine jh hs rfl (by simp only [aU,eZ ok p x (hks p (by simp))]) fun r hr=>?_
    rw [List.mem_singleton.1 hr]
    exact ih p (by simp) x (hks p (by simp))
  rw [if_neg k8]
  have head:∀ {p q:Pl},ks = [p,q]→eV ts (.mk k n y xs gs (dF ok ts ks x)):=fun {p q} e=>by
   subst e
   rw [dF]
   refine jh hs rfl (by simp only [aU,eZ ok p x (hks p (by simp))]) fun r hr=>?_
   simp only [H6,I4,or_false] at hr
   rcases hr with rfl | rfl
   ·exact ih p (by simp) x (hks p (by simp))
   ·exact hks _ (by simp)
  by_cases k5:k=5∨k=6
  ·rw [if_pos k5]
   obtain ⟨e,_⟩ | ⟨_,p,q,e,_⟩ | ⟨e,_⟩:=hsh
   ·omega
   ·exact head e
   ·omega
  rw [if_neg k5]
  by_cases k4:k=4
  ·rw [if_pos k4]
   obtain ⟨e,_⟩ | ⟨_,p,q,e,_⟩ | ⟨e,_⟩:=hsh
   ·omega
   ·split
    ·exact head e
    split
    ·subst e
     rw [jz,dF]
     refine jh hs rfl (by simp only [aU,eZ ok q _ (hks q (by simp))]) fun r hr=>?_
     simp only [H6,I4,or_false] at hr
     rcases hr with rfl | rfl
     ·exact hks _ (by simp)
     ·exact ih q (by simp) _ (hks q (by simp))
    split
    ·exact jh hs rfl rfl hks
    ·exact lM hs
   ·omega
  rw [if_neg k4]
  exact lM hs
theorem pY {af:List Int}:∀ {l:List Ex} {ts:List Int},eK af l=some ts→∀ x ∈ l,∃ t,fI af x=some t
 | [],_,_,_,hx=>by cases hx
 | y :: r,ts,h,x,hx=>by
  rw [eK] at h
  cases hy:fI af y with
  | none=>simp [hy] at h
  | some t =>
   cases hr:eK af r with
   | none=>simp [hy,hr] at h
   | some us =>
    rcases List.mem_cons.1 hx with rfl | hx
    ·exact ⟨t,hy⟩
    ·exact pY hr x hx
def j5 (ok:List Int→Ex→Bool) (ts:List (List Int)) (k n:Int) (y:Ex) (xs:List Ex) (gs:List Ag):List Pl→Pl
 | [p]=>if k=2 then az ok ts p y else if (k=10∨k=11)∧p.k=11 then p else if (k=10∨k=11)∧p.k=10 then .mk k n y xs gs p.ks else .mk k n y xs gs [p]
 | ks=>.mk k n y xs gs ks
mutual
def fq (ok:List Int→Ex→Bool) (ts:List (List Int)):Pl→Pl
 | .mk k n y xs gs ks=>j5 ok ts k n y xs gs (fu ok ts ks)
def fu (ok:List Int→Ex→Bool) (ts:List (List Int)):List Pl→List Pl
 | []=>[]
 | p :: r=>fq ok ts p :: fu ok ts r
end
def BC (ok:List Int→Ex→Bool):Prop:=∀ af x y z,ok af (gR 4 x y)=false→ok af (gR 4 x (gR 4 y z))=false
theorem sG {f:Int→Bool} (x y:Ex):dM f (gR 4 x y)=(dM f x && dM f y):=by
 unfold gR;rw [dM,if_neg (by decide),fF,fF,fF,Bool.and_true]
theorem Dg (x y:Ex):bQ (gR 4 x y)=false:=rfl
theorem Gs (x y:Ex):gR 4 x y≠y:=fun h=>by
 have:=congrArg gF h
 simp only [gR,gF,jF] at this
 omega
theorem jZ {x:Ex} {p:Pl} {k n:Int} {y:Ex} {xs:List Ex} {gs:List Ag} {ks:List Pl} (h:Pl.mk k n y xs gs ks=da x p):k=2∧y=x:=by
 unfold da at h;injection h with h1 _ h3
 exact ⟨h1,h3⟩
theorem BG {ok:List Int→Ex→Bool} (hm:BC ok) {ts:List (List Int)} {p:Pl} {y:Ex} (x:Ex) (ht:bQ y=false) (h:az ok ts p y=da y p):az ok ts p (gR 4 y x)=da (gR 4 y x) p:=by
 obtain ⟨k,n,X,xs,gs,ks⟩:=p;rw [az,if_neg (by rw [ht]; decide)] at h;rw [az,if_neg (by rw [Dg]; decide)];by_cases k2:k=2
 ·rw [if_pos k2] at h ⊢;cases hc:ok (fb ts ks) (gR 4 X y) with
  | true=>rw [if_pos hc] at h; exact absurd (jZ h).2 (Gs _ _)
  | false=>rw [if_neg (by rw [hm _ _ _ _ hc]; decide)]
 rw [if_neg k2] at h ⊢;by_cases k8:k=8∨k=9∨k=10∨k=11
 ·rw [if_pos k8] at h; exact absurd (jZ h).1 k2
 rw [if_neg k8] at h ⊢;by_cases k5:k=5∨k=6
 ·rw [if_pos k5] at h; exact absurd (jZ h).1 k2
 rw [if_neg k5] at h ⊢;by_cases k4:k=4
 ·rw [if_pos k4] at h ⊢;by_cases c1:dM (fun c=>decide (c<((fb ts ks).length:Int))) y=true
  ·rw [if_pos c1] at h; exact absurd (jZ h).1 k2
  rw [if_neg c1] at h;rw [if_neg (by rw [sG,IB]; exact fun e=>c1 e.1)];by_cases c2:dM (fun c=>decide (((fb ts ks).length:Int)≤c)) y=true
  ·rw [if_pos c2] at h; exact absurd (jZ h).1 k2
  rw [if_neg c2] at h;rw [if_neg (by rw [sG,IB]; exact fun e=>c2 e.1)];cases hc:ok (fx ts k n xs gs (aU ts ks)) (gR 4 X y) with
  | true=>rw [if_pos hc] at h; exact absurd (jZ h).1 k2
  | false=>rw [if_neg (by rw [hm _ _ _ _ hc]; decide)]
 ·rw [if_neg k4]
theorem zH (ok:List Int→Ex→Bool) (ts:List (List Int)) (p:Pl) (x:Ex):(az ok ts p x).k=p.k∨(az ok ts p x).k=2:=by
 obtain ⟨k,n,X,xs,gs,ks⟩:=p;rw [az]
 repeat' split
 all_goals first | exact .inl rfl | exact .inr rfl
mutual
def Nf (ok:List Int→Ex→Bool) (ts:List (List Int)):Pl→Prop
 | .mk k n y xs gs ks=>(∀ p,ks = [p]→(k=2→n=0∧xs = []∧gs = []∧bQ y=false∧az ok ts p y=da y p)∧(k=10∨k=11→p.k≠10∧p.k≠11))∧Fw ok ts ks
def Fw (ok:List Int→Ex→Bool) (ts:List (List Int)):List Pl→Prop
 | []=>True
 | p :: r=>Nf ok ts p∧Fw ok ts r
end
theorem gn {ok:List Int→Ex→Bool} {ts:List (List Int)}:∀ {l:List Pl},Fw ok ts l↔∀ p ∈ l,Nf ok ts p
 | []=>by simp [Fw]
 | p :: r=>by rw [Fw,gn (l:=r)]; simp
theorem rI {ok:List Int→Ex→Bool} {ts:List (List Int)} {p:Pl} {x:Ex} (h:Nf ok ts p) (ht:bQ x=false) (hs:az ok ts p x=da x p):Nf ok ts (da x p):=by
 unfold da;rw [Nf];refine ⟨fun q e=>⟨fun _=>⟨rfl,rfl,rfl,ht,?_⟩,fun e=>by omega⟩,by rw [Fw,Fw]; exact ⟨h,trivial⟩⟩;obtain rfl:=(List.cons.inj e).1;exact hs
theorem jX {ok:List Int→Ex→Bool} {ts:List (List Int)} {x:Ex}:∀ {l:List Pl} {p:Pl},p ∈ dS ok ts l x→∃ q ∈ l,p=az ok ts q x
 | [],_,h=>by rw [dS] at h; cases h
 | q :: r,p,h=>by
  rw [dS] at h
  rcases List.mem_cons.1 h with rfl | h
  ·exact ⟨q,by simp,rfl⟩
  ·obtain ⟨s,hs,e⟩:=jX h
   exact ⟨s,by simp [hs],e⟩
theorem ix {ok:List Int→Ex→Bool} {ts:List (List Int)} {x:Ex} {l:List Pl} {p:Pl} (h:p ∈ dF ok ts l x):p ∈ l∨∃ q ∈ l,p=az ok ts q x:=by
 cases l with
 | nil=>rw [dF] at h; cases h
 | cons q r =>
  rw [dF] at h;rcases List.mem_cons.1 h with rfl | h
  ·exact .inr ⟨q,by simp,rfl⟩
  ·exact .inl (by simp [h])
theorem lZ {ok:List Int→Ex→Bool} {ts:List (List Int)} {x:Ex} {l:List Pl} {p:Pl} (h:p ∈ jz ok ts l x):p ∈ l∨∃ q ∈ l,p=az ok ts q x:=by
 cases l with
 | nil=>rw [jz] at h; cases h
 | cons q r =>
  rw [jz] at h;rcases List.mem_cons.1 h with rfl | h
  ·exact .inl (by simp)
  ·rcases ix h with h | ⟨s,hs,e⟩
   ·exact .inl (by simp [h])
   ·exact .inr ⟨s,by simp [hs],e⟩
theorem yk {ok:List Int→Ex→Bool} {ts:List (List Int)} {x:Ex} {l:List Pl} {p:Pl} (h:dS ok ts l x = [p]):∃ q,l = [q]∧p=az ok ts q x:=by
 match l,h with
 | [],h=>rw [dS] at h; cases h
 | [q],h=>rw [dS,dS] at h; exact ⟨q,rfl,(List.cons.inj h).1.symm⟩
 | q :: r :: s,h=>rw [dS,dS] at h; cases h
theorem DH {ok:List Int→Ex→Bool} (hm:BC ok) {ts:List (List Int)}:∀ (p:Pl) (x:Ex),Nf ok ts p→Nf ok ts (az ok ts p x) :=
 Pl.ind fun k n y xs gs ks ih x hn=>by
  have hn':=hn
  rw [Nf] at hn'
  obtain ⟨h1,hks⟩:=hn'
  have hks:=gn.1 hks
  by_cases ht:bQ x=true
  ·rw [az,if_pos ht]; exact hn
  have hf:bQ x=false:=by simpa using ht
  by_cases k2:k=2
  ·by_cases c:ok (fb ts ks) (gR 4 y x)=true
   ·rw [az,if_neg ht,if_pos k2,if_pos c,Nf]
    refine ⟨fun q e=>⟨fun _=>?_,fun e'=>by omega⟩,gn.2 hks⟩
    obtain ⟨e1,e2,e3,e4,e5⟩:=(h1 q e).1 k2
    exact ⟨e1,e2,e3,rfl,BG hm x e4 e5⟩
   ·have e:az ok ts (.mk k n y xs gs ks) x=da x (.mk k n y xs gs ks):=by rw [az,if_neg ht,if_pos k2,if_neg c]
    rw [e]; exact rI hn hf e
  by_cases k8:k=8∨k=9∨k=10∨k=11
  ·rw [az,if_neg ht,if_neg k2,if_pos k8,Nf]
   refine ⟨fun q e=>⟨fun e'=>absurd e' k2,fun e'=>?_⟩,gn.2 fun r hr=>?_⟩
   ·obtain ⟨s,rfl,rfl⟩:=yk e
    have h2:=(h1 s rfl).2 e'
    rcases zH ok ts s x with h | h
    ·rw [h]; exact h2
    ·rw [h]; decide
   ·obtain ⟨s,hs,rfl⟩:=jX hr
    exact ih s hs x (hks s hs)
  have none:∀ {ks':List Pl} {Y:Ex},¬ (k=10∨k=11)→(∀ r ∈ ks',Nf ok ts r)→Nf ok ts (.mk k n Y xs gs ks'):=fun e' h=>by
   rw [Nf]
   exact ⟨fun q _=>⟨fun e=>absurd e k2,fun e=>absurd e e'⟩,gn.2 h⟩
  have head:¬ (k=10∨k=11)→∀ {Y:Ex},Nf ok ts (.mk k n Y xs gs (dF ok ts ks x)):=fun e' {Y}=>none e' fun r hr=>by
   rcases ix hr with h | ⟨s,hs,rfl⟩
   ·exact hks r h
   ·exact ih s hs x (hks s hs)
  by_cases k5:k=5∨k=6
  ·rw [az,if_neg ht,if_neg k2,if_neg k8,if_pos k5]
   exact head (by omega)
  by_cases k4:k=4
  ·by_cases c1:dM (fun c=>decide (c<((fb ts ks).length:Int))) x=true
   ·rw [az,if_neg ht,if_neg k2,if_neg k8,if_neg k5,if_pos k4,if_pos c1]
    exact head (by omega)
   by_cases c2:dM (fun c=>decide (((fb ts ks).length:Int)≤c)) x=true
   ·rw [az,if_neg ht,if_neg k2,if_neg k8,if_neg k5,if_pos k4,if_neg c1,if_pos c2]
    refine none (by omega) fun r hr=>?_
    rcases lZ hr with h | ⟨s,hs,rfl⟩
    ·exact hks r h
    ·exact ih s hs _ (hks s hs)
   by_cases c3:ok (fx ts k n xs gs (aU ts ks)) (gR 4 y x)=true
   ·rw [az,if_neg ht,if_neg k2,if_neg k8,if_neg k5,if_pos k4,if_neg c1,if_neg c2,if_pos c3]
    exact none (by omega) hks
   ·have e:az ok ts (.mk k n y xs gs ks) x=da x (.mk k n y xs gs ks):=by rw [az,if_neg ht,if_neg k2,if_neg k8,if_neg k5,if_pos k4,if_neg c1,if_neg c2,if_neg c3]
    rw [e]; exact rI hn hf e
  have e:az ok ts (.mk k n y xs gs ks) x=da x (.mk k n y xs gs ks):=by rw [az,if_neg ht,if_neg k2,if_neg k8,if_neg k5,if_neg k4]
  rw [e]; exact rI hn hf e
theorem lv {ok:List Int→Ex→Bool} {ts:List (List Int)}:∀ {l:List Pl} {p:Pl},p ∈ fu ok ts l→∃ q ∈ l,p=fq ok ts q
 | [],_,h=>by rw [fu] at h; cases h
 | q :: r,p,h=>by
  rw [fu] at h
  rcases List.mem_cons.1 h with rfl | h
  ·exact ⟨q,by simp,rfl⟩
  ·obtain ⟨s,hs,e⟩:=lv h
   exact ⟨s,by simp [hs],e⟩
theorem GD {ok:List Int→Ex→Bool} (hm:BC ok) {ts:List (List Int)}:∀ p:Pl,Nf ok ts (fq ok ts p) :=
 Pl.ind fun k n y xs gs ks ih=>by
  have hks:∀ r ∈ fu ok ts ks,Nf ok ts r:=fun r hr=>by
   obtain ⟨s,hs,rfl⟩:=lv hr
   exact ih s hs
  rw [fq]
  generalize fu ok ts ks=l at hks ⊢
  match l,hks with
  | [],hks=>unfold j5; rw [Nf]; exact ⟨fun q e=>(by cases e),gn.2 hks⟩
  | q :: r :: s,hks=>unfold j5; rw [Nf]; exact ⟨fun q e=>(by cases e),gn.2 hks⟩
  | [p],hks =>
   have hp:=hks p (by simp)
   unfold j5
   simp only
   by_cases k2:k=2
   ·rw [if_pos k2]; exact DH hm p y hp
   rw [if_neg k2]
   by_cases c1:(k=10∨k=11)∧p.k=11
   ·rw [if_pos c1]; exact hp
   rw [if_neg c1]
   by_cases c2:(k=10∨k=11)∧p.k=10
   ·rw [if_pos c2]
    obtain ⟨k',n',y',xs',gs',ks'⟩:=p
    simp only [Pl.k] at c2
    rw [Nf] at hp ⊢
    exact ⟨fun q e=>⟨fun e'=>absurd e' k2,fun _=>(hp.1 q e).2 (by omega)⟩,hp.2⟩
   ·rw [if_neg c2,Nf]
    refine ⟨fun q e=>⟨fun e'=>absurd e' k2,fun e'=>?_⟩,gn.2 hks⟩
    obtain rfl:=(List.cons.inj e).1
    omega
theorem Gz {ok:List Int→Ex→Bool} {ts:List (List Int)}:∀ p:Pl,Nf ok ts p→fq ok ts p=p :=
 Pl.ind fun k n y xs gs ks ih hn=>by
  rw [Nf] at hn
  obtain ⟨h1,hks⟩:=hn
  have hks:=gn.1 hks
  have same:∀ l:List Pl,(∀ p ∈ l,p ∈ ks)→fu ok ts l=l:=by
   intro l
   induction l with
   | nil=>intro _; rfl
   | cons p r ihl=>intro h; rw [fu,ih p (h p (by simp)) (hks p (h p (by simp))),ihl fun q hq=>h q (by simp [hq])]
  rw [fq,same ks fun _ h=>h]
  match ks,h1 with
  | [],_=>rfl
  | q :: r :: s,_=>rfl
  | [p],h1 =>
   obtain ⟨h2,h3⟩:=h1 p rfl;unfold j5;simp only;by_cases k2:k=2
   ·obtain ⟨rfl,rfl,rfl,_,e⟩:=h2 k2;rw [if_pos k2,e,k2]; rfl
   rw [if_neg k2,if_neg (by omega),if_neg (by omega)]
theorem CY {ok:List Int→Ex→Bool} (hm:BC ok) (ts:List (List Int)) (p:Pl):fq ok ts (fq ok ts p)=fq ok ts p:=Gz _ (GD hm p)
def bK (af:List Int) (x:Ex):Bool:=decide ((ak af x).2=0)
theorem xg {af:List Int} {x:Ex}:bK af x=true↔af.length≤16∧fB af=true∧(∃ t,fI af x=some t)∧gF x≤200∧nM x≤20:=by
 unfold bK;rw [decide_eq_true_iff];unfold ak;by_cases c1:16<af.length
 ·rw [if_pos c1]; simp; omega
 rw [if_neg c1];by_cases c2:fB af=false
 ·rw [if_pos c2]; simp [c2]
 rw [if_neg c2];have c2:fB af=true:=by simpa using c2
 by_cases c3:(aV af x 0 1).2.1=0
 ·rw [if_pos c3];have h:=(iH af x 0 1 (aV af x 0 1).1 (aV af x 0 1).2.2).1 (Prod.ext rfl (Prod.ext c3 rfl));exact ⟨fun _=>⟨by omega,c2,⟨_,h.1⟩,by omega,by omega⟩,fun _=>rfl⟩
 ·rw [if_neg c3];refine ⟨fun h=>absurd h c3,fun ⟨_,_,⟨t,h3⟩,h4,h5⟩=>absurd ?_ c3⟩;rw [(iH af x 0 1 t (gF x)).2 ⟨h3,by omega,by omega,by omega⟩]
theorem tI {af:List Int} {x y:Ex} {t:Int} (h:fI af (gR 4 x y)=some t):∃ a b,fI af x=some a∧fI af y=some b∧(kE a 2).isSome∧(kE b 2).isSome:=by
 unfold gR at h;rw [fI,if_neg (by simp [dw]),eK,eK,eK] at h;cases hx:fI af x with
 | none=>simp [hx] at h
 | some a =>
  cases hy:fI af y with
  | none=>simp [hx,hy] at h
  | some b =>
   refine ⟨a,b,rfl,rfl,?_⟩;simp only [hx,hy,Option.bind_some,Option.map_some,dG,dP,bV,List.all_cons,List.all_nil,Bool.and_true] at h;cases h1:(kE a 2).isSome <;> cases h2:(kE b 2).isSome <;> simp [h1,h2,cM] at h ⊢
theorem BO {af:List Int} {x y:Ex} {a b:Int} (hx:fI af x=some a) (hy:fI af y=some b) (h1:(kE a 2).isSome) (h2:(kE b 2).isSome):fI af (gR 4 x y)=some 2:=by
 unfold gR;rw [fI,if_neg (by simp [dw]),eK,eK,eK];simp [hx,hy,dG,dP,bV,h1,h2,cM]
theorem Cd:BC bK:=fun af x y z h=>by
 cases h':bK af (gR 4 x (gR 4 y z)) with
 | false=>rfl
 | true =>
  obtain ⟨h1,h2,⟨t,h3⟩,h4,h5⟩:=xg.1 h'
  obtain ⟨a,b,e1,e2,g1,_⟩:=tI h3
  obtain ⟨c,d,e3,e4,g3,_⟩:=tI e2
  have:bK af (gR 4 x y)=true:=xg.2 ⟨h1,h2,⟨2,BO e1 e3 g1 g3⟩,by simp only [gR,gF,jF] at h4 ⊢; omega,by simp only [gR,nM,lL] at h5 ⊢; omega⟩
  rw [this] at h; cases h
end Go.Proofs.YtjebpkhkjkjphaaGreat
namespace Go.Proofs.YtjebpkhkjkjphaaGreat
open Go.RowKit Go.Lib Go.Shelf
set_option maxRecDepth 100000
set_option maxHeartbeats 16000000
def eD (c:Int):Prop:=0≤c∧c<16
def gE (ts:List (List Int)) (p:Pl):Prop:=∀ (S:Nat→Prop) (x:Ex) (xa:Option Addr) (xc:Nat) (q:Pw) (o:Nat) (ca:Option Addr) (cc:Nat) (na:Option Addr) (nc:Nat) (w:World),dz eD x→eV ts p→dD S w xa x.ks→fA ts S w p q ca na →
 Calls Tryz.prog 21 #[iY x.k x.v x.c xa x.ks.length xc,cH ts p q o ca cc na nc] w fun e w'=>∃ v,e = .returned v∧aT ts (eA S w) w' v (az bK ts p x)∧Below w.heap.size w w'
theorem iW (x:Ex) (xa:Option Addr) (xc:Nat) (w:World):Calls Tryz.prog 35 #[iY x.k x.v x.c xa x.ks.length xc] w fun e w'=>e = .returned (.func (.func 61) #[] #[.pointer (some ⟨w.heap.size,0,none⟩)])∧w'.heap[w.heap.size]? = some (.cells (aW x xa xc) 27 (0,0))∧Below w.heap.size w w':=by
 have A:=aa w (.cells (aW x xa xc) 27);have Q:=an w (aW x xa xc) 27;go_enter Tryz.func35,Tryz.ntmps35;go_upto_region 1 with fail
 generalize w.alloc (.cells (aW x xa xc) 27)=w1 at *;go_wp2
 go_ret;exact ⟨rfl,Q,A⟩
theorem td (ts:List (List Int)) (S:Nat→Prop) (x:Ex) (xa:Option Addr) (xc:Nat) (b:Nat) (p:Pl) (q:Pw) (o:Nat) (ca:Option Addr) (cc:Nat) (na:Option Addr) (nc:Nat) (w:World) (hs:gE ts p) (hw:dz eD x) (hsh:eV ts p) (hb:w.heap[b]? = some (.cells (aW x xa xc) 27 (0,0))) (hx:dD S w xa x.ks) (hp:fA ts S w p q ca na) :
  Calls Tryz.prog 61 (#[cH ts p q o ca cc na nc] ++ #[.pointer (some ⟨b,0,none⟩)]) w fun e w'=>∃ v,e = .returned v∧aT ts (eA S w) w' v (az bK ts p x)∧Below w.heap.size w w':=by
 have lb:=ae hb;obtain ⟨cl,hcl⟩:∃ cl,(aj ts p).length=cl:=⟨_,rfl⟩
 have HCL:Hid ((aj ts p).length=cl):=hcl;obtain ⟨rp,hrp⟩:∃ rp,az bK ts p x=rp:=⟨_,rfl⟩
 have HRP:Hid (az bK ts p x=rp):=hrp;rw [hrp];unfold cH bL;rw [hcl];clear hcl hrp;have A:Below w.heap.size w ((w.alloc (.cells (aJ p q o ca cl cc na p.ks.length nc) 50)).alloc (.cells aH 50)):=(((He w.heap.size w).alloc (Hd _) (.cells (aJ p q o ca cl cc na p.ks.length nc) 50)).alloc (by simp only [Hg]; omega) (.cells aH 50))
 have Z:w.heap.size+2≤((w.alloc (.cells (aJ p q o ca cl cc na p.ks.length nc) 50)).alloc (.cells aH 50)).heap.size:=by simp only [Hg]; omega
 have Q0:((w.alloc (.cells (aJ p q o ca cl cc na p.ks.length nc) 50)).alloc (.cells aH 50)).heap[w.heap.size]? = some (.cells (aJ p q o ca cl cc na p.ks.length nc) 50 (0,0)):=by
  rw [aD _ _ (by simp only [Hg]; omega)];exact aw w (aJ p q o ca cl cc na p.ks.length nc) 50 rfl
 have Q1:((w.alloc (.cells (aJ p q o ca cl cc na p.ks.length nc) 50)).alloc (.cells aH 50)).heap[w.heap.size+1]? = some (.cells aH 50 (0,0)):=by
  exact aw (w.alloc (.cells (aJ p q o ca cl cc na p.ks.length nc) 50)) aH 50 (by simp only [Hg])
 have QB:=(A.block _ lb).trans hb;have con:=hs (Old S w) x xa xc q o ca cc na nc ((w.alloc (.cells (aJ p q o ca cl cc na p.ks.length nc) 50)).alloc (.cells aH 50)) hw hsh ((hx.mono fun b h l=>⟨h,l⟩).next (ah.of A)) ((hp.mono fun b h l=>⟨h,l⟩).next (ah.of A));unfold cH bL at con;rw [HCL.out] at con;clear hs hw hsh hb hx hp;simp only [List.append_toArray,Iz,List.nil_append];go_enter Tryz.func61,Tryz.ntmps61;go_upto_region 1 with fail
 generalize ((w.alloc (.cells (aJ p q o ca cl cc na p.ks.length nc) 50)).alloc (.cells aH 50))=w2 at *;obtain ⟨x0,x1,x2,x3,x4,x5⟩:=cU QB;obtain ⟨n0,n1,n2,n3,n4,n5,n6,n7,n8,n9,n10,n11,n12⟩:=aB Q0;go_wp2_with fail
 refine con.mono ?_;clear x0 x1 x2 x3 x4 x5 n0 n1 n2 n3 n4 n5 n6 n7 n8 n9 n10 n11 n12;rintro e w7 ⟨v7,rfl,N7,hb7⟩;clear con;have A7:=chain A hb7;have QR7:=(hb7.block _ (ae Q1)).trans Q1;have lr6:=ae Q1;obtain ⟨q2,o2,ca2,cc2,na2,nc2,rfl,B7⟩:=N7;generalize hF:az bK ts p x=F at *;obtain ⟨cl2,hcl2⟩:∃ cl2,(aj ts F).length=cl2:=⟨_,rfl⟩
 have HCL2:Hid ((aj ts F).length=cl2):=hcl2;unfold cH bL;rw [hcl2];clear hcl2 hF;obtain ⟨y0,y1,y2,y3,y4,y5,y6,y7,y8,y9,y10,y11,y12⟩:=aB QR7;obtain ⟨yf0,yf1,yf2,yf3,yf4,yf5,yf6,yf7,yf8,yf9,yf10,yf11,yf12⟩:=cL QR7;go_wp2_with fail
 have AP:Below w.heap.size w (df w7 (w.heap.size+1) F q2 o2 ca2 cl2 cc2 na2 F.ks.length nc2):=(bf (g:=w.heap.size+1) A7 (by omega) (.int .i64 F.k) (.int .i64 F.n) (.int .i64 F.x.k) (.int .i64 F.x.v.1) (.int .i64 F.x.v.2.1) (.string F.x.v.2.2) (.int .i64 F.x.c) (.slice q2.xa F.x.ks.length q2.xc) (.slice q2.sa F.xs.length q2.sc) (.slice q2.ga F.gs.length q2.gc) (.slice q2.ka o2 q2.kc) (.slice ca2 cl2 cc2) (.slice na2 F.ks.length nc2))
 have KP:ah (eA (Old S w) w2) w7 (df w7 (w.heap.size+1) F q2 o2 ca2 cl2 cc2 na2 F.ks.length nc2):=(bC (g:=w.heap.size+1) (ah.refl _ w7) (cD (by omega) (by omega)) (.int .i64 F.k) (.int .i64 F.n) (.int .i64 F.x.k) (.int .i64 F.x.v.1) (.int .i64 F.x.v.2.1) (.string F.x.v.2.2) (.int .i64 F.x.c) (.slice q2.xa F.x.ks.length q2.xc) (.slice q2.sa F.xs.length q2.sc) (.slice q2.ga F.gs.length q2.gc) (.slice q2.ka o2 q2.kc) (.slice ca2 cl2 cc2) (.slice na2 F.ks.length nc2))
 have QE:(df w7 (w.heap.size+1) F q2 o2 ca2 cl2 cc2 na2 F.ks.length nc2).heap[w.heap.size+1]? = some (.cells (aJ F q2 o2 ca2 cl2 cc2 na2 F.ks.length nc2) 50 (0,0)):=(bw (g:=w.heap.size+1) QR7 (.int .i64 F.k) (.int .i64 F.n) (.int .i64 F.x.k) (.int .i64 F.x.v.1) (.int .i64 F.x.v.2.1) (.string F.x.v.2.2) (.int .i64 F.x.c) (.slice q2.xa F.x.ks.length q2.xc) (.slice q2.sa F.xs.length q2.sc) (.slice q2.ga F.gs.length q2.gc) (.slice q2.ka o2 q2.kc) (.slice ca2 cl2 cc2) (.slice na2 F.ks.length nc2))
 clear y0 yf0 y1 yf1 y2 yf2 y3 yf3 y4 yf4 y5 yf5 y6 yf6 y7 yf7 y8 yf8 y9 yf9 y10 yf10 y11 yf11 y12 yf12;unfold df at AP KP QE
 generalize (((((((((((((w7.setCell ⟨w.heap.size+1,0,none⟩ (.int .i64 F.k)).setCell ⟨w.heap.size+1,1,none⟩ (.int .i64 F.n)).setCell ⟨w.heap.size+1,2,none⟩ (.int .i64 F.x.k)).setCell ⟨w.heap.size+1,3,none⟩ (.int .i64 F.x.v.1)).setCell ⟨w.heap.size+1,4,none⟩ (.int .i64 F.x.v.2.1)).setCell ⟨w.heap.size+1,5,none⟩ (.string F.x.v.2.2)).setCell ⟨w.heap.size+1,6,none⟩ (.int .i64 F.x.c)).setCell ⟨w.heap.size+1,7,none⟩ (.slice q2.xa F.x.ks.length q2.xc)).setCell ⟨w.heap.size+1,8,none⟩ (.slice q2.sa F.xs.length q2.sc)).setCell ⟨w.heap.size+1,9,none⟩ (.slice q2.ga F.gs.length q2.gc)).setCell ⟨w.heap.size+1,10,none⟩ (.slice q2.ka o2 q2.kc)).setCell ⟨w.heap.size+1,11,none⟩ (.slice ca2 cl2 cc2)).setCell ⟨w.heap.size+1,12,none⟩ (.slice na2 F.ks.length nc2))=w8 at *
 have FIN:aT ts (eA S w) w8 (.agg (aJ F q2 o2 ca2 cl2 cc2 na2 F.ks.length nc2)) F:=by
  refine ⟨q2,o2,ca2,cc2,na2,nc2,by unfold cH bL; rw [HCL2.out],(B7.next KP).mono fun b h _=>?_⟩;rcases h with h | h
  ·exact .inl h.1
  ·exact .inr (by have:=A.size; omega)
 obtain ⟨r0,r1,r2,r3,r4,r5,r6,r7,r8,r9,r10,r11,r12⟩:=aB QE;exact Hf (v:=.agg (aJ F q2 o2 ca2 cl2 cc2 na2 F.ks.length nc2)) (by simp [results,Tryz.results61,go_sem,r0,r1,r2,r3,r4,r5,r6,r7,r8,r9,r10,r11,r12]) rfl ⟨_,rfl,by rw [← HRP.out]; exact FIN,AP⟩
theorem ja (ts:List (List Int)) (S:Nat→Prop) (x:Ex) (xa:Option Addr) (xc:Nat) (b:Nat) (l:List Pl) (w:World) (hs:∀ r ∈ l,gE ts r∧eV ts r) (hw:dz eD x) (hb:w.heap[b]? = some (.cells (aW x xa xc) 27 (0,0))) (hx:dD S w xa x.ks) :
  GK ts (.func (.func 61) #[] #[.pointer (some ⟨b,0,none⟩)]) (fun r=>az bK ts r x) l S w :=
 ⟨61,#[.pointer (some ⟨b,0,none⟩)],rfl,enters_of Tryz.func61 (by kernel_rfl) rfl,fun r hr q o ca cc na nc W hW hB=>td ts S x xa xc b r q o ca cc na nc W (hs r hr).1 hw (hs r hr).2 ((hW.block _ (ae hb)).trans hb) (hx.next (ah.of hW)) hB⟩
mutual
def cX:Pl→Pl
 | .mk k n x xs gs ks=>.mk k (if k=1∨k=13 then n else 0) (if k=2∨4≤k∧k≤7 then il (fun c=>c) x else yE) (if k=3∨k=12∨k=13 then bB (fun c=>c) xs else []) (if k=12 then gs.map jw else []) (bN ks)
def bN:List Pl→List Pl
 | []=>[]
 | p :: r=>cX p :: bN r
end
theorem dq:∀ l,bN l=l.map cX
 | []=>by simp [bN]
 | p :: r=>by rw [bN,dq r,I0]
theorem sm (l:List Pl):(bN l).length=l.length:=by rw [dq,Ik]
theorem yh {ks:List Pl} {j:Nat} (h:j<ks.length):bN (ks.take (j+1))=bN (ks.take j) ++ [cX ks[j]]:=by
 rw [dq,dq,Ht h,IM];rfl
mutual
def kG:Pl→Prop
 | .mk k _ x xs gs ks=>(1≤k∧k≤13)∧ks.length≤2∧(k=2∨4≤k∧k≤7→dz eD x)∧(k=3∨k=12∨k=13→xs.length≤100000∧∀ x ∈ xs,dz eD x)∧(k=12→gs.length≤100000∧∀ g ∈ gs,g.1≠1→dz eD g.2)∧BD ks
def BD:List Pl→Prop
 | []=>True
 | p :: r=>kG p∧BD r
end
theorem jJ:∀ {l:List Pl},BD l↔∀ p ∈ l,kG p
 | []=>by simp [BD]
 | p :: r=>by rw [BD,jJ (l:=r)]; simp
structure GO (p:Pl):Prop where
 k:1≤p.k∧p.k≤13
 two:p.ks.length≤2
 x:p.k=2∨4≤p.k∧p.k≤7→dz eD p.x
 xs:p.k=3∨p.k=12∨p.k=13→p.xs.length≤100000∧∀ x ∈ p.xs,dz eD x
 gs:p.k=12→p.gs.length≤100000∧∀ g ∈ p.gs,g.1≠1→dz eD g.2
 ks:∀ r ∈ p.ks,kG r
theorem kG.q {p:Pl} (h:kG p):GO p:=by
 obtain ⟨k,n,x,xs,gs,ks⟩:=p;rw [kG] at h;obtain ⟨h1,h2,h3,h4,h5,h6⟩:=h;exact ⟨h1,h2,h3,h4,h5,jJ.1 h6⟩
theorem cY (p:Pl):(cX p).k=p.k∧(cX p).n=(if p.k=1∨p.k=13 then p.n else 0)∧(cX p).x=(if p.k=2∨4≤p.k∧p.k≤7 then il (fun c=>c) p.x else yE)∧(cX p).xs=(if p.k=3∨p.k=12∨p.k=13 then bB (fun c=>c) p.xs else [])∧(cX p).gs=(if p.k=12 then p.gs.map jw else [])∧(cX p).ks=bN p.ks:=by
 obtain ⟨k,n,x,xs,gs,ks⟩:=p;rw [cX];exact ⟨rfl,rfl,rfl,rfl,rfl,rfl⟩
def Bu (ts:List (List Int)) (p:Pl):Prop:=∀ (S:Nat→Prop) (q:Pw) (o:Nat) (ca:Option Addr) (cc:Nat) (na:Option Addr) (nc:Nat) (w:World),kG p→fA ts S w p q ca na →
 Calls Tryz.prog 14 #[cH ts p q o ca cc na nc] w fun e w'=>∃ q',e = .returned (fp (cX p) q')∧lD (fun b=>w.heap.size≤b) w' (cX p) q'∧Below w.heap.size w w'
theorem FF:(Tryz.prog.info? 31).map (fun i=>(i.zero,i.size,i.bytes))=some (some (.agg dT),11,160):=by kernel_rfl
theorem Dc {p:Pl} {q:Pw} {o:Nat}:∀ u ∈ EB p q o,u.oneCell'=true:=by
 intro u hu;simp only [EB,H6,I4,or_false] at hu;rcases hu with rfl | rfl | rfl | rfl | rfl | rfl | rfl | rfl | rfl | rfl | rfl <;> rfl
theorem ui {g:Nat} {T:TypeId} {W:World} {c0 c1 c2 c3 c4 c5 c6 c7 c8 c9 dW:Value} (h:W.heap[g]? = some (.cells #[c0,c1,c2,c3,c4,c5,c6,c7,c8,c9,dW] T (0,0))) (v0 v1 v2 v3 v4 v5:Value):((((((W.setCell ⟨g,2,none⟩ (v0)).setCell ⟨g,3,none⟩ (v1)).setCell ⟨g,4,none⟩ (v2)).setCell ⟨g,5,none⟩ (v3)).setCell ⟨g,6,none⟩ (v4)).setCell ⟨g,7,none⟩ (v5)).heap[g]? = some (.cells #[c0,c1,v0,v1,v2,v3,v4,v5,c8,c9,dW] T (0,0)):=by
 have h1:=Hn _ g 2 _ _ v0 h;have h2:=Hn _ g 3 _ _ v1 h1;have h3:=Hn _ g 4 _ _ v2 h2;have h4:=Hn _ g 5 _ _ v3 h3;have h5:=Hn _ g 6 _ _ v4 h4;exact Hn _ g 7 _ _ v5 h5
theorem rh (ts : List (List Int)) (p : Pl) (ih : ∀ r ∈ p.ks, Bu ts r) : Bu ts p := by
  intro S q o ca cc na nc w hwd hp
  obtain ⟨i0, hi, hj0, hj1, hj2⟩ := info_parts FF
  obtain ⟨cl, hcl⟩ : ∃ cl, (aj ts p).length = cl := ⟨_, rfl⟩
  obtain ⟨rp, hrp⟩ : ∃ rp, cX p = rp := ⟨_, rfl⟩
  have HRP : Hid (cX p = rp) := hrp
  have HWD : Hid (GO p) := hwd.q
  have HP : Hid (fA ts S w p q ca na) := hp
  have IH : Hid (∀ r ∈ p.ks, Bu ts r) := ih
  have EK : Hid (rp.k = p.k) := by show _ = _; rw [← hrp]; exact (cY p).1
  have EKS : Hid (rp.ks = bN p.ks) := by show _ = _; rw [← hrp]; exact (cY p).2.2.2.2.2
  rw [hrp]
  unfold cH bL
  rw [hcl]
  clear hcl hrp hwd hp ih
  have A : Below w.heap.size w (((w.alloc (.cells (aJ p q o ca cl cc na p.ks.length nc) 50)).alloc (.cells dT 31)).alloc (.cells #[.int .i64 p.k, .int .i64 0, .int .i64 0, .int .i64 0, .int .i64 0, .string ⟨#[]⟩, .int .i64 0, .slice none 0 0, .slice none 0 0, .slice none 0 0, .slice none 0 0] 31)) := ((((He w.heap.size w).alloc (Hd _) (.cells (aJ p q o ca cl cc na p.ks.length nc) 50)).alloc (by simp only [Hg]; omega) (.cells dT 31)).alloc (by simp only [Hg]; omega) (.cells #[.int .i64 p.k, .int .i64 0, .int .i64 0, .int .i64 0, .int .i64 0, .string ⟨#[]⟩, .int .i64 0, .slice none 0 0, .slice none 0 0, .slice none 0 0, .slice none 0 0] 31))
  have Z : w.heap.size + 3 ≤ (((w.alloc (.cells (aJ p q o ca cl cc na p.ks.length nc) 50)).alloc (.cells dT 31)).alloc (.cells #[.int .i64 p.k, .int .i64 0, .int .i64 0, .int .i64 0, .int .i64 0, .string ⟨#[]⟩, .int .i64 0, .slice none 0 0, .slice none 0 0, .slice none 0 0, .slice none 0 0] 31)).heap.size := by simp only [Hg]; omega
  have Q0 : (((w.alloc (.cells (aJ p q o ca cl cc na p.ks.length nc) 50)).alloc (.cells dT 31)).alloc (.cells #[.int .i64 p.k, .int .i64 0, .int .i64 0, .int .i64 0, .int .i64 0, .string ⟨#[]⟩, .int .i64 0, .slice none 0 0, .slice none 0 0, .slice none 0 0, .slice none 0 0] 31)).heap[w.heap.size]? = some (.cells (aJ p q o ca cl cc na p.ks.length nc) 50 (0, 0)) := by
    rw [aD _ _ (by simp only [Hg]; omega), aD _ _ (by simp only [Hg]; omega)]
    exact aw w (aJ p q o ca cl cc na p.ks.length nc) 50 rfl
  have Q1 : (((w.alloc (.cells (aJ p q o ca cl cc na p.ks.length nc) 50)).alloc (.cells dT 31)).alloc (.cells #[.int .i64 p.k, .int .i64 0, .int .i64 0, .int .i64 0, .int .i64 0, .string ⟨#[]⟩, .int .i64 0, .slice none 0 0, .slice none 0 0, .slice none 0 0, .slice none 0 0] 31)).heap[w.heap.size + 1]? = some (.cells dT 31 (0, 0)) := by
    rw [aD _ _ (by simp only [Hg]; omega)]
    exact aw (w.alloc (.cells (aJ p q o ca cl cc na p.ks.length nc) 50)) dT 31 (by simp only [Hg])
  have Q2 : (((w.alloc (.cells (aJ p q o ca cl cc na p.ks.length nc) 50)).alloc (.cells dT 31)).alloc (.cells #[.int .i64 p.k, .int .i64 0, .int .i64 0, .int .i64 0, .int .i64 0, .string ⟨#[]⟩, .int .i64 0, .slice none 0 0, .slice none 0 0, .slice none 0 0, .slice none 0 0] 31)).heap[w.heap.size + 2]? = some (.cells #[.int .i64 p.k, .int .i64 0, .int .i64 0, .int .i64 0, .int .i64 0, .string ⟨#[]⟩, .int .i64 0, .slice none 0 0, .slice none 0 0, .slice none 0 0, .slice none 0 0] 31 (0, 0)) := by
    exact aw ((w.alloc (.cells (aJ p q o ca cl cc na p.ks.length nc) 50)).alloc (.cells dT 31)) #[.int .i64 p.k, .int .i64 0, .int .i64 0, .int .i64 0, .int .i64 0, .string ⟨#[]⟩, .int .i64 0, .slice none 0 0, .slice none 0 0, .slice none 0 0, .slice none 0 0] 31 (by simp only [Hg])
  have hc : p.k = 1 ∨ (p.k = 2 ∨ 4 ≤ p.k ∧ p.k ≤ 7) ∨ p.k = 3 ∨ p.k = 12 ∨ p.k = 13 ∨ (8 ≤ p.k ∧ p.k ≤ 11) := by
    have := HWD.out.k
    omega
  have HCS : Hid (p.k = 1 ∨ (p.k = 2 ∨ 4 ≤ p.k ∧ p.k ≤ 7) ∨ p.k = 3 ∨ p.k = 12 ∨ p.k = 13 ∨ (8 ≤ p.k ∧ p.k ≤ 11)) := hc
  clear hc
  go_enter Tryz.func14, Tryz.ntmps14
  go_upto_region 2 with fail
  generalize (((w.alloc (.cells (aJ p q o ca cl cc na p.ks.length nc) 50)).alloc (.cells dT 31)).alloc (.cells #[.int .i64 p.k, .int .i64 0, .int .i64 0, .int .i64 0, .int .i64 0, .string ⟨#[]⟩, .int .i64 0, .slice none 0 0, .slice none 0 0, .slice none 0 0, .slice none 0 0] 31)) = w3 at *
  obtain ⟨n0, n1, n2, n3, n4, n5, n6, n7, n8, n9, n10, n11, n12⟩ := aB Q0
  obtain ⟨o0, o1, o2, o3, o4, o5, o6, o7, o8, o9, o10⟩ := bz Q2
  obtain ⟨of0, of1, of2, of3, of4, of5, of6, of7, of8, of9, of10⟩ := lO Q2
  have hc := HCS.out
  clear HCS
  go_upto_block 0 with fail
  go_cut [] (fun wc => (∃ q3 : Pw, wc.heap[w.heap.size + 2]? = some (.cells #[.int .i64 rp.k, .int .i64 rp.n, .int .i64 rp.x.k, .int .i64 rp.x.v.1, .int .i64 rp.x.v.2.1, .string rp.x.v.2.2, .int .i64 rp.x.c, .slice q3.xa rp.x.ks.length q3.xc, .slice q3.sa rp.xs.length q3.sc, .slice q3.ga rp.gs.length q3.gc, .slice none 0 0] 31 (0, 0)) ∧ dD (fun b => w.heap.size + 3 ≤ b) wc q3.xa rp.x.ks ∧ dD (fun b => w.heap.size + 3 ≤ b) wc q3.sa rp.xs ∧ nz (fun b => w.heap.size + 3 ≤ b) wc q3.ga rp.gs) ∧ Below w.heap.size w wc ∧ wc.heap[w.heap.size]? = some (.cells (aJ p q o ca cl cc na p.ks.length nc) 50 (0, 0)) ∧ wc.heap[w.heap.size + 1]? = some (.cells dT 31 (0, 0)) ∧ w.heap.size + 3 ≤ wc.heap.size)
  case first =>
    rcases hc with hc1 | hc2 | hc3 | hc4 | hc5 | hc6
    all_goals first
      | (have hc := hc1
         clear hc1
         have b1 : (p.k == 1) = true := by simpa using (show p.k = 1 by omega)
         have EN : Hid (rp.n = p.n) := by show _ = _; rw [← HRP.out, (cY p).2.1, if_pos (by omega)]
         have EX : Hid (rp.x = yE) := by show _ = _; rw [← HRP.out, (cY p).2.2.1, if_neg (by omega)]
         have ES : Hid (rp.xs = []) := by show _ = _; rw [← HRP.out, (cY p).2.2.2.1, if_neg (by omega)]
         have EG : Hid (rp.gs = []) := by show _ = _; rw [← HRP.out, (cY p).2.2.2.2.1, if_neg (by omega)]
         clear hc
         have HS := Hn w3 (w.heap.size + 2) 1 _ _ (.int .i64 p.n) Q2
         have M4 : ∃ q3 : Pw, (w3.setCell ⟨w.heap.size + 2, 1, none⟩ (.int .i64 p.n)).heap[w.heap.size + 2]? = some (.cells #[.int .i64 rp.k, .int .i64 rp.n, .int .i64 rp.x.k, .int .i64 rp.x.v.1, .int .i64 rp.x.v.2.1, .string rp.x.v.2.2, .int .i64 rp.x.c, .slice q3.xa rp.x.ks.length q3.xc, .slice q3.sa rp.xs.length q3.sc, .slice q3.ga rp.gs.length q3.gc, .slice none 0 0] 31 (0, 0)) ∧ dD (fun b => w.heap.size + 3 ≤ b) (w3.setCell ⟨w.heap.size + 2, 1, none⟩ (.int .i64 p.n)) q3.xa rp.x.ks ∧ dD (fun b => w.heap.size + 3 ≤ b) (w3.setCell ⟨w.heap.size + 2, 1, none⟩ (.int .i64 p.n)) q3.sa rp.xs ∧ nz (fun b => w.heap.size + 3 ≤ b) (w3.setCell ⟨w.heap.size + 2, 1, none⟩ (.int .i64 p.n)) q3.ga rp.gs := ⟨⟨none, 0, none, 0, none, 0, none, 0⟩, by rw [EK.out, EN.out, EX.out, ES.out, EG.out]; exact HS, by rw [EX.out]; exact .nil _, by rw [ES.out]; exact .nil _, by rw [EG.out]; exact .inl rfl⟩
         have A4 : Below w.heap.size w (w3.setCell ⟨w.heap.size + 2, 1, none⟩ (.int .i64 p.n)) := A.setCell (p := ⟨w.heap.size + 2, 1, none⟩) (Ir _ _) _
         have Q04 : (w3.setCell ⟨w.heap.size + 2, 1, none⟩ (.int .i64 p.n)).heap[w.heap.size]? = some (.cells (aJ p q o ca cl cc na p.ks.length nc) 50 (0, 0)) := by rw [aq _ _ (by omega)]; exact Q0
         have Q14 : (w3.setCell ⟨w.heap.size + 2, 1, none⟩ (.int .i64 p.n)).heap[w.heap.size + 1]? = some (.cells dT 31 (0, 0)) := by rw [aq _ _ (by omega)]; exact Q1
         have z4 : w.heap.size + 3 ≤ (w3.setCell ⟨w.heap.size + 2, 1, none⟩ (.int .i64 p.n)).heap.size := by rw [Ip]; exact Z
         go_wp2_with fail
         go_meet
         case rel => exact ⟨M4, A4, Q04, Q14, z4⟩
         skip)
      | (have hc := hc2
         clear hc2
         have b1 : (p.k == 1) = false := by simpa using (show ¬ p.k = 1 by omega)
         have EN : Hid (rp.n = 0) := by show _ = _; rw [← HRP.out, (cY p).2.1, if_neg (by omega)]
         have EX : Hid (rp.x = il (fun c => c) p.x) := by show _ = _; rw [← HRP.out, (cY p).2.2.1, if_pos (by omega)]
         have ES : Hid (rp.xs = []) := by show _ = _; rw [← HRP.out, (cY p).2.2.2.1, if_neg (by omega)]
         have EG : Hid (rp.gs = []) := by show _ = _; rw [← HRP.out, (cY p).2.2.2.2.1, if_neg (by omega)]
         have hw := HWD.out.x hc
         have hbk : (p.k == 2) = true ∨ ((p.k == 2) = false ∧ (p.k == 4) = true) ∨ ((p.k == 2) = false ∧ (p.k == 4) = false ∧ (p.k == 5) = true) ∨ ((p.k == 2) = false ∧ (p.k == 4) = false ∧ (p.k == 5) = false ∧ (p.k == 6) = true) ∨ ((p.k == 2) = false ∧ (p.k == 4) = false ∧ (p.k == 5) = false ∧ (p.k == 6) = false ∧ (p.k == 7) = true) := by
           simp only [beq_iff_eq, beq_eq_false_iff_ne]
           omega
         clear hc
         have con := j0 (fun c => c) eD p.x (.func (.func 24) #[] #[]) q.xa q.xc w3 (qI eD _) hw (HP.out.x.next (ah.of A)).ks
         obtain ⟨y, hy⟩ : ∃ y, il (fun c => c) p.x = y := ⟨_, rfl⟩
         rw [hy] at con EX
         clear hy hw
         rcases hbk with b2 | ⟨b2, b4⟩ | ⟨b2, b4, b5⟩ | ⟨b2, b4, b5, b6⟩ | ⟨b2, b4, b5, b6, b7⟩
         all_goals go_wp2_with fail
         all_goals refine con.mono ?_
         all_goals rintro e w5 ⟨ya, yc, rfl, KY, hb5⟩
         all_goals try clear b7
         all_goals try clear b6
         all_goals try clear b5
         all_goals try clear b4
         all_goals (
           clear con b2 b1
           clear n0 n1 n2 n3 n4 n5 n6 n7 n8 n9 n10 n11 n12 o0 of0 o1 of1 o2 of2 o3 of3 o4 of4 o5 of5 o6 of6 o7 of7 o8 of8 o9 of9 o10 of10
           have Q25 := (hb5.block _ (ae Q2)).trans Q2
           have Q05 := (hb5.block _ (ae Q0)).trans Q0
           have Q15 := (hb5.block _ (ae Q1)).trans Q1
           have A5 := chain A hb5
           have z5 := hb5.size
           obtain ⟨o0, o1, o2, o3, o4, o5, o6, o7, o8, o9, o10⟩ := bz Q25
           obtain ⟨of0, of1, of2, of3, of4, of5, of6, of7, of8, of9, of10⟩ := lO Q25
           have HS : ((((((w5.setCell ⟨w.heap.size + 2, 2, none⟩ (.int .i64 y.k)).setCell ⟨w.heap.size + 2, 3, none⟩ (.int .i64 y.v.1)).setCell ⟨w.heap.size + 2, 4, none⟩ (.int .i64 y.v.2.1)).setCell ⟨w.heap.size + 2, 5, none⟩ (.string y.v.2.2)).setCell ⟨w.heap.size + 2, 6, none⟩ (.int .i64 y.c)).setCell ⟨w.heap.size + 2, 7, none⟩ (.slice ya y.ks.length yc)).heap[w.heap.size + 2]? = some (.cells #[.int .i64 p.k, .int .i64 0, .int .i64 y.k, .int .i64 y.v.1, .int .i64 y.v.2.1, .string y.v.2.2, .int .i64 y.c, .slice ya y.ks.length yc, .slice none 0 0, .slice none 0 0, .slice none 0 0] 31 (0, 0)) := ui Q25 (.int .i64 y.k) (.int .i64 y.v.1) (.int .i64 y.v.2.1) (.string y.v.2.2) (.int .i64 y.c) (.slice ya y.ks.length yc)
           have KP : ah (fun b => w.heap.size + 3 ≤ b) w5 ((((((w5.setCell ⟨w.heap.size + 2, 2, none⟩ (.int .i64 y.k)).setCell ⟨w.heap.size + 2, 3, none⟩ (.int .i64 y.v.1)).setCell ⟨w.heap.size + 2, 4, none⟩ (.int .i64 y.v.2.1)).setCell ⟨w.heap.size + 2, 5, none⟩ (.string y.v.2.2)).setCell ⟨w.heap.size + 2, 6, none⟩ (.int .i64 y.c)).setCell ⟨w.heap.size + 2, 7, none⟩ (.slice ya y.ks.length yc)) := qe (ah.refl _ _) (by omega) (.int .i64 y.k) (.int .i64 y.v.1) (.int .i64 y.v.2.1) (.string y.v.2.2) (.int .i64 y.c) (.slice ya y.ks.length yc)
           have M4 : ∃ q3 : Pw, ((((((w5.setCell ⟨w.heap.size + 2, 2, none⟩ (.int .i64 y.k)).setCell ⟨w.heap.size + 2, 3, none⟩ (.int .i64 y.v.1)).setCell ⟨w.heap.size + 2, 4, none⟩ (.int .i64 y.v.2.1)).setCell ⟨w.heap.size + 2, 5, none⟩ (.string y.v.2.2)).setCell ⟨w.heap.size + 2, 6, none⟩ (.int .i64 y.c)).setCell ⟨w.heap.size + 2, 7, none⟩ (.slice ya y.ks.length yc)).heap[w.heap.size + 2]? = some (.cells #[.int .i64 rp.k, .int .i64 rp.n, .int .i64 rp.x.k, .int .i64 rp.x.v.1, .int .i64 rp.x.v.2.1, .string rp.x.v.2.2, .int .i64 rp.x.c, .slice q3.xa rp.x.ks.length q3.xc, .slice q3.sa rp.xs.length q3.sc, .slice q3.ga rp.gs.length q3.gc, .slice none 0 0] 31 (0, 0)) ∧ dD (fun b => w.heap.size + 3 ≤ b) ((((((w5.setCell ⟨w.heap.size + 2, 2, none⟩ (.int .i64 y.k)).setCell ⟨w.heap.size + 2, 3, none⟩ (.int .i64 y.v.1)).setCell ⟨w.heap.size + 2, 4, none⟩ (.int .i64 y.v.2.1)).setCell ⟨w.heap.size + 2, 5, none⟩ (.string y.v.2.2)).setCell ⟨w.heap.size + 2, 6, none⟩ (.int .i64 y.c)).setCell ⟨w.heap.size + 2, 7, none⟩ (.slice ya y.ks.length yc)) q3.xa rp.x.ks ∧ dD (fun b => w.heap.size + 3 ≤ b) ((((((w5.setCell ⟨w.heap.size + 2, 2, none⟩ (.int .i64 y.k)).setCell ⟨w.heap.size + 2, 3, none⟩ (.int .i64 y.v.1)).setCell ⟨w.heap.size + 2, 4, none⟩ (.int .i64 y.v.2.1)).setCell ⟨w.heap.size + 2, 5, none⟩ (.string y.v.2.2)).setCell ⟨w.heap.size + 2, 6, none⟩ (.int .i64 y.c)).setCell ⟨w.heap.size + 2, 7, none⟩ (.slice ya y.ks.length yc)) q3.sa rp.xs ∧ nz (fun b => w.heap.size + 3 ≤ b) ((((((w5.setCell ⟨w.heap.size + 2, 2, none⟩ (.int .i64 y.k)).setCell ⟨w.heap.size + 2, 3, none⟩ (.int .i64 y.v.1)).setCell ⟨w.heap.size + 2, 4, none⟩ (.int .i64 y.v.2.1)).setCell ⟨w.heap.size + 2, 5, none⟩ (.string y.v.2.2)).setCell ⟨w.heap.size + 2, 6, none⟩ (.int .i64 y.c)).setCell ⟨w.heap.size + 2, 7, none⟩ (.slice ya y.ks.length yc)) q3.ga rp.gs := ⟨⟨ya, yc, none, 0, none, 0, none, 0⟩, by rw [EK.out, EN.out, EX.out, ES.out, EG.out]; exact HS, by rw [EX.out]; exact (KY.next (ah.refl _ _)).mono (S' := fun b => w.heap.size + 3 ≤ b) (fun b h _ => by omega) |>.next KP, by rw [ES.out]; exact .nil _, by rw [EG.out]; exact .inl rfl⟩
           have A4 : Below w.heap.size w ((((((w5.setCell ⟨w.heap.size + 2, 2, none⟩ (.int .i64 y.k)).setCell ⟨w.heap.size + 2, 3, none⟩ (.int .i64 y.v.1)).setCell ⟨w.heap.size + 2, 4, none⟩ (.int .i64 y.v.2.1)).setCell ⟨w.heap.size + 2, 5, none⟩ (.string y.v.2.2)).setCell ⟨w.heap.size + 2, 6, none⟩ (.int .i64 y.c)).setCell ⟨w.heap.size + 2, 7, none⟩ (.slice ya y.ks.length yc)) := qf A5 (by omega) (.int .i64 y.k) (.int .i64 y.v.1) (.int .i64 y.v.2.1) (.string y.v.2.2) (.int .i64 y.c) (.slice ya y.ks.length yc)
           have Q04 : ((((((w5.setCell ⟨w.heap.size + 2, 2, none⟩ (.int .i64 y.k)).setCell ⟨w.heap.size + 2, 3, none⟩ (.int .i64 y.v.1)).setCell ⟨w.heap.size + 2, 4, none⟩ (.int .i64 y.v.2.1)).setCell ⟨w.heap.size + 2, 5, none⟩ (.string y.v.2.2)).setCell ⟨w.heap.size + 2, 6, none⟩ (.int .i64 y.c)).setCell ⟨w.heap.size + 2, 7, none⟩ (.slice ya y.ks.length yc)).heap[w.heap.size]? = some (.cells (aJ p q o ca cl cc na p.ks.length nc) 50 (0, 0)) := qW Q05 (by omega) (.int .i64 y.k) (.int .i64 y.v.1) (.int .i64 y.v.2.1) (.string y.v.2.2) (.int .i64 y.c) (.slice ya y.ks.length yc)
           have Q14 : ((((((w5.setCell ⟨w.heap.size + 2, 2, none⟩ (.int .i64 y.k)).setCell ⟨w.heap.size + 2, 3, none⟩ (.int .i64 y.v.1)).setCell ⟨w.heap.size + 2, 4, none⟩ (.int .i64 y.v.2.1)).setCell ⟨w.heap.size + 2, 5, none⟩ (.string y.v.2.2)).setCell ⟨w.heap.size + 2, 6, none⟩ (.int .i64 y.c)).setCell ⟨w.heap.size + 2, 7, none⟩ (.slice ya y.ks.length yc)).heap[w.heap.size + 1]? = some (.cells dT 31 (0, 0)) := qW Q15 (by omega) (.int .i64 y.k) (.int .i64 y.v.1) (.int .i64 y.v.2.1) (.string y.v.2.2) (.int .i64 y.c) (.slice ya y.ks.length yc)
           have z4 : w.heap.size + 3 ≤ ((((((w5.setCell ⟨w.heap.size + 2, 2, none⟩ (.int .i64 y.k)).setCell ⟨w.heap.size + 2, 3, none⟩ (.int .i64 y.v.1)).setCell ⟨w.heap.size + 2, 4, none⟩ (.int .i64 y.v.2.1)).setCell ⟨w.heap.size + 2, 5, none⟩ (.string y.v.2.2)).setCell ⟨w.heap.size + 2, 6, none⟩ (.int .i64 y.c)).setCell ⟨w.heap.size + 2, 7, none⟩ (.slice ya y.ks.length yc)).heap.size := by rw [BI]; omega
           go_wp2_with fail
           go_meet
           case rel => exact ⟨M4, A4, Q04, Q14, z4⟩)
         skip)
      | (have hc := hc3
         clear hc3
         have b1 : (p.k == 1) = false := by simpa using (show ¬ p.k = 1 by omega)
         have b2 : (p.k == 2) = false := by simpa using (show ¬ p.k = 2 by omega)
         have b4 : (p.k == 4) = false := by simpa using (show ¬ p.k = 4 by omega)
         have b5 : (p.k == 5) = false := by simpa using (show ¬ p.k = 5 by omega)
         have b6 : (p.k == 6) = false := by simpa using (show ¬ p.k = 6 by omega)
         have b7 : (p.k == 7) = false := by simpa using (show ¬ p.k = 7 by omega)
         have b3 : (p.k == 3) = true := by simpa using (show p.k = 3 by omega)
         have EN : Hid (rp.n = 0) := by show _ = _; rw [← HRP.out, (cY p).2.1, if_neg (by omega)]
         have EX : Hid (rp.x = yE) := by show _ = _; rw [← HRP.out, (cY p).2.2.1, if_neg (by omega)]
         have ES : Hid (rp.xs = bB (fun c => c) p.xs) := by show _ = _; rw [← HRP.out, (cY p).2.2.2.1, if_pos (by omega)]
         have EG : Hid (rp.gs = []) := by show _ = _; rw [← HRP.out, (cY p).2.2.2.2.1, if_neg (by omega)]
         have hw := HWD.out.xs (by omega)
         clear hc
         have con := i6 eD p.xs q.sa q.sc w3 (HP.out.xs.next (ah.of A)).ks hw.2 hw.1
         clear hw
         go_wp2_with fail
         refine con.mono ?_
         rintro e w5 ⟨sa, sc, rfl, KY, hb5⟩
         clear con
         clear n0 n1 n2 n3 n4 n5 n6 n7 n8 n9 n10 n11 n12 o0 of0 o1 of1 o2 of2 o3 of3 o4 of4 o5 of5 o6 of6 o7 of7 o8 of8 o9 of9 o10 of10
         have Q25 := (hb5.block _ (ae Q2)).trans Q2
         have Q05 := (hb5.block _ (ae Q0)).trans Q0
         have Q15 := (hb5.block _ (ae Q1)).trans Q1
         have A5 := chain A hb5
         have z5 := hb5.size
         have o8 : w5.cell? ⟨w.heap.size + 2, 8, none⟩ = some (.slice none 0 0) := cell_of (i := 8) Q25 rfl
         have of8 : w5.frozen? ⟨w.heap.size + 2, 8, none⟩ = false := Hh w5 (w.heap.size + 2) 8 _ _ Q25
         have HS := Hn w5 (w.heap.size + 2) 8 _ _ (.slice sa p.xs.length sc) Q25
         have KP : ah (fun b => w.heap.size + 3 ≤ b) w5 (w5.setCell ⟨w.heap.size + 2, 8, none⟩ (.slice sa p.xs.length sc)) := (ah.refl _ _).set (w.heap.size + 2) 8 _ (by omega)
         have M4 : ∃ q3 : Pw, (w5.setCell ⟨w.heap.size + 2, 8, none⟩ (.slice sa p.xs.length sc)).heap[w.heap.size + 2]? = some (.cells #[.int .i64 rp.k, .int .i64 rp.n, .int .i64 rp.x.k, .int .i64 rp.x.v.1, .int .i64 rp.x.v.2.1, .string rp.x.v.2.2, .int .i64 rp.x.c, .slice q3.xa rp.x.ks.length q3.xc, .slice q3.sa rp.xs.length q3.sc, .slice q3.ga rp.gs.length q3.gc, .slice none 0 0] 31 (0, 0)) ∧ dD (fun b => w.heap.size + 3 ≤ b) (w5.setCell ⟨w.heap.size + 2, 8, none⟩ (.slice sa p.xs.length sc)) q3.xa rp.x.ks ∧ dD (fun b => w.heap.size + 3 ≤ b) (w5.setCell ⟨w.heap.size + 2, 8, none⟩ (.slice sa p.xs.length sc)) q3.sa rp.xs ∧ nz (fun b => w.heap.size + 3 ≤ b) (w5.setCell ⟨w.heap.size + 2, 8, none⟩ (.slice sa p.xs.length sc)) q3.ga rp.gs := ⟨⟨none, 0, sa, sc, none, 0, none, 0⟩, by rw [EK.out, EN.out, EX.out, ES.out, EG.out, dr]; exact HS, by rw [EX.out]; exact .nil _, by rw [ES.out]; exact (KY.mono (S' := fun b => w.heap.size + 3 ≤ b) (fun b h _ => by omega)).next KP, by rw [EG.out]; exact .inl rfl⟩
         have A4 : Below w.heap.size w (w5.setCell ⟨w.heap.size + 2, 8, none⟩ (.slice sa p.xs.length sc)) := A5.setCell (p := ⟨w.heap.size + 2, 8, none⟩) (Ir _ _) _
         have Q04 : (w5.setCell ⟨w.heap.size + 2, 8, none⟩ (.slice sa p.xs.length sc)).heap[w.heap.size]? = some (.cells (aJ p q o ca cl cc na p.ks.length nc) 50 (0, 0)) := by rw [aq _ _ (by omega)]; exact Q05
         have Q14 : (w5.setCell ⟨w.heap.size + 2, 8, none⟩ (.slice sa p.xs.length sc)).heap[w.heap.size + 1]? = some (.cells dT 31 (0, 0)) := by rw [aq _ _ (by omega)]; exact Q15
         have z4 : w.heap.size + 3 ≤ (w5.setCell ⟨w.heap.size + 2, 8, none⟩ (.slice sa p.xs.length sc)).heap.size := by rw [Ip]; omega
         go_wp2_with fail
         go_meet
         case rel => exact ⟨M4, A4, Q04, Q14, z4⟩
         skip)
      | (have hc := hc4
         clear hc4
         have b1 : (p.k == 1) = false := by simpa using (show ¬ p.k = 1 by omega)
         have b2 : (p.k == 2) = false := by simpa using (show ¬ p.k = 2 by omega)
         have b4 : (p.k == 4) = false := by simpa using (show ¬ p.k = 4 by omega)
         have b5 : (p.k == 5) = false := by simpa using (show ¬ p.k = 5 by omega)
         have b6 : (p.k == 6) = false := by simpa using (show ¬ p.k = 6 by omega)
         have b7 : (p.k == 7) = false := by simpa using (show ¬ p.k = 7 by omega)
         have b3 : (p.k == 3) = false := by simpa using (show ¬ p.k = 3 by omega)
         have b12 : (p.k == 12) = true := by simpa using (show p.k = 12 by omega)
         have EN : Hid (rp.n = 0) := by show _ = _; rw [← HRP.out, (cY p).2.1, if_neg (by omega)]
         have EX : Hid (rp.x = yE) := by show _ = _; rw [← HRP.out, (cY p).2.2.1, if_neg (by omega)]
         have ES : Hid (rp.xs = bB (fun c => c) p.xs) := by show _ = _; rw [← HRP.out, (cY p).2.2.2.1, if_pos (by omega)]
         have EG : Hid (rp.gs = p.gs.map jw) := by show _ = _; rw [← HRP.out, (cY p).2.2.2.2.1, if_pos (by omega)]
         have hw := HWD.out.xs (by omega)
         have hg := HWD.out.gs hc
         clear hc
         go_upto_region 14 with fail
         clear n0 n1 n2 n3 n4 n5 n6 n7 n8 n9 n10 n11 n12 o0 of0 o1 of1 o2 of2 o3 of3 o4 of4 o5 of5 o6 of6 o7 of7 o8 of8 o9 of9 o10 of10
         have hCC : ∀ W W' : World, W.heap[w.heap.size]? = some (.cells (aJ p q o ca cl cc na p.ks.length nc) 50 (0, 0)) → Below W.heap.size W W' → W'.heap[w.heap.size]? = some (.cells (aJ p q o ca cl cc na p.ks.length nc) 50 (0, 0)) := fun W W' h hb => (hb.block _ (ae h)).trans h
         have hdr : Below w3.heap.size w3 w3.drew := (He _ _).drew
         have CW := hCC _ _ Q0 hdr
         refine aG (fun W => W.heap[w.heap.size]? = some (.cells (aJ p q o ca cl cc na p.ks.length nc) 50 (0, 0))) (by kernel_rfl) ?_
         refine ag hCC (some 39) (i := 0) (v := .pointer (some ⟨w.heap.size, 0, none⟩)) rfl rfl (by kernel_rfl) (by kernel_rfl) (by kernel_rfl) (fun _ _ _ h => h) (Or.inl ⟨rfl, fun n hn => ?_⟩) CW ?_
         · go_simp
         simp only [Act.put, Hj, Ho, Hp]
         refine ag hCC (some 40) (i := 1) (v := .pointer (some ⟨w.heap.size, 8, none⟩)) rfl rfl (by kernel_rfl) (by kernel_rfl) (by kernel_rfl) (fun _ _ _ h => h) (Or.inl ⟨rfl, fun n hn => ?_⟩) CW ?_
         · go_simp
         simp only [Act.put, Hj, Ho, Hp]
         refine ag hCC (some 41) (i := 2) (v := .slice q.sa p.xs.length q.sc) rfl rfl (by kernel_rfl) (by kernel_rfl) (by kernel_rfl) (fun _ _ _ h => h) (Or.inl ⟨rfl, fun n hn => ?_⟩) CW ?_
         · have hc : n.cell? ⟨w.heap.size, 8, none⟩ = some (.slice q.sa p.xs.length q.sc) := cell_of (i := 8) hn rfl
           go_simp
         simp only [Act.put, Hj, Ho, Hp]
         refine ag hCC (some 43) (i := 4) (v := .pointer (some ⟨w.heap.size, 0, none⟩)) rfl rfl (by kernel_rfl) (by kernel_rfl) (by kernel_rfl) (fun _ _ _ h => h) (Or.inl ⟨rfl, fun n hn => ?_⟩) CW ?_
         · go_simp
         simp only [Act.put, Hj, Ho, Hp]
         refine ag hCC (some 44) (i := 5) (v := .pointer (some ⟨w.heap.size, 9, none⟩)) rfl rfl (by kernel_rfl) (by kernel_rfl) (by kernel_rfl) (fun _ _ _ h => h) (Or.inl ⟨rfl, fun n hn => ?_⟩) CW ?_
         · go_simp
         simp only [Act.put, Hj, Ho, Hp]
         refine ag hCC (some 45) (i := 6) (v := .slice q.ga p.gs.length q.gc) rfl rfl (by kernel_rfl) (by kernel_rfl) (by kernel_rfl) (fun _ _ _ h => h) (Or.inl ⟨rfl, fun n hn => ?_⟩) CW ?_
         · have hc : n.cell? ⟨w.heap.size, 9, none⟩ = some (.slice q.ga p.gs.length q.gc) := cell_of (i := 9) hn rfl
           go_simp
         simp only [Act.put, Hj, Ho, Hp]
         refine au (rs := [3]) (by kernel_rfl) (by simp) ?_
         intro w5 hb5 jj hj
         obtain rfl : jj = 3 := by simpa using hj
         clear hj
         have D5 := chain hdr hb5
         have A5 := chain A D5
         have CW5 := hCC _ _ CW hb5
         have con := i6 eD p.xs q.sa q.sc w5 (HP.out.xs.next (ah.of A5)).ks hw.2 hw.1
         refine wpOp_step rfl (fun K hK => ?_)
         go_simp
         refine con.mono ?_
         rintro e w6 ⟨sa, sc, rfl, KY, hb6⟩
         have CW6 := hCC _ _ CW5 hb6
         have A6 := chain A5 hb6
         refine hK _ _ ⟨CW6, ?_⟩
         clear hK K con CW CW5
         refine ag hCC (some 47) (i := 8) (v := .pointer (some ⟨w.heap.size + 2, 8, none⟩)) rfl rfl (by kernel_rfl) (by kernel_rfl) (by kernel_rfl) (fun _ _ _ h => h) (Or.inl ⟨rfl, fun n hn => ?_⟩) CW6 ?_
         · go_simp
         simp only [Act.put, Hj, Ho, Hp]
         refine au (rs := [7]) (by kernel_rfl) (by simp) ?_
         intro w7 hb7 jj hj
         obtain rfl : jj = 7 := by simpa using hj
         clear hj
         have CW7 := hCC _ _ CW6 hb7
         have A7 := chain A6 hb7
         have con := pg eD p.gs q.ga q.gc w7 (HP.out.gs.next (ah.of A7)).at hg.2 hg.1
         refine wpOp_step rfl (fun K hK => ?_)
         go_simp
         refine con.mono ?_
         rintro e w8 ⟨ga, gc, rfl, KG, hb8⟩
         have CW8 := hCC _ _ CW7 hb8
         have A8 := chain A7 hb8
         have KY8 := KY.next (ah.of (chain hb7 hb8))
         refine hK _ _ ⟨CW8, ?_⟩
         clear hK K con CW6 CW7
         refine au (rs := [9]) (by kernel_rfl) (by simp) ?_
         intro w9 hb9 jj hj
         obtain rfl : jj = 9 := by simpa using hj
         clear hj
         have DW : Below w3.heap.size w3 w9 := chain (chain D5 hb6) (chain (chain hb7 hb8) hb9)
         have Q29 := (DW.block _ (ae Q2)).trans Q2
         have Q19 := (DW.block _ (ae Q1)).trans Q1
         have CW9 := hCC _ _ CW8 hb9
         have A9 := chain A8 hb9
         have o8 : w9.cell? ⟨w.heap.size + 2, 8, none⟩ = some (.slice none 0 0) := cell_of (i := 8) Q29 rfl
         have of8 : w9.frozen? ⟨w.heap.size + 2, 8, none⟩ = false := Hh w9 (w.heap.size + 2) 8 _ _ Q29
         refine wpOp_step rfl (fun K hK => ?_)
         go_simp
         have H10 := Hn w9 (w.heap.size + 2) 8 _ _ (.slice sa p.xs.length sc) Q29
         have C10 : (w9.setCell ⟨w.heap.size + 2, 8, none⟩ (.slice sa p.xs.length sc)).heap[w.heap.size]? = some (.cells (aJ p q o ca cl cc na p.ks.length nc) 50 (0, 0)) := by rw [aq _ _ (by omega)]; exact CW9
         have Q110 : (w9.setCell ⟨w.heap.size + 2, 8, none⟩ (.slice sa p.xs.length sc)).heap[w.heap.size + 1]? = some (.cells dT 31 (0, 0)) := by rw [aq _ _ (by omega)]; exact Q19
         have A10 : Below w.heap.size w (w9.setCell ⟨w.heap.size + 2, 8, none⟩ (.slice sa p.xs.length sc)) := A9.setCell (p := ⟨w.heap.size + 2, 8, none⟩) (Ir _ _) _
         have K10 : ah (fun b => w.heap.size + 3 ≤ b) w8 (w9.setCell ⟨w.heap.size + 2, 8, none⟩ (.slice sa p.xs.length sc)) := (ah.of hb9).set (w.heap.size + 2) 8 _ (by omega)
         refine hK _ _ ⟨C10, ?_⟩
         clear hK K CW8 CW9 o8 of8
         generalize (w9.setCell ⟨w.heap.size + 2, 8, none⟩ (.slice sa p.xs.length sc)) = w10 at *
         refine ag hCC (some 48) (i := 10) (v := .pointer (some ⟨w.heap.size + 2, 9, none⟩)) rfl rfl (by kernel_rfl) (by kernel_rfl) (by kernel_rfl) (fun _ _ _ h => h) (Or.inl ⟨rfl, fun n hn => ?_⟩) C10 ?_
         · go_simp
         simp only [Act.put, Hj, Ho, Hp]
         refine au (rs := [11]) (by kernel_rfl) (by simp) ?_
         intro w11 hb11 jj hj
         obtain rfl : jj = 11 := by simpa using hj
         clear hj
         have H10 : w10.heap[w.heap.size + 2]? = some (.cells #[.int .i64 p.k, .int .i64 0, .int .i64 0, .int .i64 0, .int .i64 0, .string ⟨#[]⟩, .int .i64 0, .slice none 0 0, .slice sa p.xs.length sc, .slice none 0 0, .slice none 0 0] 31 (0, 0)) := H10
         have H11 := (hb11.block _ (ae H10)).trans H10
         have Q111 := (hb11.block _ (ae Q110)).trans Q110
         have C11 := hCC _ _ C10 hb11
         have A11 := chain A10 hb11
         have o9 : w11.cell? ⟨w.heap.size + 2, 9, none⟩ = some (.slice none 0 0) := cell_of (i := 9) H11 rfl
         have of9 : w11.frozen? ⟨w.heap.size + 2, 9, none⟩ = false := Hh w11 (w.heap.size + 2) 9 _ _ H11
         refine wpOp_step rfl (fun K hK => ?_)
         go_simp
         have H12 := Hn w11 (w.heap.size + 2) 9 _ _ (.slice ga p.gs.length gc) H11
         have C12 : (w11.setCell ⟨w.heap.size + 2, 9, none⟩ (.slice ga p.gs.length gc)).heap[w.heap.size]? = some (.cells (aJ p q o ca cl cc na p.ks.length nc) 50 (0, 0)) := by rw [aq _ _ (by omega)]; exact C11
         have Q112 : (w11.setCell ⟨w.heap.size + 2, 9, none⟩ (.slice ga p.gs.length gc)).heap[w.heap.size + 1]? = some (.cells dT 31 (0, 0)) := by rw [aq _ _ (by omega)]; exact Q111
         have A12 : Below w.heap.size w (w11.setCell ⟨w.heap.size + 2, 9, none⟩ (.slice ga p.gs.length gc)) := A11.setCell (p := ⟨w.heap.size + 2, 9, none⟩) (Ir _ _) _
         have K12 : ah (fun b => w.heap.size + 3 ≤ b) w8 (w11.setCell ⟨w.heap.size + 2, 9, none⟩ (.slice ga p.gs.length gc)) := (K10.trans (ah.of hb11)).set (w.heap.size + 2) 9 _ (by omega)
         refine hK _ _ ⟨C12, ?_⟩
         clear hK K C10 C11 o9 of9
         generalize (w11.setCell ⟨w.heap.size + 2, 9, none⟩ (.slice ga p.gs.length gc)) = w12 at *
         refine bd (by kernel_rfl) ?_
         intro w4 hb4
         have z5 := D5.size
         have z6 := hb6.size
         have HS := (hb4.block _ (ae H12)).trans H12
         have Q04 := (hb4.block _ (ae C12)).trans C12
         have Q14 := (hb4.block _ (ae Q112)).trans Q112
         have A4 := chain A12 hb4
         have KF := K12.trans (ah.of hb4)
         have z4 : w.heap.size + 3 ≤ w4.heap.size := by have := ae HS; omega
         have z7 := hb7.size
         have M4 : ∃ q3 : Pw, w4.heap[w.heap.size + 2]? = some (.cells #[.int .i64 rp.k, .int .i64 rp.n, .int .i64 rp.x.k, .int .i64 rp.x.v.1, .int .i64 rp.x.v.2.1, .string rp.x.v.2.2, .int .i64 rp.x.c, .slice q3.xa rp.x.ks.length q3.xc, .slice q3.sa rp.xs.length q3.sc, .slice q3.ga rp.gs.length q3.gc, .slice none 0 0] 31 (0, 0)) ∧ dD (fun b => w.heap.size + 3 ≤ b) w4 q3.xa rp.x.ks ∧ dD (fun b => w.heap.size + 3 ≤ b) w4 q3.sa rp.xs ∧ nz (fun b => w.heap.size + 3 ≤ b) w4 q3.ga rp.gs := ⟨⟨none, 0, sa, sc, ga, gc, none, 0⟩, by rw [EK.out, EN.out, EX.out, ES.out, EG.out, dr, Ik]; exact HS, by rw [EX.out]; exact .nil _, by rw [ES.out]; exact (KY8.mono (S' := fun b => w.heap.size + 3 ≤ b) (fun b h _ => by omega)).next KF, by rw [EG.out]; exact (KG.mono (S' := fun b => w.heap.size + 3 ≤ b) (fun b h _ => by omega)).next KF⟩
         go_wp2_with fail
         go_meet
         case rel => exact ⟨M4, A4, Q04, Q14, z4⟩
         skip)
      | (have hc := hc5
         clear hc5
         have b1 : (p.k == 1) = false := by simpa using (show ¬ p.k = 1 by omega)
         have b2 : (p.k == 2) = false := by simpa using (show ¬ p.k = 2 by omega)
         have b4 : (p.k == 4) = false := by simpa using (show ¬ p.k = 4 by omega)
         have b5 : (p.k == 5) = false := by simpa using (show ¬ p.k = 5 by omega)
         have b6 : (p.k == 6) = false := by simpa using (show ¬ p.k = 6 by omega)
         have b7 : (p.k == 7) = false := by simpa using (show ¬ p.k = 7 by omega)
         have b3 : (p.k == 3) = false := by simpa using (show ¬ p.k = 3 by omega)
         have b12 : (p.k == 12) = false := by simpa using (show ¬ p.k = 12 by omega)
         have b13 : (p.k == 13) = true := by simpa using (show p.k = 13 by omega)
         have EN : Hid (rp.n = p.n) := by show _ = _; rw [← HRP.out, (cY p).2.1, if_pos (by omega)]
         have EX : Hid (rp.x = yE) := by show _ = _; rw [← HRP.out, (cY p).2.2.1, if_neg (by omega)]
         have ES : Hid (rp.xs = bB (fun c => c) p.xs) := by show _ = _; rw [← HRP.out, (cY p).2.2.2.1, if_pos (by omega)]
         have EG : Hid (rp.gs = []) := by show _ = _; rw [← HRP.out, (cY p).2.2.2.2.1, if_neg (by omega)]
         have hw := HWD.out.xs (by omega)
         clear hc
         go_upto_region 16 with fail
         clear n0 n1 n2 n3 n4 n5 n6 n7 n8 n9 n10 n11 n12 o0 of0 o1 of1 o2 of2 o3 of3 o4 of4 o5 of5 o6 of6 o7 of7 o8 of8 o9 of9 o10 of10
         have hCC : ∀ W W' : World, W.heap[w.heap.size]? = some (.cells (aJ p q o ca cl cc na p.ks.length nc) 50 (0, 0)) → Below W.heap.size W W' → W'.heap[w.heap.size]? = some (.cells (aJ p q o ca cl cc na p.ks.length nc) 50 (0, 0)) := fun W W' h hb => (hb.block _ (ae h)).trans h
         have hdr : Below w3.heap.size w3 w3.drew := (He _ _).drew
         have CW := hCC _ _ Q0 hdr
         refine aG (fun W => W.heap[w.heap.size]? = some (.cells (aJ p q o ca cl cc na p.ks.length nc) 50 (0, 0))) (by kernel_rfl) ?_
         refine ag hCC (some 51) (i := 0) (v := .pointer (some ⟨w.heap.size, 0, none⟩)) rfl rfl (by kernel_rfl) (by kernel_rfl) (by kernel_rfl) (fun _ _ _ h => h) (Or.inl ⟨rfl, fun n hn => ?_⟩) CW ?_
         · go_simp
         simp only [Act.put, Hj, Ho, Hp]
         refine ag hCC (some 52) (i := 1) (v := .pointer (some ⟨w.heap.size, 8, none⟩)) rfl rfl (by kernel_rfl) (by kernel_rfl) (by kernel_rfl) (fun _ _ _ h => h) (Or.inl ⟨rfl, fun n hn => ?_⟩) CW ?_
         · go_simp
         simp only [Act.put, Hj, Ho, Hp]
         refine ag hCC (some 53) (i := 2) (v := .slice q.sa p.xs.length q.sc) rfl rfl (by kernel_rfl) (by kernel_rfl) (by kernel_rfl) (fun _ _ _ h => h) (Or.inl ⟨rfl, fun n hn => ?_⟩) CW ?_
         · have hc : n.cell? ⟨w.heap.size, 8, none⟩ = some (.slice q.sa p.xs.length q.sc) := cell_of (i := 8) hn rfl
           go_simp
         simp only [Act.put, Hj, Ho, Hp]
         refine ag hCC (some 55) (i := 4) (v := .pointer (some ⟨w.heap.size, 0, none⟩)) rfl rfl (by kernel_rfl) (by kernel_rfl) (by kernel_rfl) (fun _ _ _ h => h) (Or.inl ⟨rfl, fun n hn => ?_⟩) CW ?_
         · go_simp
         simp only [Act.put, Hj, Ho, Hp]
         refine ag hCC (some 56) (i := 5) (v := .pointer (some ⟨w.heap.size, 1, none⟩)) rfl rfl (by kernel_rfl) (by kernel_rfl) (by kernel_rfl) (fun _ _ _ h => h) (Or.inl ⟨rfl, fun n hn => ?_⟩) CW ?_
         · go_simp
         simp only [Act.put, Hj, Ho, Hp]
         refine ag hCC (some 57) (i := 6) (v := .int .i64 p.n) rfl rfl (by kernel_rfl) (by kernel_rfl) (by kernel_rfl) (fun _ _ _ h => h) (Or.inl ⟨rfl, fun n hn => ?_⟩) CW ?_
         · have hc : n.cell? ⟨w.heap.size, 1, none⟩ = some (.int .i64 p.n) := cell_of (i := 1) hn rfl
           go_simp
         simp only [Act.put, Hj, Ho, Hp]
         refine au (rs := [3]) (by kernel_rfl) (by simp) ?_
         intro w5 hb5 jj hj
         obtain rfl : jj = 3 := by simpa using hj
         clear hj
         have D5 := chain hdr hb5
         have A5 := chain A D5
         have CW5 := hCC _ _ CW hb5
         have con := i6 eD p.xs q.sa q.sc w5 (HP.out.xs.next (ah.of A5)).ks hw.2 hw.1
         refine wpOp_step rfl (fun K hK => ?_)
         go_simp
         refine con.mono ?_
         rintro e w6 ⟨sa, sc, rfl, KY, hb6⟩
         have CW6 := hCC _ _ CW5 hb6
         have A6 := chain A5 hb6
         refine hK _ _ ⟨CW6, ?_⟩
         clear hK K con CW CW5
         refine ag hCC (some 58) (i := 7) (v := .pointer (some ⟨w.heap.size + 2, 8, none⟩)) rfl rfl (by kernel_rfl) (by kernel_rfl) (by kernel_rfl) (fun _ _ _ h => h) (Or.inl ⟨rfl, fun n hn => ?_⟩) CW6 ?_
         · go_simp
         simp only [Act.put, Hj, Ho, Hp]
         have CW8 := CW6
         have A8 := A6
         have KY8 := KY
         have hb7 : Below w6.heap.size w6 w6 := He _ _
         have hb8 : Below w6.heap.size w6 w6 := He _ _
         clear CW6
         refine au (rs := [8]) (by kernel_rfl) (by simp) ?_
         intro w9 hb9 jj hj
         obtain rfl : jj = 8 := by simpa using hj
         clear hj
         have DW : Below w3.heap.size w3 w9 := chain (chain D5 hb6) (chain (chain hb7 hb8) hb9)
         have Q29 := (DW.block _ (ae Q2)).trans Q2
         have Q19 := (DW.block _ (ae Q1)).trans Q1
         have CW9 := hCC _ _ CW8 hb9
         have A9 := chain A8 hb9
         have o8 : w9.cell? ⟨w.heap.size + 2, 8, none⟩ = some (.slice none 0 0) := cell_of (i := 8) Q29 rfl
         have of8 : w9.frozen? ⟨w.heap.size + 2, 8, none⟩ = false := Hh w9 (w.heap.size + 2) 8 _ _ Q29
         refine wpOp_step rfl (fun K hK => ?_)
         go_simp
         have H10 := Hn w9 (w.heap.size + 2) 8 _ _ (.slice sa p.xs.length sc) Q29
         have C10 : (w9.setCell ⟨w.heap.size + 2, 8, none⟩ (.slice sa p.xs.length sc)).heap[w.heap.size]? = some (.cells (aJ p q o ca cl cc na p.ks.length nc) 50 (0, 0)) := by rw [aq _ _ (by omega)]; exact CW9
         have Q110 : (w9.setCell ⟨w.heap.size + 2, 8, none⟩ (.slice sa p.xs.length sc)).heap[w.heap.size + 1]? = some (.cells dT 31 (0, 0)) := by rw [aq _ _ (by omega)]; exact Q19
         have A10 : Below w.heap.size w (w9.setCell ⟨w.heap.size + 2, 8, none⟩ (.slice sa p.xs.length sc)) := A9.setCell (p := ⟨w.heap.size + 2, 8, none⟩) (Ir _ _) _
         have K10 : ah (fun b => w.heap.size + 3 ≤ b) w6 (w9.setCell ⟨w.heap.size + 2, 8, none⟩ (.slice sa p.xs.length sc)) := (ah.of hb9).set (w.heap.size + 2) 8 _ (by omega)
         refine hK _ _ ⟨C10, ?_⟩
         clear hK K CW8 CW9 o8 of8
         generalize (w9.setCell ⟨w.heap.size + 2, 8, none⟩ (.slice sa p.xs.length sc)) = w10 at *
         refine ag hCC (some 59) (i := 9) (v := .pointer (some ⟨w.heap.size + 2, 1, none⟩)) rfl rfl (by kernel_rfl) (by kernel_rfl) (by kernel_rfl) (fun _ _ _ h => h) (Or.inl ⟨rfl, fun n hn => ?_⟩) C10 ?_
         · go_simp
         simp only [Act.put, Hj, Ho, Hp]
         refine au (rs := [10]) (by kernel_rfl) (by simp) ?_
         intro w11 hb11 jj hj
         obtain rfl : jj = 10 := by simpa using hj
         clear hj
         have H10 : w10.heap[w.heap.size + 2]? = some (.cells #[.int .i64 p.k, .int .i64 0, .int .i64 0, .int .i64 0, .int .i64 0, .string ⟨#[]⟩, .int .i64 0, .slice none 0 0, .slice sa p.xs.length sc, .slice none 0 0, .slice none 0 0] 31 (0, 0)) := H10
         have H11 := (hb11.block _ (ae H10)).trans H10
         have Q111 := (hb11.block _ (ae Q110)).trans Q110
         have C11 := hCC _ _ C10 hb11
         have A11 := chain A10 hb11
         have o1 : w11.cell? ⟨w.heap.size + 2, 1, none⟩ = some (.int .i64 0) := cell_of (i := 1) H11 rfl
         have of1 : w11.frozen? ⟨w.heap.size + 2, 1, none⟩ = false := Hh w11 (w.heap.size + 2) 1 _ _ H11
         refine wpOp_step rfl (fun K hK => ?_)
         go_simp
         have H12 := Hn w11 (w.heap.size + 2) 1 _ _ (.int .i64 p.n) H11
         have C12 : (w11.setCell ⟨w.heap.size + 2, 1, none⟩ (.int .i64 p.n)).heap[w.heap.size]? = some (.cells (aJ p q o ca cl cc na p.ks.length nc) 50 (0, 0)) := by rw [aq _ _ (by omega)]; exact C11
         have Q112 : (w11.setCell ⟨w.heap.size + 2, 1, none⟩ (.int .i64 p.n)).heap[w.heap.size + 1]? = some (.cells dT 31 (0, 0)) := by rw [aq _ _ (by omega)]; exact Q111
         have A12 : Below w.heap.size w (w11.setCell ⟨w.heap.size + 2, 1, none⟩ (.int .i64 p.n)) := A11.setCell (p := ⟨w.heap.size + 2, 1, none⟩) (Ir _ _) _
         have K12 : ah (fun b => w.heap.size + 3 ≤ b) w6 (w11.setCell ⟨w.heap.size + 2, 1, none⟩ (.int .i64 p.n)) := (K10.trans (ah.of hb11)).set (w.heap.size + 2) 1 _ (by omega)
         refine hK _ _ ⟨C12, ?_⟩
         clear hK K C10 C11 o1 of1
         generalize (w11.setCell ⟨w.heap.size + 2, 1, none⟩ (.int .i64 p.n)) = w12 at *
         refine bd (by kernel_rfl) ?_
         intro w4 hb4
         have z5 := D5.size
         have z6 := hb6.size
         have HS := (hb4.block _ (ae H12)).trans H12
         have Q04 := (hb4.block _ (ae C12)).trans C12
         have Q14 := (hb4.block _ (ae Q112)).trans Q112
         have A4 := chain A12 hb4
         have KF := K12.trans (ah.of hb4)
         have z4 : w.heap.size + 3 ≤ w4.heap.size := by have := ae HS; omega
         have M4 : ∃ q3 : Pw, w4.heap[w.heap.size + 2]? = some (.cells #[.int .i64 rp.k, .int .i64 rp.n, .int .i64 rp.x.k, .int .i64 rp.x.v.1, .int .i64 rp.x.v.2.1, .string rp.x.v.2.2, .int .i64 rp.x.c, .slice q3.xa rp.x.ks.length q3.xc, .slice q3.sa rp.xs.length q3.sc, .slice q3.ga rp.gs.length q3.gc, .slice none 0 0] 31 (0, 0)) ∧ dD (fun b => w.heap.size + 3 ≤ b) w4 q3.xa rp.x.ks ∧ dD (fun b => w.heap.size + 3 ≤ b) w4 q3.sa rp.xs ∧ nz (fun b => w.heap.size + 3 ≤ b) w4 q3.ga rp.gs := ⟨⟨none, 0, sa, sc, none, 0, none, 0⟩, by rw [EK.out, EN.out, EX.out, ES.out, EG.out, dr]; exact HS, by rw [EX.out]; exact .nil _, by rw [ES.out]; exact (KY8.mono (S' := fun b => w.heap.size + 3 ≤ b) (fun b h _ => by omega)).next KF, by rw [EG.out]; exact .inl rfl⟩
         go_wp2_with fail
         go_meet
         case rel => exact ⟨M4, A4, Q04, Q14, z4⟩
         skip)
      | (have hc := hc6
         clear hc6
         have b1 : (p.k == 1) = false := by simpa using (show ¬ p.k = 1 by omega)
         have b2 : (p.k == 2) = false := by simpa using (show ¬ p.k = 2 by omega)
         have b4 : (p.k == 4) = false := by simpa using (show ¬ p.k = 4 by omega)
         have b5 : (p.k == 5) = false := by simpa using (show ¬ p.k = 5 by omega)
         have b6 : (p.k == 6) = false := by simpa using (show ¬ p.k = 6 by omega)
         have b7 : (p.k == 7) = false := by simpa using (show ¬ p.k = 7 by omega)
         have b3 : (p.k == 3) = false := by simpa using (show ¬ p.k = 3 by omega)
         have b12 : (p.k == 12) = false := by simpa using (show ¬ p.k = 12 by omega)
         have b13 : (p.k == 13) = false := by simpa using (show ¬ p.k = 13 by omega)
         have EN : Hid (rp.n = 0) := by show _ = _; rw [← HRP.out, (cY p).2.1, if_neg (by omega)]
         have EX : Hid (rp.x = yE) := by show _ = _; rw [← HRP.out, (cY p).2.2.1, if_neg (by omega)]
         have ES : Hid (rp.xs = []) := by show _ = _; rw [← HRP.out, (cY p).2.2.2.1, if_neg (by omega)]
         have EG : Hid (rp.gs = []) := by show _ = _; rw [← HRP.out, (cY p).2.2.2.2.1, if_neg (by omega)]
         clear hc
         have M4 : ∃ q3 : Pw, w3.heap[w.heap.size + 2]? = some (.cells #[.int .i64 rp.k, .int .i64 rp.n, .int .i64 rp.x.k, .int .i64 rp.x.v.1, .int .i64 rp.x.v.2.1, .string rp.x.v.2.2, .int .i64 rp.x.c, .slice q3.xa rp.x.ks.length q3.xc, .slice q3.sa rp.xs.length q3.sc, .slice q3.ga rp.gs.length q3.gc, .slice none 0 0] 31 (0, 0)) ∧ dD (fun b => w.heap.size + 3 ≤ b) w3 q3.xa rp.x.ks ∧ dD (fun b => w.heap.size + 3 ≤ b) w3 q3.sa rp.xs ∧ nz (fun b => w.heap.size + 3 ≤ b) w3 q3.ga rp.gs := ⟨⟨none, 0, none, 0, none, 0, none, 0⟩, by rw [EK.out, EN.out, EX.out, ES.out, EG.out]; exact Q2, by rw [EX.out]; exact .nil _, by rw [ES.out]; exact .nil _, by rw [EG.out]; exact .inl rfl⟩
         go_wp2_with fail
         go_meet
         case rel => exact ⟨M4, A, Q0, Q1, Z⟩
         skip)
  case rest =>
    clear hc A Z Q0 Q1 Q2 n0 n1 n2 n3 n4 n5 n6 n7 n8 n9 n10 n11 n12 o0 of0 o1 of1 o2 of2 o3 of3 o4 of4 o5 of5 o6 of6 o7 of7 o8 of8 o9 of9 o10 of10
    obtain ⟨M4, A4, Q04, Q14, z4⟩ := hcut
    generalize wc = w4 at *
    obtain ⟨q3, QO4, FX, FS, FG⟩ := M4
    have hx12 : w4.cell? ⟨w.heap.size, 12, none⟩ = some (.slice na p.ks.length nc) := cell_of (i := 12) Q04 rfl
    have HFX : Hid (dD (fun b => w.heap.size + 3 ≤ b) w4 q3.xa rp.x.ks ∧ dD (fun b => w.heap.size + 3 ≤ b) w4 q3.sa rp.xs ∧ nz (fun b => w.heap.size + 3 ≤ b) w4 q3.ga rp.gs) := ⟨FX, FS, FG⟩
    clear FX FS FG
    have h2 := HWD.out.two
    go_wp2_with fail
    clear hx12 Q04
    go_loopw [63] (fun i wr => ∃ j : Nat, j ≤ p.ks.length ∧ i = .int .i64 j ∧ (∃ s, wr.heap[w.heap.size + 2]? = some (.cells #[.int .i64 rp.k, .int .i64 rp.n, .int .i64 rp.x.k, .int .i64 rp.x.v.1, .int .i64 rp.x.v.2.1, .string rp.x.v.2.2, .int .i64 rp.x.c, .slice q3.xa rp.x.ks.length q3.xc, .slice q3.sa rp.xs.length q3.sc, .slice q3.ga rp.gs.length q3.gc, s] 31 (0, 0)) ∧ bR BZ 31 11 w4.heap.size (fun b => w4.heap.size ≤ b) wr s (bN (p.ks.take j))) ∧ wr.heap[w.heap.size + 1]? = some (.cells dT 31 (0, 0)) ∧ Below w.heap.size w wr ∧ ah (fun b => w.heap.size + 3 ≤ b ∧ b < w4.heap.size) w4 wr) (fun i _ => p.ks.length - (intOf i).toNat)
    case atStart => exact ⟨0, Hl _, rfl, ⟨_, QO4, by rw [List.take_zero, bN]; exact bR.nil _ _ _ _ _ _⟩, Q14, A4, ah.refl _ _⟩
    case round =>
      clear QO4 Q14 A4
      obtain ⟨j, hj, rfl, ⟨s, QO, OS⟩, QZ, hb, hkw⟩ := hrel
      have hzr := hkw.1
      by_cases hlt : j < p.ks.length
      · obtain ⟨b, off, q1, o1, ca1, cc1, na1, nc1, rfl, hSb, hbl, hAt, hB⟩ := ((HP.out.kids.mono (S' := Old S w) fun b h l => ⟨h, l⟩).next (ah.of hb)).elem hlt
        obtain ⟨cl1, hcl1⟩ : ∃ cl1, (aj ts p.ks[j]).length = cl1 := ⟨_, rfl⟩
        have HCL1 : Hid ((aj ts p.ks[j]).length = cl1) := hcl1
        unfold bL at hAt
        rw [hcl1] at hAt
        clear hcl1
        have e0 : wr.cell? ⟨b, off + j * 13, none⟩ = some (.int .i64 p.ks[j].k) := hAt 0 _ rfl
        have e1 : wr.cell? ⟨b, off + j * 13 + 1, none⟩ = some (.int .i64 p.ks[j].n) := hAt 1 _ rfl
        have e2 : wr.cell? ⟨b, off + j * 13 + 2, none⟩ = some (.int .i64 p.ks[j].x.k) := hAt 2 _ rfl
        have e3 : wr.cell? ⟨b, off + j * 13 + 3, none⟩ = some (.int .i64 p.ks[j].x.v.1) := hAt 3 _ rfl
        have e4 : wr.cell? ⟨b, off + j * 13 + 4, none⟩ = some (.int .i64 p.ks[j].x.v.2.1) := hAt 4 _ rfl
        have e5 : wr.cell? ⟨b, off + j * 13 + 5, none⟩ = some (.string p.ks[j].x.v.2.2) := hAt 5 _ rfl
        have e6 : wr.cell? ⟨b, off + j * 13 + 6, none⟩ = some (.int .i64 p.ks[j].x.c) := hAt 6 _ rfl
        have e7 : wr.cell? ⟨b, off + j * 13 + 7, none⟩ = some (.slice q1.xa p.ks[j].x.ks.length q1.xc) := hAt 7 _ rfl
        have e8 : wr.cell? ⟨b, off + j * 13 + 8, none⟩ = some (.slice q1.sa p.ks[j].xs.length q1.sc) := hAt 8 _ rfl
        have e9 : wr.cell? ⟨b, off + j * 13 + 9, none⟩ = some (.slice q1.ga p.ks[j].gs.length q1.gc) := hAt 9 _ rfl
        have e10 : wr.cell? ⟨b, off + j * 13 + 10, none⟩ = some (.slice q1.ka o1 q1.kc) := hAt 10 _ rfl
        have e11 : wr.cell? ⟨b, off + j * 13 + 11, none⟩ = some (.slice ca1 cl1 cc1) := hAt 11 _ rfl
        have e12 : wr.cell? ⟨b, off + j * 13 + 12, none⟩ = some (.slice na1 p.ks[j].ks.length nc1) := hAt 12 _ rfl
        have hjz : (j : Int) < (p.ks.length : Int) := by omega
        have hal : Below wr.heap.size wr (wr.alloc (.cells #[.int .i64 p.ks[j].k, .int .i64 p.ks[j].n, .int .i64 p.ks[j].x.k, .int .i64 p.ks[j].x.v.1, .int .i64 p.ks[j].x.v.2.1, .string p.ks[j].x.v.2.2, .int .i64 p.ks[j].x.c, .slice q1.xa p.ks[j].x.ks.length q1.xc, .slice q1.sa p.ks[j].xs.length q1.sc, .slice q1.ga p.ks[j].gs.length q1.gc, .slice q1.ka o1 q1.kc, .slice ca1 cl1 cc1, .slice na1 p.ks[j].ks.length nc1] 50)) := (He _ _).alloc (Hd _) _
        have qk := an wr #[.int .i64 p.ks[j].k, .int .i64 p.ks[j].n, .int .i64 p.ks[j].x.k, .int .i64 p.ks[j].x.v.1, .int .i64 p.ks[j].x.v.2.1, .string p.ks[j].x.v.2.2, .int .i64 p.ks[j].x.c, .slice q1.xa p.ks[j].x.ks.length q1.xc, .slice q1.sa p.ks[j].xs.length q1.sc, .slice q1.ga p.ks[j].gs.length q1.gc, .slice q1.ka o1 q1.kc, .slice ca1 cl1 cc1, .slice na1 p.ks[j].ks.length nc1] 50
        have HB : Hid (fA ts (Old S w) wr p.ks[j] q1 ca1 na1) := hB
        have hm := Hm hlt
        have HIH : Hid (Bu ts p.ks[j] ∧ kG p.ks[j]) := ⟨IH.out _ hm, HWD.out.ks _ hm⟩
        have HT : Hid (bN (p.ks.take (j + 1)) = bN (p.ks.take j) ++ [cX p.ks[j]]) := yh hlt
        have hln : (bN (p.ks.take j)).length = j := by rw [sm, Ij]; omega
        have HLN : Hid ((bN (p.ks.take j)).length = j) := hln
        have OS' : Hid (bR BZ 31 11 w4.heap.size (fun b => w4.heap.size ≤ b) wr s (bN (p.ks.take j))) := OS
        have hnb := OS.lt
        clear hAt hB hm hln OS
        go_wp2_with fail
        clear e0 e1 e2 e3 e4 e5 e6 e7 e8 e9 e10 e11 e12
        have QOa := (hal.block _ (by omega)).trans QO
        have QZa := (hal.block _ (by omega)).trans QZ
        have za := hal.size
        have lk := ae qk
        generalize wr.alloc (.cells #[.int .i64 p.ks[j].k, .int .i64 p.ks[j].n, .int .i64 p.ks[j].x.k, .int .i64 p.ks[j].x.v.1, .int .i64 p.ks[j].x.v.2.1, .string p.ks[j].x.v.2.2, .int .i64 p.ks[j].x.c, .slice q1.xa p.ks[j].x.ks.length q1.xc, .slice q1.sa p.ks[j].xs.length q1.sc, .slice q1.ga p.ks[j].gs.length q1.gc, .slice q1.ka o1 q1.kc, .slice ca1 cl1 cc1, .slice na1 p.ks[j].ks.length nc1] 50) = wa at *
        have hCC : ∀ W W' : World, (W.heap[w.heap.size + 2]? = some (.cells #[.int .i64 rp.k, .int .i64 rp.n, .int .i64 rp.x.k, .int .i64 rp.x.v.1, .int .i64 rp.x.v.2.1, .string rp.x.v.2.2, .int .i64 rp.x.c, .slice q3.xa rp.x.ks.length q3.xc, .slice q3.sa rp.xs.length q3.sc, .slice q3.ga rp.gs.length q3.gc, s] 31 (0, 0)) ∧ W.heap[wr.heap.size]? = some (.cells #[.int .i64 p.ks[j].k, .int .i64 p.ks[j].n, .int .i64 p.ks[j].x.k, .int .i64 p.ks[j].x.v.1, .int .i64 p.ks[j].x.v.2.1, .string p.ks[j].x.v.2.2, .int .i64 p.ks[j].x.c, .slice q1.xa p.ks[j].x.ks.length q1.xc, .slice q1.sa p.ks[j].xs.length q1.sc, .slice q1.ga p.ks[j].gs.length q1.gc, .slice q1.ka o1 q1.kc, .slice ca1 cl1 cc1, .slice na1 p.ks[j].ks.length nc1] 50 (0, 0))) → Below W.heap.size W W' → (W'.heap[w.heap.size + 2]? = some (.cells #[.int .i64 rp.k, .int .i64 rp.n, .int .i64 rp.x.k, .int .i64 rp.x.v.1, .int .i64 rp.x.v.2.1, .string rp.x.v.2.2, .int .i64 rp.x.c, .slice q3.xa rp.x.ks.length q3.xc, .slice q3.sa rp.xs.length q3.sc, .slice q3.ga rp.gs.length q3.gc, s] 31 (0, 0)) ∧ W'.heap[wr.heap.size]? = some (.cells #[.int .i64 p.ks[j].k, .int .i64 p.ks[j].n, .int .i64 p.ks[j].x.k, .int .i64 p.ks[j].x.v.1, .int .i64 p.ks[j].x.v.2.1, .string p.ks[j].x.v.2.2, .int .i64 p.ks[j].x.c, .slice q1.xa p.ks[j].x.ks.length q1.xc, .slice q1.sa p.ks[j].xs.length q1.sc, .slice q1.ga p.ks[j].gs.length q1.gc, .slice q1.ka o1 q1.kc, .slice ca1 cl1 cc1, .slice na1 p.ks[j].ks.length nc1] 50 (0, 0))) := fun W W' h hb => ⟨(hb.block _ (ae h.1)).trans h.1, (hb.block _ (ae h.2)).trans h.2⟩
        have hdr : Below wa.heap.size wa wa.drew := (He _ _).drew
        have CW := hCC _ _ ⟨QOa, qk⟩ hdr
        refine ia (fun W => W.heap[w.heap.size + 2]? = some (.cells #[.int .i64 rp.k, .int .i64 rp.n, .int .i64 rp.x.k, .int .i64 rp.x.v.1, .int .i64 rp.x.v.2.1, .string rp.x.v.2.2, .int .i64 rp.x.c, .slice q3.xa rp.x.ks.length q3.xc, .slice q3.sa rp.xs.length q3.sc, .slice q3.ga rp.gs.length q3.gc, s] 31 (0, 0)) ∧ W.heap[wr.heap.size]? = some (.cells #[.int .i64 p.ks[j].k, .int .i64 p.ks[j].n, .int .i64 p.ks[j].x.k, .int .i64 p.ks[j].x.v.1, .int .i64 p.ks[j].x.v.2.1, .string p.ks[j].x.v.2.2, .int .i64 p.ks[j].x.c, .slice q1.xa p.ks[j].x.ks.length q1.xc, .slice q1.sa p.ks[j].xs.length q1.sc, .slice q1.ga p.ks[j].gs.length q1.gc, .slice q1.ka o1 q1.kc, .slice ca1 cl1 cc1, .slice na1 p.ks[j].ks.length nc1] 50 (0, 0))) 7 (by kernel_rfl) ?_
        refine bD hCC (some 67) (i := 0) (v := .pointer (some ⟨w.heap.size + 2, 10, none⟩)) rfl rfl (by kernel_rfl) (by kernel_rfl) (by kernel_rfl) (by kernel_rfl) (by kernel_rfl) rfl (fun _ _ _ h => h) (Or.inl ⟨rfl, fun n hn => ?_⟩) (fun _ => CW) ?_
        · go_simp
        simp only [Act.put, Hj, Ho, Hp]
        refine bD hCC (some 68) (i := 1) (v := s) rfl rfl (by kernel_rfl) (by kernel_rfl) (by kernel_rfl) (by kernel_rfl) (by kernel_rfl) rfl (fun _ _ _ h => h) (Or.inl ⟨rfl, fun n hn => ?_⟩) (fun _ => CW) ?_
        · have hcell : n.cell? ⟨w.heap.size + 2, 10, none⟩ = some s := cell_of (i := 10) hn.1 rfl
          go_simp
        simp only [Act.put, Hj, Ho, Hp]
        refine bD hCC (some 69) (i := 2) (v := .agg #[.int .i64 p.ks[j].k, .int .i64 p.ks[j].n, .int .i64 p.ks[j].x.k, .int .i64 p.ks[j].x.v.1, .int .i64 p.ks[j].x.v.2.1, .string p.ks[j].x.v.2.2, .int .i64 p.ks[j].x.c, .slice q1.xa p.ks[j].x.ks.length q1.xc, .slice q1.sa p.ks[j].xs.length q1.sc, .slice q1.ga p.ks[j].gs.length q1.gc, .slice q1.ka o1 q1.kc, .slice ca1 cl1 cc1, .slice na1 p.ks[j].ks.length nc1]) rfl rfl (by kernel_rfl) (by kernel_rfl) (by kernel_rfl) (by kernel_rfl) (by kernel_rfl) rfl (fun _ _ _ h => h) (Or.inl ⟨rfl, fun n hn => ?_⟩) (fun _ => CW) ?_
        · have hc0 : n.cell? ⟨wr.heap.size, 0, none⟩ = some (.int .i64 p.ks[j].k) := cell_of (i := 0) hn.2 rfl
          have hc1 : n.cell? ⟨wr.heap.size, 1, none⟩ = some (.int .i64 p.ks[j].n) := cell_of (i := 1) hn.2 rfl
          have hc2 : n.cell? ⟨wr.heap.size, 2, none⟩ = some (.int .i64 p.ks[j].x.k) := cell_of (i := 2) hn.2 rfl
          have hc3 : n.cell? ⟨wr.heap.size, 3, none⟩ = some (.int .i64 p.ks[j].x.v.1) := cell_of (i := 3) hn.2 rfl
          have hc4 : n.cell? ⟨wr.heap.size, 4, none⟩ = some (.int .i64 p.ks[j].x.v.2.1) := cell_of (i := 4) hn.2 rfl
          have hc5 : n.cell? ⟨wr.heap.size, 5, none⟩ = some (.string p.ks[j].x.v.2.2) := cell_of (i := 5) hn.2 rfl
          have hc6 : n.cell? ⟨wr.heap.size, 6, none⟩ = some (.int .i64 p.ks[j].x.c) := cell_of (i := 6) hn.2 rfl
          have hc7 : n.cell? ⟨wr.heap.size, 7, none⟩ = some (.slice q1.xa p.ks[j].x.ks.length q1.xc) := cell_of (i := 7) hn.2 rfl
          have hc8 : n.cell? ⟨wr.heap.size, 8, none⟩ = some (.slice q1.sa p.ks[j].xs.length q1.sc) := cell_of (i := 8) hn.2 rfl
          have hc9 : n.cell? ⟨wr.heap.size, 9, none⟩ = some (.slice q1.ga p.ks[j].gs.length q1.gc) := cell_of (i := 9) hn.2 rfl
          have hc10 : n.cell? ⟨wr.heap.size, 10, none⟩ = some (.slice q1.ka o1 q1.kc) := cell_of (i := 10) hn.2 rfl
          have hc11 : n.cell? ⟨wr.heap.size, 11, none⟩ = some (.slice ca1 cl1 cc1) := cell_of (i := 11) hn.2 rfl
          have hc12 : n.cell? ⟨wr.heap.size, 12, none⟩ = some (.slice na1 p.ks[j].ks.length nc1) := cell_of (i := 12) hn.2 rfl
          go_simp
        simp only [Act.put, Hj, Ho, Hp]
        refine cT (rs := [3]) (by kernel_rfl) (by simp) ?_
        intro w5 hb5 jj hj
        obtain rfl : jj = 3 := by simpa using hj
        clear hj
        have D5 := chain (chain hal hdr) hb5
        have B5 := chain hb D5
        have CW5 := hCC _ _ CW hb5
        have con := HIH.out.1 (Old S w) q1 o1 ca1 cc1 na1 nc1 w5 HIH.out.2 (HB.out.next (ah.of D5))
        obtain ⟨y, hy⟩ : ∃ y, cX p.ks[j] = y := ⟨_, rfl⟩
        rw [hy] at con
        have HY : Hid (cX p.ks[j] = y) := hy
        clear hy
        unfold cH bL at con
        rw [HCL1.out] at con
        refine wpOp_step rfl (fun K hK => ?_)
        go_simp
        refine con.mono ?_
        rintro e w6 ⟨yq, rfl, KY, hb6⟩
        unfold fp
        have D6 := chain D5 hb6
        have CW6 := hCC _ _ CW5 hb6
        refine hK _ _ ⟨fun _ => CW6, ?_⟩
        clear hK K con CW5 CW
        refine cT (rs := [4]) (by kernel_rfl) (by simp) ?_
        intro w7 hb7 jj hj
        obtain rfl : jj = 4 := by simpa using hj
        clear hj
        refine wpOp_step rfl (fun K hK => ?_)
        go_simp
        have D7 := chain D6 hb7
        have CW7 := hCC _ _ CW6 hb7
        have hal7 : Below w7.heap.size w7 (w7.alloc (.cells (jt y yq y.ks.length) 31)) := (He _ _).alloc (Hd _) _
        have q8 : (w7.alloc (.cells (jt y yq y.ks.length) 31)).heap[w7.heap.size]? = some (.cells (EB y yq y.ks.length).toArray 31 (0, 0)) := an w7 _ _
        have D8 := chain D7 hal7
        have CW8 := hCC _ _ CW7 hal7
        have KY8 := (KY.next (ah.of hb7)).next (ah.of hal7)
        have b6 := hb6.size
        have b7 := hb7.size
        refine hK _ _ ⟨fun _ => CW8, ?_⟩
        clear hK K CW7 CW6 KY
        generalize w7.alloc (.cells (jt y yq y.ks.length) 31) = w8 at *
        refine cT (rs := [5]) (by kernel_rfl) (by simp) ?_
        intro w9 hb9 jj hj
        obtain rfl : jj = 5 := by simpa using hj
        clear hj
        have D9 := chain D8 hb9
        have CW9 := hCC _ _ CW8 hb9
        have KY9 := KY8.next (ah.of hb9)
        have q9 := (hb9.block _ (ae q8)).trans q8
        have d9 := D9.size
        have l8 := ae q9
        obtain ⟨ys, o9, en9⟩ := OS'.out.next yX D9
        have l9 := HLN.out
        refine wpOp_step rfl (fun K hK => ?_)
        refine Eq.mpr (if_pos (by kernel_rfl)) ?_
        refine bM (some 72) rfl (Operand.tmp 68) (Operand.tmp 71) 29 rfl w4.heap.size 31 i0 _ 11 160 Tryz.underlying29 hi hj0 hj1 hj2 rfl (by decide) s _ ys rfl o9 ⟨w7.heap.size, 0, none⟩ 1 1 (EB y yq y.ks.length) rfl rfl (nC q9) Dc (by unfold maxLen; omega) (by omega) (by omega) ?_
        intro v' w10 o10 g10 hd10
        have z10 := g10.size
        have OS10 : bR BZ 31 11 w4.heap.size (fun b => w4.heap.size ≤ b) w10 v' (bN (p.ks.take j) ++ [y]) := bR.push yX o9 en9 rfl ⟨yq, rfl, KY9.mono fun b hb hl => ⟨by have := D5.size; omega, hl, fun e => by have := (hnb b e).2; have := D5.size; omega⟩⟩ o10 g10 hd10
        have QO10 : w10.heap[w.heap.size + 2]? = some (.cells #[.int .i64 rp.k, .int .i64 rp.n, .int .i64 rp.x.k, .int .i64 rp.x.v.1, .int .i64 rp.x.v.2.1, .string rp.x.v.2.2, .int .i64 rp.x.c, .slice q3.xa rp.x.ks.length q3.xc, .slice q3.sa rp.xs.length q3.sc, .slice q3.ga rp.gs.length q3.gc, s] 31 (0, 0)) := (g10.block _ (ae CW9.1) (fun e => by have := (hnb _ e.symm).1; omega)).trans CW9.1
        have QK10 : w10.heap[wr.heap.size]? = some (.cells #[.int .i64 p.ks[j].k, .int .i64 p.ks[j].n, .int .i64 p.ks[j].x.k, .int .i64 p.ks[j].x.v.1, .int .i64 p.ks[j].x.v.2.1, .string p.ks[j].x.v.2.2, .int .i64 p.ks[j].x.c, .slice q1.xa p.ks[j].x.ks.length q1.xc, .slice q1.sa p.ks[j].xs.length q1.sc, .slice q1.ga p.ks[j].gs.length q1.gc, .slice q1.ka o1 q1.kc, .slice ca1 cl1 cc1, .slice na1 p.ks[j].ks.length nc1] 50 (0, 0)) := (g10.block _ (ae CW9.2) (fun e => by have := (hnb _ e.symm).2; omega)).trans CW9.2
        have QZ10 : w10.heap[w.heap.size + 1]? = some (.cells dT 31 (0, 0)) := (g10.block _ (by have := hb.size; omega) (fun e => by have := (hnb _ e.symm).1; omega)).trans ((D9.block _ (by omega)).trans QZ)
        have A10 : Below w.heap.size w w10 := (chain hb D9).trans ((He _ _).grown g10 (by have := hb.size; omega) (fun q hq => by have := (hnb q hq).1; omega))
        have K10 : ah (fun b => w.heap.size + 3 ≤ b ∧ b < w4.heap.size) w4 w10 := ⟨by omega, fun b hb hl => (g10.block b (by omega) (fun e => by have := (hnb b e.symm).1; omega)).trans ((D9.block b (by omega)).trans (hkw.2 b hb hl))⟩
        refine hK _ _ ⟨fun _ => ⟨QO10, QK10⟩, ?_⟩
        clear hK K CW9 CW8 KY8 KY9 o9 en9 o10 q8 q9 g10 D8 D7 D6 hd10
        simp only [Act.put, Hj, Ho, Hp]
        have CW : w10.heap[w.heap.size + 2]? = some (.cells #[.int .i64 rp.k, .int .i64 rp.n, .int .i64 rp.x.k, .int .i64 rp.x.v.1, .int .i64 rp.x.v.2.1, .string rp.x.v.2.2, .int .i64 rp.x.c, .slice q3.xa rp.x.ks.length q3.xc, .slice q3.sa rp.xs.length q3.sc, .slice q3.ga rp.gs.length q3.gc, s] 31 (0, 0)) ∧ w10.heap[wr.heap.size]? = some (.cells #[.int .i64 p.ks[j].k, .int .i64 p.ks[j].n, .int .i64 p.ks[j].x.k, .int .i64 p.ks[j].x.v.1, .int .i64 p.ks[j].x.v.2.1, .string p.ks[j].x.v.2.2, .int .i64 p.ks[j].x.c, .slice q1.xa p.ks[j].x.ks.length q1.xc, .slice q1.sa p.ks[j].xs.length q1.sc, .slice q1.ga p.ks[j].gs.length q1.gc, .slice q1.ka o1 q1.kc, .slice ca1 cl1 cc1, .slice na1 p.ks[j].ks.length nc1] 50 (0, 0)) := ⟨QO10, QK10⟩
        refine bD hCC (some 73) (i := 6) (v := .pointer (some ⟨w.heap.size + 2, 10, none⟩)) rfl rfl (by kernel_rfl) (by kernel_rfl) (by kernel_rfl) (by kernel_rfl) (by kernel_rfl) rfl (fun _ _ _ h => h) (Or.inl ⟨rfl, fun n hn => ?_⟩) (fun _ => CW) ?_
        · go_simp
        simp only [Act.put, Hj, Ho, Hp]
        clear CW
        refine cT (rs := [7]) (by kernel_rfl) (by simp) ?_
        intro w11 hb11 jj hj
        obtain rfl : jj = 7 := by simpa using hj
        clear hj
        have QO11 := (hb11.block _ (ae QO10)).trans QO10
        have QZ11 := (hb11.block _ (ae QZ10)).trans QZ10
        have OS11 := OS10.next yX hb11
        obtain ⟨va, vc, rfl⟩ := OS11.len
        generalize (bN (p.ks.take j) ++ [y]).length = vn at *
        have A11 := chain A10 hb11
        have K11 := K10.trans (ah.of hb11)
        have hc5 : w11.cell? ⟨w.heap.size + 2, 10, none⟩ = some s := cell_of (i := 10) QO11 rfl
        have hf5 : w11.frozen? ⟨w.heap.size + 2, 10, none⟩ = false := Hh w11 (w.heap.size + 2) 10 _ _ QO11
        refine wpOp_step rfl (fun K hK => ?_)
        go_simp
        have QO12 : (w11.setCell ⟨w.heap.size + 2, 10, none⟩ (.slice va vn vc)).heap[w.heap.size + 2]? = some (.cells #[.int .i64 rp.k, .int .i64 rp.n, .int .i64 rp.x.k, .int .i64 rp.x.v.1, .int .i64 rp.x.v.2.1, .string rp.x.v.2.2, .int .i64 rp.x.c, .slice q3.xa rp.x.ks.length q3.xc, .slice q3.sa rp.xs.length q3.sc, .slice q3.ga rp.gs.length q3.gc, .slice va vn vc] 31 (0, 0)) := Hn w11 (w.heap.size + 2) 10 _ _ (.slice va vn vc) QO11
        have QZ12 : (w11.setCell ⟨w.heap.size + 2, 10, none⟩ (.slice va vn vc)).heap[w.heap.size + 1]? = some (.cells dT 31 (0, 0)) := by rw [aq _ _ (by omega)]; exact QZ11
        have A12 : Below w.heap.size w (w11.setCell ⟨w.heap.size + 2, 10, none⟩ (.slice va vn vc)) := A11.setCell (p := ⟨w.heap.size + 2, 10, none⟩) (Ir _ _) _
        have OS12 := OS11.gD yX (fun _ h => h) ((ah.refl _ _).set (w.heap.size + 2) 10 (.slice va vn vc) (by omega))
        have K12 := K11.set (w.heap.size + 2) 10 (.slice va vn vc) (fun h => by have := h.1; omega)
        refine hK _ _ ⟨fun h => absurd h (by decide), ?_⟩
        clear hc5 hf5 hK K
        generalize w11.setCell ⟨w.heap.size + 2, 10, none⟩ (.slice va vn vc) = w12 at *
        refine lJ (by kernel_rfl) ?_
        intro w13 hb13
        have A13 := chain A12 hb13
        have OS13 := OS12.next yX hb13
        have QO13 := (hb13.block _ (ae QO12)).trans QO12
        have QZ13 := (hb13.block _ (ae QZ12)).trans QZ12
        have K13 := K12.trans (ah.of hb13)
        clear A12 OS12 QO12 QZ12 hb13 OS11 QO11 QZ11 A11 hb11 OS10 QO10 QZ10 QK10 A10 K10 K11 K12
        go_wp2_with fail
        go_roundw
        case rel => exact ⟨j + 1, by omega, by go_num, ⟨_, QO13, by rw [HT.out, HY.out]; exact OS13⟩, QZ13, A13, K13⟩
        case measure => simp [intOf]; omega
      · have e : j = p.ks.length := by omega
        subst e
        rw [Ib] at OS
        obtain ⟨sa, sc, rfl, KS⟩ := OS.Hb (fun _ h => h)
        obtain ⟨o0, o1, o2, o3, o4, o5, o6, o7, o8, o9, o10⟩ := bz QO
        obtain ⟨z0, z1, z2, z3, z4, z5, z6, z7, z8, z9, z10⟩ := bz QZ
        obtain ⟨zf0, zf1, zf2, zf3, zf4, zf5, zf6, zf7, zf8, zf9, zf10⟩ := lO QZ
        go_wp2_with fail
        have AP : Below w.heap.size w (uN wr (w.heap.size + 1) (.int .i64 rp.k) (.int .i64 rp.n) (.int .i64 rp.x.k) (.int .i64 rp.x.v.1) (.int .i64 rp.x.v.2.1) (.string rp.x.v.2.2) (.int .i64 rp.x.c) (.slice q3.xa rp.x.ks.length q3.xc) (.slice q3.sa rp.xs.length q3.sc) (.slice q3.ga rp.gs.length q3.gc) (.slice sa (bN p.ks).length sc)) := (j2 (g := w.heap.size + 1) hb (by omega) (.int .i64 rp.k) (.int .i64 rp.n) (.int .i64 rp.x.k) (.int .i64 rp.x.v.1) (.int .i64 rp.x.v.2.1) (.string rp.x.v.2.2) (.int .i64 rp.x.c) (.slice q3.xa rp.x.ks.length q3.xc) (.slice q3.sa rp.xs.length q3.sc) (.slice q3.ga rp.gs.length q3.gc) (.slice sa (bN p.ks).length sc))
        have KP : ah (fun b => w.heap.size + 3 ≤ b) wr (uN wr (w.heap.size + 1) (.int .i64 rp.k) (.int .i64 rp.n) (.int .i64 rp.x.k) (.int .i64 rp.x.v.1) (.int .i64 rp.x.v.2.1) (.string rp.x.v.2.2) (.int .i64 rp.x.c) (.slice q3.xa rp.x.ks.length q3.xc) (.slice q3.sa rp.xs.length q3.sc) (.slice q3.ga rp.gs.length q3.gc) (.slice sa (bN p.ks).length sc)) := (mc (g := w.heap.size + 1) (ah.refl _ wr) (by omega) (.int .i64 rp.k) (.int .i64 rp.n) (.int .i64 rp.x.k) (.int .i64 rp.x.v.1) (.int .i64 rp.x.v.2.1) (.string rp.x.v.2.2) (.int .i64 rp.x.c) (.slice q3.xa rp.x.ks.length q3.xc) (.slice q3.sa rp.xs.length q3.sc) (.slice q3.ga rp.gs.length q3.gc) (.slice sa (bN p.ks).length sc))
        have QE : (uN wr (w.heap.size + 1) (.int .i64 rp.k) (.int .i64 rp.n) (.int .i64 rp.x.k) (.int .i64 rp.x.v.1) (.int .i64 rp.x.v.2.1) (.string rp.x.v.2.2) (.int .i64 rp.x.c) (.slice q3.xa rp.x.ks.length q3.xc) (.slice q3.sa rp.xs.length q3.sc) (.slice q3.ga rp.gs.length q3.gc) (.slice sa (bN p.ks).length sc)).heap[w.heap.size + 1]? = some (.cells #[.int .i64 rp.k, .int .i64 rp.n, .int .i64 rp.x.k, .int .i64 rp.x.v.1, .int .i64 rp.x.v.2.1, .string rp.x.v.2.2, .int .i64 rp.x.c, .slice q3.xa rp.x.ks.length q3.xc, .slice q3.sa rp.xs.length q3.sc, .slice q3.ga rp.gs.length q3.gc, .slice sa (bN p.ks).length sc] 31 (0, 0)) := (lp (g := w.heap.size + 1) QZ (.int .i64 rp.k) (.int .i64 rp.n) (.int .i64 rp.x.k) (.int .i64 rp.x.v.1) (.int .i64 rp.x.v.2.1) (.string rp.x.v.2.2) (.int .i64 rp.x.c) (.slice q3.xa rp.x.ks.length q3.xc) (.slice q3.sa rp.xs.length q3.sc) (.slice q3.ga rp.gs.length q3.gc) (.slice sa (bN p.ks).length sc))
        clear o0 o1 o2 o3 o4 o5 o6 o7 o8 o9 o10 z0 zf0 z1 zf1 z2 zf2 z3 zf3 z4 zf4 z5 zf5 z6 zf6 z7 zf7 z8 zf8 z9 zf9 z10 zf10
        unfold uN at AP KP QE
        generalize (((((((((((wr.setCell ⟨w.heap.size + 1, 0, none⟩ (.int .i64 rp.k)).setCell ⟨w.heap.size + 1, 1, none⟩ (.int .i64 rp.n)).setCell ⟨w.heap.size + 1, 2, none⟩ (.int .i64 rp.x.k)).setCell ⟨w.heap.size + 1, 3, none⟩ (.int .i64 rp.x.v.1)).setCell ⟨w.heap.size + 1, 4, none⟩ (.int .i64 rp.x.v.2.1)).setCell ⟨w.heap.size + 1, 5, none⟩ (.string rp.x.v.2.2)).setCell ⟨w.heap.size + 1, 6, none⟩ (.int .i64 rp.x.c)).setCell ⟨w.heap.size + 1, 7, none⟩ (.slice q3.xa rp.x.ks.length q3.xc)).setCell ⟨w.heap.size + 1, 8, none⟩ (.slice q3.sa rp.xs.length q3.sc)).setCell ⟨w.heap.size + 1, 9, none⟩ (.slice q3.ga rp.gs.length q3.gc)).setCell ⟨w.heap.size + 1, 10, none⟩ (.slice sa (bN p.ks).length sc)) = w8 at *
        have FIN : lD (fun b => w.heap.size ≤ b) w8 rp ⟨q3.xa, q3.xc, q3.sa, q3.sc, q3.ga, q3.gc, sa, sc⟩ := by
          have KF := hkw.trans (KP.mono fun _ h => h.1)
          refine ⟨?_, ?_, ?_, ?_⟩
          · exact ((HFX.out.1.mono (S' := fun b => w.heap.size + 3 ≤ b ∧ b < w4.heap.size) fun b h l => ⟨h, l⟩).next KF).mono fun b h _ => by omega
          · exact ((HFX.out.2.1.mono (S' := fun b => w.heap.size + 3 ≤ b ∧ b < w4.heap.size) fun b h l => ⟨h, l⟩).next KF).mono fun b h _ => by omega
          · exact ((HFX.out.2.2.mono (S' := fun b => w.heap.size + 3 ≤ b ∧ b < w4.heap.size) fun b h l => ⟨h, l⟩).next KF).mono fun b h _ => by omega
          · rw [EKS.out]
            exact (KS.next (KP.mono fun _ h => by omega)).mono fun b h _ => by omega
        obtain ⟨r0, r1, r2, r3, r4, r5, r6, r7, r8, r9, r10⟩ := bz QE
        exact Hf (v := .agg #[.int .i64 rp.k, .int .i64 rp.n, .int .i64 rp.x.k, .int .i64 rp.x.v.1, .int .i64 rp.x.v.2.1, .string rp.x.v.2.2, .int .i64 rp.x.c, .slice q3.xa rp.x.ks.length q3.xc, .slice q3.sa rp.xs.length q3.sc, .slice q3.ga rp.gs.length q3.gc, .slice sa (bN p.ks).length sc]) (by simp [results, Tryz.results14, go_sem, r0, r1, r2, r3, r4, r5, r6, r7, r8, r9, r10]) rfl ⟨⟨q3.xa, q3.xc, q3.sa, q3.sc, q3.ga, q3.gc, sa, sc⟩, by unfold fp gq; rw [EKS.out], FIN, AP⟩
theorem oK (ts:List (List Int)):∀ p,Bu ts p:=Pl.ind fun k n y xs gs ks ih=>rh ts (.mk k n y xs gs ks) ih
theorem gC (x:Ex):bQ x=(x.k == 1 && (cls x.v.1 x.v.2.1 == some true)):=by rw [← sJ]; rfl
theorem iE (ok:List Int→Ex→Bool) (ts:List (List Int)) (x:Ex):∀ l,dS ok ts l x=l.map (fun r=>az ok ts r x)
 | []=>rfl
 | p :: r=>by rw [dS,iE ok ts x r,I0]
theorem eJ {ts:List (List Int)} {p:Pl} (h:eV ts p):∀ r ∈ p.ks,eV ts r:=by
 obtain ⟨k,n,x,xs,gs,ks⟩:=p;exact (bS h).2.1
theorem jY {ts:List (List Int)} {p:Pl} (h:eV ts p):p.ks.length≤2∧(4≤p.k∧p.k≤9→p.ks.length=2):=by
 obtain ⟨k,n,x,xs,gs,ks⟩:=p;obtain ⟨_,_,h | ⟨_,a,b,e,_⟩ | ⟨_,_,a,e⟩⟩:=bS h
 ·obtain ⟨e1,e2,_⟩:=h;subst e2;exact ⟨by simp [Pl.ks],fun e=>by simp only [Pl.k] at e; omega⟩
 ·subst e; simp [Pl.ks]
 ·subst e;refine ⟨by simp [Pl.ks],fun e=>?_⟩;simp only [Pl.k] at e;omega
theorem im {ts:List (List Int)} {p:Pl} {l:List Pl} (h:l.map (aj ts)=p.ks.map (aj ts)):aj ts (.mk p.k p.n p.x p.xs p.gs l)=aj ts p:=by
 obtain ⟨k,n,x,xs,gs,ks⟩:=p;rw [aj,aj,cn,cn];simp only [Pl.ks] at h;rw [h];rfl
theorem zY {ts:List (List Int)} {p:Pl} (x:Ex) (h:eV ts p):(p.ks.map fun r=>az bK ts r x).map (aj ts)=p.ks.map (aj ts):=by
 rw [Ix];exact Ih fun r hr=>eZ bK r x (eJ h r hr)
theorem yA (ts:List (List Int)) (p:Pl):∀ (S:Nat→Prop) (x:Ex) (xa:Option Addr) (xc:Nat) (q:Pw) (o:Nat) (ca:Option Addr) (cc:Nat) (na:Option Addr) (nc:Nat) (w:World),bQ x=true→dz eD x→eV ts p→dD S w xa x.ks→fA ts S w p q ca na →
 Calls Tryz.prog 21 #[iY x.k x.v x.c xa x.ks.length xc,cH ts p q o ca cc na nc] w fun e w'=>∃ v,e = .returned v∧aT ts (eA S w) w' v (az bK ts p x)∧Below w.heap.size w w':=by
 intro S x xa xc q o ca cc na nc w ht hw hsh hx hp;obtain ⟨cl,hcl⟩:∃ cl,(aj ts p).length=cl:=⟨_,rfl⟩
 have HCL:Hid ((aj ts p).length=cl):=hcl;obtain ⟨rp,hrp⟩:∃ rp,az bK ts p x=rp:=⟨_,rfl⟩
 have HRP:Hid (az bK ts p x=rp):=hrp;rw [hrp];unfold cH bL;rw [hcl];clear hcl hrp;have A:Below w.heap.size w (((w.alloc (.cells (aW x xa xc) 27)).alloc (.cells (aJ p q o ca cl cc na p.ks.length nc) 50)).alloc (.cells aH 50)):=((((He w.heap.size w).alloc (Hd _) (.cells (aW x xa xc) 27)).alloc (by simp only [Hg]; omega) (.cells (aJ p q o ca cl cc na p.ks.length nc) 50)).alloc (by simp only [Hg]; omega) (.cells aH 50))
 have Z:w.heap.size+3≤(((w.alloc (.cells (aW x xa xc) 27)).alloc (.cells (aJ p q o ca cl cc na p.ks.length nc) 50)).alloc (.cells aH 50)).heap.size:=by simp only [Hg]; omega
 have Q0:(((w.alloc (.cells (aW x xa xc) 27)).alloc (.cells (aJ p q o ca cl cc na p.ks.length nc) 50)).alloc (.cells aH 50)).heap[w.heap.size]? = some (.cells (aW x xa xc) 27 (0,0)):=by
  rw [aD _ _ (by simp only [Hg]; omega),aD _ _ (by simp only [Hg]; omega)];exact aw w (aW x xa xc) 27 rfl
 have Q1:(((w.alloc (.cells (aW x xa xc) 27)).alloc (.cells (aJ p q o ca cl cc na p.ks.length nc) 50)).alloc (.cells aH 50)).heap[w.heap.size+1]? = some (.cells (aJ p q o ca cl cc na p.ks.length nc) 50 (0,0)):=by
  rw [aD _ _ (by simp only [Hg]; omega)];exact aw (w.alloc (.cells (aW x xa xc) 27)) (aJ p q o ca cl cc na p.ks.length nc) 50 (by simp only [Hg])
 have Q2:(((w.alloc (.cells (aW x xa xc) 27)).alloc (.cells (aJ p q o ca cl cc na p.ks.length nc) 50)).alloc (.cells aH 50)).heap[w.heap.size+2]? = some (.cells aH 50 (0,0)):=by
  exact aw ((w.alloc (.cells (aW x xa xc) 27)).alloc (.cells (aJ p q o ca cl cc na p.ks.length nc) 50)) aH 50 (by simp only [Hg])
 have HX:Hid (dD S w xa x.ks):=hx;have HP:Hid (fA ts S w p q ca na):=hp;have HW:Hid (dz eD x∧eV ts p):=⟨hw,hsh⟩
 have HT:Hid (bQ x=(x.k == 1 && (cls x.v.1 x.v.2.1 == some true))):=gC x;clear hx hp hw hsh;go_enter Tryz.func21,Tryz.ntmps21;go_upto_region 1 with fail
 generalize (((w.alloc (.cells (aW x xa xc) 27)).alloc (.cells (aJ p q o ca cl cc na p.ks.length nc) 50)).alloc (.cells aH 50))=w3 at *;have h1:(x.k == 1)=true:=by
  rw [HT.out,IB] at ht;exact ht.1
 have h2:(cls x.v.1 x.v.2.1 == some true)=true:=by
  rw [HT.out,IB] at ht;exact ht.2
 have erp:Hid (rp=p):=by
  show _=_;rw [← HRP.out];obtain ⟨k,n,y,xs,gs,ks⟩:=p;rw [az,if_pos ht]
 clear ht HT;have x0:w3.cell? ⟨w.heap.size,0,none⟩=some (.int .i64 x.k):=cell_of (i:=0) Q0 rfl;have x1:w3.cell? ⟨w.heap.size,1,none⟩=some (.int .i64 x.v.1):=cell_of (i:=1) Q0 rfl;have x2:w3.cell? ⟨w.heap.size,2,none⟩=some (.int .i64 x.v.2.1):=cell_of (i:=2) Q0 rfl;have x3:w3.cell? ⟨w.heap.size,3,none⟩=some (.string x.v.2.2):=cell_of (i:=3) Q0 rfl;have con:=dB x.v.1 x.v.2.1 x.v.2.2 w3;rw [h2] at con;go_wp2_with fail
 refine con.mono ?_;rintro e w4 ⟨rfl,hb4⟩;clear con x0 x1 x2 x3;have A4:=chain A hb4;have Q14:=(hb4.block _ (ae Q1)).trans Q1;have Q24:=(hb4.block _ (ae Q2)).trans Q2;obtain ⟨n0,n1,n2,n3,n4,n5,n6,n7,n8,n9,n10,n11,n12⟩:=aB Q14;obtain ⟨z0,z1,z2,z3,z4,z5,z6,z7,z8,z9,z10,z11,z12⟩:=aB Q24;obtain ⟨zf0,zf1,zf2,zf3,zf4,zf5,zf6,zf7,zf8,zf9,zf10,zf11,zf12⟩:=cL Q24;go_wp2_with fail
 have AP:Below w.heap.size w (df w4 (w.heap.size+2) p q o ca cl cc na p.ks.length nc):=(bf (g:=w.heap.size+2) A4 (by omega) (.int .i64 p.k) (.int .i64 p.n) (.int .i64 p.x.k) (.int .i64 p.x.v.1) (.int .i64 p.x.v.2.1) (.string p.x.v.2.2) (.int .i64 p.x.c) (.slice q.xa p.x.ks.length q.xc) (.slice q.sa p.xs.length q.sc) (.slice q.ga p.gs.length q.gc) (.slice q.ka o q.kc) (.slice ca cl cc) (.slice na p.ks.length nc))
 have QE:(df w4 (w.heap.size+2) p q o ca cl cc na p.ks.length nc).heap[w.heap.size+2]? = some (.cells (aJ p q o ca cl cc na p.ks.length nc) 50 (0,0)):=(bw (g:=w.heap.size+2) Q24 (.int .i64 p.k) (.int .i64 p.n) (.int .i64 p.x.k) (.int .i64 p.x.v.1) (.int .i64 p.x.v.2.1) (.string p.x.v.2.2) (.int .i64 p.x.c) (.slice q.xa p.x.ks.length q.xc) (.slice q.sa p.xs.length q.sc) (.slice q.ga p.gs.length q.gc) (.slice q.ka o q.kc) (.slice ca cl cc) (.slice na p.ks.length nc))
 clear n0 n1 n2 n3 n4 n5 n6 n7 n8 n9 n10 n11 n12 z0 zf0 z1 zf1 z2 zf2 z3 zf3 z4 zf4 z5 zf5 z6 zf6 z7 zf7 z8 zf8 z9 zf9 z10 zf10 z11 zf11 z12 zf12;unfold df at AP QE
 generalize (((((((((((((w4.setCell ⟨w.heap.size+2,0,none⟩ (.int .i64 p.k)).setCell ⟨w.heap.size+2,1,none⟩ (.int .i64 p.n)).setCell ⟨w.heap.size+2,2,none⟩ (.int .i64 p.x.k)).setCell ⟨w.heap.size+2,3,none⟩ (.int .i64 p.x.v.1)).setCell ⟨w.heap.size+2,4,none⟩ (.int .i64 p.x.v.2.1)).setCell ⟨w.heap.size+2,5,none⟩ (.string p.x.v.2.2)).setCell ⟨w.heap.size+2,6,none⟩ (.int .i64 p.x.c)).setCell ⟨w.heap.size+2,7,none⟩ (.slice q.xa p.x.ks.length q.xc)).setCell ⟨w.heap.size+2,8,none⟩ (.slice q.sa p.xs.length q.sc)).setCell ⟨w.heap.size+2,9,none⟩ (.slice q.ga p.gs.length q.gc)).setCell ⟨w.heap.size+2,10,none⟩ (.slice q.ka o q.kc)).setCell ⟨w.heap.size+2,11,none⟩ (.slice ca cl cc)).setCell ⟨w.heap.size+2,12,none⟩ (.slice na p.ks.length nc))=w5 at *
 have FIN:aT ts (eA S w) w5 (.agg (aJ p q o ca cl cc na p.ks.length nc)) rp:=by
  rw [erp.out];exact ⟨q,o,ca,cc,na,nc,by unfold cH bL; rw [HCL.out],(HP.out.mono fun b h _=>.inl h).next (ah.of AP)⟩
 obtain ⟨r0,r1,r2,r3,r4,r5,r6,r7,r8,r9,r10,r11,r12⟩:=aB QE;exact Hf (v:=.agg (aJ p q o ca cl cc na p.ks.length nc)) (by simp [results,Tryz.results21,go_sem,r0,r1,r2,r3,r4,r5,r6,r7,r8,r9,r10,r11,r12]) rfl ⟨_,rfl,FIN,AP⟩
theorem tv (ts : List (List Int)) (p : Pl) (hk : p.k = 2) : ∀ (S : Nat → Prop) (x : Ex) (xa : Option Addr) (xc : Nat) (q : Pw) (o : Nat) (ca : Option Addr) (cc : Nat) (na : Option Addr) (nc : Nat) (w : World), bQ x = false → dz eD x → eV ts p → dD S w xa x.ks → fA ts S w p q ca na →
  Calls Tryz.prog 21 #[iY x.k x.v x.c xa x.ks.length xc, cH ts p q o ca cc na nc] w fun e w' => ∃ v, e = .returned v ∧ aT ts (eA S w) w' v (az bK ts p x) ∧ Below w.heap.size w w' := by
  intro S x xa xc q o ca cc na nc w ht hw hsh hx hp
  obtain ⟨cl, hcl⟩ : ∃ cl, (aj ts p).length = cl := ⟨_, rfl⟩
  have HCL : Hid ((aj ts p).length = cl) := hcl
  obtain ⟨rp, hrp⟩ : ∃ rp, az bK ts p x = rp := ⟨_, rfl⟩
  have HRP : Hid (az bK ts p x = rp) := hrp
  rw [hrp]
  unfold cH bL
  rw [hcl]
  clear hcl hrp
  have A : Below w.heap.size w (((w.alloc (.cells (aW x xa xc) 27)).alloc (.cells (aJ p q o ca cl cc na p.ks.length nc) 50)).alloc (.cells aH 50)) := ((((He w.heap.size w).alloc (Hd _) (.cells (aW x xa xc) 27)).alloc (by simp only [Hg]; omega) (.cells (aJ p q o ca cl cc na p.ks.length nc) 50)).alloc (by simp only [Hg]; omega) (.cells aH 50))
  have Z : w.heap.size + 3 ≤ (((w.alloc (.cells (aW x xa xc) 27)).alloc (.cells (aJ p q o ca cl cc na p.ks.length nc) 50)).alloc (.cells aH 50)).heap.size := by simp only [Hg]; omega
  have Q0 : (((w.alloc (.cells (aW x xa xc) 27)).alloc (.cells (aJ p q o ca cl cc na p.ks.length nc) 50)).alloc (.cells aH 50)).heap[w.heap.size]? = some (.cells (aW x xa xc) 27 (0, 0)) := by
    rw [aD _ _ (by simp only [Hg]; omega), aD _ _ (by simp only [Hg]; omega)]
    exact aw w (aW x xa xc) 27 rfl
  have Q1 : (((w.alloc (.cells (aW x xa xc) 27)).alloc (.cells (aJ p q o ca cl cc na p.ks.length nc) 50)).alloc (.cells aH 50)).heap[w.heap.size + 1]? = some (.cells (aJ p q o ca cl cc na p.ks.length nc) 50 (0, 0)) := by
    rw [aD _ _ (by simp only [Hg]; omega)]
    exact aw (w.alloc (.cells (aW x xa xc) 27)) (aJ p q o ca cl cc na p.ks.length nc) 50 (by simp only [Hg])
  have Q2 : (((w.alloc (.cells (aW x xa xc) 27)).alloc (.cells (aJ p q o ca cl cc na p.ks.length nc) 50)).alloc (.cells aH 50)).heap[w.heap.size + 2]? = some (.cells aH 50 (0, 0)) := by
    exact aw ((w.alloc (.cells (aW x xa xc) 27)).alloc (.cells (aJ p q o ca cl cc na p.ks.length nc) 50)) aH 50 (by simp only [Hg])
  have HX : Hid (dD S w xa x.ks) := hx
  have HP : Hid (fA ts S w p q ca na) := hp
  have HW : Hid (dz eD x ∧ eV ts p) := ⟨hw, hsh⟩
  have HT : Hid (bQ x = (x.k == 1 && (cls x.v.1 x.v.2.1 == some true))) := gC x
  clear hx hp hw hsh
  have b2 : (p.k == 2) = true := by simpa using hk
  have ERP : Hid (rp = km ts x p) := by
    show _ = _
    rw [← HRP.out]
    have hsh := HW.out.2
    obtain ⟨k, n, y, xs, gs, ks⟩ := p
    simp only [Pl.k] at hk
    subst hk
    obtain ⟨_, _, ⟨e, _⟩ | ⟨e, _⟩ | ⟨_, _, r, rfl⟩⟩ := bS hsh
    · omega
    · omega
    rw [az, if_neg (by rw [ht]; decide), if_pos rfl, jc]
    unfold km bK da
    rw [cP]
    have e : jS 2 xs gs (aj ts r) = aj ts r := rfl
    rw [e]
    simp only [decide_eq_true_eq]
    rfl
  clear hk
  go_enter Tryz.func21, Tryz.ntmps21
  go_upto_region 1 with fail
  generalize (((w.alloc (.cells (aW x xa xc) 27)).alloc (.cells (aJ p q o ca cl cc na p.ks.length nc) 50)).alloc (.cells aH 50)) = w3 at *
  have HTF : Hid (bQ x = false) := ht
  have x0 : w3.cell? ⟨w.heap.size, 0, none⟩ = some (.int .i64 x.k) := cell_of (i := 0) Q0 rfl
  have x1 : w3.cell? ⟨w.heap.size, 1, none⟩ = some (.int .i64 x.v.1) := cell_of (i := 1) Q0 rfl
  have x2 : w3.cell? ⟨w.heap.size, 2, none⟩ = some (.int .i64 x.v.2.1) := cell_of (i := 2) Q0 rfl
  have x3 : w3.cell? ⟨w.heap.size, 3, none⟩ = some (.string x.v.2.2) := cell_of (i := 3) Q0 rfl
  have h0 : (x.k == 1) = false ∨ ((x.k == 1) = true ∧ (cls x.v.1 x.v.2.1 == some true) = false) := by
    rw [HT.out] at ht
    cases h1 : (x.k == 1) with
    | false => exact .inl rfl
    | true => rw [h1, Bool.true_and] at ht; exact .inr ⟨rfl, ht⟩
  clear ht HT
  rcases h0 with h1 | ⟨h1, h2⟩
  all_goals first
    | (have con := dB x.v.1 x.v.2.1 x.v.2.2 w3
       rw [h2] at con
       go_wp2_with fail
       refine con.mono ?_
       rintro e w4 ⟨rfl, hb4⟩
       have A4 := chain A hb4
       have Q04 := (hb4.block _ (ae Q0)).trans Q0
       have Q14 := (hb4.block _ (ae Q1)).trans Q1
       have Q24 := (hb4.block _ (ae Q2)).trans Q2
       clear con hb4 A Z Q0 Q1 Q2 h1 h2 x0 x1 x2 x3
       dsimp only
       go_upto_region 3 with fail)
    | (go_upto_region 3 with fail
       have A4 := A
       have Q04 := Q0
       have Q14 := Q1
       have Q24 := Q2
       clear A Z Q0 Q1 Q2 h1 x0 x1 x2 x3
       generalize w3 = w4 at *)
  all_goals (
    have n0 : w4.cell? ⟨w.heap.size + 1, 0, none⟩ = some (.int .i64 p.k) := cell_of (i := 0) Q14 rfl
    have hrp : rp = km ts x p := ERP.out
    clear HRP
    have HRP : Hid (km ts x p = rp) := hrp.symm
    clear hrp n0
    have con := mW ts (Old S w) x xa xc p q o ca cc na nc w4 ((HX.out.mono fun b h l => ⟨h, l⟩).next (ah.of A4)) ((HP.out.mono fun b h l => ⟨h, l⟩).next (ah.of A4))
    unfold cH bL at con
    rw [HCL.out] at con
    obtain ⟨x0, x1, x2, x3, x4, x5⟩ := cU Q04
    obtain ⟨n0, n1, n2, n3, n4, n5, n6, n7, n8, n9, n10, n11, n12⟩ := aB Q14
    go_wp2_with fail
    refine con.mono ?_
    clear x0 x1 x2 x3 x4 x5 n0 n1 n2 n3 n4 n5 n6 n7 n8 n9 n10 n11 n12
    rintro e w7 ⟨v7, rfl, N7, hb7⟩
    clear con
    have A7 := chain A4 hb7
    have QR7 := (hb7.block _ (ae Q24)).trans Q24
    have lr6 := ae Q24
    obtain ⟨q2, o2, ca2, cc2, na2, nc2, rfl, B7⟩ := N7
    generalize hF : km ts x p = F at *
    obtain ⟨cl2, hcl2⟩ : ∃ cl2, (aj ts F).length = cl2 := ⟨_, rfl⟩
    have HCL2 : Hid ((aj ts F).length = cl2) := hcl2
    unfold cH bL
    rw [hcl2]
    clear hcl2 hF
    obtain ⟨y0, y1, y2, y3, y4, y5, y6, y7, y8, y9, y10, y11, y12⟩ := aB QR7
    obtain ⟨yf0, yf1, yf2, yf3, yf4, yf5, yf6, yf7, yf8, yf9, yf10, yf11, yf12⟩ := cL QR7
    go_wp2_with fail
    have AP : Below w.heap.size w (df w7 (w.heap.size + 2) F q2 o2 ca2 cl2 cc2 na2 F.ks.length nc2) := (bf (g := w.heap.size + 2) A7 (by omega) (.int .i64 F.k) (.int .i64 F.n) (.int .i64 F.x.k) (.int .i64 F.x.v.1) (.int .i64 F.x.v.2.1) (.string F.x.v.2.2) (.int .i64 F.x.c) (.slice q2.xa F.x.ks.length q2.xc) (.slice q2.sa F.xs.length q2.sc) (.slice q2.ga F.gs.length q2.gc) (.slice q2.ka o2 q2.kc) (.slice ca2 cl2 cc2) (.slice na2 F.ks.length nc2))
    have KP : ah (eA (Old S w) w4) w7 (df w7 (w.heap.size + 2) F q2 o2 ca2 cl2 cc2 na2 F.ks.length nc2) := (bC (g := w.heap.size + 2) (ah.refl _ w7) (cD (by omega) (by omega)) (.int .i64 F.k) (.int .i64 F.n) (.int .i64 F.x.k) (.int .i64 F.x.v.1) (.int .i64 F.x.v.2.1) (.string F.x.v.2.2) (.int .i64 F.x.c) (.slice q2.xa F.x.ks.length q2.xc) (.slice q2.sa F.xs.length q2.sc) (.slice q2.ga F.gs.length q2.gc) (.slice q2.ka o2 q2.kc) (.slice ca2 cl2 cc2) (.slice na2 F.ks.length nc2))
    have QE : (df w7 (w.heap.size + 2) F q2 o2 ca2 cl2 cc2 na2 F.ks.length nc2).heap[w.heap.size + 2]? = some (.cells (aJ F q2 o2 ca2 cl2 cc2 na2 F.ks.length nc2) 50 (0, 0)) := (bw (g := w.heap.size + 2) QR7 (.int .i64 F.k) (.int .i64 F.n) (.int .i64 F.x.k) (.int .i64 F.x.v.1) (.int .i64 F.x.v.2.1) (.string F.x.v.2.2) (.int .i64 F.x.c) (.slice q2.xa F.x.ks.length q2.xc) (.slice q2.sa F.xs.length q2.sc) (.slice q2.ga F.gs.length q2.gc) (.slice q2.ka o2 q2.kc) (.slice ca2 cl2 cc2) (.slice na2 F.ks.length nc2))
    clear y0 yf0 y1 yf1 y2 yf2 y3 yf3 y4 yf4 y5 yf5 y6 yf6 y7 yf7 y8 yf8 y9 yf9 y10 yf10 y11 yf11 y12 yf12
    unfold df at AP KP QE
    generalize (((((((((((((w7.setCell ⟨w.heap.size + 2, 0, none⟩ (.int .i64 F.k)).setCell ⟨w.heap.size + 2, 1, none⟩ (.int .i64 F.n)).setCell ⟨w.heap.size + 2, 2, none⟩ (.int .i64 F.x.k)).setCell ⟨w.heap.size + 2, 3, none⟩ (.int .i64 F.x.v.1)).setCell ⟨w.heap.size + 2, 4, none⟩ (.int .i64 F.x.v.2.1)).setCell ⟨w.heap.size + 2, 5, none⟩ (.string F.x.v.2.2)).setCell ⟨w.heap.size + 2, 6, none⟩ (.int .i64 F.x.c)).setCell ⟨w.heap.size + 2, 7, none⟩ (.slice q2.xa F.x.ks.length q2.xc)).setCell ⟨w.heap.size + 2, 8, none⟩ (.slice q2.sa F.xs.length q2.sc)).setCell ⟨w.heap.size + 2, 9, none⟩ (.slice q2.ga F.gs.length q2.gc)).setCell ⟨w.heap.size + 2, 10, none⟩ (.slice q2.ka o2 q2.kc)).setCell ⟨w.heap.size + 2, 11, none⟩ (.slice ca2 cl2 cc2)).setCell ⟨w.heap.size + 2, 12, none⟩ (.slice na2 F.ks.length nc2)) = w8 at *
    have FIN : aT ts (eA S w) w8 (.agg (aJ F q2 o2 ca2 cl2 cc2 na2 F.ks.length nc2)) F := by
      refine ⟨q2, o2, ca2, cc2, na2, nc2, by unfold cH bL; rw [HCL2.out], (B7.next KP).mono fun b h _ => ?_⟩
      rcases h with h | h
      · exact .inl h.1
      · exact .inr (by have := A4.size; omega)
    obtain ⟨r0, r1, r2, r3, r4, r5, r6, r7, r8, r9, r10, r11, r12⟩ := aB QE
    exact Hf (v := .agg (aJ F q2 o2 ca2 cl2 cc2 na2 F.ks.length nc2)) (by simp [results, Tryz.results21, go_sem, r0, r1, r2, r3, r4, r5, r6, r7, r8, r9, r10, r11, r12]) rfl ⟨_, rfl, by rw [← HRP.out]; exact FIN, AP⟩
    )
theorem ur (ts : List (List Int)) (p : Pl) (hk : p.k = 1 ∨ p.k = 3 ∨ p.k = 7 ∨ p.k = 12 ∨ p.k = 13) : ∀ (S : Nat → Prop) (x : Ex) (xa : Option Addr) (xc : Nat) (q : Pw) (o : Nat) (ca : Option Addr) (cc : Nat) (na : Option Addr) (nc : Nat) (w : World), bQ x = false → dz eD x → eV ts p → dD S w xa x.ks → fA ts S w p q ca na →
  Calls Tryz.prog 21 #[iY x.k x.v x.c xa x.ks.length xc, cH ts p q o ca cc na nc] w fun e w' => ∃ v, e = .returned v ∧ aT ts (eA S w) w' v (az bK ts p x) ∧ Below w.heap.size w w' := by
  intro S x xa xc q o ca cc na nc w ht hw hsh hx hp
  obtain ⟨cl, hcl⟩ : ∃ cl, (aj ts p).length = cl := ⟨_, rfl⟩
  have HCL : Hid ((aj ts p).length = cl) := hcl
  obtain ⟨rp, hrp⟩ : ∃ rp, az bK ts p x = rp := ⟨_, rfl⟩
  have HRP : Hid (az bK ts p x = rp) := hrp
  rw [hrp]
  unfold cH bL
  rw [hcl]
  clear hcl hrp
  have A : Below w.heap.size w (((w.alloc (.cells (aW x xa xc) 27)).alloc (.cells (aJ p q o ca cl cc na p.ks.length nc) 50)).alloc (.cells aH 50)) := ((((He w.heap.size w).alloc (Hd _) (.cells (aW x xa xc) 27)).alloc (by simp only [Hg]; omega) (.cells (aJ p q o ca cl cc na p.ks.length nc) 50)).alloc (by simp only [Hg]; omega) (.cells aH 50))
  have Z : w.heap.size + 3 ≤ (((w.alloc (.cells (aW x xa xc) 27)).alloc (.cells (aJ p q o ca cl cc na p.ks.length nc) 50)).alloc (.cells aH 50)).heap.size := by simp only [Hg]; omega
  have Q0 : (((w.alloc (.cells (aW x xa xc) 27)).alloc (.cells (aJ p q o ca cl cc na p.ks.length nc) 50)).alloc (.cells aH 50)).heap[w.heap.size]? = some (.cells (aW x xa xc) 27 (0, 0)) := by
    rw [aD _ _ (by simp only [Hg]; omega), aD _ _ (by simp only [Hg]; omega)]
    exact aw w (aW x xa xc) 27 rfl
  have Q1 : (((w.alloc (.cells (aW x xa xc) 27)).alloc (.cells (aJ p q o ca cl cc na p.ks.length nc) 50)).alloc (.cells aH 50)).heap[w.heap.size + 1]? = some (.cells (aJ p q o ca cl cc na p.ks.length nc) 50 (0, 0)) := by
    rw [aD _ _ (by simp only [Hg]; omega)]
    exact aw (w.alloc (.cells (aW x xa xc) 27)) (aJ p q o ca cl cc na p.ks.length nc) 50 (by simp only [Hg])
  have Q2 : (((w.alloc (.cells (aW x xa xc) 27)).alloc (.cells (aJ p q o ca cl cc na p.ks.length nc) 50)).alloc (.cells aH 50)).heap[w.heap.size + 2]? = some (.cells aH 50 (0, 0)) := by
    exact aw ((w.alloc (.cells (aW x xa xc) 27)).alloc (.cells (aJ p q o ca cl cc na p.ks.length nc) 50)) aH 50 (by simp only [Hg])
  have HX : Hid (dD S w xa x.ks) := hx
  have HP : Hid (fA ts S w p q ca na) := hp
  have HW : Hid (dz eD x ∧ eV ts p) := ⟨hw, hsh⟩
  have HT : Hid (bQ x = (x.k == 1 && (cls x.v.1 x.v.2.1 == some true))) := gC x
  clear hx hp hw hsh
  have b2 : (p.k == 2) = false := by simpa using (show ¬ p.k = 2 by omega)
  have b8 : (p.k == 8) = false := by simpa using (show ¬ p.k = 8 by omega)
  have b9 : (p.k == 9) = false := by simpa using (show ¬ p.k = 9 by omega)
  have b10 : (p.k == 10) = false := by simpa using (show ¬ p.k = 10 by omega)
  have b11 : (p.k == 11) = false := by simpa using (show ¬ p.k = 11 by omega)
  have b5 : (p.k == 5) = false := by simpa using (show ¬ p.k = 5 by omega)
  have b6 : (p.k == 6) = false := by simpa using (show ¬ p.k = 6 by omega)
  have b4 : (p.k == 4) = false := by simpa using (show ¬ p.k = 4 by omega)
  have ERP : Hid (rp = .mk 2 0 x [] [] [p]) := by
    show _ = _
    rw [← HRP.out]
    obtain ⟨k, n, y, xs, gs, ks⟩ := p
    simp only [Pl.k] at hk
    rw [az, if_neg (by rw [ht]; decide), if_neg (by omega), if_neg (by omega), if_neg (by omega), if_neg (by omega)]
    rfl
  clear hk
  go_enter Tryz.func21, Tryz.ntmps21
  go_upto_region 1 with fail
  generalize (((w.alloc (.cells (aW x xa xc) 27)).alloc (.cells (aJ p q o ca cl cc na p.ks.length nc) 50)).alloc (.cells aH 50)) = w3 at *
  have HTF : Hid (bQ x = false) := ht
  have x0 : w3.cell? ⟨w.heap.size, 0, none⟩ = some (.int .i64 x.k) := cell_of (i := 0) Q0 rfl
  have x1 : w3.cell? ⟨w.heap.size, 1, none⟩ = some (.int .i64 x.v.1) := cell_of (i := 1) Q0 rfl
  have x2 : w3.cell? ⟨w.heap.size, 2, none⟩ = some (.int .i64 x.v.2.1) := cell_of (i := 2) Q0 rfl
  have x3 : w3.cell? ⟨w.heap.size, 3, none⟩ = some (.string x.v.2.2) := cell_of (i := 3) Q0 rfl
  have h0 : (x.k == 1) = false ∨ ((x.k == 1) = true ∧ (cls x.v.1 x.v.2.1 == some true) = false) := by
    rw [HT.out] at ht
    cases h1 : (x.k == 1) with
    | false => exact .inl rfl
    | true => rw [h1, Bool.true_and] at ht; exact .inr ⟨rfl, ht⟩
  clear ht HT
  rcases h0 with h1 | ⟨h1, h2⟩
  all_goals first
    | (have con := dB x.v.1 x.v.2.1 x.v.2.2 w3
       rw [h2] at con
       go_wp2_with fail
       refine con.mono ?_
       rintro e w4 ⟨rfl, hb4⟩
       have A4 := chain A hb4
       have Q04 := (hb4.block _ (ae Q0)).trans Q0
       have Q14 := (hb4.block _ (ae Q1)).trans Q1
       have Q24 := (hb4.block _ (ae Q2)).trans Q2
       clear con hb4 A Z Q0 Q1 Q2 h1 h2 x0 x1 x2 x3
       dsimp only
       go_upto_region 3 with fail)
    | (go_upto_region 3 with fail
       have A4 := A
       have Q04 := Q0
       have Q14 := Q1
       have Q24 := Q2
       clear A Z Q0 Q1 Q2 h1 x0 x1 x2 x3
       generalize w3 = w4 at *)
  all_goals (
    have n0 : w4.cell? ⟨w.heap.size + 1, 0, none⟩ = some (.int .i64 p.k) := cell_of (i := 0) Q14 rfl
    have hrp : rp = Pl.mk 2 0 x [] [] [p] := ERP.out
    clear HRP
    have HRP : Hid (Pl.mk 2 0 x [] [] [p] = rp) := hrp.symm
    clear hrp n0
    have con := mS ts (Old S w) x xa xc p q o ca cc na nc w4 ((HX.out.mono fun b h l => ⟨h, l⟩).next (ah.of A4)) ((HP.out.mono fun b h l => ⟨h, l⟩).next (ah.of A4))
    unfold cH bL at con
    rw [HCL.out] at con
    obtain ⟨x0, x1, x2, x3, x4, x5⟩ := cU Q04
    obtain ⟨n0, n1, n2, n3, n4, n5, n6, n7, n8, n9, n10, n11, n12⟩ := aB Q14
    go_wp2_with fail
    refine con.mono ?_
    clear x0 x1 x2 x3 x4 x5 n0 n1 n2 n3 n4 n5 n6 n7 n8 n9 n10 n11 n12
    rintro e w7 ⟨v7, rfl, N7, hb7⟩
    clear con
    have A7 := chain A4 hb7
    have QR7 := (hb7.block _ (ae Q24)).trans Q24
    have lr6 := ae Q24
    obtain ⟨q2, o2, ca2, cc2, na2, nc2, rfl, B7⟩ := N7
    generalize hF : Pl.mk 2 0 x [] [] [p] = F at *
    obtain ⟨cl2, hcl2⟩ : ∃ cl2, (aj ts F).length = cl2 := ⟨_, rfl⟩
    have HCL2 : Hid ((aj ts F).length = cl2) := hcl2
    unfold cH bL
    rw [hcl2]
    clear hcl2 hF
    obtain ⟨y0, y1, y2, y3, y4, y5, y6, y7, y8, y9, y10, y11, y12⟩ := aB QR7
    obtain ⟨yf0, yf1, yf2, yf3, yf4, yf5, yf6, yf7, yf8, yf9, yf10, yf11, yf12⟩ := cL QR7
    go_wp2_with fail
    have AP : Below w.heap.size w (df w7 (w.heap.size + 2) F q2 o2 ca2 cl2 cc2 na2 F.ks.length nc2) := (bf (g := w.heap.size + 2) A7 (by omega) (.int .i64 F.k) (.int .i64 F.n) (.int .i64 F.x.k) (.int .i64 F.x.v.1) (.int .i64 F.x.v.2.1) (.string F.x.v.2.2) (.int .i64 F.x.c) (.slice q2.xa F.x.ks.length q2.xc) (.slice q2.sa F.xs.length q2.sc) (.slice q2.ga F.gs.length q2.gc) (.slice q2.ka o2 q2.kc) (.slice ca2 cl2 cc2) (.slice na2 F.ks.length nc2))
    have KP : ah (eA (Old S w) w4) w7 (df w7 (w.heap.size + 2) F q2 o2 ca2 cl2 cc2 na2 F.ks.length nc2) := (bC (g := w.heap.size + 2) (ah.refl _ w7) (cD (by omega) (by omega)) (.int .i64 F.k) (.int .i64 F.n) (.int .i64 F.x.k) (.int .i64 F.x.v.1) (.int .i64 F.x.v.2.1) (.string F.x.v.2.2) (.int .i64 F.x.c) (.slice q2.xa F.x.ks.length q2.xc) (.slice q2.sa F.xs.length q2.sc) (.slice q2.ga F.gs.length q2.gc) (.slice q2.ka o2 q2.kc) (.slice ca2 cl2 cc2) (.slice na2 F.ks.length nc2))
    have QE : (df w7 (w.heap.size + 2) F q2 o2 ca2 cl2 cc2 na2 F.ks.length nc2).heap[w.heap.size + 2]? = some (.cells (aJ F q2 o2 ca2 cl2 cc2 na2 F.ks.length nc2) 50 (0, 0)) := (bw (g := w.heap.size + 2) QR7 (.int .i64 F.k) (.int .i64 F.n) (.int .i64 F.x.k) (.int .i64 F.x.v.1) (.int .i64 F.x.v.2.1) (.string F.x.v.2.2) (.int .i64 F.x.c) (.slice q2.xa F.x.ks.length q2.xc) (.slice q2.sa F.xs.length q2.sc) (.slice q2.ga F.gs.length q2.gc) (.slice q2.ka o2 q2.kc) (.slice ca2 cl2 cc2) (.slice na2 F.ks.length nc2))
    clear y0 yf0 y1 yf1 y2 yf2 y3 yf3 y4 yf4 y5 yf5 y6 yf6 y7 yf7 y8 yf8 y9 yf9 y10 yf10 y11 yf11 y12 yf12
    unfold df at AP KP QE
    generalize (((((((((((((w7.setCell ⟨w.heap.size + 2, 0, none⟩ (.int .i64 F.k)).setCell ⟨w.heap.size + 2, 1, none⟩ (.int .i64 F.n)).setCell ⟨w.heap.size + 2, 2, none⟩ (.int .i64 F.x.k)).setCell ⟨w.heap.size + 2, 3, none⟩ (.int .i64 F.x.v.1)).setCell ⟨w.heap.size + 2, 4, none⟩ (.int .i64 F.x.v.2.1)).setCell ⟨w.heap.size + 2, 5, none⟩ (.string F.x.v.2.2)).setCell ⟨w.heap.size + 2, 6, none⟩ (.int .i64 F.x.c)).setCell ⟨w.heap.size + 2, 7, none⟩ (.slice q2.xa F.x.ks.length q2.xc)).setCell ⟨w.heap.size + 2, 8, none⟩ (.slice q2.sa F.xs.length q2.sc)).setCell ⟨w.heap.size + 2, 9, none⟩ (.slice q2.ga F.gs.length q2.gc)).setCell ⟨w.heap.size + 2, 10, none⟩ (.slice q2.ka o2 q2.kc)).setCell ⟨w.heap.size + 2, 11, none⟩ (.slice ca2 cl2 cc2)).setCell ⟨w.heap.size + 2, 12, none⟩ (.slice na2 F.ks.length nc2)) = w8 at *
    have FIN : aT ts (eA S w) w8 (.agg (aJ F q2 o2 ca2 cl2 cc2 na2 F.ks.length nc2)) F := by
      refine ⟨q2, o2, ca2, cc2, na2, nc2, by unfold cH bL; rw [HCL2.out], (B7.next KP).mono fun b h _ => ?_⟩
      rcases h with h | h
      · exact .inl h.1
      · exact .inr (by have := A4.size; omega)
    obtain ⟨r0, r1, r2, r3, r4, r5, r6, r7, r8, r9, r10, r11, r12⟩ := aB QE
    exact Hf (v := .agg (aJ F q2 o2 ca2 cl2 cc2 na2 F.ks.length nc2)) (by simp [results, Tryz.results21, go_sem, r0, r1, r2, r3, r4, r5, r6, r7, r8, r9, r10, r11, r12]) rfl ⟨_, rfl, by rw [← HRP.out]; exact FIN, AP⟩
    )
end Go.Proofs.YtjebpkhkjkjphaaGreat
