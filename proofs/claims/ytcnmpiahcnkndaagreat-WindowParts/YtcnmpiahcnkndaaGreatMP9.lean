/- Together: HK1, WindowParts, ZOpen, ZOpen2, XOpen, WOpen, SOpen. -/
import Derived.Deep.Slices
import Derived.Deep.Strs
import Derived.ProofKit
import Derived.OpenShut
import Derived.ChangeOld
import Derived.Lib.SmallJoins
import Derived.SizedLaws
import Derived.Test.YtcnmpiahcnkndaaGreatMP8
import Derived.Test.YtcnmpiahcnkndaaGreatMP5
import Derived.Test.YtcnmpiahcnkndaaGreatMP4
import Derived.Test.YtcnmpiahcnkndaaGreatMP0
import Derived.Test.YtcnmpiahcnkndaaGreatMP2
import Derived.Test.YtcnmpiahcnkndaaGreatMP7
/- Rows without what windows tell of them; WindowKeeps. -/
namespace Go.Proofs.YtcnmpiahcnkndaaGreat
open Go.RowKit Go.Lib Go.Shelf

/-- Rows with weights, with room for their values. -/
def ZsC (W:World) (a:Option Addr) (l:List Zp):Prop:=l = []∨∃ b off,a=some ⟨b,off,none⟩∧b<W.heap.size∧∀ (i:Nat) (h:i<l.length),W.cell? ⟨b,off+i*2+1,none⟩=some (.int .i64 l[i].2)∧∃ ra rc,W.cell? ⟨b,off+i*2,none⟩=some (.slice ra l[i].1.length rc)∧SlAt W ra l[i].1∧l[i].1.length≤rc
theorem ZsC.next {W w1:World} {a:Option Addr} {l:List Zp} (h:ZsC W a l) (hb:Below W.heap.size W w1):ZsC w1 a l:=by
 rcases h with h | ⟨b,off,e,hlt,hr⟩
 ·exact .inl h
 ·refine .inr ⟨b,off,e,Nat.lt_of_lt_of_le hlt hb.size,fun i hi=>?_⟩
  obtain ⟨h1,ra,rc,h2,h3,h4⟩:=hr i hi
  exact ⟨(hb.cell (p:=⟨b,_,none⟩) hlt).trans h1,ra,rc,(hb.cell (p:=⟨b,_,none⟩) hlt).trans h2,h3.next hb,h4⟩
theorem ZsC.elem {W:World} {a:Option Addr} {l:List Zp} (h:ZsC W a l) {k:Nat} (hk:k<l.length):∃ b off ra rc,a=some ⟨b,off,none⟩∧b<W.heap.size∧W.cell? ⟨b,off+k*2+1,none⟩=some (.int .i64 l[k].2)∧W.cell? ⟨b,off+k*2,none⟩=some (.slice ra l[k].1.length rc)∧SlAt W ra l[k].1∧l[k].1.length≤rc:=by
 rcases h with h | ⟨b,off,e,hlt,hr⟩
 ·subst h; simp at hk
 ·obtain ⟨h1,ra,rc,h2,h3,h4⟩:=hr k hk
  exact ⟨b,off,ra,rc,e,hlt,h1,h2,h3,h4⟩
end Go.Proofs.YtcnmpiahcnkndaaGreat
/- tidelaw15.WindowParts. -/
namespace Go.Proofs.YtcnmpiahcnkndaaGreat
open Go.RowKit Go.Lib Go.Shelf

theorem Bk.put6 {W:World} {k:Nat} {x0 x1 x2 x3 x4 x5:Value} {T:TypeId} (h:Bk W k #[x0,x1,x2,x3,x4,x5] T) (u0 u1 u2 u3 u4 u5:Value):Bk ((((((W.setCell ⟨k,0,none⟩ u0).setCell ⟨k,1,none⟩ u1).setCell ⟨k,2,none⟩ u2).setCell ⟨k,3,none⟩ u3).setCell ⟨k,4,none⟩ u4).setCell ⟨k,5,none⟩ u5) k #[u0,u1,u2,u3,u4,u5] T:=by
 have:=(((((h.put 0 u0).put 1 u1).put 2 u2).put 3 u3).put 4 u4).put 5 u5
 simpa using this
theorem Bk.far6 {W:World} {k:Nat} {xs:Array Value} {T:TypeId} (h:Bk W k xs T) {g:Nat} (hp:k≠g) (u0 u1 u2 u3 u4 u5:Value):Bk ((((((W.setCell ⟨g,0,none⟩ u0).setCell ⟨g,1,none⟩ u1).setCell ⟨g,2,none⟩ u2).setCell ⟨g,3,none⟩ u3).setCell ⟨g,4,none⟩ u4).setCell ⟨g,5,none⟩ u5) k xs T :=
 (((((h.far (p:=⟨g,0,none⟩) hp u0).far (p:=⟨g,1,none⟩) hp u1).far (p:=⟨g,2,none⟩) hp u2).far (p:=⟨g,3,none⟩) hp u3).far (p:=⟨g,4,none⟩) hp u4).far (p:=⟨g,5,none⟩) hp u5
theorem put6_below {B:Nat} {w W:World} {k:Nat} (u0 u1 u2 u3 u4 u5:Value) (h:Below B w W) (hk:B≤k):Below B w ((((((W.setCell ⟨k,0,none⟩ u0).setCell ⟨k,1,none⟩ u1).setCell ⟨k,2,none⟩ u2).setCell ⟨k,3,none⟩ u3).setCell ⟨k,4,none⟩ u4).setCell ⟨k,5,none⟩ u5) :=
 (((((h.setCell (p:=⟨k,0,none⟩) hk _).setCell (p:=⟨k,1,none⟩) hk _).setCell (p:=⟨k,2,none⟩) hk _).setCell (p:=⟨k,3,none⟩) hk _).setCell (p:=⟨k,4,none⟩) hk _).setCell (p:=⟨k,5,none⟩) hk _
theorem bk_ne {W:World} {a b:Nat} {xs ys:Array Value} {T U:TypeId} (h:Bk W a xs T) (k:Bk W b ys U) (hs:xs.size≠ys.size):a≠b:=fun e=>by
 subst e
 have:=h.symm.trans k
 injection this with this
 injection this with this _ _
 exact hs (congrArg Array.size this)
theorem wp_cutA {P:Program} {c:Code} {Q:Exit→Act→World→Prop} {a:Act} {w:World} (R:Act→Act→World→Prop) (h:c.wp P (fun e a' w'=>e = .normal∧R a a' w') a w) (hq:∀ a' w',R a a' w'→Q .normal a' w'):c.wp P Q a w :=
 Code.wp_mono (fun e a' w' q=>by obtain ⟨rfl,r⟩:=q; exact hq a' w' r) h
theorem ks_two {W:World} {b:Nat} {key:Int} {v:Vl} (h:Bk W b #[.int .i64 2,.int .i64 0,.int .i64 0,.string ⟨#[]⟩,.int .i64 key,.slice none 0 0,.int .i64 1,.int .i64 v.1,.int .i64 v.2.1,.string v.2.2,.int .i64 0,.slice none 0 0] 40):KsAt W.heap.size W (some ⟨b,0,none⟩) [kX key,.mk 1 v 0 []]:=by
 refine .some b 0 _ (fun _=>none) (fun _=>0) h.lt (fun i hi=>?_) (fun i hi=>?_)
 ·match i,hi with
  | 0,_=>exact ⟨h.cell 0 rfl,h.cell 1 rfl,h.cell 2 rfl,h.cell 3 rfl,h.cell 4 rfl,h.cell 5 rfl⟩
  | 1,_=>exact ⟨h.cell 6 rfl,h.cell 7 rfl,h.cell 8 rfl,h.cell 9 rfl,h.cell 10 rfl,h.cell 11 rfl⟩
 ·match i,hi with
  | 0,_=>exact .nil _
  | 1,_=>exact .nil _
theorem holds_bare {key:Int} {v:Vl} {r:List Vl} {a:Vl} (ha:r.getD key.toNat vl0=a) (hb:bareP a=a):holdsP (isX key v) r=(cls (tk (eqT a.1 a.2.1 a.2.2 v.1 v.2.1 v.2.2)) (tn (eqT a.1 a.2.1 a.2.2 v.1 v.2.1 v.2.2)) == some true):=by
 rw [holds_is,ha,hb]
 have e:eqP a (bareP v)=eqP a v:=by
  unfold eqP eqT
  have h1:(bareP v).1=v.1:=rfl
  have h2:cmpP a (bareP v)=cmpP a v:=by have:=cmpP_bare v a; have h3:=cmpP_neg a v; have h4:=cmpP_neg a (bareP v); omega
  unfold cmpP at h2
  rw [h1] at h2 ⊢
  rw [h2]
 rw [e]; rfl
theorem right_at {l:List Vl} (h:wrongRowF l=0) {k:Nat} (hk:k<l.length):wrongP l[k]=0:=by
 have:=((wrongRowF_zero l).1 h).2
 unfold rightB at this
 rw [List.all_eq_true] at this
 have:=this l[k] (List.getElem_mem hk)
 simpa [wrongP] using this
theorem tru_tri (o:Option Bool):Tru (tk o) (tn o):=by rcases o with _ | _ | _ <;> simp [Tru,tk,tn]

set_option maxRecDepth 100000 in
set_option maxHeartbeats 16000000 in
theorem windowParts_walk (ca:Option Addr) (ccap:Nat) (cols:List Int) (key:Int) (oa:Option Addr) (ocap:Nat) (os:List Ex) (ga:Option Addr) (gcap:Nat) (gs:List Ag) (a:Option Addr) (cap:Nat) (l:List Zp) (v:Vl) (w:World) (hc:IsAt w.heap.size w ca cols) (kl:-9223372036854775808≤key) (kh:key≤9223372036854775807) (ho:KsAt w.heap.size w oa os) (hg:AgAt w.heap.size w ga gs) (h:ZsAt w a l) (_nl:a=none→cap=0) (s0:cols.length≤100000000000000) (s3:gs.length≤100000000000000) :
  Calls Tryz.prog 5 #[.slice ca cols.length ccap,.int .i64 key,.slice oa os.length ocap,.slice ga gs.length gcap,.slice a l.length cap,.agg #[.int .i64 v.1,.int .i64 v.2.1,.string v.2.2]] w fun e w'=>e = .returned (.bool true)∧Below w.heap.size w w':=by
 have n0:=(Below.refl w.heap.size w).alloc (Nat.le_refl _) (.cells #[.int .i64 v.1,.int .i64 v.2.1,.string v.2.2] 38)
 have V0:=Bk.new w #[.int .i64 v.1,.int .i64 v.2.1,.string v.2.2] 38
 go_enter Tryz.func5,Tryz.ntmps5
 go_wp2_with fail
 generalize w.alloc (.cells #[.int .i64 v.1,.int .i64 v.2.1,.string v.2.2] 38)=w0 at *
 refine (alive15_at w0).mono ?_
 rintro e w1 ⟨rfl,hb1⟩
 have V1:=V0.next hb1
 have A1:=chain n0 hb1
 have v0:=V1.cell 0 rfl
 clear V0
 by_cases k0:key<0
 ·have t0:decide (key<0)=true:=decide_eq_true k0
  clear k0
  go_wp2_with fail
  go_ret
  exact ⟨rfl,A1⟩
 have t0:decide (key<0)=false:=decide_eq_false k0
 by_cases k1:(cols.length:Int)≤key
 ·have t1:decide ((cols.length:Int)≤key)=true:=decide_eq_true k1
  clear k0 k1
  go_wp2_with fail
  go_ret
  exact ⟨rfl,A1⟩
 have t1:decide ((cols.length:Int)≤key)=false:=decide_eq_false k1
 have hk0:0≤key:=by omega
 have hk1:key<cols.length:=by omega
 clear k0 k1
 by_cases kv:v.1=1
 ·have t2:(v.1 == 1)=true:=by simpa using kv
  clear kv
  go_wp2_with fail
  go_ret
  exact ⟨rfl,A1⟩
 have t2:(v.1 == 1)=false:=by simpa using kv
 clear kv
 go_upto_region 5 with fail
 clear t0 t1 t2 v0
 refine wp_cutA (fun a a' w'=>∃ KB BX:Nat,a'=((((((a.put (some 37) (.int .i64 key)).put (some 38) (.agg #[.int .i64 2,.int .i64 0,.int .i64 0,.string ⟨#[]⟩,.int .i64 key,.slice none 0 0])).put (some 39) (.agg #[.int .i64 v.1,.int .i64 v.2.1,.string v.2.2])).put (some 40) (.agg #[.int .i64 1,.int .i64 v.1,.int .i64 v.2.1,.string v.2.2,.int .i64 0,.slice none 0 0])).put (some 41) (.slice (some ⟨KB,0,none⟩) 2 2)).put (some 42) (.agg #[.int .i64 6,.int .i64 0,.int .i64 0,.string ⟨#[]⟩,.int .i64 0,.slice (some ⟨KB,0,none⟩) 2 2])).put (some 13) (.pointer (some ⟨BX,0,none⟩))∧Below w1.heap.size w1 w'∧Bk w' KB #[.int .i64 2,.int .i64 0,.int .i64 0,.string ⟨#[]⟩,.int .i64 key,.slice none 0 0,.int .i64 1,.int .i64 v.1,.int .i64 v.2.1,.string v.2.2,.int .i64 0,.slice none 0 0] 40∧Bk w' BX #[.int .i64 6,.int .i64 0,.int .i64 0,.string ⟨#[]⟩,.int .i64 0,.slice (some ⟨KB,0,none⟩) 2 2] 40) ?_ ?_
 ·have hCC:∀ X X':World,Bk X w.heap.size #[.int .i64 v.1,.int .i64 v.2.1,.string v.2.2] 38→Below X.heap.size X X'→Bk X' w.heap.size #[.int .i64 v.1,.int .i64 v.2.1,.string v.2.2] 38:=fun X X' h hb=>h.next hb
  have hdr:Below w1.heap.size w1 w1.drew:=(Below.refl _ _).drew
  have CW:=hCC _ _ V1 hdr
  refine wp_region_cls (fun X=>Bk X w.heap.size #[.int .i64 v.1,.int .i64 v.2.1,.string v.2.2] 38) (by kernel_rfl) ?_
  refine wpY_take hCC (some 37) (i:=0) (v:=.int .i64 key) rfl rfl (by kernel_rfl) (by kernel_rfl) (by kernel_rfl) (fun _ _ _ h=>by cases h.1) (Or.inl ⟨rfl,fun nn hn=>?_⟩) CW ?_
  ·go_simp
  (try simp only [Act.put,pA,pB,pC])
  refine wpY_take hCC (some 39) (i:=2) (v:=.agg #[.int .i64 v.1,.int .i64 v.2.1,.string v.2.2]) rfl rfl (by kernel_rfl) (by kernel_rfl) (by kernel_rfl) (fun _ _ _ h=>by cases h.1) (Or.inl ⟨rfl,fun nn hn=>?_⟩) CW ?_
  ·have c0:=hn.cell 0 rfl
   have c1:=hn.cell 1 rfl
   have c2:=hn.cell 2 rfl
   go_simp
  (try simp only [Act.put,pA,pB,pC])
  refine wpY_take hCC (some 40) (i:=3) (v:=.agg #[.int .i64 1,.int .i64 v.1,.int .i64 v.2.1,.string v.2.2,.int .i64 0,.slice none 0 0]) rfl rfl (by kernel_rfl) (by kernel_rfl) (by kernel_rfl) (fun _ _ _ h=>by cases h.1) (Or.inl ⟨rfl,fun nn hn=>?_⟩) CW ?_
  ·go_simp
  (try simp only [Act.put,pA,pB,pC])
  refine wpY_step (rs:=[1,6]) (by kernel_rfl) (by simp) ?_
  intro x1 hx1 jj hj
  have C1:=hCC _ _ CW hx1
  have D1:=chain hdr hx1
  rcases (show jj=1∨jj=6 by simpa using hj) with rfl | rfl
  ·clear hj
   refine wpOp_step rfl (fun K hK=>?_)
   go_simp
   refine (col_at key x1).mono ?_
   rintro e x2 ⟨rfl,hx2⟩
   have C2:=hCC _ _ C1 hx2
   have D2:=chain D1 hx2
   unfold exV vl0
   refine hK _ _ ⟨C2,?_⟩
   clear hK K
   (try simp only [])
   refine wpY_step (rs:=[4,6]) (by kernel_rfl) (by simp) ?_
   intro x3 hx3 jj hj
   have C3:=hCC _ _ C2 hx3
   have D3:=chain D2 hx3
   rcases (show jj=4∨jj=6 by simpa using hj) with rfl | rfl
   ·clear hj
    refine wpOp_step rfl (fun K hK=>?_)
    go_simp
    have hx4:Below x3.heap.size x3 (x3.alloc (.cells #[.int .i64 2,.int .i64 0,.int .i64 0,.string ⟨#[]⟩,.int .i64 key,.slice none 0 0,.int .i64 1,.int .i64 v.1,.int .i64 v.2.1,.string v.2.2,.int .i64 0,.slice none 0 0] 40)):=(Below.refl _ _).alloc (Nat.le_refl _) _
    have N4:=Bk.new x3 #[.int .i64 2,.int .i64 0,.int .i64 0,.string ⟨#[]⟩,.int .i64 key,.slice none 0 0,.int .i64 1,.int .i64 v.1,.int .i64 v.2.1,.string v.2.2,.int .i64 0,.slice none 0 0] 40
    have C4:=hCC _ _ C3 hx4
    have le4:w1.heap.size≤x3.heap.size:=D3.size
    have D4:=chain D3 hx4
    refine hK _ _ ⟨C4,?_⟩
    clear hK K
    generalize x3.alloc (.cells #[.int .i64 2,.int .i64 0,.int .i64 0,.string ⟨#[]⟩,.int .i64 key,.slice none 0 0,.int .i64 1,.int .i64 v.1,.int .i64 v.2.1,.string v.2.2,.int .i64 0,.slice none 0 0] 40)=x4 at *
    (try simp only [Act.put,pA,pB,pC])
    refine wpY_take hCC (some 42) (i:=5) (v:=.agg #[.int .i64 6,.int .i64 0,.int .i64 0,.string ⟨#[]⟩,.int .i64 0,.slice (some ⟨x3.heap.size,0,none⟩) 2 2]) rfl rfl (by kernel_rfl) (by kernel_rfl) (by kernel_rfl) (fun _ _ _ h=>by cases h.1) (Or.inl ⟨rfl,fun nn hn=>?_⟩) C4 ?_
    ·go_simp
    (try simp only [Act.put,pA,pB,pC])
    refine wpY_step (rs:=[6]) (by kernel_rfl) (by simp) ?_
    intro x5 hx5 jj hj
    have C5:=hCC _ _ C4 hx5
    have D5:=chain D4 hx5
    have K5:=N4.next hx5
    obtain rfl:jj=6:=by simpa using hj
    clear hj
    refine wpOp_step rfl (fun K hK=>?_)
    go_simp
    have hx6:Below x5.heap.size x5 (x5.alloc (.cells #[.int .i64 0,.int .i64 0,.int .i64 0,.string ⟨#[]⟩,.int .i64 0,.slice none 0 0] 40)):=(Below.refl _ _).alloc (Nat.le_refl _) _
    have N6:=Bk.new x5 #[.int .i64 0,.int .i64 0,.int .i64 0,.string ⟨#[]⟩,.int .i64 0,.slice none 0 0] 40
    have C6:=hCC _ _ C5 hx6
    have le6:w1.heap.size≤x5.heap.size:=D5.size
    have D6:=chain D5 hx6
    have K6:=K5.next hx6
    refine hK _ _ ⟨C6,?_⟩
    clear hK K
    generalize x5.alloc (.cells #[.int .i64 0,.int .i64 0,.int .i64 0,.string ⟨#[]⟩,.int .i64 0,.slice none 0 0] 40)=x6 at *
    (try simp only [Act.put,pA,pB,pC])
    refine wpY_step (rs:=[7]) (by kernel_rfl) (by simp) ?_
    intro x7 hx7 jj hj
    have C7:=hCC _ _ C6 hx7
    have D7:=chain D6 hx7
    have K7:=K6.next hx7
    have X7:=N6.next hx7
    obtain rfl:jj=7:=by simpa using hj
    clear hj
    have c0:=X7.cell 0 rfl
    have c1:=X7.cell 1 rfl
    have c2:=X7.cell 2 rfl
    have c3:=X7.cell 3 rfl
    have c4:=X7.cell 4 rfl
    have c5:=X7.cell 5 rfl
    have f0:=X7.frozen 0
    have f1:=X7.frozen 1
    have f2:=X7.frozen 2
    have f3:=X7.frozen 3
    have f4:=X7.frozen 4
    have f5:=X7.frozen 5
    refine wpOp_step rfl (fun K hK=>?_)
    go_simp
    clear c0 c1 c2 c3 c4 c5 f0 f1 f2 f3 f4 f5
    have S:=Bk.put6 X7 (.int .i64 6) (.int .i64 0) (.int .i64 0) (.string ⟨#[]⟩) (.int .i64 0) (.slice (some ⟨x3.heap.size,0,none⟩) 2 2)
    have KK:=Bk.far6 K7 (bk_ne K7 X7 (by simp)) (.int .i64 6) (.int .i64 0) (.int .i64 0) (.string ⟨#[]⟩) (.int .i64 0) (.slice (some ⟨x3.heap.size,0,none⟩) 2 2)
    have CC:=Bk.far6 C7 (bk_ne C7 X7 (by simp)) (.int .i64 6) (.int .i64 0) (.int .i64 0) (.string ⟨#[]⟩) (.int .i64 0) (.slice (some ⟨x3.heap.size,0,none⟩) 2 2)
    have DD:=put6_below (.int .i64 6) (.int .i64 0) (.int .i64 0) (.string ⟨#[]⟩) (.int .i64 0) (.slice (some ⟨x3.heap.size,0,none⟩) 2 2) D7 le6
    refine hK _ _ ⟨CC,?_⟩
    clear hK K
    refine wpY_done (by kernel_rfl) ?_
    intro y hy
    exact ⟨rfl,x3.heap.size,x5.heap.size,rfl,chain DD hy,KK.next hy,S.next hy⟩
   ·clear hj
    refine wpOp_step rfl (fun K hK=>?_)
    go_simp
    have hx4:Below x3.heap.size x3 (x3.alloc (.cells #[.int .i64 0,.int .i64 0,.int .i64 0,.string ⟨#[]⟩,.int .i64 0,.slice none 0 0] 40)):=(Below.refl _ _).alloc (Nat.le_refl _) _
    have N4:=Bk.new x3 #[.int .i64 0,.int .i64 0,.int .i64 0,.string ⟨#[]⟩,.int .i64 0,.slice none 0 0] 40
    have C4:=hCC _ _ C3 hx4
    have le4:w1.heap.size≤x3.heap.size:=D3.size
    have D4:=chain D3 hx4
    refine hK _ _ ⟨C4,?_⟩
    clear hK K
    generalize x3.alloc (.cells #[.int .i64 0,.int .i64 0,.int .i64 0,.string ⟨#[]⟩,.int .i64 0,.slice none 0 0] 40)=x4 at *
    (try simp only [Act.put,pA,pB,pC])
    refine wpY_step (rs:=[4]) (by kernel_rfl) (by simp) ?_
    intro x5 hx5 jj hj
    have C5:=hCC _ _ C4 hx5
    have D5:=chain D4 hx5
    have X5:=N4.next hx5
    obtain rfl:jj=4:=by simpa using hj
    clear hj
    refine wpOp_step rfl (fun K hK=>?_)
    go_simp
    have hx6:Below x5.heap.size x5 (x5.alloc (.cells #[.int .i64 2,.int .i64 0,.int .i64 0,.string ⟨#[]⟩,.int .i64 key,.slice none 0 0,.int .i64 1,.int .i64 v.1,.int .i64 v.2.1,.string v.2.2,.int .i64 0,.slice none 0 0] 40)):=(Below.refl _ _).alloc (Nat.le_refl _) _
    have N6:=Bk.new x5 #[.int .i64 2,.int .i64 0,.int .i64 0,.string ⟨#[]⟩,.int .i64 key,.slice none 0 0,.int .i64 1,.int .i64 v.1,.int .i64 v.2.1,.string v.2.2,.int .i64 0,.slice none 0 0] 40
    have C6:=hCC _ _ C5 hx6
    have le6:w1.heap.size≤x5.heap.size:=D5.size
    have D6:=chain D5 hx6
    have X6:=X5.next hx6
    refine hK _ _ ⟨C6,?_⟩
    clear hK K
    generalize x5.alloc (.cells #[.int .i64 2,.int .i64 0,.int .i64 0,.string ⟨#[]⟩,.int .i64 key,.slice none 0 0,.int .i64 1,.int .i64 v.1,.int .i64 v.2.1,.string v.2.2,.int .i64 0,.slice none 0 0] 40)=x6 at *
    (try simp only [Act.put,pA,pB,pC])
    refine wpY_take hCC (some 42) (i:=5) (v:=.agg #[.int .i64 6,.int .i64 0,.int .i64 0,.string ⟨#[]⟩,.int .i64 0,.slice (some ⟨x5.heap.size,0,none⟩) 2 2]) rfl rfl (by kernel_rfl) (by kernel_rfl) (by kernel_rfl) (fun _ _ _ h=>by cases h.1) (Or.inl ⟨rfl,fun nn hn=>?_⟩) C6 ?_
    ·go_simp
    (try simp only [Act.put,pA,pB,pC])
    refine wpY_step (rs:=[7]) (by kernel_rfl) (by simp) ?_
    intro x7 hx7 jj hj
    have C7:=hCC _ _ C6 hx7
    have D7:=chain D6 hx7
    have K7:=N6.next hx7
    have X7:=X6.next hx7
    obtain rfl:jj=7:=by simpa using hj
    clear hj
    have c0:=X7.cell 0 rfl
    have c1:=X7.cell 1 rfl
    have c2:=X7.cell 2 rfl
    have c3:=X7.cell 3 rfl
    have c4:=X7.cell 4 rfl
    have c5:=X7.cell 5 rfl
    have f0:=X7.frozen 0
    have f1:=X7.frozen 1
    have f2:=X7.frozen 2
    have f3:=X7.frozen 3
    have f4:=X7.frozen 4
    have f5:=X7.frozen 5
    refine wpOp_step rfl (fun K hK=>?_)
    go_simp
    clear c0 c1 c2 c3 c4 c5 f0 f1 f2 f3 f4 f5
    have S:=Bk.put6 X7 (.int .i64 6) (.int .i64 0) (.int .i64 0) (.string ⟨#[]⟩) (.int .i64 0) (.slice (some ⟨x5.heap.size,0,none⟩) 2 2)
    have KK:=Bk.far6 K7 (bk_ne K7 X7 (by simp)) (.int .i64 6) (.int .i64 0) (.int .i64 0) (.string ⟨#[]⟩) (.int .i64 0) (.slice (some ⟨x5.heap.size,0,none⟩) 2 2)
    have CC:=Bk.far6 C7 (bk_ne C7 X7 (by simp)) (.int .i64 6) (.int .i64 0) (.int .i64 0) (.string ⟨#[]⟩) (.int .i64 0) (.slice (some ⟨x5.heap.size,0,none⟩) 2 2)
    have DD:=put6_below (.int .i64 6) (.int .i64 0) (.int .i64 0) (.string ⟨#[]⟩) (.int .i64 0) (.slice (some ⟨x5.heap.size,0,none⟩) 2 2) D7 le4
    refine hK _ _ ⟨CC,?_⟩
    clear hK K
    refine wpY_done (by kernel_rfl) ?_
    intro y hy
    exact ⟨rfl,x5.heap.size,x3.heap.size,rfl,chain DD hy,KK.next hy,S.next hy⟩
  ·clear hj
   refine wpOp_step rfl (fun K hK=>?_)
   go_simp
   have hx2:Below x1.heap.size x1 (x1.alloc (.cells #[.int .i64 0,.int .i64 0,.int .i64 0,.string ⟨#[]⟩,.int .i64 0,.slice none 0 0] 40)):=(Below.refl _ _).alloc (Nat.le_refl _) _
   have N2:=Bk.new x1 #[.int .i64 0,.int .i64 0,.int .i64 0,.string ⟨#[]⟩,.int .i64 0,.slice none 0 0] 40
   have C2:=hCC _ _ C1 hx2
   have le2:w1.heap.size≤x1.heap.size:=D1.size
   have D2:=chain D1 hx2
   refine hK _ _ ⟨C2,?_⟩
   clear hK K
   generalize x1.alloc (.cells #[.int .i64 0,.int .i64 0,.int .i64 0,.string ⟨#[]⟩,.int .i64 0,.slice none 0 0] 40)=x2 at *
   (try simp only [Act.put,pA,pB,pC])
   refine wpY_step (rs:=[1]) (by kernel_rfl) (by simp) ?_
   intro x3 hx3 jj hj
   have C3:=hCC _ _ C2 hx3
   have D3:=chain D2 hx3
   have X3:=N2.next hx3
   obtain rfl:jj=1:=by simpa using hj
   clear hj
   refine wpOp_step rfl (fun K hK=>?_)
   go_simp
   refine (col_at key x3).mono ?_
   rintro e x4 ⟨rfl,hx4⟩
   have C4:=hCC _ _ C3 hx4
   have D4:=chain D3 hx4
   have X4:=X3.next hx4
   unfold exV vl0
   refine hK _ _ ⟨C4,?_⟩
   clear hK K
   (try simp only [])
   refine wpY_step (rs:=[4]) (by kernel_rfl) (by simp) ?_
   intro x5 hx5 jj hj
   have C5:=hCC _ _ C4 hx5
   have D5:=chain D4 hx5
   have X5:=X4.next hx5
   obtain rfl:jj=4:=by simpa using hj
   clear hj
   refine wpOp_step rfl (fun K hK=>?_)
   go_simp
   have hx6:Below x5.heap.size x5 (x5.alloc (.cells #[.int .i64 2,.int .i64 0,.int .i64 0,.string ⟨#[]⟩,.int .i64 key,.slice none 0 0,.int .i64 1,.int .i64 v.1,.int .i64 v.2.1,.string v.2.2,.int .i64 0,.slice none 0 0] 40)):=(Below.refl _ _).alloc (Nat.le_refl _) _
   have N6:=Bk.new x5 #[.int .i64 2,.int .i64 0,.int .i64 0,.string ⟨#[]⟩,.int .i64 key,.slice none 0 0,.int .i64 1,.int .i64 v.1,.int .i64 v.2.1,.string v.2.2,.int .i64 0,.slice none 0 0] 40
   have C6:=hCC _ _ C5 hx6
   have le6:w1.heap.size≤x5.heap.size:=D5.size
   have D6:=chain D5 hx6
   have X6:=X5.next hx6
   refine hK _ _ ⟨C6,?_⟩
   clear hK K
   generalize x5.alloc (.cells #[.int .i64 2,.int .i64 0,.int .i64 0,.string ⟨#[]⟩,.int .i64 key,.slice none 0 0,.int .i64 1,.int .i64 v.1,.int .i64 v.2.1,.string v.2.2,.int .i64 0,.slice none 0 0] 40)=x6 at *
   (try simp only [Act.put,pA,pB,pC])
   refine wpY_take hCC (some 42) (i:=5) (v:=.agg #[.int .i64 6,.int .i64 0,.int .i64 0,.string ⟨#[]⟩,.int .i64 0,.slice (some ⟨x5.heap.size,0,none⟩) 2 2]) rfl rfl (by kernel_rfl) (by kernel_rfl) (by kernel_rfl) (fun _ _ _ h=>by cases h.1) (Or.inl ⟨rfl,fun nn hn=>?_⟩) C6 ?_
   ·go_simp
   (try simp only [Act.put,pA,pB,pC])
   refine wpY_step (rs:=[7]) (by kernel_rfl) (by simp) ?_
   intro x7 hx7 jj hj
   have C7:=hCC _ _ C6 hx7
   have D7:=chain D6 hx7
   have K7:=N6.next hx7
   have X7:=X6.next hx7
   obtain rfl:jj=7:=by simpa using hj
   clear hj
   have c0:=X7.cell 0 rfl
   have c1:=X7.cell 1 rfl
   have c2:=X7.cell 2 rfl
   have c3:=X7.cell 3 rfl
   have c4:=X7.cell 4 rfl
   have c5:=X7.cell 5 rfl
   have f0:=X7.frozen 0
   have f1:=X7.frozen 1
   have f2:=X7.frozen 2
   have f3:=X7.frozen 3
   have f4:=X7.frozen 4
   have f5:=X7.frozen 5
   refine wpOp_step rfl (fun K hK=>?_)
   go_simp
   clear c0 c1 c2 c3 c4 c5 f0 f1 f2 f3 f4 f5
   have S:=Bk.put6 X7 (.int .i64 6) (.int .i64 0) (.int .i64 0) (.string ⟨#[]⟩) (.int .i64 0) (.slice (some ⟨x5.heap.size,0,none⟩) 2 2)
   have KK:=Bk.far6 K7 (bk_ne K7 X7 (by simp)) (.int .i64 6) (.int .i64 0) (.int .i64 0) (.string ⟨#[]⟩) (.int .i64 0) (.slice (some ⟨x5.heap.size,0,none⟩) 2 2)
   have CC:=Bk.far6 C7 (bk_ne C7 X7 (by simp)) (.int .i64 6) (.int .i64 0) (.int .i64 0) (.string ⟨#[]⟩) (.int .i64 0) (.slice (some ⟨x5.heap.size,0,none⟩) 2 2)
   have DD:=put6_below (.int .i64 6) (.int .i64 0) (.int .i64 0) (.string ⟨#[]⟩) (.int .i64 0) (.slice (some ⟨x5.heap.size,0,none⟩) 2 2) D7 le2
   refine hK _ _ ⟨CC,?_⟩
   clear hK K
   refine wpY_done (by kernel_rfl) ?_
   intro y hy
   exact ⟨rfl,x5.heap.size,x1.heap.size,rfl,chain DD hy,KK.next hy,S.next hy⟩
 ·rintro a' w5 ⟨KB,BX,rfl,hb5,K5,X5⟩
  (try simp only [Act.put,pA,pB,pC])
  have A5:=chain A1 hb5
  have V5:=V1.next hb5
  clear V1 hb5 hb1 n0
  go_wp2_with fail
  refine (col_at key w5).mono ?_
  rintro e w6 ⟨rfl,hb6⟩
  unfold exV vl0
  have E7:=Bk.new w6 #[.int .i64 2,.int .i64 0,.int .i64 0,.string ⟨#[]⟩,.int .i64 key,.slice none 0 0] 40
  have n7:=(Below.refl w6.heap.size w6).alloc (Nat.le_refl _) (.cells #[.int .i64 2,.int .i64 0,.int .i64 0,.string ⟨#[]⟩,.int .i64 key,.slice none 0 0] 40)
  go_wp2_with fail
  have A7:=chain (chain A5 hb6) n7
  have V7:=(V5.next hb6).next n7
  have K7:=(K5.next hb6).next n7
  have X7:=(X5.next hb6).next n7
  clear V5 K5 X5
  generalize w6.alloc (.cells #[.int .i64 2,.int .i64 0,.int .i64 0,.string ⟨#[]⟩,.int .i64 key,.slice none 0 0] 40)=w7 at *
  have con:Calls Tryz.prog 9 #[.slice ca cols.length ccap,.slice (some ⟨w6.heap.size,0,none⟩) 1 1,.slice oa os.length ocap,.slice ga gs.length gcap,.slice a l.length cap] w7 fun e w'=>∃ v',e = .returned (.tuple #[v',.int .i64 (windowE cols [kX key] os gs l)])∧OwnZ w7.heap.size w' v' (windowZ cols [kX key] os gs l)∧Below w7.heap.size w7 w' :=
   window_at cols [kX key] os gs (by omega) ca ccap _ 1 oa ocap ga gcap a cap l w7 ((hc.next A7 (Nat.le_refl _)).up A7.size) (ks_one (v:=vl0) E7) ((KsAt.next A7 (Nat.le_refl _) ho).up A7.size) ((AgAt.next A7 (Nat.le_refl _) hg).up A7.size) (h.next A7)
  generalize hE:windowE cols [kX key] os gs l=e1 at con
  generalize hZ:windowZ cols [kX key] os gs l=z1 at con
  have HE:Hid (windowE cols [kX key] os gs l=e1):=hE
  have HZ:Hid (windowZ cols [kX key] os gs l=z1):=hZ
  clear hE hZ E7 n7 hb6
  refine con.mono ?_
  rintro e w8 ⟨v8,rfl,O8,hb8⟩
  have A8:=chain A7 hb8
  have V8:=V7.next hb8
  have K8:=K7.next hb8
  have X8:=X7.next hb8
  obtain ⟨a8,c8,rfl,zs8⟩:=O8.zs
  clear con O8 V7 K7 X7 A5 A7
  have x0:=X8.cell 0 rfl
  have x1:=X8.cell 1 rfl
  have x2:=X8.cell 2 rfl
  have x3:=X8.cell 3 rfl
  have x4:=X8.cell 4 rfl
  have x5:=X8.cell 5 rfl
  go_wp2_with fail
  clear x0 x1 x2 x3 x4 x5 X8
  have con:Calls Tryz.prog 14 #[.slice ca cols.length ccap,.agg #[.int .i64 6,.int .i64 0,.int .i64 0,.string ⟨#[]⟩,.int .i64 0,.slice (some ⟨KB,0,none⟩) 2 2],.slice a l.length cap] w8 fun e w'=>∃ v',e = .returned (.tuple #[v',.int .i64 (filtE cols (isX key v) l)])∧OwnZ w8.heap.size w' v' (filtZ cols (isX key v) l)∧Below w8.heap.size w8 w' :=
   filter_at cols (isX key v) ca ccap (some ⟨KB,0,none⟩) 2 a cap l w8 ((hc.next A8 (Nat.le_refl _)).up A8.size) (ks_two K8) (h.next A8)
  generalize hE:filtE cols (isX key v) l=e2 at con
  generalize hZ:filtZ cols (isX key v) l=z2 at con
  have HE2:Hid (filtE cols (isX key v) l=e2):=hE
  have HZ2:Hid (filtZ cols (isX key v) l=z2):=hZ
  clear hE hZ K8
  refine con.mono ?_
  rintro e w9 ⟨v9,rfl,O9,hb9⟩
  have A9:=chain A8 hb9
  have V9:=V8.next hb9
  obtain ⟨a9,c9,rfl,zs9⟩:=O9.zs
  have zs8:=zs8.next hb9
  clear con O9 V8
  dsimp only
  by_cases h0:e1=0
  ·by_cases h1:e2=0
   ·have hok:windowE cols [kX key] os gs l=0:=by rw [HE.out]; exact h0
    have hok2:filtE cols (isX key v) l=0:=by rw [HE2.out]; exact h1
    subst h0 h1
    obtain ⟨p1,p2⟩:=parts_ok hk0 hk1 hok hok2
    rw [HZ2.out] at p1 p2
    rw [HZ.out] at p2
    have hrows:=window_rows hok
    rw [HZ.out] at hrows
    have HR:Hid (∀ y ∈ z1,y.1.length=cols.length+gs.length∧wrongRowF y.1=0):=hrows
    have hset:IsSet z1:=by rw [← HZ.out,windowZ_eq hok]; exact canon_set _
    have HB:Hid (IsSet z1):=hset
    have hww:=window_wrong hok
    rw [HZ.out] at hww
    have hl4:=((wrongZ_iff _).1 hww).1
    have P1:Hid (windowE cols [kX key] os gs z2=0):=p1
    have P2:Hid (windowZ cols [kX key] os gs z2=z1.filter fun y=>holdsP (isX key v) y.1):=p2
    clear hok hok2 hrows hset hww p1 p2
    go_wp2_with fail
    refine (col_at key w9).mono ?_
    rintro e w10 ⟨rfl,hb10⟩
    unfold exV vl0
    have E7:=Bk.new w10 #[.int .i64 2,.int .i64 0,.int .i64 0,.string ⟨#[]⟩,.int .i64 key,.slice none 0 0] 40
    have n7:=(Below.refl w10.heap.size w10).alloc (Nat.le_refl _) (.cells #[.int .i64 2,.int .i64 0,.int .i64 0,.string ⟨#[]⟩,.int .i64 key,.slice none 0 0] 40)
    go_wp2_with fail
    have B11:=chain hb10 n7
    have A11:=chain A9 B11
    have V11:=V9.next B11
    have zs8:=zs8.next B11
    have zs9:=zs9.next B11
    clear V9
    generalize w10.alloc (.cells #[.int .i64 2,.int .i64 0,.int .i64 0,.string ⟨#[]⟩,.int .i64 key,.slice none 0 0] 40)=w11 at *
    have con:Calls Tryz.prog 9 #[.slice ca cols.length ccap,.slice (some ⟨w10.heap.size,0,none⟩) 1 1,.slice oa os.length ocap,.slice ga gs.length gcap,.slice a9 z2.length c9] w11 fun e w'=>∃ v',e = .returned (.tuple #[v',.int .i64 (windowE cols [kX key] os gs z2)])∧OwnZ w11.heap.size w' v' (windowZ cols [kX key] os gs z2)∧Below w11.heap.size w11 w' :=
     window_at cols [kX key] os gs (by omega) ca ccap _ 1 oa ocap ga gcap a9 c9 z2 w11 ((hc.next A11 (Nat.le_refl _)).up A11.size) (ks_one (v:=vl0) E7) ((KsAt.next A11 (Nat.le_refl _) ho).up A11.size) ((AgAt.next A11 (Nat.le_refl _) hg).up A11.size) zs9
    rw [P1.out,P2.out] at con
    clear E7 n7 hb10 B11 zs9 P1 P2
    refine con.mono ?_
    rintro e wb ⟨v12,rfl,O12,hb12⟩
    have A12:=chain A11 hb12
    have V12:=V11.next hb12
    have zs8:=zs8.next hb12
    obtain ⟨a12,c12,rfl,zs12⟩:=O12.zs
    clear con O12 V11 hb12 A11 A9 A8 A1 hb8 hb9
    obtain ⟨i0,hi,hj0,hj1,hj2⟩:=info_parts Tryz.info42
    dsimp only
    go_wp2_with fail
    go_loopw [19,80] (fun u i wr=>∃ k:Nat,k≤z1.length∧i = .int .i64 k∧OwnB wb wb.heap.size wr u ((z1.take k).filter fun y=>holdsP (isX key v) y.1)∧Below wb.heap.size wb wr) (fun _ i _=>z1.length - (intOf i).toNat)
    case atStart=>exact ⟨0,Nat.zero_le _,rfl,⟨[],by simpa using World.ownsRow_nil _ _ _ _,by simp [EncB]⟩,Below.refl _ _⟩
    case round =>
     obtain ⟨k,hk,rfl,HO,hb⟩:=hrel
     by_cases hlt:k<z1.length
     ·obtain ⟨b,off,rfl,hbl,d1,ra,rc,d0,sr⟩:=zs8.elem hlt
      have hyr:=HR.out z1[k] (List.getElem_mem hlt)
      have hkey:key.toNat<z1[k].1.length:=by omega
      have hbr:bareL z1[k].1=z1[k].1:=HB.out.bare _ (List.getElem_mem hlt)
      obtain ⟨rb,ro,rfl,rlt,y0,y1,y2⟩:=sr.elem hkey
      have hbp:bareP z1[k].1[key.toNat]=z1[k].1[key.toNat]:=by
       have e:(bareL z1[k].1)[key.toNat]'(by rw [bareL_length]; exact hkey)=bareP z1[k].1[key.toNat]:=by simp [bareL]
       rw [← e]; simp only [hbr]
      have hgd:z1[k].1.getD key.toNat vl0=z1[k].1[key.toNat]:=by simp [List.getD,hkey]
      have hwr:wrongP z1[k].1[key.toNat]=0:=right_at hyr.2 hkey
      obtain ⟨f1,f4⟩:=wrong_kind hwr
      have hold:=holds_bare (v:=v) hgd hbp
      have HT:Hid ((z1.take (k+1)).filter (fun y=>holdsP (isX key v) y.1)=(z1.take k).filter (fun y=>holdsP (isX key v) y.1) ++ (if holdsP (isX key v) z1[k].1=true then [z1[k]] else [])):=filter_take _ hlt
      have HS:Hid (SlAt wb (some ⟨rb,ro,none⟩) z1[k].1):=sr
      have hlen:((z1.take k).filter fun y=>holdsP (isX key v) y.1).length≤k:=by have:=List.length_filter_le (fun y:Zp=>holdsP (isX key v) y.1) (z1.take k); simp only [List.length_take] at this; omega
      generalize z1[k].1[key.toNat]=g at *
      generalize hold_eq:holdsP (isX key v) z1[k].1=tb at *
      have c1:=(hb.cell (p:=⟨b,_,none⟩) hbl).trans d1
      have c0:=(hb.cell (p:=⟨b,_,none⟩) hbl).trans d0
      have hal:Below wr.heap.size wr (wr.alloc (.cells #[.slice (some ⟨rb,ro,none⟩) z1[k].1.length rc,.int .i64 z1[k].2] 33)):=(Below.refl _ _).alloc (Nat.le_refl _) _
      have P:=Bk.new wr #[.slice (some ⟨rb,ro,none⟩) z1[k].1.length rc,.int .i64 z1[k].2] 33
      have hB:=chain hb hal
      have hO:=HO.next hal
      have y0:=(hB.cell (p:=⟨rb,_,none⟩) rlt).trans y0
      have y1:=(hB.cell (p:=⟨rb,_,none⟩) rlt).trans y1
      have y2:=(hB.cell (p:=⟨rb,_,none⟩) rlt).trans y2
      have VV:=(V12.next hb).next hal
      have hlz:(k:Int)<(z1.length:Int):=by omega
      have hkz:key<(z1[k].1.length:Int):=by omega
      have hkk:Hid (k≤400):=by show k≤400; omega
      clear d1 d0 sr hyr hbr hbp hgd hwr hkey HO
      have HL:Hid (((z1.take k).filter fun y=>holdsP (isX key v) y.1).length≤k):=hlen
      clear hlen
      go_upto_region 15 with fail
      clear c0 c1
      generalize wr.alloc (.cells #[.slice (some ⟨rb,ro,none⟩) z1[k].1.length rc,.int .i64 z1[k].2] 33)=wa at *
      have q0:=past_cell (P.cell 0 rfl)
      have q1:=past_cell y0
      have q2:=past_cell y1
      have q3:=past_cell y2
      have q4:=past_cell (VV.cell 0 rfl)
      have q5:=past_cell (VV.cell 1 rfl)
      have q6:=past_cell (VV.cell 2 rfl)
      have cE:∀ n:Past wa,Calls Tryz.prog 16 #[.agg #[.int .i64 g.1,.int .i64 g.2.1,.string g.2.2],.agg #[.int .i64 v.1,.int .i64 v.2.1,.string v.2.2]] n.now fun e w''=>e = .returned (.agg #[.int .i64 (tk (eqT g.1 g.2.1 g.2.2 v.1 v.2.1 v.2.2)),.int .i64 (tn (eqT g.1 g.2.1 g.2.2 v.1 v.2.1 v.2.2)),.string ⟨#[]⟩])∧∃ m:Past wa,w''=m.now:=fun n=>in_past (refEqual_any _ _ _ _ _ _ _ f1 f4)
      have cI:∀ n:Past wa,Calls Tryz.prog 15 #[.agg #[.int .i64 (tk (eqT g.1 g.2.1 g.2.2 v.1 v.2.1 v.2.2)),.int .i64 (tn (eqT g.1 g.2.1 g.2.2 v.1 v.2.1 v.2.2)),.string ⟨#[]⟩],.bool true] n.now fun e w''=>e = .returned (.bool tb)∧∃ m:Past wa,w''=m.now:=fun n=>in_past (by rw [hold]; exact refIs_any _ _ _ _ _ (tru_tri _))
      generalize tk (eqT g.1 g.2.1 g.2.2 v.1 v.2.1 v.2.2)=ok at cE cI
      generalize tn (eqT g.1 g.2.1 g.2.2 v.1 v.2.1 v.2.2)=on at cE cI
      haveI:Nonempty (Past wa):=⟨⟨wa,Below.refl _ _⟩⟩
      clear y0 y1 y2 hold
      refine wp_region_past (by kernel_rfl) (by kernel_rfl) ?_
      repeat (go_big_quiet_step (first | (go_at_call 16; exact cE _) | (go_at_call 15; exact cI _)))
      refine wpQuiet_nil ?_
      rintro w6 ⟨⟨v6,hb6⟩,h6⟩
      obtain rfl:w6=v6:=h6
      clear q0 q1 q2 q3 q4 q5 q6 cE cI VV
      have P6:=P.next hb6
      have B6:=chain hB hb6
      obtain ⟨xs,ho6,he6⟩:=hO.next hb6
      have HE6:Hid (EncB wb xs ((z1.take k).filter fun y=>holdsP (isX key v) y.1)):=he6
      clear P he6 hO hB hal
      have HTB:Hid (holdsP (isX key v) z1[k].1=tb):=hold_eq
      clear hold_eq
      have r0:=P6.cell 0 rfl
      have r1:=P6.cell 1 rfl
      have sz6:=B6.size
      cases tb with
      | true =>
       have HT2:Hid ((z1.take (k+1)).filter (fun y=>holdsP (isX key v) y.1)=(z1.take k).filter (fun y=>holdsP (isX key v) y.1) ++ [z1[k]]):=by show _=_; rw [HT.out,if_pos rfl]
       go_wp2_with (first | (at_builtin; refine wpList_append_own _ rfl _ _ 25 rfl wb.heap.size 33 i0 _ 2 32 Tryz.underlying25 hi hj0 hj1 hj2 rfl (by decide) _ _ _ rfl (ho6.alloc _) ⟨w6.heap.size,0,none⟩ 1 1 [.slice (some ⟨rb,ro,none⟩) z1[k].1.length rc,.int .i64 z1[k].2] rfl rfl ?Ac1 ?Ac2 ?Ac3 ?Ac4 ?Ac5 ?_))
       case Ac2=>exact ⟨rfl,rfl⟩
       case Ac3=>have h1:=HL.out; have h2:=hkk.out; unfold maxLen; omega
       case Ac4=>have h1:=HL.out; have h2:=hkk.out; omega
       case Ac5=>first | omega | (simp; omega)
       intro v' w7 ho7 hg7 _
       have hb7:Below wb.heap.size w6 w7:=((Below.refl wb.heap.size w6).alloc (by omega) _).grown hg7 (by simp; omega) (fun q hq=>((ho6.alloc (.cells #[.slice (some ⟨rb,ro,none⟩) z1[k].1.length rc,.int .i64 z1[k].2] 33)).lt q hq).1)
       have B7:=B6.trans hb7
       clear hg7 ho6 r0 r1
       go_wp2_with fail
       go_roundw
       case rel=>exact ⟨k+1,by omega,by go_num,by rw [HT2.out]; exact ⟨_,by simpa using ho7,HE6.out.push HS.out⟩,B7⟩
       case measure=>simp [intOf]; omega
      | false =>
       have HT2:Hid ((z1.take (k+1)).filter (fun y=>holdsP (isX key v) y.1)=(z1.take k).filter (fun y=>holdsP (isX key v) y.1)):=by show _=_; rw [HT.out,if_neg (by decide),List.append_nil]
       clear r0 r1
       go_wp2_with fail
       go_roundw
       case rel=>exact ⟨k+1,by omega,by go_num,by rw [HT2.out]; exact ⟨_,ho6,HE6.out⟩,B6⟩
       case measure=>simp [intOf]; omega
     ·have e:k=z1.length:=by omega
      subst e
      rw [List.take_length] at HO
      obtain ⟨aw,cw,rfl,zw,_⟩:=HO.zs hb
      have zs13:=zs12.next hb
      have AW:=chain A12 hb
      have con:=same_eq a12 aw c12 cw _ wr zs13 zw
      go_wp2_with fail
      refine con.mono ?_
      rintro e wz ⟨rfl,hbz⟩
      go_wp2_with fail
      go_ret
      exact ⟨rfl,chain AW hbz⟩
   ·subst h0
    have hne:(e2 != 0)=true:=by simpa using h1
    clear h1
    go_wp2_with fail
    go_ret
    exact ⟨rfl,A9⟩
  ·have hne:(e1 != 0)=true:=by simpa using h0
   clear h0
   go_wp2_with fail
   go_ret
   exact ⟨rfl,A9⟩
end Go.Proofs.YtcnmpiahcnkndaaGreat
/- Opening arguments: slices of values, and slices of rows with weights. -/
namespace Go.Proofs.YtcnmpiahcnkndaaGreat
open Go.ChangeShapes Go.WideShapes Go.ChangeAt Go.RowKit Go.Joins

set_option maxRecDepth 100000 in
theorem addr_add (b off i:Nat):(⟨b,off,none⟩:Addr).add i=⟨b,off+i,none⟩:=by
 unfold Addr.add
 by_cases h:i=0 <;> simp [h]
set_option maxRecDepth 100000 in
theorem open_row {H:Type} {enc:TypeId × Value→H} {W:World} {base:Nat} {sp:Nat→Bool} {hd:Bool} {fuel:Nat} {cs:List Value} {x:DataW H × List MemPlace} {a:Addr}
  (hc:W.cells? base a 3=some cs) (h:DataW.trod enc Tryz.prog W base sp hd fuel 38 cs=some x) :
  ∃ v:Vl,W.cell? (a.add 0)=some (.int .i64 v.1)∧W.cell? (a.add 1)=some (.int .i64 v.2.1)∧W.cell? (a.add 2)=some (.string v.2.2):=by
 obtain ⟨_,hlen,hcell⟩:=World.cells?_some hc
 obtain ⟨y0,y1,y2,m,_,_,h0,h1,h2⟩:=Go.Deep.trod_struct3 Tryz.underlying38 h
 have q3:Tryz.prog.cellsOf 3=1:=by kernel_rfl
 have q2:Tryz.prog.cellsOf 2=1:=by kernel_rfl
 have q9:Tryz.prog.cellsOf 9=1:=by kernel_rfl
 match cs,hlen with
 | [c0,c1,c2],_ =>
  simp only [q3,q2,q9] at h0 h1 h2
  obtain ⟨k,e0,_,_⟩:=DataW.trod_int Tryz.underlying3 h0
  obtain ⟨n,e1,_,_⟩:=DataW.trod_int Tryz.underlying2 h1
  obtain ⟨s,e2,_,_⟩:=DataW.trod_string Tryz.underlying9 h2
  simp at e0 e1 e2
  subst e0 e1 e2
  exact ⟨(k,n,s),hcell 0 (by omega),hcell 1 (by omega),hcell 2 (by omega)⟩
set_option maxRecDepth 100000 in
theorem open_valsT {H:Type} {enc:TypeId × Value→H} {W:World} {hd:Bool} {fuel:Nat} {cs:List Value} {x:DataW H × List MemPlace}
  (hf:DataW.trod enc Tryz.prog W 0 (fun _=>true) hd fuel 31 cs=some x):∃ (a:Option Addr) (cap:Nat) (l:List Vl),cs = [.slice a l.length cap]∧SlAt W a l:=by
 rcases Go.Deep.open_slice Tryz.underlying31 hf with ⟨hcs,_⟩ | ⟨a,len,cap,m,n,D,Pl,hcs,_,hl,hm,hmm,_,hx⟩
 ·exact ⟨none,0,[],hcs,by simp,.inl rfl⟩
 ·have q:Tryz.prog.cellsOf 38=3:=by kernel_rfl
  rw [q] at hx
  simp only [if_true] at hmm
  obtain ⟨f,hf'⟩:=Go.Deep.choose_lt (α:=Vl) (n:=len) (p:=fun i (v:Vl)=>W.cell? ((a.add (i*3)).add 0)=some (.int .i64 v.1)∧W.cell? ((a.add (i*3)).add 1)=some (.int .i64 v.2.1)∧W.cell? ((a.add (i*3)).add 2)=some (.string v.2.2)) (fun i hi=>by
   obtain ⟨cs',h1,h2⟩:=hx i (by omega)
   exact open_row h1 h2)
  refine ⟨some a,cap,(List.range len).map f,by simpa using hcs,?_,?_⟩
  ·simp; omega
  by_cases h0:len=0
  ·left; simp [h0]
  ·right
   obtain ⟨b,off,spot⟩:=a
   have hc:=(hf' 0 (by omega)).1
   have hspot:spot=none:=by simpa [Addr.add] using World.cell?_spot hc
   subst hspot
   refine ⟨b,off,rfl,fun i hi=>?_,?_⟩
   ·have hi':i<len:=by simpa using hi
    have:=hf' i hi'
    simp only [addr_add] at this
    simp only [List.getElem_map,List.getElem_range]
    exact this
   ·exact World.block_lt_of_cell? W _ (by simpa [Addr.add] using hc)
set_option maxRecDepth 100000 in
theorem struct2 {P:Program} {H:Type} {enc:TypeId × Value→H} {w:World} {base:Nat} {spare:Nat→Bool} {held:Bool} {t:TypeId} {f0 f1:Field} {fuel:Nat} {cs:List Value} {x:DataW H × List MemPlace} (ht:P.underlying t=some (.struct #[f0,f1])) (h:DataW.trod enc P w base spare held fuel t cs=some x) :
  ∃ y0 y1 n,DataW.trod enc P w base spare held n f0.type ((cs.drop f0.offset).take (P.cellsOf f0.type))=some y0 ∧
   DataW.trod enc P w base spare held n f1.type ((cs.drop f1.offset).take (P.cellsOf f1.type))=some y1:=by
 obtain ⟨xs,n,_,rfl,hl,hlen,hf⟩:=DataW.trod_struct ht h
 match xs,hlen with
 | [y0,y1],_=>exact ⟨y0,y1,n,by simpa using hf 0 f0 rfl,by simpa using hf 1 f1 rfl⟩
set_option maxRecDepth 100000 in
theorem open_zrow {H:Type} {enc:TypeId × Value→H} {W:World} {hd:Bool} {fuel:Nat} {cs:List Value} {x:DataW H × List MemPlace} {a:Addr}
  (hc:W.cells? 0 a 2=some cs) (h:DataW.trod enc Tryz.prog W 0 (fun _=>true) hd fuel 33 cs=some x) :
  ∃ z:Zp,W.cell? (a.add 1)=some (.int .i64 z.2)∧∃ ai cap,W.cell? (a.add 0)=some (.slice ai z.1.length cap)∧SlAt W ai z.1:=by
 obtain ⟨_,hlen,hcell⟩:=World.cells?_some hc
 obtain ⟨y0,y1,n,h0,h1⟩:=struct2 Tryz.underlying33 h
 have q23:Tryz.prog.cellsOf 31=1:=by kernel_rfl
 have q2:Tryz.prog.cellsOf 2=1:=by kernel_rfl
 match cs,hlen with
 | [c0,c1],_ =>
  simp only [q23,q2] at h0 h1
  obtain ⟨ai,cap,l,e0,hs⟩:=open_valsT h0
  obtain ⟨k,e1,_,_⟩:=DataW.trod_int Tryz.underlying2 h1
  simp at e0 e1
  subst e0 e1
  exact ⟨(l,k),hcell 1 (by omega),ai,cap,hcell 0 (by omega),hs⟩
set_option maxRecDepth 100000 in
theorem open_zrows {H:Type} {enc:TypeId × Value→H} {W:World} {r:Reach} {b0:Nat} {v:Value} {d:DataW H} {p:List MemPlace}
  (hv:Value.okWide Tryz.prog W r b0 25 v) (h:DataW.Trod enc Tryz.prog W 0 (fun _=>true) true 25 v d p):∃ (a:Option Addr) (cap:Nat) (l:List Zp),v = .slice a l.length cap∧ZsAt W a l:=by
 obtain ⟨a0,len,cap,rfl⟩:=okWide_slice Tryz.underlying25 hv
 obtain ⟨fuel,hf⟩:=h
 rcases Go.Deep.open_slice Tryz.underlying25 hf with ⟨hcs,_⟩ | ⟨a,len',cap',m,n,D,Pl,hcs,_,hl,hm,hmm,_,hx⟩
 ·simp [Value.cells] at hcs
  obtain ⟨rfl,rfl,rfl⟩:=hcs
  exact ⟨none,0,[],rfl,by simp,.inl rfl⟩
 ·simp [Value.cells] at hcs
  obtain ⟨rfl,rfl,rfl⟩:=hcs
  have q:Tryz.prog.cellsOf 33=2:=by kernel_rfl
  rw [q] at hx
  simp only [if_true] at hmm
  obtain ⟨f,hf'⟩:=Go.Deep.choose_lt (α:=Zp) (n:=len) (p:=fun i (z:Zp)=>W.cell? ((a.add (i*2)).add 1)=some (.int .i64 z.2)∧∃ ai cap,W.cell? ((a.add (i*2)).add 0)=some (.slice ai z.1.length cap)∧SlAt W ai z.1) (fun i hi=>by
   obtain ⟨cs',h1,h2⟩:=hx i (by omega)
   exact open_zrow h1 h2)
  refine ⟨some a,cap,(List.range len).map f,by simp,?_,?_⟩
  ·simp; omega
  by_cases h0:len=0
  ·left; simp [h0]
  ·right
   obtain ⟨b,off,spot⟩:=a
   obtain ⟨_,_,hc,_⟩:=(hf' 0 (by omega)).2
   have hspot:spot=none:=by simpa [Addr.add] using World.cell?_spot hc
   subst hspot
   refine ⟨b,off,rfl,?_,fun i hi=>?_⟩
   ·exact World.block_lt_of_cell? W _ (by simpa [Addr.add] using hc)
   ·have hi':i<len:=by simpa using hi
    have:=hf' i hi'
    simp only [addr_add] at this
    simp only [List.getElem_map,List.getElem_range]
    exact this
end Go.Proofs.YtcnmpiahcnkndaaGreat
/- Opening arguments: slices of rows with weights; a nil one has no room. -/
namespace Go.Proofs.YtcnmpiahcnkndaaGreat
open Go.ChangeShapes Go.WideShapes Go.ChangeAt Go.RowKit Go.Joins

set_option maxRecDepth 100000 in
theorem open_zrows2 {H:Type} {enc:TypeId × Value→H} {W:World} {r:Reach} {b0:Nat} {v:Value} {d:DataW H} {p:List MemPlace}
  (hv:Value.okWide Tryz.prog W r b0 25 v) (h:DataW.Trod enc Tryz.prog W 0 (fun _=>true) true 25 v d p):∃ (a:Option Addr) (cap:Nat) (l:List Zp),v = .slice a l.length cap∧ZsAt W a l∧(a=none→cap=0):=by
 obtain ⟨a,cap,l,rfl,hz⟩:=open_zrows hv h
 refine ⟨a,cap,l,rfl,hz,?_⟩
 intro e
 subst e
 obtain ⟨fuel,hf⟩:=h
 rcases Go.Deep.open_slice Tryz.underlying25 hf with ⟨hcs,_⟩ | ⟨a,len',cap',m,n,D,Pl,hcs,_⟩
 ·simp [Value.cells] at hcs
  exact hcs.2
 ·simp [Value.cells] at hcs
end Go.Proofs.YtcnmpiahcnkndaaGreat
/- Opening arguments: numbers, values, expressions. -/
namespace Go.Proofs.YtcnmpiahcnkndaaGreat
open Go.ChangeShapes Go.WideShapes Go.ChangeAt Go.RowKit Go.Joins

set_option maxRecDepth 100000 in
theorem addr_addX (b off i:Nat):(⟨b,off,none⟩:Addr).add i=⟨b,off+i,none⟩:=by
 unfold Addr.add
 by_cases h:i=0 <;> simp [h]
theorem q3:Tryz.prog.cellsOf 3=1:=by kernel_rfl
theorem q2:Tryz.prog.cellsOf 2=1:=by kernel_rfl
theorem q9:Tryz.prog.cellsOf 9=1:=by kernel_rfl
theorem q24:Tryz.prog.cellsOf 38=3:=by kernel_rfl
theorem q25:Tryz.prog.cellsOf 23=1:=by kernel_rfl
theorem q27:Tryz.prog.cellsOf 40=6:=by kernel_rfl
set_option maxRecDepth 100000 in
theorem open_valT {H:Type} {enc:TypeId × Value→H} {W:World} {base:Nat} {sp:Nat→Bool} {hd:Bool} {fuel:Nat} {cs:List Value} {x:DataW H × List MemPlace}
  (h:DataW.trod enc Tryz.prog W base sp hd fuel 38 cs=some x):∃ v:Vl,cs = [.int .i64 v.1,.int .i64 v.2.1,.string v.2.2]:=by
 obtain ⟨y0,y1,y2,m,_,hlen,h0,h1,h2⟩:=Go.Deep.trod_struct3 Tryz.underlying38 h
 rw [q24] at hlen
 match cs,hlen with
 | [c0,c1,c2],_ =>
  simp only [q3,q2,q9] at h0 h1 h2
  obtain ⟨k,e0,_,_⟩:=DataW.trod_int Tryz.underlying3 h0
  obtain ⟨n,e1,_,_⟩:=DataW.trod_int Tryz.underlying2 h1
  obtain ⟨s,e2,_,_⟩:=DataW.trod_string Tryz.underlying9 h2
  simp at e0 e1 e2
  subst e0 e1 e2
  exact ⟨(k,n,s),rfl⟩
set_option maxRecDepth 100000 in
theorem open_ints {H:Type} {enc:TypeId × Value→H} {W:World} {r:Reach} {b0:Nat} {v:Value} {d:DataW H} {p:List MemPlace}
  (hv:Value.okWide Tryz.prog W r b0 22 v) (h:DataW.Trod enc Tryz.prog W 0 (fun _=>true) true 22 v d p):∃ (a:Option Addr) (cap:Nat) (l:List Int),v = .slice a l.length cap∧IsAt W.heap.size W a l:=by
 obtain ⟨a0,len,cap,rfl⟩:=okWide_slice Tryz.underlying22 hv
 obtain ⟨fuel,hf⟩:=h
 rcases Go.Deep.open_slice1 Tryz.underlying22 q3 hf with ⟨hcs,_⟩ | ⟨a,len',cap',m,n,V,D,Pl,hcs,_,hl,hm,hmm,_,hx⟩
 ·simp [Value.cells] at hcs
  obtain ⟨rfl,rfl,rfl⟩:=hcs
  exact ⟨none,0,[],rfl,by simp,.inl rfl⟩
 ·simp [Value.cells] at hcs
  obtain ⟨rfl,rfl,rfl⟩:=hcs
  simp only [if_true] at hmm
  obtain ⟨f,hf'⟩:=Go.Deep.choose_lt (α:=Int) (n:=len) (p:=fun i (k:Int)=>W.cell? (a.add i)=some (.int .i64 k)) (fun i hi=>by
   obtain ⟨h1,h2⟩:=hx i (by omega)
   obtain ⟨k,e0,_,_⟩:=DataW.trod_int Tryz.underlying3 h2
   simp at e0
   exact ⟨k,by rw [h1,e0]⟩)
  refine ⟨some a,cap,(List.range len).map f,by simp,?_,?_⟩
  ·simp; omega
  by_cases h0:len=0
  ·left; simp [h0]
  ·right
   obtain ⟨b,off,spot⟩:=a
   have hc:=hf' 0 (by omega)
   have hspot:spot=none:=by simpa [Addr.add] using World.cell?_spot hc
   subst hspot
   refine ⟨b,off,rfl,World.block_lt_of_cell? W _ (by simpa [Addr.add] using hc),fun i hi=>?_⟩
   have hi':i<len:=by simpa using hi
   have:=hf' i hi'
   simp only [addr_addX] at this
   simp only [List.getElem_map,List.getElem_range]
   exact this
set_option maxRecDepth 100000 in
theorem open_val {H:Type} {enc:TypeId × Value→H} {W:World} {base:Nat} {sp:Nat→Bool} {hd:Bool} {r:Reach} {b0:Nat} {v:Value} {d:DataW H} {p:List MemPlace}
  (hv:Value.okWide Tryz.prog W r b0 38 v) (h:DataW.Trod enc Tryz.prog W base sp hd 38 v d p):∃ u:Vl,v=agV u:=by
 obtain ⟨cs,rfl,_⟩:=okWide_struct Tryz.underlying38 hv
 obtain ⟨fuel,hf⟩:=h
 obtain ⟨u,e⟩:=open_valT hf
 refine ⟨u,?_⟩
 have e':cs.toList = [.int .i64 u.1,.int .i64 u.2.1,.string u.2.2]:=by simpa [Value.cells] using e
 exact congrArg Value.agg (Array.toList_inj.mp e')

instance:Inhabited Ex:=⟨.mk 0 (0,0,⟨#[]⟩) 0 []⟩
/-- The kids' opening, at less fuel. -/
def KidsOpen {H:Type} (enc:TypeId × Value→H) (W:World) (hd:Bool) (m:Nat):Prop :=
 ∀ cs x,DataW.trod enc Tryz.prog W 0 (fun _=>true) hd m 23 cs=some x→∃ (a:Option Addr) (cap:Nat) (l:List Ex),cs = [.slice a l.length cap]∧KsAt W.heap.size W a l
set_option maxRecDepth 100000 in
theorem open_exprT {H:Type} {enc:TypeId × Value→H} {W:World} {hd:Bool} {fuel:Nat} (ih:∀ m,m<fuel→KidsOpen enc W hd m) {cs:List Value} {x:DataW H × List MemPlace}
  (h:DataW.trod enc Tryz.prog W 0 (fun _=>true) hd fuel 40 cs=some x) :
  ∃ (e:Ex) (a:Option Addr) (cap:Nat),cs = [.int .i64 e.k,.int .i64 e.v.1,.int .i64 e.v.2.1,.string e.v.2.2,.int .i64 e.c,.slice a e.ks.length cap]∧KsAt W.heap.size W a e.ks:=by
 obtain ⟨xs,n,hn,_,hl,hlen,hf⟩:=DataW.trod_struct Tryz.underlying40 h
 rw [q27] at hl
 match xs,hlen with
 | [y0,y1,y2,y3],_ =>
  have h0:=hf 0 _ rfl
  have h1:=hf 1 _ rfl
  have h2:=hf 2 _ rfl
  have h3:=hf 3 _ rfl
  match cs,hl with
  | [c0,c1,c2,c3,c4,c5],_ =>
   simp [q3,q24,q25] at h0 h1 h2 h3
   obtain ⟨k,e0,_,_⟩:=DataW.trod_int Tryz.underlying3 h0
   obtain ⟨v,e1⟩:=open_valT h1
   obtain ⟨c,e2,_,_⟩:=DataW.trod_int Tryz.underlying3 h2
   obtain ⟨a,cap,l,e3,hk⟩:=ih n (by omega) _ _ h3
   simp at e0 e1 e2 e3
   obtain ⟨r1,r2,r3⟩:=e1
   subst e0 r1 r2 r3 e2 e3
   exact ⟨.mk k v c l,a,cap,rfl,hk⟩
set_option maxRecDepth 100000 in
theorem kidsOpen {H:Type} (enc:TypeId × Value→H) (W:World) (hd:Bool) (fuel:Nat):KidsOpen enc W hd fuel:=by
 induction fuel using Nat.strongRecOn with
 | ind fuel ih =>
  intro cs x h
  rcases DataW.trod_slice Tryz.underlying23 h with ⟨hcs,_⟩ | ⟨a,len,cap,elems,rest,n,hn,hcs,_,_,_,_,hlen,hel,_,_⟩
  ·exact ⟨none,0,[],hcs,.nil _⟩
  ·rw [q27] at hel
   obtain ⟨f,hf⟩:=Go.Deep.choose_lt (α:=Ex × Option Addr × Nat) (n:=len) (p:=fun i (y:Ex × Option Addr × Nat) =>
     (W.cell? ((a.add (i*6)).add 0)=some (.int .i64 y.1.k)∧W.cell? ((a.add (i*6)).add 1)=some (.int .i64 y.1.v.1)∧W.cell? ((a.add (i*6)).add 2)=some (.int .i64 y.1.v.2.1)∧W.cell? ((a.add (i*6)).add 3)=some (.string y.1.v.2.2) ∧
      W.cell? ((a.add (i*6)).add 4)=some (.int .i64 y.1.c)∧W.cell? ((a.add (i*6)).add 5)=some (.slice y.2.1 y.1.ks.length y.2.2))∧KsAt W.heap.size W y.2.1 y.1.ks) (fun i hi=>by
    have key:=hel i hi
    rw [List.getElem?_eq_getElem (by omega)] at key
    obtain ⟨cs',h1,h2⟩:=Option.bind_eq_some_iff.1 key
    obtain ⟨_,hl6,hcell⟩:=World.cells?_some h1
    obtain ⟨e,ai,ci,rfl,hk⟩:=open_exprT (fun m hm=>ih m (by omega)) h2
    exact ⟨(e,ai,ci),⟨hcell 0 (by simp),hcell 1 (by simp),hcell 2 (by simp),hcell 3 (by simp),hcell 4 (by simp),hcell 5 (by simp)⟩,hk⟩)
   refine ⟨some a,cap,(List.range len).map fun i=>(f i).1,by simpa using hcs,?_⟩
   by_cases h0:len=0
   ·subst h0; exact .nil _
   ·obtain ⟨b,off,spot⟩:=a
    have hc:=(hf 0 (by omega)).1.1
    have hspot:spot=none:=by simpa [Addr.add] using World.cell?_spot hc
    subst hspot
    refine .some b off _ (fun i=>(f i).2.1) (fun i=>(f i).2.2) (World.block_lt_of_cell? W _ (by simpa [Addr.add] using hc)) (fun i hi=>?_) (fun i hi=>?_)
    ·have hi':i<len:=by simpa using hi
     have:=(hf i hi').1
     simp only [addr_addX] at this
     simp only [List.getElem_map,List.getElem_range]
     exact ⟨this.1,this.2.1,this.2.2.1,this.2.2.2.1,this.2.2.2.2.1,this.2.2.2.2.2⟩
    ·have hi':i<len:=by simpa using hi
     simp only [List.getElem_map,List.getElem_range]
     exact (hf i hi').2
set_option maxRecDepth 100000 in
theorem open_exprs {H:Type} {enc:TypeId × Value→H} {W:World} {r:Reach} {b0:Nat} {v:Value} {d:DataW H} {p:List MemPlace}
  (hv:Value.okWide Tryz.prog W r b0 23 v) (h:DataW.Trod enc Tryz.prog W 0 (fun _=>true) true 23 v d p):∃ (a:Option Addr) (cap:Nat) (l:List Ex),v = .slice a l.length cap∧KsAt W.heap.size W a l:=by
 obtain ⟨a0,len,cap,rfl⟩:=okWide_slice Tryz.underlying23 hv
 obtain ⟨fuel,hf⟩:=h
 obtain ⟨a,c,l,e,hs⟩:=kidsOpen enc W true fuel _ _ hf
 refine ⟨a,c,l,?_,hs⟩
 simpa [Value.cells] using e
end Go.Proofs.YtcnmpiahcnkndaaGreat
/- Opening lists of wins. -/
namespace Go.Proofs.YtcnmpiahcnkndaaGreat
open Go.ChangeShapes Go.WideShapes Go.ChangeAt Go.RowKit Go.Joins

theorem qWin:Tryz.prog.cellsOf 42=7:=by kernel_rfl
set_option maxRecDepth 100000 in
theorem open_winT {H:Type} {enc:TypeId × Value→H} {W:World} {hd:Bool} {fuel:Nat} {cs:List Value} {x:DataW H × List MemPlace}
  (h:DataW.trod enc Tryz.prog W 0 (fun _=>true) hd fuel 42 cs=some x) :
  ∃ (g:Ag) (a:Option Addr) (cap:Nat),cs = [.int .i64 g.1,.int .i64 g.2.k,.int .i64 g.2.v.1,.int .i64 g.2.v.2.1,.string g.2.v.2.2,.int .i64 g.2.c,.slice a g.2.ks.length cap]∧KsAt W.heap.size W a g.2.ks:=by
 obtain ⟨xs,n,hn,_,hl,hlen,hf⟩:=DataW.trod_struct Tryz.underlying42 h
 rw [qWin] at hl
 match xs,hlen with
 | [y0,y1],_ =>
  have h0:=hf 0 _ rfl
  have h1:=hf 1 _ rfl
  match cs,hl with
  | [c0,c1,c2,c3,c4,c5,c6],_ =>
   simp [q3,q27] at h0 h1
   obtain ⟨k,e0,_,_⟩:=DataW.trod_int Tryz.underlying3 h0
   obtain ⟨e,a,cap,e1,hk⟩:=open_exprT (fun m _=>kidsOpen enc W hd m) h1
   simp at e0 e1
   obtain ⟨r1,r2,r3,r4,r5,r6⟩:=e1
   subst e0 r1 r2 r3 r4 r5 r6
   exact ⟨(k,e),a,cap,rfl,hk⟩
instance:Inhabited Ag:=⟨(0,.mk 0 (0,0,⟨#[]⟩) 0 [])⟩
set_option maxRecDepth 100000 in
theorem open_wins {H:Type} {enc:TypeId × Value→H} {W:World} {r:Reach} {b0:Nat} {v:Value} {d:DataW H} {p:List MemPlace}
  (hv:Value.okWide Tryz.prog W r b0 24 v) (h:DataW.Trod enc Tryz.prog W 0 (fun _=>true) true 24 v d p):∃ (a:Option Addr) (cap:Nat) (l:List Ag),v = .slice a l.length cap∧AgAt W.heap.size W a l:=by
 obtain ⟨a0,len0,cap0,rfl⟩:=okWide_slice Tryz.underlying24 hv
 obtain ⟨fuel,hf0⟩:=h
 rcases DataW.trod_slice Tryz.underlying24 hf0 with ⟨hcs,_⟩ | ⟨a,len,cap,elems,rest,n,hn,hcs,_,_,_,_,hlen,hel,_,_⟩
 ·refine ⟨none,0,[],?_,.inl rfl⟩
  simpa [Value.cells] using hcs
 ·rw [qWin] at hel
  obtain ⟨f,hf⟩:=Go.Deep.choose_lt (α:=Ag × Option Addr × Nat) (n:=len) (p:=fun i (y:Ag × Option Addr × Nat) =>
    (W.cell? ((a.add (i*7)).add 0)=some (.int .i64 y.1.1)∧W.cell? ((a.add (i*7)).add 1)=some (.int .i64 y.1.2.k)∧W.cell? ((a.add (i*7)).add 2)=some (.int .i64 y.1.2.v.1)∧W.cell? ((a.add (i*7)).add 3)=some (.int .i64 y.1.2.v.2.1)∧W.cell? ((a.add (i*7)).add 4)=some (.string y.1.2.v.2.2) ∧
     W.cell? ((a.add (i*7)).add 5)=some (.int .i64 y.1.2.c)∧W.cell? ((a.add (i*7)).add 6)=some (.slice y.2.1 y.1.2.ks.length y.2.2))∧KsAt W.heap.size W y.2.1 y.1.2.ks) (fun i hi=>by
   have key:=hel i hi
   rw [List.getElem?_eq_getElem (by omega)] at key
   obtain ⟨cs',h1,h2⟩:=Option.bind_eq_some_iff.1 key
   obtain ⟨_,hl6,hcell⟩:=World.cells?_some h1
   obtain ⟨e,ai,ci,rfl,hk⟩:=open_winT h2
   exact ⟨(e,ai,ci),⟨hcell 0 (by simp),hcell 1 (by simp),hcell 2 (by simp),hcell 3 (by simp),hcell 4 (by simp),hcell 5 (by simp),hcell 6 (by simp)⟩,hk⟩)
  refine ⟨some a,cap,(List.range len).map fun i=>(f i).1,by simpa [Value.cells] using hcs,?_⟩
  by_cases h0:len=0
  ·subst h0; exact .inl rfl
  ·obtain ⟨b,off,spot⟩:=a
   have hc:=(hf 0 (by omega)).1.1
   have hspot:spot=none:=by simpa [Addr.add] using World.cell?_spot hc
   subst hspot
   refine .inr ⟨b,off,fun i=>(f i).2.1,fun i=>(f i).2.2,rfl,World.block_lt_of_cell? W _ (by simpa [Addr.add] using hc),fun i hi=>?_⟩
   have hi':i<len:=by simpa using hi
   obtain ⟨⟨g0,g1,g2,g3,g4,g5,g6⟩,gk⟩:=hf i hi'
   simp only [addr_addX] at g0 g1 g2 g3 g4 g5 g6
   simp only [List.getElem_map,List.getElem_range]
   exact ⟨g0,⟨g1,g2,g3,g4,g5,g6⟩,gk⟩
theorem bytes_win:8≤Tryz.prog.bytesOf 42:=by decide +kernel
theorem wins_sized {H:Type} {enc:TypeId × Value→H} {W:World} {a:Option Addr} {n cap:Nat} {d:DataW H} {p:List MemPlace} (h:DataW.Trod enc Tryz.prog W 0 (fun _=>true) true 24 (.slice a n cap) d p)
  {ts:List TypeId} {ds:List (DataW H)} (hs:(DataW.weightsEach Tryz.prog ts ds).all (· ≤ reachBytes)=true) {j:Nat} (ht:ts[j]? = some 24) (hd:ds[j]? = some d):n≤100000000000000:=by
 obtain ⟨fuel,hf⟩:=h
 rcases DataW.trod_slice Tryz.underlying24 hf with ⟨hcs,_⟩ | ⟨a',len,cap',elems,rest,m,hm,hcs,hx,_,_,_,hlen,_⟩
 ·simp [Value.cells] at hcs
  omega
 ·simp [Value.cells] at hcs
  obtain ⟨rfl,rfl,rfl⟩:=hcs
  simp only [Prod.mk.injEq] at hx
  have e:=hx.1
  subst e
  have h1:=sized_slice hs ht hd Tryz.underlying24
  simp only [List.length_map] at h1
  have h2:=reachBytes_lt
  have h3:=bytes_win
  have h4:n*8≤(elems.length+rest.length)*Tryz.prog.bytesOf 42:=Nat.mul_le_mul (by omega) h3
  omega
end Go.Proofs.YtcnmpiahcnkndaaGreat
/- How long the lists of numbers may be that are read. -/
namespace Go.Proofs.YtcnmpiahcnkndaaGreat
open Go.ChangeShapes Go.WideShapes Go.ChangeAt Go.RowKit Go.Joins

theorem bytes_int:Tryz.prog.bytesOf 3=8:=by kernel_rfl
theorem ints_sized {H:Type} {enc:TypeId × Value→H} {W:World} {a:Option Addr} {n cap:Nat} {d:DataW H} {p:List MemPlace} (h:DataW.Trod enc Tryz.prog W 0 (fun _=>true) true 22 (.slice a n cap) d p)
  {ts:List TypeId} {ds:List (DataW H)} (hs:(DataW.weightsEach Tryz.prog ts ds).all (· ≤ reachBytes)=true) {j:Nat} (ht:ts[j]? = some 22) (hd:ds[j]? = some d):n≤100000000000000:=by
 obtain ⟨fuel,hf⟩:=h
 rcases Go.Deep.open_slice1 Tryz.underlying22 q3 hf with ⟨hcs,_⟩ | ⟨a,len',cap',m,k,V,D,Pl,hcs,_,hl,hm,hmm,hx,_⟩
 ·simp [Value.cells] at hcs
  omega
 ·simp [Value.cells] at hcs
  obtain ⟨rfl,rfl,rfl⟩:=hcs
  simp only [Prod.mk.injEq] at hx
  have e:=hx.1
  subst e
  have:=sized_slice hs ht hd Tryz.underlying22
  rw [bytes_int] at this
  simp only [List.length_map,List.length_range] at this
  have h2:=reachBytes_lt
  omega
end Go.Proofs.YtcnmpiahcnkndaaGreat
