/- Together: AU, AV, AW, AX, AY1, AY, AYq, AZ, BA. -/
import Derived.Deep.DeepCutAuto
import Derived.Deep.CutBlock
import Derived.Deep.WholeRow
import Derived.Laws.CopyOwn
import Derived.Deep.LoopGhost
import Derived.Test.YtoknmnngaackkaaGreatDoorST3
namespace Go.Proofs.YtoknmnngaackkaaGreatDoor
open Go.RowKit Go.Lib Go.Shelf
set_option maxRecDepth 100000
set_option maxHeartbeats 16000000
set_option maxRecDepth 100000
set_option maxHeartbeats 8000000
abbrev jP (α:Type):Type:=(Nat→Prop)→World→α→List Value→Prop
def bf {α:Type} (En:jP α) (size:Nat) (S:Nat→Prop) (W:World) (a:Option Addr) (l:List α):Prop :=
 l = []∨∃ b off,a=some ⟨b,off,none⟩∧S b∧b<W.heap.size∧∀ (i:Nat) (h:i<l.length),∃ cs,cs.length=size∧(∀ j u,cs[j]? = some u→W.cell? ⟨b,off+i*size+j,none⟩=some u)∧En S W l[i] cs
theorem bf.aM {α:Type} {En:jP α} (ok:fW En) {size:Nat} {S:Nat→Prop} {W W':World} {a:Option Addr} {l:List α} (hk:ay S W W') (h:bf En size S W a l):bf En size S W' a l:=by
 rcases h with h | ⟨b,off,e,h1,h2,h3⟩
 ·exact .inl h
 ·refine .inr ⟨b,off,e,h1,Ja h2 hk.1,fun i hi=>?_⟩;obtain ⟨cs,c1,c2,c3⟩:=h3 i hi;exact ⟨cs,c1,fun j u hu=>hk.cell h1 (c2 j u hu),ok.next hk c3⟩
theorem bf.mono {α:Type} {En:jP α} (ok:fW En) {size:Nat} {S S':Nat→Prop} {W:World} {a:Option Addr} {l:List α} (hs:∀ b,S b→b<W.heap.size→S' b) (h:bf En size S W a l):bf En size S' W a l:=by
 rcases h with h | ⟨b,off,e,h1,h2,h3⟩
 ·exact .inl h
 ·refine .inr ⟨b,off,e,hs b h1 h2,h2,fun i hi=>?_⟩;obtain ⟨cs,c1,c2,c3⟩:=h3 i hi;exact ⟨cs,c1,c2,ok.mono hs c3⟩
def iB {α:Type} (En:jP α) (size:Nat):jP (List α):=fun S W x cs=>∃ a c,cs = [.slice a x.length c]∧bf En size S W a x
theorem br {α:Type} {En:jP α} (ok:fW En) (size:Nat):fW (iB En size) :=
 ⟨fun hk ⟨a,c,e,h⟩=>⟨a,c,e,h.aM ok hk⟩,fun hs ⟨a,c,e,h⟩=>⟨a,c,e,h.mono ok hs⟩⟩
theorem bC.ls {α:Type} {En:jP α} (ok:fW En) {e size base:Nat} {S:Nat→Prop} {W:World} {v:Value} {l:List α} (h:bC En e size base S W v l) (hs:∀ b,base≤b→S b):∃ a cap,v = .slice a l.length cap∧bf En size S W a l:=by
 rcases h.fin ok with ⟨rfl,rfl⟩ | ⟨g,cap,rfl,h1,h2,h3⟩
 ·exact ⟨none,0,rfl,.inl rfl⟩
 ·exact ⟨_,cap,rfl,.inr ⟨g,0,rfl,hs g h1,h2,fun i hi=>by simpa using h3 i hi⟩⟩
theorem bC.one {α:Type} {En:jP α} (ok:fW En) {e size base:Nat} {S:Nat→Prop} {w:World} {x:α} {ca:Array Value} (h:En S w x ca.toList) (hl:ca.size=size) (hb:base≤w.heap.size) :
  bC En e size base S (w.alloc (.cells ca e)) (.slice (some (af w 0)) 1 1) [x]:=by
 have hal:=bR w (.cells ca e);refine ⟨ca.toList,⟨by simp [hl],.inr ⟨w.heap.size,1,ca,rfl,hb,aD _ _ _,I6 _,by unfold maxLen; decide,by simp [hl],?_⟩⟩,fun i hi=>?_⟩
 ·rw [Jx (by simp [hl])]
 ·obtain rfl:i=0:=by simpa using hi
  refine ⟨ca.toList,by simpa using hl,fun j _=>by simp,?_⟩;have h1:En (fun b=>S b∧b<w.heap.size) w x ca.toList:=ok.mono (fun b h1 h2=>⟨h1,h2⟩) h;have h2:=ok.next (ay.of hal) h1;exact ok.mono (fun b hb hl=>⟨hb.1,hl,fun e=>by
   have h3:=Jt e;have h4:=hb.2;change w.heap.size=b at h3;omega⟩) h2
def pO:jP tG:=fun _ _ x cs=>cs = [.string x.1,.int .i64 x.2]
theorem iY:fW pO:=⟨fun _ h=>h,fun _ h=>h⟩
def jQ:jP Vl:=fun _ _ x cs=>cs = [.int .i64 x.1,.int .i64 x.2.1,.string x.2.2]
theorem eU:fW jQ:=⟨fun _ h=>h,fun _ h=>h⟩
def kl:jP kx:=fun S W x cs=>∃ a c,cs = [.int .i64 x.1.k,.int .i64 x.1.v.1,.int .i64 x.1.v.2.1,.string x.1.v.2.2,.string x.1.bp,.string x.1.name,.slice a x.1.ks.length c,.string x.2]∧aJ S W a x.1.ks
theorem fp:fW kl:=⟨fun hk ⟨a,c,e,h⟩=>⟨a,c,e,h.aM hk⟩,fun hs ⟨a,c,e,h⟩=>⟨a,c,e,aJ.mono hs h⟩⟩
def Ee {α:Type} (En:jP α) (size B:Nat) (W:World) (v:Value) (l:List α):Prop:=∃ a cap,v = .slice a l.length cap∧bf En size (fun b=>B≤b) W a l
theorem bf.Da {S:Nat→Prop} {W:World} {a:Option Addr} {l:List SX} (h:bf fu 7 S W a l):aJ S W a l:=by
 rcases h with rfl | ⟨g,off,rfl,h1,h2,h3⟩
 ·exact .nil _
 ·have:∀ i:Nat,∃ (a:Option Addr) (c:Nat),∀ h:i<l.length,qF W g (off+i*7) l[i] a c∧aJ S W a l[i].ks:=fun i=>by
   by_cases hi:i<l.length
   ·obtain ⟨cs,_,c2,a,c,rfl,hk⟩:=h3 i hi;exact ⟨a,c,fun _=>⟨Ch c2,hk⟩⟩
   ·exact ⟨none,0,fun h=>absurd h hi⟩
  obtain ⟨ai,ha⟩:=Classical.axiomOfChoice this;obtain ⟨ci,hc⟩:=Classical.axiomOfChoice ha;exact .some g off l ai ci h1 h2 (fun i hi=>(hc i hi).1) (fun i hi=>(hc i hi).2)
theorem Gk:(Tryz.prog.info? 69).map (fun i=>(i.zero,i.size,i.bytes))=some (some (.agg #[(),aB]),2,24):=by kernel_rfl
theorem wg {w:World} {R tb:Nat} {ts:List Tk} {o:Int} (h:aR w R tb ts o):Calls Tryz.prog 156 #[af R 0,(8:Int),.func (.func 157) #[af R 0] #[]] w (Ends R tb o w (Ee pO 2 w.heap.size) (cu eD 8 9 ts)):=by
 obtain ⟨i0,hi,hj0,hj1,hj2⟩:=info_parts Gk;have hltR:=h.lt;have hltT:=h.lK;have con:=qw h;generalize hM:cu eD 8 9 ts=M;have HM:Hid (aK (eD ts) (fun x r=>bL eD 8 9 [x] r)=M):=hM;generalize eD ts=L at *;clear h hM;go_enter Tryz.func156,Tryz.ntmps156;go_wp2_with fail
 refine con.mono ?_;rintro e w2 ⟨hb2,hW⟩;clear con;rcases L with ce | ⟨x,rs⟩
 ·obtain ⟨rfl,us,hE⟩:=hW;have HE:Hid (aR w2 R tb us o):=hE;clear hE;have e:M = .error ce:=HM.out.symm;subst e;clear HM;go_wp2_with fail
  exact ⟨rfl,Ends.err rfl hb2 HE.out⟩
 obtain ⟨v,rfl,rfl,hR2⟩:=hW;have HL:=ah HM.out;have hz2:=hb2.size;have HKA:Hid (pO (fun b=>w.heap.size≤b) w2 x [.string x.1,x.2]):=rfl;have hal2:=bR w2 (.cells #[x.1,x.2] 69);have HR2:=ah (hR2.next hal2)
 have HO2:Hid (bC pO 69 2 w.heap.size (fun b=>w.heap.size≤b) (w2.alloc (.cells #[x.1,x.2] 69)) (.slice (some (af w2 0)) 1 1) [x]):=bC.one iY (ca:=#[x.1,x.2]) HKA.out rfl ak;have hxA:aj R w (w2.alloc (.cells #[x.1,x.2] 69)):=hb2.trans (.of hal2 ak);clear HM hR2 HKA;go_wp2_with fail
 generalize w2.alloc _=wA at *;go_loopg [7] 9 (fun m ow wr=>∃ (ov:Value) (acc:List _) (us:List Tk),ov=ow∧Hid (m+acc.length=10)∧Hid (1≤acc.length∧acc.length≤8)∧Hid (bL eD 8 m acc us=M)∧aj R w wr∧Hid (aR wr R tb us o)∧Hid (bC pO 69 2 w.heap.size (fun b=>w.heap.size≤b) wr ov acc))
 case atStart=>exact ⟨_,[x],rs,rfl,by show _=_; simp,by show _∧_; simp,HL,hxA,HR2,HO2⟩
 case round =>
  clear HL hxA HR2 HO2;obtain ⟨ov,acc,us,rfl,hn,hacc,HL,hx,HR,HO⟩:=hrel;obtain ⟨m,rfl⟩:∃ m,gk=m+1:=⟨gk - 1,by have:=hn.out; have:=hacc.out; omega⟩
  have hzr:=hx.size;have HL2:=HL.out;rw [bL] at HL2;have con0:=aY HR.out ⟨#[44]⟩;clear HL HR;rcases hi':bK ⟨#[44]⟩ us with _ | _
  ·rw [hi',bT hi'] at con0;rw [hi',if_neg (by decide)] at HL2;subst HL2;go_wp2_with fail
   refine con0.mono ?_;rintro e w3 ⟨rfl,h3,hb3⟩;have O3:=HO.out.aM iY (fun _ h=>h) (hb3.k1.k (by show ¬ w.heap.size≤R; omega));obtain ⟨av,cv,rfl,hls⟩:=O3.ls iY (fun _ h=>h);have HK:=ah hls;have H3:=ah h3;clear O3 hls h3 HO con0;go_wp2_with fail
   refine I7 (v:=.slice av acc.length cv) (by simp [results,Tryz.results156,go_sem]) rfl ?_;exact Ends.cK rfl (hx.trans hb3) ⟨av,cv,rfl,HK.out⟩ H3.out
  ·rw [hi',cG hi'] at con0;rw [hi',if_pos rfl] at HL2;have HL3:=ah HL2;obtain ⟨a0,c0,e0⟩:=HO.out.len;clear HL2;go_wp2_with fail
   refine con0.mono ?_;rintro e w1 ⟨rfl,h1,hb1⟩;have hx1:=hx.trans hb1;have hz1:=hb1.size;have H1:=ah h1;have HO1:=ah (HO.out.aM iY (fun _ h=>h) (hb1.k1.k (by show ¬ w.heap.size≤R; omega)));subst e0;clear con0;by_cases hbig:(acc.length:Int) ≥ 8
   ·have con1:=gy h1 hbig;have e:M = .error (5,iI (aC us)):=by rw [← HL3.out,if_pos hbig]
    subst e;clear HL3 h1 HO hbig;go_wp2_with fail
    refine con1.mono ?_;rintro e w5 ⟨rfl,hb5⟩;go_wp2_with fail
    exact ⟨rfl,Ends.err rfl (hx1.trans (.of hb5 ak)) (H1.out.next hb5)⟩
   have con1:=je (w:=w1) (R:=R) (n:=(acc.length:Int)) (most:=8) ak;have HL4:Hid (aK (eD (aC us)) (fun x r=>bL eD 8 m (acc ++ [x]) r)=M):=by have:=HL3.out; rw [if_neg hbig] at this; exact this
   have HB:=ah hbig;clear h1 HO hbig HL3;go_wp2_with fail
   refine cR con1 fun w5 hb5=>?_;have hx5:=hx1.trans (.of hb5 ak);have hz5:=hb5.size;clear con1;have HO5:=ah (HO1.out.next iY hb5);have hR5:=H1.out.next hb5;have con2:=qw hR5;generalize eD (aC us)=L at *;clear hR5 HO1 H1;go_wp2_with fail
   refine con2.mono ?_;rintro e w3 ⟨hb3,hW⟩;have hx3:=hx5.trans hb3;have hz3:=hb3.size;clear con2;rcases L with ce | ⟨x,r3⟩
   ·obtain ⟨rfl,us',hE⟩:=hW;have HE:=ah hE;clear hE;have e:=HL4.out.symm;subst e;clear HL4;go_wp2_with fail
    exact ⟨rfl,Ends.err rfl hx3 HE.out⟩
   obtain ⟨v,rfl,rfl,hR3⟩:=hW;have HR3:=ah hR3;have HL5:=ah HL4.out;obtain ⟨hal4,q4⟩:=dZ w3 #[x.1,x.2] 69;have O3:=HO5.out.aM iY (fun _ h=>h) (hb3.k1.k (by show ¬ w.heap.size≤R; omega));have hnb:=HO5.out.lt;obtain ⟨ys,o4,en4⟩:=O3.next iY hal4
   have HKS:Hid (pO (fun b=>w5.heap.size≤b) (w3.alloc (.cells #[x.1,x.2] 69)) x [.string x.1,x.2]):=iY.next (ay.of hal4) (rfl);have EN4:=ah en4;clear hR3 HL4 O3 en4
   go_wp2_with (first | (at_builtin; refine aS rfl _ _ 45 rfl w 69 i0 _ 2 24 Tryz.underlying45 hi hj0 hj1 hj2 rfl (by decide) _ _ _ rfl o4 (af w3 0) 1 1 [.string x.1,x.2] rfl rfl ?Ac1 ?Ac2 ?Ac3 ?Ac4 ?Ac5 ?_))
   case Ac1 =>
    intro i u hu;rw [bG,Jm];exact cell_of (i:=i) q4 (by rw [← hu]; simp)
   case Ac2=>intro u hu; simp at hu; rcases hu with rfl | rfl <;> rfl
   case Ac3=>unfold maxLen; have:=hacc.out; omega
   case Ac4=>have:=hacc.out; omega
   case Ac5=>have:=hal4.size; omega
   intro v' w6 o5 g5 hd5;have z5:=g5.size;have hz4:=hal4.size;have O5:Hid (bC pO 69 2 w.heap.size (fun b=>w.heap.size≤b) w6 v' (acc ++ [x])):=bC.push iY o4 EN4.out rfl (iY.mono (fun b h1 h2=>⟨by have:w5.heap.size≤b:=h1; show w.heap.size≤b; omega,h2,fun e=>by have:=(hnb b e).2; have:w5.heap.size≤b:=h1; omega⟩) HKS.out) o5 g5 (by simpa using hd5);have D5:Below w w3 w6:=(hal4.mono ak).trans ((I8 _ _).grown g5 ak (fun q hq=>by have:=(hnb q hq).1; omega));have hx6:=hx3.low D5 (I6 _) ak
   have H6:=ah (HR3.out.low D5 hltR hltT);clear o4 EN4 o5 g5 hd5 HKS q4 HR3 hal4;go_wp2_with fail
   go_roundg m
   case measure=>omega
   case rel=>exact ⟨_,acc ++ [x],r3,rfl,by show _=_; have:=hn.out; simp; omega,by show _∧_; have:=hacc.out; have:=HB.out; simp; omega,HL5,hx6,H6,O5⟩
theorem DU:(Tryz.prog.info? 53).map (fun i=>(i.zero,i.size,i.bytes))=some (some (.agg #[aB,aB,()]),3,32):=by kernel_rfl
theorem wm {w:World} {R tb:Nat} {ts:List Tk} {o:Int} (h:aR w R tb ts o):Calls Tryz.prog 189 #[af R 0,(8:Int),.func (.func 190) #[af R 0] #[]] w (Ends R tb o w (Ee jQ 3 w.heap.size) (cu cY 8 9 ts)):=by
 obtain ⟨i0,hi,hj0,hj1,hj2⟩:=info_parts DU;have hltR:=h.lt;have hltT:=h.lK;have con:=nR h;generalize hM:cu cY 8 9 ts=M;have HM:Hid (aK (cY ts) (fun x r=>bL cY 8 9 [x] r)=M):=hM;generalize cY ts=L at *;clear h hM;go_enter Tryz.func189,Tryz.ntmps189;go_wp2_with fail
 refine con.mono ?_;rintro e w2 ⟨hb2,hW⟩;clear con;rcases L with ce | ⟨x,rs⟩
 ·obtain ⟨rfl,us,hE⟩:=hW;have HE:Hid (aR w2 R tb us o):=hE;clear hE;have e:M = .error ce:=HM.out.symm;subst e;clear HM;go_wp2_with fail
  exact ⟨rfl,Ends.err rfl hb2 HE.out⟩
 obtain ⟨v,rfl,rfl,hR2⟩:=hW;have HL:=ah HM.out;have hz2:=hb2.size;have HKA:Hid (jQ (fun b=>w.heap.size≤b) w2 x [.int .i64 x.1,x.2.1,x.2.2]):=rfl;have hal2:=bR w2 (.cells #[x.1,x.2.1,x.2.2] 53);have HR2:=ah (hR2.next hal2)
 have HO2:Hid (bC jQ 53 3 w.heap.size (fun b=>w.heap.size≤b) (w2.alloc (.cells #[x.1,x.2.1,x.2.2] 53)) (.slice (some (af w2 0)) 1 1) [x]):=bC.one eU (ca:=#[x.1,x.2.1,x.2.2]) HKA.out rfl ak;have hxA:aj R w (w2.alloc (.cells #[x.1,x.2.1,x.2.2] 53)):=hb2.trans (.of hal2 ak);clear HM hR2 HKA;go_wp2_with fail
 generalize w2.alloc _=wA at *;go_loopg [7] 9 (fun m ow wr=>∃ (ov:Value) (acc:List _) (us:List Tk),ov=ow∧Hid (m+acc.length=10)∧Hid (1≤acc.length∧acc.length≤8)∧Hid (bL cY 8 m acc us=M)∧aj R w wr∧Hid (aR wr R tb us o)∧Hid (bC jQ 53 3 w.heap.size (fun b=>w.heap.size≤b) wr ov acc))
 case atStart=>exact ⟨_,[x],rs,rfl,by show _=_; simp,by show _∧_; simp,HL,hxA,HR2,HO2⟩
 case round =>
  clear HL hxA HR2 HO2;obtain ⟨ov,acc,us,rfl,hn,hacc,HL,hx,HR,HO⟩:=hrel;obtain ⟨m,rfl⟩:∃ m,gk=m+1:=⟨gk - 1,by have:=hn.out; have:=hacc.out; omega⟩
  have hzr:=hx.size;have HL2:=HL.out;rw [bL] at HL2;have con0:=aY HR.out ⟨#[44]⟩;clear HL HR;rcases hi':bK ⟨#[44]⟩ us with _ | _
  ·rw [hi',bT hi'] at con0;rw [hi',if_neg (by decide)] at HL2;subst HL2;go_wp2_with fail
   refine con0.mono ?_;rintro e w3 ⟨rfl,h3,hb3⟩;have O3:=HO.out.aM eU (fun _ h=>h) (hb3.k1.k (by show ¬ w.heap.size≤R; omega));obtain ⟨av,cv,rfl,hls⟩:=O3.ls eU (fun _ h=>h);have HK:=ah hls;have H3:=ah h3;clear O3 hls h3 HO con0;go_wp2_with fail
   refine I7 (v:=.slice av acc.length cv) (by simp [results,Tryz.results189,go_sem]) rfl ?_;exact Ends.cK rfl (hx.trans hb3) ⟨av,cv,rfl,HK.out⟩ H3.out
  ·rw [hi',cG hi'] at con0;rw [hi',if_pos rfl] at HL2;have HL3:=ah HL2;obtain ⟨a0,c0,e0⟩:=HO.out.len;clear HL2;go_wp2_with fail
   refine con0.mono ?_;rintro e w1 ⟨rfl,h1,hb1⟩;have hx1:=hx.trans hb1;have hz1:=hb1.size;have H1:=ah h1;have HO1:=ah (HO.out.aM eU (fun _ h=>h) (hb1.k1.k (by show ¬ w.heap.size≤R; omega)));subst e0;clear con0;by_cases hbig:(acc.length:Int) ≥ 8
   ·have con1:=gy h1 hbig;have e:M = .error (5,iI (aC us)):=by rw [← HL3.out,if_pos hbig]
    subst e;clear HL3 h1 HO hbig;go_wp2_with fail
    refine con1.mono ?_;rintro e w5 ⟨rfl,hb5⟩;go_wp2_with fail
    exact ⟨rfl,Ends.err rfl (hx1.trans (.of hb5 ak)) (H1.out.next hb5)⟩
   have con1:=je (w:=w1) (R:=R) (n:=(acc.length:Int)) (most:=8) ak;have HL4:Hid (aK (cY (aC us)) (fun x r=>bL cY 8 m (acc ++ [x]) r)=M):=by have:=HL3.out; rw [if_neg hbig] at this; exact this
   have HB:=ah hbig;clear h1 HO hbig HL3;go_wp2_with fail
   refine cR con1 fun w5 hb5=>?_;have hx5:=hx1.trans (.of hb5 ak);have hz5:=hb5.size;clear con1;have HO5:=ah (HO1.out.next eU hb5);have hR5:=H1.out.next hb5;have con2:=nR hR5;generalize cY (aC us)=L at *;clear hR5 HO1 H1;go_wp2_with fail
   refine con2.mono ?_;rintro e w3 ⟨hb3,hW⟩;have hx3:=hx5.trans hb3;have hz3:=hb3.size;clear con2;rcases L with ce | ⟨x,r3⟩
   ·obtain ⟨rfl,us',hE⟩:=hW;have HE:=ah hE;clear hE;have e:=HL4.out.symm;subst e;clear HL4;go_wp2_with fail
    exact ⟨rfl,Ends.err rfl hx3 HE.out⟩
   obtain ⟨v,rfl,rfl,hR3⟩:=hW;have HR3:=ah hR3;have HL5:=ah HL4.out;obtain ⟨hal4,q4⟩:=dZ w3 #[x.1,x.2.1,x.2.2] 53;have O3:=HO5.out.aM eU (fun _ h=>h) (hb3.k1.k (by show ¬ w.heap.size≤R; omega));have hnb:=HO5.out.lt;obtain ⟨ys,o4,en4⟩:=O3.next eU hal4
   have HKS:Hid (jQ (fun b=>w5.heap.size≤b) (w3.alloc (.cells #[x.1,x.2.1,x.2.2] 53)) x [.int .i64 x.1,x.2.1,x.2.2]):=eU.next (ay.of hal4) (rfl);have EN4:=ah en4;clear hR3 HL4 O3 en4
   go_wp2_with (first | (at_builtin; refine aS rfl _ _ 70 rfl w 53 i0 _ 3 32 Tryz.underlying70 hi hj0 hj1 hj2 rfl (by decide) _ _ _ rfl o4 (af w3 0) 1 1 [.int .i64 x.1,x.2.1,x.2.2] rfl rfl ?Ac1 ?Ac2 ?Ac3 ?Ac4 ?Ac5 ?_))
   case Ac1 =>
    intro i u hu;rw [bG,Jm];exact cell_of (i:=i) q4 (by rw [← hu]; simp)
   case Ac2=>intro u hu; simp at hu; rcases hu with rfl | rfl | rfl <;> rfl
   case Ac3=>unfold maxLen; have:=hacc.out; omega
   case Ac4=>have:=hacc.out; omega
   case Ac5=>have:=hal4.size; omega
   intro v' w6 o5 g5 hd5;have z5:=g5.size;have hz4:=hal4.size;have O5:Hid (bC jQ 53 3 w.heap.size (fun b=>w.heap.size≤b) w6 v' (acc ++ [x])):=bC.push eU o4 EN4.out rfl (eU.mono (fun b h1 h2=>⟨by have:w5.heap.size≤b:=h1; show w.heap.size≤b; omega,h2,fun e=>by have:=(hnb b e).2; have:w5.heap.size≤b:=h1; omega⟩) HKS.out) o5 g5 (by simpa using hd5);have D5:Below w w3 w6:=(hal4.mono ak).trans ((I8 _ _).grown g5 ak (fun q hq=>by have:=(hnb q hq).1; omega));have hx6:=hx3.low D5 (I6 _) ak
   have H6:=ah (HR3.out.low D5 hltR hltT);clear o4 EN4 o5 g5 hd5 HKS q4 HR3 hal4;go_wp2_with fail
   go_roundg m
   case measure=>omega
   case rel=>exact ⟨_,acc ++ [x],r3,rfl,by show _=_; have:=hn.out; simp; omega,by show _∧_; have:=hacc.out; have:=HB.out; simp; omega,HL5,hx6,H6,O5⟩
theorem FX:(Tryz.prog.info? 55).map (fun i=>(i.zero,i.size,i.bytes))=some (some (.agg gQ),7,96):=by kernel_rfl
theorem pf {w:World} {R tb:Nat} {ts:List Tk} (h:aR w R tb ts 0):Calls Tryz.prog 163 #[af R 0,(8:Int),.func (.func 164) #[af R 0] #[]] w (Ends R tb 0 w (Ee fu 7 w.heap.size) (cu eP 8 9 ts)):=by
 obtain ⟨i0,hi,hj0,hj1,hj2⟩:=info_parts FX;have hltR:=h.lt;have hltT:=h.lK;have con:=sF h;generalize hM:cu eP 8 9 ts=M;have HM:Hid (aK (eP ts) (fun x r=>bL eP 8 9 [x] r)=M):=hM;generalize eP ts=L at *;clear h hM;go_enter Tryz.func163,Tryz.ntmps163;go_wp2_with fail
 refine con.mono ?_;rintro e w2 ⟨hb2,hW⟩;clear con;rcases L with ce | ⟨x,rs⟩
 ·obtain ⟨rfl,us,hE⟩:=hW;have HE:Hid (aR w2 R tb us 0):=hE;clear hE;have e:M = .error ce:=HM.out.symm;subst e;clear HM;go_wp2_with fail
  exact ⟨rfl,Ends.err rfl hb2 HE.out⟩
 obtain ⟨v,rfl,⟨a,c,rfl,hks⟩,hR2⟩:=hW;have HL:=ah HM.out;have hz2:=hb2.size;have HKA:Hid (fu (fun b=>w.heap.size≤b) w2 x [.int .i64 x.k,x.v.1,x.v.2.1,x.v.2.2,x.bp,x.name,.slice a x.ks.length c]):=⟨a,c,rfl,aJ.mono (fun b h _=>by have:_≤b:=h; show _≤b; omega) hks⟩
 have hal2:=bR w2 (.cells #[x.k,x.v.1,x.v.2.1,x.v.2.2,x.bp,x.name,.slice a x.ks.length c] 55);have HR2:=ah (hR2.next hal2)
 have HO2:Hid (bC fu 55 7 w.heap.size (fun b=>w.heap.size≤b) (w2.alloc (.cells #[x.k,x.v.1,x.v.2.1,x.v.2.2,x.bp,x.name,.slice a x.ks.length c] 55)) (.slice (some (af w2 0)) 1 1) [x]):=bC.one b9 (ca:=#[x.k,x.v.1,x.v.2.1,x.v.2.2,x.bp,x.name,.slice a x.ks.length c]) HKA.out rfl ak
 have hxA:aj R w (w2.alloc (.cells #[x.k,x.v.1,x.v.2.1,x.v.2.2,x.bp,x.name,.slice a x.ks.length c] 55)):=hb2.trans (.of hal2 ak);clear HM hR2 HKA hks;go_wp2_with fail
 generalize w2.alloc _=wA at *;go_loopg [7] 9 (fun m ow wr=>∃ (ov:Value) (acc:List _) (us:List Tk),ov=ow∧Hid (m+acc.length=10)∧Hid (1≤acc.length∧acc.length≤8)∧Hid (bL eP 8 m acc us=M)∧aj R w wr∧Hid (aR wr R tb us 0)∧Hid (bC fu 55 7 w.heap.size (fun b=>w.heap.size≤b) wr ov acc))
 case atStart=>exact ⟨_,[x],rs,rfl,by show _=_; simp,by show _∧_; simp,HL,hxA,HR2,HO2⟩
 case round =>
  clear HL hxA HR2 HO2;obtain ⟨ov,acc,us,rfl,hn,hacc,HL,hx,HR,HO⟩:=hrel;obtain ⟨m,rfl⟩:∃ m,gk=m+1:=⟨gk - 1,by have:=hn.out; have:=hacc.out; omega⟩
  have hzr:=hx.size;have HL2:=HL.out;rw [bL] at HL2;have con0:=aY HR.out ⟨#[44]⟩;clear HL HR;rcases hi':bK ⟨#[44]⟩ us with _ | _
  ·rw [hi',bT hi'] at con0;rw [hi',if_neg (by decide)] at HL2;subst HL2;go_wp2_with fail
   refine con0.mono ?_;rintro e w3 ⟨rfl,h3,hb3⟩;have O3:=HO.out.aM b9 (fun _ h=>h) (hb3.k1.k (by show ¬ w.heap.size≤R; omega));obtain ⟨av,cv,rfl,hls⟩:=O3.ls b9 (fun _ h=>h);have HK:=ah hls;have H3:=ah h3;clear O3 hls h3 HO con0;go_wp2_with fail
   refine I7 (v:=.slice av acc.length cv) (by simp [results,Tryz.results163,go_sem]) rfl ?_;exact Ends.cK rfl (hx.trans hb3) ⟨av,cv,rfl,HK.out⟩ H3.out
  ·rw [hi',cG hi'] at con0;rw [hi',if_pos rfl] at HL2;have HL3:=ah HL2;obtain ⟨a0,c0,e0⟩:=HO.out.len;clear HL2;go_wp2_with fail
   refine con0.mono ?_;rintro e w1 ⟨rfl,h1,hb1⟩;have hx1:=hx.trans hb1;have hz1:=hb1.size;have H1:=ah h1;have HO1:=ah (HO.out.aM b9 (fun _ h=>h) (hb1.k1.k (by show ¬ w.heap.size≤R; omega)));subst e0;clear con0;by_cases hbig:(acc.length:Int) ≥ 8
   ·have con1:=gy h1 hbig;have e:M = .error (5,iI (aC us)):=by rw [← HL3.out,if_pos hbig]
    subst e;clear HL3 h1 HO hbig;go_wp2_with fail
    refine con1.mono ?_;rintro e w5 ⟨rfl,hb5⟩;go_wp2_with fail
    exact ⟨rfl,Ends.err rfl (hx1.trans (.of hb5 ak)) (H1.out.next hb5)⟩
   have con1:=je (w:=w1) (R:=R) (n:=(acc.length:Int)) (most:=8) ak;have HL4:Hid (aK (eP (aC us)) (fun x r=>bL eP 8 m (acc ++ [x]) r)=M):=by have:=HL3.out; rw [if_neg hbig] at this; exact this
   have HB:=ah hbig;clear h1 HO hbig HL3;go_wp2_with fail
   refine cR con1 fun w5 hb5=>?_;have hx5:=hx1.trans (.of hb5 ak);have hz5:=hb5.size;clear con1;have HO5:=ah (HO1.out.next b9 hb5);have hR5:=H1.out.next hb5;have con2:=sF hR5;generalize eP (aC us)=L at *;clear hR5 HO1 H1;go_wp2_with fail
   refine con2.mono ?_;rintro e w3 ⟨hb3,hW⟩;have hx3:=hx5.trans hb3;have hz3:=hb3.size;clear con2;rcases L with ce | ⟨x,r3⟩
   ·obtain ⟨rfl,us',hE⟩:=hW;have HE:=ah hE;clear hE;have e:=HL4.out.symm;subst e;clear HL4;go_wp2_with fail
    exact ⟨rfl,Ends.err rfl hx3 HE.out⟩
   obtain ⟨v,rfl,⟨a,c,rfl,hks⟩,hR3⟩:=hW;have HR3:=ah hR3;have HL5:=ah HL4.out;obtain ⟨hal4,q4⟩:=dZ w3 #[x.k,x.v.1,x.v.2.1,x.v.2.2,x.bp,x.name,.slice a x.ks.length c] 55
   have O3:=HO5.out.aM b9 (fun _ h=>h) (hb3.k1.k (by show ¬ w.heap.size≤R; omega));have hnb:=HO5.out.lt;obtain ⟨ys,o4,en4⟩:=O3.next b9 hal4
   have HKS:Hid (fu (fun b=>w5.heap.size≤b) (w3.alloc (.cells #[x.k,x.v.1,x.v.2.1,x.v.2.2,x.bp,x.name,.slice a x.ks.length c] 55)) x [.int .i64 x.k,x.v.1,x.v.2.1,x.v.2.2,x.bp,x.name,.slice a x.ks.length c]):=b9.next (ay.of hal4) (⟨a,c,rfl,aJ.mono (fun b h _=>by have:_≤b:=h; show _≤b; omega) hks⟩)
   have EN4:=ah en4;clear hR3 HL4 O3 en4 hks
   go_wp2_with (first | (at_builtin; refine aS rfl _ _ 48 rfl w 55 i0 _ 7 96 Tryz.underlying48 hi hj0 hj1 hj2 rfl (by decide) _ _ _ rfl o4 (af w3 0) 1 1 [.int .i64 x.k,x.v.1,x.v.2.1,x.v.2.2,x.bp,x.name,.slice a x.ks.length c] rfl rfl ?Ac1 ?Ac2 ?Ac3 ?Ac4 ?Ac5 ?_))
   case Ac1 =>
    intro i u hu;rw [bG,Jm];exact cell_of (i:=i) q4 (by rw [← hu]; simp)
   case Ac2=>intro u hu; simp at hu; rcases hu with rfl | rfl | rfl | rfl | rfl | rfl | rfl <;> rfl
   case Ac3=>unfold maxLen; have:=hacc.out; omega
   case Ac4=>have:=hacc.out; omega
   case Ac5=>have:=hal4.size; omega
   intro v' w6 o5 g5 hd5;have z5:=g5.size;have hz4:=hal4.size;have O5:Hid (bC fu 55 7 w.heap.size (fun b=>w.heap.size≤b) w6 v' (acc ++ [x])):=bC.push b9 o4 EN4.out rfl (b9.mono (fun b h1 h2=>⟨by have:w5.heap.size≤b:=h1; show w.heap.size≤b; omega,h2,fun e=>by have:=(hnb b e).2; have:w5.heap.size≤b:=h1; omega⟩) HKS.out) o5 g5 (by simpa using hd5);have D5:Below w w3 w6:=(hal4.mono ak).trans ((I8 _ _).grown g5 ak (fun q hq=>by have:=(hnb q hq).1; omega));have hx6:=hx3.low D5 (I6 _) ak
   have H6:=ah (HR3.out.low D5 hltR hltT);clear o4 EN4 o5 g5 hd5 HKS q4 HR3 hal4;go_wp2_with fail
   go_roundg m
   case measure=>omega
   case rel=>exact ⟨_,acc ++ [x],r3,rfl,by show _=_; have:=hn.out; simp; omega,by show _∧_; have:=hacc.out; have:=HB.out; simp; omega,HL5,hx6,H6,O5⟩
theorem D0:(Tryz.prog.info? 75).map (fun i=>(i.zero,i.size,i.bytes))=some (some (.agg #[aB,aB,aB,(),(),(),aL,()]),8,112):=by kernel_rfl
theorem uY {w:World} {R tb:Nat} {ts:List Tk} (h:aR w R tb ts 0):Calls Tryz.prog 191 #[af R 0,(8:Int),.func (.func 192) #[af R 0] #[]] w (Ends R tb 0 w (Ee kl 8 w.heap.size) (cu gH 8 9 ts)):=by
 obtain ⟨i0,hi,hj0,hj1,hj2⟩:=info_parts D0;have hltR:=h.lt;have hltT:=h.lK;have con:=wY h;generalize hM:cu gH 8 9 ts=M;have HM:Hid (aK (gH ts) (fun x r=>bL gH 8 9 [x] r)=M):=hM;generalize gH ts=L at *;clear h hM;go_enter Tryz.func191,Tryz.ntmps191;go_wp2_with fail
 refine con.mono ?_;rintro e w2 ⟨hb2,hW⟩;clear con;rcases L with ce | ⟨x,rs⟩
 ·obtain ⟨rfl,us,hE⟩:=hW;have HE:Hid (aR w2 R tb us 0):=hE;clear hE;have e:M = .error ce:=HM.out.symm;subst e;clear HM;go_wp2_with fail
  exact ⟨rfl,Ends.err rfl hb2 HE.out⟩
 obtain ⟨v,rfl,⟨a,c,rfl,hks⟩,hR2⟩:=hW;have HL:=ah HM.out;have hz2:=hb2.size;have HKA:Hid (kl (fun b=>w.heap.size≤b) w2 x [.int .i64 x.1.k,x.1.v.1,x.1.v.2.1,x.1.v.2.2,x.1.bp,x.1.name,.slice a x.1.ks.length c,x.2]):=⟨a,c,rfl,aJ.mono (fun b h _=>by have:_≤b:=h; show _≤b; omega) hks⟩
 have hal2:=bR w2 (.cells #[x.1.k,x.1.v.1,x.1.v.2.1,x.1.v.2.2,x.1.bp,x.1.name,.slice a x.1.ks.length c,x.2] 75);have HR2:=ah (hR2.next hal2)
 have HO2:Hid (bC kl 75 8 w.heap.size (fun b=>w.heap.size≤b) (w2.alloc (.cells #[x.1.k,x.1.v.1,x.1.v.2.1,x.1.v.2.2,x.1.bp,x.1.name,.slice a x.1.ks.length c,x.2] 75)) (.slice (some (af w2 0)) 1 1) [x]):=bC.one fp (ca:=#[x.1.k,x.1.v.1,x.1.v.2.1,x.1.v.2.2,x.1.bp,x.1.name,.slice a x.1.ks.length c,x.2]) HKA.out rfl ak
 have hxA:aj R w (w2.alloc (.cells #[x.1.k,x.1.v.1,x.1.v.2.1,x.1.v.2.2,x.1.bp,x.1.name,.slice a x.1.ks.length c,x.2] 75)):=hb2.trans (.of hal2 ak);clear HM hR2 HKA hks;go_wp2_with fail
 generalize w2.alloc _=wA at *;go_loopg [7] 9 (fun m ow wr=>∃ (ov:Value) (acc:List _) (us:List Tk),ov=ow∧Hid (m+acc.length=10)∧Hid (1≤acc.length∧acc.length≤8)∧Hid (bL gH 8 m acc us=M)∧aj R w wr∧Hid (aR wr R tb us 0)∧Hid (bC kl 75 8 w.heap.size (fun b=>w.heap.size≤b) wr ov acc))
 case atStart=>exact ⟨_,[x],rs,rfl,by show _=_; simp,by show _∧_; simp,HL,hxA,HR2,HO2⟩
 case round =>
  clear HL hxA HR2 HO2;obtain ⟨ov,acc,us,rfl,hn,hacc,HL,hx,HR,HO⟩:=hrel;obtain ⟨m,rfl⟩:∃ m,gk=m+1:=⟨gk - 1,by have:=hn.out; have:=hacc.out; omega⟩
  have hzr:=hx.size;have HL2:=HL.out;rw [bL] at HL2;have con0:=aY HR.out ⟨#[44]⟩;clear HL HR;rcases hi':bK ⟨#[44]⟩ us with _ | _
  ·rw [hi',bT hi'] at con0;rw [hi',if_neg (by decide)] at HL2;subst HL2;go_wp2_with fail
   refine con0.mono ?_;rintro e w3 ⟨rfl,h3,hb3⟩;have O3:=HO.out.aM fp (fun _ h=>h) (hb3.k1.k (by show ¬ w.heap.size≤R; omega));obtain ⟨av,cv,rfl,hls⟩:=O3.ls fp (fun _ h=>h);have HK:=ah hls;have H3:=ah h3;clear O3 hls h3 HO con0;go_wp2_with fail
   refine I7 (v:=.slice av acc.length cv) (by simp [results,Tryz.results191,go_sem]) rfl ?_;exact Ends.cK rfl (hx.trans hb3) ⟨av,cv,rfl,HK.out⟩ H3.out
  ·rw [hi',cG hi'] at con0;rw [hi',if_pos rfl] at HL2;have HL3:=ah HL2;obtain ⟨a0,c0,e0⟩:=HO.out.len;clear HL2;go_wp2_with fail
   refine con0.mono ?_;rintro e w1 ⟨rfl,h1,hb1⟩;have hx1:=hx.trans hb1;have hz1:=hb1.size;have H1:=ah h1;have HO1:=ah (HO.out.aM fp (fun _ h=>h) (hb1.k1.k (by show ¬ w.heap.size≤R; omega)));subst e0;clear con0;by_cases hbig:(acc.length:Int) ≥ 8
   ·have con1:=gy h1 hbig;have e:M = .error (5,iI (aC us)):=by rw [← HL3.out,if_pos hbig]
    subst e;clear HL3 h1 HO hbig;go_wp2_with fail
    refine con1.mono ?_;rintro e w5 ⟨rfl,hb5⟩;go_wp2_with fail
    exact ⟨rfl,Ends.err rfl (hx1.trans (.of hb5 ak)) (H1.out.next hb5)⟩
   have con1:=je (w:=w1) (R:=R) (n:=(acc.length:Int)) (most:=8) ak;have HL4:Hid (aK (gH (aC us)) (fun x r=>bL gH 8 m (acc ++ [x]) r)=M):=by have:=HL3.out; rw [if_neg hbig] at this; exact this
   have HB:=ah hbig;clear h1 HO hbig HL3;go_wp2_with fail
   refine cR con1 fun w5 hb5=>?_;have hx5:=hx1.trans (.of hb5 ak);have hz5:=hb5.size;clear con1;have HO5:=ah (HO1.out.next fp hb5);have hR5:=H1.out.next hb5;have con2:=wY hR5;generalize gH (aC us)=L at *;clear hR5 HO1 H1;go_wp2_with fail
   refine con2.mono ?_;rintro e w3 ⟨hb3,hW⟩;have hx3:=hx5.trans hb3;have hz3:=hb3.size;clear con2;rcases L with ce | ⟨x,r3⟩
   ·obtain ⟨rfl,us',hE⟩:=hW;have HE:=ah hE;clear hE;have e:=HL4.out.symm;subst e;clear HL4;go_wp2_with fail
    exact ⟨rfl,Ends.err rfl hx3 HE.out⟩
   obtain ⟨v,rfl,⟨a,c,rfl,hks⟩,hR3⟩:=hW;have HR3:=ah hR3;have HL5:=ah HL4.out;obtain ⟨hal4,q4⟩:=dZ w3 #[x.1.k,x.1.v.1,x.1.v.2.1,x.1.v.2.2,x.1.bp,x.1.name,.slice a x.1.ks.length c,x.2] 75
   have O3:=HO5.out.aM fp (fun _ h=>h) (hb3.k1.k (by show ¬ w.heap.size≤R; omega));have hnb:=HO5.out.lt;obtain ⟨ys,o4,en4⟩:=O3.next fp hal4
   have HKS:Hid (kl (fun b=>w5.heap.size≤b) (w3.alloc (.cells #[x.1.k,x.1.v.1,x.1.v.2.1,x.1.v.2.2,x.1.bp,x.1.name,.slice a x.1.ks.length c,x.2] 75)) x [.int .i64 x.1.k,x.1.v.1,x.1.v.2.1,x.1.v.2.2,x.1.bp,x.1.name,.slice a x.1.ks.length c,x.2]):=fp.next (ay.of hal4) (⟨a,c,rfl,aJ.mono (fun b h _=>by have:_≤b:=h; show _≤b; omega) hks⟩)
   have EN4:=ah en4;clear hR3 HL4 O3 en4 hks
   go_wp2_with (first | (at_builtin; refine aS rfl _ _ 76 rfl w 75 i0 _ 8 112 Tryz.underlying76 hi hj0 hj1 hj2 rfl (by decide) _ _ _ rfl o4 (af w3 0) 1 1 [.int .i64 x.1.k,x.1.v.1,x.1.v.2.1,x.1.v.2.2,x.1.bp,x.1.name,.slice a x.1.ks.length c,x.2] rfl rfl ?Ac1 ?Ac2 ?Ac3 ?Ac4 ?Ac5 ?_))
   case Ac1 =>
    intro i u hu;rw [bG,Jm];exact cell_of (i:=i) q4 (by rw [← hu]; simp)
   case Ac2=>intro u hu; simp at hu; rcases hu with rfl | rfl | rfl | rfl | rfl | rfl | rfl | rfl <;> rfl
   case Ac3=>unfold maxLen; have:=hacc.out; omega
   case Ac4=>have:=hacc.out; omega
   case Ac5=>have:=hal4.size; omega
   intro v' w6 o5 g5 hd5;have z5:=g5.size;have hz4:=hal4.size;have O5:Hid (bC kl 75 8 w.heap.size (fun b=>w.heap.size≤b) w6 v' (acc ++ [x])):=bC.push fp o4 EN4.out rfl (fp.mono (fun b h1 h2=>⟨by have:w5.heap.size≤b:=h1; show w.heap.size≤b; omega,h2,fun e=>by have:=(hnb b e).2; have:w5.heap.size≤b:=h1; omega⟩) HKS.out) o5 g5 (by simpa using hd5);have D5:Below w w3 w6:=(hal4.mono ak).trans ((I8 _ _).grown g5 ak (fun q hq=>by have:=(hnb q hq).1; omega));have hx6:=hx3.low D5 (I6 _) ak
   have H6:=ah (HR3.out.low D5 hltR hltT);clear o4 EN4 o5 g5 hd5 HKS q4 HR3 hal4;go_wp2_with fail
   go_roundg m
   case measure=>omega
   case rel=>exact ⟨_,acc ++ [x],r3,rfl,by show _=_; have:=hn.out; simp; omega,by show _∧_; have:=hacc.out; have:=HB.out; simp; omega,HL5,hx6,H6,O5⟩
theorem bI {α β:Type} {x:α} {ts:List Tk} {k:α→List Tk→PR β}:aK (.ok (x,ts)) k=k x ts:=rfl
theorem Ax {w:World} {R tb:Nat} {ts:List Tk} {o:Int} (h:aR w R tb ts o):Calls Tryz.prog 159 #[af R 0] w (Ends R tb o w (Ee jQ 3 w.heap.size) (jJ ts)):=by
 have hmf:∀ (fn:Fn) (first cap:Array Value) (w:World),(Instr.makeFunc fn first cap).run Tryz.prog w = .ok (.func fn first cap) w:=fun _ _ _ _=>rfl
 have hltR:=h.lt;have hltT:=h.lK;have hx0:aj R w w:=aj.refl _ _;have HR0:=ah h;generalize hM:jJ ts=M;unfold jJ at hM;try dsimp only at hM
 have HM0:=ah hM;clear h hM;go_enter Tryz.func159,Tryz.ntmps159;have hal1:=bR w (.cells #[.string ⟨#[40]⟩] 9);have hsw3:=hx0.size;have con2:=de (cap:=1) (HR0.out.next hal1) (dh.one w ⟨#[40]⟩ 9) ak (by simp);have hm:=HM0.out;generalize aV [⟨#[40]⟩] ts=L at hm con2;have HM8:=ah hm;clear hm HM0 HR0;go_wp2_with fail
 generalize w.alloc _=wa4 at *;refine con2.mono ?_;rintro e w3 ⟨hb5,hW⟩;have hxa6:aj R w w3:=(aj.of hal1 ak).trans hb5;have hx7:=hx0.trans hxa6;clear con2 hal1 hb5;rcases L with ce | ⟨u10,r9⟩
 ·obtain ⟨rfl,us,hE⟩:=hW;have HE:=ah hE;clear hE;have e:=HM8.out.symm;subst e;clear HM8;go_wp2_with fail
  exact ⟨rfl,Ends.err rfl hx7 HE.out⟩
 obtain ⟨v,rfl,rfl,hR⟩:=hW;have HR11:=ah hR;have hm:=HM8.out;simp only [bI] at hm;have HM12:=ah hm;clear hm hR HM8;have hsw14:=hx7.size;have con13:=wm HR11.out;have hm:=HM12.out;generalize cu cY 8 9 r9=L at hm con13;have HM17:=ah hm;clear hm HM12 HR11;go_wp2_with fail
 refine con13.mono ?_;rintro e w14 ⟨hb15,hW⟩;have hx16:=hx7.trans hb15;clear con13;rcases L with ce | ⟨l,r18⟩
 ·obtain ⟨rfl,us,hE⟩:=hW;have HE:=ah hE;clear hE;have e:=HM17.out.symm;subst e;clear HM17;go_wp2_with fail
  exact ⟨rfl,Ends.err rfl hx16 HE.out⟩
 obtain ⟨v,rfl,⟨a,c,rfl,hls⟩,hR⟩:=hW;have HR19:=ah hR;have hm:=HM17.out;simp only [bI] at hm;have HM20:=ah hm;clear hm hR HM17;have HK21:Hid ((iB jQ 3) (fun b=>w3.heap.size≤b) w14 l [.slice a l.length c]):=⟨a,c,rfl,hls⟩
 clear hls;have hal22:=bR w14 (.cells #[.string ⟨#[41]⟩] 9);have hsw24:=hx16.size;have con23:=de (cap:=1) (HR19.out.next hal22) (dh.one w14 ⟨#[41]⟩ 9) ak (by simp);have hm:=HM20.out;generalize aV [⟨#[41]⟩] r18=L at hm con23;have HM29:=ah hm;clear hm HM20 HR19;go_wp2_with fail
 generalize w14.alloc _=wa25 at *;refine con23.mono ?_;rintro e w24 ⟨hb26,hW⟩;have hxa27:aj R w14 w24:=(aj.of hal22 ak).trans hb26;have hx28:=hx16.trans hxa27;have HK31:=ah ((br eU 3).next (hxa27.k1.k (by show ¬ _≤R; omega)) HK21.out);clear HK21;clear con23 hal22 hb26;rcases L with ce | ⟨u32,r30⟩
 ·obtain ⟨rfl,us,hE⟩:=hW;have HE:=ah hE;clear hE;have e:=HM29.out.symm;subst e;clear HM29;go_wp2_with fail
  exact ⟨rfl,Ends.err rfl hx28 HE.out⟩
 obtain ⟨v,rfl,rfl,hR⟩:=hW;have HR33:=ah hR;have hm:=HM29.out;simp only [bI] at hm;have HM34:=ah hm;clear hm hR HM29;have e:=HM34.out;subst e;clear HM34;go_wp2_with fail
 refine I7 (v:=.slice a l.length c) (by simp [results,Tryz.results159,go_sem]) rfl ?_;obtain ⟨a',c',e',hl⟩:=HK31.out;obtain ⟨rfl,rfl⟩:a=a'∧c=c':=by simpa using e'
 exact Ends.cK rfl hx28 ⟨a,c,rfl,hl.mono eU (fun b h _=>by have:_≤b:=h; show _≤b; omega)⟩ HR33.out
theorem DT:(Tryz.prog.info? 70).map (fun i=>(i.zero,i.size,i.bytes))=some (some (.slice none 0 0),1,24):=by kernel_rfl
theorem wJ {w:World} {R tb:Nat} {ts:List Tk} {o:Int} (h:aR w R tb ts o):Calls Tryz.prog 158 #[af R 0,(400:Int),.func (.func 159) #[af R 0] #[]] w (Ends R tb o w (Ee (iB jQ 3) 1 w.heap.size) (cu jJ 400 401 ts)):=by
 obtain ⟨i0,hi,hj0,hj1,hj2⟩:=info_parts DT;have hltR:=h.lt;have hltT:=h.lK;have con:=Ax h;generalize hM:cu jJ 400 401 ts=M;have HM:Hid (aK (jJ ts) (fun x r=>bL jJ 400 401 [x] r)=M):=hM;generalize jJ ts=L at *;clear h hM;go_enter Tryz.func158,Tryz.ntmps158;go_wp2_with fail
 refine con.mono ?_;rintro e w2 ⟨hb2,hW⟩;clear con;rcases L with ce | ⟨x,rs⟩
 ·obtain ⟨rfl,us,hE⟩:=hW;have HE:Hid (aR w2 R tb us o):=hE;clear hE;have e:M = .error ce:=HM.out.symm;subst e;clear HM;go_wp2_with fail
  exact ⟨rfl,Ends.err rfl hb2 HE.out⟩
 obtain ⟨v,rfl,⟨a,c,rfl,hks⟩,hR2⟩:=hW;have HL:=ah HM.out;have hz2:=hb2.size;have HKA:Hid ((iB jQ 3) (fun b=>w.heap.size≤b) w2 x [.slice a x.length c]):=⟨a,c,rfl,hks.mono eU (fun b h _=>by have:_≤b:=h; show _≤b; omega)⟩
 have hal2:=bR w2 (.cells #[.slice a x.length c] 70);have HR2:=ah (hR2.next hal2);have HO2:Hid (bC (iB jQ 3) 70 1 w.heap.size (fun b=>w.heap.size≤b) (w2.alloc (.cells #[.slice a x.length c] 70)) (.slice (some (af w2 0)) 1 1) [x]):=bC.one (br eU 3) (ca:=#[.slice a x.length c]) HKA.out rfl ak;have hxA:aj R w (w2.alloc (.cells #[.slice a x.length c] 70)):=hb2.trans (.of hal2 ak);clear HM hR2 HKA hks;go_wp2_with fail
 generalize w2.alloc _=wA at *;go_loopg [7] 401 (fun m ow wr=>∃ (ov:Value) (acc:List _) (us:List Tk),ov=ow∧Hid (m+acc.length=402)∧Hid (1≤acc.length∧acc.length≤400)∧Hid (bL jJ 400 m acc us=M)∧aj R w wr∧Hid (aR wr R tb us o)∧Hid (bC (iB jQ 3) 70 1 w.heap.size (fun b=>w.heap.size≤b) wr ov acc))
 case atStart=>exact ⟨_,[x],rs,rfl,by show _=_; simp,by show _∧_; simp,HL,hxA,HR2,HO2⟩
 case round =>
  clear HL hxA HR2 HO2;obtain ⟨ov,acc,us,rfl,hn,hacc,HL,hx,HR,HO⟩:=hrel;obtain ⟨m,rfl⟩:∃ m,gk=m+1:=⟨gk - 1,by have:=hn.out; have:=hacc.out; omega⟩
  have hzr:=hx.size;have HL2:=HL.out;rw [bL] at HL2;have con0:=aY HR.out ⟨#[44]⟩;clear HL HR;rcases hi':bK ⟨#[44]⟩ us with _ | _
  ·rw [hi',bT hi'] at con0;rw [hi',if_neg (by decide)] at HL2;subst HL2;go_wp2_with fail
   refine con0.mono ?_;rintro e w3 ⟨rfl,h3,hb3⟩;have O3:=HO.out.aM (br eU 3) (fun _ h=>h) (hb3.k1.k (by show ¬ w.heap.size≤R; omega));obtain ⟨av,cv,rfl,hls⟩:=O3.ls (br eU 3) (fun _ h=>h);have HK:=ah hls;have H3:=ah h3;clear O3 hls h3 HO con0;go_wp2_with fail
   refine I7 (v:=.slice av acc.length cv) (by simp [results,Tryz.results158,go_sem]) rfl ?_;exact Ends.cK rfl (hx.trans hb3) ⟨av,cv,rfl,HK.out⟩ H3.out
  ·rw [hi',cG hi'] at con0;rw [hi',if_pos rfl] at HL2;have HL3:=ah HL2;obtain ⟨a0,c0,e0⟩:=HO.out.len;clear HL2;go_wp2_with fail
   refine con0.mono ?_;rintro e w1 ⟨rfl,h1,hb1⟩;have hx1:=hx.trans hb1;have hz1:=hb1.size;have H1:=ah h1;have HO1:=ah (HO.out.aM (br eU 3) (fun _ h=>h) (hb1.k1.k (by show ¬ w.heap.size≤R; omega)));subst e0;clear con0;by_cases hbig:(acc.length:Int) ≥ 400
   ·have con1:=gy h1 hbig;have e:M = .error (5,iI (aC us)):=by rw [← HL3.out,if_pos hbig]
    subst e;clear HL3 h1 HO hbig;go_wp2_with fail
    refine con1.mono ?_;rintro e w5 ⟨rfl,hb5⟩;go_wp2_with fail
    exact ⟨rfl,Ends.err rfl (hx1.trans (.of hb5 ak)) (H1.out.next hb5)⟩
   have con1:=je (w:=w1) (R:=R) (n:=(acc.length:Int)) (most:=400) ak;have HL4:Hid (aK (jJ (aC us)) (fun x r=>bL jJ 400 m (acc ++ [x]) r)=M):=by have:=HL3.out; rw [if_neg hbig] at this; exact this
   have HB:=ah hbig;clear h1 HO hbig HL3;go_wp2_with fail
   refine cR con1 fun w5 hb5=>?_;have hx5:=hx1.trans (.of hb5 ak);have hz5:=hb5.size;clear con1;have HO5:=ah (HO1.out.next (br eU 3) hb5);have hR5:=H1.out.next hb5;have con2:=Ax hR5;generalize jJ (aC us)=L at *;clear hR5 HO1 H1;go_wp2_with fail
   refine con2.mono ?_;rintro e w3 ⟨hb3,hW⟩;have hx3:=hx5.trans hb3;have hz3:=hb3.size;clear con2;rcases L with ce | ⟨x,r3⟩
   ·obtain ⟨rfl,us',hE⟩:=hW;have HE:=ah hE;clear hE;have e:=HL4.out.symm;subst e;clear HL4;go_wp2_with fail
    exact ⟨rfl,Ends.err rfl hx3 HE.out⟩
   obtain ⟨v,rfl,⟨a,c,rfl,hks⟩,hR3⟩:=hW;have HR3:=ah hR3;have HL5:=ah HL4.out;obtain ⟨hal4,q4⟩:=dZ w3 #[.slice a x.length c] 70;have O3:=HO5.out.aM (br eU 3) (fun _ h=>h) (hb3.k1.k (by show ¬ w.heap.size≤R; omega));have hnb:=HO5.out.lt;obtain ⟨ys,o4,en4⟩:=O3.next (br eU 3) hal4
   have HKS:Hid ((iB jQ 3) (fun b=>w5.heap.size≤b) (w3.alloc (.cells #[.slice a x.length c] 70)) x [.slice a x.length c]):=(br eU 3).next (ay.of hal4) (⟨a,c,rfl,hks.mono eU (fun b h _=>by have:_≤b:=h; show _≤b; omega)⟩);have EN4:=ah en4;clear hR3 HL4 O3 en4 hks
   go_wp2_with (first | (at_builtin; refine aS rfl _ _ 51 rfl w 70 i0 _ 1 24 Tryz.underlying51 hi hj0 hj1 hj2 rfl (by decide) _ _ _ rfl o4 (af w3 0) 1 1 [.slice a x.length c] rfl rfl ?Ac1 ?Ac2 ?Ac3 ?Ac4 ?Ac5 ?_))
   case Ac1 =>
    intro i u hu;rw [bG,Jm];exact cell_of (i:=i) q4 (by rw [← hu]; simp)
   case Ac2=>intro u hu; simp at hu; subst hu; rfl
   case Ac3=>unfold maxLen; have:=hacc.out; omega
   case Ac4=>have:=hacc.out; omega
   case Ac5=>have:=hal4.size; omega
   intro v' w6 o5 g5 hd5;have z5:=g5.size;have hz4:=hal4.size;have O5:Hid (bC (iB jQ 3) 70 1 w.heap.size (fun b=>w.heap.size≤b) w6 v' (acc ++ [x])):=bC.push (br eU 3) o4 EN4.out rfl ((br eU 3).mono (fun b h1 h2=>⟨by have:w5.heap.size≤b:=h1; show w.heap.size≤b; omega,h2,fun e=>by have:=(hnb b e).2; have:w5.heap.size≤b:=h1; omega⟩) HKS.out) o5 g5 (by simpa using hd5);have D5:Below w w3 w6:=(hal4.mono ak).trans ((I8 _ _).grown g5 ak (fun q hq=>by have:=(hnb q hq).1; omega));have hx6:=hx3.low D5 (I6 _) ak
   have H6:=ah (HR3.out.low D5 hltR hltT);clear o4 EN4 o5 g5 hd5 HKS q4 HR3 hal4;go_wp2_with fail
   go_roundg m
   case measure=>omega
   case rel=>exact ⟨_,acc ++ [x],r3,rfl,by show _=_; have:=hn.out; simp; omega,by show _∧_; have:=hacc.out; have:=HB.out; simp; omega,HL5,hx6,H6,O5⟩
def gj:jP Src:=fun S W x cs=>∃ a c,cs = [.int .i64 x.kind,.string x.name,.string x.alias,.int .i64 x.on.k,.int .i64 x.on.v.1,.int .i64 x.on.v.2.1,.string x.on.v.2.2,.string x.on.bp,.string x.on.name,.slice a x.on.ks.length c]∧aJ S W a x.on.ks
theorem cU:fW gj:=⟨fun hk ⟨a,c,e,h⟩=>⟨a,c,e,h.aM hk⟩,fun hs ⟨a,c,e,h⟩=>⟨a,c,e,aJ.mono hs h⟩⟩
def EE (m:Nat) (acc:List Src) (kind:Int) (r:List Tk):PR (List Src):=if kind=0 then .ok (acc,r) else if (acc.length:Int) ≥ 4 then .error (5,iI r) else
 aK (fC kind r) fun s r2=>aK (aV [⟨#[111,110]⟩] r2) fun _ r3=>aK (eP r3) fun x r4=>cz m (acc ++ [{ s with on:=x }]) r4
theorem mq (m:Nat) (acc:List Src) (ts:List Tk):cz (m+1) acc ts=aK (dQ ts) (fun kind r=>EE m acc kind r):=rfl
theorem Ec:(Tryz.prog.info? 105).map (fun i=>(i.zero,i.size,i.bytes))=some (some (.agg #[aB,(),(),aB,aB,aB,(),(),(),aL]),10,136):=by kernel_rfl
theorem uG {W:World} {g:Nat} {T:TypeId} {c0 c1 c2 c3 c4 c5 c6 c7 c8 c9:Value} (h:W.heap[g]? = some (.cells #[c0,c1,c2,c3,c4,c5,c6,c7,c8,c9] T (0,0))) (v0 v1 v2 v3 v4 v5 v6:Value):(((((((W.setCell (af g 3) v0).setCell (af g 4) v1).setCell (af g 5) v2).setCell (af g 6) v3).setCell (af g 7) v4).setCell (af g 8) v5).setCell (af g 9) v6).heap[g]? = some (.cells #[c0,c1,c2,v0,v1,v2,v3,v4,v5,v6] T (0,0))∧aI g W (((((((W.setCell (af g 3) v0).setCell (af g 4) v1).setCell (af g 5) v2).setCell (af g 6) v3).setCell (af g 7) v4).setCell (af g 8) v5).setCell (af g 9) v6)∧(∀ {R:Nat} {w:World},aj R w W→w.heap.size≤g→R<w.heap.size→aj R w (((((((W.setCell (af g 3) v0).setCell (af g 4) v1).setCell (af g 5) v2).setCell (af g 6) v3).setCell (af g 7) v4).setCell (af g 8) v5).setCell (af g 9) v6)):=by
 refine ⟨?_,((((((((aI.refl _ _).set 3 v0).set 4 v1).set 5 v2).set 6 v3).set 7 v4).set 8 v5).set 9 v6),fun hb hg hr=>(((((((hb.aW g 3 v0 hg (Jb hr)).aW g 4 v1 hg (Jb hr)).aW g 5 v2 hg (Jb hr)).aW g 6 v3 hg (Jb hr)).aW g 7 v4 hg (Jb hr)).aW g 8 v5 hg (Jb hr)).aW g 9 v6 hg (Jb hr))⟩;have h:=I5 W g 3 _ _ v0 h;generalize W.setCell (af g 3) v0=W0 at h ⊢
 have h:=I5 W0 g 4 _ _ v1 h;generalize W0.setCell (af g 4) v1=W1 at h ⊢;have h:=I5 W1 g 5 _ _ v2 h;generalize W1.setCell (af g 5) v2=W2 at h ⊢;have h:=I5 W2 g 6 _ _ v3 h;generalize W2.setCell (af g 6) v3=W3 at h ⊢
 have h:=I5 W3 g 7 _ _ v4 h;generalize W3.setCell (af g 7) v4=W4 at h ⊢;have h:=I5 W4 g 8 _ _ v5 h;generalize W4.setCell (af g 8) v5=W5 at h ⊢;have h:=I5 W5 g 9 _ _ v6 h;generalize W5.setCell (af g 9) v6=W6 at h ⊢;exact h
theorem vR {w:World} {R tb:Nat} {ts:List Tk} (h:aR w R tb ts 0):Calls Tryz.prog 193 #[af R 0] w (Ends R tb 0 w (Ee gj 10 w.heap.size) (ez ts)):=by
 have hmf:∀ (fn:Fn) (first cap:Array Value) (w:World),(Instr.makeFunc fn first cap).run Tryz.prog w = .ok (.func fn first cap) w:=fun _ _ _ _=>rfl
 have hltR:=h.lt;have hltT:=h.lK;have hx0:aj R w w:=aj.refl _ _;have HR0:=ah h;generalize hM:ez ts=M;unfold ez at hM;try dsimp only at hM
 have HM0:=ah hM;clear h hM;go_enter Tryz.func193,Tryz.ntmps193;obtain ⟨i0,hi,hj0,hj1,hj2⟩:=info_parts Ec;have hsw2:=hx0.size;have con1:=qt HR0.out 1;have hm:=HM0.out;generalize fC 1 ts=L at hm con1;have HM5:=ah hm;clear hm HM0 HR0;go_wp2_with fail
 refine con1.mono ?_;rintro e w2 ⟨hb3,hW⟩;have hx4:=hx0.trans hb3;clear con1;rcases L with ce | ⟨s0,r6⟩
 ·obtain ⟨rfl,us,hE⟩:=hW;have HE:=ah hE;clear hE;have e:=HM5.out.symm;subst e;clear HM5;go_wp2_with fail
  exact ⟨rfl,Ends.err rfl hx4 HE.out⟩
 obtain ⟨v,rfl,⟨hon,rfl⟩,hR⟩:=hW;have HR7:=ah hR;have hm:=HM5.out;simp only [bI] at hm;have HM8:=ah hm;clear hm hR HM5;have HKA:Hid (gj (fun b=>w.heap.size≤b) w2 s0 [.int .i64 s0.kind,s0.name,s0.alias,aB,aB,aB,(),(),(),aL]):=⟨none,0,by rw [hon]; rfl,by rw [hon]; exact aJ.nil _⟩
 have hal2:=bR w2 (.cells #[s0.kind,s0.name,s0.alias,aB,aB,aB,(),(),(),aL] 105);have hsz2:=hx4.size;have HR2:=ah (HR7.out.next hal2)
 have HO2:Hid (bC gj 105 10 w.heap.size (fun b=>w.heap.size≤b) (w2.alloc (.cells #[s0.kind,s0.name,s0.alias,aB,aB,aB,(),(),(),aL] 105)) (.slice (some (af w2 0)) 1 1) [s0]):=bC.one cU (ca:=#[s0.kind,s0.name,s0.alias,aB,aB,aB,(),(),(),aL]) HKA.out rfl ak
 have hxA:aj R w (w2.alloc (.cells #[s0.kind,s0.name,s0.alias,aB,aB,aB,(),(),(),aL] 105)):=hx4.trans (.of hal2 ak);clear HR7 HKA;have con2:=qo HR2.out;have hm:=HM8.out;rw [mq] at hm;generalize dQ r6=L at hm con2;have HMJ:=ah hm;clear hm HM8 HR2;go_wp2_with fail
 generalize w2.alloc _=wA at *;refine con2.mono ?_;rintro e w9 ⟨hb9,hW⟩;have hx9:=hxA.trans hb9;have HO9:=ah (HO2.out.aM cU (fun _ h=>h) (hb9.k1.k (by show ¬ w.heap.size≤R; omega)));clear con2 HO2;rcases L with ce | ⟨kd,r9⟩
 ·obtain ⟨rfl,us,hE⟩:=hW;have HE:=ah hE;clear hE;have e:=HMJ.out.symm;subst e;clear HMJ;go_wp2_with fail
  exact ⟨rfl,Ends.err rfl hx9 HE.out⟩
 obtain ⟨v,rfl,rfl,hR⟩:=hW;have HR9:=ah hR;have hm:=HMJ.out;simp only [bI] at hm;have HM10:=ah hm;clear hm hR HMJ;go_wp2_with fail
 go_loopg [3,4] 4 (fun m ow kv wr=>∃ (ov:Value) (acc:List Src) (us:List Tk) (kind:Int),ov=ow∧kv = .int .i64 kind∧Hid (m+acc.length=5)∧Hid (1≤acc.length∧acc.length≤4)∧Hid (EE m acc kind us=M)∧aj R w wr∧Hid (aR wr R tb us 0)∧Hid (bC gj 105 10 w.heap.size (fun b=>w.heap.size≤b) wr ov acc))
 case atStart=>exact ⟨_,[s0],r9,kd,rfl,rfl,by show _=_; simp,by show _∧_; simp,HM10,hx9,HR9,HO9⟩
 case round =>
  clear HM10 hx9 HR9 HO9;obtain ⟨ov,acc,us,kind,rfl,rfl,hn,hacc,HL,hxr,HRr,HO⟩:=hrel;have hzr:=hxr.size;have hL:=HL.out;rw [EE] at hL;by_cases hk0:kind=0
  ·have hkb:(kind != 0)=false:=by simpa using hk0
   rw [if_pos hk0] at hL;subst hL;obtain ⟨av,cv,rfl,hls⟩:=HO.out.ls cU (fun _ h=>h);have HK:=ah hls;clear HL hls HO hk0;go_wp2_with fail
   refine I7 (v:=.slice av acc.length cv) (by simp [results,Tryz.results193,go_sem]) rfl ?_;exact Ends.cK rfl hxr ⟨av,cv,rfl,HK.out⟩ HRr.out
  have hkb:(kind != 0)=true:=by simpa using hk0
  rw [if_neg hk0] at hL;obtain ⟨a0,c0,e0⟩:=HO.out.len;subst e0;by_cases hbig:(acc.length:Int) ≥ 4
  ·have con1:=gy HRr.out hbig;rw [if_pos hbig] at hL;subst hL;clear HL HO hbig hk0;go_wp2_with fail
   refine con1.mono ?_;rintro e w5 ⟨rfl,hb5⟩;go_wp2_with fail
   exact ⟨rfl,Ends.err rfl (hxr.trans (.of hb5 ak)) (HRr.out.next hb5)⟩
  have con1:=je (w:=wr) (R:=R) (n:=(acc.length:Int)) (most:=4) ak;rw [if_neg hbig] at hL;have HM1:=ah hL;have HB:=ah hbig;clear HL hL hbig hk0;go_wp2_with fail
  refine cR con1 fun w5 hb5=>?_;have hx5:aj R wr w5:=.of hb5 ak;have HR5:=ah (HRr.out.next hb5);clear con1 HRr;have hsw12:=hx5.size;have con11:=qt HR5.out kind;have hm:=HM1.out;generalize fC kind us=L at hm con11;have HM15:=ah hm;clear hm HM1 HR5;go_wp2_with fail
  refine con11.mono ?_;rintro e w12 ⟨hb13,hW⟩;have hx14:=hx5.trans hb13;clear con11;rcases L with ce | ⟨s,r16⟩
  ·obtain ⟨rfl,us,hE⟩:=hW;have HE:=ah hE;clear hE;have e:=HM15.out.symm;subst e;clear HM15;go_wp2_with fail
   exact ⟨rfl,Ends.err rfl (hxr.trans hx14) HE.out⟩
  obtain ⟨v,rfl,⟨hon,rfl⟩,hR⟩:=hW;have HR17:=ah hR;have hm:=HM15.out;simp only [bI] at hm;have HM18:=ah hm;clear hm hR HM15;go_upto_region 7 with fail
  obtain ⟨hal19,Q20⟩:=dZ w12 #[s.kind,s.name,s.alias,aB,aB,aB,(),(),(),aL] 105;have hsw21:=hx14.size
  generalize w12.alloc _=w21 at *;have hx22:aj R wr w21:=hx14.trans (.of hal19 ak);have HR23:=ah (HR17.out.next hal19);clear HR17;have hal24:=bR w21 (.cells #[.string ⟨#[111,110]⟩] 9);have hsw26:=hx22.size;have con25:=de (cap:=1) (HR23.out.next hal24) (dh.one w21 ⟨#[111,110]⟩ 9) ak (by simp);have hm:=HM18.out
  generalize aV [⟨#[111,110]⟩] r16=L at hm con25;have HM31:=ah hm;clear hm HM18 HR23;go_wp2_with fail
  generalize w21.alloc _=wa27 at *;refine con25.mono ?_;rintro e w26 ⟨hb28,hW⟩;have hxa29:aj R w21 w26:=(aj.of hal24 ak).trans hb28;have hx30:=hx22.trans hxa29;have Q33:=(hxa29.2 _ (lt_of_heap Q20) ak).trans Q20;clear Q20;clear con25 hal24 hb28;rcases L with ce | ⟨u34,r32⟩
  ·obtain ⟨rfl,us,hE⟩:=hW;have HE:=ah hE;clear hE;have e:=HM31.out.symm;subst e;clear HM31;go_wp2_with fail
   exact ⟨rfl,Ends.err rfl (hxr.trans hx30) HE.out⟩
  obtain ⟨v,rfl,rfl,hR⟩:=hW;have HR35:=ah hR;have hm:=HM31.out;simp only [bI] at hm;have HM36:=ah hm;clear hm hR HM31;have hsw38:=hx30.size;have con37:=sF HR35.out;have hm:=HM36.out;generalize eP r32=L at hm con37;have HM41:=ah hm;clear hm HM36 HR35;have hlw38_0:=lt_of_heap Q33;go_wp2_with fail
  refine con37.mono ?_;rintro e w38 ⟨hb39,hW⟩;have hx40:=hx30.trans hb39;have Q43:=(hb39.2 _ (lt_of_heap Q33) ak).trans Q33;clear Q33;clear con37;rcases L with ce | ⟨x,r42⟩
  ·obtain ⟨rfl,us,hE⟩:=hW;have HE:=ah hE;clear hE;have e:=HM41.out.symm;subst e;clear HM41;go_wp2_with fail
   exact ⟨rfl,Ends.err rfl (hxr.trans hx40) HE.out⟩
  obtain ⟨v,rfl,⟨a,c,rfl,hks⟩,hR⟩:=hW;have HR44:=ah hR;have hm:=HM41.out;simp only [bI] at hm;have HM45:=ah hm;clear hm hR HM41;have HK46:Hid (fu (fun b=>w26.heap.size≤b) w38 x [.int .i64 x.k,x.v.1,x.v.2.1,x.v.2.2,x.bp,x.name,.slice a x.ks.length c]):=⟨a,c,rfl,hks⟩
  clear hks;have z47:=cell_of (i:=3) Q43 rfl;have z47f:=I0 w38 w12 3 _ _ Q43;have z48:=cell_of (i:=4) Q43 rfl;have z48f:=I0 w38 w12 4 _ _ Q43;have z49:=cell_of (i:=5) Q43 rfl;have z49f:=I0 w38 w12 5 _ _ Q43;have z50:=cell_of (i:=6) Q43 rfl;have z50f:=I0 w38 w12 6 _ _ Q43
  have z51:=cell_of (i:=7) Q43 rfl;have z51f:=I0 w38 w12 7 _ _ Q43;have z52:=cell_of (i:=8) Q43 rfl;have z52f:=I0 w38 w12 8 _ _ Q43;have z53:=cell_of (i:=9) Q43 rfl;have z53f:=I0 w38 w12 9 _ _ Q43;go_upto_region 9 with fail
  obtain ⟨Q58,hk55,hbx⟩:=uG Q43 x.k x.v.1 x.v.2.1 x.v.2.2 x.bp x.name (.slice a x.ks.length c);have hsw54:=hx40.size;have hslw54:=lt_of_heap Q43;have hx56:=hbx hx40 ak ak;clear hbx z47 z47f z48 z48f z49 z49f z50 z50f z51 z51f z52 z52f z53 z53f
  generalize (((((((w38.setCell (af w12 3) x.k).setCell (af w12 4) x.v.1).setCell (af w12 5) x.v.2.1).setCell (af w12 6) x.v.2.2).setCell (af w12 7) x.bp).setCell (af w12 8) x.name).setCell (af w12 9) (.slice a x.ks.length c))=w54 at *
  have HK59:=ah (b9.next (hk55.k (by show ¬ _≤w12.heap.size; omega)) HK46.out);clear HK46;clear Q43;have HR57:=ah (HR44.out.k1 hk55 ak ak (by have:=HR44.out.r2; omega));clear HR44;obtain ⟨z0,z1,z2,z3,z4,z5,z6,z7,z8,z9⟩:=rz Q58;have hsz:=hx56.size
  obtain ⟨hal4,q4⟩:=dZ w54 #[s.kind,s.name,s.alias,x.k,x.v.1,x.v.2.1,x.v.2.2,x.bp,x.name,.slice a x.ks.length c] 105
  have O3:=HO.out.aM cU (fun _ h=>h) (hx56.k1.k (by show ¬ w.heap.size≤R; omega));have hnb:=HO.out.lt;obtain ⟨ys,o4,en4⟩:=O3.next cU hal4
  have HKS:Hid (gj (fun b=>wr.heap.size≤b) (w54.alloc (.cells #[s.kind,s.name,s.alias,x.k,x.v.1,x.v.2.1,x.v.2.2,x.bp,x.name,.slice a x.ks.length c] 105)) { s with on:=x } [.int .i64 s.kind,s.name,s.alias,x.k,x.v.1,x.v.2.1,x.v.2.2,x.bp,x.name,.slice a x.ks.length c]):=⟨a,c,rfl,by
   obtain ⟨a',c',e',hl⟩:=b9.next (ay.of hal4) HK59.out;obtain ⟨rfl,rfl⟩:a=a'∧c=c':=by simpa [mf] using e'
   exact aJ.mono (fun b h _=>by have:_≤b:=h; show _≤b; omega) hl⟩
  have EN4:=ah en4;have hm:=HM45.out
  have HL5:=ah hm;clear O3 en4 hm HM45 Q58;go_wp2_with (first | (at_builtin; refine aS rfl _ _ 77 rfl w 105 i0 _ 10 136 Tryz.underlying77 hi hj0 hj1 hj2 rfl (by decide) _ _ _ rfl o4 (af w54 0) 1 1 [.int .i64 s.kind,s.name,s.alias,x.k,x.v.1,x.v.2.1,x.v.2.2,x.bp,x.name,.slice a x.ks.length c] rfl rfl ?Ac1 ?Ac2 ?Ac3 ?Ac4 ?Ac5 ?_))
  case Ac1 =>
   intro i u hu;rw [bG,Jm];exact cell_of (i:=i) q4 (by rw [← hu]; simp)
  case Ac2=>intro u hu; simp at hu; rcases hu with rfl | rfl | rfl | rfl | rfl | rfl | rfl | rfl | rfl | rfl <;> rfl
  case Ac3=>unfold maxLen; have:=hacc.out; omega
  case Ac4=>have:=hacc.out; omega
  case Ac5=>have:=hal4.size; omega
  intro v' w6 o5 g5 hd5;have z5:=g5.size;have hz4:=hal4.size;have O5:Hid (bC gj 105 10 w.heap.size (fun b=>w.heap.size≤b) w6 v' (acc ++ [{ s with on:=x }])):=bC.push cU o4 EN4.out rfl (cU.mono (fun b h1 h2=>⟨by have:wr.heap.size≤b:=h1; show w.heap.size≤b; omega,h2,fun e=>by have:=(hnb b e).2; have:wr.heap.size≤b:=h1; omega⟩) HKS.out) o5 g5 (by simpa using hd5);have D5:Below w w54 w6:=(hal4.mono ak).trans ((I8 _ _).grown g5 ak (fun q hq=>by have:=(hnb q hq).1; omega));have hx6:=(hxr.trans hx56).low D5 (I6 _) ak
  have hR6:=HR57.out.low D5 hltR hltT;obtain ⟨m,rfl⟩:∃ m,gk=m+1:=⟨gk - 1,by have:=hn.out; have:=hacc.out; omega⟩
  have con7:=qo hR6;have hm:=HL5.out;rw [mq] at hm;generalize dQ r42=L at hm con7;have HMJ:=ah hm;clear o4 EN4 o5 g5 hd5 HKS q4 hal4 hR6 hm HL5 HR57;go_wp2_with fail
  refine con7.mono ?_;rintro e w7 ⟨hb7,hW⟩;have hx7:=hx6.trans hb7;have O7:=ah (O5.out.aM cU (fun _ h=>h) (hb7.k1.k (by show ¬ w.heap.size≤R; omega)));clear con7 O5;rcases L with ce | ⟨kd2,r7⟩
  ·obtain ⟨rfl,us,hE⟩:=hW;have HE:=ah hE;clear hE;have e:=HMJ.out.symm;subst e;clear HMJ;go_wp2_with fail
   exact ⟨rfl,Ends.err rfl hx7 HE.out⟩
  obtain ⟨v,rfl,rfl,hR⟩:=hW;have HR60:=ah hR;have hm:=HMJ.out;simp only [bI] at hm;have HM61:=ah hm;clear hm hR HMJ;go_wp2_with fail
  go_roundg m
  case measure=>omega
  case rel=>exact ⟨_,acc ++ [{ s with on:=x }],r7,kd2,rfl,rfl,by show _=_; have:=hn.out; simp; omega,by show _∧_; have:=hacc.out; have:=HB.out; simp; omega,HM61,hx7,HR60,O7⟩
theorem eh {cs:List Value} (h:cs.all (·.oneCell')=true):cs.toArray.all (·.oneCell')=true:=by simpa using h
theorem aT {P:Program} {ops:Array Oper} {rest:List Oper} {o:Oper} {a:Act} {w:World} {Q:Exit→Act→World→Prop} (hgd:o.guard=none) (ty:TypeId) (x y:Operand) (ho:o.op = .store ty x y)
  (c c':Array Value) (hx:a.eval x = .pointer (some (af w 0))) (hy:a.eval y = .agg c') (hi:(P.info? ty).map (·.size)=some c'.size) (hs:c.size=c'.size) (h1:c'.all (·.oneCell')=true)
  (h:wpList P ops Q rest (a.put o.dst undef) (w.alloc (.cells c' ty))):wpList P ops Q (o :: rest) a (w.alloc (.cells c ty)):=by
 refine wpList_plain hgd fun K hK=>?_
 unfold Oper.wp execOp;simp only [ho,hx,hy,run_storeAt_new w ty c c' hi hs h1,Sem.run_bind,Sem.run_pure,Result.andThen_ok];exact hK _ _ h
theorem gC {w W:World} {R tb g:Nat} {rs:List Tk} {o:Int} {T:TypeId} {old:Array Value} (Q:W.heap[g]? = some (.cells old T (0,0))) (hR:aR W R tb rs o) (hb:aj R w W) (h1:w.heap.size≤g) (h3:R<w.heap.size) (h4:tb<w.heap.size) (cs:Array Value) :
  (W.setRow g cs).heap[g]? = some (.cells cs T (0,0))∧aR (W.setRow g cs) R tb rs o∧aj R w (W.setRow g cs)∧aI g W (W.setRow g cs):=by
 have hk1:aI g W (W.setRow g cs):=⟨by simp,fun k _ hn=>setRow_other W g k cs hn⟩
 refine ⟨setRow_heap W g old cs T _ Q,hR.k1 hk1 ak ak (by have:=hR.r2; omega),⟨?_,fun k hk hn=>(setRow_other W g k cs ak).trans (hb.2 k hk hn)⟩,hk1⟩;exact below_setRow hb.1 ak cs
def eS:jP dO:=fun S W x cs=>∃ a1 c1 a2 c2 a3 c3 a4 c4 a5 c5,cs = [.bool x.distinct,.bool x.star,.slice a1 x.items.length c1,.slice a2 x.sources.length c2,.bool x.ax,.bool x.aG,.int .i64 x.au.k,.int .i64 x.au.v.1,.int .i64 x.au.v.2.1,.string x.au.v.2.2,.string x.au.bp,.string x.au.name,.slice a3 x.au.ks.length c3,.int .i64 x.az.k,.int .i64 x.az.v.1,.int .i64 x.az.v.2.1,.string x.az.v.2.2,.string x.az.bp,.string x.az.name,.slice a4 x.az.ks.length c4,.slice a5 x.group.length c5]∧bf kl 8 S W a1 x.items∧bf gj 10 S W a2 x.sources∧aJ S W a3 x.au.ks∧aJ S W a4 x.az.ks∧bf fu 7 S W a5 x.group
theorem b8:fW eS:=⟨fun hk ⟨a1,c1,a2,c2,a3,c3,a4,c4,a5,c5,e,h1,h2,h3,h4,h5⟩=>⟨a1,c1,a2,c2,a3,c3,a4,c4,a5,c5,e,h1.aM fp hk,h2.aM cU hk,h3.aM hk,h4.aM hk,h5.aM b9 hk⟩,
 fun hs ⟨a1,c1,a2,c2,a3,c3,a4,c4,a5,c5,e,h1,h2,h3,h4,h5⟩=>⟨a1,c1,a2,c2,a3,c3,a4,c4,a5,c5,e,h1.mono fp hs,h2.mono cU hs,aJ.mono hs h3,aJ.mono hs h4,h5.mono b9 hs⟩⟩
def Hh (B:Nat) (W:World) (v:Value) (x:dO):Prop:=∃ a1 c1 a2 c2 a3 c3 a4 c4 a5 c5,v = .agg (iE x a1 a2 a3 a4 a5 c1 c2 c3 c4 c5)∧bf kl 8 (fun b=>B≤b) W a1 x.items∧bf gj 10 (fun b=>B≤b) W a2 x.sources∧df B W a3 x.au.ks∧df B W a4 x.az.ks∧bf fu 7 (fun b=>B≤b) W a5 x.group
def zN (di st:Bool) (its:List kx) (fs:List Src) (hw:Bool × SX) (gs:List SX) (r:List Tk):PR dO:=aK (bO ⟨#[104,97,118,105,110,103]⟩ r) fun hh r9=>.ok (⟨di,st,its,fs,hw.1,hh.1,hw.2,hh.2,gs⟩,r9)
def BN (di st:Bool) (its:List kx) (r:List Tk):PR dO:=aK (aV [⟨#[102,114,111,109]⟩] r) fun _ r4=>aK (ez r4) fun fs r5=>aK (bO ⟨#[119,104,101,114,101]⟩ r5) fun hw r6=>aK (gV r6) fun gs r8=>zN di st its fs hw gs r8
theorem sW (ts:List Tk):db ts=aK (aV [⟨#[115,101,108,101,99,116]⟩] ts) fun _ r0=>aK (gU (bK ⟨#[42]⟩ (fL ⟨#[100,105,115,116,105,110,99,116]⟩ r0)) (fL ⟨#[42]⟩ (fL ⟨#[100,105,115,116,105,110,99,116]⟩ r0))) fun its r3=>BN (bK ⟨#[100,105,115,116,105,110,99,116]⟩ r0) (bK ⟨#[42]⟩ (fL ⟨#[100,105,115,116,105,110,99,116]⟩ r0)) its r3:=rfl
theorem iB.ls {α:Type} {En:jP α} {size:Nat} {S:Nat→Prop} {W:World} {x:List α} {a:Option Addr} {n:Nat} {c:Nat} (h:iB En size S W x [.slice a n c]):bf En size S W a x:=by
 obtain ⟨a',c',e,h⟩:=h;obtain ⟨rfl,_⟩:a=a'∧_:=by simpa using e
 exact h
theorem fu.ks {S:Nat→Prop} {W:World} {x:SX} {v0 v1 v2 v3 v4 v5:Value} {a:Option Addr} {n:Nat} {c:Nat} (h:fu S W x [v0,v1,v2,v3,v4,v5,.slice a n c]):aJ S W a x.ks:=by
 obtain ⟨a',c',e,h⟩:=h;simp only [mf,List.cons.injEq,Value.slice.injEq] at e;obtain ⟨_,_,_,_,_,_,⟨rfl,_⟩,_⟩:=e;exact h
theorem kJ:(Tryz.prog.info? 79).map (·.size)=some 21:=by kernel_rfl
theorem zC {W:World} {g:Nat} {T:TypeId} {c0 c1 c2 c3 c4 c5 c6 c7 c8 c9 c10 c11 c12 c13 c14 c15 c16 c17 c18 c19 c20:Value} (h:W.heap[g]? = some (.cells #[c0,c1,c2,c3,c4,c5,c6,c7,c8,c9,c10,c11,c12,c13,c14,c15,c16,c17,c18,c19,c20] T (0,0))) (v0:Value):(W.setCell (af g 2) v0).heap[g]? = some (.cells #[c0,c1,v0,c3,c4,c5,c6,c7,c8,c9,c10,c11,c12,c13,c14,c15,c16,c17,c18,c19,c20] T (0,0))∧aI g W (W.setCell (af g 2) v0)∧(∀ {R:Nat} {w:World},aj R w W→w.heap.size≤g→R<w.heap.size→aj R w (W.setCell (af g 2) v0)):=by
 refine ⟨?_,((aI.refl _ _).set 2 v0),fun hb hg hr=>(hb.aW g 2 v0 hg (Jb hr))⟩;have h:=I5 W g 2 _ _ v0 h;generalize W.setCell (af g 2) v0=W0 at h ⊢;exact h
theorem Bb {W:World} {g:Nat} {T:TypeId} {c0 c1 c2 c3 c4 c5 c6 c7 c8 c9 c10 c11 c12 c13 c14 c15 c16 c17 c18 c19 c20:Value} (h:W.heap[g]? = some (.cells #[c0,c1,c2,c3,c4,c5,c6,c7,c8,c9,c10,c11,c12,c13,c14,c15,c16,c17,c18,c19,c20] T (0,0))) (v0:Value):(W.setCell (af g 3) v0).heap[g]? = some (.cells #[c0,c1,c2,v0,c4,c5,c6,c7,c8,c9,c10,c11,c12,c13,c14,c15,c16,c17,c18,c19,c20] T (0,0))∧aI g W (W.setCell (af g 3) v0)∧(∀ {R:Nat} {w:World},aj R w W→w.heap.size≤g→R<w.heap.size→aj R w (W.setCell (af g 3) v0)):=by
 refine ⟨?_,((aI.refl _ _).set 3 v0),fun hb hg hr=>(hb.aW g 3 v0 hg (Jb hr))⟩;have h:=I5 W g 3 _ _ v0 h;generalize W.setCell (af g 3) v0=W0 at h ⊢;exact h
theorem Bq {W:World} {g:Nat} {T:TypeId} {c0 c1 c2 c3 c4 c5 c6 c7 c8 c9 c10 c11 c12 c13 c14 c15 c16 c17 c18 c19 c20:Value} (h:W.heap[g]? = some (.cells #[c0,c1,c2,c3,c4,c5,c6,c7,c8,c9,c10,c11,c12,c13,c14,c15,c16,c17,c18,c19,c20] T (0,0))) (v0:Value):(W.setCell (af g 4) v0).heap[g]? = some (.cells #[c0,c1,c2,c3,v0,c5,c6,c7,c8,c9,c10,c11,c12,c13,c14,c15,c16,c17,c18,c19,c20] T (0,0))∧aI g W (W.setCell (af g 4) v0)∧(∀ {R:Nat} {w:World},aj R w W→w.heap.size≤g→R<w.heap.size→aj R w (W.setCell (af g 4) v0)):=by
 refine ⟨?_,((aI.refl _ _).set 4 v0),fun hb hg hr=>(hb.aW g 4 v0 hg (Jb hr))⟩;have h:=I5 W g 4 _ _ v0 h;generalize W.setCell (af g 4) v0=W0 at h ⊢;exact h
theorem Ag {W:World} {g:Nat} {T:TypeId} {c0 c1 c2 c3 c4 c5 c6 c7 c8 c9 c10 c11 c12 c13 c14 c15 c16 c17 c18 c19 c20:Value} (h:W.heap[g]? = some (.cells #[c0,c1,c2,c3,c4,c5,c6,c7,c8,c9,c10,c11,c12,c13,c14,c15,c16,c17,c18,c19,c20] T (0,0))) (v0:Value):(W.setCell (af g 5) v0).heap[g]? = some (.cells #[c0,c1,c2,c3,c4,v0,c6,c7,c8,c9,c10,c11,c12,c13,c14,c15,c16,c17,c18,c19,c20] T (0,0))∧aI g W (W.setCell (af g 5) v0)∧(∀ {R:Nat} {w:World},aj R w W→w.heap.size≤g→R<w.heap.size→aj R w (W.setCell (af g 5) v0)):=by
 refine ⟨?_,((aI.refl _ _).set 5 v0),fun hb hg hr=>(hb.aW g 5 v0 hg (Jb hr))⟩;have h:=I5 W g 5 _ _ v0 h;generalize W.setCell (af g 5) v0=W0 at h ⊢;exact h
theorem tF {W:World} {g:Nat} {T:TypeId} {c0 c1 c2 c3 c4 c5 c6 c7 c8 c9 c10 c11 c12 c13 c14 c15 c16 c17 c18 c19 c20:Value} (h:W.heap[g]? = some (.cells #[c0,c1,c2,c3,c4,c5,c6,c7,c8,c9,c10,c11,c12,c13,c14,c15,c16,c17,c18,c19,c20] T (0,0))) (v0 v1 v2 v3 v4 v5 v6:Value):(((((((W.setCell (af g 6) v0).setCell (af g 7) v1).setCell (af g 8) v2).setCell (af g 9) v3).setCell (af g 10) v4).setCell (af g 11) v5).setCell (af g 12) v6).heap[g]? = some (.cells #[c0,c1,c2,c3,c4,c5,v0,v1,v2,v3,v4,v5,v6,c13,c14,c15,c16,c17,c18,c19,c20] T (0,0))∧aI g W (((((((W.setCell (af g 6) v0).setCell (af g 7) v1).setCell (af g 8) v2).setCell (af g 9) v3).setCell (af g 10) v4).setCell (af g 11) v5).setCell (af g 12) v6)∧(∀ {R:Nat} {w:World},aj R w W→w.heap.size≤g→R<w.heap.size→aj R w (((((((W.setCell (af g 6) v0).setCell (af g 7) v1).setCell (af g 8) v2).setCell (af g 9) v3).setCell (af g 10) v4).setCell (af g 11) v5).setCell (af g 12) v6)):=by
 refine ⟨?_,((((((((aI.refl _ _).set 6 v0).set 7 v1).set 8 v2).set 9 v3).set 10 v4).set 11 v5).set 12 v6),fun hb hg hr=>(((((((hb.aW g 6 v0 hg (Jb hr)).aW g 7 v1 hg (Jb hr)).aW g 8 v2 hg (Jb hr)).aW g 9 v3 hg (Jb hr)).aW g 10 v4 hg (Jb hr)).aW g 11 v5 hg (Jb hr)).aW g 12 v6 hg (Jb hr))⟩;have h:=I5 W g 6 _ _ v0 h
 generalize W.setCell (af g 6) v0=W0 at h ⊢;have h:=I5 W0 g 7 _ _ v1 h;generalize W0.setCell (af g 7) v1=W1 at h ⊢;have h:=I5 W1 g 8 _ _ v2 h;generalize W1.setCell (af g 8) v2=W2 at h ⊢
 have h:=I5 W2 g 9 _ _ v3 h;generalize W2.setCell (af g 9) v3=W3 at h ⊢;have h:=I5 W3 g 10 _ _ v4 h;generalize W3.setCell (af g 10) v4=W4 at h ⊢
 have h:=I5 W4 g 11 _ _ v5 h;generalize W4.setCell (af g 11) v5=W5 at h ⊢;have h:=I5 W5 g 12 _ _ v6 h;generalize W5.setCell (af g 12) v6=W6 at h ⊢;exact h
theorem qK {W:World} {g:Nat} {T:TypeId} {c0 c1 c2 c3 c4 c5 c6 c7 c8 c9 c10 c11 c12 c13 c14 c15 c16 c17 c18 c19 c20:Value} (h:W.heap[g]? = some (.cells #[c0,c1,c2,c3,c4,c5,c6,c7,c8,c9,c10,c11,c12,c13,c14,c15,c16,c17,c18,c19,c20] T (0,0))) (v0 v1 v2 v3 v4 v5 v6:Value):(((((((W.setCell (af g 13) v0).setCell (af g 14) v1).setCell (af g 15) v2).setCell (af g 16) v3).setCell (af g 17) v4).setCell (af g 18) v5).setCell (af g 19) v6).heap[g]? = some (.cells #[c0,c1,c2,c3,c4,c5,c6,c7,c8,c9,c10,c11,c12,v0,v1,v2,v3,v4,v5,v6,c20] T (0,0))∧aI g W (((((((W.setCell (af g 13) v0).setCell (af g 14) v1).setCell (af g 15) v2).setCell (af g 16) v3).setCell (af g 17) v4).setCell (af g 18) v5).setCell (af g 19) v6)∧(∀ {R:Nat} {w:World},aj R w W→w.heap.size≤g→R<w.heap.size→aj R w (((((((W.setCell (af g 13) v0).setCell (af g 14) v1).setCell (af g 15) v2).setCell (af g 16) v3).setCell (af g 17) v4).setCell (af g 18) v5).setCell (af g 19) v6)):=by
 refine ⟨?_,((((((((aI.refl _ _).set 13 v0).set 14 v1).set 15 v2).set 16 v3).set 17 v4).set 18 v5).set 19 v6),fun hb hg hr=>(((((((hb.aW g 13 v0 hg (Jb hr)).aW g 14 v1 hg (Jb hr)).aW g 15 v2 hg (Jb hr)).aW g 16 v3 hg (Jb hr)).aW g 17 v4 hg (Jb hr)).aW g 18 v5 hg (Jb hr)).aW g 19 v6 hg (Jb hr))⟩;have h:=I5 W g 13 _ _ v0 h
 generalize W.setCell (af g 13) v0=W0 at h ⊢;have h:=I5 W0 g 14 _ _ v1 h;generalize W0.setCell (af g 14) v1=W1 at h ⊢;have h:=I5 W1 g 15 _ _ v2 h;generalize W1.setCell (af g 15) v2=W2 at h ⊢
 have h:=I5 W2 g 16 _ _ v3 h;generalize W2.setCell (af g 16) v3=W3 at h ⊢;have h:=I5 W3 g 17 _ _ v4 h;generalize W3.setCell (af g 17) v4=W4 at h ⊢
 have h:=I5 W4 g 18 _ _ v5 h;generalize W4.setCell (af g 18) v5=W5 at h ⊢;have h:=I5 W5 g 19 _ _ v6 h;generalize W5.setCell (af g 19) v6=W6 at h ⊢;exact h
theorem yx {W:World} {g:Nat} {T:TypeId} {c0 c1 c2 c3 c4 c5 c6 c7 c8 c9 c10 c11 c12 c13 c14 c15 c16 c17 c18 c19 c20:Value} (h:W.heap[g]? = some (.cells #[c0,c1,c2,c3,c4,c5,c6,c7,c8,c9,c10,c11,c12,c13,c14,c15,c16,c17,c18,c19,c20] T (0,0))) (v0:Value):(W.setCell (af g 20) v0).heap[g]? = some (.cells #[c0,c1,c2,c3,c4,c5,c6,c7,c8,c9,c10,c11,c12,c13,c14,c15,c16,c17,c18,c19,v0] T (0,0))∧aI g W (W.setCell (af g 20) v0)∧(∀ {R:Nat} {w:World},aj R w W→w.heap.size≤g→R<w.heap.size→aj R w (W.setCell (af g 20) v0)):=by
 refine ⟨?_,((aI.refl _ _).set 20 v0),fun hb hg hr=>(hb.aW g 20 v0 hg (Jb hr))⟩;have h:=I5 W g 20 _ _ v0 h;generalize W.setCell (af g 20) v0=W0 at h ⊢;exact h
abbrev sr:Array Value:=#[false,false,aL,aL,false,false,aB,aB,aB,(),(),(),aL,aB,aB,aB,(),(),(),aL,aL]
theorem rm {α β γ:Type} (r:PR α) (k:α→List Tk→PR β) (h:β→List Tk→PR γ):aK (aK r k) h=aK r fun x t=>aK (k x t) h:=by
 rcases r with e | ⟨x,t⟩ <;> rfl
theorem nt {w:World} {R tb:Nat} {ts:List Tk} (h:aR w R tb ts 0):Calls Tryz.prog 161 #[af R 0] w (Ends R tb 0 w (Hh w) (db ts)):=by
 have hmf:∀ (fn:Fn) (first cap:Array Value) (w:World),(Instr.makeFunc fn first cap).run Tryz.prog w = .ok (.func fn first cap) w:=fun _ _ _ _=>rfl
 have hltR:=h.lt;have hltT:=h.lK;have hx0:aj R w w:=aj.refl _ _;have HR0:=ah h;generalize hM:db ts=M;have HM0:=ah hM;clear h hM;go_enter Tryz.func161,Tryz.ntmps161;go_upto_region 1 with fail
 obtain ⟨hal1,Q2⟩:=dZ w sr 79;have hsg6:=hx0.size;generalize w.alloc _=w3 at *;have hx4:aj R w w3:=hx0.trans (.of hal1 ak);have HR5:=ah (HR0.out.next hal1);clear HR0 hx0 hal1;have hm:=HM0.out;rw [sW] at hm;have HMa:=ah hm;clear hm HM0;have hal8:=bR w3 (.cells #[.string ⟨#[115,101,108,101,99,116]⟩] 9);have hsz:=hx4.size
 have con9:=de (cap:=1) (HR5.out.next hal8) (dh.one w3 ⟨#[115,101,108,101,99,116]⟩ 9) ak (by simp);have hm:=HMa.out;generalize aV [⟨#[115,101,108,101,99,116]⟩] ts=L at hm con9;have HM15:=ah hm;clear hm HMa HR5;go_wp2_with fail
 generalize w3.alloc _=wa11 at *;refine con9.mono ?_;rintro e w10 ⟨hb12,hW⟩;have hxa13:aj R w3 w10:=(aj.of hal8 ak).trans hb12;have hx14:=hx4.trans hxa13;have Q17:=(hxa13.2 _ (lt_of_heap Q2) ak).trans Q2;clear Q2;clear con9 hal8 hb12 hxa13 hx4 hsz;rcases L with ce | ⟨u18,r16⟩
 ·obtain ⟨rfl,us,hE⟩:=hW;have HE:=ah hE;clear hE;have e:=HM15.out.symm;subst e;clear HM15;go_wp2_with fail
  exact ⟨rfl,Ends.err rfl hx14 HE.out⟩
 obtain ⟨v,rfl,rfl,hR⟩:=hW;have HR19:=ah hR;have hm:=HM15.out;simp only [bI] at hm;have HM20:=ah hm;clear hm hR HM15;have hsz:=hx14.size;have con21:=aY HR19.out ⟨#[100,105,115,116,105,110,99,116]⟩;clear HR19;go_wp2_with fail
 refine con21.mono ?_;rintro e w22 ⟨rfl,hR,hb23⟩;have HR25:=ah hR;have hx24:=hx14.trans hb23;have Q26:=(hb23.2 _ (lt_of_heap Q17) ak).trans Q17;clear Q17;clear con21 hR hb23 hx14 hsz;have hsz:=hx24.size;have con27:=aY HR25.out ⟨#[42]⟩;clear HR25;go_wp2_with fail
 refine con27.mono ?_;rintro e w28 ⟨rfl,hR,hb29⟩;have HR31:=ah hR;have hx30:=hx24.trans hb29;have Q32:=(hb29.2 _ (lt_of_heap Q26) ak).trans Q26;clear Q26;clear con27 hR hb29 hx24 hsz;generalize bK ⟨#[100,105,115,116,105,110,99,116]⟩ r16=di at *;generalize bK ⟨#[42]⟩ (fL ⟨#[100,105,115,116,105,110,99,116]⟩ r16)=st at *;generalize fL ⟨#[42]⟩ (fL ⟨#[100,105,115,116,105,110,99,116]⟩ r16)=r2 at *
 go_upto_region 3 with (first | (refine aT rfl 79 _ _ rfl sr #[di,st,aL,aL,false,false,aB,aB,aB,(),(),(),aL,aB,aB,aB,(),(),(),aL,aL] rfl rfl kJ rfl (eh rfl) ?_))
 have hbl_g6_g38:=lt_of_heap Q32;have hal33:=bR w28 (.cells #[di,st,aL,aL,false,false,aB,aB,aB,(),(),(),aL,aB,aB,aB,(),(),(),aL,aL] 79)
 have Q34:=aD w28 #[di,st,aL,aL,false,false,aB,aB,aB,(),(),(),aL,aB,aB,aB,(),(),(),aL,aL] 79;have hsg38:=hx30.size
 generalize w28.alloc _=w35 at *;have Q40:=bH hal33 Q32;clear Q32;have hx36:aj R w w35:=hx30.trans (.of hal33 ak);have HR37:=ah (HR31.out.next hal33);clear HR31 hx30 hal33;generalize hqg38:w28.heap.size=g38 at *;clear hqg38
 have z41:=cell_of (i:=1) Q34 rfl;have z41f:=I0 w35 g38 1 _ _ Q34;go_upto_if 14 with fail
 clear z41 z41f
 go_cut [] (fun wc=>∃ (its:List kx) (r3:List Tk) (a1:Option Addr) (c1:Nat),Hid (BN di st its r3=M)∧aj R w wc∧Hid (aR wc R tb r3 0)∧wc.heap[w.heap.size]? = some (.cells sr 79 (0,0))∧wc.heap[g38]? = some (.cells #[di,st,.slice a1 its.length c1,aL,false,false,aB,aB,aB,(),(),(),aL,aB,aB,aB,(),(),(),aL,aL] 79 (0,0))∧Hid ((iB kl 8) (fun b=>g38<b) wc its [.slice a1 its.length c1]))
 case first =>
  rcases st with _ | _
  ·have hm:=HM20.out;rw [show gU false r2=cu gH 8 9 r2 from rfl] at hm;have HMi:=ah hm;clear hm HM20;have hsz:=hx36.size;have con1542:=uY HR37.out;have hm:=HMi.out;generalize cu gH 8 9 r2=L at hm con1542;have HM1546:=ah hm;clear hm HMi HR37;have hl_g6:=lt_of_heap Q40;have hl_g38:=lt_of_heap Q34;go_wp2_with fail
   refine con1542.mono ?_;rintro e w1543 ⟨hb1544,hW⟩;have hx1545:=hx36.trans hb1544;have Q1548:=(hb1544.2 _ (lt_of_heap Q40) ak).trans Q40;clear Q40;have Q1549:=(hb1544.2 _ (lt_of_heap Q34) ak).trans Q34;clear Q34;clear con1542 hb1544 hx36;rcases L with ce | ⟨its,r1547⟩
   ·obtain ⟨rfl,us,hE⟩:=hW;have HE:=ah hE;clear hE;have e:=HM1546.out.symm;subst e;clear HM1546;go_wp2_with fail
    exact ⟨rfl,Ends.err rfl hx1545 HE.out⟩
   obtain ⟨v,rfl,⟨a1,c1,rfl,hls⟩,hR⟩:=hW;have HR1550:=ah hR;have hm:=HM1546.out;simp only [bI] at hm;have HM1551:=ah hm;clear hm hR HM1546;have HK1552:=ah ((br fp 8).mono (S:=fun b=>w35.heap.size≤b) (fun b h _=>by have:_≤b:=h; show g38<b; omega) (⟨a1,c1,rfl,hls⟩));clear hls;clear hsz hl_g6 hl_g38;have z1553:=cell_of (i:=2) Q1549 rfl;have z1553f:=I0 w1543 g38 2 _ _ Q1549;go_wp2_with fail
   obtain ⟨Q1558,hk1555,hbx⟩:=zC Q1549 (.slice a1 its.length c1);have hx1556:=hbx hx1545 ak ak;clear hbx z1553 z1553f;generalize w1543.setCell _ _=w1554 at *;have Q1559:=(hk1555.2 _ (lt_of_heap Q1548) ak).trans Q1548;clear Q1548;have HK1560:=ah ((br fp 8).next (hk1555.k (by show ¬ _; omega)) HK1552.out);clear HK1552;clear Q1549;have HR1557:=ah (HR1550.out.k1 hk1555 ak ak (by have:=HR1550.out.r2; omega))
   clear HR1550 hk1555 hx1545;go_meet
   case rel=>exact ⟨its,r1547,a1,c1,HM1551,hx1556,HR1557,Q1559,Q1558,HK1560⟩
  ·go_wp2_with fail
   go_meet
   case rel=>exact ⟨[],r2,none,0,HM20.out,hx36,HR37,Q40,Q34,none,0,rfl,.inl rfl⟩
 case rest =>
  clear HM20 hx36 HR37 Q40 Q34;obtain ⟨its,r3,a1,c1,HMc,hxc,HRc,QZc,QSc,HKi⟩:=hcut;clear w35;have hm:=HMc.out;rw [BN] at hm;have HMd:=ah hm;clear hm HMc;have hal2042:=bR wc (.cells #[.string ⟨#[102,114,111,109]⟩] 9);have hsz:=hxc.size;have con2043:=de (cap:=1) (HRc.out.next hal2042) (dh.one wc ⟨#[102,114,111,109]⟩ 9) ak (by simp);have hm:=HMd.out;generalize aV [⟨#[102,114,111,109]⟩] r3=L at hm con2043;have HM2049:=ah hm;clear hm HMd HRc;go_wp2_with fail
  generalize wc.alloc _=wa2045 at *;refine con2043.mono ?_;rintro e w2044 ⟨hb2046,hW⟩;have hxa2047:aj R wc w2044:=(aj.of hal2042 ak).trans hb2046;have hx2048:=hxc.trans hxa2047;have Q2051:=(hxa2047.2 _ (lt_of_heap QZc) ak).trans QZc;clear QZc;have Q2052:=(hxa2047.2 _ (lt_of_heap QSc) ak).trans QSc;clear QSc;have HK2053:=ah ((br fp 8).next (hxa2047.k1.k (by show ¬ _; omega)) HKi.out);clear HKi;clear con2043 hal2042 hb2046 hxa2047 hxc hsz
  rcases L with ce | ⟨u2054,r2050⟩
  ·obtain ⟨rfl,us,hE⟩:=hW;have HE:=ah hE;clear hE;have e:=HM2049.out.symm;subst e;clear HM2049;go_wp2_with fail
   exact ⟨rfl,Ends.err rfl hx2048 HE.out⟩
  obtain ⟨v,rfl,rfl,hR⟩:=hW;have HR2055:=ah hR;have hm:=HM2049.out;simp only [bI] at hm;have HM2056:=ah hm;clear hm hR HM2049;have hsz:=hx2048.size;have con2057:=vR HR2055.out;have hm:=HM2056.out;generalize ez r2050=L at hm con2057;have HM2061:=ah hm;clear hm HM2056 HR2055;have hl_g6:=lt_of_heap Q2051;have hl_g38:=lt_of_heap Q2052;go_wp2_with fail
  refine con2057.mono ?_;rintro e w2058 ⟨hb2059,hW⟩;have hx2060:=hx2048.trans hb2059;have Q2063:=(hb2059.2 _ (lt_of_heap Q2051) ak).trans Q2051;clear Q2051;have Q2064:=(hb2059.2 _ (lt_of_heap Q2052) ak).trans Q2052;clear Q2052;have HK2065:=ah ((br fp 8).next (hb2059.k1.k (by show ¬ _; omega)) HK2053.out);clear HK2053;clear con2057 hb2059 hx2048;rcases L with ce | ⟨fs,r2062⟩
  ·obtain ⟨rfl,us,hE⟩:=hW;have HE:=ah hE;clear hE;have e:=HM2061.out.symm;subst e;clear HM2061;go_wp2_with fail
   exact ⟨rfl,Ends.err rfl hx2060 HE.out⟩
  obtain ⟨v,rfl,⟨a2,c2,rfl,hls⟩,hR⟩:=hW;have HR2066:=ah hR;have hm:=HM2061.out;simp only [bI] at hm;have HM2067:=ah hm;clear hm hR HM2061;have HK2068:=ah ((br cU 10).mono (S:=fun b=>w2044.heap.size≤b) (fun b h _=>by have:_≤b:=h; show g38<b; omega) (⟨a2,c2,rfl,hls⟩));clear hls;clear hsz hl_g6 hl_g38;have z2069:=cell_of (i:=3) Q2064 rfl;have z2069f:=I0 w2058 g38 3 _ _ Q2064;go_upto_region 7 with fail
  obtain ⟨Q2074,hk2071,hbx⟩:=Bb Q2064 (.slice a2 fs.length c2);have hx2072:=hbx hx2060 ak ak;clear hbx z2069 z2069f;generalize w2058.setCell _ _=w2070 at *;have Q2075:=(hk2071.2 _ (lt_of_heap Q2063) ak).trans Q2063;clear Q2063;have HK2076:=ah ((br fp 8).next (hk2071.k (by show ¬ _; omega)) HK2065.out);clear HK2065;have HK2077:=ah ((br cU 10).next (hk2071.k (by show ¬ _; omega)) HK2068.out)
  clear HK2068;clear Q2064;have HR2073:=ah (HR2066.out.k1 hk2071 ak ak (by have:=HR2066.out.r2; omega));clear HR2066 hk2071 hx2060;have hsz:=hx2072.size;have con2078:=ju HR2073.out ⟨#[119,104,101,114,101]⟩;have hm:=HM2067.out;generalize bO ⟨#[119,104,101,114,101]⟩ r2062=L at hm con2078;have HM2082:=ah hm;clear hm HM2067 HR2073;have hl_g6:=lt_of_heap Q2075;have hl_g38:=lt_of_heap Q2074;go_wp2_with fail
  refine con2078.mono ?_;rintro e w2079 ⟨hb2080,hW⟩;have hx2081:=hx2072.trans hb2080;have Q2084:=(hb2080.2 _ (lt_of_heap Q2075) ak).trans Q2075;clear Q2075;have Q2085:=(hb2080.2 _ (lt_of_heap Q2074) ak).trans Q2074;clear Q2074;have HK2086:=ah ((br fp 8).next (hb2080.k1.k (by show ¬ _; omega)) HK2076.out);clear HK2076;have HK2087:=ah ((br cU 10).next (hb2080.k1.k (by show ¬ _; omega)) HK2077.out);clear HK2077;clear con2078 hb2080 hx2072
  rcases L with ce | ⟨hw,r2083⟩
  ·obtain ⟨rfl,us,hE⟩:=hW;have HE:=ah hE;clear hE;have e:=HM2082.out.symm;subst e;clear HM2082;go_wp2_with fail
   exact ⟨rfl,Ends.err rfl hx2081 HE.out⟩
  obtain ⟨v,rfl,⟨a3,c3,rfl,hks⟩,hR⟩:=hW;have HR2088:=ah hR;have hm:=HM2082.out;simp only [bI] at hm;have HM2089:=ah hm;clear hm hR HM2082;have HK2090:=ah (b9.mono (S:=fun b=>w2070.heap.size≤b) (fun b h _=>by have:_≤b:=h; show g38<b; omega) (⟨a3,c3,rfl,hks⟩));clear hks;clear hsz hl_g6 hl_g38;have z2091:=cell_of (i:=4) Q2085 rfl
  have z2091f:=I0 w2079 g38 4 _ _ Q2085;have z2092:=cell_of (i:=6) Q2085 rfl;have z2092f:=I0 w2079 g38 6 _ _ Q2085;have z2093:=cell_of (i:=7) Q2085 rfl;have z2093f:=I0 w2079 g38 7 _ _ Q2085;have z2094:=cell_of (i:=8) Q2085 rfl;have z2094f:=I0 w2079 g38 8 _ _ Q2085;have z2095:=cell_of (i:=9) Q2085 rfl;have z2095f:=I0 w2079 g38 9 _ _ Q2085
  have z2096:=cell_of (i:=10) Q2085 rfl;have z2096f:=I0 w2079 g38 10 _ _ Q2085;have z2097:=cell_of (i:=11) Q2085 rfl;have z2097f:=I0 w2079 g38 11 _ _ Q2085;have z2098:=cell_of (i:=12) Q2085 rfl;have z2098f:=I0 w2079 g38 12 _ _ Q2085;go_upto_region 8 with fail
  obtain ⟨Q2103,hk2100,hbx⟩:=Bq Q2085 hw.1;have hx2101:=hbx hx2081 ak ak;clear hbx;generalize w2079.setCell _ _=w2099 at *;have Q2104:=(hk2100.2 _ (lt_of_heap Q2084) ak).trans Q2084;clear Q2084;have HK2105:=ah ((br fp 8).next (hk2100.k (by show ¬ _; omega)) HK2086.out);clear HK2086;have HK2106:=ah ((br cU 10).next (hk2100.k (by show ¬ _; omega)) HK2087.out);clear HK2087
  have HK2107:=ah (b9.next (hk2100.k (by show ¬ _; omega)) HK2090.out);clear HK2090;clear Q2085;have HR2102:=ah (HR2088.out.k1 hk2100 ak ak (by have:=HR2088.out.r2; omega));clear HR2088 hk2100 hx2081
  obtain ⟨Q2112,hk2109,hbx⟩:=tF Q2103 hw.2.k hw.2.v.1 hw.2.v.2.1 hw.2.v.2.2 hw.2.bp hw.2.name (.slice a3 hw.2.ks.length c3);have hx2110:=hbx hx2101 ak ak;clear hbx z2091 z2091f z2092 z2092f z2093 z2093f z2094 z2094f z2095 z2095f z2096 z2096f z2097 z2097f z2098 z2098f
  generalize (((((((w2099.setCell (af g38 6) hw.2.k).setCell (af g38 7) hw.2.v.1).setCell (af g38 8) hw.2.v.2.1).setCell (af g38 9) hw.2.v.2.2).setCell (af g38 10) hw.2.bp).setCell (af g38 11) hw.2.name).setCell (af g38 12) (.slice a3 hw.2.ks.length c3))=w2108 at *;have Q2113:=(hk2109.2 _ (lt_of_heap Q2104) ak).trans Q2104;clear Q2104;have HK2114:=ah ((br fp 8).next (hk2109.k (by show ¬ _; omega)) HK2105.out);clear HK2105
  have HK2115:=ah ((br cU 10).next (hk2109.k (by show ¬ _; omega)) HK2106.out);clear HK2106;have HK2116:=ah (b9.next (hk2109.k (by show ¬ _; omega)) HK2107.out);clear HK2107;clear Q2103;have HR2111:=ah (HR2102.out.k1 hk2109 ak ak (by have:=HR2102.out.r2; omega));clear HR2102 hk2109 hx2101;have hsz:=hx2110.size
  have con2117:=aY HR2111.out ⟨#[103,114,111,117,112]⟩;clear HR2111;go_wp2_with fail
  refine con2117.mono ?_;rintro e w2118 ⟨rfl,hR,hb2119⟩;have HR2121:=ah hR;have hx2120:=hx2110.trans hb2119;have Q2122:=(hb2119.2 _ (lt_of_heap Q2113) ak).trans Q2113;clear Q2113;have Q2123:=(hb2119.2 _ (lt_of_heap Q2112) ak).trans Q2112;clear Q2112;have HK2124:=ah ((br fp 8).next (hb2119.k1.k (by show ¬ _; omega)) HK2114.out);clear HK2114
  have HK2125:=ah ((br cU 10).next (hb2119.k1.k (by show ¬ _; omega)) HK2115.out);clear HK2115;have HK2126:=ah (b9.next (hb2119.k1.k (by show ¬ _; omega)) HK2116.out);clear HK2116;clear con2117 hR hb2119 hx2110 hsz;go_upto_if 34 with fail
  go_cut [] (fun wc=>∃ (gs:List SX) (r8:List Tk) (a5:Option Addr) (c5:Nat),Hid (zN di st its fs hw gs r8=M)∧aj R w wc∧Hid (aR wc R tb r8 0)∧wc.heap[w.heap.size]? = some (.cells sr 79 (0,0))∧wc.heap[g38]? = some (.cells #[di,st,.slice a1 its.length c1,.slice a2 fs.length c2,hw.1,false,hw.2.k,hw.2.v.1,hw.2.v.2.1,hw.2.v.2.2,hw.2.bp,hw.2.name,.slice a3 hw.2.ks.length c3,aB,aB,aB,(),(),(),aL,.slice a5 gs.length c5] 79 (0,0))∧Hid ((iB kl 8) (fun b=>g38<b) wc its [.slice a1 its.length c1])∧Hid ((iB gj 10) (fun b=>g38<b) wc fs [.slice a2 fs.length c2])∧Hid (fu (fun b=>g38<b) wc hw.2 [.int .i64 hw.2.k,hw.2.v.1,hw.2.v.2.1,hw.2.v.2.2,hw.2.bp,hw.2.name,.slice a3 hw.2.ks.length c3])∧Hid ((iB fu 7) (fun b=>g38<b) wc gs [.slice a5 gs.length c5]))
  case first =>
   have hm:=HM2089.out;rw [gV] at hm;rcases hi:bK ⟨#[103,114,111,117,112]⟩ r2083 with _ | _
   ·rw [hi,if_neg (by decide)] at hm;have H8:Hid (aR w2118 R tb r2083 0):=by have:=HR2121.out; rw [bT hi] at this; exact this
    have HMg:=ah hm;clear hm;go_wp2_with fail
    go_meet
    case rel=>exact ⟨[],r2083,none,0,HMg.out,hx2120,H8,Q2122,Q2123,HK2124,HK2125,HK2126,none,0,rfl,.inl rfl⟩
   ·rw [hi,if_pos rfl] at hm;have H8:Hid (aR w2118 R tb (aC r2083) 0):=by have:=HR2121.out; rw [cG hi] at this; exact this
    rw [rm] at hm;have HMg:=ah hm;clear hm HM2089 HR2121;have hal4627:=bR w2118 (.cells #[.string ⟨#[98,121]⟩] 9);have hsz:=hx2120.size;have con4628:=de (cap:=1) (H8.out.next hal4627) (dh.one w2118 ⟨#[98,121]⟩ 9) ak (by simp);have hm:=HMg.out;generalize aV [⟨#[98,121]⟩] (aC r2083)=L at hm con4628;have HM4634:=ah hm;clear hm HMg H8;go_wp2_with fail
    generalize w2118.alloc _=wa4630 at *;refine con4628.mono ?_;rintro e w4629 ⟨hb4631,hW⟩;have hxa4632:aj R w2118 w4629:=(aj.of hal4627 ak).trans hb4631;have hx4633:=hx2120.trans hxa4632;have Q4636:=(hxa4632.2 _ (lt_of_heap Q2122) ak).trans Q2122;clear Q2122;have Q4637:=(hxa4632.2 _ (lt_of_heap Q2123) ak).trans Q2123;clear Q2123;have HK4638:=ah ((br fp 8).next (hxa4632.k1.k (by show ¬ _; omega)) HK2124.out);clear HK2124
    have HK4639:=ah ((br cU 10).next (hxa4632.k1.k (by show ¬ _; omega)) HK2125.out);clear HK2125;have HK4640:=ah (b9.next (hxa4632.k1.k (by show ¬ _; omega)) HK2126.out);clear HK2126;clear con4628 hal4627 hb4631 hxa4632 hx2120 hsz;rcases L with ce | ⟨u4641,r4635⟩
    ·obtain ⟨rfl,us,hE⟩:=hW;have HE:=ah hE;clear hE;have e:=HM4634.out.symm;subst e;clear HM4634;go_wp2_with fail
     exact ⟨rfl,Ends.err rfl hx4633 HE.out⟩
    obtain ⟨v,rfl,rfl,hR⟩:=hW;have HR4642:=ah hR;have hm:=HM4634.out;simp only [bI] at hm;have HM4643:=ah hm;clear hm hR HM4634;have hsz:=hx4633.size;have con4644:=pf HR4642.out;have hm:=HM4643.out;generalize cu eP 8 9 r4635=L at hm con4644;have HM4648:=ah hm;clear hm HM4643 HR4642;have hl_g6:=lt_of_heap Q4636;have hl_g38:=lt_of_heap Q4637;go_wp2_with fail
    refine con4644.mono ?_;rintro e w4645 ⟨hb4646,hW⟩;have hx4647:=hx4633.trans hb4646;have Q4650:=(hb4646.2 _ (lt_of_heap Q4636) ak).trans Q4636;clear Q4636;have Q4651:=(hb4646.2 _ (lt_of_heap Q4637) ak).trans Q4637;clear Q4637;have HK4652:=ah ((br fp 8).next (hb4646.k1.k (by show ¬ _; omega)) HK4638.out);clear HK4638;have HK4653:=ah ((br cU 10).next (hb4646.k1.k (by show ¬ _; omega)) HK4639.out);clear HK4639
    have HK4654:=ah (b9.next (hb4646.k1.k (by show ¬ _; omega)) HK4640.out);clear HK4640;clear con4644 hb4646 hx4633;rcases L with ce | ⟨gs,r4649⟩
    ·obtain ⟨rfl,us,hE⟩:=hW;have HE:=ah hE;clear hE;have e:=HM4648.out.symm;subst e;clear HM4648;go_wp2_with fail
     exact ⟨rfl,Ends.err rfl hx4647 HE.out⟩
    obtain ⟨v,rfl,⟨a5,c5,rfl,hls⟩,hR⟩:=hW;have HR4655:=ah hR;have hm:=HM4648.out;simp only [bI] at hm;have HM4656:=ah hm;clear hm hR HM4648;have HK4657:=ah ((br b9 7).mono (S:=fun b=>w4629.heap.size≤b) (fun b h _=>by have:_≤b:=h; show g38<b; omega) (⟨a5,c5,rfl,hls⟩));clear hls;clear hsz hl_g6 hl_g38;have z4658:=cell_of (i:=20) Q4651 rfl;have z4658f:=I0 w4645 g38 20 _ _ Q4651;go_wp2_with fail
    obtain ⟨Q4663,hk4660,hbx⟩:=yx Q4651 (.slice a5 gs.length c5);have hx4661:=hbx hx4647 ak ak;clear hbx z4658 z4658f;generalize w4645.setCell _ _=w4659 at *;have Q4664:=(hk4660.2 _ (lt_of_heap Q4650) ak).trans Q4650;clear Q4650;have HK4665:=ah ((br fp 8).next (hk4660.k (by show ¬ _; omega)) HK4652.out);clear HK4652;have HK4666:=ah ((br cU 10).next (hk4660.k (by show ¬ _; omega)) HK4653.out)
    clear HK4653;have HK4667:=ah (b9.next (hk4660.k (by show ¬ _; omega)) HK4654.out);clear HK4654;have HK4668:=ah ((br b9 7).next (hk4660.k (by show ¬ _; omega)) HK4657.out);clear HK4657;clear Q4651;have HR4662:=ah (HR4655.out.k1 hk4660 ak ak (by have:=HR4655.out.r2; omega));clear HR4655 hk4660 hx4647;go_meet
    case rel=>exact ⟨gs,r4649,a5,c5,HM4656.out,hx4661,HR4662,Q4664,Q4663,HK4665,HK4666,HK4667,HK4668⟩
  case rest =>
   clear HM2089 hx2120 HR2121 Q2122 Q2123 HK2124 HK2125 HK2126;obtain ⟨gs,r8,a5,c5,HMe,hxe,HRe,QZe,QSe,HL0,HL1,HL2,HKg⟩:=hcut;clear w2118;have hm:=HMe.out;rw [zN] at hm;have HMf:=ah hm;clear hm HMe;have hsz:=hxe.size;have con4127:=ju HRe.out ⟨#[104,97,118,105,110,103]⟩;have hm:=HMf.out;generalize bO ⟨#[104,97,118,105,110,103]⟩ r8=L at hm con4127;have HM4131:=ah hm;clear hm HMf HRe;have hl_g6:=lt_of_heap QZe;have hl_g38:=lt_of_heap QSe;go_wp2_with fail
   refine con4127.mono ?_;rintro e w4128 ⟨hb4129,hW⟩;have hx4130:=hxe.trans hb4129;have Q4133:=(hb4129.2 _ (lt_of_heap QZe) ak).trans QZe;clear QZe;have Q4134:=(hb4129.2 _ (lt_of_heap QSe) ak).trans QSe;clear QSe;have HK4135:=ah ((br fp 8).next (hb4129.k1.k (by show ¬ _; omega)) HL0.out);clear HL0;have HK4136:=ah ((br cU 10).next (hb4129.k1.k (by show ¬ _; omega)) HL1.out);clear HL1
   have HK4137:=ah (b9.next (hb4129.k1.k (by show ¬ _; omega)) HL2.out);clear HL2;have HK4138:=ah ((br b9 7).next (hb4129.k1.k (by show ¬ _; omega)) HKg.out);clear HKg;clear con4127 hb4129 hxe;rcases L with ce | ⟨hh,r4132⟩
   ·obtain ⟨rfl,us,hE⟩:=hW;have HE:=ah hE;clear hE;have e:=HM4131.out.symm;subst e;clear HM4131;go_wp2_with fail
    exact ⟨rfl,Ends.err rfl hx4130 HE.out⟩
   obtain ⟨v,rfl,⟨a4,c4,rfl,hks⟩,hR⟩:=hW;have HR4139:=ah hR;have hm:=HM4131.out;simp only [bI] at hm;have HM4140:=ah hm;clear hm hR HM4131;have HK4141:=ah (b9.mono (S:=fun b=>wc.heap.size≤b) (fun b h _=>by have:_≤b:=h; show g38<b; omega) (⟨a4,c4,rfl,hks⟩));clear hks;clear hsz hl_g6 hl_g38;have z4142:=cell_of (i:=5) Q4134 rfl
   have z4142f:=I0 w4128 g38 5 _ _ Q4134;have z4143:=cell_of (i:=13) Q4134 rfl;have z4143f:=I0 w4128 g38 13 _ _ Q4134;have z4144:=cell_of (i:=14) Q4134 rfl;have z4144f:=I0 w4128 g38 14 _ _ Q4134;have z4145:=cell_of (i:=15) Q4134 rfl;have z4145f:=I0 w4128 g38 15 _ _ Q4134;have z4146:=cell_of (i:=16) Q4134 rfl;have z4146f:=I0 w4128 g38 16 _ _ Q4134
   have z4147:=cell_of (i:=17) Q4134 rfl;have z4147f:=I0 w4128 g38 17 _ _ Q4134;have z4148:=cell_of (i:=18) Q4134 rfl;have z4148f:=I0 w4128 g38 18 _ _ Q4134;have z4149:=cell_of (i:=19) Q4134 rfl;have z4149f:=I0 w4128 g38 19 _ _ Q4134;go_upto_region 12 with fail
   obtain ⟨Q4154,hk4151,hbx⟩:=Ag Q4134 hh.1;have hx4152:=hbx hx4130 ak ak;clear hbx;generalize w4128.setCell _ _=w4150 at *;have Q4155:=(hk4151.2 _ (lt_of_heap Q4133) ak).trans Q4133;clear Q4133;have HK4156:=ah ((br fp 8).next (hk4151.k (by show ¬ _; omega)) HK4135.out);clear HK4135;have HK4157:=ah ((br cU 10).next (hk4151.k (by show ¬ _; omega)) HK4136.out);clear HK4136
   have HK4158:=ah (b9.next (hk4151.k (by show ¬ _; omega)) HK4137.out);clear HK4137;have HK4159:=ah ((br b9 7).next (hk4151.k (by show ¬ _; omega)) HK4138.out);clear HK4138
   have HK4160:=ah (b9.next (hk4151.k (by show ¬ _; omega)) HK4141.out);clear HK4141;clear Q4134;have HR4153:=ah (HR4139.out.k1 hk4151 ak ak (by have:=HR4139.out.r2; omega));clear HR4139 hk4151 hx4130
   obtain ⟨Q4165,hk4162,hbx⟩:=qK Q4154 hh.2.k hh.2.v.1 hh.2.v.2.1 hh.2.v.2.2 hh.2.bp hh.2.name (.slice a4 hh.2.ks.length c4);have hx4163:=hbx hx4152 ak ak;clear hbx z4142 z4142f z4143 z4143f z4144 z4144f z4145 z4145f z4146 z4146f z4147 z4147f z4148 z4148f z4149 z4149f
   generalize (((((((w4150.setCell (af g38 13) hh.2.k).setCell (af g38 14) hh.2.v.1).setCell (af g38 15) hh.2.v.2.1).setCell (af g38 16) hh.2.v.2.2).setCell (af g38 17) hh.2.bp).setCell (af g38 18) hh.2.name).setCell (af g38 19) (.slice a4 hh.2.ks.length c4))=w4161 at *;have Q4166:=(hk4162.2 _ (lt_of_heap Q4155) ak).trans Q4155;clear Q4155;have HK4167:=ah ((br fp 8).next (hk4162.k (by show ¬ _; omega)) HK4156.out);clear HK4156
   have HK4168:=ah ((br cU 10).next (hk4162.k (by show ¬ _; omega)) HK4157.out);clear HK4157;have HK4169:=ah (b9.next (hk4162.k (by show ¬ _; omega)) HK4158.out);clear HK4158;have HK4170:=ah ((br b9 7).next (hk4162.k (by show ¬ _; omega)) HK4159.out);clear HK4159
   have HK4171:=ah (b9.next (hk4162.k (by show ¬ _; omega)) HK4160.out);clear HK4160;clear Q4154;have HR4164:Hid (aR w4161 R tb r4132 0):=HR4153.out.k1 hk4162 ak ak (by have:=HR4153.out.r2; omega);clear HR4153 hk4162 hx4152;have e:=HM4140.out;subst e;clear HM4140
   go_wp2_with (first | (refine wpList_load_row rfl 79 _ rfl g38 rfl 79 #[di,st,.slice a1 its.length c1,.slice a2 fs.length c2,hw.1,hh.1,hw.2.k,hw.2.v.1,hw.2.v.2.1,hw.2.v.2.2,hw.2.bp,hw.2.name,.slice a3 hw.2.ks.length c3,hh.2.k,hh.2.v.1,hh.2.v.2.1,hh.2.v.2.2,hh.2.bp,hh.2.name,.slice a4 hh.2.ks.length c4,.slice a5 gs.length c5] (0,0) _ Q4165 Tryz.underlying79 rfl kJ ?_) | (refine wpList_store_row rfl 79 _ _ rfl w #[di,st,.slice a1 its.length c1,.slice a2 fs.length c2,hw.1,hh.1,hw.2.k,hw.2.v.1,hw.2.v.2.1,hw.2.v.2.2,hw.2.bp,hw.2.name,.slice a3 hw.2.ks.length c3,hh.2.k,hh.2.v.1,hh.2.v.2.1,hh.2.v.2.2,hh.2.bp,hh.2.name,.slice a4 hh.2.ks.length c4,.slice a5 gs.length c5] rfl rfl 79 sr Q4166 kJ rfl (eh rfl) ?_))
   obtain ⟨QE,hRE,hbE,hkE⟩:=gC (w:=w) Q4166 HR4164.out hx4163 ak hltR hltT #[di,st,.slice a1 its.length c1,.slice a2 fs.length c2,hw.1,hh.1,hw.2.k,hw.2.v.1,hw.2.v.2.1,hw.2.v.2.2,hw.2.bp,hw.2.name,.slice a3 hw.2.ks.length c3,hh.2.k,hh.2.v.1,hh.2.v.2.1,hh.2.v.2.2,hh.2.bp,hh.2.name,.slice a4 hh.2.ks.length c4,.slice a5 gs.length c5]
   generalize w4161.setRow w #[di,st,.slice a1 its.length c1,.slice a2 fs.length c2,hw.1,hh.1,hw.2.k,hw.2.v.1,hw.2.v.2.1,hw.2.v.2.2,hw.2.bp,hw.2.name,.slice a3 hw.2.ks.length c3,hh.2.k,hh.2.v.1,hh.2.v.2.1,hh.2.v.2.2,hh.2.bp,hh.2.name,.slice a4 hh.2.ks.length c4,.slice a5 gs.length c5]=wE at *
   have L0:(iB kl 8) (fun b=>w.heap.size≤b) wE its [.slice a1 its.length c1]:=(br fp 8).mono (fun b h _=>by have:g38<b:=h; show _≤b; omega) ((br fp 8).next (hkE.k (by show ¬ _; omega)) HK4167.out);have L1:(iB gj 10) (fun b=>w.heap.size≤b) wE fs [.slice a2 fs.length c2]:=(br cU 10).mono (fun b h _=>by have:g38<b:=h; show _≤b; omega) ((br cU 10).next (hkE.k (by show ¬ _; omega)) HK4168.out)
   have L2:fu (fun b=>w.heap.size≤b) wE hw.2 [.int .i64 hw.2.k,hw.2.v.1,hw.2.v.2.1,hw.2.v.2.2,hw.2.bp,hw.2.name,.slice a3 hw.2.ks.length c3]:=b9.mono (fun b h _=>by have:g38<b:=h; show _≤b; omega) (b9.next (hkE.k (by show ¬ _; omega)) HK4169.out);have L3:(iB fu 7) (fun b=>w.heap.size≤b) wE gs [.slice a5 gs.length c5]:=(br b9 7).mono (fun b h _=>by have:g38<b:=h; show _≤b; omega) ((br b9 7).next (hkE.k (by show ¬ _; omega)) HK4170.out)
   have L4:fu (fun b=>w.heap.size≤b) wE hh.2 [.int .i64 hh.2.k,hh.2.v.1,hh.2.v.2.1,hh.2.v.2.2,hh.2.bp,hh.2.name,.slice a4 hh.2.ks.length c4]:=b9.mono (fun b h _=>by have:g38<b:=h; show _≤b; omega) (b9.next (hkE.k (by show ¬ _; omega)) HK4171.out)
   exact I7 (v:=.agg #[di,st,.slice a1 its.length c1,.slice a2 fs.length c2,hw.1,hh.1,hw.2.k,hw.2.v.1,hw.2.v.2.1,hw.2.v.2.2,hw.2.bp,hw.2.name,.slice a3 hw.2.ks.length c3,hh.2.k,hh.2.v.1,hh.2.v.2.1,hh.2.v.2.2,hh.2.bp,hh.2.name,.slice a4 hh.2.ks.length c4,.slice a5 gs.length c5]) (results_cell_row Tryz.results161 _ _ _ _ _ _ _ rfl QE Tryz.underlying79 rfl kJ) rfl (Ends.cK (x:=(⟨di,st,its,fs,hw.1,hh.1,hw.2,hh.2,gs⟩:dO)) rfl hbE (⟨a1,c1,a2,c2,a3,c3,a4,c4,a5,c5,rfl,L0.ls,L1.ls,L2.ks,L4.ks,L3.ls⟩) hRE)
def lD:jP Int:=fun _ _ x cs=>cs = [.int .i64 x]
theorem fv:fW lD:=⟨fun _ h=>h,fun _ h=>h⟩
def cy:jP cM:=fun S W x cs=>∃ a1 c1 p1 d1 p2 d2 p3 d3 a2 c2 a3 c3,cs = [.int .i64 x.kind,.string x.name,.slice a1 x.cF.length c1,.slice p1 x.query.parts.length d1,.slice p2 x.query.ops.length d2,.slice p3 x.query.order.length d3,.int .i64 x.query.aH,.slice a2 x.rows.length c2,.bool x.ax,.int .i64 x.au.k,.int .i64 x.au.v.1,.int .i64 x.au.v.2.1,.string x.au.v.2.2,.string x.au.bp,.string x.au.name,.slice a3 x.au.ks.length c3]∧bf pO 2 S W a1 x.cF∧bf eS 21 S W p1 x.query.parts∧bf lD 1 S W p2 x.query.ops∧bf fu 7 S W p3 x.query.order∧bf (iB jQ 3) 1 S W a2 x.rows∧aJ S W a3 x.au.ks
theorem bJ:fW cy:=⟨fun hk ⟨a1,c1,p1,d1,p2,d2,p3,d3,a2,c2,a3,c3,e,h1,h2,h3,h4,h5,h6⟩=>⟨a1,c1,p1,d1,p2,d2,p3,d3,a2,c2,a3,c3,e,h1.aM iY hk,h2.aM b8 hk,h3.aM fv hk,h4.aM b9 hk,h5.aM (br eU 3) hk,h6.aM hk⟩,
 fun hs ⟨a1,c1,p1,d1,p2,d2,p3,d3,a2,c2,a3,c3,e,h1,h2,h3,h4,h5,h6⟩=>⟨a1,c1,p1,d1,p2,d2,p3,d3,a2,c2,a3,c3,e,h1.mono iY hs,h2.mono b8 hs,h3.mono fv hs,h4.mono b9 hs,h5.mono (br eU 3) hs,aJ.mono hs h6⟩⟩
def rP (B:Nat) (W:World) (v:Value) (x:cM):Prop:=∃ a1 c1 p1 d1 p2 d2 p3 d3 a2 c2 a3 c3,v = .agg (hJ x.kind x a1 c1 p1 d1 p2 d2 p3 d3 a2 c2 a3 c3)∧bf pO 2 (fun b=>B≤b) W a1 x.cF∧bf eS 21 (fun b=>B≤b) W p1 x.query.parts∧bf lD 1 (fun b=>B≤b) W p2 x.query.ops∧bf fu 7 (fun b=>B≤b) W p3 x.query.order∧bf (iB jQ 3) 1 (fun b=>B≤b) W a2 x.rows∧aJ (fun b=>B≤b) W a3 x.au.ks
abbrev cO:Array Value:=#[aB,(),aL,aL,aL,aL,aB,aL,false,aB,aB,aB,(),(),(),aL]
theorem dB:(Tryz.prog.info? 57).map (·.size)=some 16:=by kernel_rfl
theorem sV {W:World} {g:Nat} {T:TypeId} {c0 c1 c2 c3 c4 c5 c6 c7 c8 c9 c10 c11 c12 c13 c14 c15:Value} (h:W.heap[g]? = some (.cells #[c0,c1,c2,c3,c4,c5,c6,c7,c8,c9,c10,c11,c12,c13,c14,c15] T (0,0))) (v0:Value):(W.setCell (af g 2) v0).heap[g]? = some (.cells #[c0,c1,v0,c3,c4,c5,c6,c7,c8,c9,c10,c11,c12,c13,c14,c15] T (0,0))∧aI g W (W.setCell (af g 2) v0)∧(∀ {R:Nat} {w:World},aj R w W→w.heap.size≤g→R<w.heap.size→aj R w (W.setCell (af g 2) v0)):=by
 refine ⟨?_,((aI.refl _ _).set 2 v0),fun hb hg hr=>(hb.aW g 2 v0 hg (Jb hr))⟩;have h:=I5 W g 2 _ _ v0 h;generalize W.setCell (af g 2) v0=W0 at h ⊢;exact h
theorem oV {W:World} {g:Nat} {T:TypeId} {c0 c1 c2 c3 c4 c5 c6 c7 c8 c9 c10 c11 c12 c13 c14 c15:Value} (h:W.heap[g]? = some (.cells #[c0,c1,c2,c3,c4,c5,c6,c7,c8,c9,c10,c11,c12,c13,c14,c15] T (0,0))) (v0 v1 v2 v3:Value):((((W.setCell (af g 3) v0).setCell (af g 4) v1).setCell (af g 5) v2).setCell (af g 6) v3).heap[g]? = some (.cells #[c0,c1,c2,v0,v1,v2,v3,c7,c8,c9,c10,c11,c12,c13,c14,c15] T (0,0))∧aI g W ((((W.setCell (af g 3) v0).setCell (af g 4) v1).setCell (af g 5) v2).setCell (af g 6) v3)∧(∀ {R:Nat} {w:World},aj R w W→w.heap.size≤g→R<w.heap.size→aj R w ((((W.setCell (af g 3) v0).setCell (af g 4) v1).setCell (af g 5) v2).setCell (af g 6) v3)):=by
 refine ⟨?_,(((((aI.refl _ _).set 3 v0).set 4 v1).set 5 v2).set 6 v3),fun hb hg hr=>((((hb.aW g 3 v0 hg (Jb hr)).aW g 4 v1 hg (Jb hr)).aW g 5 v2 hg (Jb hr)).aW g 6 v3 hg (Jb hr))⟩;have h:=I5 W g 3 _ _ v0 h;generalize W.setCell (af g 3) v0=W0 at h ⊢;have h:=I5 W0 g 4 _ _ v1 h
 generalize W0.setCell (af g 4) v1=W1 at h ⊢;have h:=I5 W1 g 5 _ _ v2 h;generalize W1.setCell (af g 5) v2=W2 at h ⊢;have h:=I5 W2 g 6 _ _ v3 h;generalize W2.setCell (af g 6) v3=W3 at h ⊢;exact h
theorem Ar {W:World} {g:Nat} {T:TypeId} {c0 c1 c2 c3 c4 c5 c6 c7 c8 c9 c10 c11 c12 c13 c14 c15:Value} (h:W.heap[g]? = some (.cells #[c0,c1,c2,c3,c4,c5,c6,c7,c8,c9,c10,c11,c12,c13,c14,c15] T (0,0))) (v0:Value):(W.setCell (af g 7) v0).heap[g]? = some (.cells #[c0,c1,c2,c3,c4,c5,c6,v0,c8,c9,c10,c11,c12,c13,c14,c15] T (0,0))∧aI g W (W.setCell (af g 7) v0)∧(∀ {R:Nat} {w:World},aj R w W→w.heap.size≤g→R<w.heap.size→aj R w (W.setCell (af g 7) v0)):=by
 refine ⟨?_,((aI.refl _ _).set 7 v0),fun hb hg hr=>(hb.aW g 7 v0 hg (Jb hr))⟩;have h:=I5 W g 7 _ _ v0 h;generalize W.setCell (af g 7) v0=W0 at h ⊢;exact h
theorem Ak {W:World} {g:Nat} {T:TypeId} {c0 c1 c2 c3 c4 c5 c6 c7 c8 c9 c10 c11 c12 c13 c14 c15:Value} (h:W.heap[g]? = some (.cells #[c0,c1,c2,c3,c4,c5,c6,c7,c8,c9,c10,c11,c12,c13,c14,c15] T (0,0))) (v0:Value):(W.setCell (af g 8) v0).heap[g]? = some (.cells #[c0,c1,c2,c3,c4,c5,c6,c7,v0,c9,c10,c11,c12,c13,c14,c15] T (0,0))∧aI g W (W.setCell (af g 8) v0)∧(∀ {R:Nat} {w:World},aj R w W→w.heap.size≤g→R<w.heap.size→aj R w (W.setCell (af g 8) v0)):=by
 refine ⟨?_,((aI.refl _ _).set 8 v0),fun hb hg hr=>(hb.aW g 8 v0 hg (Jb hr))⟩;have h:=I5 W g 8 _ _ v0 h;generalize W.setCell (af g 8) v0=W0 at h ⊢;exact h
theorem sL {W:World} {g:Nat} {T:TypeId} {c0 c1 c2 c3 c4 c5 c6 c7 c8 c9 c10 c11 c12 c13 c14 c15:Value} (h:W.heap[g]? = some (.cells #[c0,c1,c2,c3,c4,c5,c6,c7,c8,c9,c10,c11,c12,c13,c14,c15] T (0,0))) (v0 v1 v2 v3 v4 v5 v6:Value):(((((((W.setCell (af g 9) v0).setCell (af g 10) v1).setCell (af g 11) v2).setCell (af g 12) v3).setCell (af g 13) v4).setCell (af g 14) v5).setCell (af g 15) v6).heap[g]? = some (.cells #[c0,c1,c2,c3,c4,c5,c6,c7,c8,v0,v1,v2,v3,v4,v5,v6] T (0,0))∧aI g W (((((((W.setCell (af g 9) v0).setCell (af g 10) v1).setCell (af g 11) v2).setCell (af g 12) v3).setCell (af g 13) v4).setCell (af g 14) v5).setCell (af g 15) v6)∧(∀ {R:Nat} {w:World},aj R w W→w.heap.size≤g→R<w.heap.size→aj R w (((((((W.setCell (af g 9) v0).setCell (af g 10) v1).setCell (af g 11) v2).setCell (af g 12) v3).setCell (af g 13) v4).setCell (af g 14) v5).setCell (af g 15) v6)):=by
 refine ⟨?_,((((((((aI.refl _ _).set 9 v0).set 10 v1).set 11 v2).set 12 v3).set 13 v4).set 14 v5).set 15 v6),fun hb hg hr=>(((((((hb.aW g 9 v0 hg (Jb hr)).aW g 10 v1 hg (Jb hr)).aW g 11 v2 hg (Jb hr)).aW g 12 v3 hg (Jb hr)).aW g 13 v4 hg (Jb hr)).aW g 14 v5 hg (Jb hr)).aW g 15 v6 hg (Jb hr))⟩;have h:=I5 W g 9 _ _ v0 h;generalize W.setCell (af g 9) v0=W0 at h ⊢
 have h:=I5 W0 g 10 _ _ v1 h;generalize W0.setCell (af g 10) v1=W1 at h ⊢;have h:=I5 W1 g 11 _ _ v2 h;generalize W1.setCell (af g 11) v2=W2 at h ⊢;have h:=I5 W2 g 12 _ _ v3 h
 generalize W2.setCell (af g 12) v3=W3 at h ⊢;have h:=I5 W3 g 13 _ _ v4 h;generalize W3.setCell (af g 13) v4=W4 at h ⊢;have h:=I5 W4 g 14 _ _ v5 h;generalize W4.setCell (af g 14) v5=W5 at h ⊢
 have h:=I5 W5 g 15 _ _ v6 h;generalize W5.setCell (af g 15) v6=W6 at h ⊢;exact h
theorem tV {w:World} {R tb:Nat} {ts:List Tk} (h:aR w R tb ts 0):Calls Tryz.prog 131 #[af R 0] w (Ends R tb 0 w (rP w) (fD ts)):=by
 have hmf:∀ (fn:Fn) (first cap:Array Value) (w:World),(Instr.makeFunc fn first cap).run Tryz.prog w = .ok (.func fn first cap) w:=fun _ _ _ _=>rfl
 have hltR:=h.lt;have hltT:=h.lK;have hx0:aj R w w:=aj.refl _ _;have HR0:=ah h;generalize hM:fD ts=M;unfold fD at hM;try dsimp only at hM
 have HM0:=ah hM;clear h hM;go_enter Tryz.func131,Tryz.ntmps131;go_upto_region 1 with fail
 obtain ⟨hal1,Q2⟩:=dZ w cO 57;have hsg6:=hx0.size;generalize w.alloc _=w3 at *;have hx4:aj R w w3:=hx0.trans (.of hal1 ak);have HR5:=ah (HR0.out.next hal1);clear HR0 hx0 hal1;have hal8:=bR w3 (.cells #[.string ⟨#[105,110,116,111]⟩] 9);have hsz:=hx4.size;have con9:=de (cap:=1) (HR5.out.next hal8) (dh.one w3 ⟨#[105,110,116,111]⟩ 9) ak (by simp);have hm:=HM0.out
 generalize aV [⟨#[105,110,116,111]⟩] ts=L at hm con9;have HM15:=ah hm;clear hm HM0 HR5;go_wp2_with fail
 generalize w3.alloc _=wa11 at *;refine con9.mono ?_;rintro e w10 ⟨hb12,hW⟩;have hxa13:aj R w3 w10:=(aj.of hal8 ak).trans hb12;have hx14:=hx4.trans hxa13;have Q17:=(hxa13.2 _ (lt_of_heap Q2) ak).trans Q2;clear Q2;clear con9 hal8 hb12 hxa13 hx4 hsz;rcases L with ce | ⟨u18,r16⟩
 ·obtain ⟨rfl,us,hE⟩:=hW;have HE:=ah hE;clear hE;have e:=HM15.out.symm;subst e;clear HM15;go_wp2_with fail
  exact ⟨rfl,Ends.err rfl hx14 HE.out⟩
 obtain ⟨v,rfl,rfl,hR⟩:=hW;have HR19:=ah hR;have hm:=HM15.out;simp only [bI] at hm;have HM20:=ah hm;clear hm hR HM15;have hsz:=hx14.size;have con21:=iA HR19.out;have hm:=HM20.out;generalize dt r16=L at hm con21;have HM25:=ah hm;clear hm HM20 HR19;have hl_g6:=lt_of_heap Q17;go_wp2_with fail
 refine con21.mono ?_;rintro e w22 ⟨hb23,hW⟩;have hx24:=hx14.trans hb23;have Q27:=(hb23.2 _ (lt_of_heap Q17) ak).trans Q17;clear Q17;clear con21 hb23 hx14;rcases L with ce | ⟨nm,r26⟩
 ·obtain ⟨rfl,us,hE⟩:=hW;have HE:=ah hE;clear hE;have e:=HM25.out.symm;subst e;clear HM25;go_wp2_with fail
  exact ⟨rfl,Ends.err rfl hx24 HE.out⟩
 obtain ⟨v,rfl,rfl,hR⟩:=hW;have HR28:=ah hR;have hm:=HM25.out;simp only [bI] at hm;have HM29:=ah hm;clear hm hR HM25;clear hsz hl_g6;go_upto_region 3 with (first | (refine aT rfl 57 _ _ rfl cO #[(3:Int),nm,aL,aL,aL,aL,aB,aL,false,aB,aB,aB,(),(),(),aL] rfl rfl dB rfl (eh rfl) ?_))
 have hbl_g6_g35:=lt_of_heap Q27;have hal30:=bR w22 (.cells #[(3:Int),nm,aL,aL,aL,aL,aB,aL,false,aB,aB,aB,(),(),(),aL] 57)
 have Q31:=aD w22 #[(3:Int),nm,aL,aL,aL,aL,aB,aL,false,aB,aB,aB,(),(),(),aL] 57;have hsg35:=hx24.size;generalize w22.alloc _=w32 at *;have Q37:=bH hal30 Q27
 clear Q27;have hx33:aj R w w32:=hx24.trans (.of hal30 ak);have HR34:=ah (HR28.out.next hal30);clear HR28 hx24 hal30;generalize hqg35:w22.heap.size=g35 at *;clear hqg35;have hal38:=bR w32 (.cells #[.string ⟨#[118,97,108,117,101,115]⟩] 9);have hsz:=hx33.size;have con39:=de (cap:=1) (HR34.out.next hal38) (dh.one w32 ⟨#[118,97,108,117,101,115]⟩ 9) ak (by simp);have hm:=HM29.out;generalize aV [⟨#[118,97,108,117,101,115]⟩] r26=L at hm con39;have HM45:=ah hm;clear hm HM29 HR34
 go_wp2_with fail
 generalize w32.alloc _=wa41 at *;refine con39.mono ?_;rintro e w40 ⟨hb42,hW⟩;have hxa43:aj R w32 w40:=(aj.of hal38 ak).trans hb42;have hx44:=hx33.trans hxa43;have Q47:=(hxa43.2 _ (lt_of_heap Q37) ak).trans Q37;clear Q37;have Q48:=(hxa43.2 _ (lt_of_heap Q31) ak).trans Q31;clear Q31;clear con39 hal38 hb42 hxa43 hx33 hsz;rcases L with ce | ⟨u49,r46⟩
 ·obtain ⟨rfl,us,hE⟩:=hW;have HE:=ah hE;clear hE;have e:=HM45.out.symm;subst e;clear HM45;go_wp2_with fail
  exact ⟨rfl,Ends.err rfl hx44 HE.out⟩
 obtain ⟨v,rfl,rfl,hR⟩:=hW;have HR50:=ah hR;have hm:=HM45.out;simp only [bI] at hm;have HM51:=ah hm;clear hm hR HM45;have hsz:=hx44.size;have con52:=wJ HR50.out;have hm:=HM51.out;generalize cu jJ 400 401 r46=L at hm con52;have HM56:=ah hm;clear hm HM51 HR50;have hl_g6:=lt_of_heap Q47;have hl_g35:=lt_of_heap Q48;go_wp2_with fail
 refine con52.mono ?_;rintro e w53 ⟨hb54,hW⟩;have hx55:=hx44.trans hb54;have Q58:=(hb54.2 _ (lt_of_heap Q47) ak).trans Q47;clear Q47;have Q59:=(hb54.2 _ (lt_of_heap Q48) ak).trans Q48;clear Q48;clear con52 hb54 hx44;rcases L with ce | ⟨l,r57⟩
 ·obtain ⟨rfl,us,hE⟩:=hW;have HE:=ah hE;clear hE;have e:=HM56.out.symm;subst e;clear HM56;go_wp2_with fail
  exact ⟨rfl,Ends.err rfl hx55 HE.out⟩
 obtain ⟨v,rfl,⟨a2,c2,rfl,hls⟩,hR⟩:=hW;have HR60:=ah hR;have hm:=HM56.out;simp only [bI] at hm;have HM61:=ah hm;clear hm hR HM56;have HK62:=ah ((br (br eU 3) 1).mono (S:=fun b=>w40.heap.size≤b) (fun b h _=>by have:_≤b:=h; show g35<b; omega) (⟨a2,c2,rfl,hls⟩));clear hls;clear hsz hl_g6 hl_g35;have z63:=cell_of (i:=7) Q59 rfl;have z63f:=I0 w53 g35 7 _ _ Q59;go_upto_region 5 with fail
 obtain ⟨Q68,hk65,hbx⟩:=Ar Q59 (.slice a2 l.length c2);have hx66:=hbx hx55 ak ak;clear hbx z63 z63f;generalize w53.setCell _ _=w64 at *;have Q69:=(hk65.2 _ (lt_of_heap Q58) ak).trans Q58;clear Q58;have HK70:=ah ((br (br eU 3) 1).next (hk65.k (by show ¬ _; omega)) HK62.out);clear HK62;clear Q59;have HR67:=ah (HR60.out.k1 hk65 ak ak (by have:=HR60.out.r2; omega));clear HR60 hk65 hx55;have e:=HM61.out;subst e;clear HM61
 go_wp2_with (first | (refine wpList_load_row rfl 57 _ rfl g35 rfl 57 #[(3:Int),nm,aL,aL,aL,aL,aB,.slice a2 l.length c2,false,aB,aB,aB,(),(),(),aL] (0,0) _ Q68 Tryz.underlying57 rfl dB ?_) | (refine wpList_store_row rfl 57 _ _ rfl w #[(3:Int),nm,aL,aL,aL,aL,aB,.slice a2 l.length c2,false,aB,aB,aB,(),(),(),aL] rfl rfl 57 cO Q69 dB rfl (eh rfl) ?_))
 obtain ⟨QE,hRE,hbE,hkE⟩:=gC (w:=w) Q69 HR67.out hx66 ak hltR hltT #[(3:Int),nm,aL,aL,aL,aL,aB,.slice a2 l.length c2,false,aB,aB,aB,(),(),(),aL];generalize w64.setRow _ _=wE at *
 have L0:(iB (iB jQ 3) 1) (fun b=>w.heap.size≤b) wE l [.slice a2 l.length c2]:=(br (br eU 3) 1).mono (fun b h _=>by have:g35<b:=h; show _≤b; omega) ((br (br eU 3) 1).next (hkE.k (by show ¬ _; omega)) HK70.out)
 exact I7 (v:=.agg #[(3:Int),nm,aL,aL,aL,aL,aB,.slice a2 l.length c2,false,aB,aB,aB,(),(),(),aL]) (results_cell_row Tryz.results131 _ _ _ _ _ _ _ rfl QE Tryz.underlying57 rfl dB) rfl (Ends.cK (x:=(⟨3,nm,[],iz,l,false,dM⟩:cM)) rfl hbE (⟨none,0,none,0,none,0,none,0,a2,c2,none,0,rfl,.inl rfl,.inl rfl,.inl rfl,.inl rfl,L0.ls,aJ.nil _⟩) hRE)
theorem vy {w:World} {R tb:Nat} {ts:List Tk} (h:aR w R tb ts 0):Calls Tryz.prog 132 #[af R 0] w (Ends R tb 0 w (rP w) (gL ts)):=by
 have hmf:∀ (fn:Fn) (first cap:Array Value) (w:World),(Instr.makeFunc fn first cap).run Tryz.prog w = .ok (.func fn first cap) w:=fun _ _ _ _=>rfl
 have hltR:=h.lt;have hltT:=h.lK;have hx0:aj R w w:=aj.refl _ _;have HR0:=ah h;generalize hM:gL ts=M;unfold gL at hM;try dsimp only at hM
 have HM0:=ah hM;clear h hM;go_enter Tryz.func132,Tryz.ntmps132;go_upto_region 1 with fail
 obtain ⟨hal1,Q2⟩:=dZ w cO 57;have hsg6:=hx0.size;generalize w.alloc _=w3 at *;have hx4:aj R w w3:=hx0.trans (.of hal1 ak);have HR5:=ah (HR0.out.next hal1);clear HR0 hx0 hal1;have hal8:=bR w3 (.cells #[.string ⟨#[102,114,111,109]⟩] 9);have hsz:=hx4.size;have con9:=de (cap:=1) (HR5.out.next hal8) (dh.one w3 ⟨#[102,114,111,109]⟩ 9) ak (by simp);have hm:=HM0.out
 generalize aV [⟨#[102,114,111,109]⟩] ts=L at hm con9;have HM15:=ah hm;clear hm HM0 HR5;go_wp2_with fail
 generalize w3.alloc _=wa11 at *;refine con9.mono ?_;rintro e w10 ⟨hb12,hW⟩;have hxa13:aj R w3 w10:=(aj.of hal8 ak).trans hb12;have hx14:=hx4.trans hxa13;have Q17:=(hxa13.2 _ (lt_of_heap Q2) ak).trans Q2;clear Q2;clear con9 hal8 hb12 hxa13 hx4 hsz;rcases L with ce | ⟨u18,r16⟩
 ·obtain ⟨rfl,us,hE⟩:=hW;have HE:=ah hE;clear hE;have e:=HM15.out.symm;subst e;clear HM15;go_wp2_with fail
  exact ⟨rfl,Ends.err rfl hx14 HE.out⟩
 obtain ⟨v,rfl,rfl,hR⟩:=hW;have HR19:=ah hR;have hm:=HM15.out;simp only [bI] at hm;have HM20:=ah hm;clear hm hR HM15;have hsz:=hx14.size;have con21:=iA HR19.out;have hm:=HM20.out;generalize dt r16=L at hm con21;have HM25:=ah hm;clear hm HM20 HR19;have hl_g6:=lt_of_heap Q17;go_wp2_with fail
 refine con21.mono ?_;rintro e w22 ⟨hb23,hW⟩;have hx24:=hx14.trans hb23;have Q27:=(hb23.2 _ (lt_of_heap Q17) ak).trans Q17;clear Q17;clear con21 hb23 hx14;rcases L with ce | ⟨nm,r26⟩
 ·obtain ⟨rfl,us,hE⟩:=hW;have HE:=ah hE;clear hE;have e:=HM25.out.symm;subst e;clear HM25;go_wp2_with fail
  exact ⟨rfl,Ends.err rfl hx24 HE.out⟩
 obtain ⟨v,rfl,rfl,hR⟩:=hW;have HR28:=ah hR;have hm:=HM25.out;simp only [bI] at hm;have HM29:=ah hm;clear hm hR HM25;clear hsz hl_g6;go_upto_region 3 with (first | (refine aT rfl 57 _ _ rfl cO #[(4:Int),nm,aL,aL,aL,aL,aB,aL,false,aB,aB,aB,(),(),(),aL] rfl rfl dB rfl (eh rfl) ?_))
 have hbl_g6_g35:=lt_of_heap Q27;have hal30:=bR w22 (.cells #[(4:Int),nm,aL,aL,aL,aL,aB,aL,false,aB,aB,aB,(),(),(),aL] 57)
 have Q31:=aD w22 #[(4:Int),nm,aL,aL,aL,aL,aB,aL,false,aB,aB,aB,(),(),(),aL] 57;have hsg35:=hx24.size;generalize w22.alloc _=w32 at *;have Q37:=bH hal30 Q27
 clear Q27;have hx33:aj R w w32:=hx24.trans (.of hal30 ak);have HR34:=ah (HR28.out.next hal30);clear HR28 hx24 hal30;generalize hqg35:w22.heap.size=g35 at *;clear hqg35;have hsz:=hx33.size;have con38:=ju HR34.out ⟨#[119,104,101,114,101]⟩;have hm:=HM29.out;generalize bO ⟨#[119,104,101,114,101]⟩ r26=L at hm con38;have HM42:=ah hm;clear hm HM29 HR34;have hl_g6:=lt_of_heap Q37;have hl_g35:=lt_of_heap Q31;go_wp2_with fail
 refine con38.mono ?_;rintro e w39 ⟨hb40,hW⟩;have hx41:=hx33.trans hb40;have Q44:=(hb40.2 _ (lt_of_heap Q37) ak).trans Q37;clear Q37;have Q45:=(hb40.2 _ (lt_of_heap Q31) ak).trans Q31;clear Q31;clear con38 hb40 hx33;rcases L with ce | ⟨hw,r43⟩
 ·obtain ⟨rfl,us,hE⟩:=hW;have HE:=ah hE;clear hE;have e:=HM42.out.symm;subst e;clear HM42;go_wp2_with fail
  exact ⟨rfl,Ends.err rfl hx41 HE.out⟩
 obtain ⟨v,rfl,⟨a3,c3,rfl,hks⟩,hR⟩:=hW;have HR46:=ah hR;have hm:=HM42.out;simp only [bI] at hm;have HM47:=ah hm;clear hm hR HM42;have HK48:=ah (b9.mono (S:=fun b=>w32.heap.size≤b) (fun b h _=>by have:_≤b:=h; show g35<b; omega) (⟨a3,c3,rfl,hks⟩));clear hks;clear hsz hl_g6 hl_g35;have z49:=cell_of (i:=8) Q45 rfl;have z49f:=I0 w39 g35 8 _ _ Q45
 have z50:=cell_of (i:=9) Q45 rfl;have z50f:=I0 w39 g35 9 _ _ Q45;have z51:=cell_of (i:=10) Q45 rfl;have z51f:=I0 w39 g35 10 _ _ Q45;have z52:=cell_of (i:=11) Q45 rfl;have z52f:=I0 w39 g35 11 _ _ Q45;have z53:=cell_of (i:=12) Q45 rfl;have z53f:=I0 w39 g35 12 _ _ Q45;have z54:=cell_of (i:=13) Q45 rfl
 have z54f:=I0 w39 g35 13 _ _ Q45;have z55:=cell_of (i:=14) Q45 rfl;have z55f:=I0 w39 g35 14 _ _ Q45;have z56:=cell_of (i:=15) Q45 rfl;have z56f:=I0 w39 g35 15 _ _ Q45;go_upto_region 4 with fail
 obtain ⟨Q61,hk58,hbx⟩:=Ak Q45 hw.1;have hx59:=hbx hx41 ak ak;clear hbx;generalize w39.setCell _ _=w57 at *;have Q62:=(hk58.2 _ (lt_of_heap Q44) ak).trans Q44;clear Q44;have HK63:=ah (b9.next (hk58.k (by show ¬ _; omega)) HK48.out);clear HK48;clear Q45;have HR60:=ah (HR46.out.k1 hk58 ak ak (by have:=HR46.out.r2; omega))
 clear HR46 hk58 hx41;obtain ⟨Q68,hk65,hbx⟩:=sL Q61 hw.2.k hw.2.v.1 hw.2.v.2.1 hw.2.v.2.2 hw.2.bp hw.2.name (.slice a3 hw.2.ks.length c3);have hx66:=hbx hx59 ak ak;clear hbx z49 z49f z50 z50f z51 z51f z52 z52f z53 z53f z54 z54f z55 z55f z56 z56f
 generalize (((((((w57.setCell (af g35 9) hw.2.k).setCell (af g35 10) hw.2.v.1).setCell (af g35 11) hw.2.v.2.1).setCell (af g35 12) hw.2.v.2.2).setCell (af g35 13) hw.2.bp).setCell (af g35 14) hw.2.name).setCell (af g35 15) (.slice a3 hw.2.ks.length c3))=w64 at *;have Q69:=(hk65.2 _ (lt_of_heap Q62) ak).trans Q62;clear Q62
 have HK70:=ah (b9.next (hk65.k (by show ¬ _; omega)) HK63.out);clear HK63;clear Q61;have HR67:=ah (HR60.out.k1 hk65 ak ak (by have:=HR60.out.r2; omega));clear HR60 hk65 hx59;have e:=HM47.out;subst e;clear HM47
 go_wp2_with (first | (refine wpList_load_row rfl 57 _ rfl g35 rfl 57 #[(4:Int),nm,aL,aL,aL,aL,aB,aL,hw.1,hw.2.k,hw.2.v.1,hw.2.v.2.1,hw.2.v.2.2,hw.2.bp,hw.2.name,.slice a3 hw.2.ks.length c3] (0,0) _ Q68 Tryz.underlying57 rfl dB ?_) | (refine wpList_store_row rfl 57 _ _ rfl w #[(4:Int),nm,aL,aL,aL,aL,aB,aL,hw.1,hw.2.k,hw.2.v.1,hw.2.v.2.1,hw.2.v.2.2,hw.2.bp,hw.2.name,.slice a3 hw.2.ks.length c3] rfl rfl 57 cO Q69 dB rfl (eh rfl) ?_))
 obtain ⟨QE,hRE,hbE,hkE⟩:=gC (w:=w) Q69 HR67.out hx66 ak hltR hltT #[(4:Int),nm,aL,aL,aL,aL,aB,aL,hw.1,hw.2.k,hw.2.v.1,hw.2.v.2.1,hw.2.v.2.2,hw.2.bp,hw.2.name,.slice a3 hw.2.ks.length c3]
 generalize w64.setRow _ _=wE at *;have L0:fu (fun b=>w.heap.size≤b) wE hw.2 [.int .i64 hw.2.k,hw.2.v.1,hw.2.v.2.1,hw.2.v.2.2,hw.2.bp,hw.2.name,.slice a3 hw.2.ks.length c3]:=b9.mono (fun b h _=>by have:g35<b:=h; show _≤b; omega) (b9.next (hkE.k (by show ¬ _; omega)) HK70.out)
 exact I7 (v:=.agg #[(4:Int),nm,aL,aL,aL,aL,aB,aL,hw.1,hw.2.k,hw.2.v.1,hw.2.v.2.1,hw.2.v.2.2,hw.2.bp,hw.2.name,.slice a3 hw.2.ks.length c3]) (results_cell_row Tryz.results132 _ _ _ _ _ _ _ rfl QE Tryz.underlying57 rfl dB) rfl (Ends.cK (x:=(⟨4,nm,[],iz,[],hw.1,hw.2⟩:cM)) rfl hbE (⟨none,0,none,0,none,0,none,0,none,0,a3,c3,rfl,.inl rfl,.inl rfl,.inl rfl,.inl rfl,.inl rfl,L0.ks⟩) hRE)
def Hq (B:Nat) (W:World) (v:Value) (x:kf):Prop:=∃ p1 d1 p2 d2 p3 d3,v = .agg #[.slice p1 x.parts.length d1,.slice p2 x.ops.length d2,.slice p3 x.order.length d3,x.aH]∧bf eS 21 (fun b=>B≤b) W p1 x.parts∧bf lD 1 (fun b=>B≤b) W p2 x.ops∧bf fu 7 (fun b=>B≤b) W p3 x.order
abbrev wN:Array Value:=#[aL,aL,aL,aB]
theorem AR:(Tryz.prog.info? 50).map (·.size)=some 4:=by kernel_rfl
theorem DY:(Tryz.prog.info? 79).map (fun i=>(i.zero,i.size,i.bytes))=some (some (.agg sr),21,280):=by kernel_rfl
theorem EI:(Tryz.prog.info? 3).map (fun i=>(i.zero,i.size,i.bytes))=some (some (.int .i64 0),1,8):=by kernel_rfl
theorem bC.oQ {α:Type} {En:jP α} (ok:fW En) {e size base:Nat} {S:Nat→Prop} {W W1:World} {v:Value} {l:List α} (h:bC En e size base S W v l) (hk:ay (fun b=>S b∨v.ownBlock=some b) W W1):bC En e size base S W1 v l:=by
 obtain ⟨xs,h1,h2⟩:=h;refine ⟨xs,?_,fun i hi=>?_⟩
 ·obtain ⟨h0,⟨h1,h2⟩ | ⟨k,cap,cur,h1,h2,h3,h4⟩⟩:=h1
  ·exact ⟨h0,.inl ⟨h1,h2⟩⟩
  ·exact ⟨h0,.inr ⟨k,cap,cur,h1,h2,(hk.2 k (.inr (by rw [h1]; rfl)) (lt_of_heap h3)).trans h3,h4⟩⟩
 ·obtain ⟨cs,c1,c2,c3⟩:=h2 i hi;exact ⟨cs,c1,c2,ok.mono (fun b hb' _=>⟨hb'.1,Ja hb'.2.1 hk.1,hb'.2.2⟩) (ok.next (hk.mono fun _ h=>.inl h.1) c3)⟩
theorem bC.AN {α:Type} {En:jP α} (ok:fW En) {e size base:Nat} {S S':Nat→Prop} {W:World} {v:Value} {l:List α} (h:bC En e size base S W v l) (hs:∀ b,S b→b<W.heap.size→v.ownBlock≠some b→S' b):bC En e size base S' W v l:=by
 obtain ⟨xs,h1,h2⟩:=h;refine ⟨xs,h1,fun i hi=>?_⟩;obtain ⟨cs,c1,c2,c3⟩:=h2 i hi;exact ⟨cs,c1,c2,ok.mono (fun b hb' _=>⟨hs b hb'.1 hb'.2.1 hb'.2.2,hb'.2.1,hb'.2.2⟩) c3⟩
theorem bC.Iz {α:Type} {En:jP α} (ok:fW En) {e size base:Nat} {S S':Nat→Prop} {W:World} {v:Value} {l:List α} (h:bC En e size base S W v l) (hs:∀ b,S b→S' b) (ho:∀ k,v.ownBlock=some k→base≤k→S' k):∃ a cap,v = .slice a l.length cap∧bf En size S' W a l:=by
 rcases h.fin ok with ⟨rfl,rfl⟩ | ⟨g,cap,rfl,h1,h2,h3⟩
 ·exact ⟨none,0,rfl,.inl rfl⟩
 ·refine ⟨_,cap,rfl,.inr ⟨g,0,rfl,ho g rfl h1,h2,fun i hi=>?_⟩⟩;obtain ⟨cs,c1,c2,c3⟩:=h3 i hi;exact ⟨cs,c1,by simpa using c2,ok.mono (fun b h _=>hs b h) c3⟩
theorem jW {P:Program} {w:World} {o:Oper} {a:Act} {K:Act→World→Prop} {Q:Exit→Act→World→Prop} (s x:Operand) (t:TypeId)
  (ho:o.op = .call { callee:=.builtin .append,args:=#[s,x],argTypes:=#[t,t] })
  (base:Nat) (e:TypeId) (i:TypeInfo) (z:Value) (size bytes:Nat) (ht:P.underlying t=some (.slice e)) (hi:P.info? e=some i) (hz:i.zero=some z)
  (hsize:i.size=size) (hby:i.bytes=bytes) (hzs:z.cells.size=size) (hsz:0<size)
  (v:Value) (n:Nat) (xs:List Value) (hs:a.eval s=v) (hown:w.ownsRow base e size v n xs)
  (ad:Addr) (m c:Nat) (news:List Value) (hx:a.eval x = .slice (some ad) m c) (hl:news.length=m*size) (hnews:∀ j u,news[j]? = some u→w.cell? (ad.add j)=some u) (h1:∀ u ∈ news,u.oneCell'=true)
  (h63:n+m≤maxLen) (hbytes:(n+m)*bytes≤140737488355328) (hbase:base≤w.heap.size)
  (h:∀ v' w',w'.ownsRow base e size v' (n+m) (xs ++ news)→w.grownBy w' v.ownBlock→(v'.ownBlock=v.ownBlock∨v'.ownBlock=some w.heap.size)→K (a.put o.dst v') w'):o.wp P a w K Q:=by
 obtain ⟨v',w',hr,h2,h3,_,h5⟩:=run_append_own_at (P:=P) w base t o.type e i z size bytes ht hi hz hsize hby hzs hsz v n xs hown ad m c news hl hnews h1 h63 hbytes hbase;unfold Oper.wp;simp [execOp,ho,resolve,invoke,builtin,hs,hx,hr,Result.andThen];exact h v' w' h2 h3 h5
def SQ (w0 gq:Nat) (b:Nat):Prop:=w0<b∧b≠gq
def SP (w0 gq:Nat) (vo:Value) (b:Nat):Prop:=w0<b∧b≠gq∧vo.ownBlock≠some b
def EX (po:List dO × List Int) (r2:List Tk):PR kf :=
 if bK ⟨#[111,114,100,101,114]⟩ r2 then aK (aV [⟨#[98,121]⟩] (aC r2)) fun _ r3=>aK (cu eP 8 9 r3) fun l r4=>aK (aV [⟨#[108,105,109,105,116]⟩] r4) fun _ r5=>aK (dv 0 50 r5) fun n r6=>.ok (⟨po.1,po.2,l,n⟩,r6)
  else .ok (⟨po.1,po.2,[],-1⟩,r2)
theorem By (ts:List Tk):gn ts=aK (db ts) fun s r=>aK (cD 5 [s] [] r) fun po r2=>EX po r2:=rfl
theorem rE {ts:List Tk} (h:(bo ts).1=0):(bo ts).2=ts:=by
 unfold bo at h ⊢
 split at h
 ·split at h <;> simp at h
 ·split at h
  ·split at h <;> simp at h
  ·simp_all
structure DV (w:World) (R gq:Nat) (wr:World) (vp vo:Value) (ps:List dO) (ops:List Int):Prop where
 qz:wr.heap[w.heap.size]? = some (.cells wN 50 (0,0))
 qq:wr.heap[gq]? = some (.cells #[vp,vo,aL,.int .i64 (-1)] 50 (0,0))
 p:bC eS 79 21 (w.heap.size+1) (SP w gq vo) wr vp ps
 po:∀ k,vp.ownBlock=some k→k≠gq∧vo.ownBlock≠some k
 i:bC lD 3 1 (w.heap.size+1) (SQ w gq) wr vo ops
 io:∀ k,vo.ownBlock=some k→k≠gq
theorem DV.aM {w:World} {R gq:Nat} {wr w1:World} {vp vo:Value} {ps:List dO} {ops:List Int} (h:DV w R gq wr vp vo ps ops) (hb:aj R wr w1) (hR:R<w.heap.size) (hg:w.heap.size<gq):DV w R gq w1 vp vo ps ops:=by
 refine ⟨(hb.2 _ (lt_of_heap h.qz) ak).trans h.qz,(hb.2 _ (lt_of_heap h.qq) ak).trans h.qq,h.p.oQ b8 (hb.k1.k ?_),h.po,h.i.oQ fv (hb.k1.k ?_),h.io⟩
 ·rintro (h1 | h1)
  ·have:=h1.1; omega
  ·have:=(h.p.lt _ h1).1; omega
 ·rintro (h1 | h1)
  ·have:=h1.1; omega
  ·have:=(h.i.lt _ h1).1; omega
theorem xk {W:World} {g:Nat} {T:TypeId} {c0 c1 c2 c3:Value} (h:W.heap[g]? = some (.cells #[c0,c1,c2,c3] T (0,0))) (v0:Value):(W.setCell (af g 2) v0).heap[g]? = some (.cells #[c0,c1,v0,c3] T (0,0))∧aI g W (W.setCell (af g 2) v0)∧(∀ {R:Nat} {w:World},aj R w W→w.heap.size≤g→R<w.heap.size→aj R w (W.setCell (af g 2) v0)):=by
 refine ⟨?_,((aI.refl _ _).set 2 v0),fun hb hg hr=>(hb.aW g 2 v0 hg (Jb hr))⟩;have h:=I5 W g 2 _ _ v0 h;generalize W.setCell (af g 2) v0=W0 at h ⊢;exact h
theorem xj {W:World} {g:Nat} {T:TypeId} {c0 c1 c2 c3:Value} (h:W.heap[g]? = some (.cells #[c0,c1,c2,c3] T (0,0))) (v0:Value):(W.setCell (af g 3) v0).heap[g]? = some (.cells #[c0,c1,c2,v0] T (0,0))∧aI g W (W.setCell (af g 3) v0)∧(∀ {R:Nat} {w:World},aj R w W→w.heap.size≤g→R<w.heap.size→aj R w (W.setCell (af g 3) v0)):=by
 refine ⟨?_,((aI.refl _ _).set 3 v0),fun hb hg hr=>(hb.aW g 3 v0 hg (Jb hr))⟩;have h:=I5 W g 3 _ _ v0 h;generalize W.setCell (af g 3) v0=W0 at h ⊢;exact h
theorem Ds {W:World} {g:Nat} {T:TypeId} {c0 c1 c2 c3:Value} (h:W.heap[g]? = some (.cells #[c0,c1,c2,c3] T (0,0))) (v0:Value):(W.setCell (af g 1) v0).heap[g]? = some (.cells #[c0,v0,c2,c3] T (0,0))∧aI g W (W.setCell (af g 1) v0)∧(∀ {R:Nat} {w:World},aj R w W→w.heap.size≤g→R<w.heap.size→aj R w (W.setCell (af g 1) v0)):=by
 refine ⟨?_,((aI.refl _ _).set 1 v0),fun hb hg hr=>(hb.aW g 1 v0 hg (Jb hr))⟩;have h:=I5 W g 1 _ _ v0 h;generalize W.setCell (af g 1) v0=W0 at h ⊢;exact h
theorem DH {W:World} {g:Nat} {T:TypeId} {c0 c1 c2 c3:Value} (h:W.heap[g]? = some (.cells #[c0,c1,c2,c3] T (0,0))) (v0:Value):(W.setCell (af g 0) v0).heap[g]? = some (.cells #[v0,c1,c2,c3] T (0,0))∧aI g W (W.setCell (af g 0) v0)∧(∀ {R:Nat} {w:World},aj R w W→w.heap.size≤g→R<w.heap.size→aj R w (W.setCell (af g 0) v0)):=by
 refine ⟨?_,((aI.refl _ _).set 0 v0),fun hb hg hr=>(hb.aW g 0 v0 hg (Jb hr))⟩;have h:=I5 W g 0 _ _ v0 h;generalize W.setCell (af g 0) v0=W0 at h ⊢;exact h
theorem uT {w:World} {R tb:Nat} {ts:List Tk} (h:aR w R tb ts 0):Calls Tryz.prog 133 #[af R 0] w (Ends R tb 0 w (Hq w) (gn ts)):=by
 have hmf:∀ (fn:Fn) (first cap:Array Value) (w:World),(Instr.makeFunc fn first cap).run Tryz.prog w = .ok (.func fn first cap) w:=fun _ _ _ _=>rfl
 have hltR:=h.lt;have hltT:=h.lK;have hx0:aj R w w:=aj.refl _ _;have HR0:=ah h;generalize hM:gn ts=M;have HM0:=ah hM;clear h hM;go_enter Tryz.func133,Tryz.ntmps133;go_upto_region 1 with fail
 obtain ⟨hal1,Q2⟩:=dZ w wN 50;have hsg6:=hx0.size;generalize w.alloc _=w3 at *;have hx4:aj R w w3:=hx0.trans (.of hal1 ak);have HR5:=ah (HR0.out.next hal1);clear HR0 hx0 hal1;obtain ⟨i0,hi,hj0,hj1,hj2⟩:=info_parts DY;obtain ⟨k0,hk,hk0,hk1,hk2⟩:=info_parts EI;have hm:=HM0.out;rw [By] at hm;have HMa:=ah hm;clear hm HM0;have hsz:=hx4.size;have con8:=nt HR5.out;have hm:=HMa.out;generalize db ts=L at hm con8;have HM12:=ah hm
 clear hm HMa HR5;have hl_g6:=lt_of_heap Q2;go_wp2_with fail
 refine con8.mono ?_;rintro e w9 ⟨hb10,hW⟩;have hx11:=hx4.trans hb10;have Q14:=(hb10.2 _ (lt_of_heap Q2) ak).trans Q2;clear Q2;clear con8 hb10 hx4;rcases L with ce | ⟨s0,r13⟩
 ·obtain ⟨rfl,us,hE⟩:=hW;have HE:=ah hE;clear hE;have e:=HM12.out.symm;subst e;clear HM12;go_wp2_with fail
  exact ⟨rfl,Ends.err rfl hx11 HE.out⟩
 obtain ⟨v,rfl,⟨a1,c1,a2,c2,a3,c3,a4,c4,a5,c5,rfl,k1,k2,k3,k4,k5⟩,hR⟩:=hW;have HR15:=ah hR;have hm:=HM12.out;simp only [bI] at hm;have HM16:=ah hm;clear hm hR HM12
 have HK17:=ah (b8.mono (S:=fun b=>w3.heap.size≤b) (fun b h _=>by have:_≤b:=h; show w.heap.size<b; omega) (⟨a1,c1,a2,c2,a3,c3,a4,c4,a5,c5,rfl,k1,k2,k3,k4,k5⟩))
 clear k1 k2 k3 k4 k5;clear hsz hl_g6;have hlz:=lt_of_heap Q14;have hsz:=hx11.size;have hal2:=bR w9 (.cells (iE s0 a1 a2 a3 a4 a5 c1 c2 c3 c4 c5) 79);have halQ:Below (w9.alloc (.cells (iE s0 a1 a2 a3 a4 a5 c1 c2 c3 c4 c5) 79)).heap.size (w9.alloc (.cells (iE s0 a1 a2 a3 a4 a5 c1 c2 c3 c4 c5) 79)) ((w9.alloc (.cells (iE s0 a1 a2 a3 a4 a5 c1 c2 c3 c4 c5) 79)).alloc (.cells #[.slice (some (af w9 0)) 1 1,aL,aL,.int .i64 (-1)] 50)):=bR ..
 have Q2:((w9.alloc (.cells (iE s0 a1 a2 a3 a4 a5 c1 c2 c3 c4 c5) 79)).alloc (.cells #[.slice (some (af w9 0)) 1 1,aL,aL,.int .i64 (-1)] 50)).heap[w9.heap.size+1]? = some (.cells #[.slice (some (af w9 0)) 1 1,aL,aL,.int .i64 (-1)] 50 (0,0)):=by
  rw [show w9.heap.size+1=(w9.alloc (.cells (iE s0 a1 a2 a3 a4 a5 c1 c2 c3 c4 c5) 79)).heap.size by simp];exact aD _ _ _
 have P1:bC eS 79 21 (w.heap.size+1) (fun b=>w.heap.size<b) (w9.alloc (.cells (iE s0 a1 a2 a3 a4 a5 c1 c2 c3 c4 c5) 79)) (.slice (some (af w9 0)) 1 1) [s0]:=bC.one b8 (ca:=(iE s0 a1 a2 a3 a4 a5 c1 c2 c3 c4 c5)) HK17.out rfl ak
 have P2:bC eS 79 21 (w.heap.size+1) (SP w (w9+1) aL) ((w9.alloc (.cells (iE s0 a1 a2 a3 a4 a5 c1 c2 c3 c4 c5) 79)).alloc (.cells #[.slice (some (af w9 0)) 1 1,aL,aL,.int .i64 (-1)] 50)) (.slice (some (af w9 0)) 1 1) [s0]:=(P1.AN b8 (fun b h1 h2 _=>⟨h1,by simp at h2; omega,by simp [Value.ownBlock]⟩)).next b8 halQ
 have D2:=chain hal2 halQ
 have ST:DV w R (w9+1) ((w9.alloc (.cells (iE s0 a1 a2 a3 a4 a5 c1 c2 c3 c4 c5) 79)).alloc (.cells #[.slice (some (af w9 0)) 1 1,aL,aL,.int .i64 (-1)] 50)) (.slice (some (af w9 0)) 1 1) aL [s0] []:=⟨(D2.block _ hlz).trans Q14,Q2,P2,fun k e=>⟨by have:=Jt e; change w9.heap.size=k at this; omega,by simp [Value.ownBlock]⟩,bC.nil _ _ _ _ _ _,fun k e=>by simp [Value.ownBlock] at e⟩
 have hxQ:aj R w ((w9.alloc (.cells (iE s0 a1 a2 a3 a4 a5 c1 c2 c3 c4 c5) 79)).alloc (.cells #[.slice (some (af w9 0)) 1 1,aL,aL,.int .i64 (-1)] 50)):=hx11.trans (.of D2 ak);have HRQ:=ah (HR15.out.next D2)
 have HST:=ah ST;clear HR15 hx11 Q14 HK17 hal2 halQ Q2 P1 P2 D2 ST;go_upto_region 2 with fail
 generalize ((w9.alloc (.cells (iE s0 a1 a2 a3 a4 a5 c1 c2 c3 c4 c5) 79)).alloc (.cells #[.slice (some (af w9 0)) 1 1,aL,aL,.int .i64 (-1)] 50))=wA at *;generalize (Value.slice (some (af w9 0)) 1 1)=vp at *;have hgq:w.heap.size<w9.heap.size+1:=by omega
 clear hlz hsz;generalize w9.heap.size+1=gq at *;have conb:=pe HRQ.out;generalize hbt:bo r13=bt at conb;go_wp2_with fail
 refine conb.mono ?_;rintro e w9 ⟨rfl,h9,hb9⟩;subst hbt;have HR9:=ah h9;have hx9:=hxQ.trans hb9;have ST9:=ah (HST.out.aM hb9 hltR hgq);clear conb h9 hxQ HRQ HST hb9;go_wp2_with fail
 go_loopg [4] 5 (fun m kv wr=>∃ (t0:List Tk) (vp vo:Value) (ps:List dO) (ops:List Int),kv = .int .i64 (bo t0).1∧Hid (m+ps.length=6)∧Hid (1≤ps.length∧ps.length≤4)∧Hid (ops.length+1=ps.length)∧Hid ((aK (cD m ps ops t0) fun po r2=>EX po r2)=M)∧aj R w wr∧Hid (aR wr R tb (bo t0).2 0)∧Hid (DV w R gq wr vp vo ps ops))
 case atStart=>exact ⟨r13,vp,aL,[s0],[],rfl,by show _=_; simp,by show _∧_; simp,by show _=_; simp,HM16,hx9,HR9,ST9⟩
 case round =>
  clear HM16 hx9 HR9 ST9;obtain ⟨t0,vp,vo,ps,ops,rfl,hn,hps,hop,HL,hxr,HRr,HS⟩:=hrel;obtain ⟨m,rfl⟩:∃ m,gk=m+1:=⟨gk - 1,by have:=hn.out; have:=hps.out; omega⟩
  have hL:=HL.out;rw [cD] at hL;by_cases hb0:(bo t0).1=0
  ·rw [if_pos hb0,bI] at hL;have hRe:=HRr.out;rw [rE hb0] at hRe;have bb:((bo t0).1 != 0)=false:=by simpa using hb0
   obtain ⟨av,cv,rfl,hlp⟩:=HS.out.p.Iz b8 (fun b h=>(⟨h.1,h.2.1⟩:SQ w gq b)) (fun k e h=>⟨by omega,(HS.out.po k e).1⟩);obtain ⟨ao,co,rfl,hlo⟩:=HS.out.i.Iz fv (fun b h=>h) (fun k e h=>(⟨by omega,HS.out.io k e⟩:SQ w gq k));have QZ:=HS.out.qz;have QQ:=HS.out.qq;have HKp:Hid (iB eS 21 (fun b=>w.heap.size<b∧b≠gq) wr ps [.slice av ps.length cv]):=⟨av,cv,rfl,hlp⟩
   have HKo:Hid (iB lD 1 (fun b=>w.heap.size<b∧b≠gq) wr ops [.slice ao ops.length co]):=⟨ao,co,rfl,hlo⟩
   have HRE:=ah hRe;rw [EX] at hL;have HME:=ah hL;clear HL hL hRe HRr HS hlp hlo;generalize (bo t0).1=bk at *;clear hb0;rcases hi1518:bK ⟨#[111,114,100,101,114]⟩ t0 with _ | _
   ·have hsz:=hxr.size;have con3019:=aY HRE.out ⟨#[111,114,100,101,114]⟩;rw [hi1518,bT hi1518] at con3019;have hm:=HME.out;simp only [hi1518,Jd,if_false] at hm;have HM3024:=ah hm;clear hm HME HRE;go_wp2_with fail
    refine con3019.mono ?_;rintro e w3020 ⟨rfl,hR,hb3021⟩;have HR3023:=ah hR;have hx3022:=hxr.trans hb3021;have Q3025:=(hb3021.2 _ (lt_of_heap QZ) ak).trans QZ;clear QZ;have Q3026:=(hb3021.2 _ (lt_of_heap QQ) ak).trans QQ;clear QQ;have HK3027:=ah ((br b8 21).next (hb3021.k1.k (by show ¬ _; omega)) HKp.out);clear HKp;have HK3028:=ah ((br fv 1).next (hb3021.k1.k (by show ¬ _; omega)) HKo.out)
    clear HKo;clear con3019 hR hb3021 hxr hsz hi1518;have e:=HM3024.out;subst e;clear HM3024;go_wp2_with (first | (refine wpList_load_row rfl 50 _ rfl gq rfl 50 #[.slice av ps.length cv,.slice ao ops.length co,aL,.int .i64 (-1)] (0,0) _ Q3026 Tryz.underlying50 rfl AR ?_) | (refine wpList_store_row rfl 50 _ _ rfl w #[.slice av ps.length cv,.slice ao ops.length co,aL,.int .i64 (-1)] rfl rfl 50 wN Q3025 AR rfl (eh rfl) ?_))
    obtain ⟨QE,hRE,hbE,hkE⟩:=gC (w:=w) Q3025 HR3023.out hx3022 ak hltR hltT #[.slice av ps.length cv,.slice ao ops.length co,aL,.int .i64 (-1)];generalize w3020.setRow _ _=wE at *;have L0:(iB eS 21) (fun b=>w.heap.size≤b) wE ps [.slice av ps.length cv]:=(br b8 21).mono (fun b h _=>by have:w.heap.size<b∧b≠gq:=h; show _≤b; omega) ((br b8 21).next (hkE.k (by show ¬ _; omega)) HK3027.out)
    have L1:(iB lD 1) (fun b=>w.heap.size≤b) wE ops [.slice ao ops.length co]:=(br fv 1).mono (fun b h _=>by have:w.heap.size<b∧b≠gq:=h; show _≤b; omega) ((br fv 1).next (hkE.k (by show ¬ _; omega)) HK3028.out);exact I7 (v:=.agg #[.slice av ps.length cv,.slice ao ops.length co,aL,.int .i64 (-1)]) (results_cell_row Tryz.results133 _ _ _ _ _ _ _ rfl QE Tryz.underlying50 rfl AR) rfl (Ends.cK (x:=(⟨ps,ops,[],-1⟩:kf)) rfl hbE (⟨av,cv,ao,co,none,0,rfl,L0.ls,L1.ls,.inl rfl⟩) hRE)
   ·have hsz:=hxr.size;have con4019:=aY HRE.out ⟨#[111,114,100,101,114]⟩;rw [hi1518,cG hi1518] at con4019;have hm:=HME.out;simp only [hi1518,if_true] at hm;have HM4024:=ah hm;clear hm HME HRE;go_wp2_with fail
    refine con4019.mono ?_;rintro e w4020 ⟨rfl,hR,hb4021⟩;have HR4023:=ah hR;have hx4022:=hxr.trans hb4021;have Q4025:=(hb4021.2 _ (lt_of_heap QZ) ak).trans QZ;clear QZ;have Q4026:=(hb4021.2 _ (lt_of_heap QQ) ak).trans QQ;clear QQ;have HK4027:=ah ((br b8 21).next (hb4021.k1.k (by show ¬ _; omega)) HKp.out);clear HKp
    have HK4028:=ah ((br fv 1).next (hb4021.k1.k (by show ¬ _; omega)) HKo.out);clear HKo;clear con4019 hR hb4021 hxr hsz hi1518;have hal4029:=bR w4020 (.cells #[.string ⟨#[98,121]⟩] 9);have hsz:=hx4022.size;have con4030:=de (cap:=1) (HR4023.out.next hal4029) (dh.one w4020 ⟨#[98,121]⟩ 9) ak (by simp);have hm:=HM4024.out;generalize aV [⟨#[98,121]⟩] (aC t0)=L at hm con4030;have HM4036:=ah hm;clear hm HM4024 HR4023
    go_wp2_with fail
    generalize w4020.alloc _=wa4032 at *;refine con4030.mono ?_;rintro e w4031 ⟨hb4033,hW⟩;have hxa4034:aj R w4020 w4031:=(aj.of hal4029 ak).trans hb4033;have hx4035:=hx4022.trans hxa4034;have Q4038:=(hxa4034.2 _ (lt_of_heap Q4025) ak).trans Q4025;clear Q4025;have Q4039:=(hxa4034.2 _ (lt_of_heap Q4026) ak).trans Q4026;clear Q4026;have HK4040:=ah ((br b8 21).next (hxa4034.k1.k (by show ¬ _; omega)) HK4027.out);clear HK4027
    have HK4041:=ah ((br fv 1).next (hxa4034.k1.k (by show ¬ _; omega)) HK4028.out);clear HK4028;clear con4030 hal4029 hb4033 hxa4034 hx4022 hsz;rcases L with ce | ⟨u4042,r4037⟩
    ·obtain ⟨rfl,us,hE⟩:=hW;have HE:=ah hE;clear hE;have e:=HM4036.out.symm;subst e;clear HM4036;go_wp2_with fail
     exact ⟨rfl,Ends.err rfl hx4035 HE.out⟩
    obtain ⟨v,rfl,rfl,hR⟩:=hW;have HR4043:=ah hR;have hm:=HM4036.out;simp only [bI] at hm;have HM4044:=ah hm;clear hm hR HM4036;have hsz:=hx4035.size;have con4045:=pf HR4043.out;have hm:=HM4044.out;generalize cu eP 8 9 r4037=L at hm con4045;have HM4049:=ah hm;clear hm HM4044 HR4043;have hl_g0:=lt_of_heap Q4038;have hl_gq:=lt_of_heap Q4039;go_wp2_with fail
    refine con4045.mono ?_;rintro e w4046 ⟨hb4047,hW⟩;have hx4048:=hx4035.trans hb4047;have Q4051:=(hb4047.2 _ (lt_of_heap Q4038) ak).trans Q4038;clear Q4038;have Q4052:=(hb4047.2 _ (lt_of_heap Q4039) ak).trans Q4039;clear Q4039;have HK4053:=ah ((br b8 21).next (hb4047.k1.k (by show ¬ _; omega)) HK4040.out);clear HK4040;have HK4054:=ah ((br fv 1).next (hb4047.k1.k (by show ¬ _; omega)) HK4041.out);clear HK4041
    clear con4045 hb4047 hx4035;rcases L with ce | ⟨l,r4050⟩
    ·obtain ⟨rfl,us,hE⟩:=hW;have HE:=ah hE;clear hE;have e:=HM4049.out.symm;subst e;clear HM4049;go_wp2_with fail
     exact ⟨rfl,Ends.err rfl hx4048 HE.out⟩
    obtain ⟨v,rfl,⟨a5,c5,rfl,hls⟩,hR⟩:=hW;have HR4055:=ah hR;have hm:=HM4049.out;simp only [bI] at hm;have HM4056:=ah hm;clear hm hR HM4049;have HK4057:=ah ((br b9 7).mono (S:=fun b=>w4031.heap.size≤b) (fun b h _=>by have:_≤b:=h; show w.heap.size<b∧b≠gq; omega) (⟨a5,c5,rfl,hls⟩));clear hls;clear hsz hl_g0 hl_gq;have z4058:=cell_of (i:=2) Q4052 rfl;have z4058f:=I0 w4046 gq 2 _ _ Q4052;go_upto_region 11 with fail
    obtain ⟨Q4063,hk4060,hbx⟩:=xk Q4052 (.slice a5 l.length c5);have hx4061:=hbx hx4048 ak ak;clear hbx z4058 z4058f;generalize w4046.setCell _ _=w4059 at *;have Q4064:=(hk4060.2 _ (lt_of_heap Q4051) ak).trans Q4051;clear Q4051;have HK4065:=ah ((br b8 21).next (hk4060.k (by show ¬ _; omega)) HK4053.out);clear HK4053
    have HK4066:=ah ((br fv 1).next (hk4060.k (by show ¬ _; omega)) HK4054.out);clear HK4054;have HK4067:=ah ((br b9 7).next (hk4060.k (by show ¬ _; omega)) HK4057.out);clear HK4057;clear Q4052;have HR4062:=ah (HR4055.out.k1 hk4060 ak ak (by have:=HR4055.out.r2; omega));clear HR4055 hk4060 hx4048
    have hal4068:=bR w4059 (.cells #[.string ⟨#[108,105,109,105,116]⟩] 9);have hsz:=hx4061.size;have con4069:=de (cap:=1) (HR4062.out.next hal4068) (dh.one w4059 ⟨#[108,105,109,105,116]⟩ 9) ak (by simp);have hm:=HM4056.out;generalize aV [⟨#[108,105,109,105,116]⟩] r4050=L at hm con4069;have HM4075:=ah hm;clear hm HM4056 HR4062;go_wp2_with fail
    generalize w4059.alloc _=wa4071 at *;refine con4069.mono ?_;rintro e w4070 ⟨hb4072,hW⟩;have hxa4073:aj R w4059 w4070:=(aj.of hal4068 ak).trans hb4072;have hx4074:=hx4061.trans hxa4073;have Q4077:=(hxa4073.2 _ (lt_of_heap Q4064) ak).trans Q4064;clear Q4064;have Q4078:=(hxa4073.2 _ (lt_of_heap Q4063) ak).trans Q4063;clear Q4063;have HK4079:=ah ((br b8 21).next (hxa4073.k1.k (by show ¬ _; omega)) HK4065.out);clear HK4065
    have HK4080:=ah ((br fv 1).next (hxa4073.k1.k (by show ¬ _; omega)) HK4066.out);clear HK4066;have HK4081:=ah ((br b9 7).next (hxa4073.k1.k (by show ¬ _; omega)) HK4067.out);clear HK4067;clear con4069 hal4068 hb4072 hxa4073 hx4061 hsz;rcases L with ce | ⟨u4082,r4076⟩
    ·obtain ⟨rfl,us,hE⟩:=hW;have HE:=ah hE;clear hE;have e:=HM4075.out.symm;subst e;clear HM4075;go_wp2_with fail
     exact ⟨rfl,Ends.err rfl hx4074 HE.out⟩
    obtain ⟨v,rfl,rfl,hR⟩:=hW;have HR4083:=ah hR;have hm:=HM4075.out;simp only [bI] at hm;have HM4084:=ah hm;clear hm hR HM4075;have hsz:=hx4074.size;have con4085:=qU HR4083.out 0 50;have hm:=HM4084.out;generalize dv 0 50 r4076=L at hm con4085;have HM4089:=ah hm;clear hm HM4084 HR4083;have hl_g0:=lt_of_heap Q4077;have hl_gq:=lt_of_heap Q4078;go_wp2_with fail
    refine con4085.mono ?_;rintro e w4086 ⟨hb4087,hW⟩;have hx4088:=hx4074.trans hb4087;have Q4091:=(hb4087.2 _ (lt_of_heap Q4077) ak).trans Q4077;clear Q4077;have Q4092:=(hb4087.2 _ (lt_of_heap Q4078) ak).trans Q4078;clear Q4078;have HK4093:=ah ((br b8 21).next (hb4087.k1.k (by show ¬ _; omega)) HK4079.out);clear HK4079;have HK4094:=ah ((br fv 1).next (hb4087.k1.k (by show ¬ _; omega)) HK4080.out);clear HK4080
    have HK4095:=ah ((br b9 7).next (hb4087.k1.k (by show ¬ _; omega)) HK4081.out);clear HK4081;clear con4085 hb4087 hx4074;rcases L with ce | ⟨n,r4090⟩
    ·obtain ⟨rfl,us,hE⟩:=hW;have HE:=ah hE;clear hE;have e:=HM4089.out.symm;subst e;clear HM4089;go_wp2_with fail
     exact ⟨rfl,Ends.err rfl hx4088 HE.out⟩
    obtain ⟨v,rfl,rfl,hR⟩:=hW;have HR4096:=ah hR;have hm:=HM4089.out;simp only [bI] at hm;have HM4097:=ah hm;clear hm hR HM4089;clear hsz hl_g0 hl_gq;have z4098:=cell_of (i:=3) Q4092 rfl;have z4098f:=I0 w4086 gq 3 _ _ Q4092;go_upto_region 13 with fail
    obtain ⟨Q4103,hk4100,hbx⟩:=xj Q4092 n;have hx4101:=hbx hx4088 ak ak;clear hbx z4098 z4098f;generalize (w4086.setCell (af gq 3) n)=w4099 at *;have Q4104:=(hk4100.2 _ (lt_of_heap Q4091) ak).trans Q4091;clear Q4091;have HK4105:=ah ((br b8 21).next (hk4100.k (by show ¬ _; omega)) HK4093.out);clear HK4093;have HK4106:=ah ((br fv 1).next (hk4100.k (by show ¬ _; omega)) HK4094.out)
    clear HK4094;have HK4107:=ah ((br b9 7).next (hk4100.k (by show ¬ _; omega)) HK4095.out);clear HK4095;clear Q4092;have HR4102:=ah (HR4096.out.k1 hk4100 ak ak (by have:=HR4096.out.r2; omega));clear HR4096 hk4100 hx4088;have e:=HM4097.out;subst e;clear HM4097
    go_wp2_with (first | (refine wpList_load_row rfl 50 _ rfl gq rfl 50 #[.slice av ps.length cv,.slice ao ops.length co,.slice a5 l.length c5,n] (0,0) _ Q4103 Tryz.underlying50 rfl AR ?_) | (refine wpList_store_row rfl 50 _ _ rfl w #[.slice av ps.length cv,.slice ao ops.length co,.slice a5 l.length c5,n] rfl rfl 50 wN Q4104 AR rfl (eh rfl) ?_))
    obtain ⟨QE,hRE,hbE,hkE⟩:=gC (w:=w) Q4104 HR4102.out hx4101 ak hltR hltT #[.slice av ps.length cv,.slice ao ops.length co,.slice a5 l.length c5,n];generalize w4099.setRow w #[.slice av ps.length cv,.slice ao ops.length co,.slice a5 l.length c5,n]=wE at *;have L0:(iB eS 21) (fun b=>w.heap.size≤b) wE ps [.slice av ps.length cv]:=(br b8 21).mono (fun b h _=>by have:w.heap.size<b∧b≠gq:=h; show _≤b; omega) ((br b8 21).next (hkE.k (by show ¬ _; omega)) HK4105.out)
    have L1:(iB lD 1) (fun b=>w.heap.size≤b) wE ops [.slice ao ops.length co]:=(br fv 1).mono (fun b h _=>by have:w.heap.size<b∧b≠gq:=h; show _≤b; omega) ((br fv 1).next (hkE.k (by show ¬ _; omega)) HK4106.out);have L2:(iB fu 7) (fun b=>w.heap.size≤b) wE l [.slice a5 l.length c5]:=(br b9 7).mono (fun b h _=>by have:w.heap.size<b∧b≠gq:=h; show _≤b; omega) ((br b9 7).next (hkE.k (by show ¬ _; omega)) HK4107.out)
    exact I7 (v:=.agg #[.slice av ps.length cv,.slice ao ops.length co,.slice a5 l.length c5,n]) (results_cell_row Tryz.results133 _ _ _ _ _ _ _ rfl QE Tryz.underlying50 rfl AR) rfl (Ends.cK (x:=(⟨ps,ops,l,n⟩:kf)) rfl hbE (⟨av,cv,ao,co,a5,c5,rfl,L0.ls,L1.ls,L2.ls⟩) hRE)
  rw [if_neg hb0] at hL;have bb:((bo t0).1 != 0)=true:=by simpa using hb0
  obtain ⟨ap,cp,ep⟩:=HS.out.p.len;have u0:=cell_of (i:=0) HS.out.qq rfl;generalize bo t0=bt at *;obtain ⟨bk,bs⟩:=bt;by_cases hbig:(ps.length:Int) ≥ 4
  ·have con1:=gy HRr.out hbig;rw [if_pos hbig] at hL;have e:=hL.symm;subst e ep;clear HL hL HS hbig hb0;go_wp2_with fail
   refine con1.mono ?_;rintro e w5 ⟨rfl,hb5⟩;go_wp2_with fail
   exact ⟨rfl,Ends.err rfl (hxr.trans (.of hb5 (by have:=hxr.size; omega))) (HRr.out.next hb5)⟩
  have con1:=je (w:=wr) (R:=R) (n:=(ps.length:Int)) (most:=4) ak;rw [if_neg hbig,rm] at hL;have HM1:=ah hL;have HB:=ah hbig;subst ep;clear HL hL hbig hb0;go_wp2_with fail
  refine cR con1 fun w5 hb5=>?_;have hsr:=hxr.size;have hx5:aj R w w5:=hxr.trans (.of hb5 ak);have HS5:=HS.out.aM (aj.of (t:=R) hb5 ak) hltR hgq;have HR5:=HRr.out.next hb5;clear con1 HRr u0;obtain ⟨hal6,q6⟩:=dZ w5 #[bk] 3;have HS6:=HS5.aM (aj.of (t:=R) hal6 (by have:=hx5.size; omega)) hltR hgq;have hnb:=HS5.i.lt;obtain ⟨ys,o6,en6⟩:=HS6.i;have u1:=cell_of (i:=1) HS5.qq rfl;have hg5:=lt_of_heap HS5.qq
  have hw5:=lt_of_heap HS5.qz;have HS6H:=ah HS6;have HR5H:=ah HR5;obtain ⟨aq,cq,eq⟩:=HS5.i.len;subst eq;clear HS HS5 HS6 HR5;go_wp2_with (first | (at_builtin; refine aS rfl _ _ 47 rfl (w+1) 3 k0 _ 1 8 Tryz.underlying47 hk hk0 hk1 hk2 rfl (by decide) _ _ _ rfl o6 (af w5 0) 1 1 [.int .i64 bk] rfl rfl ?Ac1 ?Ac2 ?Ac3 ?Ac4 ?Ac5 ?_))
  case Ac1 =>
   intro i u hu;rw [bG,Jm];exact cell_of (i:=i) q6 (by rw [← hu]; simp)
  case Ac2=>intro u hu; simp at hu; subst hu; rfl
  case Ac3=>unfold maxLen; have:=hop.out; have:=hps.out; omega
  case Ac4=>have:=hop.out; have:=hps.out; omega
  case Ac5=>have:=hal6.size; omega
  intro v' w7 o7 g7 hd7;have z7:=g7.size;have hz6:=hal6.size;have hsz6:(w5.alloc (.cells #[bk] 3)).heap.size=w5.heap.size+1:=by simp
  have O7:=bC.push fv o6 en6 (cs:=[.int .i64 bk]) rfl rfl o7 g7 (by simpa using hd7);have hio:∀ k,v'.ownBlock=some k→k≠gq:=fun k e=>by
   rcases hd7 with h | h
   ·exact HS6H.out.io k (h ▸ e)
   ·rw [h] at e; have e:=Jt e; have:(w5.alloc (.cells #[bk] 3)).heap.size=w5.heap.size+1:=by simp
    omega
  have P7:bC eS 79 21 (w.heap.size+1) (SP w gq v') w7 (.slice ap ps.length cp) ps:=by
   refine (HS6H.out.p.AN b8 (S':=fun b=>SP w gq (.slice aq ops.length cq) b∧b<(w5.alloc (.cells #[bk] 3)).heap.size) (fun b h1 h2 _=>⟨h1,h2⟩)).oQ b8 ⟨g7.size,fun b hb hl=>g7.block b hl (fun e=>?_)⟩ |>.AN b8 (fun b h1 _ _=>⟨h1.1.1,h1.1.2.1,fun e=>?_⟩)
   ·rcases hb with hb | hb
    ·exact hb.1.2.2 e.symm
    ·exact (HS6H.out.po b hb).2 e.symm
   ·rcases hd7 with h | h
    ·exact h1.1.2.2 (h ▸ e)
    ·rw [h] at e; have e:=Jt e; have:=h1.2; omega
  have hpo:∀ k,(Value.slice ap ps.length cp).ownBlock=some k→k≠gq∧v'.ownBlock≠some k:=fun k e=>⟨(HS6H.out.po k e).1,fun e'=>by
   rcases hd7 with h | h
   ·exact (HS6H.out.po k e).2 (h ▸ e')
   ·rw [h] at e'; have e':=Jt e'; have:=(HS6H.out.p.lt k e).2; omega⟩
  have QQ7:=(g7.block _ ak (fun e=>HS6H.out.io _ e.symm rfl)).trans HS6H.out.qq;have QZ7:w7.heap[w.heap.size]? = some (.cells wN 50 (0,0)):=(g7.block _ ak (fun e=>by have:=(hnb _ e.symm).1; omega)).trans HS6H.out.qz;have D7:Below w w5 w7:=(hal6.mono ak).trans ((I8 _ _).grown g7 ak (fun q hq=>by have:=(hnb q hq).1; omega));have hx7:=hx5.low D7 (I6 _) ak;have HR7:=HR5H.out.low D7 hltR hltT
  obtain ⟨av2,cv2,e2⟩:=O7.len;generalize (ops ++ [bk]).length=n2 at e2;subst e2;have u1:=cell_of (i:=1) QQ7 rfl;have u1f:=I0 w7 gq 1 _ _ QQ7;obtain ⟨QQ8,hk8,hbx8⟩:=Ds QQ7 (.slice av2 n2 cv2);have hx8:=hbx8 hx7 ak ak
  have ST8:DV w R gq (w7.setCell (af gq 1) (.slice av2 n2 cv2)) (.slice ap ps.length cp) (.slice av2 n2 cv2) ps (ops ++ [bk]):=⟨(hk8.2 _ (lt_of_heap QZ7) ak).trans QZ7,QQ8,P7.oQ b8 (hk8.k (fun h=>h.elim (fun h=>h.2.1 rfl) (fun h=>(hpo _ h).1 rfl))),hpo,O7.oQ fv (hk8.k (fun h=>h.elim (fun h=>h.2 rfl) (fun h=>hio _ h rfl))),hio⟩
  have HR8:=ah (HR7.k1 hk8 ak ak (by have:=HR7.r2; omega));have HS8:=ah ST8;clear o6 en6 o7 g7 hd7 O7 P7 QQ8 hbx8 HS6H HR5H q6 hal6 HR7 ST8 hio hpo D7 hx7 hx5 hb5 hnb;go_upto_region 7 with fail
  generalize w7.setCell _ _=w8 at *;generalize Value.slice av2 n2 cv2=v' at *;clear u1 u1f hk8 QQ7 QZ7;have hCC:∀ W W':World,W.heap[gq]? = some (.cells #[.slice ap ps.length cp,v',.slice none 0 0,.int .i64 (-1)] 50 (0,0))→Below W W W'→W'.heap[gq]? = some (.cells #[.slice ap ps.length cp,v',.slice none 0 0,.int .i64 (-1)] 50 (0,0)):=fun W W' h hb=>(hb.block _ (lt_of_heap h)).trans h
  have hdr:Below w8 w8 w8.drew:=(I8 _ _).drew;have CW:=hCC _ _ HS8.out.qq hdr;refine dC (fun W=>W.heap[gq]? = some (.cells #[.slice ap ps.length cp,v',.slice none 0 0,.int .i64 (-1)] 50 (0,0))) 7 bm ?_;refine fP hCC 26 0 (af gq 0) (fun n hn=>?_) (fun _=>CW) ?_
  ·go_simp
  simp only [Act.put,pA,pB,pC];refine fP hCC 27 1 (.slice ap ps.length cp) (fun n hn=>?_) (fun _=>CW) ?_
  ·have u:=cell_of (i:=0) hn rfl; go_simp
  simp only [Act.put,pA,pB,pC];refine fP hCC 28 2 (af R 0) (fun n hn=>?_) (fun _=>CW) ?_
  ·go_simp
  simp only [Act.put,pA,pB,pC];refine pJ 3 bm fun w9 hb9=>?_
  have D9:=chain hdr hb9;have CW9:=hCC _ _ CW hb9;have con:=nt (HR8.out.next D9);have hlg8:=lt_of_heap HS8.out.qq;have hiv:∀ b,v'.ownBlock=some b→b<w8.heap.size:=fun b e=>(HS8.out.i.lt b e).2
  have hnb9:∀ b,(Value.slice ap ps.length cp).ownBlock=some b→b<w8.heap.size:=fun b e=>(HS8.out.p.lt b e).2
  have hm:=HM1.out;generalize db bs=L at hm con;have HM2:=ah hm;clear hm HM1;refine wpOp_step rfl (fun K hK=>?_);go_simp;refine con.mono ?_;rintro e w10 ⟨hb10,hW⟩;clear con;have C10:=(hb10.2 _ (lt_of_heap CW9) ak).trans CW9;have hs8:=hx8.size;have hs9:=D9.size;have hs10:=hb10.size;have hx10:aj R w w10:=(hx8.trans (.of D9 ak)).trans hb10;rcases L with ce | ⟨x,r2⟩
  ·obtain ⟨rfl,us,hE⟩:=hW;have e:=HM2.out.symm;subst e;exact ⟨rfl,Ends.err rfl hx10 hE⟩
  obtain ⟨v,rfl,⟨a1,c1,a2,c2,a3,c3,a4,c4,a5,c5,rfl,k1,k2,k3,k4,k5⟩,hRW⟩:=hW;have HS10:=ah ((HS8.out.aM (aj.of (t:=R) D9 ak) hltR hgq).aM hb10 hltR hgq)
  have HX10:Hid (eS (fun b=>w9.heap.size≤b) w10 x [.bool x.distinct,x.star,.slice a1 x.items.length c1,.slice a2 x.sources.length c2,x.ax,x.aG,x.au.k,x.au.v.1,x.au.v.2.1,x.au.v.2.2,x.au.bp,x.au.name,.slice a3 x.au.ks.length c3,x.az.k,x.az.v.1,x.az.v.2.1,x.az.v.2.2,x.az.bp,x.az.name,.slice a4 x.az.ks.length c4,.slice a5 x.group.length c5]):=⟨a1,c1,a2,c2,a3,c3,a4,c4,a5,c5,rfl,k1,k2,k3,k4,k5⟩
  have HR10:=ah hRW;have hm:=HM2.out;simp only [bI] at hm;have HM3:=ah hm;refine hK _ _ ⟨fun _=>C10,?_⟩;clear hK K CW CW9 HM2 hm hRW k1 k2 k3 k4 k5 HS8 HR8;refine pJ 4 bm fun w11 hb11=>?_
  have C11:=hCC _ _ C10 hb11;obtain ⟨hal12,q12⟩:=dZ w11 (iE x a1 a2 a3 a4 a5 c1 c2 c3 c4 c5) 79;have C12:=hCC _ _ C11 hal12;refine wpOp_step rfl (fun K hK=>?_);go_simp;refine hK _ _ ⟨fun _=>C12,?_⟩;clear hK K;have hs11:=hb11.size;have D12:=chain hb11 hal12;generalize hw12:w11.alloc (.cells (iE x a1 a2 a3 a4 a5 c1 c2 c3 c4 c5) 79)=w12 at *;refine pJ 5 bm fun w13 hb13=>?_
  have C13:=hCC _ _ C12 hb13;have D13:=chain D12 hb13;have q13:=bH hb13 q12;have HS13:=HS10.out.aM (aj.of (t:=R) D13 ak) hltR hgq
  have HX13:=b8.next (ay.of D13) HX10.out;have hnb:=HS10.out.p.lt;have hs13:=D13.size
  obtain ⟨xs,o13,en13⟩:=HS13.p;have hlq:=lt_of_heap HS13.qq;have hlz:=lt_of_heap HS13.qz;have hq13:=lt_of_heap q13;refine wpOp_step rfl (fun K hK=>?_)
  refine jW _ _ 46 rfl (w+1) 79 i0 _ 21 280 Tryz.underlying46 hi hj0 hj1 hj2 rfl (by decide) (.slice ap ps.length cp) ps.length _ rfl o13 (af w11 0) 1 1 [.bool x.distinct,x.star,.slice a1 x.items.length c1,.slice a2 x.sources.length c2,x.ax,x.aG,x.au.k,x.au.v.1,x.au.v.2.1,x.au.v.2.2,x.au.bp,x.au.name,.slice a3 x.au.ks.length c3,x.az.k,x.az.v.1,x.az.v.2.1,x.az.v.2.2,x.az.bp,x.az.name,.slice a4 x.az.ks.length c4,.slice a5 x.group.length c5] rfl rfl ?Bc1 ?Bc2 ?Bc3 ?Bc4 ?Bc5 ?_
  case Bc1 =>
   intro i u hu;rw [bG,Jm];exact cell_of (i:=i) q13 (by rw [← hu]; simp)
  case Bc2=>exact fun u hu=>List.all_eq_true.1 (rfl:List.all [.bool x.distinct,.bool x.star,.slice a1 x.items.length c1,.slice a2 x.sources.length c2,.bool x.ax,.bool x.aG,.int .i64 x.au.k,.int .i64 x.au.v.1,.int .i64 x.au.v.2.1,.string x.au.v.2.2,.string x.au.bp,.string x.au.name,.slice a3 x.au.ks.length c3,.int .i64 x.az.k,.int .i64 x.az.v.1,.int .i64 x.az.v.2.1,.string x.az.v.2.2,.string x.az.bp,.string x.az.name,.slice a4 x.az.ks.length c4,.slice a5 x.group.length c5] (·.oneCell')=true) u hu
  case Bc3=>unfold maxLen; have:=hps.out; omega
  case Bc4=>have:=hps.out; omega
  case Bc5=>omega
  intro vq w14 o14 g14 hd14;have z14:=g14.size;have P14:=bC.push b8 o13 en13 rfl (b8.mono (fun b h1 h2=>⟨⟨by have:w9.heap.size≤b:=h1; omega,by have:w9.heap.size≤b:=h1; omega,fun e=>by have:=hiv b e; have:w9.heap.size≤b:=h1; omega⟩,h2,fun e=>by have:=hnb9 b e; have:w9.heap.size≤b:=h1; omega⟩) HX13) o14 g14 (by simpa using hd14);have hpo:∀ k,vq.ownBlock=some k→k≠gq∧v'.ownBlock≠some k:=fun k e=>by
   rcases hd14 with h | h
   ·exact HS13.po k (h ▸ e)
   ·rw [h] at e; have e:=Jt e; exact ⟨by omega,fun e2=>by have:=(HS13.i.lt k e2).2; omega⟩
  have QQ14:=(g14.block _ hlq (fun e=>(HS13.po _ e.symm).1 rfl)).trans HS13.qq;have QZ14:=(g14.block _ hlz (fun e=>by have:=(HS13.p.lt _ e.symm).1; omega)).trans HS13.qz;have I14:bC lD 3 1 (w.heap.size+1) (SQ w gq) w14 v' (ops ++ [bk]):=by
   obtain ⟨ys,h1,h2⟩:=HS13.i;refine ⟨ys,h1.kept g14 ?_,h2⟩;rcases hv:v'.ownBlock with _ | k
   ·exact .inl rfl
   ·exact .inr (fun e=>(HS13.po k e.symm).2 hv)
  have D14:Below w w13 w14:=(I8 _ _).grown g14 ak (fun q hq=>by have:=(HS13.p.lt q hq).1; omega);have hx14:aj R w w14:=(hx10.trans (.of D13 ak)).low D14 (I6 _) ak;have R14:=(HR10.out.next D13).low D14 hltR hltT;refine hK _ _ ⟨fun _=>QQ14,?_⟩;clear hK K o13 en13 o14 g14 hd14;have ST14:DV w R gq w14 (.slice ap ps.length cp) v' ps (ops ++ [bk])∨True:=.inr trivial;refine pJ 6 bm fun w15 hb15=>?_
  have C15:=hCC _ _ QQ14 hb15;refine wpOp_step rfl (fun K hK=>?_);go_simp;refine hK _ _ ⟨fun _=>C15,?_⟩;clear hK K;refine pJ 7 bm fun w16 hb16=>?_
  have C16:=hCC _ _ C15 hb16;have D16:=chain hb15 hb16;have u0:=cell_of (i:=0) C16 rfl;have u0f:=I0 w16 gq 0 _ _ C16;obtain ⟨QQ17,hk17,hbx17⟩:=DH C16 vq;have hs16:=D16.size;have hx16:aj R w w16:=hx14.trans (.of D16 (by have:=hx14.size; omega));have hx17:=hbx17 hx16 ak ak;have R16:=R14.next D16;have R17:=ah (R16.k1 hk17 ak ak (by have:=R16.r2; omega))
  have ST17:DV w R gq (w16.setCell (af gq 0) vq) vq v' (ps ++ [x]) (ops ++ [bk]):=⟨(hk17.2 _ ak ak).trans ((D16.block _ ak).trans QZ14),QQ17,(P14.next b8 D16).oQ b8 (hk17.k (fun h=>h.elim (fun h=>h.2.1 rfl) (fun h=>(hpo _ h).1 rfl))),hpo,(I14.next fv D16).oQ fv (hk17.k (fun h=>h.elim (fun h=>h.2 rfl) (fun h=>HS13.io _ h rfl))),HS13.io⟩
  obtain ⟨aw,cw,ew⟩:=P14.len;generalize (ps ++ [x]).length=n3 at ew;have hone:vq.oneCell'=true:=by rw [ew]; rfl
  refine wpOp_step rfl (fun K hK=>?_);subst ew;go_simp;generalize w16.setCell (af gq 0) _=w17 at *;refine hK _ _ ⟨fun h=>by simp at h,?_⟩;clear hK K;refine eJ bm ?_;intro w18 hb18;have hs17:=hx17.size;have hx18:aj R w w18:=hx17.trans (.of hb18 ak);have R18:=R17.out.next hb18;have ST18:=ST17.aM (aj.of (t:=R) hb18 ak) hltR hgq;have con19:=pe R18;generalize hbt:bo r2=bt at con19;have HS18:=ah ST18;clear ST17 ST18 R17 R18 QQ17 QZ14 QQ14 P14 I14 hpo C16 C15 C13 C12 C11 C10 HS13 HX13 HS10 HX10 HR10 R14 R16 hk17 hbx17 u0 u0f
  go_wp2_with fail
  refine con19.mono ?_;rintro e w19 ⟨rfl,h19,hb19⟩;subst hbt;have H19:=ah h19;have hx19:=hx18.trans hb19;have ST19:=ah (HS18.out.aM hb19 hltR hgq);clear con19 h19;go_wp2_with fail
  go_roundg m
  case measure=>omega
  case rel=>exact ⟨r2,_,v',ps ++ [x],ops ++ [bk],rfl,by show _=_; have:=hn.out; simp; omega,by show _∧_; have:=hps.out; have:=HB.out; simp; omega,by show _=_; have:=hop.out; simp; omega,HM3,hx19,H19,ST19⟩
end Go.Proofs.YtoknmnngaackkaaGreatDoor
