/- Together: DW, DX, RTa, RTb, RTc, RTd, RTe, RTf, RTg. -/
import Derived.Deep.DeepCutAuto
import Derived.Deep.CutBlock
import Derived.Lib.Replace
import Derived.Lib.SplitLaws
import Derived.Test.YtoknmnngaackkaaGreatDoorST10
import Derived.Test.YtoknmnngaackkaaGreatDoorST4
import Derived.Test.YtoknmnngaackkaaGreatDoorST7
import Derived.Test.YtoknmnngaackkaaGreatDoorST5
import Derived.Test.YtoknmnngaackkaaGreatDoorST8
namespace Go.Proofs.YtoknmnngaackkaaGreatDoor
open Go.RowKit Go.Lib Go.Shelf
set_option maxRecDepth 100000
set_option maxHeartbeats 16000000
set_option maxRecDepth 100000
set_option maxHeartbeats 8000000
def pV (x:SX):Prop:=∀ (a:Option Addr) (c:Nat) (w:World),aJ (fun b=>b<w.heap.size) w a x.ks→Calls Tryz.prog 30 #[.agg (bE x a c)] w fun e w'=>Below w w w'∧∃ a' c',e = .returned (.agg (bE (aO x) a' c'))∧aJ (fun b=>w.heap.size≤b) w' a' (aO x).ks
def IQ (w:World) (l:List SX) (e:Ending) (w':World):Prop:=Below w w w'∧∃ a' c',e = .returned (.slice a' l.length c')∧aJ (fun b=>w.heap.size≤b) w' a' l
theorem oo (l:List SX) (hl:l.length≤1000) (h:∀ x ∈ l,pV x) (a:Option Addr) (c:Nat) (w:World) (hk:bf fu 7 (fun b=>b<w.heap.size) w a l):Calls Tryz.prog 56 #[.slice a l.length c] w (IQ w (l.map aO)):=by
 obtain ⟨i0,hi,hj0,hj1,hj2⟩:=info_parts ve;have HK:Hid (bf fu 7 (fun b=>b<w.heap.size) w a l):=hk;have HX:Hid (∀ x ∈ l,pV x):=h;clear hk h;go_enter Tryz.func56,Tryz.ntmps56;go_wp2_with fail
 go_loopw [3,8] (fun ow iv wr=>∃ (ov:Value) (j:Nat) (acc:List SX),ov=ow∧j≤l.length∧iv = .int .i64 j∧Below w w wr∧Hid (acc.length=j)∧Hid (acc=(l.take j).map aO)∧Hid (bC fu 55 7 w.heap.size (fun b=>w.heap.size≤b) wr ov acc)) (fun _ iv _=>l.length - (RowKit.intOf iv).toNat)
 case atStart=>exact ⟨_,0,[],rfl,Jc _,rfl,I8 _ _,rfl,rfl,bC.nil _ _ _ _ _ _⟩
 case round =>
  obtain ⟨ov,j,acc,rfl,hj,rfl,hx,hacc,HA,HO⟩:=hrel;have hzr:=hx.size;by_cases hlt:j<l.length
  ·have hjz:(j:Int)<(l.length:Int):=by omega
   have hoj:=HX.out _ (Jk hlt);have ht:(l.take (j+1)).map aO=acc ++ [aO l[j]]:=by rw [JC,Je hlt,JP,← HA.out]; rfl
   have HT:Hid ((l.take (j+1)).map aO=acc ++ [aO l[j]]):=ht;obtain ⟨b1,o1,_,rfl,t1,ai,ci,rfl,kk⟩:=(HK.out.aM b9 ⟨hzr,fun b hb _=>hx.block b hb⟩).get hlt;generalize l[j]=y at *;have HY:Hid (pV y):=hoj;have KK:Hid (aJ (fun b=>b<w.heap.size) wr ai y.ks):=kk;have z0:wr.cell? ⟨b1,o1+j*7,none⟩=some (.int .i64 y.k):=t1.2 0 _ rfl;have z1:wr.cell? ⟨b1,o1+j*7+1,none⟩=some (.int .i64 y.v.1):=t1.2 1 _ rfl;have z2:wr.cell? ⟨b1,o1+j*7+2,none⟩=some (.int .i64 y.v.2.1):=t1.2 2 _ rfl;have z3:wr.cell? ⟨b1,o1+j*7+3,none⟩=some (.string y.v.2.2):=t1.2 3 _ rfl
   have z4:wr.cell? ⟨b1,o1+j*7+4,none⟩=some (.string y.bp):=t1.2 4 _ rfl;have z5:wr.cell? ⟨b1,o1+j*7+5,none⟩=some (.string y.name):=t1.2 5 _ rfl;have z6:wr.cell? ⟨b1,o1+j*7+6,none⟩=some (.slice ai y.ks.length ci):=t1.2 6 _ rfl;have halY:=bR wr (.cells #[y.k,y.v.1,y.v.2.1,y.v.2.2,y.bp,y.name,.slice ai y.ks.length ci] 55);have QY:=aD wr #[y.k,y.v.1,y.v.2.1,y.v.2.2,y.bp,y.name,.slice ai y.ks.length ci] 55
   have K2:Hid (aJ (fun b=>b<(wr.alloc (.cells #[y.k,y.v.1,y.v.2.1,y.v.2.2,y.bp,y.name,.slice ai y.ks.length ci] 55)).heap.size) (wr.alloc (.cells #[y.k,y.v.1,y.v.2.1,y.v.2.2,y.bp,y.name,.slice ai y.ks.length ci] 55)) ai y.ks):=aJ.mono (fun b h _=>by have:b<w.heap.size:=h; have:=halY.size; show b<_; omega) (aJ.next halY KK.out)
   have O2:Hid (bC fu 55 7 w.heap.size (fun b=>w.heap.size≤b) (wr.alloc (.cells #[y.k,y.v.1,y.v.2.1,y.v.2.2,y.bp,y.name,.slice ai y.ks.length ci] 55)) ov acc):=HO.out.next b9 halY;have hxa:=chain hx halY;have hnb:=HO.out.lt;clear ht t1 kk KK hoj HA HO;go_upto_region 5 with fail
   clear z0 z1 z2 z3 z4 z5 z6;have hsa:=halY.size;generalize (wr.alloc (.cells #[y.k,y.v.1,y.v.2.1,y.v.2.2,y.bp,y.name,.slice ai y.ks.length ci] 55))=wa at *;have q0:wa.cell? (af wr 0)=some (.int .i64 y.k):=cell_of (i:=0) QY rfl;have q1:wa.cell? (af wr 1)=some (.int .i64 y.v.1):=cell_of (i:=1) QY rfl;have q2:wa.cell? (af wr 2)=some (.int .i64 y.v.2.1):=cell_of (i:=2) QY rfl;have q3:wa.cell? (af wr 3)=some (.string y.v.2.2):=cell_of (i:=3) QY rfl
   have q4:wa.cell? (af wr 4)=some (.string y.bp):=cell_of (i:=4) QY rfl;have q5:wa.cell? (af wr 5)=some (.string y.name):=cell_of (i:=5) QY rfl;have q6:wa.cell? (af wr 6)=some (.slice ai y.ks.length ci):=cell_of (i:=6) QY rfl;have con:=HY.out ai ci wa K2.out;go_wp2_with fail
   clear q0 q1 q2 q3 q4 q5 q6 QY;refine con.mono ?_;rintro e w3 ⟨hb3,a2,c2,rfl,hks⟩;generalize aO y=x at *;obtain ⟨hal4,q4⟩:=dZ w3 #[x.k,x.v.1,x.v.2.1,x.v.2.2,x.bp,x.name,.slice a2 x.ks.length c2] 55;have hs3:=hb3.size;obtain ⟨ys,o4,en4⟩:=(O2.out.next b9 hb3).next b9 hal4
   have HKS:=ah (aJ.next hal4 hks)
   have EN4:=ah en4;clear hks en4 con O2 K2
   go_wp2_with (first | (at_builtin; refine aS rfl _ _ 48 rfl w 55 i0 _ 7 96 Tryz.underlying48 hi hj0 hj1 hj2 rfl (by decide) _ _ _ rfl o4 (af w3 0) 1 1 (mf x a2 c2) rfl rfl ?Ac1 ?Ac2 ?Ac3 ?Ac4 ?Ac5 ?_))
   case Ac1 =>
    intro i u hu;have:i<7:=by
     rcases Jw i 7 with h | h
     ·exact h
     ·rw [Jy (by simpa [mf] using h)] at hu; cases hu
    rw [bG,Jm];exact cell_of (i:=i) q4 (by rw [← hu]; simp [mf])
   case Ac2=>intro u hu; simp [mf] at hu; rcases hu with rfl | rfl | rfl | rfl | rfl | rfl | rfl <;> rfl
   case Ac3=>unfold maxLen; have:=hacc.out; omega
   case Ac4=>have:=hacc.out; omega
   case Ac5=>have:=hacc.out; have:=hal4.size; omega
   intro v' w5 o5 g5 hd5;have z5:=g5.size;have hz4:=hal4.size;have O5:Hid (bC fu 55 7 w.heap.size (fun b=>w.heap.size≤b) w5 v' (acc ++ [x])):=bC.push b9 o4 EN4.out rfl ⟨a2,c2,rfl,aJ.mono (fun b h1 h2=>⟨by have:wa.heap.size≤b:=h1; show w.heap.size≤b; omega,h2,fun e=>by have:=(hnb b e).2; have:wa.heap.size≤b:=h1; omega⟩) HKS.out⟩ o5 g5 (by simpa using hd5);have D5:Below w w3 w5:=(hal4.mono ak).trans ((I8 _ _).grown g5 ak (fun q hq=>by have:=(hnb q hq).1; omega));have hx5:=(chain hxa hb3).trans D5;clear o4 EN4 o5 g5 hd5 HKS q4
   go_wp2_with fail
   go_roundw
   case rel=>exact ⟨v',j+1,acc ++ [x],rfl,by omega,by go_num,hx5,by show (acc ++ [x]).length=j+1; rw [Jf,hacc.out]; rfl,HT.out.symm,O5⟩
   case measure=>simp [RowKit.intOf]; omega
  ·have hjz:¬ (j:Int)<(l.length:Int):=by omega
   have ea:acc=l.map aO:=by rw [HA.out,Jx ak]
   have HE:=ah ea;clear ea HA;obtain ⟨a',c',rfl,hks⟩:=HO.out.Da (fun _ h=>h);have HS:=ah hks;clear hks HO;go_wp2_with fail
   exact I7 (v:=.slice a' acc.length c') (by simp [results,Tryz.results56,go_sem]) rfl ⟨hx,a',c',by rw [← HE.out],by rw [← HE.out]; exact HS.out⟩
theorem size_alloc (W:World) (o:Obj):(W.alloc o).heap.size=W.heap.size+1:=Array.size_push ..
theorem yc (x:SX) (hl:x.ks.length≤1000) (h:∀ y ∈ x.ks,pV y):pV x:=by
 intro a c w hk;have HK:=ah hk;have HX:=ah h;have HL:=ah hl;clear hk h hl;obtain ⟨V,hV⟩:∃ V,(if x.k=1 then eQ x.v else ((0,0,eB):Vl))=V:=⟨_,rfl⟩
 obtain ⟨T,hT⟩:∃ T,(if x.k=2 then x.bp else eB)=T:=⟨_,rfl⟩
 obtain ⟨N,hN⟩:∃ N,(if x.k=2 then x.name else eB)=N:=⟨_,rfl⟩
 have HB:Hid (aO x = .mk x.k V T N (x.ks.map aO)):=by obtain ⟨k,v,t,n,ks⟩:=x; show _=_; rw [aO,jF]; subst hV hT hN; rfl
 have HV:=ah hV;have HT:=ah hT;have HN:=ah hN;clear hV hT hN;obtain ⟨ha0,q0⟩:=dZ w (bE x a c) 55;have ha1:Below (w.alloc (.cells (bE x a c) 55)).heap.size _ ((w.alloc (.cells (bE x a c) 55)).alloc (.cells gQ 55)):=bR ..;have q1:=aD (w.alloc (.cells (bE x a c) 55)) gQ 55
 have ha2:Below ((w.alloc (.cells (bE x a c) 55)).alloc (.cells gQ 55)).heap.size _ (((w.alloc (.cells (bE x a c) 55)).alloc (.cells gQ 55)).alloc (.cells #[x.k,aB,aB,(),(),(),aL] 55)):=bR ..;have q2:=aD ((w.alloc (.cells (bE x a c) 55)).alloc (.cells gQ 55)) #[x.k,aB,aB,(),(),(),aL] 55;have q1':=bH ha2 q1
 have q0':=(ha2.block _ (lt_of_heap (bH ha1 q0))).trans (bH ha1 q0);have hb2:=chain (chain ha0 ha1) ha2;clear q0 q1 ha0 ha1 ha2;go_enter Tryz.func30,Tryz.ntmps30;go_upto_if 11 with fail
 go_cut [] (fun wc=>Hid (Below w w wc)∧Hid (wc.heap[w.heap.size]? = some (.cells (bE x a c) 55 (0,0)))∧Hid (wc.heap[w.heap.size+1]? = some (.cells gQ 55 (0,0)))∧Hid (wc.heap[w.heap.size+1+1]? = some (.cells #[x.k,V.1,V.2.1,V.2.2,(),(),aL] 55 (0,0))))
 case first =>
  rw [size_alloc,size_alloc] at q2;rw [size_alloc] at q1';rcases hz:(x.k == 1) with _ | _
  ·have hv:V=(0,0,eB):=by
    rw [← HV.out,if_neg (fun e=>by rw [e] at hz; cases hz)]
   subst hv;go_wp2_with fail
   go_meet
   case rel=>exact ⟨hb2,q0',q1',q2⟩
  ·have hk:x.k=1:=by rw [beq_iff_eq] at hz; exact hz
   have hv:V=eQ x.v:=by rw [← HV.out,if_pos hk]
   clear hk;subst hv;generalize (((w.alloc (.cells (bE x a c) 55)).alloc (.cells gQ 55)).alloc (.cells #[x.k,aB,aB,(),(),(),aL] 55))=w3 at *;obtain ⟨x0,x1,x2,x3,x4,x5,x6⟩:=aN q0';obtain ⟨y0,y1,y2,y3,y4,y5,y6⟩:=aN q2;obtain ⟨z0,z1,z2,z3,z4,z5,z6⟩:=dT q2;have con:=tH x.v w3;go_wp2_with fail
   refine cR con fun w4 hb4=>?_;have Q0:=bH hb4 q0';have Q1:=bH hb4 q1';have Q2:=bH hb4 q2;have hb:=chain hb2 hb4;clear x0 x1 x2 x3 x4 x5 x6 y0 y1 y2 y3 y4 y5 y6 z0 z1 z2 z3 z4 z5 z6 con q0' q1' q2 hb2 hb4;generalize eQ x.v=V at *;obtain ⟨y0,y1,y2,y3,y4,y5,y6⟩:=aN Q2;obtain ⟨z0,z1,z2,z3,z4,z5,z6⟩:=dT Q2;go_wp2_with fail
   have H1:=I5 w4 (w.heap.size+1+1) 1 _ _ V.1 Q2;have H2:=I5 _ (w.heap.size+1+1) 2 _ _ V.2.1 H1;have H3:=I5 _ (w.heap.size+1+1) 3 _ _ V.2.2 H2
   have hB:=((hb.setCell (p:=⟨w.heap.size+1+1,1,none⟩) (by show _≤w.heap.size+1+1; omega) V.1).setCell (p:=⟨w.heap.size+1+1,2,none⟩) (by show _≤w.heap.size+1+1; omega) V.2.1).setCell (p:=⟨w.heap.size+1+1,3,none⟩) (by show _≤w.heap.size+1+1; omega) V.2.2;have far:∀ b,b≠w.heap.size+1+1→(((w4.setCell ⟨w.heap.size+1+1,1,none⟩ V.1).setCell ⟨w.heap.size+1+1,2,none⟩ V.2.1).setCell ⟨w.heap.size+1+1,3,none⟩ V.2.2).heap[b]? = w4.heap[b]?:=fun b hb=>by
    rw [JD _ ⟨w.heap.size+1+1,3,none⟩ _ b hb,JD _ ⟨w.heap.size+1+1,2,none⟩ _ b hb,JD _ ⟨w.heap.size+1+1,1,none⟩ _ b hb]
   have F0:=(far w ak).trans Q0;have F1:=(far (w+1) ak).trans Q1;go_meet
   case rel=>exact ⟨hB,F0,F1,H3⟩
 case rest =>
  obtain ⟨hB,Q0,Q1,Q2⟩:=hcut;clear q2 q1' q0' hb2 HV;obtain ⟨x0,x1,x2,x3,x4,x5,x6⟩:=aN Q0.out;go_upto_if 18 with fail
  clear x0 x1 x2 x3 x4 x5 x6;go_cut [] (fun wd=>Hid (Below w w wd)∧Hid (wd.heap[w.heap.size]? = some (.cells (bE x a c) 55 (0,0)))∧Hid (wd.heap[w.heap.size+1]? = some (.cells gQ 55 (0,0)))∧Hid (wd.heap[w.heap.size+1+1]? = some (.cells #[x.k,V.1,V.2.1,V.2.2,T,N,aL] 55 (0,0))))
  case first =>
   rcases hz:(x.k == 2) with _ | _
   ·have ht:T=eB:=by rw [← HT.out,if_neg (fun e=>by rw [e] at hz; cases hz)]
    have hn:N=eB:=by rw [← HN.out,if_neg (fun e=>by rw [e] at hz; cases hz)]
    subst ht;subst hn;go_wp2_with fail
    go_meet
    case rel=>exact ⟨hB,Q0,Q1,Q2⟩
   ·have hk:x.k=2:=by rw [beq_iff_eq] at hz; exact hz
    have ht:T=x.bp:=by rw [← HT.out,if_pos hk]
    have hn:N=x.name:=by rw [← HN.out,if_pos hk]
    clear hk HT HN;subst ht;subst hn;obtain ⟨x0,x1,x2,x3,x4,x5,x6⟩:=aN (show wc.drew.heap[w.heap.size]? = _ from Q0.out);obtain ⟨y0,y1,y2,y3,y4,y5,y6⟩:=aN (show wc.drew.heap[w.heap.size+1+1]? = _ from Q2.out);obtain ⟨z0,z1,z2,z3,z4,z5,z6⟩:=dT (show wc.drew.heap[w.heap.size+1+1]? = _ from Q2.out);have H4:=I5 wc (w.heap.size+1+1) 4 _ _ x.bp Q2.out;have r5:=cell_of (i:=5) H4 rfl
    have r5d:=r5;have s5:=I0 (wc.setCell ⟨w.heap.size+1+1,4,none⟩ x.bp) (w.heap.size+1+1) 5 _ _ H4;have s5d:=s5;have y5w:=y5;have z5w:=z5;have z4w:=z4;have H5:=I5 _ (w.heap.size+1+1) 5 _ _ x.name H4
    have hB2:=(hB.out.setCell (p:=⟨w.heap.size+1+1,4,none⟩) (by show _≤w.heap.size+1+1; omega) x.bp).setCell (p:=⟨w.heap.size+1+1,5,none⟩) (by show _≤w.heap.size+1+1; omega) x.name;have t5:=cell_of (i:=5) ((JD wc ⟨w.heap.size+1+1,4,none⟩ x.bp w.heap.size (by show w.heap.size≠w.heap.size+1+1; omega)).trans Q0.out) rfl;have t5d:=t5
    have HH:=ah H5;have HBB:=ah hB2;clear H4 H5 hB2;go_upto_region 5 with fail
    go_region
    clear x0 x1 x2 x3 x4 x5 x6 y0 y1 y2 y3 y4 y5 y6 z0 z1 z2 z3 z4 z5 z6 r5 r5d s5 s5d y5w z5w z4w t5 t5d;have far:∀ b,b≠w.heap.size+1+1→((wc.setCell ⟨w.heap.size+1+1,4,none⟩ x.bp).setCell ⟨w.heap.size+1+1,5,none⟩ x.name).heap[b]? = wc.heap[b]?:=fun b hb=>by
     rw [JD _ ⟨w.heap.size+1+1,5,none⟩ _ b hb,JD _ ⟨w.heap.size+1+1,4,none⟩ _ b hb]
    have F0:=(far w ak).trans Q0.out;have F1:=(far (w+1) ak).trans Q1.out;go_wp2_with fail
    go_meet
    case rel=>exact ⟨HBB.out.drew,F0,F1,HH.out⟩
  case rest =>
   obtain ⟨hB,Q0,Q1,Q2⟩:=hcut;clear HT HN;obtain ⟨i0,hi,hj0,hj1,hj2⟩:=info_parts ve;obtain ⟨x0,x1,x2,x3,x4,x5,x6⟩:=aN Q0.out;go_wp2_with fail
   clear x0 x1 x2 x3 x4 x5 x6;go_loopw [28] (fun iv wr=>∃ (ov:Value) (j:Nat) (acc:List SX),j≤x.ks.length∧iv = .int .i64 j∧Hid (Below w w wr)∧Hid (acc.length=j)∧Hid (acc=(x.ks.take j).map aO)∧Hid (bC fu 55 7 (w.heap.size+1+1+1) (fun b=>w.heap.size+1+1<b) wr ov acc)∧Hid (wr.heap[w.heap.size+1]? = some (.cells gQ 55 (0,0)))∧Hid (wr.heap[w.heap.size+1+1]? = some (.cells #[x.k,V.1,V.2.1,V.2.2,T,N,ov] 55 (0,0)))) (fun iv _=>x.ks.length - (RowKit.intOf iv).toNat)
   case atStart=>exact ⟨.slice none 0 0,0,[],Jc _,rfl,hB,rfl,rfl,bC.nil _ _ _ _ _ _,Q1,Q2⟩
   case round =>
    obtain ⟨ov,j,acc,hj,rfl,hx,hacc,HA,HO,HQ1,HQ2⟩:=hrel;by_cases hlt:j<x.ks.length
    ·have hjz:(j:Int)<(x.ks.length:Int):=by omega
     have hzr:=hx.out.size;have hoj:=HX.out _ (Jk hlt);have HT1:Hid ((x.ks.take (j+1)).map aO=acc ++ [aO x.ks[j]]):=by show _=_; rw [JC,Je hlt,JP,← HA.out]; rfl
     obtain ⟨b1,o1,ai,ci,rfl,hsb,hl1,hsv,kk⟩:=HK.out.elem hlt;have t1:=hsv.k1 (aI.of (g:=w.heap.size) (hx.out)) hl1 ak;obtain ⟨ao,co,rfl⟩:=HO.out.len;generalize x.ks[j]=y at *;have HY:=ah hoj;have KK:=ah (aJ.aM ⟨hzr,fun b hb _=>hx.out.block b hb⟩ kk);have z0:=t1.c0;have z1:=t1.c1;have z2:=t1.c2;have z3:=t1.c3
     have z4:=t1.c4;have z5:=t1.c5;have z6:=t1.c6;obtain ⟨halY,QY⟩:=dZ wr (bE y ai ci) 55;have K2:Hid (aJ (fun b=>b<(wr.alloc (.cells (bE y ai ci) 55)).heap.size) (wr.alloc (.cells (bE y ai ci) 55)) ai y.ks):=aJ.mono (fun b h _=>by have:b<w.heap.size:=h; have:=halY.size; show b<_; omega) (aJ.next halY KK.out)
     have O2:=ah (HO.out.next b9 halY);have hxa:=ah (chain hx.out halY);have hnb:=HO.out.lt;have P1:=(halY.block _ (lt_of_heap HQ1.out)).trans HQ1.out;have P2:=(halY.block _ (lt_of_heap HQ2.out)).trans HQ2.out;have hg2:=lt_of_heap HQ2.out;clear t1 hsv kk KK hoj HA HO HQ1 HQ2;go_upto_region 9 with fail
     clear z0 z1 z2 z3 z4 z5 z6;have hsa:=halY.size;generalize wr.alloc _=wa at *
     have hCC:∀ W W':World,(W.heap[w.heap.size+1+1]? = some (.cells #[x.k,V.1,V.2.1,V.2.2,T,N,.slice ao acc.length co] 55 (0,0))∧W.heap[wr.heap.size]? = some (.cells (bE y ai ci) 55 (0,0)))→Below W W W'→(W'.heap[w.heap.size+1+1]? = some (.cells #[x.k,V.1,V.2.1,V.2.2,T,N,.slice ao acc.length co] 55 (0,0))∧W'.heap[wr.heap.size]? = some (.cells (bE y ai ci) 55 (0,0))):=fun W W' h hb=>⟨(hb.block _ (lt_of_heap h.1)).trans h.1,(hb.block _ (lt_of_heap h.2)).trans h.2⟩
     have hdr:Below wa wa wa.drew:=(I8 _ _).drew;have CW:=hCC _ _ ⟨P2,QY⟩ hdr;refine dC (fun W=>W.heap[w.heap.size+1+1]? = some (.cells #[x.k,V.1,V.2.1,V.2.2,T,N,.slice ao acc.length co] 55 (0,0))∧W.heap[wr.heap.size]? = some (.cells (bE y ai ci) 55 (0,0))) 7 bm ?_;refine fP hCC 32 0 (.pointer (some ⟨w.heap.size+1+1,6,none⟩)) (fun n hn=>?_) (fun _=>CW) ?_
     ·go_simp
     simp only [Act.put,pA,pB,pC];refine fP hCC 33 1 (.slice ao acc.length co) (fun n hn=>?_) (fun _=>CW) ?_
     ·have u:=cell_of (i:=6) hn.1 rfl; go_simp
     simp only [Act.put,pA,pB,pC];refine fP hCC 34 2 (.agg (bE y ai ci)) (fun n hn=>?_) (fun _=>CW) ?_
     ·obtain ⟨u0,u1,u2,u3,u4,u5,u6⟩:=aN hn.2;go_simp
     simp only [Act.put,pA,pB,pC];refine bZ (rs:=[3]) bm (by simp) ?_;intro w5 hb5 jj hj';obtain rfl:jj=3:=by simpa using hj'
     clear hj';have D5:=chain hdr hb5;have C5:=hCC _ _ CW hb5;have hs5:=D5.size;have con:=HY.out ai ci w5 (aJ.mono (fun b h _=>Ja h hs5) (aJ.next D5 K2.out));refine wpOp_step rfl (fun K hK'=>?_);go_simp;refine con.mono ?_;rintro e w6 ⟨hb6,a2,c2,rfl,hks⟩;clear con HY;have HKS:=ah hks;clear hks;generalize aO y=z at *;have C6:=hCC _ _ C5 hb6;have D6:=chain D5 hb6;refine hK' _ _ ⟨fun _=>C6,?_⟩;clear hK' K;refine bZ (rs:=[4]) bm (by simp) ?_
     intro w7 hb7 jj hj';obtain rfl:jj=4:=by simpa using hj'
     clear hj';have C7:=hCC _ _ C6 hb7;obtain ⟨hal8,q8⟩:=dZ w7 (bE z a2 c2) 55;have C8:=hCC _ _ C7 hal8;refine wpOp_step rfl (fun K hK'=>?_);go_simp;refine hK' _ _ ⟨fun _=>C8,?_⟩;clear hK' K;have D8:=chain (chain D6 hb7) hal8;have E8:=chain hb7 hal8;generalize w7.alloc _=w8 at *;refine bZ (rs:=[5]) bm (by simp) ?_;intro w9 hb9 jj hj';obtain rfl:jj=5:=by simpa using hj'
     clear hj';have C9:=hCC _ _ C8 hb9;have D9:=chain D8 hb9;have q9:=bH hb9 q8;have KS9:=aJ.next (chain E8 hb9) HKS.out;obtain ⟨xs,o9,en9⟩:=O2.out.next b9 D9;have hs9:=D9.size;have hc1:=lt_of_heap C9.1;have hq9:=lt_of_heap q9;have P19:=bH D9 P1;refine wpOp_step rfl (fun K hK'=>?_)
     refine jW _ _ 48 rfl (w.heap.size+1+1+1) 55 i0 _ 7 96 Tryz.underlying48 hi hj0 hj1 hj2 rfl (by decide) (.slice ao acc.length co) acc.length _ rfl o9 (af w7 0) 1 1 (mf z a2 c2) rfl rfl ?Bc1 ?Bc2 ?Bc3 ?Bc4 ?Bc5 ?_
     case Bc1 =>
      intro i u hu;rw [bG,Jm];exact cell_of (i:=i) q9 (by rw [← hu]; simp [mf])
     case Bc2=>intro u hu; simp [mf] at hu; rcases hu with rfl | rfl | rfl | rfl | rfl | rfl | rfl <;> rfl
     case Bc3=>unfold maxLen; have:=hacc.out; have:=HL.out; omega
     case Bc4=>have:=hacc.out; have:=HL.out; omega
     case Bc5=>omega
     intro vq w10 o10 g10 hd10;have z10:=g10.size;have O10:bC fu 55 7 (w.heap.size+1+1+1) (fun b=>w.heap.size+1+1<b) w10 vq (acc ++ [z]):=bC.push b9 o9 en9 rfl ⟨a2,c2,rfl,aJ.mono (fun b h1 h2=>⟨by have:w5.heap.size≤b:=h1; show w.heap.size+1+1<b; omega,h2,fun e=>by have:=(hnb b e).2; have:w5.heap.size≤b:=h1; omega⟩) KS9⟩ o10 g10 (by simpa using hd10);have D10:Below w w9 w10:=(I8 _ _).grown g10 ak (fun q hq=>by have:=(hnb q hq).1; omega);have C10:=(g10.block _ hc1 (fun e=>by have:=(hnb _ e.symm).1; omega)).trans C9.1
     have C10b:=(g10.block _ (lt_of_heap C9.2) (fun e=>by have:=(hnb _ e.symm).2; omega)).trans C9.2;have P110:=(g10.block _ (lt_of_heap P19) (fun e=>by have:=(hnb _ e.symm).1; omega)).trans P19;refine hK' _ _ ⟨fun _=>⟨C10,C10b⟩,?_⟩;clear hK' K o9 en9 o10 g10 hd10;refine bZ (rs:=[6]) bm (by simp) ?_;intro w11 hb11 jj hj';obtain rfl:jj=6:=by simpa using hj'
     clear hj';refine wpOp_step rfl (fun K hK'=>?_);go_simp;have C11:=hCC _ _ ⟨C10,C10b⟩ hb11;refine hK' _ _ ⟨fun _=>C11,?_⟩;clear hK' K;refine bZ (rs:=[7]) bm (by simp) ?_;intro w12 hb12 jj hj';obtain rfl:jj=7:=by simpa using hj'
     clear hj';have C12:=hCC _ _ C11 hb12;have D12:=chain hb11 hb12;have u6:=cell_of (i:=6) C12.1 rfl;have f6:=I0 w12 (w.heap.size+1+1) 6 _ _ C12.1;have Q13:=I5 w12 (w.heap.size+1+1) 6 _ _ vq C12.1;have K13:aI (w.heap.size+1+1) w12 (w12.setCell ⟨w.heap.size+1+1,6,none⟩ vq):=(aI.refl _ _).set _ _
     have O13:=(O10.next b9 D12).aM b9 (fun b h=>by show w.heap.size+1+1<b; omega) (K13.k (fun h=>by have:w.heap.size+1+1<w.heap.size+1+1:=h; omega));have P113:=(K13.2 _ (by have:=lt_of_heap P110; have:=D12.size; omega) ak).trans (bH D12 P110)
     have hx13:=((((hxa.out.trans (D9.mono ak)).trans D10).trans (D12.mono ak)).setCell (p:=⟨w.heap.size+1+1,6,none⟩) (by show _≤w.heap.size+1+1; omega) vq)
     obtain ⟨aw,cw,ew⟩:=O10.len;have hlen:(acc ++ [z]).length=j+1:=by rw [Jf,hacc.out]; rfl
     generalize (acc ++ [z]).length=n3 at ew;refine wpOp_step rfl (fun K hK'=>?_);subst ew;go_simp;have HO13:=ah O13;have HP13:=ah P113;have HQ13:=ah Q13;have HX13:=ah hx13;clear O13 P113 Q13 hx13 K13;generalize w12.setCell ⟨w.heap.size+1+1,6,none⟩ _=w13 at *;refine hK' _ _ ⟨fun h=>by simp at h,?_⟩;clear hK' K;refine eJ bm ?_;intro w14 hb14;have hs13:=HX13.out.size;have G1:Hid _:=(hb14.block _ (lt_of_heap HP13.out)).trans HP13.out
     have G2:Hid _:=(hb14.block _ (lt_of_heap HQ13.out)).trans HQ13.out;have G3:Hid _:=HO13.out.next b9 hb14;have G4:=ah (HX13.out.trans (hb14.mono ak));clear HO13 HP13 HQ13 HX13 C12 C11 C10 C10b C9 C8 C7 C6 C5 CW u6 f6 P1 P2 P19 P110 O10 hCC;have hLL:=HL.out;go_wp2_with fail
     go_roundw
     case rel=>exact ⟨_,j+1,acc ++ [z],by omega,by go_num,G4,hlen,HT1.out.symm,G3,G1,G2⟩
     case measure=>simp [RowKit.intOf]; omega
    ·have hjz:¬ (j:Int)<(x.ks.length:Int):=by omega
     have ea:acc=x.ks.map aO:=by rw [HA.out,Jx ak]
     have HE:=ah ea;clear ea HA;obtain ⟨a',c',rfl,hks⟩:=HO.out.Da (fun b hb=>by show w.heap.size+1+1<b; omega);have HS0:=ah hks;obtain ⟨y0,y1,y2,y3,y4,y5,y6⟩:=aN HQ2.out;obtain ⟨v0,v1,v2,v3,v4,v5,v6⟩:=aN HQ1.out;obtain ⟨z0,z1,z2,z3,z4,z5,z6⟩:=dT HQ1.out;clear hks HO;go_wp2_with fail
     have QE:=mo HQ1.out x.k V.1 V.2.1 V.2.2 T N (.slice a' acc.length c');have hbE:=Gx hx.out (g:=w.heap.size+1) ak x.k V.1 V.2.1 V.2.2 T N (.slice a' acc.length c');have hk1:=(((((((aI.refl (w+1) wr).set 0 x.k).set 1 V.1).set 2 V.2.1).set 3 V.2.2).set 4 T).set 5 N).set 6 (.slice a' acc.length c')
     have hkE:=HS0.out.k1 hk1 (by show ¬ w.heap.size+1+1<w.heap.size+1; omega);generalize (((((((wr.setCell (af (w+1) 0) x.k).setCell (af (w+1) 1) V.1).setCell (af (w+1) 2) V.2.1).setCell (af (w+1) 3) V.2.2).setCell (af (w+1) 4) T).setCell (af (w+1) 5) N).setCell (af (w+1) 6) (.slice a' acc.length c'))=wE at *;obtain ⟨e0,e1,e2,e3,e4,e5,e6⟩:=aN QE;have hb:aO x = .mk x.k V T N acc:=by rw [HB.out,HE.out]
     exact I7 (v:=.agg (bE (.mk x.k V T N acc) a' c')) (by simp [results,Tryz.results30,go_sem,e0,e1,e2,e3,e4,e5,e6]; repeat' (first | rfl | constructor)) rfl ⟨hbE,a',⟨c',by rw [hb]⟩,by rw [hb]; exact aJ.mono (fun b h _=>by have:w.heap.size+1+1<b:=h; show w.heap.size≤b; omega) hkE⟩
theorem kO {x:SX} (h:gA x):pV x:=by
 induction h with
 | mk h1 _ ih=>exact yc _ h1 ih
set_option maxHeartbeats 4000000
def gx (ws:List ByteArray):List UInt8:=ws.flatMap fun w=>32 :: w.data.toList
theorem qE:∀ (ws:List ByteArray) (bs:List UInt8),bs ≠ []→aE bs ws=bs ++ gx ws
 | [],bs,_=>by simp [aE,gx]
 | w :: r,bs,h=>by
  have e:jX bs w=bs ++ (32 :: w.data.toList):=by simp [jX,h]
  show aE (jX bs w) r=_
  rw [e,qE r _ (by simp)]
  simp [gx]
def fy:List ByteArray→List UInt8
 | []=>[]
 | w :: r=>w.data.toList ++ gx r
theorem yH {w:ByteArray} {r:List ByteArray} (h:w.data.toList ≠ []):aE [] (w :: r)=fy (w :: r):=by
 show aE (jX [] w) r=_;have e:jX [] w=w.data.toList:=by simp [jX]
 rw [e,qE r _ h,fy]
def jq:List UInt8→List UInt8
 | []=>[]
 | c :: r=>if c=39 then 39 :: 39 :: jq r else c :: jq r
def Fc:List UInt8→Nat
 | []=>0
 | c :: r=>if c=39 then Fc r+1 else Fc r
theorem Bu (r:List UInt8):Lib.index (39 :: r) [39]=0:=by rw [Lib.index,if_pos (by simp [List.isPrefixOf])]
theorem qv {c:UInt8} (h:c≠39) (r:List UInt8):Lib.index (c :: r) [39]=if Lib.index r [39] == -1 then -1 else Lib.index r [39]+1:=by
 rw [Lib.index,if_neg (by simp [List.isPrefixOf]; exact fun e=>h e.symm)]
theorem jT:∀ (s:List UInt8) (k:Nat),Fc s≤k→Lib.replaceK [39] [39,39] k s=jq s
 | [],k,_=>by
  cases k with
  | zero=>rfl
  | succ k=>rw [Lib.replaceK,if_pos (by rfl)]; rfl
 | c :: r,k,h=>by
  by_cases e:c=39
  ·subst e
   rw [Fc,if_pos rfl] at h
   cases k with
   | zero=>omega
   | succ k=>rw [Lib.replaceK_hit _ _ _ _ 0 (Bu r),jq,if_pos rfl]; simp only [List.take_zero,Jq,Jo,JQ,Jm,List.drop_succ_cons,JJ,Ju]; rw [jT r k ak]
  ·rw [Fc,if_neg e] at h
   rw [jq,if_neg e,← jT r k h]
   cases k with
   | zero=>rfl
   | succ k =>
    by_cases hm:Lib.index r [39] = -1
    ·rw [Lib.replaceK,if_pos (by rw [qv e,hm]; rfl),Lib.replaceK,if_pos (by rw [hm]; rfl)]
    ·have hg:=Lib.index_ge r [39]
     obtain ⟨i,hi⟩:∃ i:Nat,Lib.index r [39]=i:=⟨(Lib.index r [39]).toNat,by omega⟩
     have h2:Lib.index (c :: r) [39]=((i+1:Nat):Int):=by rw [qv e,if_neg (by rw [beq_iff_eq]; exact hm),hi]; rfl
     rw [Lib.replaceK_hit _ _ _ _ _ h2,Lib.replaceK_hit _ _ _ _ _ hi]
     simp
theorem Ay:∀ s:List UInt8,Fc s=s.count 39
 | []=>rfl
 | c :: r=>by
  rw [Fc,List.count_cons,Ay r]
  by_cases e:c=39
  ·rw [if_pos e,if_pos (by rw [beq_iff_eq]; exact e)]
  ·rw [if_neg e,if_neg (by rw [beq_iff_eq]; exact e)]; rfl
theorem ux (s:List UInt8):Lib.replaceAll s [39] [39,39]=jq s:=by
 unfold Lib.replaceAll Lib.replace;rw [if_neg (by decide)];refine jT s _ ?_;unfold Lib.replaceNum;rw [if_pos (.inl (by decide)),Lib.count_one,Ay];exact I6 _
def quo (s:ByteArray):ByteArray:=⟨(39 :: (jq s.data.toList ++ [39])).toArray⟩
def xV:Nat→List UInt8→List UInt8
 | 0,_=>[]
 | _+1,[]=>[]
 | n+1,c :: r=>if c=39 then (if r.headD 0=39 then 39 :: xV n r.tail else []) else c :: xV n r
theorem rW:∀ (s:List UInt8) (n:Nat),s.length<n→xV n (jq s ++ [39])=s
 | [],n,h=>by
  obtain ⟨m,rfl⟩:∃ m,n=m+1:=⟨n - 1,by simp at h; omega⟩
  rfl
 | c :: r,n,h=>by
  simp only [Jo] at h
  obtain ⟨m,rfl⟩:∃ m,n=m+1:=⟨n - 1,by omega⟩
  rw [jq]
  by_cases e:c=39
  ·rw [if_pos e,Ju,Ju,xV,if_pos rfl,List.headD_cons,if_pos rfl,List.tail_cons,rW r m ak,e]
  ·rw [if_neg e,Ju,xV,if_neg e,rW r m ak]
def wk (w:ByteArray):Int × ByteArray :=
 if iO (((w.data.toList.headD 0).toNat:Nat):Int) then (1,w) else if gp (((w.data.toList.headD 0).toNat:Nat):Int) then (2,w) else if w.data.toList.headD 0=39 then (3,fc (xV (w.size+1) w.data.toList.tail)) else (4,w)
def vj (f:Int→Bool) (w:ByteArray):Prop:=∀ c ∈ w.data.toList,f ((c.toNat:Nat):Int)=true
inductive GW:ByteArray→Prop
 | word {w:ByteArray}:iO (((w.data.toList.headD 0).toNat:Nat):Int)=true→vj ig w→GW w
 | num {w:ByteArray}:1≤w.size→w.size≤16→vj gp w→GW w
 | text {s:ByteArray}:s.size≤60→GW (quo s)
 | sign {w:ByteArray}:w.data.toList ∈ iM→GW w
theorem Dg (w:ByteArray):fc w.data.toList=w:=rfl
theorem ek (w:ByteArray):w.data.toList.length=w.size:=Ji
theorem CC (s:List UInt8):s.length≤(jq s).length:=by
 induction s with
 | nil=>exact I6 _
 | cons c r ih=>rw [jq]; split <;> simp <;> omega
theorem rT (s:ByteArray):wk (quo s)=(3,s):=by
 have h1:(quo s).data.toList=39 :: (jq s.data.toList ++ [39]):=rfl;unfold wk;rw [h1,List.headD_cons,if_neg (by decide),if_neg (by decide),if_pos rfl,List.tail_cons,rW]
 ·rfl
 ·rw [← ek (quo s),h1]; have:=CC s.data.toList; have:=ek s; simp; omega
theorem jM (f:Int→Bool):∀ (l r:List UInt8),(∀ c ∈ l,f ((c.toNat:Nat):Int)=true)→(r = []∨∃ c t,r=c :: t∧f ((c.toNat:Nat):Int)=false)→eE f (l ++ r)=l.length
 | [],r,_,hr=>by
  rcases hr with rfl | ⟨c,t,rfl,h⟩
  ·rfl
  ·show fk f (_ :: _)=0
   rw [fk,if_neg (by rw [h]; decide)]
 | c :: l,r,hl,hr=>by
  show fk f (_ :: _)=_
  rw [fk,if_pos (hl c (by simp))]
  have:=jM f l r (fun d hd=>hl d (by simp [hd])) hr
  exact congrArg (· + 1) this
def Fx (r:List UInt8):Prop:=r = []∨∃ t,r=32 :: t
theorem Fx.cls {r:List UInt8} (h:Fx r) {f:Int→Bool} (hf:f 32=false):r = []∨∃ c t,r=c :: t∧f ((c.toNat:Nat):Int)=false:=by
 rcases h with rfl | ⟨t,rfl⟩
 ·exact .inl rfl
 ·exact .inr ⟨32,t,rfl,hf⟩
theorem qG (p:Int) {r:List UInt8} (hr:Fx r):∀ (s:List UInt8) (k:Nat) (out:List UInt8),dI p (jq s ++ 39 :: r) k out=ki p (k+(jq s).length) (out ++ s)
 | [],k,out=>by
  rcases hr with rfl | ⟨t,rfl⟩
  ·simp [jq,dI]
  ·simp [jq,dI]
 | c :: s,k,out=>by
  have ih:=fun k out=>qG p hr s k out
  rw [jq]
  by_cases e:c=39
  ·subst e
   rw [if_pos rfl,Ju,Ju,dI,if_pos rfl,if_pos rfl,ih]
   congr 1
   ·simp; omega
   ·simp
  ·rw [if_neg e,Ju]
   obtain ⟨d,u,hd⟩:∃ d u,jq s ++ 39 :: r=d :: u:=by
    cases h:jq s with
    | nil=>exact ⟨39,r,rfl⟩
    | cons a b=>exact ⟨a,b ++ 39 :: r,rfl⟩
   rw [hd,dI,if_neg e,← hd,ih]
   congr 1
   ·simp; omega
   ·simp
theorem An:∀ l ∈ iM,∀ (r:List UInt8),Fx r→∀ p:Int,eT (l ++ r) p = .ok ((4,fc l,p),l.length):=by
 intro l hl r hr p;simp only [iM,Jn,List.not_mem_nil,or_false] at hl;rcases hr with rfl | ⟨t,rfl⟩
 all_goals
  rcases hl with rfl | rfl | rfl | rfl | rfl | rfl | rfl | rfl | rfl | rfl | rfl | rfl | rfl | rfl | rfl
 all_goals rfl
theorem xo:∀ l ∈ iM,wk (fc l)=(4,fc l)∧∃ c t,l=c :: t∧eW ((c.toNat:Nat):Int)=false:=by
 intro l hl;simp only [iM,Jn,List.not_mem_nil,or_false] at hl;rcases hl with rfl | rfl | rfl | rfl | rfl | rfl | rfl | rfl | rfl | rfl | rfl | rfl | rfl | rfl | rfl
 all_goals exact ⟨rfl,_,_,rfl,rfl⟩
theorem DL {c:Int} (h:iO c=true):eW c=false:=by
 simp only [iO,Bool.or_eq_true,Jv,decide_eq_true_eq,beq_iff_eq] at h;simp only [eW,Bool.or_eq_false_iff,beq_eq_false_iff_ne];omega
theorem rY {c:Int} (h:gp c=true):eW c=false∧iO c=false:=by
 simp only [gp,Jv,decide_eq_true_eq] at h;simp only [eW,iO,Bool.or_eq_false_iff,beq_eq_false_iff_ne,Bool.and_eq_false_iff,decide_eq_false_iff_not];omega
theorem GW.head {w:ByteArray} (h:GW w):∃ c t,w.data.toList=c :: t∧eW ((c.toNat:Nat):Int)=false:=by
 cases h with
 | word h1 h2 =>
  cases e:w.data.toList with
  | nil=>rw [e] at h1; exact absurd h1 (by decide)
  | cons c t=>rw [e] at h1; exact ⟨c,t,rfl,DL h1⟩
 | num h1 h2 h3 =>
  cases e:w.data.toList with
  | nil=>have:=ek w; rw [e] at this; simp at this; omega
  | cons c t=>exact ⟨c,t,rfl,(rY (h3 c (by rw [e]; simp))).1⟩
 | @text s h1=>exact ⟨39,_,rfl,rfl⟩
 | sign h1=>exact (xo _ h1).2
theorem GW.tok {w:ByteArray} (h:GW w) {r:List UInt8} (hr:Fx r) (p:Int):eT (w.data.toList ++ r) p = .ok (((wk w).1,(wk w).2,p),w.size):=by
 obtain ⟨c,t,hc,_⟩:=h.head;cases h with
 | word h1 h2 =>
  have hh:(w.data.toList ++ r).headD 0=w.data.toList.headD 0:=by rw [hc]; rfl
  have hs:=jM ig _ r h2 (hr.cls rfl);rw [eT,hh,if_pos h1,hs,List.take_left,ek,wk,if_pos h1];rfl
 | num h1 h2 h3 =>
  have hd:gp (((w.data.toList.headD 0).toNat:Nat):Int)=true:=by rw [hc]; exact h3 c (by rw [hc]; simp)
  have hl:=(rY hd).2;have hh:(w.data.toList ++ r).headD 0=w.data.toList.headD 0:=by rw [hc]; rfl
  have hs:=jM gp _ r h3 (hr.cls rfl);rw [eT,hh,if_neg (by rw [hl]; decide),if_pos hd,iF,hs,ek,if_neg ak,← ek,List.take_left,wk,if_neg (by rw [hl]; decide),if_pos hd];rfl
 | @text s h1 =>
  rw [rT];have e:(quo s).data.toList ++ r=39 :: (jq s.data.toList ++ 39 :: r):=by simp [quo]
  rw [e,eT,List.headD_cons,if_neg (by decide),if_neg (by decide),if_pos rfl,List.tail_cons,qG p hr,ki,Jq,ek,if_neg ak];have e2:(quo s).size=1+(jq s.data.toList).length+1:=by rw [← ek]; simp [quo]; omega
  rw [e2];rfl
 | sign h1 =>
  rw [An _ h1 r hr p,ek];have:=(xo _ h1).1;rw [Dg] at this;rw [this];rfl
def strip (t:Tk):Int × ByteArray:=(t.1,t.2.1)
def TW (ws:List ByteArray) (ts:List Tk):Prop:=ts.map strip=ws.map wk
theorem zQ (r:List ByteArray):Fx (gx r):=by
 cases r with
 | nil=>exact .inl rfl
 | cons a b=>exact .inr ⟨_,rfl⟩
theorem zu:∀ {r:List ByteArray},(∀ w ∈ r,GW w)→(gx r).drop (eE eW (gx r))=fy r
 | [],_=>rfl
 | w :: r,h=>by
  obtain ⟨c,t,hc,hb⟩:=(h w (by simp)).head
  have e:gx (w :: r) = [32] ++ (fy (w :: r)):=by simp [gx,fy]
  have:eE eW (gx (w :: r))=1:=by
   rw [e];refine jM eW [32] _ (by simp; decide) (.inr ⟨c,t ++ gx r,?_,hb⟩);rw [fy,hc]; rfl
  rw [this,e];rfl
theorem oO:∀ (ws:List ByteArray) (n:Nat) (p:Int),(∀ w ∈ ws,GW w)→ws.length<n→∃ ts q,ja n (fy ws) p = .ok (ts ++ [(5,eB,q)])∧TW ws ts
 | [],n,p,_,h=>by
  obtain ⟨m,rfl⟩:∃ m,n=m+1:=⟨n - 1,by simp at h; omega⟩
  exact ⟨[],p,rfl,rfl⟩
 | w :: r,n,p,hw,h=>by
  simp only [Jo] at h
  obtain ⟨m,rfl⟩:∃ m,n=m+1:=⟨n - 1,by omega⟩
  have hg:=hw w (by simp)
  obtain ⟨c,t,hc,hb⟩:=hg.head
  have hne:fy (w :: r) ≠ []:=by rw [fy,hc]; simp
  have htk:=hg.tok (zQ r) p
  obtain ⟨ts,q,e1,e2⟩:=oO r m (p+w.size+eE eW (gx r)) (fun x hx=>hw x (by simp [hx])) ak
  refine ⟨((wk w).1,(wk w).2,p) :: ts,q,?_,?_⟩
  ·rw [show fy (w :: r)=w.data.toList ++ gx r from rfl] at hne ⊢
   rw [ja,if_neg hne,htk]
   simp only
   have hd:(w.data.toList ++ gx r).drop w.size=gx r:=by rw [← ek,List.drop_left]
   rw [hd,zu (fun x hx=>hw x (by simp [hx])),e1]
   rfl
  ·show _ :: _=_ :: _
   rw [show ts.map strip=r.map wk from e2]
   rfl
theorem Bg:∀ {ws:List ByteArray},(∀ w ∈ ws,GW w)→ws.length≤(fy ws).length
 | [],_=>I6 _
 | w :: r,h=>by
  obtain ⟨c,t,hc,_⟩:=(h w (by simp)).head
  rw [fy,hc]
  have:r.length≤(gx r).length:=by
   clear h hc
   induction r with
   | nil=>exact I6 _
   | cons a b ih =>
    have e:gx (a :: b)=(32 :: a.data.toList) ++ gx b:=rfl;rw [e]; simp; omega
  simp; omega
theorem pQ {ws:List ByteArray} (h:∀ w ∈ ws,GW w):∃ ts q,jn ⟨(fy ws).toArray⟩ = .ok (ts ++ [(5,eB,q)])∧TW ws ts:=by
 have e0:eE eW (fy ws)=0:=by
  cases ws with
  | nil=>rfl
  | cons w r =>
   obtain ⟨c,t,hc,hb⟩:=(h w (by simp)).head;refine jM eW [] _ (by simp) (.inr ⟨c,t ++ gx r,?_,hb⟩);show w.data.toList ++ gx r=_;rw [hc]; rfl
 obtain ⟨ts,q,h1,h2⟩:=oO ws ((fy ws).length+1) 0 h (Nat.lt_succ_of_le (Bg h));refine ⟨ts,q,?_,h2⟩;show ja ((fy ws).toArray.size+1) ((fy ws).drop (eE eW (fy ws))) (eE eW (fy ws):Int)=_;rw [e0]
 simpa using h1
theorem zH (s:ByteArray) (k:Int) (x:ByteArray) (p:Int) (r:List Tk):bK s ((k,x,p) :: r)=((k == 1 || k == 4) && (x.data.toList == s.data.toList)):=by
 show ((k == 1 || k == 4) && (x.toList == s.toList))=_;rw [Lib.toList_data,Lib.toList_data]
abbrev bQ (w:ByteArray) (p:Int):Tk:=((wk w).1,(wk w).2,p)
theorem zx (w:ByteArray):(wk w).1=1∨(wk w).1=2∨(wk w).1=3∨(wk w).1=4:=by
 unfold wk
 split
 ·exact .inl rfl
 ·split
  ·exact .inr (.inl rfl)
  ·split
   ·exact .inr (.inr (.inl rfl))
   ·exact .inr (.inr (.inr rfl))
theorem bB (w:ByteArray) (p:Int) (r:List Tk):aC (bQ w p :: r)=r:=by
 have:(wk w).1≠5:=by rcases zx w with h | h | h | h <;> rw [h] <;> decide
 rw [aC,if_neg this]
theorem jY (t:Tk) (r:List Tk):cg (t :: r)=t:=rfl
theorem TW.nil {ts:List Tk} (h:TW [] ts):ts = []:=List.map_eq_nil_iff.1 h
theorem TW.cons {w:ByteArray} {ws:List ByteArray} {ts:List Tk} (h:TW (w :: ws) ts):∃ p t',ts=bQ w p :: t'∧TW ws t':=by
 cases ts with
 | nil=>exact absurd h (by simp [TW])
 | cons t r =>
  have h2:=h;injection h2 with e1 e2
  refine ⟨t.2.2,r,?_,e2⟩;obtain ⟨a,b,c⟩:=t;have:(a,b)=wk w:=e1;show (a,b,c) :: r=((wk w).1,(wk w).2,c) :: r;rw [← this]
theorem TW.app {a b:List ByteArray} {ts:List Tk} (h:TW (a ++ b) ts):∃ ta tb,ts=ta ++ tb∧TW a ta∧TW b tb:=by
 have h2:ts.map strip=a.map wk ++ b.map wk:=by rw [← JP]; exact h
 obtain ⟨ta,tb,e,e1,e2⟩:=List.map_eq_append_iff.1 h2;exact ⟨ta,tb,e,e1,e2⟩
theorem fO (s w:ByteArray) (p:Int) (r:List Tk):bK s (bQ w p :: r)=(((wk w).1 == 1 || (wk w).1 == 4) && ((wk w).2.data.toList == s.data.toList)):=zH _ _ _ _ _
theorem cN {w:ByteArray} (h:(((wk w).1 == 1 || (wk w).1 == 4) && ((wk w).2.data.toList == w.data.toList))=true) (l:List ByteArray) (p:Int) (r:List Tk):aV (w :: l) (bQ w p :: r)=aV l r:=by
 rw [aV,fO,if_pos h,bB]
def EA (s:ByteArray):Bool:=wU.contains s.data.toList || !iO (((s.data.toList.headD 0).toNat:Nat):Int)
theorem Ek (s:ByteArray):(nb s).getD 0 0=(((s.data.toList.headD 0).toNat:Nat):Int):=by
 show (s.data.toList.map _).getD 0 0=_;cases s.data.toList <;> rfl
theorem jh {s:ByteArray} (h:dF s=true):1≤s.size∧s.size≤12∧iO (((s.data.toList.headD 0).toNat:Nat):Int)=true∧vj ig s∧wU.contains s.data.toList=false:=by
 unfold dF at h;simp only [Jv,decide_eq_true_eq,Bool.not_eq_true',Ek] at h;refine ⟨h.1.1.1.1,h.1.1.1.2,h.1.1.2,?_,?_⟩
 ·intro c hc;have:=h.1.2;unfold nb at this;rw [List.all_map,Js] at this;exact this c hc
 ·have:=h.2;unfold ny at this;rw [Lib.toList_data] at this;rw [Bool.eq_false_iff];intro hc;rw [List.contains_iff_exists_mem_beq] at hc;obtain ⟨k,hk,e⟩:=hc;rw [Bool.eq_false_iff] at this;exact this (List.any_eq_true.2 ⟨k,hk,e⟩)
theorem rI {s:ByteArray} (h:dF s=true):wk s=(1,s):=by unfold wk; rw [if_pos (jh h).2.2.1]
theorem gE {s:ByteArray} (h:dF s=true):GW s:=.word (jh h).2.2.1 (jh h).2.2.2.1
theorem fh {n s:ByteArray} (h:dF n=true) (hs:EA s=true) (p:Int) (r:List Tk):bK s (bQ n p :: r)=false:=by
 rw [fO,rI h,Bool.and_eq_false_iff];refine .inr ?_;rw [beq_eq_false_iff_ne];intro e;obtain ⟨_,_,h3,_,h5⟩:=jh h;replace e:n.data.toList=s.data.toList:=e;rw [e] at h3 h5;unfold EA at hs;rw [h5,h3] at hs;exact absurd hs (by decide)
theorem fV {n:ByteArray} (h:dF n=true) (p:Int) (r:List Tk):dt (bQ n p :: r) = .ok (n,r):=by
 have e:=rI h;have h1:(cg (bQ n p :: r)).1=1:=by rw [jY]; show (wk n).1=1; rw [e]
 have h2:(cg (bQ n p :: r)).2.1=n:=by rw [jY]; show (wk n).2=n; rw [e]
 rw [dt,if_neg (by rw [h1]; decide),h2,if_neg (by rw [h]; decide),bB]
theorem mN {u:Nat} (h:u<10):Lib.decDigits u = [UInt8.ofNat (48+u)]:=by rw [Lib.decDigits,dif_pos h]
theorem so {u:Nat} (h:¬ u<10):Lib.decDigits u=Lib.decDigits (u / 10) ++ [UInt8.ofNat (48+u % 10)]:=by rw [Lib.decDigits,dif_neg h]
theorem rD {u:Nat} (h:u<10):(UInt8.ofNat (48+u)).toNat=48+u:=by rw [UInt8.toNat_ofNat']; omega
theorem Cw:∀ (u:Nat),∀ c ∈ Lib.decDigits u,gp ((c.toNat:Nat):Int)=true:=by
 intro u
 induction u using Nat.strongRecOn with
 | ind u ih =>
  intro c hc;have one:∀ v,v<10→gp (((UInt8.ofNat (48+v)).toNat:Nat):Int)=true:=by
   intro v hv;rw [rD hv];simp only [gp,Jv,decide_eq_true_eq];omega
  by_cases h:u<10
  ·rw [mN h,JA] at hc;subst hc;exact one u h
  ·rw [so h] at hc;rcases List.mem_append.1 hc with hc | hc
   ·exact ih _ ak c hc
   ·rw [JA] at hc;subst hc;exact one _ ak
theorem xg:∀ (k u:Nat),1≤k→u<10 ^ k→1≤(Lib.decDigits u).length∧(Lib.decDigits u).length≤k
 | 0,u,h,_=>by omega
 | k+1,u,_,h2=>by
  by_cases h:u<10
  ·rw [mN h]; simp
  ·rw [so h]
   have hk:1≤k:=by
    cases k with
    | zero=>simp at h2; omega
    | succ k=>omega
   rw [Nat.pow_succ] at h2;have:=xg k (u / 10) hk ak;simp; omega
theorem Df:∀ (u:Nat),(Lib.decDigits u).foldl (fun (n:Int) (c:UInt8)=>n*10+(((c.toNat:Nat):Int) - 48)) 0=u:=by
 intro u
 induction u using Nat.strongRecOn with
 | ind u ih =>
  by_cases h:u<10
  ·rw [mN h];show (0:Int)*10+(((UInt8.ofNat (48+u)).toNat:Nat) - 48:Int)=u;rw [rD h]; omega
  ·rw [so h,List.foldl_append,ih _ ak];show ((u / 10:Nat):Int)*10+(((UInt8.ofNat (48+u % 10)).toNat:Nat) - 48:Int)=u;rw [rD ak]; omega
theorem pw {n:Int} (h:0≤n):(gK n).data.toList=Lib.decDigits n.toNat:=by
 show Lib.itoa n=_;rw [Lib.itoa,if_neg ak]
theorem nY {n:Int} (h:0≤n):bS (gK n)=n:=by
 unfold bS nb;rw [pw h,List.foldl_map,Df];omega
theorem mX {n:Int} (h:0≤n) (h2:n≤1000000000000000):GW (gK n)∧wk (gK n)=(2,gK n):=by
 have hp:(10:Nat) ^ 16=10000000000000000:=by decide
 have hl:=xg 16 n.toNat (by decide) ak;have hs:(gK n).size=(Lib.decDigits n.toNat).length:=by rw [← ek,pw h]
 have ha:vj gp (gK n):=by intro c hc; rw [pw h] at hc; exact Cw _ c hc
 refine ⟨.num ak ak ha,?_⟩;have hd:gp ((((gK n).data.toList.headD 0).toNat:Nat):Int)=true:=by
  cases e:(gK n).data.toList with
  | nil=>have:=ek (gK n); rw [e] at this; simp at this; omega
  | cons c t=>exact ha c (by rw [e]; simp)
 unfold wk;rw [if_neg (by rw [(rY hd).2]; decide),if_pos hd]
theorem mz {w:ByteArray} (h:(wk w).1=2∨(wk w).1=3) (s:ByteArray) (p:Int) (r:List Tk):bK s (bQ w p :: r)=false:=by
 rw [fO];rcases h with h | h <;> rw [h] <;> rfl
theorem mb {n:Int} (h:n<0):j3 n = [⟨#[45]⟩,gK (-n)]:=by unfold j3; rw [if_pos h]; rfl
theorem lX {n:Int} (h:¬ n<0):j3 n = [gK n]:=by unfold j3; rw [if_neg h]
theorem n5 {n a b:Int} (h1:-1000000000000000≤n) (h2:n≤1000000000000000) (ha:a≤n) (hb:n≤b) {ts:List Tk} (h:TW (j3 n) ts) (rest:List Tk):dv a b (ts ++ rest) = .ok (n,rest):=by
 by_cases hn:n<0
 ·rw [mb hn] at h;replace h:=h.cons;obtain ⟨p,t1,rfl,h⟩:=h;replace h:=h.cons;obtain ⟨q,t2,rfl,h⟩:=h;obtain rfl:=h.nil;obtain ⟨_,hw⟩:=mX (n:=-n) ak ak;unfold dv;have hm:bK ⟨#[45]⟩ (bQ ⟨#[45]⟩ p :: bQ (gK (-n)) q :: rest)=true:=by rw [fO]; rfl
  simp only [Ju,Jq];rw [hm];simp only [if_true,bB,jY];have e1:(bQ (gK (-n)) q).1=2:=by show (wk _).1=2; rw [hw]
  have e2:(wk (gK (-n))).2=gK (-n):=by rw [hw]
  rw [if_neg (by rw [e1]; decide),e2,nY ak,Int.neg_neg,if_neg ak]
 ·rw [lX hn] at h;replace h:=h.cons;obtain ⟨q,t2,rfl,h⟩:=h;obtain rfl:=h.nil;obtain ⟨_,hw⟩:=mX (n:=n) ak ak;unfold dv;have hm:bK ⟨#[45]⟩ (bQ (gK n) q :: rest)=false:=mz (.inl (by rw [hw])) _ _ _;simp only [Ju,Jq];rw [hm];simp only [Jd,if_false,bB,jY];have e1:(bQ (gK n) q).1=2:=by show (wk _).1=2; rw [hw]
  have e2:(wk (gK n)).2=gK n:=by rw [hw]
  rw [if_neg (by rw [e1]; decide),e2,nY ak,if_neg ak]
theorem zE {n:Int} (h1:-1000000000000000≤n) (h2:n≤1000000000000000):∀ w ∈ j3 n,GW w:=by
 by_cases hn:n<0
 ·rw [mb hn];intro w hw;rcases List.mem_cons.1 hw with rfl | hw
  ·exact .sign (by decide)
  ·rw [JA] at hw; subst hw; exact (mX ak ak).1
 ·rw [lX hn];intro w hw;rw [JA] at hw; subst hw; exact (mX ak ak).1
theorem CO (s:ByteArray):vK s=quo s:=by
 unfold vK quo;rw [ux];apply ByteArray.ext;apply Array.ext';simp
def ir (b:Bool) (w:List ByteArray):Prop:=∃ a r,w=a :: r∧∀ s:ByteArray,(s.data.toList = [42]∨s.data.toList = [100,105,115,116,105,110,99,116]∨(b=true∧s.data.toList = [110,111,116]))→∀ (p:Int) (X:List Tk),bK s (bQ a p :: X)=false
theorem ir.mono {b:Bool} {w:List ByteArray} (h:ir true w):ir b w:=by
 obtain ⟨a,r,e,h⟩:=h;refine ⟨a,r,e,fun s hs=>h s ?_⟩;rcases hs with hs | hs | ⟨_,hs⟩
 ·exact .inl hs
 ·exact .inr (.inl hs)
 ·exact .inr (.inr ⟨rfl,hs⟩)
theorem ir.app {b:Bool} {w:List ByteArray} (h:ir b w) (v:List ByteArray):ir b (w ++ v):=by
 obtain ⟨a,r,e,h⟩:=h;exact ⟨a,r ++ v,by rw [e]; rfl,h⟩
def Ev (b:Bool) (a:ByteArray):Bool:=!((wk a).2.data.toList == [42]) && !((wk a).2.data.toList == [100,105,115,116,105,110,99,116]) && (!b || !((wk a).2.data.toList == [110,111,116]))
theorem ir.lit {b : Bool} {a : ByteArray} (h : Ev b a = true) (r : List ByteArray) : ir b (a :: r) := by
  refine ⟨a, r, rfl, fun s hs p X => ?_⟩
  rw [fO, Bool.and_eq_false_iff]
  unfold Ev at h
  simp only [Jv, Bool.not_eq_true', Bool.or_eq_true] at h
  rcases hs with hs | hs | ⟨e, hs⟩
  · exact .inr (by rw [hs]; exact h.1.1)
  · exact .inr (by rw [hs]; exact h.1.2)
  · refine .inr (by rw [hs]; rcases h.2 with h | h; · rw [e] at h; cases h
                    · exact h)
theorem ir.two {b:Bool} {a:ByteArray} (h:(wk a).1=2∨(wk a).1=3) (r:List ByteArray):ir b (a :: r):=⟨a,r,rfl,fun s _ p X=>mz h s p X⟩
theorem ir.name {b:Bool} {a:ByteArray} (h:dF a=true) (r:List ByteArray):ir b (a :: r):=by
 refine ⟨a,r,rfl,fun s hs p X=>fh h ?_ p X⟩;unfold EA;rcases hs with hs | hs | ⟨_,hs⟩ <;> rw [hs] <;> rfl
theorem oq {v:Vl} (h:gb v=0):(v.1=1)∨(v.1=2∧(v.2.1=0∨v.2.1=1))∨(v.1=3 ∧ -1000000000000000≤v.2.1∧v.2.1≤1000000000000000)∨(v.1=4∧v.2.2.size≤60):=by
 unfold gb at h;by_cases h1:v.1=1
 ·exact .inl h1
 rw [if_neg h1] at h;by_cases h2:v.1=2
 ·rw [if_pos h2] at h;by_cases hn:v.2.1=0∨v.2.1=1
  ·exact .inr (.inl ⟨h2,hn⟩)
  ·rw [if_neg hn] at h; exact absurd h (by decide)
 rw [if_neg h2] at h;by_cases h3:v.1=3
 ·rw [if_pos h3] at h;by_cases hi:rG v.2.1=true
  ·simp only [rG,Jv,decide_eq_true_eq] at hi;exact .inr (.inr (.inl ⟨h3,hi⟩))
  ·rw [if_neg hi] at h; exact absurd h (by decide)
 rw [if_neg h3] at h;by_cases h4:v.1=4
 ·rw [if_pos h4] at h;by_cases hs:v.2.2.size > 60
  ·rw [if_pos hs] at h; exact absurd h (by decide)
  ·exact .inr (.inr (.inr ⟨h4,by omega⟩))
 ·rw [if_neg h4] at h; exact absurd h (by decide)
theorem sd {v:Vl} (h:v.1=1):dK v = [⟨#[110,117,108,108]⟩]∧eQ v=(1,0,eB):=by
 unfold dK eQ; rw [h]; exact ⟨rfl,rfl⟩
theorem lz {v:Vl} (h:v.1=2):(v.2.1=0→dK v = [⟨#[102,97,108,115,101]⟩])∧(v.2.1=1→dK v = [⟨#[116,114,117,101]⟩])∧eQ v=(2,v.2.1,eB):=by
 unfold dK eQ; rw [h];exact ⟨fun e=>by rw [e]; rfl,fun e=>by rw [e]; rfl,rfl⟩
theorem rQ {v:Vl} (h:v.1=3):dK v=j3 v.2.1∧eQ v=(3,v.2.1,eB):=by
 unfold dK eQ; rw [h]; exact ⟨rfl,rfl⟩
theorem rH {v:Vl} (h:v.1=4):dK v = [quo v.2.2]∧eQ v=(4,0,v.2.2):=by
 unfold dK eQ; rw [h,← CO]; exact ⟨rfl,rfl⟩
theorem qy {v:Vl} (hv:gb v=0) {ts:List Tk} (h:TW (dK v) ts) (rest:List Tk):cY (ts ++ rest) = .ok (eQ v,rest)∧dG (ts ++ rest)=true:=by
 rcases oq hv with h1 | ⟨h2,hn⟩ | ⟨h3,ha,hb⟩ | ⟨h4,hs⟩
 ·rw [(sd h1).1] at h;rw [(sd h1).2];replace h:=h.cons;obtain ⟨p,t1,rfl,h⟩:=h;obtain rfl:=h.nil;have e:bK ⟨#[110,117,108,108]⟩ (bQ ⟨#[110,117,108,108]⟩ p :: rest)=true:=by rw [fO]; rfl
  simp only [Ju,Jq];constructor
  ·unfold cY;rw [if_neg (show ¬ (cg (bQ ⟨#[110,117,108,108]⟩ p :: rest)).1=3 from (by decide:¬ (wk ⟨#[110,117,108,108]⟩).1=3)),if_pos e,bB]
  ·unfold dG;rw [e]; simp
 ·rw [(lz h2).2.2];rcases hn with e | e
  ·rw [(lz h2).1 e] at h;rw [e];replace h:=h.cons;obtain ⟨p,t1,rfl,h⟩:=h;obtain rfl:=h.nil;have e1:bK ⟨#[110,117,108,108]⟩ (bQ ⟨#[102,97,108,115,101]⟩ p :: rest)=false:=by rw [fO]; rfl
   have e2:bK ⟨#[116,114,117,101]⟩ (bQ ⟨#[102,97,108,115,101]⟩ p :: rest)=false:=by rw [fO]; rfl
   have e3:bK ⟨#[102,97,108,115,101]⟩ (bQ ⟨#[102,97,108,115,101]⟩ p :: rest)=true:=by rw [fO]; rfl
   show cY (bQ ⟨#[102,97,108,115,101]⟩ p :: rest)=_∧dG (bQ ⟨#[102,97,108,115,101]⟩ p :: rest)=_;constructor
   ·unfold cY;rw [if_neg (show ¬ (cg (bQ ⟨#[102,97,108,115,101]⟩ p :: rest)).1=3 from (by decide:¬ (wk ⟨#[102,97,108,115,101]⟩).1=3)),if_neg (by rw [e1]; decide),if_neg (by rw [e2]; decide),if_pos e3,bB]
   ·unfold dG;rw [e3]; simp
  ·rw [(lz h2).2.1 e] at h;rw [e];replace h:=h.cons;obtain ⟨p,t1,rfl,h⟩:=h;obtain rfl:=h.nil;have e1:bK ⟨#[110,117,108,108]⟩ (bQ ⟨#[116,114,117,101]⟩ p :: rest)=false:=by rw [fO]; rfl
   have e2:bK ⟨#[116,114,117,101]⟩ (bQ ⟨#[116,114,117,101]⟩ p :: rest)=true:=by rw [fO]; rfl
   show cY (bQ ⟨#[116,114,117,101]⟩ p :: rest)=_∧dG (bQ ⟨#[116,114,117,101]⟩ p :: rest)=_;constructor
   ·unfold cY;rw [if_neg (show ¬ (cg (bQ ⟨#[116,114,117,101]⟩ p :: rest)).1=3 from (by decide:¬ (wk ⟨#[116,114,117,101]⟩).1=3)),if_neg (by rw [e1]; decide),if_pos e2,bB]
   ·unfold dG;rw [e2]; simp
 ·rw [(rQ h3).1] at h;rw [(rQ h3).2];have hN:=n5 ha hb ak ak h rest (a:=-1000000000000000) (b:=1000000000000000);have hnot:(cg (ts ++ rest)).1≠3∧bK ⟨#[110,117,108,108]⟩ (ts ++ rest)=false∧bK ⟨#[116,114,117,101]⟩ (ts ++ rest)=false∧bK ⟨#[102,97,108,115,101]⟩ (ts ++ rest)=false∧dG (ts ++ rest)=true:=by
   by_cases hn:v.2.1<0
   ·rw [mb hn] at h;replace h:=h.cons;obtain ⟨p,t1,rfl,h⟩:=h;simp only [Ju];refine ⟨(by decide:¬ (wk ⟨#[45]⟩).1=3),by rw [fO]; rfl,by rw [fO]; rfl,by rw [fO]; rfl,?_⟩;have e:bK ⟨#[45]⟩ (bQ ⟨#[45]⟩ p :: (t1 ++ rest))=true:=by rw [fO]; rfl
    unfold dG;rw [e]; simp
   ·rw [lX hn] at h;replace h:=h.cons;obtain ⟨p,t1,rfl,h⟩:=h;obtain ⟨_,hw⟩:=mX (n:=v.2.1) ak ak;simp only [Ju];refine ⟨by rw [jY]; show (wk _).1≠3; rw [hw]; exact (by decide:¬ (2:Int)=3),mz (.inl (by rw [hw])) _ _ _,mz (.inl (by rw [hw])) _ _ _,mz (.inl (by rw [hw])) _ _ _,?_⟩;unfold dG;rw [jY,show (bQ (gK v.2.1) p).1=2 from by show (wk _).1=2; rw [hw]];simp
  obtain ⟨q1,q2,q3,q4,q5⟩:=hnot;refine ⟨?_,q5⟩;unfold cY;rw [if_neg q1,if_neg (by rw [q2]; decide),if_neg (by rw [q3]; decide),if_neg (by rw [q4]; decide),bP _ hN]
 ·rw [(rH h4).1] at h;rw [(rH h4).2];replace h:=h.cons;obtain ⟨p,t1,rfl,h⟩:=h;obtain rfl:=h.nil;simp only [Ju,Jq];have e1:(cg (bQ (quo v.2.2) p :: rest)).1=3:=by rw [jY]; show (wk _).1=3; rw [rT]
  have e2:(cg (bQ (quo v.2.2) p :: rest)).2.1=v.2.2:=by rw [jY]; show (wk _).2=_; rw [rT]
  constructor
  ·unfold cY;rw [if_pos e1,e2,bB]
  ·unfold dG;rw [e1]; simp
theorem zv {v:Vl} (hv:gb v=0):∀ w ∈ dK v,GW w:=by
 rcases oq hv with h1 | ⟨h2,hn⟩ | ⟨h3,ha,hb⟩ | ⟨h4,hs⟩
 ·rw [(sd h1).1];intro w hw;rw [JA] at hw; subst hw; exact .word (by decide) (by unfold vj; decide)
 ·rcases hn with e | e
  ·rw [(lz h2).1 e];intro w hw;rw [JA] at hw; subst hw;exact .word (by decide) (by unfold vj; decide)
  ·rw [(lz h2).2.1 e];intro w hw;rw [JA] at hw; subst hw;exact .word (by decide) (by unfold vj; decide)
 ·rw [(rQ h3).1]; exact zE ha hb
 ·rw [(rH h4).1];intro w hw;rw [JA] at hw; subst hw; exact .text hs
theorem DA {v:Vl} (hv:gb v=0):ir true (dK v):=by
 rcases oq hv with h1 | ⟨h2,hn⟩ | ⟨h3,ha,hb⟩ | ⟨h4,hs⟩
 ·rw [(sd h1).1]; exact ir.lit (by decide) _
 ·rcases hn with e | e
  ·rw [(lz h2).1 e]; exact ir.lit (by decide) _
  ·rw [(lz h2).2.1 e]; exact ir.lit (by decide) _
 ·rw [(rQ h3).1];by_cases hn:v.2.1<0
  ·rw [mb hn]; exact ir.lit (by decide) _
  ·rw [lX hn]; obtain ⟨_,hw⟩:=mX (n:=v.2.1) ak ak;exact ir.two (.inl (by rw [hw])) _
 ·rw [(rH h4).1]; exact ir.two (.inr (by rw [rT])) _
def pL (s w:ByteArray):Bool:=((wk w).1 == 1 || (wk w).1 == 4) && ((wk w).2.data.toList == s.data.toList)
theorem aZ (s w:ByteArray) (p:Int) (r:List Tk):bK s (bQ w p :: r)=pL s w:=fO _ _ _ _
def xr (l:Int) (r:List Tk):Prop:=(∀ j,l≤j→(cC j r).1=0)∧bK ⟨#[46]⟩ r=false∧(l≤4→bK ⟨#[105,115]⟩ r=false)
theorem xr.mono {l m:Int} {r:List Tk} (h:xr l r) (hl:l≤m):xr m r:=⟨fun j hj=>h.1 j ak,h.2.1,fun e=>h.2.2 ak⟩
theorem lH (j:Int) (ts:List Tk):∀ l:List (Int × ByteArray × Int),(∀ i ∈ l,bK i.2.1 ts=false)→(dP j ts l).1=0
 | [],_=>rfl
 | i :: l,h=>by
  rw [dP,if_neg (by rw [h i (by simp)]; simp)]
  exact lH j ts l fun i hi=>h i (by simp [hi])
theorem qV {ts:List Tk} {k L:Int} (j:Int):∀ (l:List (Int × ByteArray × Int)),(∀ i ∈ l,bK i.2.1 ts=(i.1 == k))→(∀ i ∈ l,i.1=k→i.2.2=L)→(j≠L→(dP j ts l).1=0)∧((∃ i ∈ l,i.1=k)→dP L ts l=(k,aC ts))
 | [],_,_=>⟨fun _=>rfl,fun ⟨i,hi,_⟩=>absurd hi (by simp)⟩
 | i :: l,h,hL=>by
  obtain ⟨q1,q2⟩:=qV j l (fun i hi=>h i (by simp [hi])) (fun i hi=>hL i (by simp [hi]))
  have hi:=h i (by simp)
  have hLi:=hL i (by simp)
  by_cases e:i.1=k
  ·have hp:bK i.2.1 ts=true:=by rw [hi,e]; simp
   refine ⟨fun hj=>?_,fun _=>?_⟩
   ·rw [dP,if_neg (by rw [hLi e]; intro c; exact hj c.1.symm)]
    exact q1 hj
   ·rw [dP,if_pos ⟨hLi e,hp⟩,e]
  ·have hp:bK i.2.1 ts=false:=by rw [hi,beq_eq_false_iff_ne]; exact e
   refine ⟨fun hj=>?_,fun ⟨x,hx,ex⟩=>?_⟩
   ·rw [dP,if_neg (by rw [hp]; simp)]
    exact q1 hj
   ·rw [dP,if_neg (by rw [hp]; simp)]
    rcases List.mem_cons.1 hx with rfl | hx
    ·exact absurd ex e
    ·exact q2 ⟨x,hx,ex⟩
def pF (w:ByteArray):Bool:=dV.all (fun i=>!pL i.2.1 w) && !pL ⟨#[46]⟩ w && !pL ⟨#[105,115]⟩ w
theorem l7 {w:ByteArray} (h:pF w=true) (l p:Int) (r:List Tk):xr l (bQ w p :: r):=by
 unfold pF at h;simp only [Jv,Bool.not_eq_true',Js] at h;refine ⟨fun j _=>lH j _ _ fun i hi=>?_,?_,fun _=>?_⟩
 ·rw [aZ]; exact h.1.1 i hi
 ·rw [aZ]; exact h.1.2
 ·rw [aZ]; exact h.2
theorem Fm (p:Int) (r:List Tk):xr 5 (bQ ⟨#[105,115]⟩ p :: r):=by
 have h:dV.all (fun i=>!pL i.2.1 ⟨#[105,115]⟩)=true:=by decide
 simp only [Js,Bool.not_eq_true'] at h;refine ⟨fun j _=>lH j _ _ fun i hi=>?_,?_,fun e=>absurd e (by decide)⟩
 ·rw [aZ]; exact h i hi
 ·rw [aZ]; decide
def Gv (i:Int × ByteArray × Int):Bool:=dV.all (fun x=>pL x.2.1 i.2.1 == (x.1 == i.1)) && dV.all (fun x=>!(x.1 == i.1) || (x.2.2 == i.2.2)) && !pL ⟨#[46]⟩ i.2.1 && !pL ⟨#[105,115]⟩ i.2.1 && (iM.contains i.2.1.data.toList || iO (((i.2.1.data.toList.headD 0).toNat:Nat):Int) && i.2.1.data.toList.all (fun c=>ig ((c.toNat:Nat):Int))) && decide (i.1≠0)
theorem Cy:dV.all Gv=true:=by decide
structure xO (k:Int):Prop where
 mem:eO k ∈ dV
 id:(eO k).1=k
 ne:k≠0
theorem tB {k:Int} (hk:k≠0):∀ l:List (Int × ByteArray × Int),(kn k l).1=k→kn k l ∈ l
 | [],h=>absurd h.symm hk
 | i :: r,h=>by
  rw [kn] at h ⊢
  by_cases e:i.1=k
  ·rw [if_pos e]; simp
  ·rw [if_neg e] at h ⊢
   exact JM _ (tB hk r h)
theorem xD {k:Int} (h:4≤k∧k≤15):xO k:=by
 have:k=4∨k=5∨k=6∨k=7∨k=8∨k=9∨k=10∨k=11∨k=12∨k=13∨k=14∨k=15:=by omega
 rcases this with rfl | rfl | rfl | rfl | rfl | rfl | rfl | rfl | rfl | rfl | rfl | rfl
 all_goals exact ⟨tB (by decide) dV rfl,rfl,by decide⟩
theorem xO.Dy {k:Int} (h:xO k) {l:Int} (hl:(eO k).2.2<l) (p:Int) (r:List Tk):xr l (bQ (eO k).2.1 p :: r)∧cC (eO k).2.2 (bQ (eO k).2.1 p :: r)=(k,r)∧GW (eO k).2.1∧bK ⟨#[105,115]⟩ (bQ (eO k).2.1 p :: r)=false:=by
 have hb:=List.all_eq_true.1 Cy _ h.mem;unfold Gv at hb;simp only [Jv,Bool.not_eq_true',Js,beq_iff_eq,Bool.or_eq_true] at hb;obtain ⟨⟨⟨⟨⟨h1,h2⟩,h3⟩,h4⟩,h5⟩,h6⟩:=hb;have hone:=qV (ts:=bQ (eO k).2.1 p :: r) (k:=k) (L:=(eO k).2.2);have ha:∀ i ∈ dV,bK i.2.1 (bQ (eO k).2.1 p :: r)=(i.1 == k):=by
  intro i hi;rw [aZ,h1 i hi,h.id]
 have hb2:∀ i ∈ dV,i.1=k→i.2.2=(eO k).2.2:=by
  intro i hi e;rcases h2 i hi with q | q
  ·rw [beq_eq_false_iff_ne,h.id] at q; exact absurd e q
  ·exact q
 refine ⟨⟨fun j hj=>(hone j dV ha hb2).1 ak,by rw [aZ]; exact h3,fun _=>by rw [aZ]; exact h4⟩,?_,?_,by rw [aZ]; exact h4⟩
 ·have:=(hone 0 dV ha hb2).2 ⟨_,h.mem,h.id⟩;rw [bB] at this;exact this
 ·rcases h5 with h5 | h5
  ·exact .sign (by simpa using h5)
  ·exact .word h5.1 fun c hc=>h5.2 c hc
theorem ir.tw {b:Bool} {w:List ByteArray} (h:ir b w) {ts:List Tk} (ht:TW w ts) {s:ByteArray} (hs:s.data.toList = [42]∨s.data.toList = [100,105,115,116,105,110,99,116]∨(b=true∧s.data.toList = [110,111,116])) (rest:List Tk):bK s (ts ++ rest)=false:=by
 obtain ⟨a,r,rfl,hf⟩:=h;obtain ⟨p,t1,rfl,_⟩:=ht.cons;exact hf s hs p _
def gY (F:Nat) (D:Int) (w:List ByteArray) (X:SX):Prop:=∀ (n:Nat) (o:Int) (ts rest:List Tk),TW w ts→xr 8 rest→o+D≤100→F≤n→cI n o (ts ++ rest) = .ok (X,rest)
def kD (l:Int) (F:Nat) (D:Int) (w:List ByteArray) (X:SX):Prop:=∀ (n:Nat) (o:Int) (ts rest:List Tk),TW w ts→xr l rest→o+D≤100→F≤n→dj n l o (ts ++ rest) = .ok (X,rest)
def eC (l:Int) (F:Nat) (D:Int) (w:List ByteArray) (X:SX):Prop:=∀ (n:Nat) (o:Int) (ts rest:List Tk),TW w ts→xr (l+1) rest→o+D≤100→F≤n→∃ m,n≤m+F∧cd n l o (ts ++ rest)=fI m l o X rest
def tU (F:Nat) (D:Int) (w:List ByteArray) (X:SX):Prop:=∀ (n:Nat) (o:Int) (ts rest:List Tk),TW w ts→xr 4 rest→o+D≤100→F≤n→b7 n o (ts ++ rest) = .ok (X,rest)
def o8 (F:Nat) (D:Int) (w:List ByteArray) (X:SX):Prop:=∀ (n:Nat) (o:Int) (ts rest:List Tk),TW w ts→xr 1 rest→o+D≤100→F≤n→dy n o (ts ++ rest) = .ok (X,rest)
section
variable {F G:Nat} {D E:Int} {w:List ByteArray} {X:SX} {l:Int}
theorem kD.mono (h:kD l F D w X) (hF:F≤G) (hD:D≤E):kD l G E w X:=fun n o ts rest ht hf ho hn=>h n o ts rest ht hf ak ak
theorem eC.mono (h:eC l F D w X) (hF:F≤G) (hD:D≤E):eC l G E w X:=fun n o ts rest ht hf ho hn=>by
 obtain ⟨m,h1,h2⟩:=h n o ts rest ht hf ak ak
 exact ⟨m,by omega,h2⟩
theorem Hz (h:gY F D w X):kD 8 (F+1) D w X:=by
 intro n o ts rest ht hf ho hn;obtain ⟨m,rfl⟩:∃ m,n=m+1:=⟨n - 1,by omega⟩
 rw [dj,if_neg (by decide),if_pos rfl];exact h m o ts rest ht hf ho ak
theorem nW (h:kD (l+1) F D w X):eC l (F+1) D w X:=by
 intro n o ts rest ht hf ho hn;obtain ⟨m,rfl⟩:∃ m,n=m+1:=⟨n - 1,by omega⟩
 refine ⟨m,by omega,?_⟩;rw [cd,bP _ (h m o ts rest ht hf ho ak)]
theorem eC.done (h:eC l F D w X) (n:Nat) (o:Int) (ts rest:List Tk) (ht:TW w ts) (hf:xr l rest) (ho:o+D≤100) (hn:F+1≤n):cd n l o (ts ++ rest) = .ok (X,rest):=by
 obtain ⟨m,hm,e⟩:=h n o ts rest ht (hf.mono ak) ho ak;obtain ⟨m,rfl⟩:∃ k,m=k+1:=⟨m - 1,by omega⟩
 rw [e,fI,if_pos (hf.1 l (Jl _))]
theorem pk (h3:l≠3) (h8:l≠8) (h:eC l F D w X):kD l (F+2) D w X:=by
 intro n o ts rest ht hf ho hn;obtain ⟨m,rfl⟩:∃ m,n=m+1:=⟨n - 1,by omega⟩
 rw [dj,if_neg h3,if_neg h8];exact h.done m o ts rest ht hf ho ak
theorem Ey (h:eC 5 F D w X):tU (F+2) D w X:=by
 intro n o ts rest ht hf ho hn;obtain ⟨m,rfl⟩:∃ m,n=m+1:=⟨n - 1,by omega⟩
 rw [b7,bP _ (h.done m o ts rest ht (hf.mono (by decide)) ho ak),if_neg (by rw [hf.2.2 (by decide)]; decide),if_pos (hf.1 4 (by decide))]
theorem Hw (h:tU F D w X) (hw:ir true w):kD 3 (F+2) D w X:=by
 intro n o ts rest ht hf ho hn;obtain ⟨m,rfl⟩:∃ m,n=m+2:=⟨n - 2,by omega⟩
 rw [dj,if_pos rfl,cJ,if_neg (by rw [hw.tw ht (.inr (.inr ⟨rfl,rfl⟩))]; decide)];exact h m o ts rest ht (hf.mono (by decide)) ho ak
structure pY (L:Int) (F:Nat) (D:Int) (w:List ByteArray) (X:SX):Prop where
 Gp:∀ l,(l=1∨l=2∨l=3∨l=5∨l=6∨l=7∨l=8)→l≤L→kD l F D w X
 DQ:∀ l,(l=1∨l=2∨l=5∨l=6∨l=7)→l≤L→eC l F D w X
theorem pY.mono {M L:Int} (h:pY L F D w X) (hM:M≤L) (hF:F≤G) (hD:D≤E):pY M G E w X :=
 ⟨fun l hl hle=>(h.Gp l hl ak).mono hF hD,fun l hl hle=>(h.DQ l hl ak).mono hF hD⟩
theorem pY.up {L:Int} (h:pY L F D w X) (h1:kD (L+1) F D w X) (h2:(L+1=1∨L+1=2∨L+1=5∨L+1=6∨L+1=7)→eC (L+1) F D w X):pY (L+1) F D w X:=by
 refine ⟨fun l hl hle=>?_,fun l hl hle=>?_⟩
 ·by_cases e:l=L+1
  ·subst e; exact h1
  ·exact h.Gp l hl ak
 ·by_cases e:l=L+1
  ·subst e; exact h2 hl
  ·exact h.DQ l hl ak
theorem GJ (h:eC 1 F D w X):pY 1 (F+2) D w X:=by
 refine ⟨fun l hl hle=>?_,fun l hl hle=>?_⟩
 ·obtain rfl:l=1:=by omega
  exact pk (by decide) (by decide) h
 ·obtain rfl:l=1:=by omega
  exact h.mono ak (Jl _)
theorem FV (h:eC 2 F D w X):pY 2 (F+5) D w X :=
 have h2:=pk (by decide) (by decide) h
 ((GJ (nW (l:=1) h2)).mono (Jl _) ak (Jl _)).up (h2.mono ak (Jl _)) (fun _=>h.mono ak (Jl _))
theorem Gn (h:kD 3 F D w X):pY 3 (F+6) D w X :=
 ((FV (nW (l:=2) h)).mono (Jl _) ak (Jl _)).up (h.mono ak (Jl _)) (fun c=>absurd c (by decide))
theorem Fe (h:tU F D w X) (hw:ir true w):pY 4 (F+8) D w X:=by
 have:=Gn (Hw h hw);refine ⟨fun l hl hle=>this.Gp l hl ak,fun l hl hle=>this.DQ l hl ak⟩
theorem GL (h:eC 5 F D w X) (hw:ir true w):pY 5 (F+10) D w X :=
 ((Fe (Ey h) hw).mono (Jl _) ak (Jl _)).up ((pk (by decide) (by decide) h).mono ak (Jl _)) (fun _=>h.mono ak (Jl _))
theorem Gz (h:eC 6 F D w X) (hw:ir true w):pY 6 (F+13) D w X :=
 have h2:=pk (by decide) (by decide) h
 ((GL (nW (l:=5) h2) hw).mono (Jl _) ak (Jl _)).up (h2.mono ak (Jl _)) (fun _=>h.mono ak (Jl _))
theorem FI (h:eC 7 F D w X) (hw:ir true w):pY 7 (F+16) D w X :=
 have h2:=pk (by decide) (by decide) h
 ((Gz (nW (l:=6) h2) hw).mono (Jl _) ak (Jl _)).up (h2.mono ak (Jl _)) (fun _=>h.mono ak (Jl _))
theorem GD (h:gY F D w X) (hw:ir true w):pY 8 (F+18) D w X :=
 have h2:=Hz h
 ((FI (nW (l:=7) h2) hw).mono (Jl _) ak (Jl _)).up (h2.mono ak (Jl _)) (fun c=>absurd c (by decide))
theorem yP (h:eC 1 F D w X) (hD:0≤D):o8 (F+2) (D+1) w X:=by
 intro n o ts rest ht hf ho hn;obtain ⟨m,rfl⟩:∃ m,n=m+1:=⟨n - 1,by omega⟩
 rw [dy,if_neg ak];exact h.done m (o+1) ts rest ht hf ak ak
theorem pY.expr {L:Int} (h:pY L F D w X) (hL:1≤L) (hD:0≤D):o8 (F+2) (D+1) w X:=yP (h.DQ 1 (.inl rfl) hL) hD
end
theorem gz (w:ByteArray) (p:Int) (r:List Tk):dG (bQ w p :: r)=((wk w).1 == 2 || (wk w).1 == 3 || pL ⟨#[45]⟩ w || pL ⟨#[110,117,108,108]⟩ w || pL ⟨#[116,114,117,101]⟩ w || pL ⟨#[102,97,108,115,101]⟩ w):=by
 unfold dG;rw [aZ,aZ,aZ,aZ];rfl
theorem uk {n:ByteArray} (h:dF n=true) (p:Int) (r:List Tk):dG (bQ n p :: r)=false:=by
 unfold dG
 rw [fh h rfl,fh h rfl,fh h rfl,fh h rfl,jY]
 show ((wk n).1 == 2 || (wk n).1 == 3 || _ || _ || _ || _)=_
 rw [rI h]; rfl
section
variable {F:Nat} {D:Int} {w:List ByteArray} {X:SX}
theorem zb {v:Vl} (hv:gb v=0):gY 1 0 (dK v) (.mk 1 (eQ v) eB eB []):=by
 intro n o ts rest ht hf ho hn;obtain ⟨m,rfl⟩:∃ m,n=m+1:=⟨n - 1,by omega⟩
 obtain ⟨h1,h2⟩:=qy hv ht rest;rw [cI,if_pos h2,bP _ h1]
theorem oN {n:ByteArray} (h:dF n=true) (m:Nat) (o p:Int) (r:List Tk):cI (m+1) o (bQ n p :: r)=dD (bQ n p :: r):=by
 rw [cI,if_neg (by rw [uk h]; decide),if_neg (by rw [fh h rfl]; decide),if_neg (by rw [fh h rfl]; decide),if_neg (by rw [fh h rfl]; decide),if_neg (by rw [fh h rfl]; decide),if_neg (by rw [fh h rfl]; decide),if_neg (by rw [fh h rfl]; decide),if_neg (by rw [fh h rfl]; decide)]
theorem gJ {n:ByteArray} (h:ef n=0):dF n=true:=by
 unfold ef at h;by_cases e:dF n=true
 ·exact e
 ·rw [if_neg e] at h; exact absurd h (by decide)
theorem kB {t:ByteArray} (h:dz t=0):t=eB∨(t.size≠0∧dF t=true):=by
 unfold dz at h;by_cases e:t.size=0
 ·left;apply ByteArray.ext;apply Array.ext';have:=ek t;rw [e] at this;exact List.length_eq_zero_iff.1 this
 ·right;refine ⟨e,?_⟩;by_cases z:t.toList.isEmpty=true
  ·rw [Lib.toList_data,List.isEmpty_iff] at z;have:=ek t;rw [z] at this;exact absurd this.symm e
  ·rw [if_neg z] at h; exact gJ h
theorem yM {t n:ByteArray} (hn:ef n=0) (ht:dz t=0):gY 1 0 (mP t n) (.mk 2 v0 t n []):=by
 intro f o ts rest hts hf ho hF;obtain ⟨m,rfl⟩:∃ m,f=m+1:=⟨f - 1,by omega⟩
 have hnm:=gJ hn;unfold mP at hts;rcases kB ht with rfl | ⟨e,htm⟩
 ·rw [if_pos (show eB.size=0 from rfl)] at hts;replace hts:=hts.cons;obtain ⟨p,t1,rfl,hts⟩:=hts;obtain rfl:=hts.nil;show cI (m+1) o (bQ n p :: rest)=_;rw [oN hnm,dD,bP _ (fV hnm p rest),if_neg (by rw [hf.2.1]; decide)]
 ·rw [if_neg e] at hts;replace hts:=hts.cons;obtain ⟨p,t1,rfl,hts⟩:=hts;replace hts:=TW.cons (w:=⟨#[46]⟩) (ws:=[n]) hts;obtain ⟨q,t2,rfl,hts⟩:=hts;replace hts:=hts.cons;obtain ⟨u,t3,rfl,hts⟩:=hts;obtain rfl:=hts.nil;show cI (m+1) o (bQ t p :: bQ ⟨#[46]⟩ q :: bQ n u :: rest)=_;rw [oN htm,dD,bP _ (fV htm p _),if_pos (by rw [aZ]; decide),bB,bP _ (fV hnm u rest)]
theorem sE (h:o8 F D w X):gY (F+1) D ([⟨#[40]⟩] ++ w ++ [⟨#[41]⟩]) X:=by
 intro n o ts rest ht hf ho hn;obtain ⟨m,rfl⟩:∃ m,n=m+1:=⟨n - 1,by omega⟩
 change TW (⟨#[40]⟩ :: (w ++ [⟨#[41]⟩])) ts at ht;replace ht:=ht.cons;obtain ⟨p,t1,rfl,ht⟩:=ht;replace ht:=ht.app;obtain ⟨ta,tb,rfl,ha,hb⟩:=ht;replace hb:=hb.cons;obtain ⟨q,t2,rfl,hb⟩:=hb;obtain rfl:=hb.nil;show cI (m+1) o (bQ ⟨#[40]⟩ p :: (ta ++ [bQ ⟨#[41]⟩ q] ++ rest))=_;rw [Jg,cI,if_neg (by rw [gz]; decide),if_pos (by rw [aZ]; decide),bB];show aK (dy m o (ta ++ (bQ ⟨#[41]⟩ q :: rest))) _=_;rw [bP _ (h m o ta _ ha (l7 (by decide) _ _ _) ho ak),cN (by decide)];rfl
theorem iP (h:o8 F D w X) {s:ByteArray} (hs:pF s=true) (hm:pL s s=true) {n:Nat} {o:Int} (l:List ByteArray) (acc:List SX) {ta:List Tk} (ha:TW w ta) (p:Int) (r:List Tk) (ho:o+D≤100) (hn:F≤n):dk (n+1) o (s :: l) acc (ta ++ (bQ s p :: r))=dk n o l (acc ++ [X]) r:=by
 rw [dk,bP _ (h n o ta _ ha (l7 hs _ _ _) ho hn),cN hm];rfl
theorem rp {n:Nat} (hn:1≤n) (o:Int) (acc:List SX) (r:List Tk):dk n o [] acc r = .ok (acc,r):=by
 obtain ⟨m,rfl⟩:∃ m,n=m+1:=⟨n - 1,by omega⟩
 rw [dk]
end
mutual
def dX:SX→Nat
 | .mk _ _ _ _ ks=>1+uU ks
def uU:List SX→Nat
 | []=>0
 | x :: r=>max (dX x) (uU r)
end
theorem Ah {g:SX→Int→Int × Int} {d:Int} (hg:∀ y n,(g y n).1=0→d+dX y≤21) (hd:d≤21):∀ (ks:List SX) (n:Int),(gS g ks n).1=0→d+uU ks≤21
 | [],n,h=>by rw [uU]; omega
 | y :: r,n,h=>by
  rw [gS] at h
  by_cases e:(g y n).1=0
  ·rw [if_pos e] at h
   have h1:=hg y n e
   have h2:=Ah hg hd r _ h
   rw [uU]; omega
  ·rw [if_neg e] at h; exact absurd h e
theorem Bt:∀ (f:Nat) (x:SX) (d n:Int),(fe f x d n).1=0→d+dX x≤21
 | 0,x,d,n,h=>by rw [fe] at h; exact absurd h (by simp)
 | f+1,.mk k v t nm ks,d,n,h=>by
  rw [fe] at h
  by_cases h1:n+1≤200∧d≤20
  ·rw [if_neg (by simpa using h1)] at h
   by_cases h2:1≤(SX.mk k v t nm ks).k∧(SX.mk k v t nm ks).k≤23
   ·rw [if_neg (by simpa using h2)] at h
    by_cases h3:(SX.mk k v t nm ks).ks.length=eX (SX.mk k v t nm ks).k
    ·rw [if_neg (by simpa using h3)] at h
     by_cases h4:ij (SX.mk k v t nm ks)=0
     ·rw [if_neg (by simpa using h4)] at h
      have:=Ah (d:=d+1) (fun y m=>Bt f y (d+1) m) ak _ _ h
      rw [dX]
      show d+((1+uU ks:Nat):Int)≤21
      have e:(SX.mk k v t nm ks).ks=ks:=rfl
      rw [e] at this
      push_cast; omega
     ·rw [if_pos h4] at h; exact absurd h h4
    ·rw [if_pos h3] at h; exact absurd h (by simp)
   ·rw [if_pos h2] at h; exact absurd h (by simp)
  ·rw [if_pos h1] at h; exact absurd h (by simp)
structure mB (x:SX):Prop where
 EJ:∀ l,1≤l→l≤8→pY l (100*nX x) (2*dX x) (fJ l (bN x.k,bg x)) (aO x)
 fst:∀ l,l≤8→ir (decide (4≤l)) (fJ l (bN x.k,bg x))
 gw:∀ l,∀ w ∈ fJ l (bN x.k,bg x),GW w
theorem ED (k:Int):1≤bN k∧bN k≤8:=by
 by_cases h:4≤k∧k≤15
 ·have:k=4∨k=5∨k=6∨k=7∨k=8∨k=9∨k=10∨k=11∨k=12∨k=13∨k=14∨k=15:=by omega
  rcases this with rfl | rfl | rfl | rfl | rfl | rfl | rfl | rfl | rfl | rfl | rfl | rfl
  all_goals decide
 ·unfold bN
  split
  ·decide
  ·split
   ·decide
   ·have e:eO k=CD:=by
     have:∀ l:List (Int × ByteArray × Int),(∀ i ∈ l,i.1≠k)→kn k l=CD:=by
      intro l
      induction l with
      | nil=>intro _; rfl
      | cons i r ih=>intro hl; rw [kn,if_neg (hl i (by simp))]; exact ih fun j hj=>hl j (by simp [hj])
     refine this dV fun i hi=>?_
     have hb:dV.all (fun i=>decide (4≤i.1) && decide (i.1≤15))=true:=by decide
     have:=List.all_eq_true.1 hb i hi;simp only [Jv,decide_eq_true_eq] at this;omega
    rw [e]; decide
theorem oE {x:SX} {F:Nat} {D:Int} (hl:pY (bN x.k) F D (bg x) (aO x)) (hf:ir (decide (4≤bN x.k)) (bg x)) (hg:∀ w ∈ bg x,GW w) (hF:F+30≤100*nX x) (hD:D+1≤2*dX x) (hD0:0≤D):mB x:=by
 have hlev:=ED x.k;refine ⟨fun l h1 h8=>?_,fun l h8=>?_,fun l=>?_⟩
 ·unfold fJ;by_cases h:l≤bN x.k
  ·rw [if_pos h];exact hl.mono h ak ak
  ·rw [if_neg h];have hp:=sE (hl.expr hlev.1 hD0);exact (GD hp (ir.app (ir.lit (by decide) _) _)).mono h8 ak ak
 ·unfold fJ;by_cases h:l≤bN x.k
  ·rw [if_pos h];by_cases h4:4≤l
   ·rw [show decide (4≤bN x.k)=true by rw [decide_eq_true_eq]; omega] at hf;exact hf.mono
   ·rw [show decide (4≤l)=false by rw [decide_eq_false_iff_not]; exact h4];by_cases h5:4≤bN x.k
    ·rw [show decide (4≤bN x.k)=true by rw [decide_eq_true_eq]; omega] at hf;exact hf.mono
    ·rw [show decide (4≤bN x.k)=false by rw [decide_eq_false_iff_not]; exact h5] at hf;exact hf
  ·rw [if_neg h]; exact ir.mono (ir.app (ir.lit (by decide) _) _)
 ·unfold fJ
  split
  ·exact hg
  ·intro w hw;rcases List.mem_append.1 hw with hw | hw
   ·rcases List.mem_append.1 hw with hw | hw
    ·rw [JA] at hw; subst hw; exact .sign (by decide)
    ·exact hg w hw
   ·rw [JA] at hw; subst hw; exact .sign (by decide)
theorem mB.expr {x:SX} (h:mB x):o8 (100*nX x+2) (2*dX x+1) (fJ 1 (bN x.k,bg x)) (aO x):=(h.EJ 1 (by decide) (by decide)).expr (Jl _) ak
theorem yS {ks:List SX} (h:ks.length=0):ks = []:=List.length_eq_zero_iff.1 h
theorem xW {ks:List SX} (h:ks.length=1):∃ y,ks = [y]:=by
 match ks,h with
 | [y],_=>exact ⟨y,rfl⟩
theorem uH {ks:List SX} (h:ks.length=2):∃ y z,ks = [y,z]:=by
 match ks,h with
 | [y,z],_=>exact ⟨y,z,rfl⟩
theorem Ii {ks:List SX} (h:ks.length=3):∃ y z u,ks = [y,z,u]:=by
 match ks,h with
 | [y,z,u],_=>exact ⟨y,z,u,rfl⟩
theorem EW (k:Int) (v:Vl) (t n:ByteArray) (y:SX):nX (.mk k v t n [y])=1+nX y∧dX (.mk k v t n [y])=1+dX y:=by
 rw [nX,rM,rM,dX,uU,uU]; constructor <;> omega
theorem Fj (k:Int) (v:Vl) (t n:ByteArray) (y z:SX):nX (.mk k v t n [y,z])=1+nX y+nX z∧dX (.mk k v t n [y,z])=1+max (dX y) (dX z):=by
 rw [nX,rM,rM,rM,dX,uU,uU,uU]; constructor <;> omega
theorem Ie (k:Int) (v:Vl) (t n:ByteArray) (y z u:SX):nX (.mk k v t n [y,z,u])=1+nX y+nX z+nX u∧dX (.mk k v t n [y,z,u])=1+max (dX y) (max (dX z) (dX u)):=by
 rw [nX,rM,rM,rM,rM,dX,uU,uU,uU,uU]; constructor <;> omega
theorem Ef (k:Int) (v:Vl) (t n:ByteArray):nX (.mk k v t n [])=1∧dX (.mk k v t n [])=1:=by
 rw [nX,rM,dX,uU]; constructor <;> omega
theorem yb {k L:Int} (hi:xO k) (hL:(eO k).2.2=L) (h5:L=1∨L=2∨L=5∨L=6∨L=7) {y z:SX} (hy:mB y) (hz:mB z) {D:Int} (hDy:2*(dX y:Int)≤D) (hDz:2*(dX z:Int)≤D) :
  eC L (100*nX y+100*nX z+2) D (fJ L (bN y.k,bg y) ++ [(eO k).2.1] ++ fJ (L+1) (bN z.k,bg z)) (nd k [aO y,aO z]):=by
 intro n o ts rest ht hf ho hn;replace ht:=ht.app;obtain ⟨t1,tb,rfl,h1,hb⟩:=ht;replace h1:=h1.app;obtain ⟨ta,t2,rfl,ha,h2⟩:=h1;replace h2:=h2.cons;obtain ⟨p,t3,rfl,h2⟩:=h2;obtain rfl:=h2.nil;have e:ta ++ [bQ (eO k).2.1 p] ++ tb ++ rest=ta ++ (bQ (eO k).2.1 p :: (tb ++ rest)):=by simp
 rw [e];obtain ⟨f1,f2,_,_⟩:=hi.Dy (l:=L+1) ak p (tb ++ rest);obtain ⟨m,hm,e1⟩:=(hy.EJ L ak ak).DQ L h5 (Jl _) n o ta _ ha f1 ak ak;obtain ⟨m,rfl⟩:∃ q,m=q+1:=⟨m - 1,by omega⟩
 rw [hL] at f2;refine ⟨m,by omega,?_⟩;rw [e1,fI,f2,if_neg hi.ne];rw [bP _ ((hz.EJ (L+1) ak ak).Gp (L+1) ak (Jl _) m o tb rest hb hf ak ak)]
theorem Dz {k:Int} (hi:xO k) (hL:(eO k).2.2=4) {y z:SX} (hy:mB y) (hz:mB z) {D:Int} (hDy:2*(dX y:Int)≤D) (hDz:2*(dX z:Int)≤D) :
  tU (100*nX y+100*nX z+2) D (fJ 5 (bN y.k,bg y) ++ [(eO k).2.1] ++ fJ 5 (bN z.k,bg z)) (nd k [aO y,aO z]):=by
 intro n o ts rest ht hf ho hn;replace ht:=ht.app;obtain ⟨t1,tb,rfl,h1,hb⟩:=ht;replace h1:=h1.app;obtain ⟨ta,t2,rfl,ha,h2⟩:=h1;replace h2:=h2.cons;obtain ⟨p,t3,rfl,h2⟩:=h2;obtain rfl:=h2.nil;have e:ta ++ [bQ (eO k).2.1 p] ++ tb ++ rest=ta ++ (bQ (eO k).2.1 p :: (tb ++ rest)):=by simp
 rw [e];obtain ⟨f1,f2,_,f4⟩:=hi.Dy (l:=5) ak p (tb ++ rest);rw [hL] at f2;obtain ⟨m,rfl⟩:∃ q,n=q+1:=⟨n - 1,by omega⟩
 have hny:1≤nX y:=by cases y; rw [nX]; omega
 have hnz:1≤nX z:=by cases z; rw [nX]; omega
 rw [b7,bP _ (((hy.EJ 5 (by decide) (by decide)).DQ 5 (by decide) (Jl _)).done m o ta _ ha f1 ak ak),f4,if_neg (by decide),f2,if_neg hi.ne,
  bP _ (((hz.EJ 5 (by decide) (by decide)).DQ 5 (by decide) (Jl _)).done m o tb rest hb (hf.mono (by decide)) ak ak)]
theorem zn {y:SX} (hy:mB y) {D:Int} (hDy:2*(dX y:Int)≤D):tU (100*nX y+2) D (fJ 5 (bN y.k,bg y) ++ [⟨#[105,115]⟩,⟨#[110,117,108,108]⟩]) (nd 16 [aO y]):=by
 intro n o ts rest ht hf ho hn;replace ht:=ht.app;obtain ⟨ta,tb,rfl,ha,hb⟩:=ht;replace hb:=hb.cons;obtain ⟨p,t2,rfl,hb⟩:=hb;replace hb:=hb.cons;obtain ⟨q,t3,rfl,hb⟩:=hb;obtain rfl:=hb.nil;obtain ⟨m,rfl⟩:∃ q,n=q+1:=⟨n - 1,by omega⟩
 rw [Jg];show b7 (m+1) o (ta ++ (bQ ⟨#[105,115]⟩ p :: bQ ⟨#[110,117,108,108]⟩ q :: rest))=_;have e1:bK ⟨#[110,111,116]⟩ (bQ ⟨#[110,117,108,108]⟩ q :: rest)=false:=by rw [aZ]; decide
 rw [b7,bP _ (((hy.EJ 5 (by decide) (by decide)).DQ 5 (by decide) (Jl _)).done m o ta _ ha (Fm _ _) ak ak),if_pos (by rw [aZ]; decide),bB,fF,e1];simp only [Jd,if_false];rw [cN (by decide)];rfl
theorem CG {y:SX} (hy:mB y) {D:Int} (hDy:2*(dX y:Int)+1≤D):kD 3 (100*nX y+3) D ([⟨#[110,111,116]⟩] ++ fJ 3 (bN y.k,bg y)) (nd 3 [aO y]):=by
 intro n o ts rest ht hf ho hn;change TW (⟨#[110,111,116]⟩ :: fJ 3 (bN y.k,bg y)) ts at ht;replace ht:=ht.cons;obtain ⟨p,ta,rfl,ha⟩:=ht;obtain ⟨m,rfl⟩:∃ q,n=q+2:=⟨n - 2,by omega⟩
 have h:=(hy.EJ 3 (by decide) (by decide)).Gp 3 (by decide) (Jl _) (m+1) (o+1) ta rest ha hf ak ak;rw [dj,if_pos rfl] at h;rw [dj,if_pos rfl];show cJ (m+1) o (bQ ⟨#[110,111,116]⟩ p :: (ta ++ rest))=_;rw [cJ,if_pos (by rw [aZ]; decide),if_neg ak,bB,bP _ h]
theorem vA {y z u:SX} (hy:mB y) (hz:mB z) (hu:mB u) {D:Int} (h1:2*(dX y:Int)+1≤D) (h2:2*(dX z:Int)+1≤D) (h3:2*(dX u:Int)+1≤D) :
  gY (100*nX y+100*nX z+100*nX u+10) D ([⟨#[99,97,115,101]⟩] ++ gm [(bN y.k,bg y),(bN z.k,bg z),(bN u.k,bg u)] [⟨#[119,104,101,110]⟩,⟨#[116,104,101,110]⟩,⟨#[101,108,115,101]⟩,⟨#[101,110,100]⟩]) (nd 17 [aO y,aO z,aO u]):=by
 intro n o ts rest ht hf ho hn;have e:[(⟨#[99,97,115,101]⟩:ByteArray)] ++ gm [(bN y.k,bg y),(bN z.k,bg z),(bN u.k,bg u)] [⟨#[119,104,101,110]⟩,⟨#[116,104,101,110]⟩,⟨#[101,108,115,101]⟩,⟨#[101,110,100]⟩]=⟨#[99,97,115,101]⟩ :: ⟨#[119,104,101,110]⟩ :: (fJ 1 (bN y.k,bg y) ++ (⟨#[116,104,101,110]⟩ :: (fJ 1 (bN z.k,bg z) ++ (⟨#[101,108,115,101]⟩ :: (fJ 1 (bN u.k,bg u) ++ [⟨#[101,110,100]⟩]))))):=by
  simp [gm,kg]
 rw [e] at ht;clear e;replace ht:=ht.cons;obtain ⟨p1,t1,rfl,ht⟩:=ht;replace ht:=ht.cons;obtain ⟨p2,t2,rfl,ht⟩:=ht;replace ht:=ht.app;obtain ⟨ta,t3,rfl,ha,ht⟩:=ht;replace ht:=ht.cons;obtain ⟨p3,t4,rfl,ht⟩:=ht;replace ht:=ht.app;obtain ⟨tb,t5,rfl,hb,ht⟩:=ht;replace ht:=ht.cons;obtain ⟨p4,t6,rfl,ht⟩:=ht;replace ht:=ht.app;obtain ⟨tc,t7,rfl,hc,ht⟩:=ht;replace ht:=ht.cons;obtain ⟨p5,t8,rfl,ht⟩:=ht;obtain rfl:=ht.nil;obtain ⟨m,rfl⟩:∃ q,n=q+6:=⟨n - 6,by omega⟩
 have e:bQ ⟨#[99,97,115,101]⟩ p1 :: bQ ⟨#[119,104,101,110]⟩ p2 :: (ta ++ bQ ⟨#[116,104,101,110]⟩ p3 :: (tb ++ bQ ⟨#[101,108,115,101]⟩ p4 :: (tc ++ [bQ ⟨#[101,110,100]⟩ p5]))) ++ rest=bQ ⟨#[99,97,115,101]⟩ p1 :: bQ ⟨#[119,104,101,110]⟩ p2 :: (ta ++ (bQ ⟨#[116,104,101,110]⟩ p3 :: (tb ++ (bQ ⟨#[101,108,115,101]⟩ p4 :: (tc ++ (bQ ⟨#[101,110,100]⟩ p5 :: rest)))))):=by simp
 rw [e,cI,if_neg (by rw [gz]; decide),if_neg (by rw [aZ]; decide),if_pos (by rw [aZ]; decide),bB,cB,cN (by decide)];show aK (dk (m+4) o _ [] _) _=_;rw [iP hy.expr (by decide) (by decide) _ _ ha p3 _ ak ak,iP hz.expr (by decide) (by decide) _ _ hb p4 _ ak ak,iP hu.expr (by decide) (by decide) _ _ hc p5 _ ak ak,rp ak];rfl
theorem vr {y z:SX} (hy:mB y) (hz:mB z) {D:Int} (h1:2*(dX y:Int)+1≤D) (h2:2*(dX z:Int)+1≤D) :
  gY (100*nX y+100*nX z+10) D ([⟨#[99,111,97,108,101,115,99,101]⟩] ++ gm [(bN y.k,bg y),(bN z.k,bg z)] [⟨#[40]⟩,⟨#[44]⟩,⟨#[41]⟩]) (nd 18 [aO y,aO z]):=by
 intro n o ts rest ht hf ho hn;have e:[(⟨#[99,111,97,108,101,115,99,101]⟩:ByteArray)] ++ gm [(bN y.k,bg y),(bN z.k,bg z)] [⟨#[40]⟩,⟨#[44]⟩,⟨#[41]⟩]=⟨#[99,111,97,108,101,115,99,101]⟩ :: ⟨#[40]⟩ :: (fJ 1 (bN y.k,bg y) ++ (⟨#[44]⟩ :: (fJ 1 (bN z.k,bg z) ++ [⟨#[41]⟩]))):=by
  simp [gm,kg]
 rw [e] at ht;clear e;replace ht:=ht.cons;obtain ⟨p1,t1,rfl,ht⟩:=ht;replace ht:=ht.cons;obtain ⟨p2,t2,rfl,ht⟩:=ht;replace ht:=ht.app;obtain ⟨ta,t3,rfl,ha,ht⟩:=ht;replace ht:=ht.cons;obtain ⟨p3,t4,rfl,ht⟩:=ht;replace ht:=ht.app;obtain ⟨tb,t5,rfl,hb,ht⟩:=ht;replace ht:=ht.cons;obtain ⟨p4,t6,rfl,ht⟩:=ht;obtain rfl:=ht.nil;obtain ⟨m,rfl⟩:∃ q,n=q+6:=⟨n - 6,by omega⟩
 have e:bQ ⟨#[99,111,97,108,101,115,99,101]⟩ p1 :: bQ ⟨#[40]⟩ p2 :: (ta ++ bQ ⟨#[44]⟩ p3 :: (tb ++ [bQ ⟨#[41]⟩ p4])) ++ rest=bQ ⟨#[99,111,97,108,101,115,99,101]⟩ p1 :: bQ ⟨#[40]⟩ p2 :: (ta ++ (bQ ⟨#[44]⟩ p3 :: (tb ++ (bQ ⟨#[41]⟩ p4 :: rest)))):=by simp
 rw [e,cI,if_neg (by rw [gz]; decide),if_neg (by rw [aZ]; decide),if_neg (by rw [aZ]; decide),if_pos (by rw [aZ]; decide),bB,cB,cN (by decide)];show aK (dk (m+4) o _ [] _) _=_;rw [iP hy.expr (by decide) (by decide) _ _ ha p3 _ ak ak,iP hz.expr (by decide) (by decide) _ _ hb p4 _ ak ak,rp ak];rfl
theorem vl:gY 10 0 [⟨#[99,111,117,110,116]⟩,⟨#[40]⟩,⟨#[42]⟩,⟨#[41]⟩] (nd 19 []):=by
 intro n o ts rest ht hf ho hn;replace ht:=ht.cons;obtain ⟨p1,t1,rfl,ht⟩:=ht;replace ht:=ht.cons;obtain ⟨p2,t2,rfl,ht⟩:=ht;replace ht:=ht.cons;obtain ⟨p3,t3,rfl,ht⟩:=ht;replace ht:=ht.cons;obtain ⟨p4,t4,rfl,ht⟩:=ht;obtain rfl:=ht.nil;obtain ⟨m,rfl⟩:∃ q,n=q+6:=⟨n - 6,by omega⟩
 show cI (m+6) o (bQ ⟨#[99,111,117,110,116]⟩ p1 :: bQ ⟨#[40]⟩ p2 :: bQ ⟨#[42]⟩ p3 :: bQ ⟨#[41]⟩ p4 :: rest)=_;have e:bK ⟨#[42]⟩ (bQ ⟨#[42]⟩ p3 :: bQ ⟨#[41]⟩ p4 :: rest)=true:=by rw [aZ]; decide
 rw [cI,if_neg (by rw [gz]; decide),if_neg (by rw [aZ]; decide),if_neg (by rw [aZ]; decide),if_neg (by rw [aZ]; decide),if_pos (by rw [aZ]; decide),bB,ia,cN (by decide)];show (if (20:Int)=20∧bK ⟨#[42]⟩ (bQ ⟨#[42]⟩ p3 :: bQ ⟨#[41]⟩ p4 :: rest)=true then _ else _)=_;rw [if_pos ⟨rfl,e⟩,bB,cN (by decide)];rfl
theorem EY {y:SX} (hy:mB y) {D:Int} (h1:2*(dX y:Int)+1≤D) (kind:Int) {n:Nat} {o:Int} {ta:List Tk} (ha:TW (fJ 1 (bN y.k,bg y)) ta) (p q:Int) (rest:List Tk) (ho:o+D≤100) (hn:100*nX y+3≤n):ia n kind o (bQ ⟨#[40]⟩ p :: (ta ++ (bQ ⟨#[41]⟩ q :: rest))) = .ok (nd kind [aO y],rest):=by
 obtain ⟨m,rfl⟩:∃ q,n=q+1:=⟨n - 1,by omega⟩
 have hs:bK ⟨#[42]⟩ (ta ++ (bQ ⟨#[41]⟩ q :: rest))=false:=(hy.fst 1 (by decide)).tw ha (.inl rfl) _;rw [ia,cN (by decide)];show (if kind=20∧bK ⟨#[42]⟩ (ta ++ (bQ ⟨#[41]⟩ q :: rest))=true then _ else _)=_;rw [if_neg (by rw [hs]; simp),bP _ (hy.expr m o ta _ ha (l7 (by decide) _ _ _) ak ak),cN (by decide)];rfl
theorem ya {k:Int} (hk:k=20∨k=21∨k=22∨k=23) {y:SX} (hy:mB y) {D:Int} (h1:2*(dX y:Int)+1≤D) :
  gY (100*nX y+10) D ([cW k jA] ++ gm [(bN y.k,bg y)] [⟨#[40]⟩,⟨#[41]⟩]) (nd k [aO y]):=by
 intro n o ts rest ht hf ho hn;have e:[cW k jA] ++ gm [(bN y.k,bg y)] [⟨#[40]⟩,⟨#[41]⟩]=cW k jA :: ⟨#[40]⟩ :: (fJ 1 (bN y.k,bg y) ++ [⟨#[41]⟩]):=by
  simp [gm,kg]
 rw [e] at ht;clear e;replace ht:=ht.cons;obtain ⟨p1,t1,rfl,ht⟩:=ht;replace ht:=ht.cons;obtain ⟨p2,t2,rfl,ht⟩:=ht;replace ht:=ht.app;obtain ⟨ta,t3,rfl,ha,ht⟩:=ht;replace ht:=ht.cons;obtain ⟨p3,t4,rfl,ht⟩:=ht;obtain rfl:=ht.nil;obtain ⟨m,rfl⟩:∃ q,n=q+1:=⟨n - 1,by omega⟩
 have e:bQ (cW k jA) p1 :: bQ ⟨#[40]⟩ p2 :: (ta ++ [bQ ⟨#[41]⟩ p3]) ++ rest=bQ (cW k jA) p1 :: (bQ ⟨#[40]⟩ p2 :: (ta ++ (bQ ⟨#[41]⟩ p3 :: rest))):=by simp
 have ag:=fun kind=>EY hy h1 kind (n:=m) (o:=o) ha p2 p3 rest ho ak
 rw [e];rcases hk with rfl | rfl | rfl | rfl
 ·show cI (m+1) o (bQ ⟨#[99,111,117,110,116]⟩ p1 :: _)=_;rw [cI,if_neg (by rw [gz]; decide),if_neg (by rw [aZ]; decide),if_neg (by rw [aZ]; decide),if_neg (by rw [aZ]; decide),if_pos (by rw [aZ]; decide),bB,ag]
 ·show cI (m+1) o (bQ ⟨#[115,117,109]⟩ p1 :: _)=_;rw [cI,if_neg (by rw [gz]; decide),if_neg (by rw [aZ]; decide),if_neg (by rw [aZ]; decide),if_neg (by rw [aZ]; decide),if_neg (by rw [aZ]; decide),if_pos (by rw [aZ]; decide),bB,ag]
 ·show cI (m+1) o (bQ ⟨#[109,105,110]⟩ p1 :: _)=_;rw [cI,if_neg (by rw [gz]; decide),if_neg (by rw [aZ]; decide),if_neg (by rw [aZ]; decide),if_neg (by rw [aZ]; decide),if_neg (by rw [aZ]; decide),if_neg (by rw [aZ]; decide),if_pos (by rw [aZ]; decide),bB,ag]
 ·show cI (m+1) o (bQ ⟨#[109,97,120]⟩ p1 :: _)=_;rw [cI,if_neg (by rw [gz]; decide),if_neg (by rw [aZ]; decide),if_neg (by rw [aZ]; decide),if_neg (by rw [aZ]; decide),if_neg (by rw [aZ]; decide),if_neg (by rw [aZ]; decide),if_neg (by rw [aZ]; decide),if_pos (by rw [aZ]; decide),bB,ag]
theorem jf {k:Int} (hk:3≤k) (v:Vl) (t n:ByteArray) (ks:List SX):aO (.mk k v t n ks)=nd k (ks.map aO):=by
 rw [aO,if_neg ak,if_neg ak,if_neg ak,jF];rfl
theorem fm (k:Int) (v:Vl) (t n:ByteArray) (ks:List SX):bg (.mk k v t n ks)=ic k v t n (ks.map fun y=>(bN y.k,bg y)):=by
 rw [bg]
 congr 1
 induction ks with
 | nil=>rw [eM]; rfl
 | cons y r ih=>rw [eM,ih]; rfl
theorem cj {a b:List ByteArray} (ha:∀ w ∈ a,GW w) (hb:∀ w ∈ b,GW w):∀ w ∈ a ++ b,GW w:=by
 intro w hw;rcases List.mem_append.1 hw with h | h
 ·exact ha w h
 ·exact hb w h
theorem bV:∀ w ∈ ([]:List ByteArray),GW w:=by intro w h; cases h
theorem aU {a:ByteArray} {b:List ByteArray} (ha:GW a) (hb:∀ w ∈ b,GW w):∀ w ∈ a :: b,GW w:=by
 intro w hw;rcases List.mem_cons.1 hw with rfl | h
 ·exact ha
 ·exact hb w h
def GN (w:ByteArray):Bool:=iM.contains w.data.toList || iO (((w.data.toList.headD 0).toNat:Nat):Int) && w.data.toList.all (fun c=>ig ((c.toNat:Nat):Int))
theorem bz {w:ByteArray} (h:GN w=true):GW w:=by
 unfold GN at h;simp only [Bool.or_eq_true,Jv,Js] at h;rcases h with h | h
 ·exact .sign (by simpa using h)
 ·exact .word h.1 fun c hc=>h.2 c hc
theorem xB {k:Int} (hi:xO k) {y z:SX} (hy:mB y) (hz:mB z):∀ w ∈ mR k (bN y.k,bg y) (bN z.k,bg z),GW w :=
 cj (cj (hy.gw _) (aU (hi.Dy (l:=(eO k).2.2+1) ak 0 []).2.2.1 bV)) (hz.gw _)
theorem wz {ps:List (Int × List ByteArray)} {ss:List ByteArray} (hp:∀ i,i<ps.length→∀ w ∈ fJ 1 (ps.getD i pd),GW w) (hs:∀ i,i≤ps.length→GW (ss.getD i eB)):∀ w ∈ gm ps ss,GW w:=by
 have:∀ n,n≤ps.length→∀ w ∈ kg ps ss n,GW w:=by
  intro n
  induction n with
  | zero=>intro _; exact bV
  | succ n ih=>intro h; exact cj (cj (ih ak) (aU (hs n ak) bV)) (hp n ak)
 exact cj (this _ (I6 _)) (aU (hs _ (I6 _)) bV)
theorem yo {L:Int} (h5:L=1∨L=2∨L=5∨L=6∨L=7) {F:Nat} {D:Int} {w:List ByteArray} {X:SX} (h:eC L F D w X) (hw:5≤L→ir true w):pY L (F+16) D w X:=by
 rcases h5 with rfl | rfl | rfl | rfl | rfl
 ·exact (GJ h).mono (by decide) ak (Jl _)
 ·exact (FV h).mono (by decide) ak (Jl _)
 ·exact (GL h (hw (by decide))).mono (by decide) ak (Jl _)
 ·exact (Gz h (hw (by decide))).mono (by decide) ak (Jl _)
 ·exact (FI h (hw (by decide))).mono (by decide) ak (Jl _)
theorem iH {k L:Int} (hk:4≤k∧k≤15) (hL:(eO k).2.2=L) (hlev:bN k=L) (h5:L=1∨L=2∨L=5∨L=6∨L=7) (hb:∀ (v:Vl) (t n:ByteArray) (p q:Int × List ByteArray),ic k v t n [p,q]=mR k p q) (v:Vl) (t n:ByteArray) {y z:SX} (hy:mB y) (hz:mB z):mB (.mk k v t n [y,z]):=by
 have hi:=xD hk;have eb:bg (.mk k v t n [y,z])=fJ L (bN y.k,bg y) ++ [(eO k).2.1] ++ fJ (L+1) (bN z.k,bg z):=by
  rw [fm];show ic k v t n [_,_]=_;rw [hb,mR,hL];unfold uZ;rw [if_neg ak]
 have ex:aO (.mk k v t n [y,z])=nd k [aO y,aO z]:=jf ak _ _ _ _;obtain ⟨n1,n2⟩:=Fj k v t n y z;have hf:ir (decide (4≤L)) (bg (.mk k v t n [y,z])):=by
  rw [eb,Jg];exact (hy.fst L ak).app _
 have hc:=yb hi hL h5 hy hz (D:=2*(dX (.mk k v t n [y,z]):Int) - 1) (by rw [n2]; push_cast; omega) (by rw [n2]; push_cast; omega);rw [← eb,← ex] at hc;refine oE (F:=100*nX y+100*nX z+2+16) (D:=2*(dX (.mk k v t n [y,z]):Int) - 1) ?_ ?_ ?_ (by rw [n1]; omega) ak (by rw [n2]; push_cast; omega)
 ·show pY (bN k) _ _ _ _;rw [hlev];exact yo h5 hc fun h=>by rw [show decide (4≤L)=true by rw [decide_eq_true_eq]; omega] at hf; exact hf
 ·show ir (decide (4≤bN k)) _;rw [hlev]; exact hf
 ·rw [fm];show ∀ w ∈ ic k v t n [_,_],_
  rw [hb];exact xB hi hy hz
theorem Cz {k:Int} (hk:4≤k∧k≤15) (hL:(eO k).2.2=4) (hlev:bN k=4) (hb:∀ (v:Vl) (t n:ByteArray) (p q:Int × List ByteArray),ic k v t n [p,q]=mR k p q) (v:Vl) (t n:ByteArray) {y z:SX} (hy:mB y) (hz:mB z):mB (.mk k v t n [y,z]):=by
 have hi:=xD hk;have eb:bg (.mk k v t n [y,z])=fJ 5 (bN y.k,bg y) ++ [(eO k).2.1] ++ fJ 5 (bN z.k,bg z):=by
  rw [fm];show ic k v t n [_,_]=_;rw [hb,mR,hL];rfl
 have ex:aO (.mk k v t n [y,z])=nd k [aO y,aO z]:=jf ak _ _ _ _;obtain ⟨n1,n2⟩:=Fj k v t n y z;have hf:ir true (bg (.mk k v t n [y,z])):=by
  rw [eb,Jg];exact (hy.fst 5 ak).app _
 have hc:=Dz hi hL hy hz (D:=2*(dX (.mk k v t n [y,z]):Int) - 1) (by rw [n2]; push_cast; omega) (by rw [n2]; push_cast; omega);rw [← eb,← ex] at hc;refine oE (F:=100*nX y+100*nX z+2+8) (D:=2*(dX (.mk k v t n [y,z]):Int) - 1) ?_ ?_ ?_ (by rw [n1]; omega) ak (by rw [n2]; push_cast; omega)
 ·show pY (bN k) _ _ _ _;rw [hlev];exact Fe hc hf
 ·show ir (decide (4≤bN k)) _;rw [hlev]; exact hf
 ·rw [fm];show ∀ w ∈ ic k v t n [_,_],_
  rw [hb];exact xB hi hy hz
theorem iL {x:SX} {F:Nat} {D:Int} (hlev:bN x.k=8) (hp:gY F D (bg x) (aO x)) (hf:ir true (bg x)) (hg:∀ w ∈ bg x,GW w) (hF:F+60≤100*nX x) (hD:D+1≤2*dX x) (hD0:0≤D):mB x:=by
 refine oE (F:=F+18) (D:=D) ?_ ?_ hg ak hD hD0
 ·rw [hlev]; exact GD hp hf
 ·rw [hlev]; exact hf
theorem nG {k:Int} (hk:k=20∨k=21∨k=22∨k=23) (hlev:bN k=8) (hw:GN (cW k jA)=true∧Ev true (cW k jA)=true) (hb:∀ (v:Vl) (t n:ByteArray) (p:Int × List ByteArray),ic k v t n [p] = [cW k jA] ++ gm [p] [⟨#[40]⟩,⟨#[41]⟩]) (v:Vl) (t n:ByteArray) {y:SX} (hy:mB y):mB (.mk k v t n [y]):=by
 have eb:bg (.mk k v t n [y]) = [cW k jA] ++ gm [(bN y.k,bg y)] [⟨#[40]⟩,⟨#[41]⟩]:=by rw [fm]; exact hb _ _ _ _
 have ex:aO (.mk k v t n [y])=nd k [aO y]:=jf ak _ _ _ _;obtain ⟨n1,n2⟩:=EW k v t n y;have hc:=ya hk hy (D:=2*(dX (.mk k v t n [y]):Int) - 1) (by rw [n2]; push_cast; omega);rw [← eb,← ex] at hc;refine iL hlev hc ?_ ?_ (by rw [n1]; omega) ak (by rw [n2]; push_cast; omega)
 ·rw [eb]; exact ir.lit hw.2 _
 ·rw [eb];refine aU (bz hw.1) (wz (fun i hi=>?_) (fun i hi=>?_))
  ·match i,hi with
   | 0,_=>exact hy.gw 1
  ·match i,hi with
   | 0,_=>exact bz (by decide)
   | 1,_=>exact bz (by decide)
theorem H7 {x:SX} (h:pM x):mB x:=by
 induction h with
 | @mk k v t n ks h1 h2 h3 h4 _ ih =>
  have hk:k=1∨k=2∨k=3∨k=4∨k=5∨k=6∨k=7∨k=8∨k=9∨k=10∨k=11∨k=12∨k=13∨k=14∨k=15∨k=16∨k=17∨k=18∨k=19∨k=20∨k=21∨k=22∨k=23:=by omega
  rcases hk with rfl | rfl | rfl | rfl | rfl | rfl | rfl | rfl | rfl | rfl | rfl | rfl | rfl | rfl | rfl | rfl | rfl | rfl | rfl | rfl | rfl | rfl | rfl
  case inl =>
   obtain rfl:=yS h3;have hv:gb v=0:=h4;have eb:bg (.mk 1 v t n [])=dK v:=by rw [fm]; rfl
   obtain ⟨n1,n2⟩:=Ef 1 v t n;refine iL (F:=1) (D:=0) rfl ?_ ?_ ?_ (by rw [n1]; decide) (by rw [n2]; decide) (Jl _)
   ·rw [eb,aO,if_pos rfl,if_neg (by decide),if_neg (by decide),kh];exact zb hv
   ·rw [eb]; exact DA hv
   ·rw [eb]; exact zv hv
  case inr.inl =>
   obtain rfl:=yS h3;have hq:dY (ef n) (dz t)=0:=h4;obtain ⟨q1,q2⟩:=eY hq;have eb:bg (.mk 2 v t n [])=mP t n:=by rw [fm]; rfl
   obtain ⟨n1,n2⟩:=Ef 2 v t n;refine iL (F:=1) (D:=0) rfl ?_ ?_ ?_ (by rw [n1]; decide) (by rw [n2]; decide) (Jl _)
   ·rw [eb,aO,if_neg (by decide),if_pos rfl,if_pos rfl,kh];exact yM q1 q2
   ·rw [eb];unfold mP;rcases kB q2 with rfl | ⟨e,htm⟩
    ·rw [if_pos (show eB.size=0 from rfl)]; exact ir.name (gJ q1) _
    ·rw [if_neg e]; exact ir.name htm _
   ·rw [eb];unfold mP;rcases kB q2 with rfl | ⟨e,htm⟩
    ·rw [if_pos (show eB.size=0 from rfl)]; exact aU (gE (gJ q1)) bV
    ·rw [if_neg e]; exact aU (gE htm) (aU (bz (by decide)) (aU (gE (gJ q1)) bV))
  case inr.inr.inl =>
   obtain ⟨y,rfl⟩:=xW h3;have hy:=ih y (by simp);have eb:bg (.mk 3 v t n [y]) = [⟨#[110,111,116]⟩] ++ fJ 3 (bN y.k,bg y):=by rw [fm]; rfl
   have ex:aO (.mk 3 v t n [y])=nd 3 [aO y]:=jf (by decide) _ _ _ _;obtain ⟨n1,n2⟩:=EW 3 v t n y;have hc:=CG hy (D:=2*(dX (.mk 3 v t n [y]):Int) - 1) (by rw [n2]; push_cast; omega);rw [← eb,← ex] at hc;refine oE (F:=100*nX y+3+6) (D:=2*(dX (.mk 3 v t n [y]):Int) - 1) ?_ ?_ ?_ (by rw [n1]; omega) ak (by rw [n2]; push_cast; omega)
   ·exact Gn hc
   ·show ir (decide ((4:Int)≤3)) _;rw [eb]; exact ir.lit (by decide) _
   ·rw [eb]; exact aU (bz (by decide)) (hy.gw _)
  case inr.inr.inr.inl =>
   obtain ⟨y,z,rfl⟩:=uH h3;exact iH (L:=2) (by decide) rfl rfl (by decide) (fun _ _ _ _ _=>rfl) v t n (ih y (by simp)) (ih z (by simp))
  case inr.inr.inr.inr.inl =>
   obtain ⟨y,z,rfl⟩:=uH h3;exact iH (L:=1) (by decide) rfl rfl (by decide) (fun _ _ _ _ _=>rfl) v t n (ih y (by simp)) (ih z (by simp))
  iterate 6
   rotate_left 0
   next =>
    obtain ⟨y,z,rfl⟩:=uH h3;exact Cz (by decide) rfl rfl (fun _ _ _ _ _=>rfl) v t n (ih y (by simp)) (ih z (by simp))
  next =>
   obtain ⟨y,z,rfl⟩:=uH h3;exact iH (L:=5) (by decide) rfl rfl (by decide) (fun _ _ _ _ _=>rfl) v t n (ih y (by simp)) (ih z (by simp))
  next =>
   obtain ⟨y,z,rfl⟩:=uH h3;exact iH (L:=5) (by decide) rfl rfl (by decide) (fun _ _ _ _ _=>rfl) v t n (ih y (by simp)) (ih z (by simp))
  next =>
   obtain ⟨y,z,rfl⟩:=uH h3;exact iH (L:=6) (by decide) rfl rfl (by decide) (fun _ _ _ _ _=>rfl) v t n (ih y (by simp)) (ih z (by simp))
  next =>
   obtain ⟨y,z,rfl⟩:=uH h3;exact iH (L:=7) (by decide) rfl rfl (by decide) (fun _ _ _ _ _=>rfl) v t n (ih y (by simp)) (ih z (by simp))
  next =>
   obtain ⟨y,rfl⟩:=xW h3;have hy:=ih y (by simp);have eb:bg (.mk 16 v t n [y])=fJ 5 (bN y.k,bg y) ++ [⟨#[105,115]⟩,⟨#[110,117,108,108]⟩]:=by rw [fm]; rfl
   have ex:aO (.mk 16 v t n [y])=nd 16 [aO y]:=jf (by decide) _ _ _ _;obtain ⟨n1,n2⟩:=EW 16 v t n y;have hc:=zn hy (D:=2*(dX (.mk 16 v t n [y]):Int) - 1) (by rw [n2]; push_cast; omega);rw [← eb,← ex] at hc;have hf:ir true (bg (.mk 16 v t n [y])):=by rw [eb]; exact (hy.fst 5 ak).app _
   refine oE (F:=100*nX y+2+8) (D:=2*(dX (.mk 16 v t n [y]):Int) - 1) ?_ ?_ ?_ (by rw [n1]; omega) ak (by rw [n2]; push_cast; omega)
   ·exact Fe hc hf
   ·exact hf
   ·rw [eb]; exact cj (hy.gw _) (aU (bz (by decide)) (aU (bz (by decide)) bV))
  next =>
   obtain ⟨y,z,u,rfl⟩:=Ii h3;have hy:=ih y (by simp);have hz:=ih z (by simp);have hu:=ih u (by simp);have eb:bg (.mk 17 v t n [y,z,u]) = [⟨#[99,97,115,101]⟩] ++ gm [(bN y.k,bg y),(bN z.k,bg z),(bN u.k,bg u)] [⟨#[119,104,101,110]⟩,⟨#[116,104,101,110]⟩,⟨#[101,108,115,101]⟩,⟨#[101,110,100]⟩]:=by rw [fm]; rfl
   have ex:aO (.mk 17 v t n [y,z,u])=nd 17 [aO y,aO z,aO u]:=jf (by decide) _ _ _ _;obtain ⟨n1,n2⟩:=Ie 17 v t n y z u;have hc:=vA hy hz hu (D:=2*(dX (.mk 17 v t n [y,z,u]):Int) - 1) (by rw [n2]; push_cast; omega) (by rw [n2]; push_cast; omega) (by rw [n2]; push_cast; omega);rw [← eb,← ex] at hc;refine iL rfl hc ?_ ?_ (by rw [n1]; omega) ak (by rw [n2]; push_cast; omega)
   ·rw [eb]; exact ir.lit (by decide) _
   ·rw [eb];refine aU (bz (by decide)) (wz (fun i hi=>?_) (fun i hi=>?_))
    ·match i,hi with
     | 0,_=>exact hy.gw 1
     | 1,_=>exact hz.gw 1
     | 2,_=>exact hu.gw 1
    ·match i,hi with
     | 0,_=>exact bz (by decide)
     | 1,_=>exact bz (by decide)
     | 2,_=>exact bz (by decide)
     | 3,_=>exact bz (by decide)
  next =>
   obtain ⟨y,z,rfl⟩:=uH h3;have hy:=ih y (by simp);have hz:=ih z (by simp);have eb:bg (.mk 18 v t n [y,z]) = [⟨#[99,111,97,108,101,115,99,101]⟩] ++ gm [(bN y.k,bg y),(bN z.k,bg z)] [⟨#[40]⟩,⟨#[44]⟩,⟨#[41]⟩]:=by rw [fm]; rfl
   have ex:aO (.mk 18 v t n [y,z])=nd 18 [aO y,aO z]:=jf (by decide) _ _ _ _;obtain ⟨n1,n2⟩:=Fj 18 v t n y z;have hc:=vr hy hz (D:=2*(dX (.mk 18 v t n [y,z]):Int) - 1) (by rw [n2]; push_cast; omega) (by rw [n2]; push_cast; omega);rw [← eb,← ex] at hc;refine iL rfl hc ?_ ?_ (by rw [n1]; omega) ak (by rw [n2]; push_cast; omega)
   ·rw [eb]; exact ir.lit (by decide) _
   ·rw [eb];refine aU (bz (by decide)) (wz (fun i hi=>?_) (fun i hi=>?_))
    ·match i,hi with
     | 0,_=>exact hy.gw 1
     | 1,_=>exact hz.gw 1
    ·match i,hi with
     | 0,_=>exact bz (by decide)
     | 1,_=>exact bz (by decide)
     | 2,_=>exact bz (by decide)
  next =>
   obtain rfl:=yS h3;have eb:bg (.mk 19 v t n []) = [⟨#[99,111,117,110,116]⟩,⟨#[40]⟩,⟨#[42]⟩,⟨#[41]⟩]:=by rw [fm]; rfl
   have ex:aO (.mk 19 v t n [])=nd 19 []:=jf (by decide) _ _ _ _;obtain ⟨n1,n2⟩:=Ef 19 v t n;refine iL (F:=10) (D:=0) rfl (by rw [eb,ex]; exact vl) ?_ ?_ (by rw [n1]; decide) (by rw [n2]; decide) (Jl _)
   ·rw [eb]; exact ir.lit (by decide) _
   ·rw [eb]; exact aU (bz (by decide)) (aU (bz (by decide)) (aU (bz (by decide)) (aU (bz (by decide)) bV)))
  next =>
   obtain ⟨y,rfl⟩:=xW h3;exact nG (.inl rfl) rfl (by decide) (fun _ _ _ _=>rfl) v t n (ih y (by simp))
  next =>
   obtain ⟨y,rfl⟩:=xW h3;exact nG (.inr (.inl rfl)) rfl (by decide) (fun _ _ _ _=>rfl) v t n (ih y (by simp))
  next =>
   obtain ⟨y,rfl⟩:=xW h3;exact nG (.inr (.inr (.inl rfl))) rfl (by decide) (fun _ _ _ _=>rfl) v t n (ih y (by simp))
  next =>
   obtain ⟨y,rfl⟩:=xW h3;exact nG (.inr (.inr (.inr rfl))) rfl (by decide) (fun _ _ _ _=>rfl) v t n (ih y (by simp))
theorem sJ {x:SX} (h:eR x=0) {ts:List Tk} (ht:TW (bY x) ts) {rest:List Tk} (hf:xr 1 rest):eP (ts ++ rest) = .ok (aO x,rest):=by
 obtain ⟨h1,h2⟩:=kQ h;have h3:=Bt 21 x 1 0 h;exact (H7 h1).expr DZ 0 ts rest ht hf ak (by show _≤(100000:Nat); omega)
theorem mr {x:SX} (h:eR x=0):∀ w ∈ bY x,GW w:=(H7 (kQ h).1).gw 1
theorem BM {x:SX} (h:eR x=0):ir false (bY x):=(H7 (kQ h).1).fst 1 (by decide)
def Fs (L:List ByteArray) (rest:List Tk):Prop:=∃ w p r,rest=bQ w p :: r∧w ∈ L
theorem Fs.lit (w:ByteArray) (p:Int) (r:List Tk):Fs [w] (bQ w p :: r):=⟨w,p,r,rfl,by simp⟩
theorem Fs.bK {L:List ByteArray} {rest:List Tk} (h:Fs L rest) {s:ByteArray} (hs:L.all (fun w=>!pL s w)=true):bK s rest=false:=by
 obtain ⟨w,p,r,rfl,hw⟩:=h;rw [aZ];have:=List.all_eq_true.1 hs w hw
 simpa using this
theorem Fs.Dy {L:List ByteArray} {rest:List Tk} (h:Fs L rest) (hs:L.all pF=true):xr 1 rest:=by
 obtain ⟨w,p,r,rfl,hw⟩:=h;exact l7 (List.all_eq_true.1 hs w hw) _ _ _
theorem Fs.mono {L M:List ByteArray} {rest:List Tk} (h:Fs L rest) (hs:∀ w ∈ L,w ∈ M):Fs M rest:=by
 obtain ⟨w,p,r,e,hw⟩:=h;exact ⟨w,p,r,e,hs w hw⟩
theorem Fs.opt {L:List ByteArray} {rest:List Tk} (h:Fs L rest) {ws:List ByteArray} {ts:List Tk} (ht:TW ws ts) {wd:ByteArray} (hw:ws = []∨∃ r,ws=wd :: r):Fs (wd :: L) (ts ++ rest):=by
 rcases hw with rfl | ⟨r,rfl⟩
 ·rw [ht.nil]; exact h.mono fun w hw=>JM _ hw
 ·obtain ⟨p,t1,rfl,_⟩:=ht.cons;exact ⟨wd,p,t1 ++ rest,rfl,by simp⟩
def uN {α:Type} (ew:α→List ByteArray):List α→List ByteArray
 | []=>[]
 | x :: r=>ew x ++ r.flatMap fun y=>⟨#[44]⟩ :: ew y
theorem xU {α:Type} (ew:α→List ByteArray) (y:α):∀ l:List α,uN ew (l ++ [y])=uN ew l ++ (if l = [] then [] else [⟨#[44]⟩]) ++ ew y
 | []=>by simp [uN]
 | x :: r=>by simp [uN]
theorem B3 {α:Type} (ew:α→List ByteArray) (l:List α):∀ i,i≤l.length→cQ ew l i=uN ew (l.take i)
 | 0,_=>rfl
 | i+1,h=>by
  have hi:i<l.length:=by omega
  rw [cQ,B3 ew l i ak,Je hi,JC,Je hi]
  show uN ew (l.take i) ++ _ ++ ew l[i]=uN ew (l.take i ++ [l[i]])
  rw [xU]
  have:(l.take i = [])↔(i=0):=by
   rw [List.take_eq_nil_iff];constructor
   ·rintro (h | h)
    ·exact h
    ·rw [h] at hi; simp at hi
   ·exact .inl
  by_cases e:i=0
  ·rw [if_pos e,if_pos (this.2 e)]
  ·rw [if_neg e,if_neg (fun c=>e (this.1 c))]
theorem nV {α:Type} (ew:α→List ByteArray) (l:List α):dS ew l=uN ew l:=by
 unfold dS;rw [B3 ew l _ (I6 _),JR]
theorem uA {α β:Type} {one:List Tk→PR β} {ew:α→List ByteArray} {X:α→β} {most:Int} {L:List ByteArray} (hL:L.all (fun w=>!pL ⟨#[44]⟩ w)=true) :
  ∀ (l:List α) (n:Nat) (acc:List β) (ts rest:List Tk),(∀ x ∈ l,∀ (ts rest:List Tk),TW (ew x) ts→Fs (⟨#[44]⟩ :: L) rest→one (ts ++ rest) = .ok (X x,rest))→l.length<n→((acc.length+l.length:Nat):Int)≤most→TW (l.flatMap fun y=>⟨#[44]⟩ :: ew y) ts→Fs L rest→bL one most n acc (ts ++ rest) = .ok (acc ++ l.map X,rest)
 | [],n,acc,ts,rest,_,hn,_,ht,hr=>by
  obtain ⟨m,rfl⟩:∃ m,n=m+1:=⟨n - 1,by simp at hn; omega⟩
  rw [ht.nil,Jq,bL,if_neg (by rw [hr.bK hL]; decide)]
  simp
 | x :: l,n,acc,ts,rest,h1,hn,hm,ht,hr=>by
  simp only [Jo] at hn hm
  obtain ⟨m,rfl⟩:∃ m,n=m+1:=⟨n - 1,by omega⟩
  change TW (⟨#[44]⟩ :: (ew x ++ l.flatMap fun y=>⟨#[44]⟩ :: ew y)) ts at ht
  replace ht:=ht.cons
  obtain ⟨p,t1,rfl,ht⟩:=ht
  replace ht:=ht.app
  obtain ⟨ta,tb,rfl,ha,hb⟩:=ht
  have hnext:Fs (⟨#[44]⟩ :: L) (tb ++ rest):=hr.opt hb (by cases l with
   | nil=>exact .inl rfl
   | cons y r=>exact .inr ⟨_,rfl⟩)
  show bL one most (m+1) acc (bQ ⟨#[44]⟩ p :: (ta ++ tb ++ rest))=_
  rw [bL,if_pos (by rw [aZ]; decide),if_neg ak,bB,Jg,bP _ (h1 x (by simp) ta _ ha hnext)]
  rw [uA hL l m (acc ++ [X x]) tb rest (fun y hy=>h1 y (by simp [hy])) ak (by simp only [Jf,Jo,JQ]; omega) hb hr]
  simp
theorem iJ {α β:Type} {one:List Tk→PR β} {ew:α→List ByteArray} {X:α→β} {most:Int} {L:List ByteArray} (hL:L.all (fun w=>!pL ⟨#[44]⟩ w)=true) {l:List α} {n:Nat} {ts rest:List Tk} (h1:∀ x ∈ l,∀ (ts rest:List Tk),TW (ew x) ts→Fs (⟨#[44]⟩ :: L) rest→one (ts ++ rest) = .ok (X x,rest)) (h0:1≤l.length) (hn:l.length≤n) (hm:(l.length:Int)≤most) (ht:TW (dS ew l) ts) (hr:Fs L rest):cu one most n (ts ++ rest) = .ok (l.map X,rest):=by
 rw [nV] at ht;cases l with
 | nil=>simp at h0
 | cons x l =>
  simp only [Jo] at hn hm;change TW (ew x ++ l.flatMap fun y=>⟨#[44]⟩ :: ew y) ts at ht;replace ht:=ht.app;obtain ⟨ta,tb,rfl,ha,hb⟩:=ht;have hnext:Fs (⟨#[44]⟩ :: L) (tb ++ rest):=hr.opt hb (by cases l with
   | nil=>exact .inl rfl
   | cons y r=>exact .inr ⟨_,rfl⟩)
  rw [cu,Jg,bP _ (h1 x (by simp) ta _ ha hnext)];rw [uA hL l n [X x] tb rest (fun y hy=>h1 y (by simp [hy])) ak (by simp only [Jo,JQ]; omega) hb hr];rfl
theorem mL {α:Type} {ew:α→List ByteArray} {l:List α} (h:∀ x ∈ l,∀ w ∈ ew x,GW w):∀ w ∈ dS ew l,GW w:=by
 rw [nV];cases l with
 | nil=>exact bV
 | cons x l =>
  refine cj (h x (by simp)) ?_;intro w hw;obtain ⟨y,hy,hw⟩:=List.mem_flatMap.1 hw;rcases List.mem_cons.1 hw with rfl | hw
  ·exact bz (by decide)
  ·exact h y (by simp [hy]) w hw
theorem qX {s:ByteArray} (h:dz s=0) {ts rest:List Tk} (ht:TW (kR s) ts) {L:List ByteArray} (hL:L.all (fun w=>!pL ⟨#[97,115]⟩ w)=true) (hr:Fs L rest):eH (ts ++ rest) = .ok (s,rest):=by
 unfold kR at ht;rcases kB h with rfl | ⟨e,hn⟩
 ·rw [if_pos (show eB.size=0 from rfl)] at ht;rw [ht.nil,Jq,eH,if_neg (by rw [hr.bK hL]; decide)]
 ·rw [if_neg e] at ht;replace ht:=ht.cons;obtain ⟨p,t1,rfl,ht⟩:=ht;replace ht:=ht.cons;obtain ⟨q,t2,rfl,ht⟩:=ht;obtain rfl:=ht.nil;show eH (bQ ⟨#[97,115]⟩ p :: bQ s q :: rest)=_;rw [eH,if_pos (by rw [aZ]; decide),bB,fV hn]
theorem Fo (s:ByteArray):kR s = []∨∃ r,kR s=⟨#[97,115]⟩ :: r:=by
 unfold kR
 split
 ·exact .inl rfl
 ·exact .inr ⟨_,rfl⟩
theorem zA {s:ByteArray} (h:dz s=0):∀ w ∈ kR s,GW w:=by
 unfold kR;rcases kB h with rfl | ⟨e,hn⟩
 ·rw [if_pos (show eB.size=0 from rfl)]; exact bV
 ·rw [if_neg e]; exact aU (bz (by decide)) (aU (gE hn) bV)
def pP (b:Bool) (x:SX):SX:=if b then aO x else dM
theorem vJ {wd:ByteArray} (hwd:pL wd wd=true) {has:Bool} {x:SX} (h:ed has x=0) {ts rest:List Tk} (ht:TW (fH wd has x) ts) {L:List ByteArray} (hL:L.all (fun w=>!pL wd w && pF w)=true) (hr:Fs L rest):bO wd (ts ++ rest) = .ok ((has,pP has x),rest):=by
 have h1:L.all (fun w=>!pL wd w)=true:=by
  rw [Js] at hL ⊢;intro w hw;have:=hL w hw;rw [Jv] at this;exact this.1
 have h2:L.all pF=true:=by
  rw [Js] at hL ⊢;intro w hw;have:=hL w hw;rw [Jv] at this;exact this.2
 cases has
 ·rw [ht.nil,Jq,bO,if_neg (by rw [hr.bK h1]; decide)];rfl
 ·change TW (wd :: bY x) ts at ht;replace ht:=ht.cons;obtain ⟨p,ta,rfl,ha⟩:=ht;show bO wd (bQ wd p :: (ta ++ rest))=_;rw [bO,if_pos (by rw [aZ]; exact hwd),bB,bP _ (sJ h ha (hr.Dy h2))];rfl
theorem xK (wd:ByteArray) (has:Bool) (x:SX):fH wd has x = []∨∃ r,fH wd has x=wd :: r:=by
 cases has
 ·exact .inl rfl
 ·exact .inr ⟨_,rfl⟩
theorem rJ {wd:ByteArray} (hw:GN wd=true) {has:Bool} {x:SX} (h:ed has x=0):∀ w ∈ fH wd has x,GW w:=by
 cases has
 ·exact bV
 ·exact aU (bz hw) (mr h)
theorem type_of {t:Int} (h:mj t=0):t=2∨t=3∨t=4:=by
 by_cases h2:t=2
 ·exact .inl h2
 by_cases h3:t=3
 ·exact .inr (.inl h3)
 by_cases h4:t=4
 ·exact .inr (.inr h4)
 ·have e:cW t qR=⟨#[]⟩:=by
   show (if (2:Int)=t then _ else if (3:Int)=t then _ else if (4:Int)=t then _ else _)=_;rw [if_neg ak,if_neg ak,if_neg ak];rfl
  unfold mj at h;rw [e] at h;exact absurd h (by rw [if_pos (by rw [Lib.toList_data]; rfl)]; decide)
theorem Fp {x:tG} (h1:ef x.1=0) (h2:mj x.2=0) {ts rest:List Tk} (ht:TW (dH x) ts):eD (ts ++ rest) = .ok (x,rest):=by
 obtain ⟨s,t⟩:=x;have hn:=gJ h1;change TW [s,cW t BO] ts at ht;replace ht:=ht.cons;obtain ⟨p,t1,rfl,ht⟩:=ht;replace ht:=ht.cons;obtain ⟨q,t2,rfl,ht⟩:=ht;obtain rfl:=ht.nil;show eD (bQ s p :: bQ (cW t BO) q :: rest)=_;rw [eD,bP _ (fV hn p _)];rcases type_of h2 with e | e | e
 ·replace e:t=2:=e;subst e;have hc:dE (bQ (cW 2 BO) q :: rest) = .ok (2,rest):=by
   rw [dE,if_pos (by rw [aZ]; decide),bB]
  rw [bP _ hc]
 ·replace e:t=3:=e;subst e;have hc:dE (bQ (cW 3 BO) q :: rest) = .ok (3,rest):=by
   rw [dE,if_neg (by rw [aZ]; decide),if_pos (by rw [aZ]; decide),bB]
  rw [bP _ hc]
 ·replace e:t=4:=e;subst e;have hc:dE (bQ (cW 4 BO) q :: rest) = .ok (4,rest):=by
   rw [dE,if_neg (by rw [aZ]; decide),if_neg (by rw [aZ]; decide),if_pos (by rw [aZ]; decide),bB]
  rw [bP _ hc]
theorem Em {x:tG} (h1:ef x.1=0) (h2:mj x.2=0):∀ w ∈ dH x,GW w:=by
 refine aU (gE (gJ h1)) (aU ?_ bV);rcases type_of h2 with e | e | e <;> rw [e] <;> exact bz (by decide)
theorem uC:∀ {l:List tG},kN l=0→∀ x ∈ l,ef x.1=0∧mj x.2=0
 | [],_=>by simp
 | y :: r,h=>by
  rw [kN] at h
  obtain ⟨h1,h⟩:=eY h
  obtain ⟨h2,h3⟩:=eY h
  intro x hx
  rcases List.mem_cons.1 hx with rfl | hx
  ·exact ⟨h1,h2⟩
  ·exact uC h3 x hx
theorem Eg {l:List Vl} (h1:∀ v ∈ l,gb v=0) (h0:1≤l.length) (h8:l.length≤8) {ts rest:List Tk} (ht:TW (gd l) ts):jJ (ts ++ rest) = .ok (l.map eQ,rest):=by
 unfold gd at ht;rw [Jg] at ht;change TW (⟨#[40]⟩ :: (dS dK l ++ [⟨#[41]⟩])) ts at ht;replace ht:=ht.cons;obtain ⟨p,t1,rfl,ht⟩:=ht;replace ht:=ht.app;obtain ⟨ta,tb,rfl,ha,hb⟩:=ht;replace hb:=hb.cons;obtain ⟨q,t2,rfl,hb⟩:=hb;obtain rfl:=hb.nil;have e:bQ ⟨#[40]⟩ p :: (ta ++ [bQ ⟨#[41]⟩ q]) ++ rest=bQ ⟨#[40]⟩ p :: (ta ++ (bQ ⟨#[41]⟩ q :: rest)):=by simp
 rw [e,jJ,cN (by decide)];show aK (cu cY 8 9 (ta ++ (bQ ⟨#[41]⟩ q :: rest))) _=_;rw [bP _ (iJ (L:=[⟨#[41]⟩]) (by decide) (fun v hv ts rest ht _=>(qy (h1 v hv) ht rest).1) h0 ak ak ha (Fs.lit _ _ _)),cN (by decide)];rfl
theorem EH {l:List Vl} (h1:∀ v ∈ l,gb v=0):∀ w ∈ gd l,GW w:=cj (cj (aU (bz (by decide)) bV) (mL fun v hv=>zv (h1 v hv))) (aU (bz (by decide)) bV)
theorem Cu {x:kx} (h1:eR x.1=0) (h2:dz x.2=0) {ts rest:List Tk} (ht:TW (fw x) ts) {L:List ByteArray} (hL:L.all (fun w=>!pL ⟨#[97,115]⟩ w)=true) (hS:(⟨#[97,115]⟩ :: L).all pF=true) (hr:Fs L rest):gH (ts ++ rest) = .ok ((aO x.1,x.2),rest):=by
 unfold fw at ht;replace ht:=ht.app;obtain ⟨ta,tb,rfl,ha,hb⟩:=ht;rw [gH,Jg,bP _ (sJ h1 ha ((hr.opt hb (Fo _)).Dy hS)),bP _ (qX h2 hb hL hr)]
def eN (first:Bool) (x:Src):Src:=⟨x.kind,x.name,x.alias,if first then dM else aO x.on⟩
def bF:Bool→List Src→List Src
 | _,[]=>[]
 | f,x :: r=>eN f x :: bF false r
def dq (x:dO):dO:=⟨x.distinct,x.star,if x.star then [] else x.items.map (fun i=>(aO i.1,i.2)),bF true x.sources,x.ax,x.aG,pP x.ax x.au,pP x.aG x.az,x.group.map aO⟩
def iq (q:kf):kf:=⟨q.parts.map dq,q.ops,if 0≤q.aH then q.order.map aO else [],if 0≤q.aH then q.aH else -1⟩
abbrev lj:ByteArray:=⟨#[106,111,105,110]⟩
abbrev xG:ByteArray:=⟨#[115,101,109,105]⟩
abbrev wS:ByteArray:=⟨#[97,110,116,105]⟩
abbrev xc:ByteArray:=⟨#[108,101,102,116]⟩
abbrev Fq:ByteArray:=⟨#[111,110]⟩
abbrev IE:ByteArray:=⟨#[97,115]⟩
abbrev rN:ByteArray:=⟨#[119,104,101,114,101]⟩
abbrev sf:ByteArray:=⟨#[103,114,111,117,112]⟩
abbrev nN:ByteArray:=⟨#[104,97,118,105,110,103]⟩
abbrev js:ByteArray:=⟨#[117,110,105,111,110]⟩
abbrev gg:ByteArray:=⟨#[101,120,99,101,112,116]⟩
abbrev iw:ByteArray:=⟨#[111,114,100,101,114]⟩
abbrev dm:ByteArray:=⟨#[59]⟩
abbrev Hd:List ByteArray:=[lj,xG,wS,xc]
abbrev GB:List ByteArray:=[rN,sf,nN,js,gg,iw,dm]
theorem yz {rest:List Tk} (h:Fs GB rest):dQ rest = .ok (0,rest):=by
 rw [dQ,if_neg (by rw [h.bK (by decide)]; decide),if_neg (by rw [h.bK (by decide)]; decide),if_neg (by rw [h.bK (by decide)]; decide),if_neg (by rw [h.bK (by decide)]; decide)]
def EP (k:Int):List ByteArray:=(if k=2 then [] else [cW k zl]) ++ [lj]
theorem yN {k:Int} (hk:2≤k∧k≤5) {ts rest:List Tk} (ht:TW (EP k) ts):dQ (ts ++ rest) = .ok (k,rest):=by
 have:k=2∨k=3∨k=4∨k=5:=by omega
 rcases this with rfl | rfl | rfl | rfl
 ·change TW [lj] ts at ht;replace ht:=ht.cons;obtain ⟨p,t1,rfl,ht⟩:=ht;obtain rfl:=ht.nil;show dQ (bQ lj p :: rest)=_;rw [dQ,if_pos (by rw [aZ]; decide),bB]
 ·change TW [xG,lj] ts at ht;replace ht:=ht.cons;obtain ⟨p,t1,rfl,ht⟩:=ht;replace ht:=ht.cons;obtain ⟨q,t2,rfl,ht⟩:=ht;obtain rfl:=ht.nil;show dQ (bQ xG p :: bQ lj q :: rest)=_;rw [dQ,if_neg (by rw [aZ]; decide),if_pos (by rw [aZ]; decide),bB,cN (by decide)];rfl
 ·change TW [wS,lj] ts at ht;replace ht:=ht.cons;obtain ⟨p,t1,rfl,ht⟩:=ht;replace ht:=ht.cons;obtain ⟨q,t2,rfl,ht⟩:=ht;obtain rfl:=ht.nil;show dQ (bQ wS p :: bQ lj q :: rest)=_;rw [dQ,if_neg (by rw [aZ]; decide),if_neg (by rw [aZ]; decide),if_pos (by rw [aZ]; decide),bB,cN (by decide)];rfl
 ·change TW [xc,lj] ts at ht;replace ht:=ht.cons;obtain ⟨p,t1,rfl,ht⟩:=ht;replace ht:=ht.cons;obtain ⟨q,t2,rfl,ht⟩:=ht;obtain rfl:=ht.nil;show dQ (bQ xc p :: bQ lj q :: rest)=_;rw [dQ,if_neg (by rw [aZ]; decide),if_neg (by rw [aZ]; decide),if_neg (by rw [aZ]; decide),if_pos (by rw [aZ]; decide),bB,cN (by decide)];rfl
theorem gN {first:Bool} {x:Src} (h:eI first x=0):(if first then x.kind=1 else 2≤x.kind∧x.kind≤5)∧ef x.name=0∧dz x.alias=0∧(first=false→eR x.on=0):=by
 unfold eI at h;obtain ⟨h0,h⟩:=eY h;obtain ⟨h1,h⟩:=eY h;obtain ⟨h2,h⟩:=eY h;obtain ⟨h3,_⟩:=eY h;refine ⟨?_,h1,h2,fun e=>by subst e; exact h3⟩;cases first
 ·simp only [Jd,if_false] at h0 ⊢;by_cases e:(decide (2≤x.kind) && decide (x.kind≤5))=true
  ·simpa using e
  ·rw [if_neg e] at h0; exact absurd h0 (by decide)
 ·simp only [if_true] at h0 ⊢;by_cases e:(x.kind == 1)=true
  ·simpa using e
  ·rw [if_neg e] at h0; exact absurd h0 (by decide)
theorem Dm (k:Int) (hk:2≤k∧k≤5):∃ w r,EP k=w :: r∧w ∈ Hd:=by
 have:k=2∨k=3∨k=4∨k=5:=by omega
 rcases this with rfl | rfl | rfl | rfl
 ·exact ⟨_,_,rfl,by simp⟩
 ·exact ⟨xG,_,rfl,by simp⟩
 ·exact ⟨wS,_,rfl,by simp⟩
 ·exact ⟨xc,_,rfl,by simp⟩
def im:List Src→List ByteArray
 | []=>[]
 | x :: r=>EP x.kind ++ ([x.name] ++ kR x.alias ++ ([Fq] ++ bY x.on)) ++ im r
theorem Fv (x:Src):iD false x=EP x.kind ++ ([x.name] ++ kR x.alias ++ ([Fq] ++ bY x.on)):=by
 unfold iD EP;rw [if_neg (by decide)];simp []
theorem Ew:∀ (l:List Src) (n:Nat),ft l (n+1)=(match l with | []=>[] | x :: r=>iD true x ++ im (r.take n))
 | [],n=>by
  induction n with
  | zero=>rfl
  | succ n ih=>rw [ft,ih]; rfl
 | x :: r,n=>by
  induction n with
  | zero=>simp [ft,im]
  | succ n ih =>
   rw [ft,ih]
   have happ:∀ (a b:List Src),im (a ++ b)=im a ++ im b:=by
    intro a b
    induction a with
    | nil=>rfl
    | cons y a ih=>rw [Ju,im,im,ih,Jg]; simp
   show iD true x ++ im (r.take n) ++ (match r[n]? with | some y=>iD ((n+1) == 0) y | none=>[])=iD true x ++ im (r.take (n+1));rw [JC,happ,Jg]
   congr 2
   cases r[n]? with
   | none=>rfl
   | some y=>show iD false y=im [y]; rw [Fv]; simp [im]
theorem me (x:Src) (r:List Src):ft (x :: r) (x :: r).length = [x.name] ++ kR x.alias ++ im r:=by
 rw [Jo,Ew];show iD true x ++ im (r.take r.length)=_;rw [JR];unfold iD;rw [if_pos rfl];simp
theorem zw {l:List Src} (h:∀ x ∈ l,eI false x=0):im l = []∨∃ w r,im l=w :: r∧w ∈ Hd:=by
 cases l with
 | nil=>exact .inl rfl
 | cons x r =>
  obtain ⟨w,q,e,hw⟩:=Dm x.kind (gN (h x (by simp))).1;exact .inr ⟨w,_,by rw [im,e]; rfl,hw⟩
theorem Fs.join {rest:List Tk} (h:Fs GB rest) {l:List Src} (hl:∀ x ∈ l,eI false x=0) {ts:List Tk} (ht:TW (im l) ts):Fs (Hd ++ GB) (ts ++ rest):=by
 rcases zw hl with e | ⟨w,r,e,hw⟩
 ·rw [e] at ht;rw [ht.nil];exact h.mono fun w hw=>List.mem_append_right _ hw
 ·rw [e] at ht;replace ht:=ht.cons;obtain ⟨p,t1,rfl,_⟩:=ht;exact ⟨w,p,t1 ++ rest,rfl,List.mem_append_left _ hw⟩
theorem oC {k:Int} {s a:ByteArray} (hn:ef s=0) (ha:dz a=0) {ts rest:List Tk} (ht:TW ([s] ++ kR a) ts) {L:List ByteArray} (hL:L.all (fun w=>!pL IE w)=true) (hr:Fs L rest):fC k (ts ++ rest) = .ok (⟨k,s,a,dM⟩,rest):=by
 change TW (s :: kR a) ts at ht;replace ht:=ht.cons;obtain ⟨p,t1,rfl,ht⟩:=ht;show fC k (bQ s p :: (t1 ++ rest))=_;rw [fC,bP _ (fV (gJ hn) p _),bP _ (qX ha ht hL hr)]
theorem tA:∀ (l:List Src) (n:Nat) (acc:List Src) (ts rest:List Tk),(∀ x ∈ l,eI false x=0)→l.length<n→acc.length+l.length≤4→TW (im l) ts→Fs GB rest→cz n acc (ts ++ rest) = .ok (acc ++ bF false l,rest)
 | [],n,acc,ts,rest,_,hn,_,ht,hr=>by
  obtain ⟨m,rfl⟩:∃ m,n=m+1:=⟨n - 1,by simp at hn; omega⟩
  rw [ht.nil,Jq,cz,bP _ (yz hr),if_pos rfl]
  simp [bF]
 | x :: l,n,acc,ts,rest,h1,hn,hm,ht,hr=>by
  simp only [Jo] at hn hm
  obtain ⟨m,rfl⟩:∃ m,n=m+1:=⟨n - 1,by omega⟩
  obtain ⟨hk,hnm,hal,hon⟩:=gN (h1 x (by simp))
  simp only [Jd,if_false] at hk
  rw [im] at ht
  replace ht:=ht.app
  obtain ⟨t0,tb,rfl,h0,hb⟩:=ht
  replace h0:=h0.app
  obtain ⟨tj,ts2,rfl,hj,h2⟩:=h0
  replace h2:=h2.app
  obtain ⟨tn,t8,rfl,h3,h4⟩:=h2
  change TW (Fq :: bY x.on) t8 at h4
  replace h4:=h4.cons
  obtain ⟨p,te,rfl,h4⟩:=h4
  have hnext:=hr.join (fun y hy=>h1 y (by simp [hy])) hb
  have e:tj ++ (tn ++ bQ Fq p :: te) ++ tb ++ rest=tj ++ (tn ++ (bQ Fq p :: (te ++ (tb ++ rest)))):=by simp
  rw [e,cz,bP _ (yN hk hj),if_neg ak,if_neg ak,bP _ (oC hnm hal h3 (L:=[Fq]) (by decide) (Fs.lit _ _ _)),cN (by decide)]
  show aK (eP (te ++ (tb ++ rest))) _=_
  rw [bP _ (sJ (hon rfl) h4 (hnext.Dy (by decide))),tA l m _ tb rest (fun y hy=>h1 y (by simp [hy])) ak (by simp only [Jf,Jo,JQ]; omega) hb hr]
  simp [bF,eN]
theorem kH:∀ {l:List Src} {first:Bool},dc first l=0→∀ x r,l=x :: r→eI first x=0∧∀ y ∈ r,eI false y=0
 | [],_,_=>by intro x r e; cases e
 | y :: r,first,h=>by
  rw [dc] at h
  obtain ⟨h1,h2⟩:=eY h
  intro x s e
  cases e
  refine ⟨h1,?_⟩
  cases r with
  | nil=>intro y hy; cases hy
  | cons z t =>
   obtain ⟨g1,g2⟩:=kH h2 z t rfl
   intro y hy
   rcases List.mem_cons.1 hy with rfl | hy
   ·exact g1
   ·exact g2 y hy
theorem wj {l:List Src} (h:dc true l=0) (h1:1≤l.length) (h4:l.length≤4) {ts rest:List Tk} (ht:TW (ft l l.length) ts) (hr:Fs GB rest):ez (ts ++ rest) = .ok (bF true l,rest):=by
 cases l with
 | nil=>simp at h1
 | cons x r =>
  obtain ⟨g1,g2⟩:=kH h x r rfl;obtain ⟨hk,hnm,hal,_⟩:=gN g1;simp only [if_true] at hk;rw [me] at ht;replace ht:=ht.app;obtain ⟨ta,tb,rfl,ha,hb⟩:=ht;have hnext:=hr.join g2 hb;rw [ez,Jg,bP _ (oC hnm hal ha (by decide) hnext),tA r 5 _ tb rest g2 (by simp at h4; omega) (by simp at h4 ⊢; omega) hb hr];simp [bF,eN,hk]
theorem E9 {l:List Src} (h:dc true l=0):∀ w ∈ ft l l.length,GW w:=by
 cases l with
 | nil=>exact bV
 | cons x r =>
  obtain ⟨g1,g2⟩:=kH h x r rfl;obtain ⟨_,hnm,hal,_⟩:=gN g1;rw [me];refine cj (cj (aU (gE (gJ hnm)) bV) (zA hal)) ?_;clear h g1
  induction r with
  | nil=>exact bV
  | cons y r ih =>
   obtain ⟨hk,hnm,hal,hon⟩:=gN (g2 y (by simp));simp only [Jd,if_false] at hk;rw [im];refine cj (cj ?_ (cj (cj (aU (gE (gJ hnm)) bV) (zA hal)) (aU (bz (by decide)) (mr (hon rfl))))) (ih fun z hz=>g2 z (by simp [hz]));have:y.kind=2∨y.kind=3∨y.kind=4∨y.kind=5:=by omega
   unfold EP;rcases this with e | e | e | e <;> rw [e]
   ·exact aU (bz (by decide)) bV
   all_goals exact aU (bz (by decide)) (aU (bz (by decide)) bV)
theorem mO:∀ {l:List SX},eZ l=0→∀ x ∈ l,eR x=0
 | [],_=>by simp
 | y :: r,h=>by
  rw [eZ] at h
  obtain ⟨h1,h2⟩:=eY h
  intro x hx
  rcases List.mem_cons.1 hx with rfl | hx
  ·exact h1
  ·exact mO h2 x hx
theorem re:∀ {l:List kx},gr l=0→∀ x ∈ l,eR x.1=0∧dz x.2=0
 | [],_=>by simp
 | y :: r,h=>by
  rw [gr] at h
  obtain ⟨h1,h⟩:=eY h
  obtain ⟨h2,h3⟩:=eY h
  intro x hx
  rcases List.mem_cons.1 hx with rfl | hx
  ·exact ⟨h1,h2⟩
  ·exact re h3 x hx
structure lZ (x:dO):Prop where
 src:dc true x.sources=0∧1≤x.sources.length∧x.sources.length≤4
 items:x.star=false→(∀ y ∈ x.items,eR y.1=0∧dz y.2=0)∧1≤x.items.length∧x.items.length≤8
 au:ed x.ax x.au=0
 az:ed x.aG x.az=0
 group:(∀ y ∈ x.group,eR y=0)∧x.group.length≤8
theorem FZ {x:dO} (h:lL x=0):lZ x:=by
 unfold lL at h;obtain ⟨h1,h⟩:=eY h;obtain ⟨h2,h⟩:=eY h;obtain ⟨h3,h⟩:=eY h;obtain ⟨h4,h⟩:=eY h;unfold uI at h;obtain ⟨h5,h⟩:=eY h;obtain ⟨h6,h⟩:=eY h;obtain ⟨h7,_⟩:=eY h;have c1:=dw h1;have c2:=dw h2;refine ⟨⟨h4,by omega,by omega⟩,fun e=>?_,h5,h7,mO h6,by omega⟩;unfold lW at h3;rw [e,if_neg (by decide)] at h3;unfold kz at h3;obtain ⟨g1,g2⟩:=eY h3;have c3:=dw g1;exact ⟨re (eY g2).1,by omega,by omega⟩
theorem AV {l:List SX} (h:∀ y ∈ l,eR y=0) (h8:l.length≤8) {ts rest:List Tk} (ht:TW (j5 l) ts) (hr:Fs [nN,js,gg,iw,dm] rest):gV (ts ++ rest) = .ok (l.map aO,rest):=by
 unfold j5 at ht;by_cases e:l.length=0
 ·rw [if_pos e] at ht;rw [ht.nil,Jq,gV,if_neg (by rw [hr.bK (by decide)]; decide),List.length_eq_zero_iff.1 e];rfl
 ·rw [if_neg e] at ht;change TW (sf :: ⟨#[98,121]⟩ :: dS bY l) ts at ht;replace ht:=ht.cons;obtain ⟨p,t1,rfl,ht⟩:=ht;replace ht:=ht.cons;obtain ⟨q,ta,rfl,ha⟩:=ht;show gV (bQ sf p :: bQ ⟨#[98,121]⟩ q :: (ta ++ rest))=_;rw [gV,if_pos (by rw [aZ]; decide),bB,cN (by decide)];show cu eP 8 9 (ta ++ rest)=_;exact iJ (by decide) (fun x hx ts rest ht hr=>sJ (h x hx) ht (hr.Dy (by decide))) ak ak ak ha hr
theorem CB (l:List SX):j5 l = []∨∃ r,j5 l=sf :: r:=by
 unfold j5
 split
 ·exact .inl rfl
 ·exact .inr ⟨_,rfl⟩
theorem EZ {l:List SX} (h:∀ y ∈ l,eR y=0):∀ w ∈ j5 l,GW w:=by
 unfold j5
 split
 ·exact bV
 ·exact cj (aU (bz (by decide)) (aU (bz (by decide)) bV)) (mL fun x hx=>mr (h x hx))
theorem qI {x : dO} (h : lZ x) (hs : x.star = false) {ts : List Tk} (ht : TW (dS fw x.items) ts) (rest : List Tk) {s : ByteArray} (hw : s.data.toList = [42] ∨ s.data.toList = [100, 105, 115, 116, 105, 110, 99, 116]) : bK s (ts ++ rest) = false := by
  obtain ⟨h1, h2, _⟩ := h.items hs
  rw [nV] at ht
  cases hi : x.items with
  | nil => rw [hi] at h2; simp at h2
  | cons y r =>
    rw [hi] at ht h1
    change TW (bY y.1 ++ kR y.2 ++ _) ts at ht
    have hf : ir false (bY y.1 ++ kR y.2 ++ (r.flatMap fun z => ⟨#[44]⟩ :: fw z)) := ((BM (h1 y (by simp)).1).app _).app _
    exact hf.tw ht (by rcases hw with hw | hw; · exact .inl hw
                       · exact .inr (.inl hw)) rest
theorem qD {x:dO} (h:lZ x) {ts rest:List Tk} (ht:TW (gR x) ts) (hr:Fs [js,gg,iw,dm] rest):db (ts ++ rest) = .ok (dq x,rest):=by
 have e:gR x=⟨#[115,101,108,101,99,116]⟩ :: (lJ x.distinct ⟨#[100,105,115,116,105,110,99,116]⟩ ++ (gu x ++ (⟨#[102,114,111,109]⟩ :: (ft x.sources x.sources.length ++ (fH rN x.ax x.au ++ (j5 x.group ++ fH nN x.aG x.az)))))):=by
  unfold gR; simp []
 rw [e] at ht;clear e;replace ht:=ht.cons;obtain ⟨p,t1,rfl,ht⟩:=ht;replace ht:=ht.app;obtain ⟨td,t2,rfl,hd,ht⟩:=ht;replace ht:=ht.app;obtain ⟨ti,t3,rfl,hi,ht⟩:=ht;replace ht:=ht.cons;obtain ⟨q,t4,rfl,ht⟩:=ht;replace ht:=ht.app;obtain ⟨tf,t5,rfl,hf,ht⟩:=ht;replace ht:=ht.app;obtain ⟨tw,t6,rfl,hw,ht⟩:=ht;replace ht:=ht.app;obtain ⟨tg,th,rfl,hg,hh⟩:=ht;have f1:=hr.opt hh (xK nN x.aG x.az);have f2:=f1.opt hg (CB x.group);have f3:=f2.opt hw (xK rN x.ax x.au)
 have e:bQ ⟨#[115,101,108,101,99,116]⟩ p :: (td ++ (ti ++ bQ ⟨#[102,114,111,109]⟩ q :: (tf ++ (tw ++ (tg ++ th))))) ++ rest=bQ ⟨#[115,101,108,101,99,116]⟩ p :: (td ++ (ti ++ (bQ ⟨#[102,114,111,109]⟩ q :: (tf ++ (tw ++ (tg ++ (th ++ rest))))))):=by simp
 rw [e];clear e;have tail:∀ (di st:Bool) (its:List kx),(aK (aV [⟨#[102,114,111,109]⟩] (bQ ⟨#[102,114,111,109]⟩ q :: (tf ++ (tw ++ (tg ++ (th ++ rest)))))) fun _ r4=>aK (ez r4) fun fs r5=>aK (bO ⟨#[119,104,101,114,101]⟩ r5) fun hw r6=>aK (gV r6) fun gs r8=>aK (bO ⟨#[104,97,118,105,110,103]⟩ r8) fun hh r9=>(.ok (⟨di,st,its,fs,hw.1,hh.1,hw.2,hh.2,gs⟩,r9):PR dO)) = .ok (⟨di,st,its,bF true x.sources,x.ax,x.aG,pP x.ax x.au,pP x.aG x.az,x.group.map aO⟩,rest):=by
  intro di st its;rw [cN (by decide)];show aK (ez (tf ++ (tw ++ (tg ++ (th ++ rest))))) _=_;rw [bP _ (wj h.src.1 h.src.2.1 h.src.2.2 hf f3),bP _ (vJ (by decide) h.au hw (by decide) f2),bP _ (AV h.group.1 h.group.2 hg f1),bP _ (vJ (by decide) h.az hh (by decide) hr)]
 have items:∀ (di:Bool),(let r1:=ti ++ (bQ ⟨#[102,114,111,109]⟩ q :: (tf ++ (tw ++ (tg ++ (th ++ rest))))); let st:=bK ⟨#[42]⟩ r1; let r2:=if st then aC r1 else r1; aK (gU st r2) fun its r3=>aK (aV [⟨#[102,114,111,109]⟩] r3) fun _ r4=>aK (ez r4) fun fs r5=>aK (bO ⟨#[119,104,101,114,101]⟩ r5) fun hw r6=>aK (gV r6) fun gs r8=>aK (bO ⟨#[104,97,118,105,110,103]⟩ r8) fun hh r9=>(.ok (⟨di,st,its,fs,hw.1,hh.1,hw.2,hh.2,gs⟩,r9):PR dO)) = .ok (⟨di,x.star,if x.star then [] else x.items.map (fun i=>(aO i.1,i.2)),bF true x.sources,x.ax,x.aG,pP x.ax x.au,pP x.aG x.az,x.group.map aO⟩,rest):=by
  intro di;unfold gu at hi;cases hs:x.star with
  | true =>
   rw [hs,if_pos rfl] at hi;replace hi:=hi.cons;obtain ⟨u,t9,rfl,hi⟩:=hi;obtain rfl:=hi.nil;have e1:bK ⟨#[42]⟩ ([bQ ⟨#[42]⟩ u] ++ (bQ ⟨#[102,114,111,109]⟩ q :: (tf ++ (tw ++ (tg ++ (th ++ rest))))))=true:=by
    show bK _ (bQ ⟨#[42]⟩ u :: _)=true;rw [aZ]; decide
   simp only [e1,if_true];show aK (gU true (aC (bQ ⟨#[42]⟩ u :: _))) _=_;rw [bB];exact tail di true []
  | false =>
   rw [hs,if_neg (by decide)] at hi;have e1:=qI h hs hi (bQ ⟨#[102,114,111,109]⟩ q :: (tf ++ (tw ++ (tg ++ (th ++ rest))))) (s:=⟨#[42]⟩) (.inl rfl);obtain ⟨g1,g2,g3⟩:=h.items hs;simp only [e1,Jd,if_false];have e2:gU false (ti ++ (bQ ⟨#[102,114,111,109]⟩ q :: (tf ++ (tw ++ (tg ++ (th ++ rest)))))) = .ok (x.items.map (fun i=>(aO i.1,i.2)),bQ ⟨#[102,114,111,109]⟩ q :: (tf ++ (tw ++ (tg ++ (th ++ rest))))):=by
    rw [gU,if_neg (by decide)];exact iJ (L:=[⟨#[102,114,111,109]⟩]) (by decide) (fun y hy ts rest ht hr=>Cu (g1 y hy).1 (g1 y hy).2 ht (by decide) (by decide) hr) g2 ak ak hi (Fs.lit _ _ _)
   rw [bP _ e2];exact tail di false _
 have hsel:∀ (r0:List Tk) (di:Bool) (r1:List Tk),bK ⟨#[100,105,115,116,105,110,99,116]⟩ r0=di→(if di then aC r0 else r0)=r1→db (bQ ⟨#[115,101,108,101,99,116]⟩ p :: r0)=(let st:=bK ⟨#[42]⟩ r1; let r2:=if st then aC r1 else r1; aK (gU st r2) fun its r3=>aK (aV [⟨#[102,114,111,109]⟩] r3) fun _ r4=>aK (ez r4) fun fs r5=>aK (bO ⟨#[119,104,101,114,101]⟩ r5) fun hw r6=>aK (gV r6) fun gs r8=>aK (bO ⟨#[104,97,118,105,110,103]⟩ r8) fun hh r9=>(.ok (⟨di,st,its,fs,hw.1,hh.1,hw.2,hh.2,gs⟩,r9):PR dO)):=by
  intro r0 di r1 h1 h2;subst h1 h2;rw [db,cN (by decide)];rfl
 cases hdi:x.distinct with
 | true =>
  rw [hdi] at hd;replace hd:=TW.cons (w:=⟨#[100,105,115,116,105,110,99,116]⟩) (ws:=[]) hd;obtain ⟨u,t9,rfl,hd⟩:=hd;obtain rfl:=hd.nil;refine (hsel _ true _ ?_ ?_).trans ((items true).trans ?_)
  ·show bK _ (bQ ⟨#[100,105,115,116,105,110,99,116]⟩ u :: _)=true;rw [aZ]; decide
  ·show aC (bQ ⟨#[100,105,115,116,105,110,99,116]⟩ u :: _)=_;rw [bB];rfl
  ·rw [dq,hdi]
 | false =>
  rw [hdi] at hd;obtain rfl:=TW.nil hd;refine (hsel _ false _ ?_ rfl).trans ((items false).trans ?_)
  ·show bK _ (ti ++ _)=false;unfold gu at hi;cases hs:x.star with
   | true =>
    rw [hs,if_pos rfl] at hi;replace hi:=hi.cons;obtain ⟨u,t9,rfl,hi⟩:=hi;obtain rfl:=hi.nil;show bK _ (bQ ⟨#[42]⟩ u :: _)=false;rw [aZ]; decide
   | false =>
    rw [hs,if_neg (by decide)] at hi;exact qI h hs hi _ (.inr rfl)
  ·rw [dq,hdi]
theorem Ca {x:dO} (h:lZ x):∀ w ∈ gR x,GW w:=by
 unfold gR;refine cj (cj (cj (cj (cj (cj (cj (aU (bz (by decide)) bV) ?_) ?_) (aU (bz (by decide)) bV)) (E9 h.src.1)) (rJ (by decide) h.au)) (EZ h.group.1)) (rJ (by decide) h.az)
 ·unfold lJ; split
  ·exact aU (bz (by decide)) bV
  ·exact bV
 ·unfold gu;cases hs:x.star with
  | true=>rw [if_pos rfl]; exact aU (bz (by decide)) bV
  | false =>
   rw [if_neg (by decide)];obtain ⟨g1,_,_⟩:=h.items hs;exact mL fun y hy=>cj (mr (g1 y hy).1) (zA (g1 y hy).2)
end Go.Proofs.YtoknmnngaackkaaGreatDoor
