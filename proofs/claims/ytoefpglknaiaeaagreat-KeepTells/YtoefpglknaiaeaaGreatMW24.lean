import Derived.Laws.MakeOwn
import Derived.Test.YtoefpglknaiaeaaGreatMW23
set_option maxHeartbeats 16000000
set_option maxRecDepth 100000
namespace Go.Proofs.YtoefpglknaiaeaaGreat
open Go.RowKit Go.Lib Go.Shelf _root_.Go.Proofs.Tryz
def AN (ts:List (List Int)) (data:List (List Zp)) (p:Pl):Prop :=
 ∀ (B lo:Nat) (q:Pw) (ca:Option Addr) (cc:Nat) (na:Option Addr) (nc:Nat) (da:Option Addr) (dc:Nat) (m d:Int) (w:World),(bD ts p m d).1=0→EM ts B lo w p q ca na→B≤w.heap.size→nN w da data→gu p →
  Calls prog 48 #[vJ p q ca (aA ts p).length cc na nc,.slice da data.length dc] w fun e w'=>∃ v,e = .returned (.tuple #[v,.int .i64 (aW ts data p).1])∧eA w w' v (aW ts data p).2∧Below w w w'
theorem eval_at (ts:List (List Int)) (hts:fg ts=0) (data:List (List Zp)) (hD:LN ts data) (p:Pl) (ih:∀ r ∈ p.ks,AN ts data r):AN ts data p:=by
 intro B lo q ca cc na nc da dc m d w hlk hN hB hdt hok;obtain ⟨hq,hks,hne⟩:eF p.k p.ks.length (m+1) d=0∧(bo ts p.ks (m+1) (d+1)).1=0∧hM ts p.k p.n p.x p.xs p.gs (p.ks.map (aA ts))=0:=by
  cases p;obtain ⟨h1,h2,h3,_⟩:=iE hlk;rw [gr] at h3;exact ⟨h1,h2,h3⟩
 obtain ⟨hln,_,_,_,_⟩:=jM hq;have hl2:p.ks.length≤2:=by rw [hln]; exact mn _
 have HLk:=aB (kW hks);have HNe:=aB hne;have HTs:=aB hts;have HD:=aB hD;have HK:=aB hok;have IH:=aB ih;generalize hr:aW ts data p=r;have HR:=aB hr;obtain ⟨re,rz⟩:=r;dsimp only;clear hr hts hD hok ih hks hne hq hln hlk;have hA:=aN w (.cells (xB p q ca (aA ts p).length cc na p.ks.length nc) 79)
 have Q:=bq w (xB p q ca (aA ts p).length cc na p.ks.length nc) 79;have hmk:=EG hl2;have q12:=cell_of (i:=12) Q rfl;have lA:=an Q;unfold vJ;go_enter func48,ntmps48;go_upto_region 1 with fail
 generalize w.alloc _=wA at *;go_wp2_with fail
 have hal1:=aN wA (.cells (Array.replicate p.ks.length bX) 38);have S0:=zX.new wA p.ks.length;have Q1:=(hal1.block _ lA).trans Q;have hA1:=chain hA hal1;clear hmk q12 Q hal1;generalize wA.alloc _=w1 at *;generalize hg:wA.heap.size=g at *;clear hg
 go_loopw [18] (fun i wr=>∃ j:Nat,j≤p.ks.length∧i = .int .i64 j∧Hid (∀ i (hi:i<p.ks.length),i<j→(aW ts data p.ks[i]).1=0)∧zX wr g p.ks.length ((p.ks.take j).map fun r=>(aW ts data r).2)∧wr.heap[w.heap.size]? = some (.cells (xB p q ca (aA ts p).length cc na p.ks.length nc) 79 (0,0))∧Below w w wr) (fun i _=>p.ks.length - (intOf i).toNat)
 case atStart=>exact ⟨0,MD _,rfl,(fun i _ h=>absurd h (M9 _)),by simpa using S0,Q1,hA1⟩
 case round =>
  obtain ⟨j,hj,rfl,HZ,hS,QN,hb⟩:=hrel;clear S0 Q1 hA1;by_cases hlt:j<p.ks.length
  ·obtain ⟨b,off,q1,ca1,cc1,na1,nc1,rfl,hbl,_,EL,e11,e12,ND⟩:=(rS.next (Kept.of hb hB) hN.kids).elem hlt;obtain ⟨y0,y1,⟨y2,y3,y4,y5,y6,y7⟩,y8,y9,y10⟩:=EL;have hjz:(j:Int)<(p.ks.length:Int):=by omega
   have hz:=hb.size;have hgl:=hS.lt;have hal:=aN wr (.cells #[.int .i64 p.ks[j].k,.int .i64 p.ks[j].n,.int .i64 p.ks[j].x.k,.int .i64 p.ks[j].x.v.1,.int .i64 p.ks[j].x.v.2.1,.string p.ks[j].x.v.2.2,.int .i64 p.ks[j].x.c,.slice q1.xa p.ks[j].x.ks.length q1.xc,.slice q1.sa p.ks[j].xs.length q1.sc,.slice q1.ga p.ks[j].gs.length q1.gc,.slice q1.ka p.ks[j].ks.length q1.kc,.slice ca1 (aA ts p.ks[j]).length cc1,.slice na1 p.ks[j].ks.length nc1] 79)
   have Qk:=bq wr #[.int .i64 p.ks[j].k,.int .i64 p.ks[j].n,.int .i64 p.ks[j].x.k,.int .i64 p.ks[j].x.v.1,.int .i64 p.ks[j].x.v.2.1,.string p.ks[j].x.v.2.2,.int .i64 p.ks[j].x.c,.slice q1.xa p.ks[j].x.ks.length q1.xc,.slice q1.sa p.ks[j].xs.length q1.sc,.slice q1.ga p.ks[j].gs.length q1.gc,.slice q1.ka p.ks[j].ks.length q1.kc,.slice ca1 (aA ts p.ks[j]).length cc1,.slice na1 p.ks[j].ks.length nc1] 79
   have zk:(wr.alloc (.cells #[.int .i64 p.ks[j].k,.int .i64 p.ks[j].n,.int .i64 p.ks[j].x.k,.int .i64 p.ks[j].x.v.1,.int .i64 p.ks[j].x.v.2.1,.string p.ks[j].x.v.2.2,.int .i64 p.ks[j].x.c,.slice q1.xa p.ks[j].x.ks.length q1.xc,.slice q1.sa p.ks[j].xs.length q1.sc,.slice q1.ga p.ks[j].gs.length q1.gc,.slice q1.ka p.ks[j].ks.length q1.kc,.slice ca1 (aA ts p.ks[j]).length cc1,.slice na1 p.ks[j].ks.length nc1] 79)).heap.size=wr.heap.size+1:=by simp
   obtain ⟨m',hm'⟩:=HLk.out p.ks[j] (MC hlt);have con:=IH.out p.ks[j] (MC hlt) B lo q1 ca1 cc1 na1 nc1 da dc m' (d+1) _ hm' (ND.next (Kept.of hal ag)) ag ((hdt.next hb).next hal) (HK.out.ks _ (MC hlt));unfold vJ at con;clear hm' ND;go_upto_region 5 with fail
   clear y0 y1 y2 y3 y4 y5 y6 y7 y8 y9 y10 e11 e12;generalize wr.alloc _=wk at *;have z0:=cell_of (i:=0) Qk rfl;have z1:=cell_of (i:=1) Qk rfl;have z2:=cell_of (i:=2) Qk rfl
   have z3:=cell_of (i:=3) Qk rfl;have z4:=cell_of (i:=4) Qk rfl;have z5:=cell_of (i:=5) Qk rfl;have z6:=cell_of (i:=6) Qk rfl;have z7:=cell_of (i:=7) Qk rfl;have z8:=cell_of (i:=8) Qk rfl;have z9:=cell_of (i:=9) Qk rfl;have z10:=cell_of (i:=10) Qk rfl;have z11:=cell_of (i:=11) Qk rfl;have z12:=cell_of (i:=12) Qk rfl;go_wp2_with fail
   refine con.mono ?_;rintro e w5 ⟨v5,rfl,O5,hb5⟩;clear con z0 z1 z2 z3 z4 z5 z6 z7 z8 z9 z10 z11 z12 Qk;obtain ⟨a5,c5,ev,_,_⟩:=O5.KW;subst ev;have hb5':=chain hal hb5;have hA5:=chain hb hb5';have QN5:=iX hb5' QN;have S5:=hS.next hb5';have hlen:((p.ks.take j).map fun r=>(aW ts data r).2).length=j:=by rw [Nt,MR]; omega
   have HTk:Hid (((p.ks.take (j+1)).map fun r=>(aW ts data r).2)=((p.ks.take j).map fun r=>(aW ts data r).2) ++ [(aW ts data p.ks[j]).2]):=by
    show _=_;rw [MJ hlt,Nc];rfl
   have S6:=S5.store (by rw [hlen]; exact hlt) O5 ag;rw [hlen,← HTk.out] at S6;obtain ⟨u5,r5⟩:=S5.room j hlt;have f5:=S5.fz j;have HBad:Hid (¬ (aW ts data p.ks[j]).1=0→(re,rz)=((aW ts data p.ks[j]).1,[])):=fun c=>HR.out.symm.trans (ng (tI hlt HZ.out c) c)
   have HZ':Hid ((aW ts data p.ks[j]).1=0→∀ i (hi:i<p.ks.length),i<j+1→(aW ts data p.ks[i]).1=0):=fun c i hi h=>by
    by_cases e:i=j
    ·subst e; exact c
    ·exact HZ.out i hi ag
   clear hS QN O5 S5 hlen HTk HZ hal hb5;generalize (aW ts data p.ks[j]).1=e1 at *;generalize (aW ts data p.ks[j]).2=z1 at *;dsimp only;by_cases he:e1=0
   ·have HZn:=HZ'.out he;have HZn:=aB HZn;subst he;have QN6:=(((aw.refl g w5).set j (.slice a5 z1.length c5)).2 w.heap.size (an QN5) ag).trans QN5;have hA6:=hA5.setCell (p:=ah g j) (by show w.heap.size≤g; omega) (.slice a5 z1.length c5);clear HZ' HBad;go_wp2
    go_roundw
    case rel=>exact ⟨j+1,by omega,by go_num,HZn,S6,QN6,hA6⟩
    case measure=>simp [intOf]; omega
   ·have e:=HBad.out he;injection e with e1' e2'
    subst e1' e2';have heb:(re != 0)=true:=by simpa using he
    clear HBad HZ' S6;go_wp2
    exact bJ rfl rfl ⟨_,rfl,⟨[],by simpa using M4 _ _ _ _,⟨rfl,fun i hi=>by simp at hi⟩⟩,hA5⟩
  ·have e:j=p.ks.length:=by omega
   subst e;rw [MM] at hS;have hAll:∀ r ∈ p.ks,(aW ts data r).1=0:=fun r hr=>by
    obtain ⟨i,hi,rfl⟩:=No hr;exact HZ.out i hi hi
   have eR:=(nm hAll).symm.trans HR.out;have HRz:=aB eR;clear eR hAll HR HZ;have hz:=hb.size;have hgl:=hS.lt;have hwl:=an QN;have hc:p.ks = []∨(∃ k0,p.ks = [k0])∨∃ k0 k1,p.ks = [k0,k1]:=by
    match hm:p.ks with
    | []=>exact .inl rfl
    | [k0]=>exact .inr (.inl ⟨k0,rfl⟩)
    | [k0,k1]=>exact .inr (.inr ⟨k0,k1,rfl⟩)
    | _ :: _ :: _ :: _=>rw [hm] at hl2; exact absurd hl2 (by simp)
   rcases hc with hks | ⟨k0,hks⟩ | ⟨k0,k1,hks⟩
   ·have hl0:p.ks.length=0:=by rw [hks]; rfl
    have lb:((p.ks.length:Int) == 0)=true:=by simp [hl0]
    have hne:=HNe.out;rw [hks] at hne;simp only [List.map_nil,hM] at hne;have hrange:0≤p.n∧p.n<(ts.length:Int):=by
     by_cases c:p.n<0∨(ts.length:Int)≤p.n
     ·rw [if_pos c] at hne; cases hne
     ·omega
    obtain ⟨jn,ejn⟩:∃ jn:Nat,p.n=(jn:Int):=⟨p.n.toNat,by omega⟩
    have hjd:jn<data.length:=by rw [HD.out.len]; omega
    have e1:re=aR data[jn]:=by
     have h:=congrArg Prod.fst HRz.out;rw [hks] at h;simp [bL,ejn,hjd] at h;exact h.symm
    have e2:rz=bh data[jn]:=by
     have h:=congrArg Prod.snd HRz.out;rw [hks] at h;simp [bL,ejn,hjd] at h;exact h.symm
    obtain ⟨b2,o2,zi,zc,rfl,hb2,c2,hzz,_⟩:=(hdt.next hb).elem hjd;have hw:=(cq _).1 (HD.out.ok data[jn] (MC hjd));have con:=eU zi zc data[jn] wr hzz ag (fun x hx=>oA (hw.2.1 x hx).2.2) (fun x hx=>IW (hw.2.1 x hx).1);rw [← e1,← e2] at con;have q1c:wr.cell? (ah w 1)=some (.int .i64 p.n):=cell_of (i:=1) QN rfl;have hjz:(jn:Int)<(data.length:Int):=by omega
    have hj0:(0:Int)≤(jn:Int):=by omega
    clear hw e1 e2 hne hrange hks hl0 HRz;rw [ejn] at q1c;clear ejn;go_wp2_with fail
    refine con.mono ?_;rintro e w5 ⟨v5,rfl,O5,hb5⟩;clear con q1c c2;have O5':=O5.mono hz;dsimp only;go_wp2
    exact bJ rfl rfl ⟨_,rfl,O5',chain hb hb5⟩
   ·have hl0:p.ks.length=1:=by rw [hks]; rfl
    have lb:((p.ks.length:Int) == 0)=false:=by simp [hl0]
    have lb1:((p.ks.length:Int) == 1)=true:=by simp [hl0]
    have lz:0<p.ks.length:=by omega
    rw [hks] at hS HRz;obtain ⟨v0,bs,_,cv,O0⟩:=hS.laid 0 (by simp);simp only [Oe,List.map_nil,Nw] at O0;obtain ⟨a0,c0,ev,zs0,_⟩:=O0.KW;subst ev;have hry:bL [] p.k p.n p.x p.xs p.gs [aA ts k0] [(aW ts data k0).2]=(re,rz):=by
     have h:=HRz.out
     simpa [bL] using h
    generalize (aW ts data k0).2=zz at *;have HRy:=aB hry;clear HRz O0 hS hry;obtain ⟨V,hV⟩:∃ V,V=Value.agg (xB p q ca (aA ts p).length cc na p.ks.length nc):=⟨_,rfl⟩
    have HV:=aB hV;clear hV;go_wp2_with fail
    have hCC:∀ W W':World,(W.heap[w.heap.size]? = some (.cells (xB p q ca (aA ts p).length cc na p.ks.length nc) 79 (0,0))∧W.cell? (ah g 0)=some (.slice a0 zz.length c0)∧g<W.heap.size)→Below W W W'→(W'.heap[w.heap.size]? = some (.cells (xB p q ca (aA ts p).length cc na p.ks.length nc) 79 (0,0))∧W'.cell? (ah g 0)=some (.slice a0 zz.length c0)∧g<W'.heap.size):=fun W W' h hb=>⟨(hb.block _ (an h.1)).trans h.1,(hb.cell (p:=ah g 0) h.2.2).trans h.2.1,My h.2.2 hb.size⟩
    have hd:Below wr wr wr.drew:=(Mz _ _).drew;have CW:=hCC _ _ ⟨QN,cv,hgl⟩ hd;refine aP (fun W=>(W.heap[w.heap.size]? = some (.cells (xB p q ca (aA ts p).length cc na p.ks.length nc) 79 (0,0))∧W.cell? (ah g 0)=some (.slice a0 zz.length c0)∧g<W.heap.size)) aG ?_;refine bB hCC 52 0 V (fun n hn=>?_) CW ?_
    ·obtain ⟨hn1,_⟩:=hn;have m0:=cell_of (i:=0) hn1 rfl;have m1:=cell_of (i:=1) hn1 rfl;have m2:=cell_of (i:=2) hn1 rfl;have m3:=cell_of (i:=3) hn1 rfl;have m4:=cell_of (i:=4) hn1 rfl;have m5:=cell_of (i:=5) hn1 rfl;have m6:=cell_of (i:=6) hn1 rfl;have m7:=cell_of (i:=7) hn1 rfl;have m8:=cell_of (i:=8) hn1 rfl;have m9:=cell_of (i:=9) hn1 rfl;have m10:=cell_of (i:=10) hn1 rfl;have m11:=cell_of (i:=11) hn1 rfl;have m12:=cell_of (i:=12) hn1 rfl;rw [HV.out];clear hn1 QN hdt hN HNe HLk IH HRy CW hCC HV;go_simp
    simp only [pX];refine bB hCC 53 1 (.slice (some (ah g 0)) p.ks.length p.ks.length) (fun n hn=>?_) CW ?_
    ·clear hn QN hdt hN HNe HLk IH HRy CW hCC HV;go_simp
    simp only [pX];refine bB hCC 54 2 (ah g 0) (fun n hn=>?_) CW ?_
    ·clear hn QN hdt hN HNe HLk IH HRy CW hCC HV;go_simp
    simp only [pX];refine bB hCC 55 3 (.slice a0 zz.length c0) (fun n hn=>?_) CW ?_
    ·have hc:=hn.2.1;clear hn QN hdt hN HNe HLk IH HRy CW hCC HV;go_simp
    simp only [pX];refine gp 4 aG fun w6 hb6=>?_
    have CW6:=hCC _ _ CW hb6;have D6:=chain hd hb6;have D6w:=chain hb D6;have con:=Ia ts B lo p k0 q ca (aA ts p).length cc na nc zz a0 c0 w6 (MO hB D6w.size) (rS.next (Kept.of D6w hB) hN.kids) (hN.pl.next D6w hB) HK.out hks (zs0.next D6);rw [HRy.out] at con;unfold vJ at con;rw [← HV.out] at con;refine wpOp_step rfl (fun K hK=>?_);go_simp;refine con.mono ?_;rintro e w7 ⟨v7,rfl,O7,hb7⟩;clear con;have CW7:=hCC _ _ CW6 hb7;refine hK _ _ ⟨CW7,?_⟩;clear hK K CW6 CW
    refine bB hCC 57 5 v7 (fun n hn=>?_) CW7 ?_
    ·clear hn QN hdt hN HNe HLk IH HRy CW7 hCC HV O7;go_simp
    simp only [pX];refine bB hCC 58 6 re (fun n hn=>?_) CW7 ?_
    ·clear hn QN hdt hN HNe HLk IH HRy CW7 hCC HV O7;go_simp
    simp only [pX];refine bB hCC 4 7 v7 (fun n hn=>?_) CW7 ?_
    ·clear hn QN hdt hN HNe HLk IH HRy CW7 hCC HV O7;go_simp
    simp only [pX];refine bB hCC 5 8 re (fun n hn=>?_) CW7 ?_
    ·clear hn QN hdt hN HNe HLk IH HRy CW7 hCC HV O7;go_simp
    simp only [pX];refine cA aG ?_;intro w8 hb8;have O8:=(O7.next hb8).mono D6w.size;have D8:=chain D6w (chain hb7 hb8);clear CW7 hCC hb8 O7;go_wp2
    exact bJ rfl rfl ⟨_,rfl,O8,D8⟩
   ·have hl0:p.ks.length=2:=by rw [hks]; rfl
    have lb:((p.ks.length:Int) == 0)=false:=by simp [hl0]
    have lb1:((p.ks.length:Int) == 1)=false:=by simp [hl0]
    have lz:0<p.ks.length:=by omega
    have lz1:1<p.ks.length:=by omega
    have g0:(aA ts k0).length≤8:=by
     obtain ⟨m',hm'⟩:=HLk.out k0 (by rw [hks]; simp);exact oF HTs.out k0 _ _ hm'
    have g1:(aA ts k1).length≤8:=by
     obtain ⟨m',hm'⟩:=HLk.out k1 (by rw [hks]; simp);exact oF HTs.out k1 _ _ hm'
    rw [hks] at hS HRz;obtain ⟨v0,bs,_,cv,O0⟩:=hS.laid 0 (by simp);obtain ⟨v1,bs1,_,cv1,O1⟩:=hS.laid 1 (by simp);simp only [Oe,List.map_nil,Nw,NJ] at O0 O1;obtain ⟨a0,c0,ev,zs0,nz0⟩:=O0.KW;obtain ⟨a1,c1,ev1,zs1,_⟩:=O1.KW;subst ev ev1;have hry:bL [] p.k p.n p.x p.xs p.gs [aA ts k0,aA ts k1] [(aW ts data k0).2,(aW ts data k1).2]=(re,rz):=by
     have h:=HRz.out
     simpa [bL] using h
    generalize (aW ts data k0).2=zz at *;generalize (aW ts data k1).2=yy at *;have HRy:=aB hry;clear HRz O0 O1 hS hry;obtain ⟨V,hV⟩:∃ V,V=Value.agg (xB p q ca (aA ts p).length cc na p.ks.length nc):=⟨_,rfl⟩
    have HV:=aB hV;clear hV;go_wp2_with fail
    have hCC:∀ W W':World,(W.heap[w.heap.size]? = some (.cells (xB p q ca (aA ts p).length cc na p.ks.length nc) 79 (0,0))∧W.cell? (ah g 0)=some (.slice a0 zz.length c0)∧W.cell? (ah g 1)=some (.slice a1 yy.length c1)∧g<W.heap.size)→Below W W W'→(W'.heap[w.heap.size]? = some (.cells (xB p q ca (aA ts p).length cc na p.ks.length nc) 79 (0,0))∧W'.cell? (ah g 0)=some (.slice a0 zz.length c0)∧W'.cell? (ah g 1)=some (.slice a1 yy.length c1)∧g<W'.heap.size):=fun W W' h hb=>⟨(hb.block _ (an h.1)).trans h.1,(hb.cell (p:=ah g 0) h.2.2.2).trans h.2.1,(hb.cell (p:=ah g 1) h.2.2.2).trans h.2.2.1,My h.2.2.2 hb.size⟩
    have hd:Below wr wr wr.drew:=(Mz _ _).drew;have CW:=hCC _ _ ⟨QN,cv,cv1,hgl⟩ hd;refine aP (fun W=>(W.heap[w.heap.size]? = some (.cells (xB p q ca (aA ts p).length cc na p.ks.length nc) 79 (0,0))∧W.cell? (ah g 0)=some (.slice a0 zz.length c0)∧W.cell? (ah g 1)=some (.slice a1 yy.length c1)∧g<W.heap.size)) aG ?_;refine bB hCC 59 0 V (fun n hn=>?_) CW ?_
    ·obtain ⟨hn1,_⟩:=hn;have m0:=cell_of (i:=0) hn1 rfl;have m1:=cell_of (i:=1) hn1 rfl;have m2:=cell_of (i:=2) hn1 rfl;have m3:=cell_of (i:=3) hn1 rfl;have m4:=cell_of (i:=4) hn1 rfl;have m5:=cell_of (i:=5) hn1 rfl;have m6:=cell_of (i:=6) hn1 rfl;have m7:=cell_of (i:=7) hn1 rfl;have m8:=cell_of (i:=8) hn1 rfl;have m9:=cell_of (i:=9) hn1 rfl;have m10:=cell_of (i:=10) hn1 rfl;have m11:=cell_of (i:=11) hn1 rfl;have m12:=cell_of (i:=12) hn1 rfl;rw [HV.out];clear hn1 QN hdt hN HNe HLk IH HRy CW hCC HV;go_simp
    simp only [pX];refine bB hCC 60 1 (.slice (some (ah g 0)) p.ks.length p.ks.length) (fun n hn=>?_) CW ?_
    ·clear hn QN hdt hN HNe HLk IH HRy CW hCC HV;go_simp
    simp only [pX];refine bB hCC 61 2 (ah g 0) (fun n hn=>?_) CW ?_
    ·clear hn QN hdt hN HNe HLk IH HRy CW hCC HV;go_simp
    simp only [pX];refine bB hCC 62 3 (.slice a0 zz.length c0) (fun n hn=>?_) CW ?_
    ·have hc:=hn.2.1;clear hn QN hdt hN HNe HLk IH HRy CW hCC HV;go_simp
    simp only [pX];refine bB hCC 63 4 (.slice (some (ah g 0)) p.ks.length p.ks.length) (fun n hn=>?_) CW ?_
    ·clear hn QN hdt hN HNe HLk IH HRy CW hCC HV;go_simp
    simp only [pX];refine bB hCC 64 5 (ah g 1) (fun n hn=>?_) CW ?_
    ·clear hn QN hdt hN HNe HLk IH HRy CW hCC HV;go_simp
    simp only [pX];refine bB hCC 65 6 (.slice a1 yy.length c1) (fun n hn=>?_) CW ?_
    ·have hc:=hn.2.2.1;clear hn QN hdt hN HNe HLk IH HRy CW hCC HV;go_simp
    simp only [pX];refine gp 7 aG fun w6 hb6=>?_
    have CW6:=hCC _ _ CW hb6;have D6:=chain hd hb6;have D6w:=chain hb D6;have con:=Ec ts B lo p k0 k1 q ca (aA ts p).length cc na nc zz a0 c0 yy a1 c1 w6 (MO hB D6w.size) (rS.next (Kept.of D6w hB) hN.kids) (hN.pl.next D6w hB) hks g0 g1 (zs0.next D6) (zs1.next D6) nz0;rw [HRy.out] at con;unfold vJ at con;rw [← HV.out] at con;refine wpOp_step rfl (fun K hK=>?_);go_simp;refine con.mono ?_;rintro e w7 ⟨v7,rfl,O7,hb7⟩;clear con;have CW7:=hCC _ _ CW6 hb7;refine hK _ _ ⟨CW7,?_⟩;clear hK K CW6 CW
    refine bB hCC 67 8 v7 (fun n hn=>?_) CW7 ?_
    ·clear hn QN hdt hN HNe HLk IH HRy CW7 hCC HV O7;go_simp
    simp only [pX];refine bB hCC 68 9 re (fun n hn=>?_) CW7 ?_
    ·clear hn QN hdt hN HNe HLk IH HRy CW7 hCC HV O7;go_simp
    simp only [pX];refine bB hCC 4 10 v7 (fun n hn=>?_) CW7 ?_
    ·clear hn QN hdt hN HNe HLk IH HRy CW7 hCC HV O7;go_simp
    simp only [pX];refine bB hCC 5 11 re (fun n hn=>?_) CW7 ?_
    ·clear hn QN hdt hN HNe HLk IH HRy CW7 hCC HV O7;go_simp
    simp only [pX];refine cA aG ?_;intro w8 hb8;have O8:=(O7.next hb8).mono D6w.size;have D8:=chain D6w (chain hb7 hb8);clear CW7 hCC hb8 O7;go_wp2
    exact bJ rfl rfl ⟨_,rfl,O8,D8⟩
theorem Hk (ts:List (List Int)) (hts:fg ts=0) (data:List (List Zp)) (hD:LN ts data):∀ p,AN ts data p:=Pl.ind fun k n x xs gs ks ih=>eval_at ts hts data hD (.mk k n x xs gs ks) ih
theorem xE (B:Nat) (W:World):eA B W bX []:=⟨[],by simpa using M4 _ _ _ _,⟨rfl,fun i hi=>by simp at hi⟩⟩
theorem Hx (ts:List (List Int)) (data:List (List Zp)) (p:Pl) (q:Pw) (ta:Option Addr) (tc:Nat) (da:Option Addr) (dc:Nat) (w:World) (hT:jG w w ta ts) (hD:nN w da data) (hp:kH w w p q) (hk:gu p) :
  Calls prog 19 #[.slice ta ts.length tc,fw p q,.slice da data.length dc] w fun e w'=>∃ v,e = .returned (.tuple #[v,.int .i64 (Fx ts data p)])∧eA w w' v (Fq ts data p)∧Below w w w':=by
 have hA:=aN w (.cells (fE p q) 31);have EL:=ft.new w p q 31;have con:=vk ts p q ta tc (w.alloc (.cells (fE p q) 31)) ((hT.next hA (Mx _)).up hA.size) ((hp.next hA (Mx _)).up hA.size) hk;have HK:=aB hk;generalize hee:Fx ts data p=ee;generalize hez:Fq ts data p=ez;have HE:=aB hee;have HZ:=aB hez;generalize hle:dp ts p=le at con;have HLe:=aB hle;clear hk hee hez hle;obtain ⟨y0,y1,⟨y2,y3,y4,y5,y6,y7⟩,y8,y9,y10⟩:=EL
 simp only [MG] at y1 y2 y3 y4 y5 y6 y7 y8 y9 y10;unfold fw at con ⊢;go_enter func19,ntmps19;go_upto_region 1 with fail
 generalize w.alloc _=wA at *;go_wp2_with fail
 refine con.mono ?_;rintro e w1 ⟨⟨v1,rfl,hv0,hv1⟩,hb1⟩;clear con y0 y1 y2 y3 y4 y5 y6 y7 y8 y9 y10;have hA1:=chain hA hb1;by_cases he:le=0;rotate_left
 ·have e0:=hv1 he;obtain ⟨e1,e2⟩:=zt (data:=data) (show ¬ dp ts p=0 by rw [HLe.out]; exact he);rw [HE.out,HLe.out] at e1;rw [HZ.out] at e2;subst e0 e1 e2;have hal:=aN w1 (.cells #[aD,aD,aD,aD,aD,(),aD,bX,bX,bX,bX,bX,bX] 79);have hA2:=chain hA1 hal;have heb:(ee != 0)=true:=by simpa using he
  clear hv0 hv1 HE HZ HLe;unfold zV;go_upto_region 2 with fail
  generalize w1.alloc _=w2 at *;go_wp2_with fail
  exact bJ rfl rfl ⟨_,rfl,xE _ _,hA2⟩
 obtain ⟨ca,cc,na,nc,e0,ND⟩:=hv0 he;have HL0:Hid (dp ts p=0):=by show _=_; rw [HLe.out,he]
 subst e0;clear hv0 hv1 HLe;subst he;have hal:=aN w1 (.cells (xB p q ca (aA ts p).length cc na p.ks.length nc) 79);have hA2:=chain hA1 hal;have Qk:=bq w1 (xB p q ca (aA ts p).length cc na p.ks.length nc) 79;have lk:=an Qk;have hsA:=hb1.size;unfold vJ;go_upto_region 2 with fail
 generalize w1.alloc _=w2 at *;have h8:=Lz (fX HL0.out).1;have con:=Fe ts data ta tc da dc w2 ((hT.next hA2 (Mx _)).up hA2.size) (hD.next hA2) h8;generalize hde:fI ts data=de at con;have HDe:=aB hde;clear hde;go_wp2_with fail
 refine bC con fun w3 hb3=>?_;clear con;have hA3:=chain hA2 hb3;dsimp only;by_cases hd:de=0;rotate_left
 ·obtain ⟨e1,e2⟩:=yY (data:=data) HL0.out (show ¬ fI ts data=0 by rw [HDe.out]; exact hd);rw [HE.out,HDe.out] at e1;rw [HZ.out] at e2;subst e1 e2;have heb:(ee != 0)=true:=by simpa using hd
  clear HE HZ HDe HL0;go_wp2_with fail
  exact bJ rfl rfl ⟨_,rfl,xE _ _,hA3⟩
 have HD0:Hid (fI ts data=0):=by show _=_; rw [HDe.out,hd]
 clear HDe;subst hd;have Q3:=(hb3.block _ lk).trans Qk;have hk3:Kept wA wA.heap.size w1 w3:=Kept.of (chain hal hb3) hsA;have con:=Hk ts (fX HL0.out).1 data (vA HD0.out) p wA wA.heap.size q ca cc na nc da dc 0 1 w3 (fX HL0.out).2 (ND.next hk3) (MO hsA (chain hal hb3).size) (hD.next hA3) HK.out;obtain ⟨e1,e2⟩:=Cd (p:=p) HL0.out HD0.out;rw [HE.out] at e1;rw [HZ.out] at e2;rw [← e1,← e2] at con;unfold vJ at con;clear e1 e2 HE HZ HL0 HD0 ND hk3;have z0:=cell_of (i:=0) Q3 rfl;have z1:=cell_of (i:=1) Q3 rfl;have z2:=cell_of (i:=2) Q3 rfl
 have z3:=cell_of (i:=3) Q3 rfl;have z4:=cell_of (i:=4) Q3 rfl;have z5:=cell_of (i:=5) Q3 rfl;have z6:=cell_of (i:=6) Q3 rfl;have z7:=cell_of (i:=7) Q3 rfl;have z8:=cell_of (i:=8) Q3 rfl;have z9:=cell_of (i:=9) Q3 rfl;have z10:=cell_of (i:=10) Q3 rfl;have z11:=cell_of (i:=11) Q3 rfl;have z12:=cell_of (i:=12) Q3 rfl;go_wp2_with fail
 refine con.mono ?_;rintro e w4 ⟨v4,rfl,O4,hb4⟩;clear con z0 z1 z2 z3 z4 z5 z6 z7 z8 z9 z10 z11 z12;have O4':=O4.mono hA3.size;go_wp2_with fail
 exact bJ rfl rfl ⟨_,rfl,O4',chain hA3 hb4⟩
end Go.Proofs.YtoefpglknaiaeaaGreat
namespace Go.Proofs.YtoefpglknaiaeaaGreat
open Go.RowKit Go.Lib Go.Shelf
theorem zX.lX (w:World) (c:Array Value):zX (w.alloc (.cells c 38)) w c.size []:=by
 have q:=bq w c 38;exact ⟨⟨_,_,q⟩,fun o ho=>⟨c[o],cell_of (i:=o) q (by simp [ho])⟩,fun o=>MB _ w o _ _ q,fun i hi=>by cases hi⟩
theorem zX.dt {W:World} {g n:Nat} {zs:List (List Zp)} (h:zX W g n zs):nN W (some (ah g 0)) zs:=by
 have key:∀ (i:Nat) (hi:i<zs.length),∃ (y:Option Addr × Nat),W.cell? (ah g i)=some (.slice y.1 zs[i].length y.2)∧aK W y.1 zs[i]∧(y.1=none→y.2=0):=fun i hi=>by
  obtain ⟨v,base,_,h2,h3⟩:=h.laid i hi;obtain ⟨a,c,rfl,h4,h5⟩:=h3.KW;exact ⟨(a,c),h2,h4,h5⟩
 obtain ⟨f,hf⟩:=Go.Deep.choose_lt (α:=Option Addr × Nat) (n:=zs.length) (p:=fun i y=>∃ hi:i<zs.length,W.cell? (ah g i)=some (.slice y.1 zs[i].length y.2)∧aK W y.1 zs[i]∧(y.1=none→y.2=0)) (fun i hi=>by obtain ⟨y,hy⟩:=key i hi; exact ⟨y,hi,hy⟩);refine .inr ⟨g,0,fun i=>(f i).1,fun i=>(f i).2,rfl,h.lt,fun i hi=>?_⟩;obtain ⟨_,h1⟩:=hf i hi;rw [MG];exact h1
open _root_.Go.Proofs.Tryz
theorem Bc (ts:List (List Int)) (data:List (List Zp)) (ta:Option Addr) (tc:Nat) (a:Option Addr) (cap:Nat) (w:World) (hT:jG w w ta ts) (hD:nN w a data) (hn:data.length≤10000000000000) :
  Calls prog 35 #[.slice ta ts.length tc,.slice a data.length cap] w fun e w'=>e = .returned (.int .i64 (fI ts data))∧Below w w w':=by
 generalize hr:fI ts data=r;have HR:=aB hr;clear hr;go_enter func35,ntmps35;by_cases hl:data.length=ts.length;rotate_left
 ·have hne:((ts.length:Int) != (data.length:Int))=true:=by simp; omega
  have e:r=8:=by rw [← HR.out]; unfold fI; rw [if_pos hl]
  subst e;go_wp2_with fail
  go_ret;exact ⟨rfl,Mz _ _⟩
 have hne:((ts.length:Int) != (data.length:Int))=false:=by simp; omega
 have HR':Hid (r=fu (ts.drop 0) (data.drop 0)):=by show _=_; rw [← HR.out]; unfold fI; rw [if_neg (by simpa using hl)]; rfl
 have hl1:data.length≤ts.length:=by omega
 have hl2:ts.length≤data.length:=by omega
 clear HR hl;go_wp2_with fail
 clear hne;go_loopw [14] (fun i wr=>∃ j:Nat,j≤data.length∧i = .int .i64 j∧Hid (r=fu (ts.drop j) (data.drop j))∧Below w w wr) (fun i _=>data.length - (intOf i).toNat)
 case atStart=>exact ⟨0,MD _,rfl,HR',Mz _ _⟩
 case round =>
  obtain ⟨j,hj,rfl,HT,hb⟩:=hrel;by_cases hlt:j<data.length
  ·have hlt':j<ts.length:=by omega
   obtain ⟨b1,o1,ai,ci,rfl,hb1,c1,hi⟩:=(hT.next hb (Mx _)).elem hlt';obtain ⟨b2,o2,zi,zc,rfl,hb2,c2,hz,_⟩:=(hD.next hb).elem hlt;have hjz:(j:Int)<(data.length:Int):=by omega
   have hjt:(j:Int)<(ts.length:Int):=by omega
   have hj0:(0:Int)≤(j:Int):=by omega
   have HBad:Hid (¬ bV ts[j] data[j]=0→r=bV ts[j] data[j]):=fun c=>HT.out.trans (tw hlt' hlt c)
   have HOk:Hid (bV ts[j] data[j]=0→r=fu (ts.drop (j+1)) (data.drop (j+1))):=fun c=>HT.out.trans (qQ hlt' hlt c)
   have con:∀ n:cF wr,Calls prog 60 #[.slice ai ts[j].length ci,.slice zi data[j].length zc] n.now fun e w'=>e = .returned (.int .i64 (bV ts[j] data[j]))∧Below n.now.heap.size n.now w':=fun n=>eV ts[j] ai ci zi zc data[j] n.now (((hi.up hb.size).next n.ok (Mx _)).up n.ok.size) (hz.next n.ok)
   clear HT;generalize bV ts[j] data[j]=er at *;have p1:=ak c1;have p2:=ak c2;haveI:Nonempty (cF wr):=⟨⟨_,Mz _ _⟩⟩
   go_wp2_with fail
   refine aq aG aG ?_
   repeat (go_big_quiet_step (first | (go_at_call 60; exact cG (con _))))
   refine wpQuiet_nil ?_;rintro w5 ⟨⟨v5,hb5⟩,h5⟩;obtain rfl:w5=v5:=h5;clear p1 p2 this c1 c2 con;by_cases h0:er=0
   ·have HT':=aB (HOk.out h0);subst h0;clear HBad HOk;go_wp2_with fail
    go_roundw
    case rel=>exact ⟨j+1,by omega,by go_num,HT',chain hb hb5⟩
    case measure=>simp [intOf]; omega
   ·have e:r=er:=HBad.out h0;have h0b:(er != 0)=true:=by simpa using h0
    subst e;clear HBad HOk;go_wp2_with fail
    go_ret;exact ⟨rfl,chain hb hb5⟩
  ·have e:r=0:=by rw [HT.out,tW ag]
   have hjn:¬ (j:Int)<(data.length:Int):=by omega
   subst e;clear HT;go_wp2_with fail
   go_ret;exact ⟨rfl,hb⟩
end Go.Proofs.YtoefpglknaiaeaaGreat
namespace Go.Proofs.YtoefpglknaiaeaaGreat
open Go.RowKit Go.Lib Go.Shelf _root_.Go.Proofs.Tryz
theorem FD (p:Pl) (q:Pw) (hk:p.k=2∨p.k=3∨p.k=10∨p.k=11∨p.k=12∨p.k=13) (c:List Int) (ca:Option Addr) (cc:Nat) (z:List Zp) (za:Option Addr) (zc:Nat) (vb vy:Value) {w:World} (hp:kH w w p q) (hok:gu p) (hc:bf w w ca c) (hz:aK w za z) :
  Calls prog 76 #[fw p q,.slice ca c.length cc,vb,.slice za z.length zc,vy] w (Co (bL [] p.k p.n p.x p.xs p.gs [c] [z]).1 (bL [] p.k p.n p.x p.xs p.gs [c] [z]).2 w):=by
 rcases hk with h | h | h | h | h | h
 ·have:=GU p q h c ca cc z za zc vb vy hp hc hz;simp only [bL,h];exact this
 ·have:=Gq p q h c ca cc z za zc vb vy hp hc hz;simp only [bL,h];exact this
 ·have:=Ed p q h c ca cc z za zc vb vy hp hc hz;simp only [bL,h];exact this
 ·have:=Db p q h c ca cc z za zc vb vy hp hc hz;simp only [bL,h];exact this
 ·have:=DO p q h c ca cc z za zc vb vy hp hok hc hz;simp only [bL,h];exact this
 ·have:=DM p q h c ca cc z za zc vb vy hp hok hc hz;simp only [bL,h];exact this
theorem GJ (p:Pl) (q:Pw) (hk:p.k=4∨p.k=5∨p.k=6∨p.k=7∨p.k=8∨p.k=9) (c:List Int) (ca:Option Addr) (cc:Nat) (z:List Zp) (za:Option Addr) (zc:Nat) (b:List Int) (ba:Option Addr) (bc:Nat) (y:List Zp) (ya:Option Addr) (yc:Nat) {w:World} (hp:kH w w p q) (hc:bf w w ca c) (hz:aK w za z) (hd:bf w w ba b) (hy:aK w ya y) (h8:c.length≤8∧b.length≤8) :
  Calls prog 76 #[fw p q,.slice ca c.length cc,.slice ba b.length bc,.slice za z.length zc,.slice ya y.length yc] w (Co (bL [] p.k p.n p.x p.xs p.gs [c,b] [z,y]).1 (bL [] p.k p.n p.x p.xs p.gs [c,b] [z,y]).2 w):=by
 rcases hk with h | h | h | h | h | h
 ·have:=Io p q h c ca cc z za zc b ba bc y ya yc hp hc hz hd hy h8;simp only [bL,h];exact this
 ·have:=HX p q h c ca cc z za zc b ba bc y ya yc hp hc hz hd hy h8;simp only [bL,h];exact this
 ·have:=Gi p q h c ca cc z za zc b ba bc y ya yc hp hc hz hd hy h8;simp only [bL,h];exact this
 ·have:=H6 p q h c ca cc z za zc b ba bc y ya yc hp hc hz hd hy h8;simp only [bL,h];exact this
 ·have:=GX p q h c ca cc z za zc b ba bc y ya yc hp hc hz hd hy h8;simp only [bL,h];exact this
 ·have:=Ig p q h c ca cc z za zc b ba bc y ya yc hp hc hz hd hy h8;simp only [bL,h];exact this
def Fy (ts:List (List Int)) (data:List (List Zp)) (p:Pl) (w:World) (e:Ending) (w':World):Prop:=(∃ vt vz,e = .returned (.tuple #[vt,vz,.int .i64 (aW ts data p).1])∧((aW ts data p).1=0→∃ ca cc za zc,vt = .slice ca (aA ts p).length cc∧vz = .slice za (aW ts data p).2.length zc∧bf w' w' ca (aA ts p)∧aK w' za (aW ts data p).2))∧Below w w w'
def BG (ts:List (List Int)) (data:List (List Zp)) (p:Pl):Prop:=∀ (q:Pw) (ta:Option Addr) (tc:Nat) (da:Option Addr) (dc:Nat) (w:World),dp ts p=0→jG w w ta ts→nN w da data→kH w w p q→gu p →
 Calls prog 49 #[.slice ta ts.length tc,fw p q,.slice da data.length dc] w (Fy ts data p w)
theorem Fy.bad {ts:List (List Int)} {data:List (List Zp)} {p:Pl} {w w':World} {e:Int} (h:(aW ts data p).1=e) (he:¬ e=0) (hb:Below w w w'):Fy ts data p w (.returned (.tuple #[bX,bX,e])) w':=by
 subst h;exact ⟨⟨_,_,rfl,fun c=>absurd c he⟩,hb⟩
theorem Fy.Gr {ts:List (List Int)} {data:List (List Zp)} {p:Pl} {w w':World} {E:Int} {Z:List Zp} (h:aW ts data p=(E,Z)) {ca:Option Addr} {cc:Nat} {za:Option Addr} {zc:Nat} (hc:bf w' w' ca (aA ts p)) (hz:aK w' za Z) (hb:Below w w w'):Fy ts data p w (.returned (.tuple #[.slice ca (aA ts p).length cc,.slice za Z.length zc,E])) w':=by
 refine ⟨⟨_,_,by rw [h],fun _=>⟨ca,cc,za,zc,rfl,by rw [h],hc,by rw [h]; exact hz⟩⟩,hb⟩
theorem Jb (ts:List (List Int)) (data:List (List Zp)) (hD:fI ts data=0) (p:Pl) (ih:∀ r ∈ p.ks,BG ts data r):BG ts data p:=by
 intro q ta tc da dc w hle hT hdt hp hok;obtain ⟨hts,hlk⟩:=fX hle;obtain ⟨hq,hne⟩:eF p.k p.ks.length (0+1) 1=0∧hM ts p.k p.n p.x p.xs p.gs (p.ks.map (aA ts))=0:=by
  cases p;obtain ⟨h1,h2,h3,_⟩:=iE hlk;rw [gr] at h3;exact ⟨h1,h3⟩
 obtain ⟨hln,hk1,hk13,_,_⟩:=jM hq;have hl2:p.ks.length≤2:=by rw [hln]; exact mn _
 have HKid:Hid (∀ r ∈ p.ks,dp ts r=0∧(aA ts r).length≤8):=fun r hr=>⟨vp hle hr,oF hts r 0 1 (fX (vp hle hr)).2⟩
 have HOk:=aB hok;have IH:=aB ih;have HDo:=aB (vA hD);have HLn:=aB hln;have HK:Hid (1≤p.k∧p.k≤13):=⟨hk1,hk13⟩
 have hA:=aN w (.cells (fE p q) 31);have EL:=ft.new w p q 31;have hz0:=an (bq w (fE p q) 31);have hc:p.ks = []∨(∃ k0,p.ks = [k0])∨∃ k0 k1,p.ks = [k0,k1]:=by
  match hm:p.ks with
  | []=>exact .inl rfl
  | [k0]=>exact .inr (.inl ⟨k0,rfl⟩)
  | [k0,k1]=>exact .inr (.inr ⟨k0,k1,rfl⟩)
  | _ :: _ :: _ :: _=>rw [hm] at hl2; exact absurd hl2 (by simp)
 have HNe:=aB hne;have HLe:=aB hle;have HC:=aB hc;have HT:=aB hT;have HDt:=aB hdt;have HP:=aB hp;clear hc hle hne hln hk1 hk13 hok ih hl2 hq hlk hts hD hT hdt hp;unfold fw;go_enter func49,ntmps49;go_upto_region 1 with fail
 generalize w.alloc _=wA at *;have con:=qp ts p q ta tc wA ((HT.out.next hA (Mx _)).up hA.size) ((HP.out.next hA (Mx _)).up hA.size) HOk.out;rw [HLe.out] at con;unfold fw at con;obtain ⟨y0,y1,y2,y3,y4,y5,y6,y7,y8,y9,y10⟩:=elZero0 EL
 go_wp2_with fail
 refine con.mono ?_;rintro e w1 ⟨a1,c1,rfl,i1,hb1⟩;clear con y0 y1 y2 y3 y4 y5 y6 y7 y8 y9 y10;have EL1:=EL.next hb1 hz0;have hA1:=chain hA hb1;have HI1:=aB i1.at;have hz1:=My hz0 hb1.size;clear EL i1 hz0 hb1 hA;obtain ⟨y0,y1,y2,y3,y4,y5,y6,y7,y8,y9,y10⟩:=elZero0 EL1
 simp only [if_true];rcases HC.out with hks | ⟨k0,hks⟩ | ⟨k0,k1,hks⟩
 ·have hk:p.k=1:=by
   have h:=HLn.out;have g:=HK.out;rw [hks] at h;unfold fk at h;by_cases c:p.k=1
   ·exact c
   ·rw [if_neg c] at h
    split at h <;> simp at h
  have hne:=HNe.out;rw [hks] at hne;simp only [List.map_nil,hM] at hne;have hrange:0≤p.n∧p.n<(ts.length:Int):=by
   by_cases c:p.n<0∨(ts.length:Int)≤p.n
   ·rw [if_pos c] at hne; cases hne
   ·omega
  obtain ⟨jn,ejn⟩:∃ jn:Nat,p.n=(jn:Int):=⟨p.n.toNat,by omega⟩
  have hjd:jn<data.length:=by rw [HDo.out.len]; omega
  have e1:aW ts data p=(aR data[jn],bh data[jn]):=by
   rw [nm (by rw [hks]; intro r hr; simp at hr),hks];simp [bL,ejn,hjd]
  obtain ⟨b2,o2,zi,zc,rfl,hb2,c2,hzz,_⟩:=(HDt.out.next hA1).elem hjd;have hw:=(cq _).1 (HDo.out.ok data[jn] (MC hjd));have con:=KM zi zc data[jn] w1 hzz ag (fun x hx=>⟨(hw.2.1 x hx).1,(hw.2.1 x hx).2.2⟩);have HE1:=aB e1;have hjz:(jn:Int)<(data.length:Int):=by omega
  have hj0:(0:Int)≤(jn:Int):=by omega
  rw [hk] at y0;rw [ejn] at y1;clear hw e1 hne hrange hks hk ejn EL1;generalize aR data[jn]=E at *;generalize bh data[jn]=Z at *;go_wp2_with fail
  refine con.mono ?_;rintro e w2 ⟨⟨ua,uc,rfl,hu⟩,hb2'⟩;clear con y0 y1 y2 y3 y4 y5 y6 y7 y8 y9 y10 c2;have I2:=(HI1.out.next hb2' (Mx _)).up hb2'.size;go_wp2
  exact JX rfl rfl (Fy.Gr HE1.out I2 hu (chain hA1 hb2'))
 ·have hl:p.ks.length=1:=by rw [hks]; rfl
  have hkk:p.k=2∨p.k=3∨p.k=10∨p.k=11∨p.k=12∨p.k=13:=by
   have h:=HLn.out;have g:=HK.out;rw [hl] at h;unfold fk at h;by_cases c:p.k=1
   ·rw [if_pos c] at h; cases h
   ·rw [if_neg c] at h;by_cases c2:4≤p.k∧p.k≤9
    ·rw [if_pos c2] at h; cases h
    ·omega
  have hkb:(p.k == 1)=false:=by rw [beq_eq_false_iff_ne]; omega
  have m0:k0 ∈ p.ks:=by rw [hks]; simp
  have KA:=((HP.out.ks.next hA1 (Mx _)).up hA1.size)
  obtain ⟨bk,ok,q0,eka,hbk,E0,B0⟩:=KA.elem (k:=0) ag;have hl0:(0:Int)<(p.ks.length:Int):=by omega
  have hg0:p.ks[0]=k0:=by simp only [hks,Nw]
  rw [hg0] at E0 B0;obtain ⟨x0,x1,⟨x2,x3,x4,x5,x6,x7⟩,x8,x9,x10⟩:=E0;simp only [Oa,NW,Nat.add_assoc,Nat.reduceAdd] at x0 x1 x2 x3 x4 x5 x6 x7 x8 x9 x10;have con:=IH.out k0 m0 q0 ta tc da dc w1 (HKid.out k0 m0).1 ((HT.out.next hA1 (Mx _)).up hA1.size) (HDt.out.next hA1) B0 (HOk.out.ks k0 m0);unfold fw at con;have HKK:=aB hkk;have HKS:=aB hks;have HL:=aB hl;clear hkk hks hg0 hl KA;rw [eka] at y10;go_wp2_with fail
  refine con.mono ?_;rintro e w2 ⟨⟨v1,v2,rfl,hgo⟩,hb2⟩;clear con x0 x1 x2 x3 x4 x5 x6 x7 x8 x9 x10 y0 y1 y2 y3 y4 y5 y6 y7 y8 y9 y10 B0;have EL2:=EL1.next hb2 hz1;have hA2:=chain hA1 hb2;have HI2:=aB ((HI1.out.next hb2 (Mx _)).up hb2.size);have hz2:=My hz1 hb2.size;clear EL1 HI1 hb2;have HBad:Hid (¬ (aW ts data k0).1=0→(aW ts data p).1=(aW ts data k0).1):=fun c=>by
   have h:(eH ts data p.ks).1=(aW ts data k0).1:=by rw [HKS.out,eH,if_pos c]
   rw [ng h c]
  have HE0:Hid (∃ E,E=(aW ts data k0).1):=⟨_,rfl⟩
  obtain ⟨E0,hE0⟩:=HE0.out;rw [← hE0] at hgo;have HB2:Hid (¬ E0=0→(aW ts data p).1=E0):=by show _→_; rw [hE0]; exact HBad.out
  have HZ0:Hid (E0=0→(aW ts data k0).1=0):=fun c=>hE0 ▸ c
  rw [← hE0];clear HBad HE0 hE0;by_cases he:E0=0
  case neg =>
   have heb:(E0 != 0)=true:=by simpa using he
   have HE:Hid ((aW ts data p).1=E0∧¬ E0=0):=⟨HB2.out he,he⟩
   clear he hgo HB2 HZ0 EL2;go_wp2
   exact JX rfl rfl (Fy.bad HE.out.1 HE.out.2 hA2)
  obtain ⟨ca0,cc0,za0,zc0,rfl,rfl,ic0,iz0⟩:=hgo he;have HZ:=aB (HZ0.out he);have IC0:=aB ic0;have IZ0:=aB iz0;subst he;clear hgo HB2 HZ0 ic0 iz0;obtain ⟨y0,y1,y2,y3,y4,y5,y6,y7,y8,y9,y10⟩:=elZero0 EL2
  have HEv:Hid (aW ts data p=bL [] p.k p.n p.x p.xs p.gs [aA ts k0] [(aW ts data k0).2]):=by
   show _=_;rw [nm (by rw [HKS.out]; intro r hr; rw [List.mem_singleton.1 hr]; exact HZ.out),HKS.out];rfl
  have con:=FD p q HKK.out (aA ts k0) ca0 cc0 (aW ts data k0).2 za0 zc0 bX bX ((HP.out.next hA2 (Mx _)).up hA2.size) HOk.out IC0.out IZ0.out;unfold fw at con;have HEv2:Hid (∃ E Z,aW ts data p=(E,Z)∧bL [] p.k p.n p.x p.xs p.gs [aA ts k0] [(aW ts data k0).2]=(E,Z)):=⟨_,_,HEv.out,rfl⟩
  obtain ⟨E,Z,e1,e2⟩:=HEv2.out;have HE1:=aB e1;rw [e2] at con;dsimp only at con;have hlt:¬ (1:Int)<(p.ks.length:Int):=by have:=HL.out; omega
  clear HEv HEv2 e1 e2 eka;generalize (aW ts data k0).2=Z0 at *;go_wp2_with fail
  refine con.mono ?_;rintro e w3 ⟨⟨ua,uc,rfl,hu⟩,hb3⟩;clear con y0 y1 y2 y3 y4 y5 y6 y7 y8 y9 y10 EL2;have I3:=(HI2.out.next hb3 (Mx _)).up hb3.size;have hA3:=chain hA2 hb3;go_wp2
  exact JX rfl rfl (Fy.Gr HE1.out I3 hu hA3)
 ·have hl:p.ks.length=2:=by rw [hks]; rfl
  have hkk:p.k=4∨p.k=5∨p.k=6∨p.k=7∨p.k=8∨p.k=9:=by
   have h:=HLn.out;have g:=HK.out;rw [hl] at h;unfold fk at h;by_cases c:p.k=1
   ·rw [if_pos c] at h; cases h
   ·rw [if_neg c] at h;by_cases c2:4≤p.k∧p.k≤9
    ·omega
    ·rw [if_neg c2] at h; cases h
  have hkb:(p.k == 1)=false:=by rw [beq_eq_false_iff_ne]; omega
  have m0:k0 ∈ p.ks:=by rw [hks]; simp
  have KA:=((HP.out.ks.next hA1 (Mx _)).up hA1.size)
  obtain ⟨bk,ok,q0,eka,hbk,E0,B0⟩:=KA.elem (k:=0) ag;have hl0:(0:Int)<(p.ks.length:Int):=by omega
  have hg0:p.ks[0]=k0:=by simp only [hks,Nw]
  rw [hg0] at E0 B0;obtain ⟨x0,x1,⟨x2,x3,x4,x5,x6,x7⟩,x8,x9,x10⟩:=E0;simp only [Oa,NW,Nat.add_assoc,Nat.reduceAdd] at x0 x1 x2 x3 x4 x5 x6 x7 x8 x9 x10;have con:=IH.out k0 m0 q0 ta tc da dc w1 (HKid.out k0 m0).1 ((HT.out.next hA1 (Mx _)).up hA1.size) (HDt.out.next hA1) B0 (HOk.out.ks k0 m0);unfold fw at con;have HKK:=aB hkk;have HKS:=aB hks;have HL:=aB hl;clear hkk hks hg0 hl KA;rw [eka] at y10;go_wp2_with fail
  refine con.mono ?_;rintro e w2 ⟨⟨v1,v2,rfl,hgo⟩,hb2⟩;clear con x0 x1 x2 x3 x4 x5 x6 x7 x8 x9 x10 y0 y1 y2 y3 y4 y5 y6 y7 y8 y9 y10 B0;have EL2:=EL1.next hb2 hz1;have hA2:=chain hA1 hb2;have HI2:=aB ((HI1.out.next hb2 (Mx _)).up hb2.size);have hz2:=My hz1 hb2.size;clear EL1 HI1 hb2;have HBad:Hid (¬ (aW ts data k0).1=0→(aW ts data p).1=(aW ts data k0).1):=fun c=>by
   have h:(eH ts data p.ks).1=(aW ts data k0).1:=by rw [HKS.out,eH,if_pos c]
   rw [ng h c]
  have HE0:Hid (∃ E,E=(aW ts data k0).1):=⟨_,rfl⟩
  obtain ⟨E0,hE0⟩:=HE0.out;rw [← hE0] at hgo;have HB2:Hid (¬ E0=0→(aW ts data p).1=E0):=by show _→_; rw [hE0]; exact HBad.out
  have HZ0:Hid (E0=0→(aW ts data k0).1=0):=fun c=>hE0 ▸ c
  rw [← hE0];clear HBad HE0 hE0;by_cases he:E0=0
  case neg =>
   have heb:(E0 != 0)=true:=by simpa using he
   have HE:Hid ((aW ts data p).1=E0∧¬ E0=0):=⟨HB2.out he,he⟩
   clear he hgo HB2 HZ0 EL2;go_wp2
   exact JX rfl rfl (Fy.bad HE.out.1 HE.out.2 hA2)
  obtain ⟨ca0,cc0,za0,zc0,rfl,rfl,ic0,iz0⟩:=hgo he;have HZ:=aB (HZ0.out he);have IC0:=aB ic0;have IZ0:=aB iz0;subst he;clear hgo HB2 HZ0 ic0 iz0;obtain ⟨y0,y1,y2,y3,y4,y5,y6,y7,y8,y9,y10⟩:=elZero0 EL2
  have m1:k1 ∈ p.ks:=by rw [HKS.out]; simp
  have KA:=((HP.out.ks.next hA2 (Mx _)).up hA2.size)
  obtain ⟨bk2,ok2,q1,eka2,hbk2,E1,B1⟩:=KA.elem (k:=1) (by have:=HL.out; omega);have hl1:(1:Int)<(p.ks.length:Int):=by have:=HL.out; omega
  have hg1:∀ h:1<p.ks.length,p.ks[1]=k1:=fun h=>by simp only [HKS.out,NJ,Nw]
  rw [hg1] at E1 B1;obtain ⟨x0,x1,⟨x2,x3,x4,x5,x6,x7⟩,x8,x9,x10⟩:=E1;simp only [Nat.one_mul,Nat.add_assoc,Nat.reduceAdd] at x0 x1 x2 x3 x4 x5 x6 x7 x8 x9 x10;have con:=IH.out k1 m1 q1 ta tc da dc w2 (HKid.out k1 m1).1 ((HT.out.next hA2 (Mx _)).up hA2.size) (HDt.out.next hA2) B1 (HOk.out.ks k1 m1);unfold fw at con;clear hg1 KA eka;rw [eka2] at y10;go_wp2_with fail
  refine con.mono ?_;rintro e w3 ⟨⟨v3,v4,rfl,hgo⟩,hb3⟩;clear con x0 x1 x2 x3 x4 x5 x6 x7 x8 x9 x10 y0 y1 y2 y3 y4 y5 y6 y7 y8 y9 y10 B1;have EL3:=EL2.next hb3 hz2;have hA3:=chain hA2 hb3;have HI3:=aB ((HI2.out.next hb3 (Mx _)).up hb3.size);have IC1:=aB ((IC0.out.next hb3 (Mx _)).up hb3.size);have IZ1:=aB (IZ0.out.next hb3);clear EL2 HI2 hb3 IC0 IZ0;have HB2:Hid (∀ E,E=(aW ts data k1).1→¬ E=0→(aW ts data p).1=E):=fun E e c=>by
   subst e;have h:(eH ts data p.ks).1=(aW ts data k1).1:=by rw [HKS.out,eH,if_neg (by simp [HZ.out]),eH,if_pos c]
   rw [ng h c]
  obtain ⟨E1,hE1⟩:∃ E,E=(aW ts data k1).1:=⟨_,rfl⟩
  have HE1':=aB hE1;rw [← hE1] at hgo;rw [← hE1];clear hE1;by_cases he:E1=0
  case neg =>
   have heb:(E1 != 0)=true:=by simpa using he
   have HE:Hid ((aW ts data p).1=E1∧¬ E1=0):=⟨HB2.out _ HE1'.out he,he⟩
   clear he hgo HB2 HE1' EL3;go_wp2
   exact JX rfl rfl (Fy.bad HE.out.1 HE.out.2 hA3)
  obtain ⟨ca1,cc1,za1,zc1,rfl,rfl,ic1,iz1⟩:=hgo he;have HZ1:Hid ((aW ts data k1).1=0):=by show _=_; rw [← HE1'.out]; exact he
  have IC2:=aB ic1;have IZ2:=aB iz1;subst he;clear hgo HB2 HE1' ic1 iz1;obtain ⟨y0,y1,y2,y3,y4,y5,y6,y7,y8,y9,y10⟩:=elZero0 EL3;have HEv:Hid (aW ts data p=bL [] p.k p.n p.x p.xs p.gs [aA ts k0,aA ts k1] [(aW ts data k0).2,(aW ts data k1).2]):=by
   show _=_;rw [nm (by rw [HKS.out]; intro r hr; simp at hr; rcases hr with rfl | rfl; exact HZ.out; exact HZ1.out),HKS.out];rfl
  have con:=GJ p q HKK.out (aA ts k0) ca0 cc0 (aW ts data k0).2 za0 zc0 (aA ts k1) ca1 cc1 (aW ts data k1).2 za1 zc1 ((HP.out.next hA3 (Mx _)).up hA3.size) IC1.out IZ1.out IC2.out IZ2.out ⟨(HKid.out k0 m0).2,(HKid.out k1 m1).2⟩;unfold fw at con;have HEv2:Hid (∃ E Z,aW ts data p=(E,Z)∧bL [] p.k p.n p.x p.xs p.gs [aA ts k0,aA ts k1] [(aW ts data k0).2,(aW ts data k1).2]=(E,Z)):=⟨_,_,HEv.out,rfl⟩
  obtain ⟨E,Z,e1,e2⟩:=HEv2.out;have HE1:=aB e1;rw [e2] at con;dsimp only at con;clear HEv HEv2 e1 e2 eka2;go_wp2_with fail
  refine con.mono ?_;rintro e w4 ⟨⟨ua,uc,rfl,hu⟩,hb4⟩;clear con y0 y1 y2 y3 y4 y5 y6 y7 y8 y9 y10;have I4:=(HI3.out.next hb4 (Mx _)).up hb4.size;have hA4:=chain hA3 hb4;go_wp2
  exact JX rfl rfl (Fy.Gr HE1.out I4 hu hA4)
theorem GW (ts:List (List Int)) (data:List (List Zp)) (hD:fI ts data=0):∀ p,BG ts data p:=Pl.ind fun k n x xs gs ks ih=>Jb ts data hD (.mk k n x xs gs ks) ih
theorem Bt (ts:List (List Int)) (data:List (List Zp)) (p:Pl) (q:Pw) (ta:Option Addr) (tc:Nat) (da:Option Addr) (dc:Nat) {w:World} (hT:jG w w ta ts) (hdt:nN w da data) (hp:kH w w p q) (hok:gu p) (hn:data.length≤10000000000000) :
  Calls prog 20 #[.slice ta ts.length tc,fw p q,.slice da data.length dc] w (jL (Fq ts data p) (Fx ts data p) w):=by
 have HOk:=aB hok;have HT:=aB hT;have HDt:=aB hdt;have HP:=aB hp;have HN:=aB hn;have hA:=aN w (.cells (fE p q) 31);have EL:=ft.new w p q 31;have hz0:=an (bq w (fE p q) 31);clear hT hdt hp hok hn;generalize hE:Fx ts data p=E;generalize hZ:Fq ts data p=Z;have HE:Hid (Fx ts data p=E∧Fq ts data p=Z):=⟨hE,hZ⟩
 clear hE hZ;unfold fw;go_enter func20,ntmps20;go_upto_region 1 with fail
 generalize w.alloc _=wA at *;have con:=qp ts p q ta tc wA ((HT.out.next hA (Mx _)).up hA.size) ((HP.out.next hA (Mx _)).up hA.size) HOk.out;obtain ⟨le,hle⟩:∃ le,le=dp ts p:=⟨_,rfl⟩
 have HL:=aB hle.symm;rw [← hle] at con;clear hle;unfold fw at con;obtain ⟨y0,y1,y2,y3,y4,y5,y6,y7,y8,y9,y10⟩:=elZero0 EL
 go_wp2_with fail
 refine con.mono ?_;rintro e w1 ⟨a1,c1,rfl,_,hb1⟩;clear con y0 y1 y2 y3 y4 y5 y6 y7 y8 y9 y10;have EL1:=EL.next hb1 hz0;have hA1:=chain hA hb1;have hz1:=My hz0 hb1.size;clear EL hz0 hb1 hA;generalize (if le=0 then aA ts p else []).length=n1 at *;by_cases hl:le=0
 case neg =>
  have hlb:(le != 0)=true:=by simpa using hl
  obtain ⟨g1,g2⟩:=zt (ts:=ts) (data:=data) (p:=p) (by rw [HL.out]; exact hl);have e1:E=le:=by rw [← HE.out.1,g1,HL.out]
  have e2:Z = []:=by rw [← HE.out.2,g2]
  subst e1 e2;clear hl g1 g2 HE HL EL1;go_wp2
  exact bJ rfl rfl ⟨⟨none,0,rfl,lJ _⟩,hA1⟩
 subst hl;have con:=Bc ts data ta tc da dc w1 ((HT.out.next hA1 (Mx _)).up hA1.size) (HDt.out.next hA1) HN.out;obtain ⟨de,hde⟩:∃ de,de=fI ts data:=⟨_,rfl⟩
 have HD:=aB hde.symm;rw [← hde] at con;clear hde;go_wp2_with fail
 refine bC con fun w2 hb2=>?_;clear con;have EL2:=EL1.next hb2 hz1;have hA2:=chain hA1 hb2;clear EL1 hz1 hb2 hA1;by_cases hl:de=0
 case neg =>
  have hlb:(de != 0)=true:=by simpa using hl
  obtain ⟨g1,g2⟩:=yY (ts:=ts) (data:=data) (p:=p) HL.out (by rw [HD.out]; exact hl);have e1:E=de:=by rw [← HE.out.1,g1,HD.out]
  have e2:Z = []:=by rw [← HE.out.2,g2]
  subst e1 e2;clear hl g1 g2 HE HL HD EL2;go_wp2
  exact bJ rfl rfl ⟨⟨none,0,rfl,lJ _⟩,hA2⟩
 subst hl;have con:=GW ts data HD.out p q ta tc da dc w2 HL.out ((HT.out.next hA2 (Mx _)).up hA2.size) (HDt.out.next hA2) ((HP.out.next hA2 (Mx _)).up hA2.size) HOk.out;obtain ⟨g1,g2⟩:=Cd (ts:=ts) (data:=data) (p:=p) HL.out HD.out;have HE1:=aB (g1.symm.trans HE.out.1);have HE2:=aB (g2.symm.trans HE.out.2);unfold Fy at con;rw [HE1.out,HE2.out] at con;unfold fw at con;obtain ⟨y0,y1,y2,y3,y4,y5,y6,y7,y8,y9,y10⟩:=elZero0 EL2;clear g1 g2 HE HL HD;go_wp2_with fail
 refine con.mono ?_;rintro e w3 ⟨⟨v1,v2,rfl,hgo⟩,hb3⟩;clear con y0 y1 y2 y3 y4 y5 y6 y7 y8 y9 y10;have hA3:=chain hA2 hb3;by_cases hl:E=0
 case neg =>
  have hlb:(E != 0)=true:=by simpa using hl
  have e2:Z = []:=by rw [← HE2.out]; exact AE (by rw [HE1.out]; exact hl)
  subst e2;clear hl hgo HE1 HE2;go_wp2
  exact bJ rfl rfl ⟨⟨none,0,rfl,lJ _⟩,hA3⟩
 obtain ⟨ca,cc,za,zc,rfl,rfl,_,iz⟩:=hgo hl;subst hl;clear hgo HE1 HE2;go_wp2
 exact bJ rfl rfl ⟨⟨za,zc,rfl,iz⟩,hA3⟩
end Go.Proofs.YtoefpglknaiaeaaGreat
