/- Together: NB, NC, ND, NP, PF, G8, NK, NL, RA. -/
import Derived.Test.YtjebpkhkjkjphaaGreatP10
import Derived.Test.YtjebpkhkjkjphaaGreatP9
import Derived.Test.YtjebpkhkjkjphaaGreatP7
namespace Go.Proofs.YtjebpkhkjkjphaaGreat
open Go.RowKit Go.Lib Go.Shelf
set_option maxRecDepth 100000
set_option maxHeartbeats 16000000
theorem BV {ts:List (List Int)} {p:Pl} {m d:Int} (h:¬ dX p.k p.ks.length (m+1) d=0):aV ts p m d=(dX p.k p.ks.length (m+1) d,m+1):=by
 cases p; simp only [Pl.k,Pl.ks] at h ⊢; rw [aV,if_pos h]
theorem BA {ts:List (List Int)} {p:Pl} {m d:Int} (h:dX p.k p.ks.length (m+1) d=0) (he:¬ (aS ts p.ks (m+1) (d+1)).1=0):aV ts p m d=aS ts p.ks (m+1) (d+1):=by
 cases p; simp only [Pl.k,Pl.ks] at h he; rw [aV,if_neg (by simp [h]),if_pos he]; rfl
theorem CF {ts:List (List Int)} {p:Pl} {m d:Int} (h:dX p.k p.ks.length (m+1) d=0) (he:(aS ts p.ks (m+1) (d+1)).1=0):aV ts p m d=(eI ts p.k p.n p.x p.xs p.gs (p.ks.map (ag ts)),(aS ts p.ks (m+1) (d+1)).2):=by
 cases p; simp only [Pl.k,Pl.ks] at h he; rw [aV,if_neg (by simp [h]),if_neg (by simp [he]),bB]; rfl
theorem Ew (ts:List (List Int)) (p:Pl):ag ts p=kC ts p.k p.n p.xs p.gs (p.ks.map (ag ts)):=by
 cases p; rw [ag,bB]; rfl
theorem mD.all {t:Nat} {ta:Option Addr} {n tc:Nat} {m:Int} {W:World} (h:mD W t ta n tc m) (g:Nat) (hn:g≠t) (vs:List Value) (o:Nat):mD (bQ W g o vs) t ta n tc m :=
 ⟨by rw [gP]; exact h.lt,(dv g vs W o t 0 (.inl (Ne.symm hn))).trans h.c0,(dv g vs W o t 1 (.inl (Ne.symm hn))).trans h.c1,(jv g vs W o t 1).trans h.f1⟩
theorem iA.all {b off:Nat} {p:Pl} {q:Pw} {W:World} (h:iA W b off p q) (g:Nat) (hn:b≠g) (vs:List Value) (o:Nat):iA (bQ W g o vs) b off p q :=
 have k:=fun x=>dv g vs W o b x (.inl hn)
 ⟨(k _).trans h.c0,(k _).trans h.c1,⟨(k _).trans h.sg.c0,(k _).trans h.sg.c1,(k _).trans h.sg.c2,(k _).trans h.sg.c3,(k _).trans h.sg.c4,(k _).trans h.sg.c5⟩,(k _).trans h.c8,(k _).trans h.c9,(k _).trans h.eM⟩
theorem ni (g k:Nat) (hn:k≠g):∀ (vs:List Value) (W:World) (o:Nat),k<W.heap.size→(bQ W g o vs).heap[k]? = W.heap[k]?
 | [],_,_,_=>rfl
 | v :: r,W,o,hk=>by
  rw [bQ,ni g k hn r _ _ (by rw [MR]; exact hk)]
  exact ((aP.refl g W).set o v).2 k hk hn
def zo (ts:List (List Int)) (p:Pl):Prop :=
 ∀ (B t:Nat) (ta:Option Addr) (tc:Nat) (q:Pw) (m d:Int) (w:World),oh B w p q→iW B w ta ts→B≤t→mD w t ta ts.length tc m→0≤m→m≤60→0≤d→d≤16→dx p →
  Calls Tryz.prog 28 #[.pointer (some ⟨t,0,none⟩),gR p q,.int .i64 d] w fun e w'=>(∃ v,e = .returned (.tuple #[v,.int .i64 (aV ts p m d).1])∧((aV ts p m d).1=0→∃ ca cc na nc,v=mZ p q ca (ag ts p).length cc na nc∧Bm ts B w.heap.size w' p q ca na)∧(¬ (aV ts p m d).1=0→v=kz))∧aP t w w'∧mD w' t ta ts.length tc (aV ts p m d).2
theorem Ic (ts:List (List Int)) (hts:gf ts=0) (p:Pl) (ih:∀ r ∈ p.ks,zo ts r):zo ts p:=by
 intro B t ta tc q m d w hp hT hBt ht hm0 hm hd0 hd hok;have htw:=ht.lt;have HT:=aw hts;have HK:=aw hok;have IH:=aw ih;generalize hr:aV ts p m d=r;have HR:=aw hr;clear hr hts hok ih;have zS:(w.setCell ⟨t,1,none⟩ (.int .i64 (m+1))).heap.size=w.heap.size:=MR _ _ _;have TS:=ht.count (m+1);have XS:=(aP.refl t w).set 1 (.int .i64 (m+1));have E0:=iA.new (w.setCell ⟨t,1,none⟩ (.int .i64 (m+1))) p q 31;have l0:=ae (ak (w.setCell ⟨t,1,none⟩ (.int .i64 (m+1))) (dS p q) 31)
 have z0:((w.setCell ⟨t,1,none⟩ (.int .i64 (m+1))).alloc (.cells (dS p q) 31)).heap.size=w.heap.size+1:=by simp
 have h0:Below (w.setCell ⟨t,1,none⟩ (.int .i64 (m+1))).heap.size (w.setCell ⟨t,1,none⟩ (.int .i64 (m+1))) ((w.setCell ⟨t,1,none⟩ (.int .i64 (m+1))).alloc (.cells (dS p q) 31)):=(Md _ _).alloc (Mc _) _
 have h1:Below ((w.setCell ⟨t,1,none⟩ (.int .i64 (m+1))).alloc (.cells (dS p q) 31)).heap.size ((w.setCell ⟨t,1,none⟩ (.int .i64 (m+1))).alloc (.cells (dS p q) 31)) (((w.setCell ⟨t,1,none⟩ (.int .i64 (m+1))).alloc (.cells (dS p q) 31)).alloc (.cells wG 56)):=(Md _ _).alloc (Mc _) _
 have QR:=ak ((w.setCell ⟨t,1,none⟩ (.int .i64 (m+1))).alloc (.cells (dS p q) 31)) wG 56;rw [z0] at QR;rw [zS] at E0 l0;have h01:=chain h0 h1;have T0:=TS.next h01;have X0:=XS.trans (aP.of h01 (by rw [zS]; exact NI htw));have EA:=E0.next h1 l0;have H2:=ht.c1;have H3:=ht.f1
 have zA:w.heap.size+1<(((w.setCell ⟨t,1,none⟩ (.int .i64 (m+1))).alloc (.cells (dS p q) 31)).alloc (.cells wG 56)).heap.size:=ae QR;have hWm:IntKind.i64.wrap (m+1)=m+1:=IntWalk.i64_in _ ⟨by omega,by omega⟩;clear XS E0 TS;unfold gR;go_enter Tryz.func28,Tryz.ntmps28;go_wp2_with fail
 clear H2 H3 h0 h1 h01 l0 z0 zS;generalize ((w.setCell ⟨t,1,none⟩ (.int .i64 (m+1))).alloc (.cells (dS p q) 31)).alloc (.cells wG 56)=wA at *
 have hCC:∀ W W':World,(iA W w.heap.size 0 p q∧w.heap.size<W.heap.size∧W.cell? ⟨t,1,none⟩=some (.int .i64 (m+1))∧t<W.heap.size)→Below W.heap.size W W'→(iA W' w.heap.size 0 p q∧w.heap.size<W'.heap.size∧W'.cell? ⟨t,1,none⟩=some (.int .i64 (m+1))∧t<W'.heap.size):=fun W W' h hb=>⟨h.1.next hb h.2.1,Mh h.2.1 hb.size,(hb.cell (p:=⟨t,1,none⟩) h.2.2.2).trans h.2.2.1,Mh h.2.2.2 hb.size⟩
 have hd:Below wA.heap.size wA wA.drew:=(Md _ _).drew;have CW:=hCC _ _ ⟨EA,by omega,T0.c1,by omega⟩ hd;refine aH (fun W=>(iA W w.heap.size 0 p q∧w.heap.size<W.heap.size∧W.cell? ⟨t,1,none⟩=some (.int .i64 (m+1))∧t<W.heap.size)) (by kernel_rfl) ?_;refine az hCC 23 0 (.agg (dS p q)) (fun n hn=>?_) CW ?_
 ·obtain ⟨⟨n0,n1,⟨n2,n3,n4,n5,n6,n7⟩,n8,n9,n10⟩,_⟩:=hn;simp only [Mq] at n1 n2 n3 n4 n5 n6 n7 n8 n9 n10;go_simp
 simp only [pD,pB,pC];refine az hCC 24 1 (.pointer (some ⟨t,0,none⟩)) (fun n hn=>?_) CW ?_
 ·go_simp
 simp only [pD,pB,pC];refine az hCC 25 2 (.pointer (some ⟨t,0,none⟩)) (fun n hn=>?_) CW ?_
 ·go_simp
 simp only [pD,pB,pC];refine az hCC 26 3 (.pointer (some ⟨t,1,none⟩)) (fun n hn=>?_) CW ?_
 ·go_simp
 simp only [pD,pB,pC];refine az hCC 27 4 (.int .i64 (m+1)) (fun n hn=>?_) CW ?_
 ·have hc:=hn.2.2.1;go_simp
 simp only [pD,pB,pC];refine az hCC 28 5 (.int .i64 d) (fun n hn=>?_) CW ?_
 ·go_simp
 simp only [pD,pB,pC];refine bD 6 ?_;intro w1 hb1
 have CW1:=hCC _ _ CW hb1;have con:=rQ p q (m+1) d w1;unfold gR at con;generalize hw0:dX p.k p.ks.length (m+1) d=e0 at *;have HW:=aw hw0;clear hw0;refine wpOp_step rfl (fun K hK=>?_);go_simp;refine con.mono ?_;rintro e w2 ⟨rfl,hb2⟩;clear con;have CW2:=hCC _ _ CW1 hb2;refine hK _ _ ⟨CW2,?_⟩;clear hK K CW1 CW;refine az hCC 8 7 (.int .i64 e0) (fun n hn=>?_) CW2 ?_
 ·go_simp
 simp only [pD,pB,pC];refine bo (by kernel_rfl) ?_;intro w3 hb3';have hb3:=chain hd (chain hb1 (chain hb2 hb3'));clear CW2 hCC hb3' hb2 hb1 hd;have T3:=T0.next hb3;have E3:=EA.next hb3 (by omega);have QR:=(hb3.block _ (by omega)).trans QR;have X3:=X0.trans (aP.of hb3 (by omega));have z3:=hb3.size;clear T0 EA X0;by_cases hw:e0=0;rotate_left
 ·have er:r=(e0,m+1):=by rw [← HR.out,BV (by rw [HW.out]; exact hw),HW.out]
  subst er;have HEr:¬ e0=0:=hw;have hwb:(e0 != 0)=true:=by simpa using hw
  clear HR hw;have d0:w3.cell? ⟨w.heap.size+1,0,none⟩=some (.int .i64 0):=cell_of (i:=0) QR rfl;have f0:w3.frozen? ⟨w.heap.size+1,0,none⟩=false:=Mg w3 (w.heap.size+1) 0 _ _ QR;have d1:w3.cell? ⟨w.heap.size+1,1,none⟩=some (.int .i64 0):=cell_of (i:=1) QR rfl;have f1:w3.frozen? ⟨w.heap.size+1,1,none⟩=false:=Mg w3 (w.heap.size+1) 1 _ _ QR;have d2:w3.cell? ⟨w.heap.size+1,2,none⟩=some (.int .i64 0):=cell_of (i:=2) QR rfl;have f2:w3.frozen? ⟨w.heap.size+1,2,none⟩=false:=Mg w3 (w.heap.size+1) 2 _ _ QR
  have d3:w3.cell? ⟨w.heap.size+1,3,none⟩=some (.int .i64 0):=cell_of (i:=3) QR rfl;have f3:w3.frozen? ⟨w.heap.size+1,3,none⟩=false:=Mg w3 (w.heap.size+1) 3 _ _ QR;have d4:w3.cell? ⟨w.heap.size+1,4,none⟩=some (.int .i64 0):=cell_of (i:=4) QR rfl;have f4:w3.frozen? ⟨w.heap.size+1,4,none⟩=false:=Mg w3 (w.heap.size+1) 4 _ _ QR;have d5:w3.cell? ⟨w.heap.size+1,5,none⟩=some (.string ⟨#[]⟩):=cell_of (i:=5) QR rfl;have f5:w3.frozen? ⟨w.heap.size+1,5,none⟩=false:=Mg w3 (w.heap.size+1) 5 _ _ QR
  have d6:w3.cell? ⟨w.heap.size+1,6,none⟩=some (.int .i64 0):=cell_of (i:=6) QR rfl;have f6:w3.frozen? ⟨w.heap.size+1,6,none⟩=false:=Mg w3 (w.heap.size+1) 6 _ _ QR;have d7:w3.cell? ⟨w.heap.size+1,7,none⟩=some (.slice none 0 0):=cell_of (i:=7) QR rfl;have f7:w3.frozen? ⟨w.heap.size+1,7,none⟩=false:=Mg w3 (w.heap.size+1) 7 _ _ QR;have d8:w3.cell? ⟨w.heap.size+1,8,none⟩=some (.slice none 0 0):=cell_of (i:=8) QR rfl;have f8:w3.frozen? ⟨w.heap.size+1,8,none⟩=false:=Mg w3 (w.heap.size+1) 8 _ _ QR
  have d9:w3.cell? ⟨w.heap.size+1,9,none⟩=some (.slice none 0 0):=cell_of (i:=9) QR rfl;have f9:w3.frozen? ⟨w.heap.size+1,9,none⟩=false:=Mg w3 (w.heap.size+1) 9 _ _ QR;have d10:w3.cell? ⟨w.heap.size+1,10,none⟩=some (.slice none 0 0):=cell_of (i:=10) QR rfl;have f10:w3.frozen? ⟨w.heap.size+1,10,none⟩=false:=Mg w3 (w.heap.size+1) 10 _ _ QR;have d11:w3.cell? ⟨w.heap.size+1,11,none⟩=some (.slice none 0 0):=cell_of (i:=11) QR rfl;have f11:w3.frozen? ⟨w.heap.size+1,11,none⟩=false:=Mg w3 (w.heap.size+1) 11 _ _ QR
  have d12:w3.cell? ⟨w.heap.size+1,12,none⟩=some (.slice none 0 0):=cell_of (i:=12) QR rfl;have f12:w3.frozen? ⟨w.heap.size+1,12,none⟩=false:=Mg w3 (w.heap.size+1) 12 _ _ QR;have XE:=jG (w.heap.size+1) (Ns _) (NI htw) ph w3 0 X3;have TE:mD (bQ w3 (w.heap.size+1) 0 ph) t ta ts.length tc _:=mD.all T3 (w.heap.size+1) (by omega) ph 0;clear QR;go_wp2_with fail
  first
   | exact Me (v:=.tuple #[kz,.int .i64 e0]) (by simp [results,Tryz.results28,go_sem,kz,d0,d1,d2,d3,d4,d5,d6,d7,d8,d9,d10,d11,d12]) rfl ⟨rfl,XE,TE⟩
   | exact Me (v:=.tuple #[kz,.int .i64 e0]) (by simp [results,Tryz.results28,go_sem,kz,d0,d1,d2,d3,d4,d5,d6,d7,d8,d9,d10,d11,d12]) rfl ⟨⟨_,rfl,rfl⟩,XE,TE⟩
   | exact Me (v:=.tuple #[kz,.int .i64 e0]) (by simp [results,Tryz.results28,go_sem,kz,d0,d1,d2,d3,d4,d5,d6,d7,d8,d9,d10,d11,d12]) rfl ⟨⟨_,rfl,fun c=>absurd c HEr,fun _=>rfl⟩,XE,TE⟩
   | trace_state
 subst hw;obtain ⟨hln,hk1,hk13,hm1,hd1⟩:=fJ HW.out;have hl2:p.ks.length≤2:=by rw [hln]; exact kV _
 have HL:=aw hln;have hmk:=zK hl2;clear hln;have eM:=E3.eM;simp only [Mq] at eM;have zl:w.heap.size<w3.heap.size:=by omega
 go_wp2_with fail
 have hal4:=aa w3 (.cells (ia p.ks.length) 56);have KT:=Bx.new ts (B:=B) (lo:=w3.heap.size+1) w3 p.ks (by omega) (Nat.lt_succ_self _) 56;have T4:=T3.next hal4;have E4:=E3.next hal4 (by omega);have QR4:=(hal4.block _ (ae QR)).trans QR;have X4:=X3.trans (aP.of hal4 (by omega));have hgw:w.heap.size+1<w3.heap.size:=by omega
 clear T3 E3 QR X3 hmk eM hal4;generalize w3.alloc (.cells (ia p.ks.length) 56)=w4 at *;generalize w3.heap.size=g at *
 go_loopw [41] (fun i wr=>∃ (j:Nat) (mq:Int),j≤p.ks.length∧i = .int .i64 j∧0≤mq∧mq≤60∧Hid (aS ts p.ks (m+1) (d+1)=aS ts (p.ks.drop j) mq (d+1))∧aP t w wr∧mD wr t ta ts.length tc mq∧iA wr w.heap.size 0 p q∧wr.heap[w.heap.size+1]? = some (.cells wG 56 (0,0))∧Bx ts B (g+1) g wr p.ks j) (fun i _=>p.ks.length - (intOf i).toNat)
 case atStart=>exact ⟨0,m+1,Mj _,rfl,by omega,hm1,rfl,X4,T4,E4,QR4,KT⟩
 case round =>
  obtain ⟨j,mq,hj,rfl,hq0,hq,HE,hX,hTy,hE,QR,hKT⟩:=hrel;clear X4 T4 E4 QR4 KT;have hz:=hX.size;have hgl:=hKT.lt;by_cases hlt:j<p.ks.length
  ·obtain ⟨b,off,q1,eka,hbl,EL,PB⟩:=(jF.next (hX.below hBt) (Mc _) hp.ks).elem hlt;obtain ⟨y0,y1,⟨y2,y3,y4,y5,y6,y7⟩,y8,y9,y10⟩:=EL;have hjz:(j:Int)<(p.ks.length:Int):=by omega
   have hal:=aa wr (.cells (dS p.ks[j] q1) 31)
   have zk:(wr.alloc (.cells (dS p.ks[j] q1) 31)).heap.size=wr.heap.size+1:=by simp
   have hBr:B≤wr.heap.size:=by omega
   have con:=IH.out p.ks[j] (Mk hlt) B t ta tc q1 mq (d+1) _ (PB.next hal hBr) ((hT.next (hX.below hBt) (Mc _)).next hal hBr) hBt (hTy.next hal) hq0 hq (by omega) (by omega) (HK.out.ks _ (Mk hlt));unfold gR at con;go_upto_region 9 with fail
   clear y0 y1 y2 y3 y4 y5 y6 y7 y8 y9 y10;have EK:=iA.new wr p.ks[j] q1 31;generalize wr.alloc (.cells (dS p.ks[j] q1) 31)=wk at *;obtain ⟨y0,y1,⟨y2,y3,y4,y5,y6,y7⟩,y8,y9,y10⟩:=EK;simp only [Mq] at y1 y2 y3 y4 y5 y6 y7 y8 y9 y10;go_wp2_with fail
   refine con.mono ?_;rintro e w5 ⟨⟨v5,rfl,hok,hbad⟩,hX5,hT5⟩;clear con y0 y1 y2 y3 y4 y5 y6 y7 y8 y9 y10;have XK:=aP.of (t:=t) hal (by omega);have X5:=XK.trans hX5;have X5w:=hX.trans X5;have KT5:=hKT.next X5 hBt (by omega);have E5:=hE.oE X5 (by omega) (by omega);have QR5:=(X5.2 _ (ae QR) (by omega)).trans QR;have hz5:=hX5.size;generalize hly:aV ts p.ks[j] mq (d+1)=ly at *;have HY:=aw hly;obtain ⟨e1,n1⟩:=ly;clear hly hKT hE QR hTy hX XK hX5;by_cases he:e1=0
   ·subst he;obtain ⟨ca,cc,na,nc,rfl,ND⟩:=hok rfl;have hn1:=AX ts p.ks[j] mq (d+1) (by rw [HY.out]);rw [HY.out] at hn1;have HN:=aw hn1;have HE':Hid (aS ts p.ks (m+1) (d+1)=aS ts (p.ks.drop (j+1)) n1 (d+1)):=by
     show _=_;rw [HE.out,xj hlt (by rw [HY.out]),HY.out]
    have hal6:=aa w5 (.cells (l7 p.ks[j] q1 ca (ag ts p.ks[j]).length cc na p.ks[j].ks.length nc) 56);have X6:=aP.of (t:=t) hal6 (by omega);have KT6:=KT5.next X6 hBt (by omega)
    have ND6:=(ND.wide (lo':=g+1) (by omega)).next (Kept.of hal6 (by omega));have T6:=hT5.next hal6;have E6:=E5.oE X6 (by omega) (by omega);have QR6:=(X6.2 _ (ae QR5) (by omega)).trans QR5;have X6w:=X5w.trans X6;have hz6:=hal6.size
    have Q6:=ak w5 (l7 p.ks[j] q1 ca (ag ts p.ks[j]).length cc na p.ks[j].ks.length nc) 56;have hj13:j*13+13≤p.ks.length*13:=by
     have:(j+1)*13≤p.ks.length*13:=M1 13 hlt;omega
    unfold mZ;clear hn1 HE HY hok hbad KT5 ND hT5 E5 QR5 X5w X5 X6;go_upto_region 12 with fail
    generalize w5.alloc (.cells (l7 p.ks[j] q1 ca (ag ts p.ks[j]).length cc na p.ks[j].ks.length nc) 56)=w6 at *;obtain ⟨u0',r0⟩:=KT6.room (j*13) (by omega);have g0:=KT6.fz (j*13);obtain ⟨u1',r1⟩:=KT6.room (j*13+1) (by omega);have g1:=KT6.fz (j*13+1)
    obtain ⟨u2',r2⟩:=KT6.room (j*13+2) (by omega);have g2:=KT6.fz (j*13+2);obtain ⟨u3',r3⟩:=KT6.room (j*13+3) (by omega);have g3:=KT6.fz (j*13+3);obtain ⟨u4',r4⟩:=KT6.room (j*13+4) (by omega);have g4:=KT6.fz (j*13+4);obtain ⟨u5',r5⟩:=KT6.room (j*13+5) (by omega);have g5:=KT6.fz (j*13+5);obtain ⟨u6',r6⟩:=KT6.room (j*13+6) (by omega);have g6:=KT6.fz (j*13+6);obtain ⟨u7',r7⟩:=KT6.room (j*13+7) (by omega);have g7:=KT6.fz (j*13+7);obtain ⟨u8',r8⟩:=KT6.room (j*13+8) (by omega);have g8:=KT6.fz (j*13+8);obtain ⟨u9',r9⟩:=KT6.room (j*13+9) (by omega);have g9:=KT6.fz (j*13+9)
    obtain ⟨u10',r10⟩:=KT6.room (j*13+10) (by omega);have g10:=KT6.fz (j*13+10);obtain ⟨u11',r11⟩:=KT6.room (j*13+11) (by omega);have g11:=KT6.fz (j*13+11);obtain ⟨u12',r12⟩:=KT6.room (j*13+12) (by omega);have g12:=KT6.fz (j*13+12);have m0:=cell_of (i:=0) Q6 rfl;have m1:=cell_of (i:=1) Q6 rfl;have m2:=cell_of (i:=2) Q6 rfl;have m3:=cell_of (i:=3) Q6 rfl;have m4:=cell_of (i:=4) Q6 rfl;have m5:=cell_of (i:=5) Q6 rfl;have m6:=cell_of (i:=6) Q6 rfl;have m7:=cell_of (i:=7) Q6 rfl;have m8:=cell_of (i:=8) Q6 rfl;have m9:=cell_of (i:=9) Q6 rfl;have m10:=cell_of (i:=10) Q6 rfl
    have m11:=cell_of (i:=11) Q6 rfl;have m12:=cell_of (i:=12) Q6 rfl;go_wp2_with fail
    have FX:aP t w ((((((((((((((w6).setCell ⟨g,j*13,none⟩ (.int .i64 p.ks[j].k)).setCell ⟨g,j*13+1,none⟩ (.int .i64 p.ks[j].n)).setCell ⟨g,j*13+2,none⟩ (.int .i64 p.ks[j].x.k)).setCell ⟨g,j*13+3,none⟩ (.int .i64 p.ks[j].x.v.1)).setCell ⟨g,j*13+4,none⟩ (.int .i64 p.ks[j].x.v.2.1)).setCell ⟨g,j*13+5,none⟩ (.string p.ks[j].x.v.2.2)).setCell ⟨g,j*13+6,none⟩ (.int .i64 p.ks[j].x.c)).setCell ⟨g,j*13+7,none⟩ (.slice q1.xa p.ks[j].x.ks.length q1.xc)).setCell ⟨g,j*13+8,none⟩ (.slice q1.sa p.ks[j].xs.length q1.sc)).setCell ⟨g,j*13+9,none⟩ (.slice q1.ga p.ks[j].gs.length q1.gc)).setCell ⟨g,j*13+10,none⟩ (.slice q1.ka p.ks[j].ks.length q1.kc)).setCell ⟨g,j*13+11,none⟩ (.slice ca (ag ts p.ks[j]).length cc)).setCell ⟨g,j*13+12,none⟩ (.slice na p.ks[j].ks.length nc)):=jG g (by omega) (by omega) (vO p.ks[j] q1 ca (ag ts p.ks[j]).length cc na nc) w6 (j*13) X6w
    have FT:mD ((((((((((((((w6).setCell ⟨g,j*13,none⟩ (.int .i64 p.ks[j].k)).setCell ⟨g,j*13+1,none⟩ (.int .i64 p.ks[j].n)).setCell ⟨g,j*13+2,none⟩ (.int .i64 p.ks[j].x.k)).setCell ⟨g,j*13+3,none⟩ (.int .i64 p.ks[j].x.v.1)).setCell ⟨g,j*13+4,none⟩ (.int .i64 p.ks[j].x.v.2.1)).setCell ⟨g,j*13+5,none⟩ (.string p.ks[j].x.v.2.2)).setCell ⟨g,j*13+6,none⟩ (.int .i64 p.ks[j].x.c)).setCell ⟨g,j*13+7,none⟩ (.slice q1.xa p.ks[j].x.ks.length q1.xc)).setCell ⟨g,j*13+8,none⟩ (.slice q1.sa p.ks[j].xs.length q1.sc)).setCell ⟨g,j*13+9,none⟩ (.slice q1.ga p.ks[j].gs.length q1.gc)).setCell ⟨g,j*13+10,none⟩ (.slice q1.ka p.ks[j].ks.length q1.kc)).setCell ⟨g,j*13+11,none⟩ (.slice ca (ag ts p.ks[j]).length cc)).setCell ⟨g,j*13+12,none⟩ (.slice na p.ks[j].ks.length nc)) t ta ts.length tc n1:=mD.all T6 g (by omega) (vO p.ks[j] q1 ca (ag ts p.ks[j]).length cc na nc) (j*13)
    have FE:iA ((((((((((((((w6).setCell ⟨g,j*13,none⟩ (.int .i64 p.ks[j].k)).setCell ⟨g,j*13+1,none⟩ (.int .i64 p.ks[j].n)).setCell ⟨g,j*13+2,none⟩ (.int .i64 p.ks[j].x.k)).setCell ⟨g,j*13+3,none⟩ (.int .i64 p.ks[j].x.v.1)).setCell ⟨g,j*13+4,none⟩ (.int .i64 p.ks[j].x.v.2.1)).setCell ⟨g,j*13+5,none⟩ (.string p.ks[j].x.v.2.2)).setCell ⟨g,j*13+6,none⟩ (.int .i64 p.ks[j].x.c)).setCell ⟨g,j*13+7,none⟩ (.slice q1.xa p.ks[j].x.ks.length q1.xc)).setCell ⟨g,j*13+8,none⟩ (.slice q1.sa p.ks[j].xs.length q1.sc)).setCell ⟨g,j*13+9,none⟩ (.slice q1.ga p.ks[j].gs.length q1.gc)).setCell ⟨g,j*13+10,none⟩ (.slice q1.ka p.ks[j].ks.length q1.kc)).setCell ⟨g,j*13+11,none⟩ (.slice ca (ag ts p.ks[j]).length cc)).setCell ⟨g,j*13+12,none⟩ (.slice na p.ks[j].ks.length nc)) w.heap.size 0 p q:=E6.all g (by omega) (vO p.ks[j] q1 ca (ag ts p.ks[j]).length cc na nc) (j*13)
    have FQ:((((((((((((((w6).setCell ⟨g,j*13,none⟩ (.int .i64 p.ks[j].k)).setCell ⟨g,j*13+1,none⟩ (.int .i64 p.ks[j].n)).setCell ⟨g,j*13+2,none⟩ (.int .i64 p.ks[j].x.k)).setCell ⟨g,j*13+3,none⟩ (.int .i64 p.ks[j].x.v.1)).setCell ⟨g,j*13+4,none⟩ (.int .i64 p.ks[j].x.v.2.1)).setCell ⟨g,j*13+5,none⟩ (.string p.ks[j].x.v.2.2)).setCell ⟨g,j*13+6,none⟩ (.int .i64 p.ks[j].x.c)).setCell ⟨g,j*13+7,none⟩ (.slice q1.xa p.ks[j].x.ks.length q1.xc)).setCell ⟨g,j*13+8,none⟩ (.slice q1.sa p.ks[j].xs.length q1.sc)).setCell ⟨g,j*13+9,none⟩ (.slice q1.ga p.ks[j].gs.length q1.gc)).setCell ⟨g,j*13+10,none⟩ (.slice q1.ka p.ks[j].ks.length q1.kc)).setCell ⟨g,j*13+11,none⟩ (.slice ca (ag ts p.ks[j]).length cc)).setCell ⟨g,j*13+12,none⟩ (.slice na p.ks[j].ks.length nc)).heap[w.heap.size+1]? = some (.cells wG 56 (0,0)):=(ni g (w.heap.size+1) (by omega) (vO p.ks[j] q1 ca (ag ts p.ks[j]).length cc na nc) w6 (j*13) (ae QR6)).trans QR6
    have FK:Bx ts B (g+1) g ((((((((((((((w6).setCell ⟨g,j*13,none⟩ (.int .i64 p.ks[j].k)).setCell ⟨g,j*13+1,none⟩ (.int .i64 p.ks[j].n)).setCell ⟨g,j*13+2,none⟩ (.int .i64 p.ks[j].x.k)).setCell ⟨g,j*13+3,none⟩ (.int .i64 p.ks[j].x.v.1)).setCell ⟨g,j*13+4,none⟩ (.int .i64 p.ks[j].x.v.2.1)).setCell ⟨g,j*13+5,none⟩ (.string p.ks[j].x.v.2.2)).setCell ⟨g,j*13+6,none⟩ (.int .i64 p.ks[j].x.c)).setCell ⟨g,j*13+7,none⟩ (.slice q1.xa p.ks[j].x.ks.length q1.xc)).setCell ⟨g,j*13+8,none⟩ (.slice q1.sa p.ks[j].xs.length q1.sc)).setCell ⟨g,j*13+9,none⟩ (.slice q1.ga p.ks[j].gs.length q1.gc)).setCell ⟨g,j*13+10,none⟩ (.slice q1.ka p.ks[j].ks.length q1.kc)).setCell ⟨g,j*13+11,none⟩ (.slice ca (ag ts p.ks[j]).length cc)).setCell ⟨g,j*13+12,none⟩ (.slice na p.ks[j].ks.length nc)) p.ks (j+1):=KT6.store hlt ND6
    generalize (((((((((((((w6).setCell ⟨g,j*13,none⟩ (.int .i64 p.ks[j].k)).setCell ⟨g,j*13+1,none⟩ (.int .i64 p.ks[j].n)).setCell ⟨g,j*13+2,none⟩ (.int .i64 p.ks[j].x.k)).setCell ⟨g,j*13+3,none⟩ (.int .i64 p.ks[j].x.v.1)).setCell ⟨g,j*13+4,none⟩ (.int .i64 p.ks[j].x.v.2.1)).setCell ⟨g,j*13+5,none⟩ (.string p.ks[j].x.v.2.2)).setCell ⟨g,j*13+6,none⟩ (.int .i64 p.ks[j].x.c)).setCell ⟨g,j*13+7,none⟩ (.slice q1.xa p.ks[j].x.ks.length q1.xc)).setCell ⟨g,j*13+8,none⟩ (.slice q1.sa p.ks[j].xs.length q1.sc)).setCell ⟨g,j*13+9,none⟩ (.slice q1.ga p.ks[j].gs.length q1.gc)).setCell ⟨g,j*13+10,none⟩ (.slice q1.ka p.ks[j].ks.length q1.kc)).setCell ⟨g,j*13+11,none⟩ (.slice ca (ag ts p.ks[j]).length cc)).setCell ⟨g,j*13+12,none⟩ (.slice na p.ks[j].ks.length nc)=w7 at *
    clear KT6 ND6 T6 E6 QR6 X6w Q6;clear r0 g0 m0 r1 g1 m1 r2 g2 m2 r3 g3 m3 r4 g4 m4 r5 g5 m5 r6 g6 m6 r7 g7 m7 r8 g8 m8 r9 g9 m9 r10 g10 m10 r11 g11 m11 r12 g12 m12;rw [← eka];go_roundw
    case rel=>exact ⟨j+1,n1,by omega,by go_num,by have:=HN.out; omega,HN.out.2,HE',FX,FT,FE,FQ,FK⟩
    case measure=>simp [intOf]; omega
   ·have er:r=(e1,n1):=by
     rw [← HR.out,BA HW.out (by rw [HE.out,pY hlt (by rw [HY.out]; exact he),HY.out]; exact he),HE.out,pY hlt (by rw [HY.out]; exact he),HY.out]
    subst er;obtain rfl:=hbad he;have HEr:¬ e1=0:=he;have heb:(e1 != 0)=true:=by simpa using he
    have hal6:=aa w5 (.cells wG 56);have QR:=(hal6.block _ (ae QR5)).trans QR5;have T6:=hT5.next hal6;have X6:=X5w.trans (aP.of hal6 (by omega));clear HR he hok hbad HE HY KT5 QR5 hT5 X5w X5 E5;unfold kz;go_upto_region 10 with fail
    generalize w5.alloc (.cells wG 56)=w6 at *;have d0:w6.cell? ⟨w.heap.size+1,0,none⟩=some (.int .i64 0):=cell_of (i:=0) QR rfl;have f0:w6.frozen? ⟨w.heap.size+1,0,none⟩=false:=Mg w6 (w.heap.size+1) 0 _ _ QR;have d1:w6.cell? ⟨w.heap.size+1,1,none⟩=some (.int .i64 0):=cell_of (i:=1) QR rfl;have f1:w6.frozen? ⟨w.heap.size+1,1,none⟩=false:=Mg w6 (w.heap.size+1) 1 _ _ QR
    have d2:w6.cell? ⟨w.heap.size+1,2,none⟩=some (.int .i64 0):=cell_of (i:=2) QR rfl;have f2:w6.frozen? ⟨w.heap.size+1,2,none⟩=false:=Mg w6 (w.heap.size+1) 2 _ _ QR;have d3:w6.cell? ⟨w.heap.size+1,3,none⟩=some (.int .i64 0):=cell_of (i:=3) QR rfl;have f3:w6.frozen? ⟨w.heap.size+1,3,none⟩=false:=Mg w6 (w.heap.size+1) 3 _ _ QR;have d4:w6.cell? ⟨w.heap.size+1,4,none⟩=some (.int .i64 0):=cell_of (i:=4) QR rfl;have f4:w6.frozen? ⟨w.heap.size+1,4,none⟩=false:=Mg w6 (w.heap.size+1) 4 _ _ QR
    have d5:w6.cell? ⟨w.heap.size+1,5,none⟩=some (.string ⟨#[]⟩):=cell_of (i:=5) QR rfl;have f5:w6.frozen? ⟨w.heap.size+1,5,none⟩=false:=Mg w6 (w.heap.size+1) 5 _ _ QR;have d6:w6.cell? ⟨w.heap.size+1,6,none⟩=some (.int .i64 0):=cell_of (i:=6) QR rfl;have f6:w6.frozen? ⟨w.heap.size+1,6,none⟩=false:=Mg w6 (w.heap.size+1) 6 _ _ QR;have d7:w6.cell? ⟨w.heap.size+1,7,none⟩=some (.slice none 0 0):=cell_of (i:=7) QR rfl;have f7:w6.frozen? ⟨w.heap.size+1,7,none⟩=false:=Mg w6 (w.heap.size+1) 7 _ _ QR
    have d8:w6.cell? ⟨w.heap.size+1,8,none⟩=some (.slice none 0 0):=cell_of (i:=8) QR rfl;have f8:w6.frozen? ⟨w.heap.size+1,8,none⟩=false:=Mg w6 (w.heap.size+1) 8 _ _ QR;have d9:w6.cell? ⟨w.heap.size+1,9,none⟩=some (.slice none 0 0):=cell_of (i:=9) QR rfl;have f9:w6.frozen? ⟨w.heap.size+1,9,none⟩=false:=Mg w6 (w.heap.size+1) 9 _ _ QR;have d10:w6.cell? ⟨w.heap.size+1,10,none⟩=some (.slice none 0 0):=cell_of (i:=10) QR rfl;have f10:w6.frozen? ⟨w.heap.size+1,10,none⟩=false:=Mg w6 (w.heap.size+1) 10 _ _ QR
    have d11:w6.cell? ⟨w.heap.size+1,11,none⟩=some (.slice none 0 0):=cell_of (i:=11) QR rfl;have f11:w6.frozen? ⟨w.heap.size+1,11,none⟩=false:=Mg w6 (w.heap.size+1) 11 _ _ QR;have d12:w6.cell? ⟨w.heap.size+1,12,none⟩=some (.slice none 0 0):=cell_of (i:=12) QR rfl;have f12:w6.frozen? ⟨w.heap.size+1,12,none⟩=false:=Mg w6 (w.heap.size+1) 12 _ _ QR;have XE:=jG (w.heap.size+1) (Ns _) (NI htw) ph w6 0 X6;have TE:mD (bQ w6 (w.heap.size+1) 0 ph) t ta ts.length tc _:=mD.all T6 (w.heap.size+1) (by omega) ph 0;clear QR;go_wp2_with fail
    first
     | exact Me (v:=.tuple #[kz,.int .i64 e1]) (by simp [results,Tryz.results28,go_sem,kz,d0,d1,d2,d3,d4,d5,d6,d7,d8,d9,d10,d11,d12]) rfl ⟨rfl,XE,TE⟩
     | exact Me (v:=.tuple #[kz,.int .i64 e1]) (by simp [results,Tryz.results28,go_sem,kz,d0,d1,d2,d3,d4,d5,d6,d7,d8,d9,d10,d11,d12]) rfl ⟨⟨_,rfl,rfl⟩,XE,TE⟩
     | exact Me (v:=.tuple #[kz,.int .i64 e1]) (by simp [results,Tryz.results28,go_sem,kz,d0,d1,d2,d3,d4,d5,d6,d7,d8,d9,d10,d11,d12]) rfl ⟨⟨_,rfl,fun c=>absurd c HEr,fun _=>rfl⟩,XE,TE⟩
     | trace_state
  ·have e:j=p.ks.length:=by omega
   have hends:aS ts p.ks (m+1) (d+1)=(0,mq):=by rw [HE.out,yL (by omega)]
   have er:r=(eI ts p.k p.n p.x p.xs p.gs (p.ks.map (ag ts)),mq):=by rw [← HR.out,CF HW.out (by rw [hends]),hends]
   have K8:Hid (∀ r ∈ p.ks,(ag ts r).length≤8):=fun r hr=>by
    obtain ⟨m',hm'⟩:=fL (ts:=ts) (ks:=p.ks) (m:=m+1) (d:=d+1) (by rw [hends]) r hr;exact qA HT.out r m' _ hm'
   subst e;have hns:=hKT.ns (lo':=w.heap.size+2) (by omega);have con:=Co ts B (w.heap.size+2) t ta tc p q (some ⟨g,0,none⟩) p.ks.length wr hBt (by omega) (by omega) hTy.c0 (hT.next (hX.below hBt) (Mc _)) (hp.next (hX.below hBt) (Mc _)) hns HK.out HL.out K8.out;have HC:Hid (ag ts p=kC ts p.k p.n p.xs p.gs (p.ks.map (ag ts))):=Ew ts p;rw [← HC.out] at con;generalize eI ts p.k p.n p.x p.xs p.gs (p.ks.map (ag ts))=en at *;subst er;unfold gR at con;have hE':=hE;obtain ⟨y0,y1,⟨y2,y3,y4,y5,y6,y7⟩,y8,y9,y10⟩:=hE'
   simp only [Mq] at y1 y2 y3 y4 y5 y6 y7 y8 y9 y10;clear HR HE hends K8 hKT;go_wp2_with fail
   refine con.mono ?_;rintro e w7 ⟨⟨ca,cc,rfl,IC⟩,hb7⟩;clear con y0 y1 y2 y3 y4 y5 y6 y7 y8 y9 y10;have X7:=hX.trans (aP.of hb7 (by omega));have T7:=hTy.next hb7;have E7:=hE.next hb7 (by omega);have QR:=(hb7.block _ (ae QR)).trans QR;have hns7:=qL.next (Kept.of hb7 (by omega)) hns;have hp7:=(hp.next (hX.below hBt) (Mc _)).next hb7 (by omega);have hz7:=hb7.size;clear hns hE hTy hX;dsimp only;by_cases hen:en=0;rotate_left
   ·have HEr:¬ en=0:=hen;have heb:(en != 0)=true:=by simpa using hen
    rw [if_neg hen];clear IC hen;have d0:w7.cell? ⟨w.heap.size+1,0,none⟩=some (.int .i64 0):=cell_of (i:=0) QR rfl;have f0:w7.frozen? ⟨w.heap.size+1,0,none⟩=false:=Mg w7 (w.heap.size+1) 0 _ _ QR;have d1:w7.cell? ⟨w.heap.size+1,1,none⟩=some (.int .i64 0):=cell_of (i:=1) QR rfl;have f1:w7.frozen? ⟨w.heap.size+1,1,none⟩=false:=Mg w7 (w.heap.size+1) 1 _ _ QR;have d2:w7.cell? ⟨w.heap.size+1,2,none⟩=some (.int .i64 0):=cell_of (i:=2) QR rfl;have f2:w7.frozen? ⟨w.heap.size+1,2,none⟩=false:=Mg w7 (w.heap.size+1) 2 _ _ QR
    have d3:w7.cell? ⟨w.heap.size+1,3,none⟩=some (.int .i64 0):=cell_of (i:=3) QR rfl;have f3:w7.frozen? ⟨w.heap.size+1,3,none⟩=false:=Mg w7 (w.heap.size+1) 3 _ _ QR;have d4:w7.cell? ⟨w.heap.size+1,4,none⟩=some (.int .i64 0):=cell_of (i:=4) QR rfl;have f4:w7.frozen? ⟨w.heap.size+1,4,none⟩=false:=Mg w7 (w.heap.size+1) 4 _ _ QR;have d5:w7.cell? ⟨w.heap.size+1,5,none⟩=some (.string ⟨#[]⟩):=cell_of (i:=5) QR rfl;have f5:w7.frozen? ⟨w.heap.size+1,5,none⟩=false:=Mg w7 (w.heap.size+1) 5 _ _ QR
    have d6:w7.cell? ⟨w.heap.size+1,6,none⟩=some (.int .i64 0):=cell_of (i:=6) QR rfl;have f6:w7.frozen? ⟨w.heap.size+1,6,none⟩=false:=Mg w7 (w.heap.size+1) 6 _ _ QR;have d7:w7.cell? ⟨w.heap.size+1,7,none⟩=some (.slice none 0 0):=cell_of (i:=7) QR rfl;have f7:w7.frozen? ⟨w.heap.size+1,7,none⟩=false:=Mg w7 (w.heap.size+1) 7 _ _ QR;have d8:w7.cell? ⟨w.heap.size+1,8,none⟩=some (.slice none 0 0):=cell_of (i:=8) QR rfl;have f8:w7.frozen? ⟨w.heap.size+1,8,none⟩=false:=Mg w7 (w.heap.size+1) 8 _ _ QR
    have d9:w7.cell? ⟨w.heap.size+1,9,none⟩=some (.slice none 0 0):=cell_of (i:=9) QR rfl;have f9:w7.frozen? ⟨w.heap.size+1,9,none⟩=false:=Mg w7 (w.heap.size+1) 9 _ _ QR;have d10:w7.cell? ⟨w.heap.size+1,10,none⟩=some (.slice none 0 0):=cell_of (i:=10) QR rfl;have f10:w7.frozen? ⟨w.heap.size+1,10,none⟩=false:=Mg w7 (w.heap.size+1) 10 _ _ QR;have d11:w7.cell? ⟨w.heap.size+1,11,none⟩=some (.slice none 0 0):=cell_of (i:=11) QR rfl;have f11:w7.frozen? ⟨w.heap.size+1,11,none⟩=false:=Mg w7 (w.heap.size+1) 11 _ _ QR
    have d12:w7.cell? ⟨w.heap.size+1,12,none⟩=some (.slice none 0 0):=cell_of (i:=12) QR rfl;have f12:w7.frozen? ⟨w.heap.size+1,12,none⟩=false:=Mg w7 (w.heap.size+1) 12 _ _ QR;have XE:=jG (w.heap.size+1) (Ns _) (NI htw) ph w7 0 X7;have TE:mD (bQ w7 (w.heap.size+1) 0 ph) t ta ts.length tc _:=mD.all T7 (w.heap.size+1) (by omega) ph 0;clear QR;go_wp2_with fail
    first
     | exact Me (v:=.tuple #[kz,.int .i64 en]) (by simp [results,Tryz.results28,go_sem,kz,d0,d1,d2,d3,d4,d5,d6,d7,d8,d9,d10,d11,d12]) rfl ⟨rfl,XE,TE⟩
     | exact Me (v:=.tuple #[kz,.int .i64 en]) (by simp [results,Tryz.results28,go_sem,kz,d0,d1,d2,d3,d4,d5,d6,d7,d8,d9,d10,d11,d12]) rfl ⟨⟨_,rfl,rfl⟩,XE,TE⟩
     | exact Me (v:=.tuple #[kz,.int .i64 en]) (by simp [results,Tryz.results28,go_sem,kz,d0,d1,d2,d3,d4,d5,d6,d7,d8,d9,d10,d11,d12]) rfl ⟨⟨_,rfl,fun c=>absurd c HEr,fun _=>rfl⟩,XE,TE⟩
     | trace_state
   subst hen;rw [if_pos rfl] at IC ⊢;obtain ⟨y0,y1,⟨y2,y3,y4,y5,y6,y7⟩,y8,y9,y10⟩:=E7;simp only [Mq] at y1 y2 y3 y4 y5 y6 y7 y8 y9 y10;have ND7:Bm ts B (w.heap.size+2) w7 p q ca (some ⟨g,0,none⟩):=⟨hp7,IC,hns7⟩
   have NDE:=(ND7.next (jd (w.heap.size+1) (by omega) (by omega) (vO p q ca (ag ts p).length cc (some ⟨g,0,none⟩) p.ks.length) w7 0 (Kept.refl _ _ _))).wide (lo':=w.heap.size) (by omega);have XE:=jG (w.heap.size+1) (Ns _) (NI htw) (vO p q ca (ag ts p).length cc (some ⟨g,0,none⟩) p.ks.length) w7 0 X7;have TE:mD (bQ w7 (w.heap.size+1) 0 (vO p q ca (ag ts p).length cc (some ⟨g,0,none⟩) p.ks.length)) t ta ts.length tc _:=mD.all T7 (w.heap.size+1) (by omega) (vO p q ca (ag ts p).length cc (some ⟨g,0,none⟩) p.ks.length) 0
   have d0:w7.cell? ⟨w.heap.size+1,0,none⟩=some (.int .i64 0):=cell_of (i:=0) QR rfl;have f0:w7.frozen? ⟨w.heap.size+1,0,none⟩=false:=Mg w7 (w.heap.size+1) 0 _ _ QR;have d1:w7.cell? ⟨w.heap.size+1,1,none⟩=some (.int .i64 0):=cell_of (i:=1) QR rfl;have f1:w7.frozen? ⟨w.heap.size+1,1,none⟩=false:=Mg w7 (w.heap.size+1) 1 _ _ QR;have d2:w7.cell? ⟨w.heap.size+1,2,none⟩=some (.int .i64 0):=cell_of (i:=2) QR rfl;have f2:w7.frozen? ⟨w.heap.size+1,2,none⟩=false:=Mg w7 (w.heap.size+1) 2 _ _ QR
   have d3:w7.cell? ⟨w.heap.size+1,3,none⟩=some (.int .i64 0):=cell_of (i:=3) QR rfl;have f3:w7.frozen? ⟨w.heap.size+1,3,none⟩=false:=Mg w7 (w.heap.size+1) 3 _ _ QR;have d4:w7.cell? ⟨w.heap.size+1,4,none⟩=some (.int .i64 0):=cell_of (i:=4) QR rfl;have f4:w7.frozen? ⟨w.heap.size+1,4,none⟩=false:=Mg w7 (w.heap.size+1) 4 _ _ QR;have d5:w7.cell? ⟨w.heap.size+1,5,none⟩=some (.string ⟨#[]⟩):=cell_of (i:=5) QR rfl;have f5:w7.frozen? ⟨w.heap.size+1,5,none⟩=false:=Mg w7 (w.heap.size+1) 5 _ _ QR
   have d6:w7.cell? ⟨w.heap.size+1,6,none⟩=some (.int .i64 0):=cell_of (i:=6) QR rfl;have f6:w7.frozen? ⟨w.heap.size+1,6,none⟩=false:=Mg w7 (w.heap.size+1) 6 _ _ QR;have d7:w7.cell? ⟨w.heap.size+1,7,none⟩=some (.slice none 0 0):=cell_of (i:=7) QR rfl;have f7:w7.frozen? ⟨w.heap.size+1,7,none⟩=false:=Mg w7 (w.heap.size+1) 7 _ _ QR;have d8:w7.cell? ⟨w.heap.size+1,8,none⟩=some (.slice none 0 0):=cell_of (i:=8) QR rfl;have f8:w7.frozen? ⟨w.heap.size+1,8,none⟩=false:=Mg w7 (w.heap.size+1) 8 _ _ QR
   have d9:w7.cell? ⟨w.heap.size+1,9,none⟩=some (.slice none 0 0):=cell_of (i:=9) QR rfl;have f9:w7.frozen? ⟨w.heap.size+1,9,none⟩=false:=Mg w7 (w.heap.size+1) 9 _ _ QR;have d10:w7.cell? ⟨w.heap.size+1,10,none⟩=some (.slice none 0 0):=cell_of (i:=10) QR rfl;have f10:w7.frozen? ⟨w.heap.size+1,10,none⟩=false:=Mg w7 (w.heap.size+1) 10 _ _ QR;have d11:w7.cell? ⟨w.heap.size+1,11,none⟩=some (.slice none 0 0):=cell_of (i:=11) QR rfl;have f11:w7.frozen? ⟨w.heap.size+1,11,none⟩=false:=Mg w7 (w.heap.size+1) 11 _ _ QR
   have d12:w7.cell? ⟨w.heap.size+1,12,none⟩=some (.slice none 0 0):=cell_of (i:=12) QR rfl;have f12:w7.frozen? ⟨w.heap.size+1,12,none⟩=false:=Mg w7 (w.heap.size+1) 12 _ _ QR;clear QR IC hns7 hp7 ND7 T7 X7;go_wp2_with fail
   first
    | exact Me (v:=.tuple #[mZ p q ca (ag ts p).length cc (some ⟨g,0,none⟩) p.ks.length,.int .i64 0]) (by simp [results,Tryz.results28,go_sem,mZ,d0,d1,d2,d3,d4,d5,d6,d7,d8,d9,d10,d11,d12]) rfl ⟨⟨_,rfl,ca,cc,some ⟨g,0,none⟩,⟨p.ks.length,rfl⟩,NDE⟩,XE,TE⟩
    | exact Me (v:=.tuple #[mZ p q ca (ag ts p).length cc (some ⟨g,0,none⟩) p.ks.length,.int .i64 0]) (by simp [results,Tryz.results28,go_sem,mZ,d0,d1,d2,d3,d4,d5,d6,d7,d8,d9,d10,d11,d12]) rfl ⟨⟨ca,cc,some ⟨g,0,none⟩,p.ks.length,rfl,NDE⟩,XE,TE⟩
    | exact Me (v:=.tuple #[mZ p q ca (ag ts p).length cc (some ⟨g,0,none⟩) p.ks.length,.int .i64 0]) (by simp [results,Tryz.results28,go_sem,mZ,d0,d1,d2,d3,d4,d5,d6,d7,d8,d9,d10,d11,d12]) rfl ⟨⟨_,rfl,⟨ca,cc,some ⟨g,0,none⟩,p.ks.length,rfl,NDE⟩⟩,XE,TE⟩
    | exact Me (v:=.tuple #[mZ p q ca (ag ts p).length cc (some ⟨g,0,none⟩) p.ks.length,.int .i64 0]) (by simp [results,Tryz.results28,go_sem,mZ,d0,d1,d2,d3,d4,d5,d6,d7,d8,d9,d10,d11,d12]) rfl ⟨⟨_,rfl,fun _=>⟨ca,cc,some ⟨g,0,none⟩,p.ks.length,rfl,NDE⟩,fun c=>absurd rfl c⟩,XE,TE⟩
    | trace_state
theorem FC (ts:List (List Int)) (hts:gf ts=0):∀ p,zo ts p:=Pl.ind fun k n x xs gs ks ih=>Ic ts hts (.mk k n x xs gs ks) ih
theorem jZ {B:Nat} {W0:World} (g:Nat) (hg:B≤g):∀ (vs:List Value) (W:World) (o:Nat),Below B W0 W→Below B W0 (bQ W g o vs)
 | [],_,_,h=>h
 | v :: r,_,o,h=>jZ g hg r _ _ (h.setCell (p:=⟨g,o,none⟩) hg v)
def bH (ts:List (List Int)) (p:Pl):Int:=if gf ts≠0 then gf ts else (aV ts p 0 1).1
theorem nW (ts:List (List Int)) (p:Pl) (q:Pw) (ta:Option Addr) (tc:Nat) (w:World) (hT:iW w.heap.size w ta ts) (hp:oh w.heap.size w p q) (hk:dx p) :
  Calls Tryz.prog 15 #[.slice ta ts.length tc,gR p q] w fun e w'=>(∃ v,e = .returned (.tuple #[v,.int .i64 (bH ts p)])∧(bH ts p=0→∃ ca cc na nc,v=mZ p q ca (ag ts p).length cc na nc∧Bm ts w.heap.size w.heap.size w' p q ca na)∧(¬ bH ts p=0→v=kz))∧Below w.heap.size w w':=by
 have E0:=iA.new w p q 31;have l0:=ae (ak w (dS p q) 31);have z0:(w.alloc (.cells (dS p q) 31)).heap.size=w.heap.size+1:=by simp
 have h0:=aa w (.cells (dS p q) 31);have h1:Below (w.alloc (.cells (dS p q) 31)).heap.size (w.alloc (.cells (dS p q) 31)) ((w.alloc (.cells (dS p q) 31)).alloc (.cells wG 56)):=(Md _ _).alloc (Mc _) _
 have QR:=ak (w.alloc (.cells (dS p q) 31)) wG 56;rw [z0] at QR;have h01:=chain h0 h1;have EA:=E0.next h1 l0;have zA:w.heap.size+1<((w.alloc (.cells (dS p q) 31)).alloc (.cells wG 56)).heap.size:=ae QR
 have con:=qM ts ta tc ((w.alloc (.cells (dS p q) 31)).alloc (.cells wG 56)) ((hT.next h01 (Mc _)).up h01.size);have HK:=aw hk;generalize hle:bH ts p=le;have HLe:=aw hle;generalize hte:gf ts=te at con;have HTe:=aw hte;clear hle hte hk E0;unfold gR;go_enter Tryz.func15,Tryz.ntmps15;go_wp2_with fail
 clear h0 h1 l0 z0;generalize (w.alloc (.cells (dS p q) 31)).alloc (.cells wG 56)=wA at *;refine con.mono ?_;rintro e w3 ⟨rfl,hb3⟩;clear con;have hA3:=chain h01 hb3;have E3:=EA.next hb3 (by omega);have QR:=(hb3.block _ (by omega)).trans QR;have z3:=hb3.size;clear EA;dsimp only;by_cases ht:te=0;rotate_left
 ·have el:le=te:=by rw [← HLe.out]; unfold bH; rw [HTe.out,if_pos ht]
  subst el;have HEr:¬ le=0:=ht;have htb:(le != 0)=true:=by simpa using ht
  clear ht HLe HTe;have d0:w3.cell? ⟨w.heap.size+1,0,none⟩=some (.int .i64 0):=cell_of (i:=0) QR rfl;have f0:w3.frozen? ⟨w.heap.size+1,0,none⟩=false:=Mg w3 (w.heap.size+1) 0 _ _ QR;have d1:w3.cell? ⟨w.heap.size+1,1,none⟩=some (.int .i64 0):=cell_of (i:=1) QR rfl;have f1:w3.frozen? ⟨w.heap.size+1,1,none⟩=false:=Mg w3 (w.heap.size+1) 1 _ _ QR;have d2:w3.cell? ⟨w.heap.size+1,2,none⟩=some (.int .i64 0):=cell_of (i:=2) QR rfl;have f2:w3.frozen? ⟨w.heap.size+1,2,none⟩=false:=Mg w3 (w.heap.size+1) 2 _ _ QR
  have d3:w3.cell? ⟨w.heap.size+1,3,none⟩=some (.int .i64 0):=cell_of (i:=3) QR rfl;have f3:w3.frozen? ⟨w.heap.size+1,3,none⟩=false:=Mg w3 (w.heap.size+1) 3 _ _ QR;have d4:w3.cell? ⟨w.heap.size+1,4,none⟩=some (.int .i64 0):=cell_of (i:=4) QR rfl;have f4:w3.frozen? ⟨w.heap.size+1,4,none⟩=false:=Mg w3 (w.heap.size+1) 4 _ _ QR;have d5:w3.cell? ⟨w.heap.size+1,5,none⟩=some (.string ⟨#[]⟩):=cell_of (i:=5) QR rfl;have f5:w3.frozen? ⟨w.heap.size+1,5,none⟩=false:=Mg w3 (w.heap.size+1) 5 _ _ QR
  have d6:w3.cell? ⟨w.heap.size+1,6,none⟩=some (.int .i64 0):=cell_of (i:=6) QR rfl;have f6:w3.frozen? ⟨w.heap.size+1,6,none⟩=false:=Mg w3 (w.heap.size+1) 6 _ _ QR;have d7:w3.cell? ⟨w.heap.size+1,7,none⟩=some (.slice none 0 0):=cell_of (i:=7) QR rfl;have f7:w3.frozen? ⟨w.heap.size+1,7,none⟩=false:=Mg w3 (w.heap.size+1) 7 _ _ QR;have d8:w3.cell? ⟨w.heap.size+1,8,none⟩=some (.slice none 0 0):=cell_of (i:=8) QR rfl;have f8:w3.frozen? ⟨w.heap.size+1,8,none⟩=false:=Mg w3 (w.heap.size+1) 8 _ _ QR
  have d9:w3.cell? ⟨w.heap.size+1,9,none⟩=some (.slice none 0 0):=cell_of (i:=9) QR rfl;have f9:w3.frozen? ⟨w.heap.size+1,9,none⟩=false:=Mg w3 (w.heap.size+1) 9 _ _ QR;have d10:w3.cell? ⟨w.heap.size+1,10,none⟩=some (.slice none 0 0):=cell_of (i:=10) QR rfl;have f10:w3.frozen? ⟨w.heap.size+1,10,none⟩=false:=Mg w3 (w.heap.size+1) 10 _ _ QR;have d11:w3.cell? ⟨w.heap.size+1,11,none⟩=some (.slice none 0 0):=cell_of (i:=11) QR rfl;have f11:w3.frozen? ⟨w.heap.size+1,11,none⟩=false:=Mg w3 (w.heap.size+1) 11 _ _ QR
  have d12:w3.cell? ⟨w.heap.size+1,12,none⟩=some (.slice none 0 0):=cell_of (i:=12) QR rfl;have f12:w3.frozen? ⟨w.heap.size+1,12,none⟩=false:=Mg w3 (w.heap.size+1) 12 _ _ QR;have XE:=jZ (w.heap.size+1) (Ns _) ph w3 0 hA3;clear QR;go_wp2_with fail
  first
   | exact Me (v:=.tuple #[kz,.int .i64 le]) (by simp [results,Tryz.results15,go_sem,kz,d0,d1,d2,d3,d4,d5,d6,d7,d8,d9,d10,d11,d12]) rfl ⟨rfl,XE⟩
   | exact Me (v:=.tuple #[kz,.int .i64 le]) (by simp [results,Tryz.results15,go_sem,kz,d0,d1,d2,d3,d4,d5,d6,d7,d8,d9,d10,d11,d12]) rfl ⟨⟨_,rfl,rfl⟩,XE⟩
   | exact Me (v:=.tuple #[kz,.int .i64 le]) (by simp [results,Tryz.results15,go_sem,kz,d0,d1,d2,d3,d4,d5,d6,d7,d8,d9,d10,d11,d12]) rfl ⟨⟨_,rfl,fun c=>absurd c HEr,fun _=>rfl⟩,XE⟩
   | trace_state
 subst ht;have HL2:Hid (le=(aV ts p 0 1).1):=by show _=_; rw [← HLe.out]; unfold bH; rw [HTe.out,if_neg (by simp)]
 have hal4:=aa w3 (.cells #[.slice ta ts.length tc,.int .i64 0] 76);have Q4:=ak w3 #[.slice ta ts.length tc,.int .i64 0] 76;have TY:mD (w3.alloc (.cells #[.slice ta ts.length tc,.int .i64 0] 76)) w3.heap.size ta ts.length tc 0:=⟨ae Q4,cell_of (i:=0) Q4 rfl,cell_of (i:=1) Q4 rfl,Mg _ w3.heap.size 1 _ _ Q4⟩
 have hA4:=chain hA3 hal4;have con:=FC ts HTe.out p w.heap.size w3.heap.size ta tc q 0 1 _ (hp.next hA4 (Mc _)) (hT.next hA4 (Mc _)) (by omega) TY (by omega) (by omega) (by omega) (by omega) HK.out;rw [← HL2.out] at con;have E4:=E3.next hal4 (by omega);have QR:=(hal4.block _ (by omega)).trans QR;have z4:(w3.alloc (.cells #[.slice ta ts.length tc,.int .i64 0] 76)).heap.size=w3.heap.size+1:=by simp
 obtain ⟨y0,y1,⟨y2,y3,y4,y5,y6,y7⟩,y8,y9,y10⟩:=E4;simp only [Mq] at y1 y2 y3 y4 y5 y6 y7 y8 y9 y10;unfold gR at con;clear HL2 HLe HTe E3;go_upto_region 5 with fail
 generalize w3.alloc (.cells #[.slice ta ts.length tc,.int .i64 0] 76)=w4 at *;go_wp2_with fail
 refine con.mono ?_;rintro e w5 ⟨⟨v5,rfl,hok,hbad⟩,hX5,_⟩;clear con y0 y1 y2 y3 y4 y5 y6 y7 y8 y9 y10;have QR:=(hX5.2 _ (by omega) (by omega)).trans QR;have hA5:Below w.heap.size w w5:=hA4.trans (hX5.below (by omega));dsimp only;by_cases he:le=0;rotate_left
 ·obtain rfl:=hbad he;have HEr:¬ le=0:=he;clear hok hbad he;unfold kz;have d0:w5.cell? ⟨w.heap.size+1,0,none⟩=some (.int .i64 0):=cell_of (i:=0) QR rfl;have f0:w5.frozen? ⟨w.heap.size+1,0,none⟩=false:=Mg w5 (w.heap.size+1) 0 _ _ QR;have d1:w5.cell? ⟨w.heap.size+1,1,none⟩=some (.int .i64 0):=cell_of (i:=1) QR rfl;have f1:w5.frozen? ⟨w.heap.size+1,1,none⟩=false:=Mg w5 (w.heap.size+1) 1 _ _ QR;have d2:w5.cell? ⟨w.heap.size+1,2,none⟩=some (.int .i64 0):=cell_of (i:=2) QR rfl;have f2:w5.frozen? ⟨w.heap.size+1,2,none⟩=false:=Mg w5 (w.heap.size+1) 2 _ _ QR
  have d3:w5.cell? ⟨w.heap.size+1,3,none⟩=some (.int .i64 0):=cell_of (i:=3) QR rfl;have f3:w5.frozen? ⟨w.heap.size+1,3,none⟩=false:=Mg w5 (w.heap.size+1) 3 _ _ QR;have d4:w5.cell? ⟨w.heap.size+1,4,none⟩=some (.int .i64 0):=cell_of (i:=4) QR rfl;have f4:w5.frozen? ⟨w.heap.size+1,4,none⟩=false:=Mg w5 (w.heap.size+1) 4 _ _ QR;have d5:w5.cell? ⟨w.heap.size+1,5,none⟩=some (.string ⟨#[]⟩):=cell_of (i:=5) QR rfl;have f5:w5.frozen? ⟨w.heap.size+1,5,none⟩=false:=Mg w5 (w.heap.size+1) 5 _ _ QR
  have d6:w5.cell? ⟨w.heap.size+1,6,none⟩=some (.int .i64 0):=cell_of (i:=6) QR rfl;have f6:w5.frozen? ⟨w.heap.size+1,6,none⟩=false:=Mg w5 (w.heap.size+1) 6 _ _ QR;have d7:w5.cell? ⟨w.heap.size+1,7,none⟩=some (.slice none 0 0):=cell_of (i:=7) QR rfl;have f7:w5.frozen? ⟨w.heap.size+1,7,none⟩=false:=Mg w5 (w.heap.size+1) 7 _ _ QR;have d8:w5.cell? ⟨w.heap.size+1,8,none⟩=some (.slice none 0 0):=cell_of (i:=8) QR rfl;have f8:w5.frozen? ⟨w.heap.size+1,8,none⟩=false:=Mg w5 (w.heap.size+1) 8 _ _ QR
  have d9:w5.cell? ⟨w.heap.size+1,9,none⟩=some (.slice none 0 0):=cell_of (i:=9) QR rfl;have f9:w5.frozen? ⟨w.heap.size+1,9,none⟩=false:=Mg w5 (w.heap.size+1) 9 _ _ QR;have d10:w5.cell? ⟨w.heap.size+1,10,none⟩=some (.slice none 0 0):=cell_of (i:=10) QR rfl;have f10:w5.frozen? ⟨w.heap.size+1,10,none⟩=false:=Mg w5 (w.heap.size+1) 10 _ _ QR;have d11:w5.cell? ⟨w.heap.size+1,11,none⟩=some (.slice none 0 0):=cell_of (i:=11) QR rfl;have f11:w5.frozen? ⟨w.heap.size+1,11,none⟩=false:=Mg w5 (w.heap.size+1) 11 _ _ QR
  have d12:w5.cell? ⟨w.heap.size+1,12,none⟩=some (.slice none 0 0):=cell_of (i:=12) QR rfl;have f12:w5.frozen? ⟨w.heap.size+1,12,none⟩=false:=Mg w5 (w.heap.size+1) 12 _ _ QR;have XE:=jZ (w.heap.size+1) (Ns _) ph w5 0 hA5;clear QR;go_wp2_with fail
  first
   | exact Me (v:=.tuple #[kz,.int .i64 le]) (by simp [results,Tryz.results15,go_sem,kz,d0,d1,d2,d3,d4,d5,d6,d7,d8,d9,d10,d11,d12]) rfl ⟨rfl,XE⟩
   | exact Me (v:=.tuple #[kz,.int .i64 le]) (by simp [results,Tryz.results15,go_sem,kz,d0,d1,d2,d3,d4,d5,d6,d7,d8,d9,d10,d11,d12]) rfl ⟨⟨_,rfl,rfl⟩,XE⟩
   | exact Me (v:=.tuple #[kz,.int .i64 le]) (by simp [results,Tryz.results15,go_sem,kz,d0,d1,d2,d3,d4,d5,d6,d7,d8,d9,d10,d11,d12]) rfl ⟨⟨_,rfl,fun c=>absurd c HEr,fun _=>rfl⟩,XE⟩
   | trace_state
 subst he;obtain ⟨ca,cc,na,nc,rfl,ND⟩:=hok rfl;clear hok hbad;have NDE:=(ND.next (jd (w.heap.size+1) (by omega) (by omega) (vO p q ca (ag ts p).length cc na nc) w5 0 (Kept.refl _ _ _))).wide (lo':=w.heap.size) (by omega);have XE:=jZ (w.heap.size+1) (Ns _) (vO p q ca (ag ts p).length cc na nc) w5 0 hA5;have d0:w5.cell? ⟨w.heap.size+1,0,none⟩=some (.int .i64 0):=cell_of (i:=0) QR rfl;have f0:w5.frozen? ⟨w.heap.size+1,0,none⟩=false:=Mg w5 (w.heap.size+1) 0 _ _ QR;have d1:w5.cell? ⟨w.heap.size+1,1,none⟩=some (.int .i64 0):=cell_of (i:=1) QR rfl
 have f1:w5.frozen? ⟨w.heap.size+1,1,none⟩=false:=Mg w5 (w.heap.size+1) 1 _ _ QR;have d2:w5.cell? ⟨w.heap.size+1,2,none⟩=some (.int .i64 0):=cell_of (i:=2) QR rfl;have f2:w5.frozen? ⟨w.heap.size+1,2,none⟩=false:=Mg w5 (w.heap.size+1) 2 _ _ QR;have d3:w5.cell? ⟨w.heap.size+1,3,none⟩=some (.int .i64 0):=cell_of (i:=3) QR rfl;have f3:w5.frozen? ⟨w.heap.size+1,3,none⟩=false:=Mg w5 (w.heap.size+1) 3 _ _ QR;have d4:w5.cell? ⟨w.heap.size+1,4,none⟩=some (.int .i64 0):=cell_of (i:=4) QR rfl
 have f4:w5.frozen? ⟨w.heap.size+1,4,none⟩=false:=Mg w5 (w.heap.size+1) 4 _ _ QR;have d5:w5.cell? ⟨w.heap.size+1,5,none⟩=some (.string ⟨#[]⟩):=cell_of (i:=5) QR rfl;have f5:w5.frozen? ⟨w.heap.size+1,5,none⟩=false:=Mg w5 (w.heap.size+1) 5 _ _ QR;have d6:w5.cell? ⟨w.heap.size+1,6,none⟩=some (.int .i64 0):=cell_of (i:=6) QR rfl;have f6:w5.frozen? ⟨w.heap.size+1,6,none⟩=false:=Mg w5 (w.heap.size+1) 6 _ _ QR;have d7:w5.cell? ⟨w.heap.size+1,7,none⟩=some (.slice none 0 0):=cell_of (i:=7) QR rfl
 have f7:w5.frozen? ⟨w.heap.size+1,7,none⟩=false:=Mg w5 (w.heap.size+1) 7 _ _ QR;have d8:w5.cell? ⟨w.heap.size+1,8,none⟩=some (.slice none 0 0):=cell_of (i:=8) QR rfl;have f8:w5.frozen? ⟨w.heap.size+1,8,none⟩=false:=Mg w5 (w.heap.size+1) 8 _ _ QR;have d9:w5.cell? ⟨w.heap.size+1,9,none⟩=some (.slice none 0 0):=cell_of (i:=9) QR rfl;have f9:w5.frozen? ⟨w.heap.size+1,9,none⟩=false:=Mg w5 (w.heap.size+1) 9 _ _ QR;have d10:w5.cell? ⟨w.heap.size+1,10,none⟩=some (.slice none 0 0):=cell_of (i:=10) QR rfl
 have f10:w5.frozen? ⟨w.heap.size+1,10,none⟩=false:=Mg w5 (w.heap.size+1) 10 _ _ QR;have d11:w5.cell? ⟨w.heap.size+1,11,none⟩=some (.slice none 0 0):=cell_of (i:=11) QR rfl;have f11:w5.frozen? ⟨w.heap.size+1,11,none⟩=false:=Mg w5 (w.heap.size+1) 11 _ _ QR;have d12:w5.cell? ⟨w.heap.size+1,12,none⟩=some (.slice none 0 0):=cell_of (i:=12) QR rfl;have f12:w5.frozen? ⟨w.heap.size+1,12,none⟩=false:=Mg w5 (w.heap.size+1) 12 _ _ QR;clear QR ND;unfold mZ;go_wp2_with fail
 first
  | exact Me (v:=.tuple #[mZ p q ca (ag ts p).length cc na nc,.int .i64 0]) (by simp [results,Tryz.results15,go_sem,mZ,d0,d1,d2,d3,d4,d5,d6,d7,d8,d9,d10,d11,d12]) rfl ⟨⟨_,rfl,ca,cc,na,⟨nc,rfl⟩,NDE⟩,XE⟩
  | exact Me (v:=.tuple #[mZ p q ca (ag ts p).length cc na nc,.int .i64 0]) (by simp [results,Tryz.results15,go_sem,mZ,d0,d1,d2,d3,d4,d5,d6,d7,d8,d9,d10,d11,d12]) rfl ⟨⟨_,rfl,fun _=>⟨ca,cc,na,nc,rfl,NDE⟩,fun c=>absurd rfl c⟩,XE⟩
  | trace_state
def fg:List (List Int)→List (List Zp)→Int
 | c :: l,z :: r=>if cz c z≠0 then cz c z else fg l r
 | _,_=>0
def fU (ts:List (List Int)) (data:List (List Zp)):Int:=if data.length≠ts.length then 8 else fg ts data
theorem ze {l:List (List Int)} {r:List (List Zp)} {j:Nat} (h:j<l.length) (h':j<r.length) (he:¬ cz l[j] r[j]=0):fg (l.drop j) (r.drop j)=cz l[j] r[j]:=by
 rw [Mi h,Mi h',fg,if_pos he]
theorem wI {l:List (List Int)} {r:List (List Zp)} {j:Nat} (h:j<l.length) (h':j<r.length) (he:cz l[j] r[j]=0):fg (l.drop j) (r.drop j)=fg (l.drop (j+1)) (r.drop (j+1)):=by
 rw [Mi h,Mi h',fg,if_neg (by simp [he])]
theorem yb {l:List (List Int)} {r:List (List Zp)} {j:Nat} (h:l.length≤j):fg (l.drop j) (r.drop j)=0:=by
 rw [MG h,fg];intro a l b r h; cases h
theorem DO (ts:List (List Int)) (data:List (List Zp)) (ta:Option Addr) (tc:Nat) (a:Option Addr) (cap:Nat) (w:World) (hT:iW w.heap.size w ta ts) (hD:rk w a data) (h8:ts.length≤8) :
  Calls Tryz.prog 16 #[.slice ta ts.length tc,.slice a data.length cap] w fun e w'=>e = .returned (.int .i64 (fU ts data))∧Below w.heap.size w w':=by
 generalize hr:fU ts data=r;have HR:=aw hr;clear hr;go_enter Tryz.func16,Tryz.ntmps16;by_cases hl:data.length=ts.length;rotate_left
 ·have hne:((data.length:Int) != (ts.length:Int))=true:=by simp; omega
  have e:r=8:=by rw [← HR.out]; unfold fU; rw [if_pos hl]
  subst e;go_wp2_with fail
  go_ret;exact ⟨rfl,Md _ _⟩
 have hne:((data.length:Int) != (ts.length:Int))=false:=by simp; omega
 have HR':Hid (r=fg (ts.drop 0) (data.drop 0)):=by show _=_; rw [← HR.out]; unfold fU; rw [if_neg (by simpa using hl)]; rfl
 have hl1:data.length≤ts.length:=by omega
 have hl2:ts.length≤data.length:=by omega
 clear HR hl;go_wp2_with fail
 clear hne;go_loopw [15] (fun i wr=>∃ j:Nat,j≤data.length∧i = .int .i64 j∧Hid (r=fg (ts.drop j) (data.drop j))∧Below w.heap.size w wr) (fun i _=>data.length - (intOf i).toNat)
 case atStart=>exact ⟨0,Mj _,rfl,HR',Md _ _⟩
 case round =>
  obtain ⟨j,hj,rfl,HT,hb⟩:=hrel;by_cases hlt:j<data.length
  ·have hlt':j<ts.length:=by omega
   obtain ⟨b1,o1,ai,ci,rfl,hb1,c1,hi⟩:=(hT.next hb (Mc _)).elem hlt';obtain ⟨b2,o2,zi,zc,rfl,hb2,c2,hz,_⟩:=(hD.next hb).elem hlt;have hjz:(j:Int)<(data.length:Int):=by omega
   have hjt:(j:Int)<(ts.length:Int):=by omega
   have hj0:(0:Int)≤(j:Int):=by omega
   have HBad:Hid (¬ cz ts[j] data[j]=0→r=cz ts[j] data[j]):=fun c=>HT.out.trans (ze hlt' hlt c)
   have HOk:Hid (cz ts[j] data[j]=0→r=fg (ts.drop (j+1)) (data.drop (j+1))):=fun c=>HT.out.trans (wI hlt' hlt c)
   have con:=gK ts[j] ai ci zi zc data[j] wr (hi.up hb.size) hz;clear HT;generalize cz ts[j] data[j]=er at *;go_wp2_with fail
   refine con.mono ?_;rintro e w5 ⟨rfl,hb5⟩;clear con c1 c2;dsimp only;by_cases h0:er=0
   ·have HT':Hid (r=fg (ts.drop (j+1)) (data.drop (j+1))):=HOk.out h0;subst h0;clear HBad HOk;go_wp2_with fail
    go_roundw
    case rel=>exact ⟨j+1,by omega,by go_num,HT',chain hb hb5⟩
    case measure=>simp [intOf]; omega
   ·have e:r=er:=HBad.out h0;have h0b:(er != 0)=true:=by simpa using h0
    subst e;clear HBad HOk;go_wp2_with fail
    go_ret;exact ⟨rfl,chain hb hb5⟩
  ·have e:r=0:=by rw [HT.out,yb (by omega)]
   have hjn:¬ (j:Int)<(data.length:Int):=by omega
   subst e;clear HT;go_wp2_with fail
   go_ret;exact ⟨rfl,hb⟩
end Go.Proofs.YtjebpkhkjkjphaaGreat
namespace Go.Proofs.YtjebpkhkjkjphaaGreat
open Go.RowKit
set_option maxRecDepth 100000
set_option maxHeartbeats 16000000
structure Lp (ts:List (List Int)) (data:List (List Zp)):Prop where
 len:data.length=ts.length
 ok:∀ z ∈ data,aR z=0
theorem Jf {r:List Vl} (h:ba r=0):r.length≤8:=by
 unfold ba at h;by_cases h8:8<r.length
 ·rw [if_pos h8] at h; cases h
 ·omega
theorem mo {ts:List (List Int)} {data:List (List Zp)}:∀ {l:List Pl} {j:Nat} (h:j<l.length),(∀ i (hi:i<l.length),i<j→(bu ts data l[i]).1=0)→¬ (bu ts data l[j]).1=0→(gV ts data l).1=(bu ts data l[j]).1
 | p :: r,0,_,_,he=>by
  simp only [Nc] at he ⊢
  rw [gV,if_pos he]
 | p :: r,j+1,h,hb,he=>by
  have h0:(bu ts data p).1=0:=hb 0 (by simp) (by omega)
  rw [gV,if_neg (by simp [h0])]
  exact mo (l:=r) (by simpa using h) (fun i hi hj=>hb (i+1) (by simpa using hi) (by omega)) he
theorem ry {ts:List (List Int)} {data:List (List Zp)}:∀ {l:List Pl},(∀ r ∈ l,(bu ts data r).1=0)→gV ts data l=(0,l.map fun r=>(bu ts data r).2)
 | [],_=>by rw [gV]; rfl
 | p :: r,h=>by
  rw [gV,if_neg (by simp [h p (by simp)]),ry fun q hq=>h q (by simp [hq])]
  rfl
theorem sF {ts:List (List Int)} {data:List (List Zp)} {p:Pl} {e:Int} (h:(gV ts data p.ks).1=e) (he:¬ e=0):bu ts data p=(e,[]):=by
 cases p; simp only [Pl.ks] at h; rw [bu,h,if_pos he]
theorem sX {ts:List (List Int)} {data:List (List Zp)} {p:Pl} (h:∀ r ∈ p.ks,(bu ts data r).1=0):bu ts data p=bP data p.k p.n p.x p.xs p.gs (p.ks.map (ag ts)) (p.ks.map fun r=>(bu ts data r).2):=by
 cases p; simp only [Pl.ks] at h; rw [bu,ry h,if_neg (by simp),bB]; rfl
def Dk (ts:List (List Int)) (data:List (List Zp)) (p:Pl):Int:=if bH ts p≠0 then bH ts p else if fU ts data≠0 then fU ts data else (bu ts data p).1
def CM (ts:List (List Int)) (data:List (List Zp)) (p:Pl):List Zp:=if bH ts p≠0∨fU ts data≠0 then [] else (bu ts data p).2
theorem ru:∀ {l:List (List Int)} {r:List (List Zp)},l.length=r.length→fg l r=0→∀ (i:Nat) (h:i<l.length) (h':i<r.length),cz l[i] r[i]=0
 | c :: l,z :: r,hl,h,0,_,_=>by
  rw [fg] at h
  by_cases c0:cz c z=0
  ·exact c0
  ·rw [if_pos c0] at h; exact absurd h c0
 | c :: l,z :: r,hl,h,i+1,h1,h2=>by
  rw [fg] at h
  by_cases c0:cz c z=0
  ·rw [if_neg (by simp [c0])] at h
   exact ru (l:=l) (r:=r) (by simpa using hl) h i (by simpa using h1) (by simpa using h2)
  ·rw [if_pos c0] at h; exact absurd h c0
 | [],_,_,_,i,h1,_=>by simp at h1
 | _ :: _,[],hl,_,_,_,_=>by simp at hl
theorem wN {ts:List (List Int)} {data:List (List Zp)} (h:fU ts data=0):data.length=ts.length∧∀ (i:Nat) (h:i<ts.length) (h':i<data.length),cz ts[i] data[i]=0:=by
 unfold fU at h;by_cases c:data.length=ts.length
 ·rw [if_neg (by simp [c])] at h;exact ⟨c,ru c.symm h⟩
 ·rw [if_pos c] at h; cases h
theorem Cf {ts:List (List Int)} {data:List (List Zp)} (h:fU ts data=0):Lp ts data:=by
 obtain ⟨h1,h2⟩:=wN h;refine ⟨h1,fun z hz=>?_⟩;obtain ⟨i,hi,rfl⟩:=Nk hz;exact ((gN _ _).1 (h2 i (by omega) hi)).set
theorem Lf {ts:List (List Int)} (h:gf ts=0):ts.length≤8:=by
 unfold gf at h;by_cases c:8<ts.length
 ·rw [if_pos c] at h; cases h
 ·omega
theorem eJ {ts:List (List Int)} {p:Pl} (h:bH ts p=0):gf ts=0∧(aV ts p 0 1).1=0:=by
 unfold bH at h;by_cases c:gf ts=0
 ·rw [if_neg (by simp [c])] at h;exact ⟨c,h⟩
 ·rw [if_pos c] at h; exact absurd h c
theorem Ed {ts:List (List Int)} {data:List (List Zp)} {p:Pl} (h:¬ bH ts p=0):Dk ts data p=bH ts p∧CM ts data p = []:=by
 unfold Dk CM; rw [if_pos h,if_pos (.inl h)]; exact ⟨rfl,rfl⟩
theorem Fy {ts:List (List Int)} {data:List (List Zp)} {p:Pl} (h:bH ts p=0) (h':¬ fU ts data=0):Dk ts data p=fU ts data∧CM ts data p = []:=by
 unfold Dk CM; rw [if_neg (by simp [h]),if_pos h',if_pos (.inr h')]; exact ⟨rfl,rfl⟩
theorem Ix {ts:List (List Int)} {data:List (List Zp)} {p:Pl} (h:bH ts p=0) (h':fU ts data=0):Dk ts data p=(bu ts data p).1∧CM ts data p=(bu ts data p).2:=by
 unfold Dk CM; rw [if_neg (by simp [h]),if_neg (by simp [h']),if_neg (by simp [h,h'])]; exact ⟨rfl,rfl⟩
def KQ:List Vl→Int:=fun _=>1
theorem pq.irrefl (x:Kp):¬ pq x x:=fun h=>pq.not h h
def Kb:List Zp→Int
 | []=>0
 | x :: r=>(if 0<x.2 then x.2 else 0)+Kb r
structure Ll (af:List Int) (key:Int) (n:Int) (z t:List Zp):Prop where
 k0:0≤key
 k1:key<af.length
 n0:0≤n∧n≤50
 LL:kj af z
 set:gm t
 len:t.length≤400
 row:∀ y ∈ t,1≤y.2∧y.2≤wt z y.1∧y.1.length=af.length
 w6:∀ y ∈ t,y.2≤1000000
 kind:∀ y ∈ t,1≤(y.1.getD key.toNat eD).1∧(y.1.getD key.toNat eD).1≤4
 LC:∀ y ∈ z,1≤(y.1.getD key.toNat eD).1∧(y.1.getD key.toNat eD).1≤4
 sum:gS KQ t=min n (Kb z)
 rest:∀ r ∈ z,0<r.2→wt t r.1<r.2→gS KQ t=n∧∀ y ∈ t,0≤dI (r.1.getD key.toNat eD) (y.1.getD key.toNat eD)
def Ak (k:Nat) (r:List Vl):Int:=((bz r).getD k eD).2.1
structure LN (xs:List Ex) (z t:List Zp):Prop where
 len:t.length≤401
 row:∀ y ∈ t,y.2=1∧y.1.length=xs.length+1∧0≤Ak xs.length y.1∧Ak xs.length y.1≤400000000
 num:∀ y ∈ t,(y.1.getD xs.length eD).2.1=Ak xs.length y.1
 sum:gS (Ak xs.length) t=Kb z
 one:xs.length=0→t.length=1
structure LI (af:List Int) (z:List Zp):Prop where
 set:gm z
 LL:kj af z
theorem CK {t:Int} {a b:List Zp} (h:fl t a b=0):aR a=0∧aR b=0∧bh (a ++ aM (bK t) b)=0∧eF t a b=canon (a ++ aM (bK t) b):=by
 have e:eF t a b=canon (a ++ aM (bK t) b):=by unfold eF; rw [if_pos h]
 unfold fl at h;by_cases h1:aR a=0
 ·rw [if_pos h1] at h;by_cases h2:aR b=0
  ·rw [if_pos h2] at h;exact ⟨h1,h2,h,e⟩
  ·rw [if_neg h2] at h; exact absurd h h2
 ·rw [if_neg h1] at h; exact absurd h h1
theorem yR {ts:List (List Int)} {data:List (List Zp)} {p:Pl} (h:(bu ts data p).1=0):∀ r ∈ p.ks,(bu ts data r).1=0:=by
 intro r hr;obtain ⟨j,hj,rfl⟩:=Nk hr
 induction j using Nat.strongRecOn with
 | ind j ih =>
  by_cases c:(bu ts data p.ks[j]).1=0
  ·exact c
  ·have hb:=mo hj (fun i hi hij=>ih i hij hi (Mk hi)) c;rw [sF hb c] at h;exact absurd h c
theorem Gy {t:Int} {q:List Zp} (h:aR q=0) (k:List Vl):wt (aM (bK t) q) k=t*wt q k:=by
 rw [ei (bK t) (by simp [bK]) k q ((cF q).1 h).2.2];rfl
theorem uD {t:Int} {p q:List Zp} (h:fl t p q=0):aR p=0∧aR q=0∧gm (eF t p q)∧aR (eF t p q)=0∧∀ k,wt (eF t p q) k=wt p k+t*wt q k:=by
 obtain ⟨h1,h2,h3,e⟩:=CK h;rw [e];refine ⟨h1,h2,dO _,wU (fun y hy=>?_) h3,fun k=>?_⟩
 ·rcases List.mem_append.1 hy with hy | hy
  ·exact (((cF p).1 h1).2.1 y hy).1
  ·obtain ⟨x,hx,rfl,_⟩:=gF _ _ y hy;exact (lT _).2 (((cF q).1 h2).2.1 x hx).1
 ·rw [cP,eU,Gy h2]
theorem LI.right {c:List Int} {z:List Zp} (h:LI c z):aR z=0:=h.LL.set
structure Bb (data more now:List (List Zp)):Prop where
 len:more.length=data.length
 J1:now.length=data.length
 err:∀ (i:Nat) (h:i<data.length) (h':i<more.length),fl 1 data[i] more[i]=0
 get:∀ (i:Nat) (h:i<data.length) (h':i<more.length) (h'':i<now.length),now[i]=eF 1 data[i] more[i]
theorem Bb.wt {data more now:List (List Zp)} (h:Bb data more now) (i:Nat) (k:List Vl):wt (now.getD i []) k=wt (data.getD i []) k+wt (more.getD i []) k:=by
 by_cases hi:i<data.length
 ·have h1:i<more.length:=by rw [h.len]; exact hi
  have h2:i<now.length:=by rw [h.J1]; exact hi
  rw [MD,MD,MD,Ms hi,Ms h1,Ms h2,Ny,Ny,Ny,h.get i hi h1 h2,(uD (h.err i hi h1)).2.2.2.2 k,Int.one_mul]
 ·have h1:¬ i<more.length:=by rw [h.len]; exact hi
  have h2:¬ i<now.length:=by rw [h.J1]; exact hi
  rw [MD,MD,MD,MK (by omega),MK (by omega),MK (by omega)];rfl
theorem Bb.set {data more now:List (List Zp)} (h:Bb data more now) (i:Nat) (hi:i<now.length):gm now[i]:=by
 have h0:i<data.length:=by rw [← h.J1]; exact hi
 have h1:i<more.length:=by rw [h.len]; exact h0
 rw [h.get i h0 h1 hi];exact (uD (h.err i h0 h1)).2.2.1
def gD (data:List (List Zp)) (k n:Int) (x:Ex) (xs:List Ex) (gs:List Ag) (cs:List (List Int)) (zs:List (List Zp)):List Zp:=match cs,zs with
 | [_],[z] =>
  if k=2 then canon (kZ x z) else if k=3 then canon (nd xs z) else if k=10 then aM iV z else if k=11 then aM iv z
  else if k=12 then canon (dC xs gs (bj xs z)) else canon (jr n (bj xs z))
 | _ :: r :: _,a :: b :: _ =>
  if k=4 then canon (ft 0 r.length x a b) else if k=5 then canon (ft 1 r.length x a b) else if k=6 then canon (ft 2 r.length x a b) else if k=7 then canon (ft 3 r.length x a b)
  else if k=8 then canon (a ++ aM (bK 1) b) else canon (a ++ aM (bK (-1)) b)
 | _,_=>canon (data.getD n.toNat [])
mutual
def iP (ts:List (List Int)) (data:List (List Zp)):Pl→List Zp
 | .mk k n x xs gs ks=>gD data k n x xs gs (aQ ts ks) (ou ts data ks)
def ou (ts:List (List Int)) (data:List (List Zp)):List Pl→List (List Zp)
 | []=>[]
 | p :: r=>iP ts data p :: ou ts data r
end
theorem jo (ts:List (List Int)) (data:List (List Zp)):∀ l,ou ts data l=l.map (iP ts data)
 | []=>by simp [ou]
 | p :: r=>by rw [ou,jo ts data r,Na]
theorem AZ {f:Int→Int} {z:List Zp} (h:aR z=0):mn f z=aM f z:=by unfold mn; rw [if_pos h]
theorem vg {t:Int} {a b:List Zp} (h:fl t a b=0):eF t a b=canon (a ++ aM (bK t) b):=by unfold eF; rw [if_pos h]
theorem E9 {data:List (List Zp)} {k n:Int} {x:Ex} {xs:List Ex} {gs:List Ag} {cs:List (List Int)} {zs:List (List Zp)} (h:(bP data k n x xs gs cs zs).1=0):(bP data k n x xs gs cs zs).2=gD data k n x xs gs cs zs:=by
 unfold bP at h ⊢;unfold gD
 split at h
 ·simp only at h ⊢;by_cases k2:k=2
  ·rw [if_pos k2] at h ⊢; rw [if_pos k2]; unfold lY; rw [if_pos h]
  rw [if_neg k2] at h ⊢; rw [if_neg k2];by_cases k3:k=3
  ·rw [if_pos k3] at h ⊢; rw [if_pos k3]; unfold ui; rw [if_pos h]
  rw [if_neg k3] at h ⊢; rw [if_neg k3];by_cases k10:k=10
  ·rw [if_pos k10] at h ⊢; rw [if_pos k10]; exact AZ h
  rw [if_neg k10] at h ⊢; rw [if_neg k10];by_cases k11:k=11
  ·rw [if_pos k11] at h ⊢; rw [if_pos k11]; exact AZ h
  rw [if_neg k11] at h ⊢; rw [if_neg k11];by_cases k12:k=12
  ·rw [if_pos k12] at h ⊢; rw [if_pos k12]; unfold iN; rw [if_pos h]
  rw [if_neg k12] at h ⊢; rw [if_neg k12]; unfold rO; rw [if_pos h]
 ·simp only at h ⊢;by_cases k4:k=4
  ·rw [if_pos k4] at h ⊢; rw [if_pos k4]; unfold ed; rw [if_pos h]
  rw [if_neg k4] at h ⊢; rw [if_neg k4];by_cases k5:k=5
  ·rw [if_pos k5] at h ⊢; rw [if_pos k5]; unfold ed; rw [if_pos h]
  rw [if_neg k5] at h ⊢; rw [if_neg k5];by_cases k6:k=6
  ·rw [if_pos k6] at h ⊢; rw [if_pos k6]; unfold ed; rw [if_pos h]
  rw [if_neg k6] at h ⊢; rw [if_neg k6];by_cases k7:k=7
  ·rw [if_pos k7] at h ⊢; rw [if_pos k7]; unfold ed; rw [if_pos h]
  rw [if_neg k7] at h ⊢; rw [if_neg k7];by_cases k8:k=8
  ·rw [if_pos k8] at h ⊢; rw [if_pos k8]; exact vg h
  rw [if_neg k8] at h ⊢; rw [if_neg k8]; exact vg h
 ·rename_i h1 h2
  simp only at h ⊢;unfold bT;rw [if_pos h]
theorem vS {ts:List (List Int)} {data:List (List Zp)}:∀ p:Pl,(bu ts data p).1=0→(bu ts data p).2=iP ts data p :=
 Pl.ind fun k n x xs gs ks ih he=>by
  have hk:=yR he
  simp only [Pl.ks] at hk
  have e:=sX (ts:=ts) (data:=data) (p:=.mk k n x xs gs ks) hk
  simp only [Pl.k,Pl.n,Pl.x,Pl.xs,Pl.gs,Pl.ks] at e
  rw [e] at he ⊢
  rw [E9 he,iP,bB,jo]
  congr 1
  exact MN fun r hr=>ih r hr (hk r hr)
theorem fG {ts:List (List Int)} {data:List (List Zp)}:∀ p:Pl,gm (iP ts data p) :=
 Pl.ind fun k n x xs gs ks ih=>by
  rw [iP]
  unfold gD
  split
  ·rename_i z hc hz
   have hzs:gm z:=by
    rw [jo] at hz
    match ks,hz with
    | [p],hz =>
     simp only [Na,NJ,List.cons.injEq,and_true] at hz;rw [← hz];exact ih p (by simp)
   split
   ·exact dO _
   split
   ·exact dO _
   split
   ·exact jR _ _ hzs.gZ
   split
   ·exact jR _ _ hzs.gZ
   split <;> exact dO _
  ·repeat' split
   all_goals exact dO _
  ·exact dO _
end Go.Proofs.YtjebpkhkjkjphaaGreat
