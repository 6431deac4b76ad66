import Derived.Test.YtoefpglknaiaeaaGreatMZ12
import Derived.Test.YtoefpglknaiaeaaGreatMZ13
set_option maxHeartbeats 16000000
set_option maxRecDepth 100000
namespace Go.Proofs.YtoefpglknaiaeaaGreat
open Go.RowKit Go.Lib Go.Shelf _root_.Go.Proofs.Tryz
theorem Et (L:List Kp):∀ p ∈ dJ L,(∀ r ∈ p.2,∃ x ∈ L,x.2=r)∧∃ x ∈ L,p.1=x.1:=by
 have aux:∀ (L:List Kp) (ps:List Pt) (P:Zp→Prop) (Q:List Vl→Prop),(∀ x ∈ L,P x.2∧Q x.1)→(∀ p ∈ ps,(∀ r ∈ p.2,P r)∧Q p.1)→∀ p ∈ L.foldl (fun ps x=>iP (cY ps x) x.2) ps,(∀ r ∈ p.2,P r)∧Q p.1:=by
  intro L
  induction L with
  | nil=>intro ps P Q _ h; exact h
  | cons x r ih =>
   intro ps P Q hL h;rw [NA];refine ih _ P Q (fun y hy=>hL y (by simp [hy])) ?_;have hx:=hL x (by simp);have ho:∀ p ∈ cY ps x,(∀ r ∈ p.2,P r)∧Q p.1:=fun p hp=>by
    have hnew:∀ p ∈ ps ++ [((x.1,[]):Pt)],(∀ r ∈ p.2,P r)∧Q p.1:=fun p hp=>by
     rcases List.mem_append.1 hp with hp | hp
     ·exact h p hp
     ·rw [List.mem_singleton.1 hp]; exact ⟨fun r hr=>by simp at hr,hx.2⟩
    unfold cY at hp
    split at hp
    ·exact hnew p hp
    ·split at hp
     ·exact h p hp
     ·exact hnew p hp
   intro p hp;unfold iP at hp
   split at hp
   ·exact ho p hp
   ·rename_i hne
    rcases List.mem_or_eq_of_mem_set hp with hp | rfl
    ·exact ho p hp
    ·have hl:=ho _ (MC (l:=cY ps x) (n:=(cY ps x).length - 1) ag);refine ⟨fun r hr=>?_,hl.2⟩;rcases List.mem_append.1 hr with hr | hr
     ·exact hl.1 r hr
     ·rw [List.mem_singleton.1 hr]; exact hx.1
 intro p hp;exact aux L [] (fun r=>∃ x ∈ L,x.2=r) (fun k=>∃ x ∈ L,k=x.1) (fun x hx=>⟨⟨x,hx,rfl⟩,⟨x,hx,rfl⟩⟩) (fun p hp=>by simp at hp) p hp
def dN (xs:List Ex) (L:List Kp):List Pt:=if xs.length=0∧(dJ L).length=0 then [([],[])] else dJ L
def dZ (xs:List Ex) (gs:List Ag) (L:List Kp):List Zp:=(dN xs L).map fun p=>(p.1 ++ gs.map fun g=>fF g p.2,1)
def dx (cols:List Int) (xs:List Ex) (gs:List Ag) (z:List Zp):Int:=if 8<xs.length+gs.length then 5 else if bM cols xs≠0 then bM cols xs else if dF cols gs≠0 then dF cols gs else if bV cols z≠0 then bV cols z else aR (dZ xs gs (aY xs z))
def ei (cols:List Int) (xs:List Ex) (gs:List Ag) (z:List Zp):List Zp:=if dx cols xs gs z=0 then canon (dZ xs gs (aY xs z)) else []
theorem GR {cols:List Int} {xs:List Ex} {z:List Zp} (h:gN cols z):(dN xs (aY xs z)).length≤401∧∀ p ∈ dN xs (aY xs z),Fv cols p.2∧p.1.length=xs.length:=by
 have hs:=qT (aY xs z);have hl:=jv xs z;have h4:=dg h;have hp:∀ p ∈ dJ (aY xs z),Fv cols p.2∧p.1.length=xs.length:=fun p hp=>by
  obtain ⟨h1,x,hx,e⟩:=Et (aY xs z) p hp;refine ⟨⟨by have:=hs.2 p hp; omega,fun r hr=>?_,fun r hr=>?_⟩,?_⟩
  ·obtain ⟨y,hy,rfl⟩:=h1 r hr;exact h.fit _ (dL.1 hy).1.1
  ·obtain ⟨y,hy,rfl⟩:=h1 r hr;have hm:=dL.1 hy;have:=jb h y.2 hm.1.1;rw [cK] at this;have:=hm.1.2;omega
  ·rw [e,(dL.1 hx).2]; simp [bp]
 unfold dN
 split
 ·rename_i hc
  refine ⟨by simp,fun p hp'=>?_⟩;rw [List.mem_singleton.1 hp'];exact ⟨⟨MD _,fun r hr=>by simp at hr,fun r hr=>by simp at hr⟩,hc.1.symm⟩
 ·exact ⟨by have:=hs.1; omega,hp⟩
def LA (W:World) (b o:Nat) (p:Pt):Prop:=(∃ ka kc,W.cell? (ah b o)=some (.slice ka p.1.length kc)∧aZ W ka p.1)∧∃ ra rc,W.cell? ⟨b,o+1,none⟩=some (.slice ra p.2.length rc)∧aK W ra p.2
theorem LA.next {W w1:World} {b o:Nat} {p:Pt} (h:LA W b o p) (hlt:b<W.heap.size) (hb:Below W W w1):LA w1 b o p:=by
 obtain ⟨⟨ka,kc,h1,h2⟩,ra,rc,h3,h4⟩:=h;exact ⟨⟨ka,kc,(hb.cell (p:=⟨b,_,none⟩) hlt).trans h1,h2.next hb⟩,ra,rc,(hb.cell (p:=⟨b,_,none⟩) hlt).trans h3,h4.next hb⟩
def AG (W:World) (a:Option Addr) (ps:List Pt):Prop:=ps = []∨∃ b off,a=some ⟨b,off,none⟩∧b<W.heap.size∧∀ i (hi:i<ps.length),LA W b (off+i*2) ps[i]
theorem AG.next {W w1:World} {a:Option Addr} {ps:List Pt} (h:AG W a ps) (hb:Below W W w1):AG w1 a ps:=by
 rcases h with h | ⟨b,off,e,hlt,h⟩
 ·exact .inl h
 ·exact .inr ⟨b,off,e,My hlt hb.size,fun i hi=>(h i hi).next hlt hb⟩
theorem AG.elem {W:World} {a:Option Addr} {ps:List Pt} (h:AG W a ps) {i:Nat} (hi:i<ps.length):∃ b off,a=some ⟨b,off,none⟩∧b<W.heap.size∧LA W b (off+i*2) ps[i]:=by
 rcases h with h | ⟨b,off,e,hlt,h⟩
 ·subst h; simp at hi
 ·exact ⟨b,off,e,hlt,h i hi⟩
theorem np.pt {w0:World} {B:Nat} {W:World} {v:Value} {ps:List Pt} (h:np w0 B W v ps) (hb:Below w0 w0 W):∃ a c,v = .slice a ps.length c∧AG W a ps:=by
 obtain ⟨xs,Bl,rv,zs,I⟩:=h;have o:=I.own;rcases o.2 with ⟨rfl,h0⟩ | ⟨g,cap,cur,rfl,_⟩
 ·exact ⟨none,0,by rw [h0],.inl (MH h0)⟩
 ·refine ⟨_,cap,rfl,.inr ⟨g,0,rfl,(o.lt g rfl).2,fun i hi=>?_⟩⟩;obtain ⟨ka,kc,e0,s0⟩:=I.key i hi;obtain ⟨ra,rc,er,zr⟩:=rC (I.Hp hi) rfl (I.row i hi).2 hb;refine ⟨⟨ka,kc,?_,s0.next hb⟩,ra,rc,?_,zr⟩
  ·rw [MG,o.cellAt _ ag]; exact e0
  ·rw [MG,o.cellAt _ ag,I.cell i hi,er]
theorem yt (cols:List Int) (xs:List Ex) (gs:List Ag) (hT:∀ g ∈ gs,dh cols g=0→iK g.1) (hsum:xs.length+gs.length≤9223372036854775807) (ca:Option Addr) (ccap:Nat) (xa:Option Addr) (xcap:Nat) (ga:Option Addr) (gcap:Nat) (a:Option Addr) (cap:Nat) (l:List Zp) (w:World) (hc:bf w w ca cols) (hk:aU w w xa xs) (hg:iO w w ga gs) (h:aK w a l) :
  Calls prog 96 #[.slice ca cols.length ccap,.slice xa xs.length xcap,.slice ga gs.length gcap,.slice a l.length cap] w fun e w'=>∃ v,e = .returned (.tuple #[v,.int .i64 (dx cols xs gs l)])∧eA w w' v (ei cols xs gs l)∧Below w w w':=by
 obtain ⟨i0,hi,hz0,hz1,hz2⟩:=info_parts Tryz.fK;have con:=xn cols xs ca ccap xa xcap w hk hc;generalize hfz:ei cols xs gs l=fz;generalize hfe:dx cols xs gs l=fe;have HZ:=aB hfz;have HF:=aB hfe;have HTo:=aB hT;clear hfz hfe hT;have hW:IntKind.i64.wrap ((xs.length:Int)+(gs.length:Int))=(xs.length:Int)+(gs.length:Int):=IntWalk.i64_in _ ⟨by omega,by omega⟩;by_cases h8:8<xs.length+gs.length
 ·have e0:fe=5:=by rw [← HF.out]; unfold dx; rw [if_pos h8]
  have e1:fz = []:=by rw [← HZ.out]; unfold ei; rw [HF.out,e0,if_neg (by decide)]
  subst e0 e1;have hz:(8:Int)<(xs.length:Int)+(gs.length:Int):=by omega
  clear con;go_enter func96,ntmps96;go_wp2_with fail
  exact bJ rfl rfl ⟨_,rfl,ed _ _,Mz _ _⟩
 have hz:¬ (8:Int)<(xs.length:Int)+(gs.length:Int):=by omega
 have HN8:=aB h8;by_cases h1:bM cols xs=0
 ·have H1:=aB h1;rw [h1] at con;clear h1;go_enter func96,ntmps96;go_wp2_with fail
  refine con.mono ?_;rintro e w1 ⟨u,rfl,hL,hb1⟩;clear con;have hL:lM cols w u xs w1:=by
   rcases hL with ⟨_,hL⟩ | ⟨hL,_⟩
   ·exact hL
   ·exact absurd (by trivial) hL
  have HL:=aB hL;obtain ⟨ug,ucb,rfl⟩:∃ g cb,u = .func (.func g) #[] cb:=by obtain ⟨g,cb,e,_⟩:=hL; exact ⟨g,cb,e⟩
  clear hL;have con:=ux cols gs HTo.out ca ccap ga gcap w1 ((iO.next hb1 (Mx _) hg).up hb1.size) ((hc.next hb1 (Mx _)).up hb1.size) ag;by_cases h2:dF cols gs=0
  ·have H2:=aB h2;rw [h2] at con;clear h2;dsimp only;go_wp2_with fail
   refine con.mono ?_;rintro e w2 ⟨u2,rfl,hG,hb2⟩;clear con;have hG:Df cols w1 u2 gs w2:=by
    rcases hG with ⟨_,hG⟩ | ⟨hG,_⟩
    ·exact hG
    ·exact absurd (by trivial) hG
   obtain ⟨tg,tcb,rfl,egt,dt⟩:=hG;have HD:=aB dt;clear dt;have hA2:=chain hb1 hb2;have con:=hU cols ca ccap a cap l w2 ((hc.next hA2 (Mx _)).up hA2.size) (h.next hA2);by_cases h3:bV cols l=0
   ·have HO:=aB ((gj cols l).1 h3);rw [h3] at con;have H3:=aB h3;clear h3;have HE:Hid (fe=aR (dZ xs gs (aY xs l))):=by
     show fe=_;rw [← HF.out]; unfold dx; rw [if_neg HN8.out,H1.out,H2.out,H3.out,if_neg (by simp),if_neg (by simp),if_neg (by simp)]
    have HV:Hid (fz=bh (dZ xs gs (aY xs l))):=by
     show fz=_;rw [← HZ.out]; unfold ei bh; rw [HF.out,HE.out]
    have hl4:=dg HO.out;dsimp only;go_wp2_with fail
    refine bC con fun w3 hb3=>?_;clear con;have hA3:=chain hA2 hb3;have con:=rT cols xs (.func (.func ug) #[] ucb) w.heap.size a cap l w3 (HL.out.next (aI.of (chain hb2 hb3))) HO.out (h.next hA3);have hil:=jv xs l;dsimp only;go_wp2_with fail
    refine con.mono ?_;rintro e w4 ⟨a4,c4,rfl,kd,hb4⟩;clear con;have con:=CP a4 c4 (aY xs l) w4 kd ag;have hpk:=GR (xs:=xs) HO.out;have HPk:=aB hpk.2;have hpl:=hpk.1;clear hpk;dsimp only;go_wp2_with fail
    refine con.mono ?_;rintro e w5 ⟨v5,rfl,PS,hb5⟩;clear con kd;obtain ⟨a5,c5,rfl,PT⟩:=PS.pt hb5;clear PS;have hA5:=chain (chain hA3 hb4) hb5;have hS5:=chain (chain hb3 hb4) hb5;have HG:Hid (dZ xs gs (aY xs l)=(dN xs (aY xs l)).map fun p=>(p.1 ++ gs.map fun g=>fF g p.2,1)):=rfl;dsimp only;by_cases hcx:xs.length=0∧(dJ (aY xs l)).length=0
    ·obtain ⟨hx0,hp0⟩:=hcx;have eG:dN xs (aY xs l) = [([],[])]:=by unfold dN; rw [if_pos ⟨hx0,hp0⟩]
     have hx0b:((xs.length:Int) == 0)=true:=by simp [hx0]
     have hp0b:(((dJ (aY xs l)).length:Int) == 0)=true:=by simp [hp0]
     obtain ⟨ps,eps⟩:∃ ps,ps=dN xs (aY xs l):=⟨_,rfl⟩
     have HPs:=aB eps.symm;have hpsl:ps.length=1:=by rw [eps,eG]; rfl
     have hplx:ps.length≤401:=by omega
     generalize hpn:(dJ (aY xs l)).length=pn at *;obtain ⟨hal5,q5⟩:=iV w5 #[bX,bX] 162;have PT:AG (w5.alloc (.cells #[bX,bX] 162)) (some (ah w5 0)) ps:=by
      rw [eps,eG];refine .inr ⟨w5.heap.size,0,rfl,an q5,fun i hi=>?_⟩;have e0:i=0:=by simpa using hi
      subst e0;exact ⟨⟨none,0,cell_of (i:=0) q5 rfl,MD _,.inl rfl⟩,none,0,cell_of (i:=1) q5 rfl,MD _,.inl rfl⟩
     clear eps hpn eG hp0;go_upto_region 15 with fail
     have hbx:=chain hA5 hal5;have hSx:=chain hS5 hal5;generalize w5.alloc _=wx at *;obtain ⟨pa,epa⟩:∃ pa,pa=some ((ah w5 0):Addr):=⟨_,rfl⟩
     rw [← epa] at PT ⊢;clear epa;rw [show (1:Nat)=ps.length from hpsl.symm];clear hpsl hx0b hp0b hx0;have hgl:(dZ xs gs (aY xs l)).length=ps.length:=by rw [HG.out,HPs.out]; simp
     go_wp2_with (first | (at_make; refine wpList_make_full _ rfl _ _ 38 rfl wx 47 i0 _ 2 underlying38 hi hz0 hz1 .i64 .i64 ps.length ps.length ps.length rfl rfl rfl rfl (by rw [hz2]; omega) (by unfold maxLen; omega) (Mx _) ?_))
     intro w6 hown hgrow;have hb6:Below wx wx w6:=(Mz _ _).grown hgrow (Mx _) (by simp);obtain ⟨f,hf⟩:∃ f:Nat→Zp,f=(fun j=>(dZ xs gs (aY xs l)).getD j ([],0)):=⟨_,rfl⟩
     have HFn:=aB hf;have HGl:=aB hgl;clear hf hgl;have hB0:xz w6 wx ps.length f 0:=⟨_,hown,fun j _ hj=>absurd hj (M9 _)⟩
     clear hown hgrow;go_wp2_with fail
     go_loopw [67] (fun i wr=>∃ k:Nat,k≤ps.length∧i = .int .i64 k∧xz wr wx ps.length f k∧wx.heap.size<wr.heap.size∧Below wx wx wr) (fun i _=>ps.length - (intOf i).toNat)
     case atStart=>exact ⟨0,MD _,rfl,hB0,(by obtain ⟨xs0,o0,_⟩:=hB0; exact (o0.lt wx rfl).2),hb6⟩
     case round =>
      clear hB0 hb6;obtain ⟨k,hk',rfl,HB,hwx,hb⟩:=hrel;have hzz:=hb.size;by_cases hlt:k<ps.length
      ·obtain ⟨b,off,rfl,hbl,⟨ka,kc,c0,sk⟩,ra,rc,c1,zr⟩:=(PT.next hb).elem hlt;obtain ⟨hal,q0⟩:=iV wr #[.slice ka ps[k].1.length kc,.slice ra ps[k].2.length rc] 162;have hpo:=HPk.out ps[k] (by rw [HPs.out]; exact MC hlt);have HRo:=aB hpo.1;have hkl:=hpo.2;have HSk:=aB sk;have HZr:=aB zr;have ef:f k=(ps[k].1 ++ gs.map fun g=>fF g ps[k].2,1):=by
        rw [HFn.out];simp only [HG.out,HPs.out];simp [List.getD,hlt]
       have EF:=aB ef;have i0':(0:Int)≤(k:Int):=by omega
       have i1:(k:Int)<(ps.length:Int):=by omega
       have hkl8:ps[k].1.length+gs.length≤8:=by omega
       clear ef sk zr hpo hkl;go_wp2_with fail
       clear c0 c1;generalize wr.alloc _=wk at *;have hCC:∀ W W':World,(W.heap[wr.heap.size]? = some (.cells #[.slice ka ps[k].1.length kc,.slice ra ps[k].2.length rc] 162 (0,0)))→Below W W W'→(W'.heap[wr.heap.size]? = some (.cells #[.slice ka ps[k].1.length kc,.slice ra ps[k].2.length rc] 162 (0,0))):=fun W W' h hb=>(hb.block _ (an h)).trans h
       have hd:Below wk wk wk.drew:=(Mz _ _).drew;have CW:=hCC _ _ q0 hd;refine aP (fun W=>(W.heap[wr.heap.size]? = some (.cells #[.slice ka ps[k].1.length kc,.slice ra ps[k].2.length rc] 162 (0,0)))) aG ?_;refine bB hCC 72 0 (.slice (some (ah wx 0)) ps.length ps.length) (fun n hn=>?_) CW ?_
       ·go_simp
       simp only [pX];refine bB hCC 73 1 (.int .i64 (k:Int)) (fun n hn=>?_) CW ?_
       ·go_simp
       simp only [pX];refine bB hCC 74 2 (ah wr 0) (fun n hn=>?_) CW ?_
       ·go_simp
       simp only [pX];refine bB hCC 75 3 (.slice ka ps[k].1.length kc) (fun n hn=>?_) CW ?_
       ·have hc:=cell_of (i:=0) hn rfl;go_simp
       simp only [pX];refine bB hCC 76 4 (.func (.func tg) #[] tcb) (fun n hn=>?_) CW ?_
       ·go_simp
       simp only [pX];refine bB hCC 77 5 (ah wr 1) (fun n hn=>?_) CW ?_
       ·go_simp
       simp only [pX];refine bB hCC 78 6 (.slice ra ps[k].2.length rc) (fun n hn=>?_) CW ?_
       ·have hc:=cell_of (i:=1) hn rfl;go_simp
       simp only [pX];refine gp 7 aG fun w7 hb7=>?_
       have CW7:=hCC _ _ CW hb7;have D7:=chain hal (chain hd hb7);have con:=HD.out ps[k].2 ra rc w7 HRo.out (HZr.out.next D7) (aI.of (chain hSx (chain hb D7)));refine wpOp_step rfl (fun K hK=>?_);go_simp
       first | (refine con.mono ?_) | (go_at_fn tg; refine con.mono ?_)
       rintro e w8 ⟨rfl,hRN,hb8⟩;clear con;have CW8:=hCC _ _ CW7 hb8;have D8:=chain D7 hb8;refine hK _ _ ⟨CW8,?_⟩;clear hK K;refine gp 8 aG fun w9 hb9=>?_
       refine wpOp_step rfl (fun K hK=>?_);go_simp;have CW9:=hCC _ _ CW8 hb9;have D9:=chain D8 hb9;have R2:=fj (hRN.1.next hb9);have hgm:(gs.map fun g=>fF g ps[k].2).length=gs.length:=by simp
       rw [hgm] at R2;have PC:=jA.new kc gs.length (fj (HSk.out.next D9)) R2 45;have halA:=aN w9 (.cells #[.slice ka ps[k].1.length kc,.slice (some (ah w7 0)) gs.length gs.length] 45);have CWA:=hCC _ _ CW9 halA;have DA:=chain D9 halA;refine hK _ _ ⟨CWA,?_⟩;clear hK K R2 hgm hRN;generalize w9.alloc _=wA at *;refine jC (rs:=[9]) aG (by simp) ?_;intro wB hbB jj hj
       obtain rfl:jj=9:=by simpa using hj
       clear hj;refine wpOp_step rfl (fun K hK=>?_);go_simp;have CWB:=hCC _ _ CWA hbB;have DB:=chain DA hbB;refine (kY _ _ _ _ _ wB (PC.next hbB) ag).mono ?_;rintro e wC ⟨vC,rfl,OC,hbC⟩;rw [← bW] at OC;obtain ⟨aC,cC,rfl,SC,TC,_⟩:=dQ OC (by simp);have CWC:=hCC _ _ CWB hbC;have DC:=chain DB hbC;refine hK _ _ ⟨CWC,?_⟩;clear hK K OC PC CW7 CW8 CW9 CWA CWB CW;obtain ⟨rr,err⟩:∃ rr,rr=ps[k].1 ++ gs.map fun g=>fF g ps[k].2:=⟨_,rfl⟩
       rw [← err] at SC ⊢;have EFr:Hid (f k=(rr,1)):=by show _=_; rw [err]; exact EF.out
       clear err EF;refine bB hCC 82 10 (.agg #[.slice aC rr.length cC,(1:Int)]) (fun n hn=>?_) CWC ?_
       ·go_simp
       simp only [pX];refine bB hCC 83 11 (.pointer (some ⟨wx,k*2,none⟩)) (fun n hn=>?_) CWC ?_
       ·go_simp
       simp only [Act.put,pA,pB,pC];refine gp 12 aG fun wD hbD=>?_
       have CWD:=hCC _ _ CWC hbD;have DD:=chain DC hbD;have HBD:=(HB.next DD)
       obtain ⟨⟨u0,u1,d0,d1⟩,f0,f1,hlb⟩:=HBD.cells hlt;have MS:=HBD.step hlt (a:=aC) (cap:=cC) (by rw [EFr.out]; exact SC.next hbD) (TC.next hbD);rw [EFr.out] at MS;have hne:wr.heap.size≠wx.heap.size:=by omega
       have CWE:(((wD.setCell ⟨wx,k*2,none⟩ (.slice aC rr.length cC)).setCell ⟨wx,k*2+1,none⟩ (1:Int)).heap[wr.heap.size]? = some (.cells #[.slice ka ps[k].1.length kc,.slice ra ps[k].2.length rc] 162 (0,0))):=(Nf _ _ _ _ hne).trans ((Nf _ _ _ _ hne).trans CWD);have BE:Below wx wx ((wD.setCell ⟨wx,k*2,none⟩ (.slice aC rr.length cC)).setCell ⟨wx,k*2+1,none⟩ (1:Int)):=((chain hb DD).setCell (p:=⟨wx,k*2,none⟩) (Mx _) _).setCell (p:=⟨wx,k*2+1,none⟩) (Mx _) _
       have zE:wx.heap.size<((wD.setCell ⟨wx,k*2,none⟩ (.slice aC rr.length cC)).setCell ⟨wx,k*2+1,none⟩ (1:Int)).heap.size:=by simpa [World.setCell] using hlb
       refine wpOp_step rfl (fun K hK=>?_);go_simp;refine hK _ _ ⟨CWE,?_⟩;clear hK K CWD CWC d0 d1 f0 f1 HBD SC TC;generalize (wD.setCell ⟨wx,k*2,none⟩ (.slice aC rr.length cC)).setCell ⟨wx,k*2+1,none⟩ (1:Int)=wE at *;refine cA aG ?_;intro wF hbF;have MF:=MS.next hbF;have BF:=chain BE hbF;have zF:=hbF.size;clear MS BE CWE hCC;go_wp2_with fail
       go_roundw
       case rel=>exact ⟨k+1,by omega,by go_num,MF,by omega,BF⟩
       case measure=>simp [intOf]; omega
      ·have e:k=ps.length:=by omega
       subst e;have zsm:=HB.done (dZ xs gs (aY xs l)) HGl.out.symm (fun j hj=>by rw [HFn.out]; simp [List.getD,hj]) (by rw [HGl.out]; omega);have hmem:∀ y ∈ dZ xs gs (aY xs l),y.2=1∧y.1.length≤8:=fun y hy=>by
        rw [HG.out] at hy;obtain ⟨p,hp,rfl⟩:=List.mem_map.1 hy;have:=(HPk.out p hp).2;exact ⟨rfl,by simp; omega⟩
       have con:=eU (some (ah wx 0)) ps.length (dZ xs gs (aY xs l)) wr zsm (by rw [HGl.out]; omega) (fun y hy=>by rw [(hmem y hy).1]; rfl) (fun y hy=>(hmem y hy).2);rw [HGl.out,← HE.out,← HV.out] at con;clear zsm HB hmem;have hAr:=chain hbx hb;go_wp2_with fail
       refine con.mono ?_;rintro e w9 ⟨v9,rfl,O9,hb9⟩;have O9':=O9.mono hAr.size;obtain ⟨a9,c9,rfl,_⟩:=O9.zs;clear con O9;dsimp only;go_wp2_with fail
       exact bJ rfl rfl ⟨_,rfl,O9',chain hAr hb9⟩
    ·have eG:dN xs (aY xs l)=dJ (aY xs l):=by unfold dN; rw [if_neg hcx]
     obtain ⟨ps,eps⟩:∃ ps,ps=dN xs (aY xs l):=⟨_,rfl⟩
     have HPs:=aB eps.symm;have eP:dJ (aY xs l)=ps:=by rw [eps,eG]
     rw [eP] at hcx PT ⊢;have hplx:ps.length≤401:=by rw [eps]; exact hpl
     clear eps eG eP;obtain ⟨wx,hwx5⟩:∃ z,z=w5:=⟨_,rfl⟩
     subst hwx5;have hbx:=hA5;have hSx:=hS5;by_cases e1:xs.length=0;have e2n:¬ (ps.length:Int)=0:=fun e2=>hcx ⟨e1,by omega⟩
     have e2:((ps.length:Int) == 0)=false:=by rw [beq_eq_false_iff_ne]; exact e2n
     have e1b:((xs.length:Int) == 0)=true:=by simp [e1]
     clear hcx e1;go_upto_region 15 with fail
     clear e1b e2 e2n;rotate_left;have e1n:¬ (xs.length:Int)=0:=by omega
     have e1b:((xs.length:Int) == 0)=false:=by rw [beq_eq_false_iff_ne]; exact e1n
     clear hcx e1;go_upto_region 15 with fail
     clear e1b e1n
     all_goals
      have hgl:(dZ xs gs (aY xs l)).length=ps.length:=by rw [HG.out,HPs.out]; simp
      go_wp2_with (first | (at_make; refine wpList_make_full _ rfl _ _ 38 rfl wx 47 i0 _ 2 underlying38 hi hz0 hz1 .i64 .i64 ps.length ps.length ps.length rfl rfl rfl rfl (by rw [hz2]; omega) (by unfold maxLen; omega) (Mx _) ?_))
      intro w6 hown hgrow;have hb6:Below wx wx w6:=(Mz _ _).grown hgrow (Mx _) (by simp);obtain ⟨f,hf⟩:∃ f:Nat→Zp,f=(fun j=>(dZ xs gs (aY xs l)).getD j ([],0)):=⟨_,rfl⟩
      have HFn:=aB hf;have HGl:=aB hgl;clear hf hgl;have hB0:xz w6 wx ps.length f 0:=⟨_,hown,fun j _ hj=>absurd hj (M9 _)⟩
      clear hown hgrow;go_wp2_with fail
      go_loopw [67] (fun i wr=>∃ k:Nat,k≤ps.length∧i = .int .i64 k∧xz wr wx ps.length f k∧wx.heap.size<wr.heap.size∧Below wx wx wr) (fun i _=>ps.length - (intOf i).toNat)
      case atStart=>exact ⟨0,MD _,rfl,hB0,(by obtain ⟨xs0,o0,_⟩:=hB0; exact (o0.lt wx rfl).2),hb6⟩
      case round =>
       clear hB0 hb6;obtain ⟨k,hk',rfl,HB,hwx,hb⟩:=hrel;have hzz:=hb.size;by_cases hlt:k<ps.length
       ·obtain ⟨b,off,rfl,hbl,⟨ka,kc,c0,sk⟩,ra,rc,c1,zr⟩:=(PT.next hb).elem hlt;obtain ⟨hal,q0⟩:=iV wr #[.slice ka ps[k].1.length kc,.slice ra ps[k].2.length rc] 162;have hpo:=HPk.out ps[k] (by rw [HPs.out]; exact MC hlt);have HRo:=aB hpo.1;have hkl:=hpo.2;have HSk:=aB sk;have HZr:=aB zr;have ef:f k=(ps[k].1 ++ gs.map fun g=>fF g ps[k].2,1):=by
         rw [HFn.out];simp only [HG.out,HPs.out];simp [List.getD,hlt]
        have EF:=aB ef;have i0':(0:Int)≤(k:Int):=by omega
        have i1:(k:Int)<(ps.length:Int):=by omega
        have hkl8:ps[k].1.length+gs.length≤8:=by omega
        clear ef sk zr hpo hkl;go_wp2_with fail
        clear c0 c1;generalize wr.alloc _=wk at *;have hCC:∀ W W':World,(W.heap[wr.heap.size]? = some (.cells #[.slice ka ps[k].1.length kc,.slice ra ps[k].2.length rc] 162 (0,0)))→Below W W W'→(W'.heap[wr.heap.size]? = some (.cells #[.slice ka ps[k].1.length kc,.slice ra ps[k].2.length rc] 162 (0,0))):=fun W W' h hb=>(hb.block _ (an h)).trans h
        have hd:Below wk wk wk.drew:=(Mz _ _).drew;have CW:=hCC _ _ q0 hd;refine aP (fun W=>(W.heap[wr.heap.size]? = some (.cells #[.slice ka ps[k].1.length kc,.slice ra ps[k].2.length rc] 162 (0,0)))) aG ?_;refine bB hCC 72 0 (.slice (some (ah wx 0)) ps.length ps.length) (fun n hn=>?_) CW ?_
        ·go_simp
        simp only [pX];refine bB hCC 73 1 (.int .i64 (k:Int)) (fun n hn=>?_) CW ?_
        ·go_simp
        simp only [pX];refine bB hCC 74 2 (ah wr 0) (fun n hn=>?_) CW ?_
        ·go_simp
        simp only [pX];refine bB hCC 75 3 (.slice ka ps[k].1.length kc) (fun n hn=>?_) CW ?_
        ·have hc:=cell_of (i:=0) hn rfl;go_simp
        simp only [pX];refine bB hCC 76 4 (.func (.func tg) #[] tcb) (fun n hn=>?_) CW ?_
        ·go_simp
        simp only [pX];refine bB hCC 77 5 (ah wr 1) (fun n hn=>?_) CW ?_
        ·go_simp
        simp only [pX];refine bB hCC 78 6 (.slice ra ps[k].2.length rc) (fun n hn=>?_) CW ?_
        ·have hc:=cell_of (i:=1) hn rfl;go_simp
        simp only [pX];refine gp 7 aG fun w7 hb7=>?_
        have CW7:=hCC _ _ CW hb7;have D7:=chain hal (chain hd hb7);have con:=HD.out ps[k].2 ra rc w7 HRo.out (HZr.out.next D7) (aI.of (chain hSx (chain hb D7)));refine wpOp_step rfl (fun K hK=>?_);go_simp
        first | (refine con.mono ?_) | (go_at_fn tg; refine con.mono ?_)
        rintro e w8 ⟨rfl,hRN,hb8⟩;clear con;have CW8:=hCC _ _ CW7 hb8;have D8:=chain D7 hb8;refine hK _ _ ⟨CW8,?_⟩;clear hK K;refine gp 8 aG fun w9 hb9=>?_
        refine wpOp_step rfl (fun K hK=>?_);go_simp;have CW9:=hCC _ _ CW8 hb9;have D9:=chain D8 hb9;have R2:=fj (hRN.1.next hb9);have hgm:(gs.map fun g=>fF g ps[k].2).length=gs.length:=by simp
        rw [hgm] at R2;have PC:=jA.new kc gs.length (fj (HSk.out.next D9)) R2 45;have halA:=aN w9 (.cells #[.slice ka ps[k].1.length kc,.slice (some (ah w7 0)) gs.length gs.length] 45);have CWA:=hCC _ _ CW9 halA;have DA:=chain D9 halA;refine hK _ _ ⟨CWA,?_⟩;clear hK K R2 hgm hRN;generalize w9.alloc _=wA at *;refine jC (rs:=[9]) aG (by simp) ?_;intro wB hbB jj hj
        obtain rfl:jj=9:=by simpa using hj
        clear hj;refine wpOp_step rfl (fun K hK=>?_);go_simp;have CWB:=hCC _ _ CWA hbB;have DB:=chain DA hbB;refine (kY _ _ _ _ _ wB (PC.next hbB) ag).mono ?_;rintro e wC ⟨vC,rfl,OC,hbC⟩;rw [← bW] at OC;obtain ⟨aC,cC,rfl,SC,TC,_⟩:=dQ OC (by simp);have CWC:=hCC _ _ CWB hbC;have DC:=chain DB hbC;refine hK _ _ ⟨CWC,?_⟩;clear hK K OC PC CW7 CW8 CW9 CWA CWB CW;obtain ⟨rr,err⟩:∃ rr,rr=ps[k].1 ++ gs.map fun g=>fF g ps[k].2:=⟨_,rfl⟩
        rw [← err] at SC ⊢;have EFr:Hid (f k=(rr,1)):=by show _=_; rw [err]; exact EF.out
        clear err EF;refine bB hCC 82 10 (.agg #[.slice aC rr.length cC,(1:Int)]) (fun n hn=>?_) CWC ?_
        ·go_simp
        simp only [pX];refine bB hCC 83 11 (.pointer (some ⟨wx,k*2,none⟩)) (fun n hn=>?_) CWC ?_
        ·go_simp
        simp only [Act.put,pA,pB,pC];refine gp 12 aG fun wD hbD=>?_
        have CWD:=hCC _ _ CWC hbD;have DD:=chain DC hbD;have HBD:=(HB.next DD)
        obtain ⟨⟨u0,u1,d0,d1⟩,f0,f1,hlb⟩:=HBD.cells hlt;have MS:=HBD.step hlt (a:=aC) (cap:=cC) (by rw [EFr.out]; exact SC.next hbD) (TC.next hbD);rw [EFr.out] at MS;have hne:wr.heap.size≠wx.heap.size:=by omega
        have CWE:(((wD.setCell ⟨wx,k*2,none⟩ (.slice aC rr.length cC)).setCell ⟨wx,k*2+1,none⟩ (1:Int)).heap[wr.heap.size]? = some (.cells #[.slice ka ps[k].1.length kc,.slice ra ps[k].2.length rc] 162 (0,0))):=(Nf _ _ _ _ hne).trans ((Nf _ _ _ _ hne).trans CWD);have BE:Below wx wx ((wD.setCell ⟨wx,k*2,none⟩ (.slice aC rr.length cC)).setCell ⟨wx,k*2+1,none⟩ (1:Int)):=((chain hb DD).setCell (p:=⟨wx,k*2,none⟩) (Mx _) _).setCell (p:=⟨wx,k*2+1,none⟩) (Mx _) _
        have zE:wx.heap.size<((wD.setCell ⟨wx,k*2,none⟩ (.slice aC rr.length cC)).setCell ⟨wx,k*2+1,none⟩ (1:Int)).heap.size:=by simpa [World.setCell] using hlb
        refine wpOp_step rfl (fun K hK=>?_);go_simp;refine hK _ _ ⟨CWE,?_⟩;clear hK K CWD CWC d0 d1 f0 f1 HBD SC TC;generalize (wD.setCell ⟨wx,k*2,none⟩ (.slice aC rr.length cC)).setCell ⟨wx,k*2+1,none⟩ (1:Int)=wE at *;refine cA aG ?_;intro wF hbF;have MF:=MS.next hbF;have BF:=chain BE hbF;have zF:=hbF.size;clear MS BE CWE hCC;go_wp2_with fail
        go_roundw
        case rel=>exact ⟨k+1,by omega,by go_num,MF,by omega,BF⟩
        case measure=>simp [intOf]; omega
       ·have e:k=ps.length:=by omega
        subst e;have zsm:=HB.done (dZ xs gs (aY xs l)) HGl.out.symm (fun j hj=>by rw [HFn.out]; simp [List.getD,hj]) (by rw [HGl.out]; omega);have hmem:∀ y ∈ dZ xs gs (aY xs l),y.2=1∧y.1.length≤8:=fun y hy=>by
         rw [HG.out] at hy;obtain ⟨p,hp,rfl⟩:=List.mem_map.1 hy;have:=(HPk.out p hp).2;exact ⟨rfl,by simp; omega⟩
        have con:=eU (some (ah wx 0)) ps.length (dZ xs gs (aY xs l)) wr zsm (by rw [HGl.out]; omega) (fun y hy=>by rw [(hmem y hy).1]; rfl) (fun y hy=>(hmem y hy).2);rw [HGl.out,← HE.out,← HV.out] at con;clear zsm HB hmem;have hAr:=chain hbx hb;go_wp2_with fail
        refine con.mono ?_;rintro e w9 ⟨v9,rfl,O9,hb9⟩;have O9':=O9.mono hAr.size;obtain ⟨a9,c9,rfl,_⟩:=O9.zs;clear con O9;dsimp only;go_wp2_with fail
        exact bJ rfl rfl ⟨_,rfl,O9',chain hAr hb9⟩
   ·have e0:fe=bV cols l:=by rw [← HF.out]; unfold dx; rw [if_neg HN8.out,H1.out,H2.out,if_neg (by simp),if_neg (by simp),if_pos h3]
    have e1:fz = []:=by rw [← HZ.out]; unfold ei; rw [HF.out,e0,if_neg h3]
    have hne:(bV cols l != 0)=true:=by simpa using h3
    rw [← e0] at con hne;have HV:=aB e1;clear e0 e1 h3;dsimp only;go_wp2_with fail
    refine bC con fun w3 hb3=>?_;clear con;dsimp only;go_wp2_with fail
    exact bJ rfl rfl ⟨_,rfl,by rw [HV.out]; exact ed _ _,chain hA2 hb3⟩
  ·have e0:fe=dF cols gs:=by rw [← HF.out]; unfold dx; rw [if_neg HN8.out,H1.out,if_neg (by simp),if_pos h2]
   have e1:fz = []:=by rw [← HZ.out]; unfold ei; rw [HF.out,e0,if_neg h2]
   have hne:(dF cols gs != 0)=true:=by simpa using h2
   have HL2:=aB h2;rw [← e0] at hne;have HV:=aB e1;have HN:=aB e0;clear e0 e1 h2;dsimp only;go_wp2_with fail
   refine con.mono ?_;rintro e w2 ⟨u2,rfl,hG,hb2⟩;obtain ⟨_,rfl⟩:¬ dF cols gs=0∧u2 = .nilFunc:=by
    rcases hG with ⟨hG,_⟩ | hG
    ·exact absurd hG HL2.out
    ·exact hG
   rw [← HN.out];clear con;dsimp only;go_wp2_with fail
   exact bJ rfl rfl ⟨_,rfl,by rw [HV.out]; exact ed _ _,chain hb1 hb2⟩
 ·have e0:fe=bM cols xs:=by rw [← HF.out]; unfold dx; rw [if_neg HN8.out,if_pos h1]
  have e1:fz = []:=by rw [← HZ.out]; unfold ei; rw [HF.out,e0,if_neg h1]
  have hne:(bM cols xs != 0)=true:=by simpa using h1
  have HL:=aB h1;rw [← e0] at hne;have HV:=aB e1;have HN:=aB e0;clear e0 e1 h1;go_enter func96,ntmps96;go_wp2_with fail
  refine con.mono ?_;rintro e w1 ⟨u,rfl,hL,hb1⟩;obtain ⟨_,rfl⟩:¬ bM cols xs=0∧u = .nilFunc:=by
   rcases hL with ⟨hL,_⟩ | hL
   ·exact absurd hL HL.out
   ·exact hL
  rw [← HN.out];clear con;go_wp2_with fail
  exact bJ rfl rfl ⟨_,rfl,by rw [HV.out]; exact ed _ _,hb1⟩
end Go.Proofs.YtoefpglknaiaeaaGreat
namespace Go.Proofs.YtoefpglknaiaeaaGreat
open Go.RowKit
def fk (k:Int):Nat:=if k=1 then 0 else if 4≤k∧k≤9 then 2 else 1
theorem mn (k:Int):fk k≤2:=by
 unfold fk
 split
 ·decide
 ·split <;> decide
def eF (k:Int) (len:Nat) (n d:Int):Int:=if 60<n∨15<d then 4 else if k<1∨13<k then 1 else if len≠fk k then 5 else 0
def gf (cols:List Int) (xs:List Ex):List Int:=xs.map fun x=>(ax cols x).1
def wP (cols:List Int) (g:Ag):Int:=if g.1=4∨g.1=5 then (ax cols g.2).1 else 3
def jB:List Int→List Int→Int
 | a :: l,b :: r=>if (cN a b).2≠0 then (cN a b).2 else jB l r
 | _,_=>0
def cU:List Int→List Int→List Int
 | a :: l,b :: r=>(cN a b).1 :: cU l r
 | _,_=>[]
def jr (l r:List Int):Int:=if l.length≠r.length then 8 else jB l r
def jT (k n:Int) (x:Ex) (xs:List Ex) (gs:List Ag) (cols:List Int):Int:=if k=2 then fU cols x [] else if k=3 then jS cols xs [] else if k=12 then dx cols xs gs [] else if k=13 then jU cols xs n [] else 0
def rI (k:Int) (xs:List Ex) (gs:List Ag) (cols:List Int):List Int:=if k=3 then gf cols xs else if k=12 then gf cols xs ++ gs.map (wP cols) else cols
def xg (k:Int) (x:Ex) (l r:List Int):Int:=if k=8∨k=9 then jr l r else cw 0 l r x [] []
def rL (k:Int) (l r:List Int):List Int:=if k=8∨k=9 then cU l r else if k=5∨k=6 then l else l ++ r
def hM (ts:List (List Int)) (k n:Int) (x:Ex) (xs:List Ex) (gs:List Ag) (cs:List (List Int)):Int:=match cs with
 | []=>if n<0∨ts.length≤n then 7 else 0
 | [c]=>jT k n x xs gs c
 | l :: r :: _=>xg k x l r
def nH (ts:List (List Int)) (k n:Int) (xs:List Ex) (gs:List Ag) (cs:List (List Int)):List Int:=match cs with
 | []=>ts.getD n.toNat []
 | [c]=>rI k xs gs c
 | l :: r :: _=>rL k l r
mutual
def aA (ts:List (List Int)):Pl→List Int
 | .mk k n _ xs gs ks=>nH ts k n xs gs (ko ts ks)
def ko (ts:List (List Int)):List Pl→List (List Int)
 | []=>[]
 | p :: r=>aA ts p :: ko ts r
end
theorem gr (ts:List (List Int)):∀ l,ko ts l=l.map (aA ts)
 | []=>by simp [ko]
 | p :: r=>by rw [ko,gr ts r,Oe]
mutual
def bD (ts:List (List Int)):Pl→Int→Int→Int × Int
 | .mk k n x xs gs ks,m,d =>
  if eF k ks.length (m+1) d≠0 then (eF k ks.length (m+1) d,m+1)
  else if (bo ts ks (m+1) (d+1)).1≠0 then bo ts ks (m+1) (d+1)
  else (hM ts k n x xs gs (ko ts ks),(bo ts ks (m+1) (d+1)).2)
def bo (ts:List (List Int)):List Pl→Int→Int→Int × Int
 | [],m,_=>(0,m)
 | p :: r,m,d=>if (bD ts p m d).1≠0 then bD ts p m d else bo ts r (bD ts p m d).2 d
end
theorem tC {ts:List (List Int)} {ks:List Pl} {m d:Int} {j:Nat} (h:j<ks.length) (he:¬ (bD ts ks[j] m d).1=0):bo ts (ks.drop j) m d=bD ts ks[j] m d:=by
 rw [MI h,bo,if_pos he]
theorem yO {ts:List (List Int)} {ks:List Pl} {m d:Int} {j:Nat} (h:j<ks.length) (he:(bD ts ks[j] m d).1=0):bo ts (ks.drop j) m d=bo ts (ks.drop (j+1)) (bD ts ks[j] m d).2 d:=by
 rw [MI h,bo,if_neg (by simp [he])]
theorem AQ {ts:List (List Int)} {ks:List Pl} {m d:Int} {j:Nat} (h:ks.length≤j):bo ts (ks.drop j) m d=(0,m):=by
 rw [M7 h,bo]
def bL (data:List (List Zp)) (k n:Int) (x:Ex) (xs:List Ex) (gs:List Ag) (cs:List (List Int)) (zs:List (List Zp)):Int × List Zp:=match cs,zs with
 | [c],[z] =>
  if k=2 then (fU c x z,iQ c x z) else if k=3 then (jS c xs z,nr c xs z) else if k=10 then (aM z,jV kZ z) else if k=11 then (aM z,jV ln z)
  else if k=12 then (dx c xs gs z,ei c xs gs z) else (jU c xs n z,lY c xs n z)
 | l :: r :: _,a :: b :: _ =>
  if k=4 then (cw 0 l r x a b,cB 0 l r x a b) else if k=5 then (cw 1 l r x a b,cB 1 l r x a b) else if k=6 then (cw 2 l r x a b,cB 2 l r x a b) else if k=7 then (cw 3 l r x a b,cB 3 l r x a b)
  else if k=8 then (eJ 1 a b,dM 1 a b) else (eJ (-1) a b,dM (-1) a b)
 | _,_=>(aR (data.getD n.toNat []),bh (data.getD n.toNat []))
mutual
def aW (ts:List (List Int)) (data:List (List Zp)):Pl→Int × List Zp
 | .mk k n x xs gs ks=>if (eH ts data ks).1≠0 then ((eH ts data ks).1,[]) else bL data k n x xs gs (ko ts ks) (eH ts data ks).2
def eH (ts:List (List Int)) (data:List (List Zp)):List Pl→Int × List (List Zp)
 | []=>(0,[])
 | p :: r=>if (aW ts data p).1≠0 then ((aW ts data p).1,[]) else ((eH ts data r).1,(aW ts data p).2 :: (eH ts data r).2)
end
def jG (B:Nat) (W:World) (a:Option Addr) (l:List (List Int)):Prop:=l = []∨∃ (b off:Nat) (ai:Nat→Option Addr) (ci:Nat→Nat),a=some ⟨b,off,none⟩∧b<B∧∀ (i:Nat) (h:i<l.length),W.cell? ⟨b,off+i,none⟩=some (.slice (ai i) l[i].length (ci i))∧bf B W (ai i) l[i]
theorem jG.next {B B':Nat} {W w1:World} {a:Option Addr} {l:List (List Int)} (h:jG B W a l) (hb:Below B' W w1) (hB:B≤B'):jG B w1 a l:=by
 rcases h with h | ⟨b,off,ai,ci,e,hlt,h⟩
 ·exact .inl h
 ·exact .inr ⟨b,off,ai,ci,e,hlt,fun i hi=>⟨(hb.cell (p:=⟨b,_,none⟩) (My hlt hB)).trans (h i hi).1,(h i hi).2.next hb hB⟩⟩
theorem jG.up {B B':Nat} {W:World} {a:Option Addr} {l:List (List Int)} (h:jG B W a l) (hB:B≤B'):jG B' W a l:=by
 rcases h with h | ⟨b,off,ai,ci,e,hlt,h⟩
 ·exact .inl h
 ·exact .inr ⟨b,off,ai,ci,e,My hlt hB,fun i hi=>⟨(h i hi).1,(h i hi).2.up hB⟩⟩
theorem jG.elem {B:Nat} {W:World} {a:Option Addr} {l:List (List Int)} (h:jG B W a l) {i:Nat} (hi:i<l.length):∃ b off ai ci,a=some ⟨b,off,none⟩∧b<B∧W.cell? ⟨b,off+i,none⟩=some (.slice ai l[i].length ci)∧bf B W ai l[i]:=by
 rcases h with h | ⟨b,off,ai,ci,e,hlt,h⟩
 ·subst h; simp at hi
 ·exact ⟨b,off,ai i,ci i,e,hlt,h i hi⟩
def nN (W:World) (a:Option Addr) (l:List (List Zp)):Prop:=l = []∨∃ (b off:Nat) (ai:Nat→Option Addr) (ci:Nat→Nat),a=some ⟨b,off,none⟩∧b<W.heap.size∧∀ (i:Nat) (h:i<l.length),W.cell? ⟨b,off+i,none⟩=some (.slice (ai i) l[i].length (ci i))∧aK W (ai i) l[i]∧(ai i=none→ci i=0)
theorem nN.next {W w1:World} {a:Option Addr} {l:List (List Zp)} (h:nN W a l) (hb:Below W W w1):nN w1 a l:=by
 rcases h with h | ⟨b,off,ai,ci,e,hlt,h⟩
 ·exact .inl h
 ·exact .inr ⟨b,off,ai,ci,e,My hlt hb.size,fun i hi=>⟨(hb.cell (p:=⟨b,_,none⟩) hlt).trans (h i hi).1,(h i hi).2.1.next hb,(h i hi).2.2⟩⟩
theorem nN.elem {W:World} {a:Option Addr} {l:List (List Zp)} (h:nN W a l) {i:Nat} (hi:i<l.length):∃ b off ai ci,a=some ⟨b,off,none⟩∧b<W.heap.size∧W.cell? ⟨b,off+i,none⟩=some (.slice ai l[i].length ci)∧aK W ai l[i]∧(ai=none→ci=0):=by
 rcases h with h | ⟨b,off,ai,ci,e,hlt,h⟩
 ·subst h; simp at hi
 ·exact ⟨b,off,ai i,ci i,e,hlt,h i hi⟩
structure Kept (B lo:Nat) (W w1:World):Prop where
 low:Below B W w1
 high:∀ k,k<W.heap.size→lo≤k→w1.heap[k]? = W.heap[k]?
theorem Kept.of {B lo:Nat} {W w1:World} (h:Below W W w1) (hB:B≤W.heap.size):Kept B lo W w1:=⟨h.mono hB,fun k hk _=>h.block k hk⟩
theorem Kept.Mn {B lo t:Nat} {W w1:World} (h:aw t W w1) (hB:B≤t) (ht:t<lo):Kept B lo W w1:=⟨h.below hB,fun k hk hl=>h.2 k hk ag⟩
theorem Kept.set {B lo:Nat} {W w1:World} (h:Kept B lo W w1) (g o:Nat) (u:Value) (hB:B≤g) (hg:g<lo):Kept B lo W (w1.setCell (ah g o) u) :=
 ⟨h.low.setCell (p:=ah g o) hB u,fun k hk hl=>by
  have h1:=((aw.refl g w1).set o u).2 k (My hk h.low.size) ag
  rw [h1,h.high k hk hl]⟩
theorem Kept.refl (B lo:Nat) (W:World):Kept B lo W W:=⟨Mz _ _,fun _ _ _=>rfl⟩
theorem Kept.cell {B lo:Nat} {W w1:World} (h:Kept B lo W w1) {b o:Nat} (hb:b<W.heap.size) (hz:b<B∨lo≤b):w1.cell? (ah b o)=W.cell? (ah b o):=by
 rcases hz with hz | hz
 ·exact h.low.cell (p:=ah b o) hz
 ·exact MP (w:=W) (a:=ah b o) (h.high b hb hz)
def jZ (B lo:Nat) (W:World) (a:Option Addr) (l:List Int):Prop:=l.length≤maxLen∧(l = []∨∃ b off,a=some ⟨b,off,none⟩∧b<W.heap.size∧(b<B∨lo≤b)∧∀ (i:Nat) (h:i<l.length),W.cell? ⟨b,off+i,none⟩=some (.int .i64 l[i]))
theorem jZ.next {B lo:Nat} {W w1:World} {a:Option Addr} {l:List Int} (h:jZ B lo W a l) (hb:Kept B lo W w1):jZ B lo w1 a l:=by
 obtain ⟨h0,h | ⟨b,off,e,hlt,hn,h⟩⟩:=h
 ·exact ⟨h0,.inl h⟩
 ·exact ⟨h0,.inr ⟨b,off,e,My hlt hb.low.size,hn,fun i hi=>(hb.cell hlt hn).trans (h i hi)⟩⟩
theorem jZ.wide {B lo lo':Nat} {W:World} {a:Option Addr} {l:List Int} (h:jZ B lo W a l) (hl:lo'≤lo):jZ B lo' W a l:=by
 obtain ⟨h0,h | ⟨b,off,e,hlt,hn,h⟩⟩:=h
 ·exact ⟨h0,.inl h⟩
 ·exact ⟨h0,.inr ⟨b,off,e,hlt,by omega,h⟩⟩
theorem jZ.at {B lo:Nat} {W:World} {a:Option Addr} {l:List Int} (h:jZ B lo W a l):bf W W a l:=by
 obtain ⟨h0,h | ⟨b,off,e,hlt,hn,h⟩⟩:=h
 ·exact ⟨h0,.inl h⟩
 ·exact ⟨h0,.inr ⟨b,off,e,hlt,h⟩⟩
theorem bf.t {B lo:Nat} {W:World} {a:Option Addr} {l:List Int} (h:bf B W a l) (hB:B≤W.heap.size):jZ B lo W a l:=by
 obtain ⟨h0,h | ⟨b,off,e,hlt,h⟩⟩:=h
 ·exact ⟨h0,.inl h⟩
 ·exact ⟨h0,.inr ⟨b,off,e,by omega,.inl hlt,h⟩⟩
inductive rS (ts:List (List Int)) (B lo:Nat) (W:World):Option Addr→List Pl→Prop
 | nil (a:Option Addr):rS ts B lo W a []
 | some (b off:Nat) (l:List Pl) (q:Nat→Pw) (ca:Nat→Option Addr) (cc:Nat→Nat) (na:Nat→Option Addr) (nc:Nat→Nat) (hb:b<W.heap.size) (hn:lo≤b)
   (hc:∀ (i:Nat) (h:i<l.length),ft W b (off+i*13) l[i] (q i))
   (h11:∀ (i:Nat) (h:i<l.length),W.cell? ⟨b,off+i*13+11,none⟩=some (.slice (ca i) (aA ts l[i]).length (cc i)))
   (h12:∀ (i:Nat) (h:i<l.length),W.cell? ⟨b,off+i*13+12,none⟩=some (.slice (na i) l[i].ks.length (nc i)))
   (hp:∀ (i:Nat) (h:i<l.length),kH B W l[i] (q i))
   (hcol:∀ (i:Nat) (h:i<l.length),jZ B lo W (ca i) (aA ts l[i]))
   (hk:∀ (i:Nat) (h:i<l.length),rS ts B lo W (na i) l[i].ks):rS ts B lo W (some (ah b off)) l
theorem ft.kept {B lo:Nat} {W w1:World} {b off:Nat} {p:Pl} {q:Pw} (h:ft W b off p q) (hb:Kept B lo W w1) (hB:b<W.heap.size) (hn:b<B∨lo≤b):ft w1 b off p q :=
 ⟨(hb.cell hB hn).trans h.c0,(hb.cell hB hn).trans h.c1,⟨(hb.cell hB hn).trans h.tX.c0,(hb.cell hB hn).trans h.tX.c1,(hb.cell hB hn).trans h.tX.c2,(hb.cell hB hn).trans h.tX.c3,(hb.cell hB hn).trans h.tX.c4,(hb.cell hB hn).trans h.tX.c5⟩,(hb.cell hB hn).trans h.c8,(hb.cell hB hn).trans h.c9,(hb.cell hB hn).trans h.Bm⟩
theorem rS.next {ts:List (List Int)} {B lo:Nat} {W w1:World} (hb:Kept B lo W w1) {a:Option Addr} {l:List Pl} (h:rS ts B lo W a l):rS ts B lo w1 a l:=by
 induction h with
 | nil a=>exact .nil a
 | some b off l q ca cc na nc hlt hn hc h11 h12 hp hcol _ ih =>
  exact .some b off l q ca cc na nc (My hlt hb.low.size) hn (fun i hi=>(hc i hi).kept hb hlt (.inr hn)) (fun i hi=>(hb.cell hlt (.inr hn)).trans (h11 i hi)) (fun i hi=>(hb.cell hlt (.inr hn)).trans (h12 i hi)) (fun i hi=>(hp i hi).next hb.low (Mx _)) (fun i hi=>(hcol i hi).next hb) ih
theorem rS.wide {ts:List (List Int)} {B lo lo':Nat} {W:World} (hl:lo'≤lo) {a:Option Addr} {l:List Pl} (h:rS ts B lo W a l):rS ts B lo' W a l:=by
 induction h with
 | nil a=>exact .nil a
 | some b off l q ca cc na nc hlt hn hc h11 h12 hp hcol _ ih=>exact .some b off l q ca cc na nc hlt (MO hl hn) hc h11 h12 hp (fun i hi=>(hcol i hi).wide hl) ih
structure EM (ts:List (List Int)) (B lo:Nat) (W:World) (p:Pl) (q:Pw) (ca na:Option Addr):Prop where
 pl:kH B W p q
 cols:jZ B lo W ca (aA ts p)
 kids:rS ts B lo W na p.ks
theorem EM.next {ts:List (List Int)} {B lo:Nat} {W w1:World} {p:Pl} {q:Pw} {ca na:Option Addr} (h:EM ts B lo W p q ca na) (hb:Kept B lo W w1):EM ts B lo w1 p q ca na:=⟨h.pl.next hb.low (Mx _),h.cols.next hb,rS.next hb h.kids⟩
theorem EM.wide {ts:List (List Int)} {B lo lo':Nat} {W:World} {p:Pl} {q:Pw} {ca na:Option Addr} (h:EM ts B lo W p q ca na) (hl:lo'≤lo):EM ts B lo' W p q ca na:=⟨h.pl,h.cols.wide hl,rS.wide hl h.kids⟩
theorem rS.elem {ts:List (List Int)} {B lo:Nat} {W:World} {a:Option Addr} {l:List Pl} (h:rS ts B lo W a l) {i:Nat} (hi:i<l.length):∃ b off q ca cc na nc,a=Option.some ⟨b,off,none⟩∧b<W.heap.size∧lo≤b∧ft W b (off+i*13) l[i] q∧W.cell? ⟨b,off+i*13+11,none⟩=Option.some (.slice ca (aA ts l[i]).length cc)∧W.cell? ⟨b,off+i*13+12,none⟩=Option.some (.slice na l[i].ks.length nc)∧EM ts B lo W l[i] q ca na:=by
 cases h with
 | nil=>simp at hi
 | some b off l q ca cc na nc hlt hn hc h11 h12 hp hcol hk=>exact ⟨b,off,q i,ca i,cc i,na i,nc i,rfl,hlt,hn,hc i hi,h11 i hi,h12 i hi,⟨hp i hi,hcol i hi,hk i hi⟩⟩
def fw (p:Pl) (q:Pw):Value:=.agg (fE p q)
def vJ (p:Pl) (q:Pw) (ca:Option Addr) (n cc:Nat) (na:Option Addr) (nc:Nat):Value:=.agg (xB p q ca n cc na p.ks.length nc)
def zV:Value:=.agg #[aD,aD,aD,aD,aD,(),aD,bX,bX,bX,bX,bX,bX]
theorem ft.new (w:World) (p:Pl) (q:Pw) (T:TypeId):ft (w.alloc (.cells (fE p q) T)) w 0 p q:=by
 have h:=bq w (fE p q) T;exact ⟨cell_of (i:=0) h rfl,cell_of (i:=1) h rfl,⟨cell_of (i:=2) h rfl,cell_of (i:=3) h rfl,cell_of (i:=4) h rfl,cell_of (i:=5) h rfl,cell_of (i:=6) h rfl,cell_of (i:=7) h rfl⟩,cell_of (i:=8) h rfl,cell_of (i:=9) h rfl,cell_of (i:=10) h rfl⟩
open Go.Lib Go.Shelf _root_.Go.Proofs.Tryz
theorem wy {n:Nat} (h:n≤8) (w:World):(Instr.makeSlice 33 n n).run prog w = .ok (.slice (some (ah w 0)) n n) (w.alloc (.cells (Array.replicate n aD) 3)):=by
 obtain rfl | rfl | rfl | rfl | rfl | rfl | rfl | rfl | rfl:n=0∨n=1∨n=2∨n=3∨n=4∨n=5∨n=6∨n=7∨n=8:=by omega
 all_goals kernel_rfl
theorem A6 (k:Int) (w:World):Calls prog 119 #[k] w fun e w'=>e = .returned (.int .i64 (fk k))∧Below w w w':=by
 have hc:k=1∨k=4∨k=5∨k=6∨k=7∨k=8∨k=9∨(¬ k=1∧¬ (4≤k∧k≤9)):=by omega
 rcases hc with rfl | rfl | rfl | rfl | rfl | rfl | rfl | ⟨h1,h2⟩
 all_goals try (
  go_enter func119,ntmps119;go_wp2_with fail
  go_ret;exact ⟨rfl,Mz _ _⟩)
 have e:fk k=1:=by unfold fk; rw [if_neg h1,if_neg h2]
 rw [e];have b1:(k == 1)=false:=by rw [beq_eq_false_iff_ne]; exact h1
 have b4:(k == 4)=false:=by rw [beq_eq_false_iff_ne]; omega
 have b5:(k == 5)=false:=by rw [beq_eq_false_iff_ne]; omega
 have b6:(k == 6)=false:=by rw [beq_eq_false_iff_ne]; omega
 have b7:(k == 7)=false:=by rw [beq_eq_false_iff_ne]; omega
 have b8:(k == 8)=false:=by rw [beq_eq_false_iff_ne]; omega
 have b9:(k == 9)=false:=by rw [beq_eq_false_iff_ne]; omega
 clear h1 h2 e;go_enter func119,ntmps119;go_wp2_with fail
 go_ret;exact ⟨rfl,Mz _ _⟩
def Lr (B:Nat) (w':World) (e:Ending) (er:Int) (C:List Int):Prop:=∃ ca cc,e = .returned (.tuple #[.slice ca (if er=0 then C else []).length cc,er])∧bf B w' ca (if er=0 then C else [])
theorem xb (ts:List (List Int)) (n:Int) (B:Nat) (a:Option Addr) (cap:Nat) (w:World) (h:jG B w a ts) :
  Calls prog 120 #[.slice a ts.length cap,n] w fun e w'=>Lr B w' e (if n<0∨ts.length≤n then 7 else 0) (ts.getD n.toNat [])∧Below w w w':=by
 by_cases h0:n<0;rw [if_pos (.inl h0)];rotate_left;by_cases h1:(ts.length:Int)≤n;rw [if_pos (.inr h1)];rotate_left;rw [if_neg ag];obtain ⟨j,rfl⟩:∃ j:Nat,n=j:=⟨n.toNat,by omega⟩
 have hj:j<ts.length:=by omega
 obtain ⟨b,off,ai,ci,rfl,hb,c0,hi⟩:=h.elem hj;have hj0:(0:Int)≤(j:Int):=by omega
 have hjl:(j:Int)<(ts.length:Int):=by omega
 have e:ts.getD (j:Int).toNat []=ts[j]:=by simp [hj]
 rw [e];clear e;go_enter func120,ntmps120;go_wp2_with fail
 exact bJ rfl rfl ⟨⟨ai,ci,rfl,hi⟩,Mz _ _⟩
 all_goals
  go_enter func120,ntmps120;go_wp2_with fail
  exact bJ rfl rfl ⟨⟨none,0,rfl,⟨MD _,.inl rfl⟩⟩,Mz _ _⟩
def fb (cols:List Int):Int:=if 8<cols.length then 5 else if ∃ c ∈ cols,c<1∨4<c then 1 else 0
def jI:List (List Int)→Int
 | []=>0
 | c :: r=>if fb c≠0 then fb c else jI r
def fg (ts:List (List Int)):Int:=if 8<ts.length then 5 else jI ts
theorem uW {ts:List (List Int)} {j:Nat} (h:j<ts.length) (he:¬ fb ts[j]=0):jI (ts.drop j)=fb ts[j]:=by
 rw [MI h,jI,if_pos he]
theorem rN {ts:List (List Int)} {j:Nat} (h:j<ts.length) (he:fb ts[j]=0):jI (ts.drop j)=jI (ts.drop (j+1)):=by
 rw [MI h,jI,if_neg (by simp [he])]
theorem tM (ts:List (List Int)) (a:Option Addr) (cap:Nat) (w:World) (h:jG w w a ts) :
  Calls prog 64 #[.slice a ts.length cap] w fun e w'=>e = .returned (.int .i64 (fg ts))∧Below w w w':=by
 generalize hr:fg ts=r;have HR:=aB hr;clear hr;go_enter func64,ntmps64;by_cases h8:8<ts.length
 ·have h8z:8<(ts.length:Int):=by omega
  have e:r=5:=by rw [← HR.out]; unfold fg; rw [if_pos h8]
  subst e;go_wp2_with fail
  go_ret;exact ⟨rfl,Mz _ _⟩
 have h8z:¬ 8<(ts.length:Int):=by omega
 have HR':Hid (r=jI (ts.drop 0)):=by show _=_; rw [← HR.out]; unfold fg; rw [if_neg h8]; rfl
 clear HR;go_wp2_with fail
 go_loopw [12] (fun i wr=>∃ j:Nat,j≤ts.length∧i = .int .i64 j∧Hid (r=jI (ts.drop j))∧Below w w wr) (fun i _=>ts.length - (intOf i).toNat)
 case atStart=>exact ⟨0,MD _,rfl,HR',Mz _ _⟩
 case round =>
  obtain ⟨j,hj,rfl,HT,hb⟩:=hrel;by_cases hlt:j<ts.length
  ·obtain ⟨b,off,ai,ci,rfl,hbl,c0,hi⟩:=(h.next hb (Mx _)).elem hlt;have hjz:(j:Int)<(ts.length:Int):=by omega
   have HBad:Hid (¬ fb ts[j]=0→r=fb ts[j]):=fun c=>HT.out.trans (uW hlt c)
   have HOk:Hid (fb ts[j]=0→r=jI (ts.drop (j+1))):=fun c=>HT.out.trans (rN hlt c)
   clear HT;generalize ts[j]=cs at *;by_cases hc8:8<cs.length
   ·have hcz:8<(cs.length:Int):=by omega
    have e1:fb cs=5:=by unfold fb; rw [if_pos hc8]
    have e:r=5:=by rw [HBad.out (by rw [e1]; decide),e1]
    subst e;clear HBad HOk e1;go_wp2_with fail
    go_ret;exact ⟨rfl,hb⟩
   ·have hcz:¬ 8<(cs.length:Int):=by omega
    have HC:Hid (fb cs=if ∃ c ∈ cs,c<1∨4<c then 1 else 0):=by show _=_; unfold fb; rw [if_neg hc8]
    obtain ⟨wo,hwo⟩:∃ z,z=wr:=⟨_,rfl⟩
    subst hwo;go_upto_region 8 with fail
    clear c0;go_wp2_with fail
    go_loopw [21] (fun i wr=>∃ k:Nat,k≤cs.length∧i = .int .i64 k∧Hid (∀ c ∈ cs.take k,¬ (c<1∨4<c))∧Below wo wo wr) (fun i _=>cs.length - (intOf i).toNat)
    case atStart=>exact ⟨0,MD _,rfl,(fun c hc=>by simp at hc),Mz _ _⟩
    case round =>
     obtain ⟨k,hk,rfl,HK,hbk⟩:=hrel;have hbw:=hb.trans (hbk.mono hb.size);by_cases hkl:k<cs.length
     ·obtain ⟨b1,o1,rfl,hb1,c1⟩:=(hi.next hbk hb.size).elem hkl;have hkz:(k:Int)<(cs.length:Int):=by omega
      have HT1:=aB (MJ hkl);have HM:=aB (MC hkl);generalize cs[k]=c at *;by_cases hbad:c<1∨4<c
      ·have e1:fb cs=1:=by rw [HC.out,if_pos ⟨c,HM.out,hbad⟩]
       have e:r=1:=by rw [HBad.out (by rw [e1]; decide),e1]
       subst e;clear HBad HOk e1 HC HK;have hb2:c<1∨(¬ c<1∧4<c):=by omega
       clear hbad;rcases hb2 with g1 | ⟨g1,g2⟩
       all_goals (
        go_wp2_with fail
        go_ret;exact ⟨rfl,hbw⟩)
      ·have g1:¬ c<1:=fun e=>hbad (.inl e)
       have g2:¬ 4<c:=fun e=>hbad (.inr e)
       have HK':Hid (∀ c ∈ cs.take (k+1),¬ (c<1∨4<c)):=by
        show ∀ c ∈ _,_
        rw [HT1.out];intro c' hc';rcases List.mem_append.1 hc' with hc' | hc'
        ·exact HK.out c' hc'
        ·rw [List.mem_singleton.1 hc']; exact hbad
       clear hbad HK;go_wp2_with fail
       go_roundw
       case rel=>exact ⟨k+1,by omega,by go_num,HK',hbk⟩
       case measure=>simp [intOf]; omega
     ·have e:k=cs.length:=by omega
      subst e;rw [MM] at HK;have e1:fb cs=0:=by rw [HC.out,if_neg fun ⟨c,hc,hh⟩=>HK.out c hc hh]
      have HT':=aB (HOk.out e1);clear HBad HOk e1 HC HK;go_wp2_with fail
      go_roundw
      case rel=>exact ⟨j+1,by omega,by go_num,HT',hbw⟩
      case measure=>simp [intOf]; omega
  ·have e:j=ts.length:=by omega
   have e1:r=0:=by rw [HT.out,M7 ag]; rfl
   subst e1;have hjz:¬ (j:Int)<(ts.length:Int):=by omega
   clear HT;go_wp2_with fail
   go_ret;exact ⟨rfl,hb⟩
theorem vg (cols:List Int) {xs:List Ex} {j:Nat} (h:j<xs.length):gf cols (xs.take (j+1))=gf cols (xs.take j) ++ [(ax cols xs[j]).1]:=by
 unfold gf;rw [MJ h,Nc];rfl
theorem iR (cols:List Int) (xs:List Ex):(gf cols xs).length=xs.length:=by unfold gf; rw [Nt]
theorem dC.nx {W w1:World} {g:Nat} {l:List Int} (h:dC W g l) (hb:Below W W w1):dC w1 g l :=
 ⟨My h.lt hb.size,fun i hi=>(hb.cell (p:=ah g i) h.lt).trans (h.c i hi),fun i=>(hb.frozen (p:=ah g i) h.lt).trans (h.f i)⟩
theorem rW {W:World} {g n j:Nat} {ts:List Int} (h:dC W g (ts ++ List.replicate (n - j) 0)) (hl:ts.length=j) (hj:j<n):W.cell? ⟨g,j,none⟩=some (.int .i64 0)∧W.frozen? ⟨g,j,none⟩=false∧∀ u,dC (W.setCell ⟨g,j,none⟩ (.int .i64 u)) g ((ts ++ [u]) ++ List.replicate (n - (j+1)) 0):=by
 have hlen:j<(ts ++ List.replicate (n - j) 0).length:=by simp; omega
 refine ⟨?_,h.f j,fun u=>?_⟩
 ·rw [h.c j hlen]
  congr 2
  rw [Nx ag];simp
 ·have:=h.set j hlen u;rw [CF ts n j u hl hj] at this;exact this
theorem tT (cols:List Int) (xs:List Ex) (ca:Option Addr) (ccap:Nat) (xa:Option Addr) (xcap:Nat) (w:World) (hc:bf w w ca cols) (hx:aU w w xa xs) (h8:xs.length≤8) :
  Calls prog 161 #[.slice ca cols.length ccap,.slice xa xs.length xcap] w fun e w'=>e = .returned (.slice (some (ah w 0)) xs.length xs.length)∧dC w' w (gf cols xs)∧Below w w w':=by
 have hmk:=wy h8;have O0:=dC.new w xs.length 3;have hal0:=aN w (.cells (Array.replicate xs.length aD) 3);go_enter func161,ntmps161;go_wp2_with fail
 generalize w.alloc (.cells (Array.replicate xs.length aD) 3)=w1 at *;clear hmk;go_loopw [13] (fun i wr=>∃ j:Nat,j≤xs.length∧i = .int .i64 j∧dC wr w (gf cols (xs.take j) ++ List.replicate (xs.length - j) 0)∧Below w w wr) (fun i _=>xs.length - (intOf i).toNat)
 case atStart=>exact ⟨0,MD _,rfl,by simpa [gf] using O0,hal0⟩
 case round =>
  obtain ⟨j,hj,rfl,hO,hb⟩:=hrel;have hz:=hb.size;by_cases hlt:j<xs.length
  ·obtain ⟨b,off,ai,ci,rfl,hbl,sx,kx⟩:=(aU.next hb (Mx _) hx).elem hlt;obtain ⟨x0,x1,x2,x3,x4,x5⟩:=sx;have hjz:(j:Int)<(xs.length:Int):=by omega
   have hal:=aN wr (.cells #[.int .i64 xs[j].k,.int .i64 xs[j].v.1,.int .i64 xs[j].v.2.1,.string xs[j].v.2.2,.int .i64 xs[j].c,.slice ai xs[j].ks.length ci] 27);have hA:=chain hb hal;have con:=rB cols xs[j] ca ccap ai ci _ ((aU.next hal hz kx).up (MO hz hal.size)) ((hc.next hA (Mx _)).up hA.size);have HT:Hid (gf cols (xs.take (j+1))=gf cols (xs.take j) ++ [(ax cols xs[j]).1]):=vg cols hlt;have hlen:(gf cols (xs.take j)).length=j:=by rw [iR,MR]; omega
   unfold fN at con;go_wp2_with fail
   refine bC con fun w5 hb5=>?_;clear con x0 x1 x2 x3 x4 x5 kx;have hb5':=chain hal hb5;obtain ⟨cc,ff,hset⟩:=rW (hO.nx hb5') hlen hlt;have hA5:=chain hb hb5';have O6:=hset (ax cols xs[j]).1;have hA6:=hA5.setCell (p:=ah w j) (Mx _) (.int .i64 (ax cols xs[j]).1);rw [← HT.out] at O6;clear hset hO hlen;dsimp only;go_wp2
   go_roundw
   case rel=>exact ⟨j+1,by omega,by go_num,O6,hA6⟩
   case measure=>simp [intOf]; omega
  ·have e:j=xs.length:=by omega
   subst e;rw [MM,Nat.sub_self,List.replicate_zero,M8] at hO;go_wp2
   go_ret;exact ⟨rfl,hO,hb⟩
def dO (cols:List Int) (gs:List Ag):List Int:=gs.map (wP cols)
theorem sS (cols:List Int) {gs:List Ag} {j:Nat} (h:j<gs.length):dO cols (gs.take (j+1))=dO cols (gs.take j) ++ [wP cols gs[j]]:=by
 unfold dO;rw [MJ h,Nc];rfl
theorem pM (cols:List Int) (gs:List Ag):(dO cols gs).length=gs.length:=by unfold dO; rw [Nt]
theorem yd (cols:List Int) (gs:List Ag) (ca:Option Addr) (ccap:Nat) (xa:Option Addr) (xcap:Nat) (w:World) (hc:bf w w ca cols) (hx:iO w w xa gs) (h8:gs.length≤8) :
  Calls prog 163 #[.slice ca cols.length ccap,.slice xa gs.length xcap] w fun e w'=>e = .returned (.slice (some (ah w 0)) gs.length gs.length)∧dC w' w (dO cols gs)∧Below w w w':=by
 have hmk:=wy h8;have O0:=dC.new w gs.length 3;have hal0:=aN w (.cells (Array.replicate gs.length aD) 3);go_enter func163,ntmps163;go_wp2_with fail
 generalize w.alloc (.cells (Array.replicate gs.length aD) 3)=w1 at *;clear hmk;go_loopw [13] (fun i wr=>∃ j:Nat,j≤gs.length∧i = .int .i64 j∧dC wr w (dO cols (gs.take j) ++ List.replicate (gs.length - j) 0)∧Below w w wr) (fun i _=>gs.length - (intOf i).toNat)
 case atStart=>exact ⟨0,MD _,rfl,by simpa [dO] using O0,hal0⟩
 case round =>
  obtain ⟨j,hj,rfl,hO,hb⟩:=hrel;have hz:=hb.size;by_cases hlt:j<gs.length
  ·obtain ⟨b,off,ai,ci,rfl,hbl,x0,sx,kx⟩:=(iO.next hb (Mx _) hx).elem hlt;obtain ⟨x1,x2,x3,x4,x5,x6⟩:=sx;have hjz:(j:Int)<(gs.length:Int):=by omega
   have hal:=aN wr (.cells #[.int .i64 gs[j].1,.int .i64 gs[j].2.k,.int .i64 gs[j].2.v.1,.int .i64 gs[j].2.v.2.1,.string gs[j].2.v.2.2,.int .i64 gs[j].2.c,.slice ai gs[j].2.ks.length ci] 123);have q0:=bq wr #[.int .i64 gs[j].1,.int .i64 gs[j].2.k,.int .i64 gs[j].2.v.1,.int .i64 gs[j].2.v.2.1,.string gs[j].2.v.2.2,.int .i64 gs[j].2.c,.slice ai gs[j].2.ks.length ci] 123;have HT:Hid (dO cols (gs.take (j+1))=dO cols (gs.take j) ++ [wP cols gs[j]]):=sS cols hlt
   have hlen:(dO cols (gs.take j)).length=j:=by rw [pM,MR]; omega
   have zn:w.heap.size≠wr.heap.size:=Nat.ne_of_lt hO.lt;obtain ⟨cc,ff,hset⟩:=rW (hO.nx hal) hlen hlt;have O1:=hset 3;have hS:Below w.heap.size wr ((wr.alloc (.cells #[.int .i64 gs[j].1,.int .i64 gs[j].2.k,.int .i64 gs[j].2.v.1,.int .i64 gs[j].2.v.2.1,.string gs[j].2.v.2.2,.int .i64 gs[j].2.c,.slice ai gs[j].2.ks.length ci] 123)).setCell ⟨w.heap.size,j,none⟩ (.int .i64 3)):=(hal.mono hz).setCell (p:=⟨w.heap.size,j,none⟩) (Mx _) _;have kk:=aU.next hS (Mx _) kx;clear hset hO kx;go_upto_region 6 with fail
   clear x0 x1 x2 x3 x4 x5 x6 cc ff;have p0:((wr.alloc (.cells #[.int .i64 gs[j].1,.int .i64 gs[j].2.k,.int .i64 gs[j].2.v.1,.int .i64 gs[j].2.v.2.1,.string gs[j].2.v.2.2,.int .i64 gs[j].2.c,.slice ai gs[j].2.ks.length ci] 123)).setCell (ah w j) (3:Int)).cell? (ah wr 0)=some (.int .i64 gs[j].1):=(dR zn).trans (cell_of (i:=0) q0 rfl)
   have p1:((wr.alloc (.cells #[.int .i64 gs[j].1,.int .i64 gs[j].2.k,.int .i64 gs[j].2.v.1,.int .i64 gs[j].2.v.2.1,.string gs[j].2.v.2.2,.int .i64 gs[j].2.c,.slice ai gs[j].2.ks.length ci] 123)).setCell (ah w j) (3:Int)).cell? (ah wr 1)=some (.int .i64 gs[j].2.k):=(dR zn).trans (cell_of (i:=1) q0 rfl)
   have p2:((wr.alloc (.cells #[.int .i64 gs[j].1,.int .i64 gs[j].2.k,.int .i64 gs[j].2.v.1,.int .i64 gs[j].2.v.2.1,.string gs[j].2.v.2.2,.int .i64 gs[j].2.c,.slice ai gs[j].2.ks.length ci] 123)).setCell (ah w j) (3:Int)).cell? (ah wr 2)=some (.int .i64 gs[j].2.v.1):=(dR zn).trans (cell_of (i:=2) q0 rfl)
   have p3:((wr.alloc (.cells #[.int .i64 gs[j].1,.int .i64 gs[j].2.k,.int .i64 gs[j].2.v.1,.int .i64 gs[j].2.v.2.1,.string gs[j].2.v.2.2,.int .i64 gs[j].2.c,.slice ai gs[j].2.ks.length ci] 123)).setCell (ah w j) (3:Int)).cell? (ah wr 3)=some (.int .i64 gs[j].2.v.2.1):=(dR zn).trans (cell_of (i:=3) q0 rfl)
   have p4:((wr.alloc (.cells #[.int .i64 gs[j].1,.int .i64 gs[j].2.k,.int .i64 gs[j].2.v.1,.int .i64 gs[j].2.v.2.1,.string gs[j].2.v.2.2,.int .i64 gs[j].2.c,.slice ai gs[j].2.ks.length ci] 123)).setCell (ah w j) (3:Int)).cell? (ah wr 4)=some (.string gs[j].2.v.2.2):=(dR zn).trans (cell_of (i:=4) q0 rfl)
   have p5:((wr.alloc (.cells #[.int .i64 gs[j].1,.int .i64 gs[j].2.k,.int .i64 gs[j].2.v.1,.int .i64 gs[j].2.v.2.1,.string gs[j].2.v.2.2,.int .i64 gs[j].2.c,.slice ai gs[j].2.ks.length ci] 123)).setCell (ah w j) (3:Int)).cell? (ah wr 5)=some (.int .i64 gs[j].2.c):=(dR zn).trans (cell_of (i:=5) q0 rfl)
   have p6:((wr.alloc (.cells #[.int .i64 gs[j].1,.int .i64 gs[j].2.k,.int .i64 gs[j].2.v.1,.int .i64 gs[j].2.v.2.1,.string gs[j].2.v.2.2,.int .i64 gs[j].2.c,.slice ai gs[j].2.ks.length ci] 123)).setCell (ah w j) (3:Int)).cell? (ah wr 6)=some (.slice ai gs[j].2.ks.length ci):=(dR zn).trans (cell_of (i:=6) q0 rfl);generalize (wr.alloc (.cells #[.int .i64 gs[j].1,.int .i64 gs[j].2.k,.int .i64 gs[j].2.v.1,.int .i64 gs[j].2.v.2.1,.string gs[j].2.v.2.2,.int .i64 gs[j].2.c,.slice ai gs[j].2.ks.length ci] 123)).setCell (ah w j) (3:Int)=wk at *
   clear q0 hal;have hA:=hb.trans hS;have hzk:=hS.size;by_cases hk:gs[j].1=4∨gs[j].1=5
   ·have HT':Hid (dO cols (gs.take (j+1))=dO cols (gs.take j) ++ [(ax cols gs[j].2).1]):=by show _=_; rw [HT.out]; unfold wP; rw [if_pos hk]
    have con:=rB cols gs[j].2 ca ccap ai ci wk (kk.up hA.size) ((hc.next hA (Mx _)).up hA.size);generalize (ax cols gs[j].2).1=ty at *;unfold fN at con;generalize gs[j].1=kd at *;clear HT;have hk2:kd=4∨(¬ kd=4∧kd=5):=by omega
    clear hk;rcases hk2 with rfl | ⟨hk4,rfl⟩
    all_goals (
     go_wp2_with fail
     refine bC con fun w5 hb5=>?_;clear con p0 p1 p2 p3 p4 p5 p6 kk;have O5:=O1.nx hb5;have hlen2:j<((dO cols (gs.take j) ++ [3]) ++ List.replicate (gs.length - (j+1)) 0).length:=by first | (simp [hlen]; done) | (simp [hlen]; omega)
     have cc:w5.cell? (ah w j)=some (.int .i64 3):=by
      rw [O5.c j hlen2]
      congr 2
      rw [MV (by simp [hlen])];rw [Nx ag];simp [hlen]
     have ff:=O5.f j;have O6:=O5.set j hlen2 ty;have es:((dO cols (gs.take j) ++ [3]) ++ List.replicate (gs.length - (j+1)) 0).set j ty=dO cols (gs.take (j+1)) ++ List.replicate (gs.length - (j+1)) 0:=by
      rw [HT'.out,List.set_append_left _ _ (by simp [hlen]),List.set_append_right _ _ ag];simp [hlen]
     rw [es] at O6;have hA6:=(chain hA hb5).setCell (p:=ah w j) (Mx _) ty;clear O5 es hlen2 O1 hlen;dsimp only;go_wp2_with fail
     go_roundw
     case rel=>exact ⟨j+1,by omega,by go_num,O6,hA6⟩
     case measure=>simp [intOf]; omega)
   ·have HT':Hid (dO cols (gs.take (j+1))=dO cols (gs.take j) ++ [3]):=by show _=_; rw [HT.out]; unfold wP; rw [if_neg hk]
    have k4:(gs[j].1 == 4)=false:=by rw [beq_eq_false_iff_ne]; exact fun e=>hk (.inl e)
    have k5:(gs[j].1 == 5)=false:=by rw [beq_eq_false_iff_ne]; exact fun e=>hk (.inr e)
    rw [← HT'.out] at O1;clear hk HT hlen;go_wp2_with fail
    go_roundw
    case rel=>exact ⟨j+1,by omega,by go_num,O1,hA⟩
    case measure=>simp [intOf]; omega
  ·have e:j=gs.length:=by omega
   subst e;rw [MM,Nat.sub_self,List.replicate_zero,M8] at hO;go_wp2_with fail
   go_ret;exact ⟨rfl,hO,hb⟩
theorem vf {l r:List Int} {j:Nat} (h:j<l.length) (h':j<r.length) (he:¬ (cN l[j] r[j]).2=0):jB (l.drop j) (r.drop j)=(cN l[j] r[j]).2:=by
 rw [MI h,MI h',jB,if_pos he]
theorem nU {l r:List Int} {j:Nat} (h:j<l.length) (h':j<r.length) (he:(cN l[j] r[j]).2=0):jB (l.drop j) (r.drop j)=jB (l.drop (j+1)) (r.drop (j+1)):=by
 rw [MI h,MI h',jB,if_neg (by simp [he])]
theorem uQ {l r:List Int} {j:Nat} (h:l.length≤j):jB (l.drop j) (r.drop j)=0:=by
 rw [M7 h,jB];intro a l b r h; cases h
theorem lI:∀ {l r:List Int} {j:Nat} (h:j<l.length) (h':j<r.length),cU (l.take (j+1)) (r.take (j+1))=cU (l.take j) (r.take j) ++ [(cN l[j] r[j]).1]
 | a :: l,b :: r,0,_,_=>by simp [cU]
 | a :: l,b :: r,j+1,h,h'=>by
  have:=lI (l:=l) (r:=r) (j:=j) (by simpa using h) (by simpa using h')
  simp only [List.take_succ_cons,cU,NJ,Nu] at this ⊢
  rw [this]
theorem gA:∀ {l r:List Int},l.length=r.length→(cU l r).length=l.length
 | [],[],_=>rfl
 | a :: l,b :: r,h=>by rw [cU,Ng,gA (by simpa using h),Ng]
theorem vY (l r:List Int) (la:Option Addr) (lc:Nat) (ra:Option Addr) (rc:Nat) (w:World) (hl:bf w w la l) (hr:bf w w ra r) (h8:l.length≤8) :
  Calls prog 164 #[.slice la l.length lc,.slice ra r.length rc] w fun e w'=>∃ v,e = .returned (.tuple #[v,.int .i64 (jr l r)])∧(jr l r=0→v = .slice (some (ah w 0)) l.length l.length∧dC w' w (cU l r))∧(¬ jr l r=0→v = .slice none 0 0)∧Below w w w':=by
 have hmk:=wy h8;have O0:=dC.new w l.length 3;have hal0:=aN w (.cells (Array.replicate l.length aD) 3);generalize he:jr l r=er;have HE:Hid (jr l r=er):=he;clear he;go_enter func164,ntmps164;by_cases hlr:l.length=r.length;rotate_left
 ·have hne:((l.length:Int) != (r.length:Int))=true:=by simp; omega
  have e:er=8:=by rw [← HE.out]; unfold jr; rw [if_pos hlr]
  subst e;clear hmk O0 hal0 HE;go_wp2_with fail
  exact MA (v:=.tuple #[bX,(8:Int)]) (by simp [results,results164,go_sem]) rfl ⟨_,rfl,fun c=>by omega,fun _=>rfl,Mz _ _⟩
 have hne:((l.length:Int) != (r.length:Int))=false:=by simp; omega
 have HE':Hid (er=jB (l.drop 0) (r.drop 0)):=by show _=_; rw [← HE.out]; unfold jr; rw [if_neg (by simpa using hlr)]; rfl
 have HL:Hid (l.length=r.length):=hlr;have hl1:l.length≤r.length:=by omega
 have hl2:r.length≤l.length:=by omega
 clear HE hlr;go_wp2_with fail
 generalize w.alloc (.cells (Array.replicate l.length aD) 3)=w1 at *;clear hmk hne;go_loopw [20] (fun i wr=>∃ j:Nat,j≤l.length∧i = .int .i64 j∧Hid (er=jB (l.drop j) (r.drop j))∧dC wr w (cU (l.take j) (r.take j) ++ List.replicate (l.length - j) 0)∧Below w w wr) (fun i _=>l.length - (intOf i).toNat)
 case atStart=>exact ⟨0,MD _,rfl,HE',by simpa [cU] using O0,hal0⟩
 case round =>
  obtain ⟨j,hj,rfl,HT,hO,hb⟩:=hrel;by_cases hlt:j<l.length
  ·have hlr:j<r.length:=by omega
   obtain ⟨b1,o1,rfl,hb1,c1⟩:=(hl.next hb (Mx _)).elem hlt;obtain ⟨b2,o2,rfl,hb2,c2⟩:=(hr.next hb (Mx _)).elem hlr;have hjz:(j:Int)<(l.length:Int):=by omega
   have hjr:(j:Int)<(r.length:Int):=by omega
   have hj0:(0:Int)≤(j:Int):=by omega
   have HBad:Hid (¬ (cN l[j] r[j]).2=0→er=(cN l[j] r[j]).2):=fun c=>HT.out.trans (vf hlt hlr c)
   have HOk:Hid ((cN l[j] r[j]).2=0→er=jB (l.drop (j+1)) (r.drop (j+1))):=fun c=>HT.out.trans (nU hlt hlr c)
   have HTl:Hid (cU (l.take (j+1)) (r.take (j+1))=cU (l.take j) (r.take j) ++ [(cN l[j] r[j]).1]):=lI hlt hlr;have hlen:(cU (l.take j) (r.take j)).length=j:=by rw [gA (by rw [MR,MR]; omega),MR]; omega
   clear HT;have con:=di l[j] r[j];generalize cN l[j] r[j]=tg at *;generalize l[j]=lj at *;generalize r[j]=rj at *;have p1:=ak c1;have p2:=ak c2;haveI:Nonempty (cF wr):=⟨⟨_,Mz _ _⟩⟩
   go_wp2_with fail
   refine aq aG aG ?_
   repeat (go_big_quiet_step (first | (go_at_call 194; exact cG (con _))))
   refine wpQuiet_nil ?_;rintro w5 ⟨⟨v5,hb5⟩,h5⟩;obtain rfl:w5=v5:=h5;clear p1 p2 this c1 c2 con;by_cases h0:tg.2=0
   ·have HT':Hid (er=jB (l.drop (j+1)) (r.drop (j+1))):=HOk.out h0;have h0b:(tg.2 != 0)=false:=by simp [h0]
    obtain ⟨cc,ff,hset⟩:=rW (hO.nx hb5) hlen hlt;have O6:=hset tg.1;have hA6:=(chain hb hb5).setCell (p:=ah w j) (Mx _) tg.1;rw [← HTl.out] at O6;clear HBad HOk h0 hset hO hlen HTl;go_wp2_with fail
    go_roundw
    case rel=>exact ⟨j+1,by omega,by go_num,HT',O6,hA6⟩
    case measure=>simp [intOf]; omega
   ·have e:er=tg.2:=HBad.out h0;have h0b:(tg.2 != 0)=true:=by simpa using h0
    clear HBad HOk HTl hO hlen;go_wp2_with fail
    exact MA (v:=.tuple #[bX,tg.2]) (by simp [results,results164,go_sem]) rfl ⟨_,by rw [e],fun c=>absurd (e ▸ c) h0,fun _=>rfl,chain hb hb5⟩
  ·have e:j=l.length:=by omega
   have er0:er=0:=by rw [HT.out,uQ ag]
   subst e;rw [MM,Nat.sub_self,List.replicate_zero,M8,HL.out,MM] at hO;subst er0;clear HT;go_wp2_with fail
   first
    | exact MA (v:=.tuple #[.slice (some (ah w 0)) l.length l.length,aD]) (by simp [results,results164,go_sem]) rfl ⟨_,rfl,⟨rfl,hO⟩,hb⟩
    | exact MA (v:=.tuple #[.slice (some (ah w 0)) l.length l.length,aD]) (by simp [results,results164,go_sem]) rfl ⟨_,rfl,fun _=>⟨rfl,hO⟩,fun c=>absurd rfl c,hb⟩
end Go.Proofs.YtoefpglknaiaeaaGreat
