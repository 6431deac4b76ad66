/- Together: G7, N2, N3, N4, N5, G9, GA, GB, N6. -/
import Derived.Laws.EntriesVeiled
import Derived.Test.YtohjlfhmnmcndaaGreatM9
import Derived.Test.YtohjlfhmnmcndaaGreatM7
import Derived.Test.YtohjlfhmnmcndaaGreatM3
import Derived.Test.YtohjlfhmnmcndaaGreatM8
namespace Go.Proofs.YtohjlfhmnmcndaaGreat
open Go.RowKit Go.Lib Go.Shelf
set_option maxRecDepth 100000
set_option maxHeartbeats 16000000
theorem uM (L:List Kp):∀ p ∈ dD L,(∀ r ∈ p.2,∃ x ∈ L,x.2=r)∧∃ x ∈ L,p.1=x.1:=by
 have aux:∀ (L:List Kp) (ps:List Pt) (P:Zp→Prop) (Q:List Vl→Prop),(∀ x ∈ L,P x.2∧Q x.1)→(∀ p ∈ ps,(∀ r ∈ p.2,P r)∧Q p.1)→∀ p ∈ L.foldl (fun ps x=>lZ (dL ps x) x.2) ps,(∀ r ∈ p.2,P r)∧Q p.1:=by
  intro L
  induction L with
  | nil=>intro ps P Q _ h; exact h
  | cons x r ih =>
   intro ps P Q hL h;rw [OL];refine ih _ P Q (fun y hy=>hL y (by simp [hy])) ?_;have hx:=hL x (by simp);have ho:∀ p ∈ dL ps x,(∀ r ∈ p.2,P r)∧Q p.1:=fun p hp=>by
    have hnew:∀ p ∈ ps ++ [((x.1,[]):Pt)],(∀ r ∈ p.2,P r)∧Q p.1:=fun p hp=>by
     rcases List.mem_append.1 hp with hp | hp
     ·exact h p hp
     ·rw [List.mem_singleton.1 hp]; exact ⟨fun r hr=>by simp at hr,hx.2⟩
    unfold dL at hp
    split at hp
    ·exact hnew p hp
    ·split at hp
     ·exact h p hp
     ·exact hnew p hp
   intro p hp;unfold lZ at hp
   split at hp
   ·exact ho p hp
   ·rename_i hne
    rcases List.mem_or_eq_of_mem_set hp with hp | rfl
    ·exact ho p hp
    ·have hl:=ho _ (Ns (l:=dL ps x) (n:=(dL ps x).length - 1) (by omega));refine ⟨fun r hr=>?_,hl.2⟩;rcases List.mem_append.1 hr with hr | hr
     ·exact hl.1 r hr
     ·rw [List.mem_singleton.1 hr]; exact hx.1
 intro p hp;exact aux L [] (fun r=>∃ x ∈ L,x.2=r) (fun k=>∃ x ∈ L,k=x.1) (fun x hx=>⟨⟨x,hx,rfl⟩,⟨x,hx,rfl⟩⟩) (fun p hp=>by simp at hp) p hp
def fq (xs:List Ex) (L:List Kp):List Pt:=if xs.length=0∧(dD L).length=0 then [([],[])] else dD L
def cR (xs:List Ex) (gs:List Ag) (L:List Kp):List Zp:=(fq xs L).map fun p=>(p.1 ++ gs.map fun g=>jd g p.2,1)
def df (cols:List Int) (xs:List Ex) (gs:List Ag) (z:List Zp):Int:=if 8<xs.length+gs.length then 5 else if aP cols xs≠0 then aP cols xs else if bV cols gs≠0 then bV cols gs else if bz cols z≠0 then bz cols z else aH (cR xs gs (ba xs z))
def fp (cols:List Int) (xs:List Ex) (gs:List Ag) (z:List Zp):List Zp:=if df cols xs gs z=0 then canon (cR xs gs (ba xs z)) else []
theorem xQ {cols:List Int} {xs:List Ex} {z:List Zp} (h:eU cols z):(fq xs (ba xs z)).length≤401∧∀ p ∈ fq xs (ba xs z),BY cols p.2∧p.1.length=xs.length:=by
 have hs:=qu (ba xs z);have hl:=mA xs z;have h4:=iD h;have hp:∀ p ∈ dD (ba xs z),BY cols p.2∧p.1.length=xs.length:=fun p hp=>by
  obtain ⟨h1,x,hx,e⟩:=uM (ba xs z) p hp;refine ⟨⟨by have:=hs.2 p hp; omega,fun r hr=>?_,fun r hr=>?_⟩,?_⟩
  ·obtain ⟨y,hy,rfl⟩:=h1 r hr;exact h.fit _ (eJ.1 hy).1.1
  ·obtain ⟨y,hy,rfl⟩:=h1 r hr;have hm:=eJ.1 hy;have:=nm h y.2 hm.1.1;rw [gr] at this;have:=hm.1.2;omega
  ·rw [e,(eJ.1 hx).2]; simp [dV]
 unfold fq
 split
 ·rename_i hc
  refine ⟨by simp,fun p hp'=>?_⟩;rw [List.mem_singleton.1 hp'];exact ⟨⟨Nr _,fun r hr=>by simp at hr,fun r hr=>by simp at hr⟩,hc.1.symm⟩
 ·exact ⟨by have:=hs.1; omega,hp⟩
def LZ (W:World) (b o:Nat) (p:Pt):Prop:=(∃ ka kc,W.cell? ⟨b,o,none⟩=some (.slice ka p.1.length kc)∧aM W ka p.1)∧∃ ra rc,W.cell? ⟨b,o+1,none⟩=some (.slice ra p.2.length rc)∧aL W ra p.2
theorem LZ.next {W w1:World} {b o:Nat} {p:Pt} (h:LZ W b o p) (hlt:b<W.heap.size) (hb:Below W.heap.size W w1):LZ w1 b o p:=by
 obtain ⟨⟨ka,kc,h1,h2⟩,ra,rc,h3,h4⟩:=h;exact ⟨⟨ka,kc,(hb.cell (p:=⟨b,_,none⟩) hlt).trans h1,h2.next hb⟩,ra,rc,(hb.cell (p:=⟨b,_,none⟩) hlt).trans h3,h4.next hb⟩
def Bj (W:World) (a:Option Addr) (ps:List Pt):Prop:=ps = []∨∃ b off,a=some ⟨b,off,none⟩∧b<W.heap.size∧∀ i (hi:i<ps.length),LZ W b (off+i*2) ps[i]
theorem Bj.next {W w1:World} {a:Option Addr} {ps:List Pt} (h:Bj W a ps) (hb:Below W.heap.size W w1):Bj w1 a ps:=by
 rcases h with h | ⟨b,off,e,hlt,h⟩
 ·exact .inl h
 ·exact .inr ⟨b,off,e,Nn hlt hb.size,fun i hi=>(h i hi).next hlt hb⟩
theorem Bj.elem {W:World} {a:Option Addr} {ps:List Pt} (h:Bj W a ps) {i:Nat} (hi:i<ps.length):∃ b off,a=some ⟨b,off,none⟩∧b<W.heap.size∧LZ W b (off+i*2) ps[i]:=by
 rcases h with h | ⟨b,off,e,hlt,h⟩
 ·subst h; simp at hi
 ·exact ⟨b,off,e,hlt,h i hi⟩
theorem lq.pt {w0:World} {B:Nat} {W:World} {v:Value} {ps:List Pt} (h:lq w0 B W v ps) (hb:Below w0.heap.size w0 W):∃ a c,v = .slice a ps.length c∧Bj W a ps:=by
 obtain ⟨xs,Bl,rv,zs,I⟩:=h;have o:=I.own;rcases o.2 with ⟨rfl,h0⟩ | ⟨g,cap,cur,rfl,_⟩
 ·exact ⟨none,0,by rw [h0],.inl (Nu h0)⟩
 ·refine ⟨_,cap,rfl,.inr ⟨g,0,rfl,(o.lt g rfl).2,fun i hi=>?_⟩⟩;obtain ⟨ka,kc,e0,s0⟩:=I.key i hi;obtain ⟨ra,rc,er,zr⟩:=wg (I.Io hi) rfl (I.row i hi).2 hb;refine ⟨⟨ka,kc,?_,s0.next hb⟩,ra,rc,?_,zr⟩
  ·rw [Np,o.cellAt _ (by omega)]; exact e0
  ·rw [Np,o.cellAt _ (by omega),I.cell i hi,er]
theorem zd (cols:List Int) (xs:List Ex) (gs:List Ag) (hT:∀ g ∈ gs,bX cols g=0→fi g.1) (hsum:xs.length+gs.length≤9223372036854775807) (ca:Option Addr) (ccap:Nat) (xa:Option Addr) (xcap:Nat) (ga:Option Addr) (gcap:Nat) (a:Option Addr) (cap:Nat) (l:List Zp) (w:World) (hc:bc w.heap.size w ca cols) (hk:bd w.heap.size w xa xs) (hg:jD w.heap.size w ga gs) (h:aL w a l) :
  Calls Tryz.prog 97 #[.slice ca cols.length ccap,.slice xa xs.length xcap,.slice ga gs.length gcap,.slice a l.length cap] w fun e w'=>∃ v,e = .returned (.tuple #[v,.int .i64 (df cols xs gs l)])∧bZ w.heap.size w' v (fp cols xs gs l)∧Below w.heap.size w w':=by
 obtain ⟨i0,hi,hz0,hz1,hz2⟩:=info_parts Tryz.gX;have con:=xb cols xs ca ccap xa xcap w hk hc;generalize hfz:fp cols xs gs l=fz;generalize hfe:df cols xs gs l=fe;have HZ:Hid (fp cols xs gs l=fz):=hfz;have HF:Hid (df cols xs gs l=fe):=hfe;have HTo:Hid (∀ g ∈ gs,bX cols g=0→fi g.1):=hT;clear hfz hfe hT;have hW:IntKind.i64.wrap ((xs.length:Int)+(gs.length:Int))=(xs.length:Int)+(gs.length:Int):=IntWalk.i64_in _ ⟨by omega,by omega⟩;by_cases h8:8<xs.length+gs.length
 ·have e0:fe=5:=by rw [← HF.out]; unfold df; rw [if_pos h8]
  have e1:fz = []:=by rw [← HZ.out]; unfold fp; rw [HF.out,e0,if_neg (by decide)]
  subst e0 e1;have hz:(8:Int)<(xs.length:Int)+(gs.length:Int):=by omega
  clear con;go_enter Tryz.func97,Tryz.ntmps97;go_wp2_with fail
  exact Nl (v:=.tuple #[.slice none 0 0,.int .i64 5]) (by simp [results,Tryz.results97,go_sem]) rfl ⟨_,rfl,dM _ _,Nk _ _⟩
 have hz:¬ (8:Int)<(xs.length:Int)+(gs.length:Int):=by omega
 have HN8:Hid (¬ 8<xs.length+gs.length):=h8;by_cases h1:aP cols xs=0
 ·have H1:Hid (aP cols xs=0):=h1;rw [h1] at con;clear h1;go_enter Tryz.func97,Tryz.ntmps97;go_wp2_with fail
  refine con.mono ?_;rintro e w1 ⟨u,rfl,hL,hb1⟩;clear con;have hL:kj cols w.heap.size u xs w1:=by
   rcases hL with ⟨_,hL⟩ | ⟨hL,_⟩
   ·exact hL
   ·exact absurd (by trivial) hL
  have HL:Hid (kj cols w.heap.size u xs w1):=hL;obtain ⟨ug,ucb,rfl⟩:∃ g cb,u = .func (.func g) #[] cb:=by obtain ⟨g,cb,e,_⟩:=hL; exact ⟨g,cb,e⟩
  clear hL;have con:=tX cols gs HTo.out ca ccap ga gcap w1 ((jD.next hb1 (Nj _) hg).up hb1.size) ((hc.next hb1 (Nj _)).up hb1.size) (by omega);by_cases h2:bV cols gs=0
  ·have H2:Hid (bV cols gs=0):=h2;rw [h2] at con;clear h2;dsimp only;go_wp2_with fail
   refine con.mono ?_;rintro e w2 ⟨u2,rfl,hG,hb2⟩;clear con;have hG:DI cols w1.heap.size u2 gs w2:=by
    rcases hG with ⟨_,hG⟩ | ⟨hG,_⟩
    ·exact hG
    ·exact absurd (by trivial) hG
   obtain ⟨tg,tcb,rfl,egt,dt⟩:=hG;have HD:Hid (∀ (rows:List Zp) (a:Option Addr) (cap:Nat) (W:World),BY cols rows→aL W a rows→ax w1.heap.size w2 W→Calls Tryz.prog tg (#[.slice a rows.length cap] ++ tcb) W fun e w'=>e = .returned (.slice (some ⟨W.heap.size,0,none⟩) gs.length gs.length)∧mT W.heap.size w' (gs.map fun g=>jd g rows)∧Below W.heap.size W w'):=dt;clear dt;have hA2:=chain hb1 hb2;have con:=gQ cols ca ccap a cap l w2 ((hc.next hA2 (Nj _)).up hA2.size) (h.next hA2);by_cases h3:bz cols l=0
   ·have HO:Hid (eU cols l):=(dK cols l).1 h3;rw [h3] at con;have H3:Hid (bz cols l=0):=h3;clear h3;have HE:Hid (fe=aH (cR xs gs (ba xs l))):=by
     show fe=_;rw [← HF.out]; unfold df; rw [if_neg HN8.out,H1.out,H2.out,H3.out,if_neg (by simp),if_neg (by simp),if_neg (by simp)]
    have HV:Hid (fz=bg (cR xs gs (ba xs l))):=by
     show fz=_;rw [← HZ.out]; unfold fp bg; rw [HF.out,HE.out]
    have hl4:=iD HO.out;dsimp only;go_wp2_with fail
    refine con.mono ?_;rintro e w3 ⟨rfl,hb3⟩;clear con;have hA3:=chain hA2 hb3;have con:=rY cols xs (.func (.func ug) #[] ucb) w.heap.size a cap l w3 (HL.out.next (ax.of (chain hb2 hb3))) HO.out (h.next hA3);have hil:=mA xs l;dsimp only;go_wp2_with fail
    refine con.mono ?_;rintro e w4 ⟨a4,c4,rfl,kd,hb4⟩;clear con;have con:=El a4 c4 (ba xs l) w4 kd (by omega);have hpk:=xQ (xs:=xs) HO.out;have HPk:Hid (∀ p ∈ fq xs (ba xs l),BY cols p.2∧p.1.length=xs.length):=hpk.2;have hpl:=hpk.1;clear hpk;dsimp only;go_wp2_with fail
    refine con.mono ?_;rintro e w5 ⟨v5,rfl,PS,hb5⟩;clear con kd;obtain ⟨a5,c5,rfl,PT⟩:=PS.pt hb5;clear PS;have hA5:=chain (chain hA3 hb4) hb5;have hS5:=chain (chain hb3 hb4) hb5;have HG:Hid (cR xs gs (ba xs l)=(fq xs (ba xs l)).map fun p=>(p.1 ++ gs.map fun g=>jd g p.2,1)):=rfl;dsimp only;by_cases hcx:xs.length=0∧(dD (ba xs l)).length=0
    ·obtain ⟨hx0,hp0⟩:=hcx;have eG:fq xs (ba xs l) = [([],[])]:=by unfold fq; rw [if_pos ⟨hx0,hp0⟩]
     have hx0b:((xs.length:Int) == 0)=true:=by simp [hx0]
     have hp0b:(((dD (ba xs l)).length:Int) == 0)=true:=by simp [hp0]
     obtain ⟨ps,eps⟩:∃ ps,ps=fq xs (ba xs l):=⟨_,rfl⟩
     have HPs:Hid (fq xs (ba xs l)=ps):=eps.symm;have hpsl:ps.length=1:=by rw [eps,eG]; rfl
     have hplx:ps.length≤401:=by omega
     generalize hpn:(dD (ba xs l)).length=pn at *;have hal5:=aa w5 (.cells #[.slice none 0 0,.slice none 0 0] 154);have q5:=aw w5 #[.slice none 0 0,.slice none 0 0] 154;have PT:Bj (w5.alloc (.cells #[.slice none 0 0,.slice none 0 0] 154)) (some ⟨w5.heap.size,0,none⟩) ps:=by
      rw [eps,eG];refine .inr ⟨w5.heap.size,0,rfl,ae q5,fun i hi=>?_⟩;have e0:i=0:=by simpa using hi
      subst e0;exact ⟨⟨none,0,cell_of (i:=0) q5 rfl,Nr _,.inl rfl⟩,none,0,cell_of (i:=1) q5 rfl,Nr _,.inl rfl⟩
     clear eps hpn eG hp0;go_upto_region 15 with fail
     have hbx:=chain hA5 hal5;have hSx:=chain hS5 hal5;generalize w5.alloc (.cells #[.slice none 0 0,.slice none 0 0] 154)=wx at *;obtain ⟨pa,epa⟩:∃ pa,pa=some (⟨w5.heap.size,0,none⟩:Addr):=⟨_,rfl⟩
     rw [← epa] at PT ⊢;clear epa;rw [show (1:Nat)=ps.length from hpsl.symm];clear hpsl hx0b hp0b hx0;have hgl:(cR xs gs (ba xs l)).length=ps.length:=by rw [HG.out,HPs.out]; simp
     go_wp2_with (first | (at_make; refine wpList_make_full _ rfl _ _ 34 rfl wx.heap.size 58 i0 _ 2 Tryz.underlying34 hi hz0 hz1 .i64 .i64 ps.length ps.length ps.length rfl rfl rfl rfl (by rw [hz2]; omega) (by unfold maxLen; omega) (Nj _) ?_))
     intro w6 hown hgrow;have hb6:Below wx.heap.size wx w6:=(Nk _ _).grown hgrow (Nj _) (by simp);obtain ⟨f,hf⟩:∃ f:Nat→Zp,f=(fun j=>(cR xs gs (ba xs l)).getD j ([],0)):=⟨_,rfl⟩
     have HFn:Hid (f=(fun j=>(cR xs gs (ba xs l)).getD j ([],0))):=hf;have HGl:Hid ((cR xs gs (ba xs l)).length=ps.length):=hgl;clear hf hgl;have hB0:xr w6 wx.heap.size ps.length f 0:=⟨_,hown,fun j _ hj=>absurd hj (N7 _)⟩
     clear hown hgrow;go_wp2_with fail
     go_loopw [67] (fun i wr=>∃ k:Nat,k≤ps.length∧i = .int .i64 k∧xr wr wx.heap.size ps.length f k∧wx.heap.size<wr.heap.size∧Below wx.heap.size wx wr) (fun i _=>ps.length - (intOf i).toNat)
     case atStart=>exact ⟨0,Nr _,rfl,hB0,(by obtain ⟨xs0,o0,_⟩:=hB0; exact (o0.lt wx.heap.size rfl).2),hb6⟩
     case round =>
      clear hB0 hb6;obtain ⟨k,hk',rfl,HB,hwx,hb⟩:=hrel;have hzz:=hb.size;by_cases hlt:k<ps.length
      ·obtain ⟨b,off,rfl,hbl,⟨ka,kc,c0,sk⟩,ra,rc,c1,zr⟩:=(PT.next hb).elem hlt;have hal:=aa wr (.cells #[.slice ka ps[k].1.length kc,.slice ra ps[k].2.length rc] 154);have q0:=aw wr #[.slice ka ps[k].1.length kc,.slice ra ps[k].2.length rc] 154;have hpo:=HPk.out ps[k] (by rw [HPs.out]; exact Ns hlt);have HRo:Hid (BY cols ps[k].2):=hpo.1;have hkl:=hpo.2;have HSk:Hid (aM wr ka ps[k].1):=sk;have HZr:Hid (aL wr ra ps[k].2):=zr;have ef:f k=(ps[k].1 ++ gs.map fun g=>jd g ps[k].2,1):=by
        rw [HFn.out];simp only [HG.out,HPs.out];simp [List.getD,hlt]
       have EF:Hid (f k=(ps[k].1 ++ gs.map fun g=>jd g ps[k].2,1)):=ef;have i0':(0:Int)≤(k:Int):=by omega
       have i1:(k:Int)<(ps.length:Int):=by omega
       have hkl8:ps[k].1.length+gs.length≤8:=by omega
       clear ef sk zr hpo hkl;go_wp2_with fail
       clear c0 c1;generalize wr.alloc (.cells #[.slice ka ps[k].1.length kc,.slice ra ps[k].2.length rc] 154)=wk at *;have hCC:∀ W W':World,(W.heap[wr.heap.size]? = some (.cells #[.slice ka ps[k].1.length kc,.slice ra ps[k].2.length rc] 154 (0,0)))→Below W.heap.size W W'→(W'.heap[wr.heap.size]? = some (.cells #[.slice ka ps[k].1.length kc,.slice ra ps[k].2.length rc] 154 (0,0))):=fun W W' h hb=>(hb.block _ (ae h)).trans h
       have hd:Below wk.heap.size wk wk.drew:=(Nk _ _).drew;have CW:(wk.drew.heap[wr.heap.size]? = some (.cells #[.slice ka ps[k].1.length kc,.slice ra ps[k].2.length rc] 154 (0,0))):=hCC _ _ q0 hd;refine aK (fun W=>(W.heap[wr.heap.size]? = some (.cells #[.slice ka ps[k].1.length kc,.slice ra ps[k].2.length rc] 154 (0,0)))) (by kernel_rfl) ?_;refine ab hCC 72 (i:=0) (v:=.slice (some ⟨wx.heap.size,0,none⟩) ps.length ps.length) (fun n hn=>?_) CW ?_
       ·go_simp
       simp only [Act.put,pA,pB,pC];refine ab hCC 73 (i:=1) (v:=.int .i64 (k:Int)) (fun n hn=>?_) CW ?_
       ·go_simp
       simp only [Act.put,pA,pB,pC];refine ab hCC 74 (i:=2) (v:=.pointer (some ⟨wr.heap.size,0,none⟩)) (fun n hn=>?_) CW ?_
       ·go_simp
       simp only [Act.put,pA,pB,pC];refine ab hCC 75 (i:=3) (v:=.slice ka ps[k].1.length kc) (fun n hn=>?_) CW ?_
       ·have hc:n.cell? ⟨wr.heap.size,0,none⟩=some (.slice ka ps[k].1.length kc):=cell_of (i:=0) hn rfl;go_simp
       simp only [Act.put,pA,pB,pC];refine ab hCC 76 (i:=4) (v:=.func (.func tg) #[] tcb) (fun n hn=>?_) CW ?_
       ·go_simp
       simp only [Act.put,pA,pB,pC];refine ab hCC 77 (i:=5) (v:=.pointer (some ⟨wr.heap.size,1,none⟩)) (fun n hn=>?_) CW ?_
       ·go_simp
       simp only [Act.put,pA,pB,pC];refine ab hCC 78 (i:=6) (v:=.slice ra ps[k].2.length rc) (fun n hn=>?_) CW ?_
       ·have hc:n.cell? ⟨wr.heap.size,1,none⟩=some (.slice ra ps[k].2.length rc):=cell_of (i:=1) hn rfl;go_simp
       simp only [Act.put,pA,pB,pC];refine az (rs:=[7]) (by kernel_rfl) (by simp) ?_;intro w7 hb7 jj hj;obtain rfl:jj=7:=by simpa using hj
       clear hj;have CW7:=hCC _ _ CW hb7;have D7:=chain hal (chain hd hb7);have con:=HD.out ps[k].2 ra rc w7 HRo.out (HZr.out.next D7) (ax.of (chain hSx (chain hb D7)));refine wpOp_step rfl (fun K hK=>?_);go_simp
       first | (refine con.mono ?_) | (go_at_fn tg; refine con.mono ?_)
       rintro e w8 ⟨rfl,hRN,hb8⟩;clear con;have CW8:=hCC _ _ CW7 hb8;have D8:=chain D7 hb8;refine hK _ _ ⟨CW8,?_⟩;clear hK K;refine az (rs:=[8]) (by kernel_rfl) (by simp) ?_;intro w9 hb9 jj hj;obtain rfl:jj=8:=by simpa using hj
       clear hj;refine wpOp_step rfl (fun K hK=>?_);go_simp;have CW9:=hCC _ _ CW8 hb9;have D9:=chain D8 hb9;have R2:=fG (hRN.1.next hb9);have hgm:(gs.map fun g=>jd g ps[k].2).length=gs.length:=by simp
       rw [hgm] at R2;have PC:=gA.new kc gs.length (fG (HSk.out.next D9)) R2 56;have halA:=aa w9 (.cells #[.slice ka ps[k].1.length kc,.slice (some ⟨w7.heap.size,0,none⟩) gs.length gs.length] 56);have CWA:=hCC _ _ CW9 halA;have DA:=chain D9 halA;refine hK _ _ ⟨CWA,?_⟩;clear hK K R2 hgm hRN;generalize w9.alloc (.cells #[.slice ka ps[k].1.length kc,.slice (some ⟨w7.heap.size,0,none⟩) gs.length gs.length] 56)=wA at *;refine az (rs:=[9]) (by kernel_rfl) (by simp) ?_;intro wB hbB jj hj
       obtain rfl:jj=9:=by simpa using hj
       clear hj;refine wpOp_step rfl (fun K hK=>?_);go_simp;have CWB:=hCC _ _ CWA hbB;have DB:=chain DA hbB;refine (kX _ _ _ _ _ wB (PC.next hbB) (by omega)).mono ?_;rintro e wC ⟨vC,rfl,OC,hbC⟩;rw [← bQ] at OC;obtain ⟨aC,cC,rfl,SC,TC,_⟩:=lV OC (by simp);have CWC:=hCC _ _ CWB hbC;have DC:=chain DB hbC;refine hK _ _ ⟨CWC,?_⟩;clear hK K OC PC CW7 CW8 CW9 CWA CWB CW;obtain ⟨rr,err⟩:∃ rr,rr=ps[k].1 ++ gs.map fun g=>jd g ps[k].2:=⟨_,rfl⟩
       rw [← err] at SC ⊢;have EFr:Hid (f k=(rr,1)):=by show _=_; rw [err]; exact EF.out
       clear err EF;refine ab hCC 82 (i:=10) (v:=.agg #[.slice aC rr.length cC,.int .i64 1]) (fun n hn=>?_) CWC ?_
       ·go_simp
       simp only [Act.put,pA,pB,pC];refine ab hCC 83 (i:=11) (v:=.pointer (some ⟨wx.heap.size,k*2,none⟩)) (fun n hn=>?_) CWC ?_
       ·go_simp
       simp only [Act.put,pA,pB,pC];refine az (rs:=[12]) (by kernel_rfl) (by simp) ?_;intro wD hbD jj hj;obtain rfl:jj=12:=by simpa using hj
       clear hj;have CWD:=hCC _ _ CWC hbD;have DD:=chain DC hbD;have HBD:=(HB.next DD)
       obtain ⟨⟨u0,u1,d0,d1⟩,f0,f1,hlb⟩:=HBD.cells hlt;have MS:=HBD.step hlt (a:=aC) (cap:=cC) (by rw [EFr.out]; exact SC.next hbD) (TC.next hbD);rw [EFr.out] at MS;have hne:wr.heap.size≠wx.heap.size:=by omega
       have CWE:(((wD.setCell ⟨wx.heap.size,k*2,none⟩ (.slice aC rr.length cC)).setCell ⟨wx.heap.size,k*2+1,none⟩ (.int .i64 1)).heap[wr.heap.size]? = some (.cells #[.slice ka ps[k].1.length kc,.slice ra ps[k].2.length rc] 154 (0,0))):=(NR _ _ _ _ hne).trans ((NR _ _ _ _ hne).trans CWD);have BE:Below wx.heap.size wx ((wD.setCell ⟨wx.heap.size,k*2,none⟩ (.slice aC rr.length cC)).setCell ⟨wx.heap.size,k*2+1,none⟩ (.int .i64 1)):=((chain hb DD).setCell (p:=⟨wx.heap.size,k*2,none⟩) (Nj _) _).setCell (p:=⟨wx.heap.size,k*2+1,none⟩) (Nj _) _
       have zE:wx.heap.size<((wD.setCell ⟨wx.heap.size,k*2,none⟩ (.slice aC rr.length cC)).setCell ⟨wx.heap.size,k*2+1,none⟩ (.int .i64 1)).heap.size:=by simpa [World.setCell] using hlb
       refine wpOp_step rfl (fun K hK=>?_);go_simp;refine hK _ _ ⟨CWE,?_⟩;clear hK K CWD CWC d0 d1 f0 f1 HBD SC TC;generalize (wD.setCell ⟨wx.heap.size,k*2,none⟩ (.slice aC rr.length cC)).setCell ⟨wx.heap.size,k*2+1,none⟩ (.int .i64 1)=wE at *;refine bL (by kernel_rfl) ?_;intro wF hbF;have MF:=MS.next hbF;have BF:=chain BE hbF;have zF:=hbF.size;clear MS BE CWE hCC;go_wp2_with fail
       go_roundw
       case rel=>exact ⟨k+1,by omega,by go_num,MF,by omega,BF⟩
       case measure=>simp [intOf]; omega
      ·have e:k=ps.length:=by omega
       subst e;have zsm:=HB.done (cR xs gs (ba xs l)) HGl.out.symm (fun j hj=>by rw [HFn.out]; simp [List.getD,hj]) (by rw [HGl.out]; omega);have hmem:∀ y ∈ cR xs gs (ba xs l),y.2=1∧y.1.length≤8:=fun y hy=>by
        rw [HG.out] at hy;obtain ⟨p,hp,rfl⟩:=List.mem_map.1 hy;have:=(HPk.out p hp).2;exact ⟨rfl,by simp; omega⟩
       have con:=ep (some ⟨wx.heap.size,0,none⟩) ps.length (cR xs gs (ba xs l)) wr zsm (by rw [HGl.out]; omega) (fun y hy=>by rw [(hmem y hy).1]; rfl) (fun y hy=>(hmem y hy).2);rw [HGl.out,← HE.out,← HV.out] at con;clear zsm HB hmem;have hAr:=chain hbx hb;go_wp2_with fail
       refine con.mono ?_;rintro e w9 ⟨v9,rfl,O9,hb9⟩;have O9':=O9.mono hAr.size;obtain ⟨a9,c9,rfl,_⟩:=O9.zs;clear con O9;dsimp only;go_wp2_with fail
       exact Nl (v:=.tuple #[.slice a9 fz.length c9,.int .i64 fe]) (by simp [results,Tryz.results97,go_sem]) rfl ⟨_,rfl,O9',chain hAr hb9⟩
    ·have eG:fq xs (ba xs l)=dD (ba xs l):=by unfold fq; rw [if_neg hcx]
     obtain ⟨ps,eps⟩:∃ ps,ps=fq xs (ba xs l):=⟨_,rfl⟩
     have HPs:Hid (fq xs (ba xs l)=ps):=eps.symm;have eP:dD (ba xs l)=ps:=by rw [eps,eG]
     rw [eP] at hcx PT ⊢;have hplx:ps.length≤401:=by rw [eps]; exact hpl
     clear eps eG eP;obtain ⟨wx,hwx5⟩:∃ z,z=w5:=⟨_,rfl⟩
     subst hwx5;have hbx:=hA5;have hSx:=hS5;by_cases e1:xs.length=0;have e2n:¬ (ps.length:Int)=0:=fun e2=>hcx ⟨e1,by omega⟩
     have e2:((ps.length:Int) == 0)=false:=by rw [beq_eq_false_iff_ne]; exact e2n
     have e1b:((xs.length:Int) == 0)=true:=by simp [e1]
     clear hcx e1;go_upto_region 15 with fail
     clear e1b e2 e2n;rotate_left;have e1n:¬ (xs.length:Int)=0:=by omega
     have e1b:((xs.length:Int) == 0)=false:=by rw [beq_eq_false_iff_ne]; exact e1n
     clear hcx e1;go_upto_region 15 with fail
     clear e1b e1n
     all_goals
      have hgl:(cR xs gs (ba xs l)).length=ps.length:=by rw [HG.out,HPs.out]; simp
      go_wp2_with (first | (at_make; refine wpList_make_full _ rfl _ _ 34 rfl wx.heap.size 58 i0 _ 2 Tryz.underlying34 hi hz0 hz1 .i64 .i64 ps.length ps.length ps.length rfl rfl rfl rfl (by rw [hz2]; omega) (by unfold maxLen; omega) (Nj _) ?_))
      intro w6 hown hgrow;have hb6:Below wx.heap.size wx w6:=(Nk _ _).grown hgrow (Nj _) (by simp);obtain ⟨f,hf⟩:∃ f:Nat→Zp,f=(fun j=>(cR xs gs (ba xs l)).getD j ([],0)):=⟨_,rfl⟩
      have HFn:Hid (f=(fun j=>(cR xs gs (ba xs l)).getD j ([],0))):=hf;have HGl:Hid ((cR xs gs (ba xs l)).length=ps.length):=hgl;clear hf hgl;have hB0:xr w6 wx.heap.size ps.length f 0:=⟨_,hown,fun j _ hj=>absurd hj (N7 _)⟩
      clear hown hgrow;go_wp2_with fail
      go_loopw [67] (fun i wr=>∃ k:Nat,k≤ps.length∧i = .int .i64 k∧xr wr wx.heap.size ps.length f k∧wx.heap.size<wr.heap.size∧Below wx.heap.size wx wr) (fun i _=>ps.length - (intOf i).toNat)
      case atStart=>exact ⟨0,Nr _,rfl,hB0,(by obtain ⟨xs0,o0,_⟩:=hB0; exact (o0.lt wx.heap.size rfl).2),hb6⟩
      case round =>
       clear hB0 hb6;obtain ⟨k,hk',rfl,HB,hwx,hb⟩:=hrel;have hzz:=hb.size;by_cases hlt:k<ps.length
       ·obtain ⟨b,off,rfl,hbl,⟨ka,kc,c0,sk⟩,ra,rc,c1,zr⟩:=(PT.next hb).elem hlt;have hal:=aa wr (.cells #[.slice ka ps[k].1.length kc,.slice ra ps[k].2.length rc] 154);have q0:=aw wr #[.slice ka ps[k].1.length kc,.slice ra ps[k].2.length rc] 154;have hpo:=HPk.out ps[k] (by rw [HPs.out]; exact Ns hlt);have HRo:Hid (BY cols ps[k].2):=hpo.1;have hkl:=hpo.2;have HSk:Hid (aM wr ka ps[k].1):=sk;have HZr:Hid (aL wr ra ps[k].2):=zr;have ef:f k=(ps[k].1 ++ gs.map fun g=>jd g ps[k].2,1):=by
         rw [HFn.out];simp only [HG.out,HPs.out];simp [List.getD,hlt]
        have EF:Hid (f k=(ps[k].1 ++ gs.map fun g=>jd g ps[k].2,1)):=ef;have i0':(0:Int)≤(k:Int):=by omega
        have i1:(k:Int)<(ps.length:Int):=by omega
        have hkl8:ps[k].1.length+gs.length≤8:=by omega
        clear ef sk zr hpo hkl;go_wp2_with fail
        clear c0 c1;generalize wr.alloc (.cells #[.slice ka ps[k].1.length kc,.slice ra ps[k].2.length rc] 154)=wk at *;have hCC:∀ W W':World,(W.heap[wr.heap.size]? = some (.cells #[.slice ka ps[k].1.length kc,.slice ra ps[k].2.length rc] 154 (0,0)))→Below W.heap.size W W'→(W'.heap[wr.heap.size]? = some (.cells #[.slice ka ps[k].1.length kc,.slice ra ps[k].2.length rc] 154 (0,0))):=fun W W' h hb=>(hb.block _ (ae h)).trans h
        have hd:Below wk.heap.size wk wk.drew:=(Nk _ _).drew;have CW:(wk.drew.heap[wr.heap.size]? = some (.cells #[.slice ka ps[k].1.length kc,.slice ra ps[k].2.length rc] 154 (0,0))):=hCC _ _ q0 hd;refine aK (fun W=>(W.heap[wr.heap.size]? = some (.cells #[.slice ka ps[k].1.length kc,.slice ra ps[k].2.length rc] 154 (0,0)))) (by kernel_rfl) ?_;refine ab hCC 72 (i:=0) (v:=.slice (some ⟨wx.heap.size,0,none⟩) ps.length ps.length) (fun n hn=>?_) CW ?_
        ·go_simp
        simp only [Act.put,pA,pB,pC];refine ab hCC 73 (i:=1) (v:=.int .i64 (k:Int)) (fun n hn=>?_) CW ?_
        ·go_simp
        simp only [Act.put,pA,pB,pC];refine ab hCC 74 (i:=2) (v:=.pointer (some ⟨wr.heap.size,0,none⟩)) (fun n hn=>?_) CW ?_
        ·go_simp
        simp only [Act.put,pA,pB,pC];refine ab hCC 75 (i:=3) (v:=.slice ka ps[k].1.length kc) (fun n hn=>?_) CW ?_
        ·have hc:n.cell? ⟨wr.heap.size,0,none⟩=some (.slice ka ps[k].1.length kc):=cell_of (i:=0) hn rfl;go_simp
        simp only [Act.put,pA,pB,pC];refine ab hCC 76 (i:=4) (v:=.func (.func tg) #[] tcb) (fun n hn=>?_) CW ?_
        ·go_simp
        simp only [Act.put,pA,pB,pC];refine ab hCC 77 (i:=5) (v:=.pointer (some ⟨wr.heap.size,1,none⟩)) (fun n hn=>?_) CW ?_
        ·go_simp
        simp only [Act.put,pA,pB,pC];refine ab hCC 78 (i:=6) (v:=.slice ra ps[k].2.length rc) (fun n hn=>?_) CW ?_
        ·have hc:n.cell? ⟨wr.heap.size,1,none⟩=some (.slice ra ps[k].2.length rc):=cell_of (i:=1) hn rfl;go_simp
        simp only [Act.put,pA,pB,pC];refine az (rs:=[7]) (by kernel_rfl) (by simp) ?_;intro w7 hb7 jj hj;obtain rfl:jj=7:=by simpa using hj
        clear hj;have CW7:=hCC _ _ CW hb7;have D7:=chain hal (chain hd hb7);have con:=HD.out ps[k].2 ra rc w7 HRo.out (HZr.out.next D7) (ax.of (chain hSx (chain hb D7)));refine wpOp_step rfl (fun K hK=>?_);go_simp
        first | (refine con.mono ?_) | (go_at_fn tg; refine con.mono ?_)
        rintro e w8 ⟨rfl,hRN,hb8⟩;clear con;have CW8:=hCC _ _ CW7 hb8;have D8:=chain D7 hb8;refine hK _ _ ⟨CW8,?_⟩;clear hK K;refine az (rs:=[8]) (by kernel_rfl) (by simp) ?_;intro w9 hb9 jj hj;obtain rfl:jj=8:=by simpa using hj
        clear hj;refine wpOp_step rfl (fun K hK=>?_);go_simp;have CW9:=hCC _ _ CW8 hb9;have D9:=chain D8 hb9;have R2:=fG (hRN.1.next hb9);have hgm:(gs.map fun g=>jd g ps[k].2).length=gs.length:=by simp
        rw [hgm] at R2;have PC:=gA.new kc gs.length (fG (HSk.out.next D9)) R2 56;have halA:=aa w9 (.cells #[.slice ka ps[k].1.length kc,.slice (some ⟨w7.heap.size,0,none⟩) gs.length gs.length] 56);have CWA:=hCC _ _ CW9 halA;have DA:=chain D9 halA;refine hK _ _ ⟨CWA,?_⟩;clear hK K R2 hgm hRN;generalize w9.alloc (.cells #[.slice ka ps[k].1.length kc,.slice (some ⟨w7.heap.size,0,none⟩) gs.length gs.length] 56)=wA at *;refine az (rs:=[9]) (by kernel_rfl) (by simp) ?_;intro wB hbB jj hj
        obtain rfl:jj=9:=by simpa using hj
        clear hj;refine wpOp_step rfl (fun K hK=>?_);go_simp;have CWB:=hCC _ _ CWA hbB;have DB:=chain DA hbB;refine (kX _ _ _ _ _ wB (PC.next hbB) (by omega)).mono ?_;rintro e wC ⟨vC,rfl,OC,hbC⟩;rw [← bQ] at OC;obtain ⟨aC,cC,rfl,SC,TC,_⟩:=lV OC (by simp);have CWC:=hCC _ _ CWB hbC;have DC:=chain DB hbC;refine hK _ _ ⟨CWC,?_⟩;clear hK K OC PC CW7 CW8 CW9 CWA CWB CW;obtain ⟨rr,err⟩:∃ rr,rr=ps[k].1 ++ gs.map fun g=>jd g ps[k].2:=⟨_,rfl⟩
        rw [← err] at SC ⊢;have EFr:Hid (f k=(rr,1)):=by show _=_; rw [err]; exact EF.out
        clear err EF;refine ab hCC 82 (i:=10) (v:=.agg #[.slice aC rr.length cC,.int .i64 1]) (fun n hn=>?_) CWC ?_
        ·go_simp
        simp only [Act.put,pA,pB,pC];refine ab hCC 83 (i:=11) (v:=.pointer (some ⟨wx.heap.size,k*2,none⟩)) (fun n hn=>?_) CWC ?_
        ·go_simp
        simp only [Act.put,pA,pB,pC];refine az (rs:=[12]) (by kernel_rfl) (by simp) ?_;intro wD hbD jj hj;obtain rfl:jj=12:=by simpa using hj
        clear hj;have CWD:=hCC _ _ CWC hbD;have DD:=chain DC hbD;have HBD:=(HB.next DD)
        obtain ⟨⟨u0,u1,d0,d1⟩,f0,f1,hlb⟩:=HBD.cells hlt;have MS:=HBD.step hlt (a:=aC) (cap:=cC) (by rw [EFr.out]; exact SC.next hbD) (TC.next hbD);rw [EFr.out] at MS;have hne:wr.heap.size≠wx.heap.size:=by omega
        have CWE:(((wD.setCell ⟨wx.heap.size,k*2,none⟩ (.slice aC rr.length cC)).setCell ⟨wx.heap.size,k*2+1,none⟩ (.int .i64 1)).heap[wr.heap.size]? = some (.cells #[.slice ka ps[k].1.length kc,.slice ra ps[k].2.length rc] 154 (0,0))):=(NR _ _ _ _ hne).trans ((NR _ _ _ _ hne).trans CWD);have BE:Below wx.heap.size wx ((wD.setCell ⟨wx.heap.size,k*2,none⟩ (.slice aC rr.length cC)).setCell ⟨wx.heap.size,k*2+1,none⟩ (.int .i64 1)):=((chain hb DD).setCell (p:=⟨wx.heap.size,k*2,none⟩) (Nj _) _).setCell (p:=⟨wx.heap.size,k*2+1,none⟩) (Nj _) _
        have zE:wx.heap.size<((wD.setCell ⟨wx.heap.size,k*2,none⟩ (.slice aC rr.length cC)).setCell ⟨wx.heap.size,k*2+1,none⟩ (.int .i64 1)).heap.size:=by simpa [World.setCell] using hlb
        refine wpOp_step rfl (fun K hK=>?_);go_simp;refine hK _ _ ⟨CWE,?_⟩;clear hK K CWD CWC d0 d1 f0 f1 HBD SC TC;generalize (wD.setCell ⟨wx.heap.size,k*2,none⟩ (.slice aC rr.length cC)).setCell ⟨wx.heap.size,k*2+1,none⟩ (.int .i64 1)=wE at *;refine bL (by kernel_rfl) ?_;intro wF hbF;have MF:=MS.next hbF;have BF:=chain BE hbF;have zF:=hbF.size;clear MS BE CWE hCC;go_wp2_with fail
        go_roundw
        case rel=>exact ⟨k+1,by omega,by go_num,MF,by omega,BF⟩
        case measure=>simp [intOf]; omega
       ·have e:k=ps.length:=by omega
        subst e;have zsm:=HB.done (cR xs gs (ba xs l)) HGl.out.symm (fun j hj=>by rw [HFn.out]; simp [List.getD,hj]) (by rw [HGl.out]; omega);have hmem:∀ y ∈ cR xs gs (ba xs l),y.2=1∧y.1.length≤8:=fun y hy=>by
         rw [HG.out] at hy;obtain ⟨p,hp,rfl⟩:=List.mem_map.1 hy;have:=(HPk.out p hp).2;exact ⟨rfl,by simp; omega⟩
        have con:=ep (some ⟨wx.heap.size,0,none⟩) ps.length (cR xs gs (ba xs l)) wr zsm (by rw [HGl.out]; omega) (fun y hy=>by rw [(hmem y hy).1]; rfl) (fun y hy=>(hmem y hy).2);rw [HGl.out,← HE.out,← HV.out] at con;clear zsm HB hmem;have hAr:=chain hbx hb;go_wp2_with fail
        refine con.mono ?_;rintro e w9 ⟨v9,rfl,O9,hb9⟩;have O9':=O9.mono hAr.size;obtain ⟨a9,c9,rfl,_⟩:=O9.zs;clear con O9;dsimp only;go_wp2_with fail
        exact Nl (v:=.tuple #[.slice a9 fz.length c9,.int .i64 fe]) (by simp [results,Tryz.results97,go_sem]) rfl ⟨_,rfl,O9',chain hAr hb9⟩
   ·have e0:fe=bz cols l:=by rw [← HF.out]; unfold df; rw [if_neg HN8.out,H1.out,H2.out,if_neg (by simp),if_neg (by simp),if_pos h3]
    have e1:fz = []:=by rw [← HZ.out]; unfold fp; rw [HF.out,e0,if_neg h3]
    have hne:(bz cols l != 0)=true:=by simpa using h3
    rw [← e0] at con hne;have HV:Hid (fz = []):=e1;clear e0 e1 h3;dsimp only;go_wp2_with fail
    refine con.mono ?_;rintro e w3 ⟨rfl,hb3⟩;clear con;dsimp only;go_wp2_with fail
    exact Nl (v:=.tuple #[.slice none 0 0,.int .i64 fe]) (by simp [results,Tryz.results97,go_sem]) rfl ⟨_,rfl,by rw [HV.out]; exact dM _ _,chain hA2 hb3⟩
  ·have e0:fe=bV cols gs:=by rw [← HF.out]; unfold df; rw [if_neg HN8.out,H1.out,if_neg (by simp),if_pos h2]
   have e1:fz = []:=by rw [← HZ.out]; unfold fp; rw [HF.out,e0,if_neg h2]
   have hne:(bV cols gs != 0)=true:=by simpa using h2
   have HL2:Hid (¬ bV cols gs=0):=h2;rw [← e0] at hne;have HV:Hid (fz = []):=e1;have HN:Hid (fe=bV cols gs):=e0;clear e0 e1 h2;dsimp only;go_wp2_with fail
   refine con.mono ?_;rintro e w2 ⟨u2,rfl,hG,hb2⟩;obtain ⟨_,rfl⟩:¬ bV cols gs=0∧u2 = .nilFunc:=by
    rcases hG with ⟨hG,_⟩ | hG
    ·exact absurd hG HL2.out
    ·exact hG
   rw [← HN.out];clear con;dsimp only;go_wp2_with fail
   exact Nl (v:=.tuple #[.slice none 0 0,.int .i64 fe]) (by simp [results,Tryz.results97,go_sem]) rfl ⟨_,rfl,by rw [HV.out]; exact dM _ _,chain hb1 hb2⟩
 ·have e0:fe=aP cols xs:=by rw [← HF.out]; unfold df; rw [if_neg HN8.out,if_pos h1]
  have e1:fz = []:=by rw [← HZ.out]; unfold fp; rw [HF.out,e0,if_neg h1]
  have hne:(aP cols xs != 0)=true:=by simpa using h1
  have HL:Hid (¬ aP cols xs=0):=h1;rw [← e0] at hne;have HV:Hid (fz = []):=e1;have HN:Hid (fe=aP cols xs):=e0;clear e0 e1 h1;go_enter Tryz.func97,Tryz.ntmps97;go_wp2_with fail
  refine con.mono ?_;rintro e w1 ⟨u,rfl,hL,hb1⟩;obtain ⟨_,rfl⟩:¬ aP cols xs=0∧u = .nilFunc:=by
   rcases hL with ⟨hL,_⟩ | hL
   ·exact absurd hL HL.out
   ·exact hL
  rw [← HN.out];clear con;go_wp2_with fail
  exact Nl (v:=.tuple #[.slice none 0 0,.int .i64 fe]) (by simp [results,Tryz.results97,go_sem]) rfl ⟨_,rfl,by rw [HV.out]; exact dM _ _,hb1⟩
end Go.Proofs.YtohjlfhmnmcndaaGreat
namespace Go.Proofs.YtohjlfhmnmcndaaGreat
open Go.RowKit
set_option maxRecDepth 100000
set_option maxHeartbeats 16000000
def cJ (k:Int):Nat:=if k=1 then 0 else if 4≤k∧k≤9 then 2 else 1
theorem gh (k:Int):cJ k≤2:=by
 unfold cJ
 split
 ·decide
 ·split <;> decide
def eO (k:Int) (len:Nat) (n d:Int):Int:=if 60<n∨15<d then 4 else if k<1∨13<k then 1 else if len≠cJ k then 5 else 0
def dP (cols:List Int) (xs:List Ex):List Int:=xs.map fun x=>(an cols x).1
def oo (cols:List Int) (g:Ag):Int:=if g.1=4∨g.1=5 then (an cols g.2).1 else 3
def fw:List Int→List Int→Int
 | a :: l,b :: r=>if (bI a b).2≠0 then (bI a b).2 else fw l r
 | _,_=>0
def bC:List Int→List Int→List Int
 | a :: l,b :: r=>(bI a b).1 :: bC l r
 | _,_=>[]
def hY (l r:List Int):Int:=if l.length≠r.length then 8 else fw l r
def jf (k n:Int) (x:Ex) (xs:List Ex) (gs:List Ag) (cols:List Int):Int:=if k=2 then eV cols x [] else if k=3 then iv cols xs [] else if k=12 then df cols xs gs [] else if k=13 then kh cols xs n [] else 0
def qM (k:Int) (xs:List Ex) (gs:List Ag) (cols:List Int):List Int:=if k=3 then dP cols xs else if k=12 then dP cols xs ++ gs.map (oo cols) else cols
def tV (k:Int) (x:Ex) (l r:List Int):Int:=if k=8∨k=9 then hY l r else bY 0 l r x [] []
def qI (k:Int) (l r:List Int):List Int:=if k=8∨k=9 then bC l r else if k=5∨k=6 then l else l ++ r
def fC (ts:List (List Int)) (k n:Int) (x:Ex) (xs:List Ex) (gs:List Ag) (cs:List (List Int)):Int:=match cs with
 | []=>if n<0∨ts.length≤n then 7 else 0
 | [c]=>jf k n x xs gs c
 | l :: r :: _=>tV k x l r
def iR (ts:List (List Int)) (k n:Int) (xs:List Ex) (gs:List Ag) (cs:List (List Int)):List Int:=match cs with
 | []=>ts.getD n.toNat []
 | [c]=>qM k xs gs c
 | l :: r :: _=>qI k l r
mutual
def ah (ts:List (List Int)):Pl→List Int
 | .mk k n _ xs gs ks=>iR ts k n xs gs (kQ ts ks)
def kQ (ts:List (List Int)):List Pl→List (List Int)
 | []=>[]
 | p :: r=>ah ts p :: kQ ts r
end
theorem dR (ts:List (List Int)):∀ l,kQ ts l=l.map (ah ts)
 | []=>by simp [kQ]
 | p :: r=>by rw [kQ,dR ts r,NO]
mutual
def aQ (ts:List (List Int)):Pl→Int→Int→Int × Int
 | .mk k n x xs gs ks,m,d =>
  if eO k ks.length (m+1) d≠0 then (eO k ks.length (m+1) d,m+1)
  else if (aW ts ks (m+1) (d+1)).1≠0 then aW ts ks (m+1) (d+1)
  else (fC ts k n x xs gs (kQ ts ks),(aW ts ks (m+1) (d+1)).2)
def aW (ts:List (List Int)):List Pl→Int→Int→Int × Int
 | [],m,_=>(0,m)
 | p :: r,m,d=>if (aQ ts p m d).1≠0 then aQ ts p m d else aW ts r (aQ ts p m d).2 d
end
theorem rT {ts:List (List Int)} {ks:List Pl} {m d:Int} {j:Nat} (h:j<ks.length) (he:¬ (aQ ts ks[j] m d).1=0):aW ts (ks.drop j) m d=aQ ts ks[j] m d:=by
 rw [Nq h,aW,if_pos he]
theorem yD {ts:List (List Int)} {ks:List Pl} {m d:Int} {j:Nat} (h:j<ks.length) (he:(aQ ts ks[j] m d).1=0):aW ts (ks.drop j) m d=aW ts (ks.drop (j+1)) (aQ ts ks[j] m d).2 d:=by
 rw [Nq h,aW,if_neg (by simp [he])]
theorem Bv {ts:List (List Int)} {ks:List Pl} {m d:Int} {j:Nat} (h:ks.length≤j):aW ts (ks.drop j) m d=(0,m):=by
 rw [NI h,aW]
def aT (data:List (List Zp)) (k n:Int) (x:Ex) (xs:List Ex) (gs:List Ag) (cs:List (List Int)) (zs:List (List Zp)):Int × List Zp:=match cs,zs with
 | [c],[z] =>
  if k=2 then (eV c x z,iq c x z) else if k=3 then (iv c xs z,nd c xs z) else if k=10 then (aF z,gS lL z) else if k=11 then (aF z,gS fg z)
  else if k=12 then (df c xs gs z,fp c xs gs z) else (kh c xs n z,mV c xs n z)
 | l :: r :: _,a :: b :: _ =>
  if k=4 then (bY 0 l r x a b,dg 0 l r x a b) else if k=5 then (bY 1 l r x a b,dg 1 l r x a b) else if k=6 then (bY 2 l r x a b,dg 2 l r x a b) else if k=7 then (bY 3 l r x a b,dg 3 l r x a b)
  else if k=8 then (bh 1 a b,cM 1 a b) else (bh (-1) a b,cM (-1) a b)
 | _,_=>(aH (data.getD n.toNat []),bg (data.getD n.toNat []))
mutual
def aB (ts:List (List Int)) (data:List (List Zp)):Pl→Int × List Zp
 | .mk k n x xs gs ks=>if (cW ts data ks).1≠0 then ((cW ts data ks).1,[]) else aT data k n x xs gs (kQ ts ks) (cW ts data ks).2
def cW (ts:List (List Int)) (data:List (List Zp)):List Pl→Int × List (List Zp)
 | []=>(0,[])
 | p :: r=>if (aB ts data p).1≠0 then ((aB ts data p).1,[]) else ((cW ts data r).1,(aB ts data p).2 :: (cW ts data r).2)
end
def fy (B:Nat) (W:World) (a:Option Addr) (l:List (List Int)):Prop:=l = []∨∃ (b off:Nat) (ai:Nat→Option Addr) (ci:Nat→Nat),a=some ⟨b,off,none⟩∧b<B∧∀ (i:Nat) (h:i<l.length),W.cell? ⟨b,off+i,none⟩=some (.slice (ai i) l[i].length (ci i))∧bc B W (ai i) l[i]
theorem fy.next {B B':Nat} {W w1:World} {a:Option Addr} {l:List (List Int)} (h:fy B W a l) (hb:Below B' W w1) (hB:B≤B'):fy B w1 a l:=by
 rcases h with h | ⟨b,off,ai,ci,e,hlt,h⟩
 ·exact .inl h
 ·exact .inr ⟨b,off,ai,ci,e,hlt,fun i hi=>⟨(hb.cell (p:=⟨b,_,none⟩) (Nn hlt hB)).trans (h i hi).1,(h i hi).2.next hb hB⟩⟩
theorem fy.up {B B':Nat} {W:World} {a:Option Addr} {l:List (List Int)} (h:fy B W a l) (hB:B≤B'):fy B' W a l:=by
 rcases h with h | ⟨b,off,ai,ci,e,hlt,h⟩
 ·exact .inl h
 ·exact .inr ⟨b,off,ai,ci,e,Nn hlt hB,fun i hi=>⟨(h i hi).1,(h i hi).2.up hB⟩⟩
theorem fy.elem {B:Nat} {W:World} {a:Option Addr} {l:List (List Int)} (h:fy B W a l) {i:Nat} (hi:i<l.length):∃ b off ai ci,a=some ⟨b,off,none⟩∧b<B∧W.cell? ⟨b,off+i,none⟩=some (.slice ai l[i].length ci)∧bc B W ai l[i]:=by
 rcases h with h | ⟨b,off,ai,ci,e,hlt,h⟩
 ·subst h; simp at hi
 ·exact ⟨b,off,ai i,ci i,e,hlt,h i hi⟩
def gL (W:World) (a:Option Addr) (l:List (List Zp)):Prop:=l = []∨∃ (b off:Nat) (ai:Nat→Option Addr) (ci:Nat→Nat),a=some ⟨b,off,none⟩∧b<W.heap.size∧∀ (i:Nat) (h:i<l.length),W.cell? ⟨b,off+i,none⟩=some (.slice (ai i) l[i].length (ci i))∧aL W (ai i) l[i]∧(ai i=none→ci i=0)
theorem gL.next {W w1:World} {a:Option Addr} {l:List (List Zp)} (h:gL W a l) (hb:Below W.heap.size W w1):gL w1 a l:=by
 rcases h with h | ⟨b,off,ai,ci,e,hlt,h⟩
 ·exact .inl h
 ·exact .inr ⟨b,off,ai,ci,e,Nn hlt hb.size,fun i hi=>⟨(hb.cell (p:=⟨b,_,none⟩) hlt).trans (h i hi).1,(h i hi).2.1.next hb,(h i hi).2.2⟩⟩
theorem gL.elem {W:World} {a:Option Addr} {l:List (List Zp)} (h:gL W a l) {i:Nat} (hi:i<l.length):∃ b off ai ci,a=some ⟨b,off,none⟩∧b<W.heap.size∧W.cell? ⟨b,off+i,none⟩=some (.slice ai l[i].length ci)∧aL W ai l[i]∧(ai=none→ci=0):=by
 rcases h with h | ⟨b,off,ai,ci,e,hlt,h⟩
 ·subst h; simp at hi
 ·exact ⟨b,off,ai i,ci i,e,hlt,h i hi⟩
structure Kept (B lo:Nat) (W w1:World):Prop where
 low:Below B W w1
 high:∀ k,k<W.heap.size→lo≤k→w1.heap[k]? = W.heap[k]?
theorem Kept.of {B lo:Nat} {W w1:World} (h:Below W.heap.size W w1) (hB:B≤W.heap.size):Kept B lo W w1:=⟨h.mono hB,fun k hk _=>h.block k hk⟩
theorem Kept.Nb {B lo t:Nat} {W w1:World} (h:au t W w1) (hB:B≤t) (ht:t<lo):Kept B lo W w1:=⟨h.below hB,fun k hk hl=>h.2 k hk (by omega)⟩
theorem Kept.set {B lo:Nat} {W w1:World} (h:Kept B lo W w1) (g o:Nat) (u:Value) (hB:B≤g) (hg:g<lo):Kept B lo W (w1.setCell ⟨g,o,none⟩ u) :=
 ⟨h.low.setCell (p:=⟨g,o,none⟩) hB u,fun k hk hl=>by
  have h1:=((au.refl g w1).set o u).2 k (Nn hk h.low.size) (by omega)
  rw [h1,h.high k hk hl]⟩
theorem Kept.refl (B lo:Nat) (W:World):Kept B lo W W:=⟨Nk _ _,fun _ _ _=>rfl⟩
theorem Kept.cell {B lo:Nat} {W w1:World} (h:Kept B lo W w1) {b o:Nat} (hb:b<W.heap.size) (hz:b<B∨lo≤b):w1.cell? ⟨b,o,none⟩=W.cell? ⟨b,o,none⟩:=by
 rcases hz with hz | hz
 ·exact h.low.cell (p:=⟨b,o,none⟩) hz
 ·exact NA (w:=W) (a:=⟨b,o,none⟩) (h.high b hb hz)
def kr (B lo:Nat) (W:World) (a:Option Addr) (l:List Int):Prop:=l.length≤maxLen∧(l = []∨∃ b off,a=some ⟨b,off,none⟩∧b<W.heap.size∧(b<B∨lo≤b)∧∀ (i:Nat) (h:i<l.length),W.cell? ⟨b,off+i,none⟩=some (.int .i64 l[i]))
theorem kr.next {B lo:Nat} {W w1:World} {a:Option Addr} {l:List Int} (h:kr B lo W a l) (hb:Kept B lo W w1):kr B lo w1 a l:=by
 obtain ⟨h0,h | ⟨b,off,e,hlt,hn,h⟩⟩:=h
 ·exact ⟨h0,.inl h⟩
 ·exact ⟨h0,.inr ⟨b,off,e,Nn hlt hb.low.size,hn,fun i hi=>(hb.cell hlt hn).trans (h i hi)⟩⟩
theorem kr.wide {B lo lo':Nat} {W:World} {a:Option Addr} {l:List Int} (h:kr B lo W a l) (hl:lo'≤lo):kr B lo' W a l:=by
 obtain ⟨h0,h | ⟨b,off,e,hlt,hn,h⟩⟩:=h
 ·exact ⟨h0,.inl h⟩
 ·exact ⟨h0,.inr ⟨b,off,e,hlt,by omega,h⟩⟩
theorem kr.at {B lo:Nat} {W:World} {a:Option Addr} {l:List Int} (h:kr B lo W a l):bc W.heap.size W a l:=by
 obtain ⟨h0,h | ⟨b,off,e,hlt,hn,h⟩⟩:=h
 ·exact ⟨h0,.inl h⟩
 ·exact ⟨h0,.inr ⟨b,off,e,hlt,h⟩⟩
theorem bc.t {B lo:Nat} {W:World} {a:Option Addr} {l:List Int} (h:bc B W a l) (hB:B≤W.heap.size):kr B lo W a l:=by
 obtain ⟨h0,h | ⟨b,off,e,hlt,h⟩⟩:=h
 ·exact ⟨h0,.inl h⟩
 ·exact ⟨h0,.inr ⟨b,off,e,by omega,.inl hlt,h⟩⟩
inductive sY (ts:List (List Int)) (B lo:Nat) (W:World):Option Addr→List Pl→Prop
 | nil (a:Option Addr):sY ts B lo W a []
 | some (b off:Nat) (l:List Pl) (q:Nat→Pw) (ca:Nat→Option Addr) (cc:Nat→Nat) (na:Nat→Option Addr) (nc:Nat→Nat) (hb:b<W.heap.size) (hn:lo≤b)
   (hc:∀ (i:Nat) (h:i<l.length),gY W b (off+i*13) l[i] (q i))
   (h11:∀ (i:Nat) (h:i<l.length),W.cell? ⟨b,off+i*13+11,none⟩=some (.slice (ca i) (ah ts l[i]).length (cc i)))
   (h12:∀ (i:Nat) (h:i<l.length),W.cell? ⟨b,off+i*13+12,none⟩=some (.slice (na i) l[i].ks.length (nc i)))
   (hp:∀ (i:Nat) (h:i<l.length),ja B W l[i] (q i))
   (hcol:∀ (i:Nat) (h:i<l.length),kr B lo W (ca i) (ah ts l[i]))
   (hk:∀ (i:Nat) (h:i<l.length),sY ts B lo W (na i) l[i].ks):sY ts B lo W (some ⟨b,off,none⟩) l
theorem gY.kept {B lo:Nat} {W w1:World} {b off:Nat} {p:Pl} {q:Pw} (h:gY W b off p q) (hb:Kept B lo W w1) (hB:b<W.heap.size) (hn:b<B∨lo≤b):gY w1 b off p q :=
 ⟨(hb.cell hB hn).trans h.c0,(hb.cell hB hn).trans h.c1,⟨(hb.cell hB hn).trans h.ub.c0,(hb.cell hB hn).trans h.ub.c1,(hb.cell hB hn).trans h.ub.c2,(hb.cell hB hn).trans h.ub.c3,(hb.cell hB hn).trans h.ub.c4,(hb.cell hB hn).trans h.ub.c5⟩,(hb.cell hB hn).trans h.c8,(hb.cell hB hn).trans h.c9,(hb.cell hB hn).trans h.zY⟩
theorem sY.next {ts:List (List Int)} {B lo:Nat} {W w1:World} (hb:Kept B lo W w1) {a:Option Addr} {l:List Pl} (h:sY ts B lo W a l):sY ts B lo w1 a l:=by
 induction h with
 | nil a=>exact .nil a
 | some b off l q ca cc na nc hlt hn hc h11 h12 hp hcol _ ih =>
  exact .some b off l q ca cc na nc (Nn hlt hb.low.size) hn (fun i hi=>(hc i hi).kept hb hlt (.inr hn)) (fun i hi=>(hb.cell hlt (.inr hn)).trans (h11 i hi)) (fun i hi=>(hb.cell hlt (.inr hn)).trans (h12 i hi)) (fun i hi=>(hp i hi).next hb.low (Nj _)) (fun i hi=>(hcol i hi).next hb) ih
theorem sY.wide {ts:List (List Int)} {B lo lo':Nat} {W:World} (hl:lo'≤lo) {a:Option Addr} {l:List Pl} (h:sY ts B lo W a l):sY ts B lo' W a l:=by
 induction h with
 | nil a=>exact .nil a
 | some b off l q ca cc na nc hlt hn hc h11 h12 hp hcol _ ih=>exact .some b off l q ca cc na nc hlt (Nw hl hn) hc h11 h12 hp (fun i hi=>(hcol i hi).wide hl) ih
structure E8 (ts:List (List Int)) (B lo:Nat) (W:World) (p:Pl) (q:Pw) (ca na:Option Addr):Prop where
 pl:ja B W p q
 cols:kr B lo W ca (ah ts p)
 kids:sY ts B lo W na p.ks
theorem E8.next {ts:List (List Int)} {B lo:Nat} {W w1:World} {p:Pl} {q:Pw} {ca na:Option Addr} (h:E8 ts B lo W p q ca na) (hb:Kept B lo W w1):E8 ts B lo w1 p q ca na:=⟨h.pl.next hb.low (Nj _),h.cols.next hb,sY.next hb h.kids⟩
theorem E8.wide {ts:List (List Int)} {B lo lo':Nat} {W:World} {p:Pl} {q:Pw} {ca na:Option Addr} (h:E8 ts B lo W p q ca na) (hl:lo'≤lo):E8 ts B lo' W p q ca na:=⟨h.pl,h.cols.wide hl,sY.wide hl h.kids⟩
theorem sY.elem {ts:List (List Int)} {B lo:Nat} {W:World} {a:Option Addr} {l:List Pl} (h:sY ts B lo W a l) {i:Nat} (hi:i<l.length):∃ b off q ca cc na nc,a=Option.some ⟨b,off,none⟩∧b<W.heap.size∧lo≤b∧gY W b (off+i*13) l[i] q∧W.cell? ⟨b,off+i*13+11,none⟩=Option.some (.slice ca (ah ts l[i]).length cc)∧W.cell? ⟨b,off+i*13+12,none⟩=Option.some (.slice na l[i].ks.length nc)∧E8 ts B lo W l[i] q ca na:=by
 cases h with
 | nil=>simp at hi
 | some b off l q ca cc na nc hlt hn hc h11 h12 hp hcol hk=>exact ⟨b,off,q i,ca i,cc i,na i,nc i,rfl,hlt,hn,hc i hi,h11 i hi,h12 i hi,⟨hp i hi,hcol i hi,hk i hi⟩⟩
def bP (p:Pl) (q:Pw):Value:=.agg (eS p q)
def oI (p:Pl) (q:Pw) (ca:Option Addr) (n cc:Nat) (na:Option Addr) (nc:Nat):Value:=.agg (pd p q ca n cc na p.ks.length nc)
def lI:Value:=.agg #[.int .i64 0,.int .i64 0,.int .i64 0,.int .i64 0,.int .i64 0,.string ⟨#[]⟩,.int .i64 0,.slice none 0 0,.slice none 0 0,.slice none 0 0,.slice none 0 0,.slice none 0 0,.slice none 0 0]
theorem gY.new (w:World) (p:Pl) (q:Pw) (T:TypeId):gY (w.alloc (.cells (eS p q) T)) w.heap.size 0 p q:=by
 have h:=aw w (eS p q) T;exact ⟨cell_of (i:=0) h rfl,cell_of (i:=1) h rfl,⟨cell_of (i:=2) h rfl,cell_of (i:=3) h rfl,cell_of (i:=4) h rfl,cell_of (i:=5) h rfl,cell_of (i:=6) h rfl,cell_of (i:=7) h rfl⟩,cell_of (i:=8) h rfl,cell_of (i:=9) h rfl,cell_of (i:=10) h rfl⟩
end Go.Proofs.YtohjlfhmnmcndaaGreat
namespace Go.Proofs.YtohjlfhmnmcndaaGreat
open Go.RowKit Go.Lib Go.Shelf
set_option maxRecDepth 100000
set_option maxHeartbeats 16000000
theorem wJ {n:Nat} (h:n≤8) (w:World):(Instr.makeSlice 45 (.int .i64 n) (.int .i64 n)).run Tryz.prog w = .ok (.slice (some ⟨w.heap.size,0,none⟩) n n) (w.alloc (.cells (Array.replicate n (.int .i64 0)) 3)):=by
 obtain rfl | rfl | rfl | rfl | rfl | rfl | rfl | rfl | rfl:n=0∨n=1∨n=2∨n=3∨n=4∨n=5∨n=6∨n=7∨n=8:=by omega
 all_goals kernel_rfl
theorem AU (k:Int) (w:World):Calls Tryz.prog 110 #[.int .i64 k] w fun e w'=>e = .returned (.int .i64 (cJ k))∧Below w.heap.size w w':=by
 have hc:k=1∨k=4∨k=5∨k=6∨k=7∨k=8∨k=9∨(¬ k=1∧¬ (4≤k∧k≤9)):=by omega
 rcases hc with rfl | rfl | rfl | rfl | rfl | rfl | rfl | ⟨h1,h2⟩
 all_goals try (
  go_enter Tryz.func110,Tryz.ntmps110;go_wp2_with fail
  go_ret;exact ⟨rfl,Nk _ _⟩)
 have e:cJ k=1:=by unfold cJ; rw [if_neg h1,if_neg h2]
 rw [e];have b1:(k == 1)=false:=by rw [beq_eq_false_iff_ne]; exact h1
 have b4:(k == 4)=false:=by rw [beq_eq_false_iff_ne]; omega
 have b5:(k == 5)=false:=by rw [beq_eq_false_iff_ne]; omega
 have b6:(k == 6)=false:=by rw [beq_eq_false_iff_ne]; omega
 have b7:(k == 7)=false:=by rw [beq_eq_false_iff_ne]; omega
 have b8:(k == 8)=false:=by rw [beq_eq_false_iff_ne]; omega
 have b9:(k == 9)=false:=by rw [beq_eq_false_iff_ne]; omega
 clear h1 h2 e;go_enter Tryz.func110,Tryz.ntmps110;go_wp2_with fail
 go_ret;exact ⟨rfl,Nk _ _⟩
def Ms (B:Nat) (w':World) (e:Ending) (er:Int) (C:List Int):Prop:=∃ ca cc,e = .returned (.tuple #[.slice ca (if er=0 then C else []).length cc,.int .i64 er])∧bc B w' ca (if er=0 then C else [])
theorem wj (ts:List (List Int)) (n:Int) (B:Nat) (a:Option Addr) (cap:Nat) (w:World) (h:fy B w a ts) :
  Calls Tryz.prog 111 #[.slice a ts.length cap,.int .i64 n] w fun e w'=>Ms B w' e (if n<0∨ts.length≤n then 7 else 0) (ts.getD n.toNat [])∧Below w.heap.size w w':=by
 by_cases h0:n<0;rw [if_pos (.inl h0)];rotate_left;by_cases h1:(ts.length:Int)≤n;rw [if_pos (.inr h1)];rotate_left;rw [if_neg (by omega)];obtain ⟨j,rfl⟩:∃ j:Nat,n=j:=⟨n.toNat,by omega⟩
 have hj:j<ts.length:=by omega
 obtain ⟨b,off,ai,ci,rfl,hb,c0,hi⟩:=h.elem hj;have hj0:(0:Int)≤(j:Int):=by omega
 have hjl:(j:Int)<(ts.length:Int):=by omega
 have e:ts.getD (j:Int).toNat []=ts[j]:=by simp [hj]
 rw [e];clear e;go_enter Tryz.func111,Tryz.ntmps111;go_wp2_with fail
 exact Nl (v:=.tuple #[.slice ai ts[j].length ci,.int .i64 0]) (by simp [results,Tryz.results111,go_sem]) rfl ⟨⟨ai,ci,rfl,hi⟩,Nk _ _⟩
 all_goals
  go_enter Tryz.func111,Tryz.ntmps111;go_wp2_with fail
  exact Nl (v:=.tuple #[.slice none 0 0,.int .i64 7]) (by simp [results,Tryz.results111,go_sem]) rfl ⟨⟨none,0,rfl,⟨Nr _,.inl rfl⟩⟩,Nk _ _⟩
def eI (cols:List Int):Int:=if 8<cols.length then 5 else if ∃ c ∈ cols,c<1∨4<c then 1 else 0
def ie:List (List Int)→Int
 | []=>0
 | c :: r=>if eI c≠0 then eI c else ie r
def dC (ts:List (List Int)):Int:=if 8<ts.length then 5 else ie ts
theorem vM {ts:List (List Int)} {j:Nat} (h:j<ts.length) (he:¬ eI ts[j]=0):ie (ts.drop j)=eI ts[j]:=by
 rw [Nq h,ie,if_pos he]
theorem tP {ts:List (List Int)} {j:Nat} (h:j<ts.length) (he:eI ts[j]=0):ie (ts.drop j)=ie (ts.drop (j+1)):=by
 rw [Nq h,ie,if_neg (by simp [he])]
theorem td (ts:List (List Int)) (a:Option Addr) (cap:Nat) (w:World) (h:fy w.heap.size w a ts) :
  Calls Tryz.prog 63 #[.slice a ts.length cap] w fun e w'=>e = .returned (.int .i64 (dC ts))∧Below w.heap.size w w':=by
 generalize hr:dC ts=r;have HR:Hid (dC ts=r):=hr;clear hr;go_enter Tryz.func63,Tryz.ntmps63;by_cases h8:8<ts.length
 ·have h8z:8<(ts.length:Int):=by omega
  have e:r=5:=by rw [← HR.out]; unfold dC; rw [if_pos h8]
  subst e;go_wp2_with fail
  go_ret;exact ⟨rfl,Nk _ _⟩
 have h8z:¬ 8<(ts.length:Int):=by omega
 have HR':Hid (r=ie (ts.drop 0)):=by show _=_; rw [← HR.out]; unfold dC; rw [if_neg h8]; rfl
 clear HR;go_wp2_with fail
 go_loopw [12] (fun i wr=>∃ j:Nat,j≤ts.length∧i = .int .i64 j∧Hid (r=ie (ts.drop j))∧Below w.heap.size w wr) (fun i _=>ts.length - (intOf i).toNat)
 case atStart=>exact ⟨0,Nr _,rfl,HR',Nk _ _⟩
 case round =>
  obtain ⟨j,hj,rfl,HT,hb⟩:=hrel;by_cases hlt:j<ts.length
  ·obtain ⟨b,off,ai,ci,rfl,hbl,c0,hi⟩:=(h.next hb (Nj _)).elem hlt;have hjz:(j:Int)<(ts.length:Int):=by omega
   have HBad:Hid (¬ eI ts[j]=0→r=eI ts[j]):=fun c=>HT.out.trans (vM hlt c)
   have HOk:Hid (eI ts[j]=0→r=ie (ts.drop (j+1))):=fun c=>HT.out.trans (tP hlt c)
   clear HT;generalize ts[j]=cs at *;by_cases hc8:8<cs.length
   ·have hcz:8<(cs.length:Int):=by omega
    have e1:eI cs=5:=by unfold eI; rw [if_pos hc8]
    have e:r=5:=by rw [HBad.out (by rw [e1]; decide),e1]
    subst e;clear HBad HOk e1;go_wp2_with fail
    go_ret;exact ⟨rfl,hb⟩
   ·have hcz:¬ 8<(cs.length:Int):=by omega
    have HC:Hid (eI cs=if ∃ c ∈ cs,c<1∨4<c then 1 else 0):=by show _=_; unfold eI; rw [if_neg hc8]
    obtain ⟨wo,hwo⟩:∃ z,z=wr:=⟨_,rfl⟩
    subst hwo;go_upto_region 8 with fail
    clear c0;go_wp2_with fail
    go_loopw [21] (fun i wr=>∃ k:Nat,k≤cs.length∧i = .int .i64 k∧Hid (∀ c ∈ cs.take k,¬ (c<1∨4<c))∧Below wo.heap.size wo wr) (fun i _=>cs.length - (intOf i).toNat)
    case atStart=>exact ⟨0,Nr _,rfl,(fun c hc=>by simp at hc),Nk _ _⟩
    case round =>
     obtain ⟨k,hk,rfl,HK,hbk⟩:=hrel;have hbw:=hb.trans (hbk.mono hb.size);by_cases hkl:k<cs.length
     ·obtain ⟨b1,o1,rfl,hb1,c1⟩:=(hi.next hbk hb.size).elem hkl;have hkz:(k:Int)<(cs.length:Int):=by omega
      have HT1:Hid (cs.take (k+1)=cs.take k ++ [cs[k]]):=Nz hkl;have HM:Hid (cs[k] ∈ cs):=Ns hkl;generalize cs[k]=c at *;by_cases hbad:c<1∨4<c
      ·have e1:eI cs=1:=by rw [HC.out,if_pos ⟨c,HM.out,hbad⟩]
       have e:r=1:=by rw [HBad.out (by rw [e1]; decide),e1]
       subst e;clear HBad HOk e1 HC HK;have hb2:c<1∨(¬ c<1∧4<c):=by omega
       clear hbad;rcases hb2 with g1 | ⟨g1,g2⟩
       all_goals (
        go_wp2_with fail
        go_ret;exact ⟨rfl,hbw⟩)
      ·have g1:¬ c<1:=fun e=>hbad (.inl e)
       have g2:¬ 4<c:=fun e=>hbad (.inr e)
       have HK':Hid (∀ c ∈ cs.take (k+1),¬ (c<1∨4<c)):=by
        show ∀ c ∈ _,_
        rw [HT1.out];intro c' hc';rcases List.mem_append.1 hc' with hc' | hc'
        ·exact HK.out c' hc'
        ·rw [List.mem_singleton.1 hc']; exact hbad
       clear hbad HK;go_wp2_with fail
       go_roundw
       case rel=>exact ⟨k+1,by omega,by go_num,HK',hbk⟩
       case measure=>simp [intOf]; omega
     ·have e:k=cs.length:=by omega
      subst e;rw [NL] at HK;have e1:eI cs=0:=by rw [HC.out,if_neg fun ⟨c,hc,hh⟩=>HK.out c hc hh]
      have HT':Hid (r=ie (ts.drop (j+1))):=HOk.out e1;clear HBad HOk e1 HC HK;go_wp2_with fail
      go_roundw
      case rel=>exact ⟨j+1,by omega,by go_num,HT',hbw⟩
      case measure=>simp [intOf]; omega
  ·have e:j=ts.length:=by omega
   have e1:r=0:=by rw [HT.out,NI (by omega)]; rfl
   subst e1;have hjz:¬ (j:Int)<(ts.length:Int):=by omega
   clear HT;go_wp2_with fail
   go_ret;exact ⟨rfl,hb⟩
theorem vW (cols:List Int) {xs:List Ex} {j:Nat} (h:j<xs.length):dP cols (xs.take (j+1))=dP cols (xs.take j) ++ [(an cols xs[j]).1]:=by
 unfold dP;rw [Nz h,Om];rfl
theorem ic (cols:List Int) (xs:List Ex):(dP cols xs).length=xs.length:=by unfold dP; rw [Od]
theorem fr.nx {W w1:World} {g:Nat} {l:List Int} (h:fr W g l) (hb:Below W.heap.size W w1):fr w1 g l :=
 ⟨Nn h.lt hb.size,fun i hi=>(hb.cell (p:=⟨g,i,none⟩) h.lt).trans (h.c i hi),fun i=>(hb.frozen (p:=⟨g,i,none⟩) h.lt).trans (h.f i)⟩
theorem sg {W:World} {g n j:Nat} {ts:List Int} (h:fr W g (ts ++ List.replicate (n - j) 0)) (hl:ts.length=j) (hj:j<n):W.cell? ⟨g,j,none⟩=some (.int .i64 0)∧W.frozen? ⟨g,j,none⟩=false∧∀ u,fr (W.setCell ⟨g,j,none⟩ (.int .i64 u)) g ((ts ++ [u]) ++ List.replicate (n - (j+1)) 0):=by
 have hlen:j<(ts ++ List.replicate (n - j) 0).length:=by simp; omega
 refine ⟨?_,h.f j,fun u=>?_⟩
 ·rw [h.c j hlen]
  congr 2
  rw [Ob (by omega)];simp
 ·have:=h.set j hlen u;rw [Ck ts n j u hl hj] at this;exact this
theorem rA (cols:List Int) (xs:List Ex) (ca:Option Addr) (ccap:Nat) (xa:Option Addr) (xcap:Nat) (w:World) (hc:bc w.heap.size w ca cols) (hx:bd w.heap.size w xa xs) (h8:xs.length≤8) :
  Calls Tryz.prog 141 #[.slice ca cols.length ccap,.slice xa xs.length xcap] w fun e w'=>e = .returned (.slice (some ⟨w.heap.size,0,none⟩) xs.length xs.length)∧fr w' w.heap.size (dP cols xs)∧Below w.heap.size w w':=by
 have hmk:=wJ h8;have O0:=fr.new w xs.length 3;have hal0:=aa w (.cells (Array.replicate xs.length (.int .i64 0)) 3);go_enter Tryz.func141,Tryz.ntmps141;go_wp2_with fail
 generalize w.alloc (.cells (Array.replicate xs.length (.int .i64 0)) 3)=w1 at *;clear hmk;go_loopw [13] (fun i wr=>∃ j:Nat,j≤xs.length∧i = .int .i64 j∧fr wr w.heap.size (dP cols (xs.take j) ++ List.replicate (xs.length - j) 0)∧Below w.heap.size w wr) (fun i _=>xs.length - (intOf i).toNat)
 case atStart=>exact ⟨0,Nr _,rfl,by simpa [dP] using O0,hal0⟩
 case round =>
  obtain ⟨j,hj,rfl,hO,hb⟩:=hrel;have hz:=hb.size;by_cases hlt:j<xs.length
  ·obtain ⟨b,off,ai,ci,rfl,hbl,sx,kx⟩:=(bd.next hb (Nj _) hx).elem hlt;obtain ⟨x0,x1,x2,x3,x4,x5⟩:=sx;have hjz:(j:Int)<(xs.length:Int):=by omega
   have hal:=aa wr (.cells #[.int .i64 xs[j].k,.int .i64 xs[j].v.1,.int .i64 xs[j].v.2.1,.string xs[j].v.2.2,.int .i64 xs[j].c,.slice ai xs[j].ks.length ci] 27);have hA:=chain hb hal;have con:=rf cols xs[j] ca ccap ai ci _ ((bd.next hal hz kx).up (Nw hz hal.size)) ((hc.next hA (Nj _)).up hA.size);have HT:Hid (dP cols (xs.take (j+1))=dP cols (xs.take j) ++ [(an cols xs[j]).1]):=vW cols hlt;have hlen:(dP cols (xs.take j)).length=j:=by rw [ic,NN]; omega
   unfold lC at con;go_wp2_with fail
   refine con.mono ?_;rintro e w5 ⟨rfl,hb5⟩;clear con x0 x1 x2 x3 x4 x5 kx;have hb5':=chain hal hb5;obtain ⟨cc,ff,hset⟩:=sg (hO.nx hb5') hlen hlt;have hA5:=chain hb hb5';have O6:=hset (an cols xs[j]).1;have hA6:=hA5.setCell (p:=⟨w.heap.size,j,none⟩) (Nj _) (.int .i64 (an cols xs[j]).1);rw [← HT.out] at O6;clear hset hO hlen;dsimp only;go_wp2
   go_roundw
   case rel=>exact ⟨j+1,by omega,by go_num,O6,hA6⟩
   case measure=>simp [intOf]; omega
  ·have e:j=xs.length:=by omega
   subst e;rw [NL,Nat.sub_self,List.replicate_zero,OG] at hO;go_wp2
   go_ret;exact ⟨rfl,hO,hb⟩
def cQ (cols:List Int) (gs:List Ag):List Int:=gs.map (oo cols)
theorem rX (cols:List Int) {gs:List Ag} {j:Nat} (h:j<gs.length):cQ cols (gs.take (j+1))=cQ cols (gs.take j) ++ [oo cols gs[j]]:=by
 unfold cQ;rw [Nz h,Om];rfl
theorem pK (cols:List Int) (gs:List Ag):(cQ cols gs).length=gs.length:=by unfold cQ; rw [Od]
theorem xv (cols:List Int) (gs:List Ag) (ca:Option Addr) (ccap:Nat) (xa:Option Addr) (xcap:Nat) (w:World) (hc:bc w.heap.size w ca cols) (hx:jD w.heap.size w xa gs) (h8:gs.length≤8) :
  Calls Tryz.prog 143 #[.slice ca cols.length ccap,.slice xa gs.length xcap] w fun e w'=>e = .returned (.slice (some ⟨w.heap.size,0,none⟩) gs.length gs.length)∧fr w' w.heap.size (cQ cols gs)∧Below w.heap.size w w':=by
 have hmk:=wJ h8;have O0:=fr.new w gs.length 3;have hal0:=aa w (.cells (Array.replicate gs.length (.int .i64 0)) 3);go_enter Tryz.func143,Tryz.ntmps143;go_wp2_with fail
 generalize w.alloc (.cells (Array.replicate gs.length (.int .i64 0)) 3)=w1 at *;clear hmk;go_loopw [13] (fun i wr=>∃ j:Nat,j≤gs.length∧i = .int .i64 j∧fr wr w.heap.size (cQ cols (gs.take j) ++ List.replicate (gs.length - j) 0)∧Below w.heap.size w wr) (fun i _=>gs.length - (intOf i).toNat)
 case atStart=>exact ⟨0,Nr _,rfl,by simpa [cQ] using O0,hal0⟩
 case round =>
  obtain ⟨j,hj,rfl,hO,hb⟩:=hrel;have hz:=hb.size;by_cases hlt:j<gs.length
  ·obtain ⟨b,off,ai,ci,rfl,hbl,x0,sx,kx⟩:=(jD.next hb (Nj _) hx).elem hlt;obtain ⟨x1,x2,x3,x4,x5,x6⟩:=sx;have hjz:(j:Int)<(gs.length:Int):=by omega
   have hal:=aa wr (.cells #[.int .i64 gs[j].1,.int .i64 gs[j].2.k,.int .i64 gs[j].2.v.1,.int .i64 gs[j].2.v.2.1,.string gs[j].2.v.2.2,.int .i64 gs[j].2.c,.slice ai gs[j].2.ks.length ci] 133);have q0:=aw wr #[.int .i64 gs[j].1,.int .i64 gs[j].2.k,.int .i64 gs[j].2.v.1,.int .i64 gs[j].2.v.2.1,.string gs[j].2.v.2.2,.int .i64 gs[j].2.c,.slice ai gs[j].2.ks.length ci] 133;have HT:Hid (cQ cols (gs.take (j+1))=cQ cols (gs.take j) ++ [oo cols gs[j]]):=rX cols hlt
   have hlen:(cQ cols (gs.take j)).length=j:=by rw [pK,NN]; omega
   have zn:w.heap.size≠wr.heap.size:=Nat.ne_of_lt hO.lt;obtain ⟨cc,ff,hset⟩:=sg (hO.nx hal) hlen hlt;have O1:=hset 3;have hS:Below w.heap.size wr ((wr.alloc (.cells #[.int .i64 gs[j].1,.int .i64 gs[j].2.k,.int .i64 gs[j].2.v.1,.int .i64 gs[j].2.v.2.1,.string gs[j].2.v.2.2,.int .i64 gs[j].2.c,.slice ai gs[j].2.ks.length ci] 133)).setCell ⟨w.heap.size,j,none⟩ (.int .i64 3)):=(hal.mono hz).setCell (p:=⟨w.heap.size,j,none⟩) (Nj _) _;have kk:=bd.next hS (Nj _) kx;clear hset hO kx;go_upto_region 6 with fail
   clear x0 x1 x2 x3 x4 x5 x6 cc ff;have p0:((wr.alloc (.cells #[.int .i64 gs[j].1,.int .i64 gs[j].2.k,.int .i64 gs[j].2.v.1,.int .i64 gs[j].2.v.2.1,.string gs[j].2.v.2.2,.int .i64 gs[j].2.c,.slice ai gs[j].2.ks.length ci] 133)).setCell ⟨w.heap.size,j,none⟩ (.int .i64 3)).cell? ⟨wr.heap.size,0,none⟩=some (.int .i64 gs[j].1):=(dw zn).trans (cell_of (i:=0) q0 rfl)
   have p1:((wr.alloc (.cells #[.int .i64 gs[j].1,.int .i64 gs[j].2.k,.int .i64 gs[j].2.v.1,.int .i64 gs[j].2.v.2.1,.string gs[j].2.v.2.2,.int .i64 gs[j].2.c,.slice ai gs[j].2.ks.length ci] 133)).setCell ⟨w.heap.size,j,none⟩ (.int .i64 3)).cell? ⟨wr.heap.size,1,none⟩=some (.int .i64 gs[j].2.k):=(dw zn).trans (cell_of (i:=1) q0 rfl)
   have p2:((wr.alloc (.cells #[.int .i64 gs[j].1,.int .i64 gs[j].2.k,.int .i64 gs[j].2.v.1,.int .i64 gs[j].2.v.2.1,.string gs[j].2.v.2.2,.int .i64 gs[j].2.c,.slice ai gs[j].2.ks.length ci] 133)).setCell ⟨w.heap.size,j,none⟩ (.int .i64 3)).cell? ⟨wr.heap.size,2,none⟩=some (.int .i64 gs[j].2.v.1):=(dw zn).trans (cell_of (i:=2) q0 rfl)
   have p3:((wr.alloc (.cells #[.int .i64 gs[j].1,.int .i64 gs[j].2.k,.int .i64 gs[j].2.v.1,.int .i64 gs[j].2.v.2.1,.string gs[j].2.v.2.2,.int .i64 gs[j].2.c,.slice ai gs[j].2.ks.length ci] 133)).setCell ⟨w.heap.size,j,none⟩ (.int .i64 3)).cell? ⟨wr.heap.size,3,none⟩=some (.int .i64 gs[j].2.v.2.1):=(dw zn).trans (cell_of (i:=3) q0 rfl)
   have p4:((wr.alloc (.cells #[.int .i64 gs[j].1,.int .i64 gs[j].2.k,.int .i64 gs[j].2.v.1,.int .i64 gs[j].2.v.2.1,.string gs[j].2.v.2.2,.int .i64 gs[j].2.c,.slice ai gs[j].2.ks.length ci] 133)).setCell ⟨w.heap.size,j,none⟩ (.int .i64 3)).cell? ⟨wr.heap.size,4,none⟩=some (.string gs[j].2.v.2.2):=(dw zn).trans (cell_of (i:=4) q0 rfl)
   have p5:((wr.alloc (.cells #[.int .i64 gs[j].1,.int .i64 gs[j].2.k,.int .i64 gs[j].2.v.1,.int .i64 gs[j].2.v.2.1,.string gs[j].2.v.2.2,.int .i64 gs[j].2.c,.slice ai gs[j].2.ks.length ci] 133)).setCell ⟨w.heap.size,j,none⟩ (.int .i64 3)).cell? ⟨wr.heap.size,5,none⟩=some (.int .i64 gs[j].2.c):=(dw zn).trans (cell_of (i:=5) q0 rfl)
   have p6:((wr.alloc (.cells #[.int .i64 gs[j].1,.int .i64 gs[j].2.k,.int .i64 gs[j].2.v.1,.int .i64 gs[j].2.v.2.1,.string gs[j].2.v.2.2,.int .i64 gs[j].2.c,.slice ai gs[j].2.ks.length ci] 133)).setCell ⟨w.heap.size,j,none⟩ (.int .i64 3)).cell? ⟨wr.heap.size,6,none⟩=some (.slice ai gs[j].2.ks.length ci):=(dw zn).trans (cell_of (i:=6) q0 rfl);generalize (wr.alloc (.cells #[.int .i64 gs[j].1,.int .i64 gs[j].2.k,.int .i64 gs[j].2.v.1,.int .i64 gs[j].2.v.2.1,.string gs[j].2.v.2.2,.int .i64 gs[j].2.c,.slice ai gs[j].2.ks.length ci] 133)).setCell ⟨w.heap.size,j,none⟩ (.int .i64 3)=wk at *
   clear q0 hal;have hA:=hb.trans hS;have hzk:=hS.size;by_cases hk:gs[j].1=4∨gs[j].1=5
   ·have HT':Hid (cQ cols (gs.take (j+1))=cQ cols (gs.take j) ++ [(an cols gs[j].2).1]):=by show _=_; rw [HT.out]; unfold oo; rw [if_pos hk]
    have con:=rf cols gs[j].2 ca ccap ai ci wk (kk.up hA.size) ((hc.next hA (Nj _)).up hA.size);generalize (an cols gs[j].2).1=ty at *;unfold lC at con;generalize gs[j].1=kd at *;clear HT;have hk2:kd=4∨(¬ kd=4∧kd=5):=by omega
    clear hk;rcases hk2 with rfl | ⟨hk4,rfl⟩
    all_goals (
     go_wp2_with fail
     refine con.mono ?_;rintro e w5 ⟨rfl,hb5⟩;clear con p0 p1 p2 p3 p4 p5 p6 kk;have O5:=O1.nx hb5;have hlen2:j<((cQ cols (gs.take j) ++ [3]) ++ List.replicate (gs.length - (j+1)) 0).length:=by first | (simp [hlen]; done) | (simp [hlen]; omega)
     have cc:w5.cell? ⟨w.heap.size,j,none⟩=some (.int .i64 3):=by
      rw [O5.c j hlen2]
      congr 2
      rw [Ny (by simp [hlen])];rw [Ob (by omega)];simp [hlen]
     have ff:=O5.f j;have O6:=O5.set j hlen2 ty;have es:((cQ cols (gs.take j) ++ [3]) ++ List.replicate (gs.length - (j+1)) 0).set j ty=cQ cols (gs.take (j+1)) ++ List.replicate (gs.length - (j+1)) 0:=by
      rw [HT'.out,List.set_append_left _ _ (by simp [hlen]),List.set_append_right _ _ (by omega)];simp [hlen]
     rw [es] at O6;have hA6:=(chain hA hb5).setCell (p:=⟨w.heap.size,j,none⟩) (Nj _) (.int .i64 ty);clear O5 es hlen2 O1 hlen;dsimp only;go_wp2_with fail
     go_roundw
     case rel=>exact ⟨j+1,by omega,by go_num,O6,hA6⟩
     case measure=>simp [intOf]; omega)
   ·have HT':Hid (cQ cols (gs.take (j+1))=cQ cols (gs.take j) ++ [3]):=by show _=_; rw [HT.out]; unfold oo; rw [if_neg hk]
    have k4:(gs[j].1 == 4)=false:=by rw [beq_eq_false_iff_ne]; exact fun e=>hk (.inl e)
    have k5:(gs[j].1 == 5)=false:=by rw [beq_eq_false_iff_ne]; exact fun e=>hk (.inr e)
    rw [← HT'.out] at O1;clear hk HT hlen;go_wp2_with fail
    go_roundw
    case rel=>exact ⟨j+1,by omega,by go_num,O1,hA⟩
    case measure=>simp [intOf]; omega
  ·have e:j=gs.length:=by omega
   subst e;rw [NL,Nat.sub_self,List.replicate_zero,OG] at hO;go_wp2_with fail
   go_ret;exact ⟨rfl,hO,hb⟩
theorem vD {l r:List Int} {j:Nat} (h:j<l.length) (h':j<r.length) (he:¬ (bI l[j] r[j]).2=0):fw (l.drop j) (r.drop j)=(bI l[j] r[j]).2:=by
 rw [Nq h,Nq h',fw,if_pos he]
theorem mU {l r:List Int} {j:Nat} (h:j<l.length) (h':j<r.length) (he:(bI l[j] r[j]).2=0):fw (l.drop j) (r.drop j)=fw (l.drop (j+1)) (r.drop (j+1)):=by
 rw [Nq h,Nq h',fw,if_neg (by simp [he])]
theorem uZ {l r:List Int} {j:Nat} (h:l.length≤j):fw (l.drop j) (r.drop j)=0:=by
 rw [NI h,fw];intro a l b r h; cases h
theorem kF:∀ {l r:List Int} {j:Nat} (h:j<l.length) (h':j<r.length),bC (l.take (j+1)) (r.take (j+1))=bC (l.take j) (r.take j) ++ [(bI l[j] r[j]).1]
 | a :: l,b :: r,0,_,_=>by simp [bC]
 | a :: l,b :: r,j+1,h,h'=>by
  have:=kF (l:=l) (r:=r) (j:=j) (by simpa using h) (by simpa using h')
  simp only [OX,bC,Ot,OD] at this ⊢
  rw [this]
theorem eK:∀ {l r:List Int},l.length=r.length→(bC l r).length=l.length
 | [],[],_=>rfl
 | a :: l,b :: r,h=>by rw [bC,N4,eK (by simpa using h),N4]
theorem wG (l r:List Int) (la:Option Addr) (lc:Nat) (ra:Option Addr) (rc:Nat) (w:World) (hl:bc w.heap.size w la l) (hr:bc w.heap.size w ra r) (h8:l.length≤8) :
  Calls Tryz.prog 144 #[.slice la l.length lc,.slice ra r.length rc] w fun e w'=>∃ v,e = .returned (.tuple #[v,.int .i64 (hY l r)])∧(hY l r=0→v = .slice (some ⟨w.heap.size,0,none⟩) l.length l.length∧fr w' w.heap.size (bC l r))∧(¬ hY l r=0→v = .slice none 0 0)∧Below w.heap.size w w':=by
 have hmk:=wJ h8;have O0:=fr.new w l.length 3;have hal0:=aa w (.cells (Array.replicate l.length (.int .i64 0)) 3);generalize he:hY l r=er;have HE:Hid (hY l r=er):=he;clear he;go_enter Tryz.func144,Tryz.ntmps144;by_cases hlr:l.length=r.length;rotate_left
 ·have hne:((l.length:Int) != (r.length:Int))=true:=by simp; omega
  have e:er=8:=by rw [← HE.out]; unfold hY; rw [if_pos hlr]
  subst e;clear hmk O0 hal0 HE;go_wp2_with fail
  exact Nl (v:=.tuple #[.slice none 0 0,.int .i64 8]) (by simp [results,Tryz.results144,go_sem]) rfl ⟨_,rfl,fun c=>by omega,fun _=>rfl,Nk _ _⟩
 have hne:((l.length:Int) != (r.length:Int))=false:=by simp; omega
 have HE':Hid (er=fw (l.drop 0) (r.drop 0)):=by show _=_; rw [← HE.out]; unfold hY; rw [if_neg (by simpa using hlr)]; rfl
 have HL:Hid (l.length=r.length):=hlr;have hl1:l.length≤r.length:=by omega
 have hl2:r.length≤l.length:=by omega
 clear HE hlr;go_wp2_with fail
 generalize w.alloc (.cells (Array.replicate l.length (.int .i64 0)) 3)=w1 at *;clear hmk hne;go_loopw [20] (fun i wr=>∃ j:Nat,j≤l.length∧i = .int .i64 j∧Hid (er=fw (l.drop j) (r.drop j))∧fr wr w.heap.size (bC (l.take j) (r.take j) ++ List.replicate (l.length - j) 0)∧Below w.heap.size w wr) (fun i _=>l.length - (intOf i).toNat)
 case atStart=>exact ⟨0,Nr _,rfl,HE',by simpa [bC] using O0,hal0⟩
 case round =>
  obtain ⟨j,hj,rfl,HT,hO,hb⟩:=hrel;by_cases hlt:j<l.length
  ·have hlr:j<r.length:=by omega
   obtain ⟨b1,o1,rfl,hb1,c1⟩:=(hl.next hb (Nj _)).elem hlt;obtain ⟨b2,o2,rfl,hb2,c2⟩:=(hr.next hb (Nj _)).elem hlr;have hjz:(j:Int)<(l.length:Int):=by omega
   have hjr:(j:Int)<(r.length:Int):=by omega
   have hj0:(0:Int)≤(j:Int):=by omega
   have HBad:Hid (¬ (bI l[j] r[j]).2=0→er=(bI l[j] r[j]).2):=fun c=>HT.out.trans (vD hlt hlr c)
   have HOk:Hid ((bI l[j] r[j]).2=0→er=fw (l.drop (j+1)) (r.drop (j+1))):=fun c=>HT.out.trans (mU hlt hlr c)
   have HTl:Hid (bC (l.take (j+1)) (r.take (j+1))=bC (l.take j) (r.take j) ++ [(bI l[j] r[j]).1]):=kF hlt hlr;have hlen:(bC (l.take j) (r.take j)).length=j:=by rw [eK (by rw [NN,NN]; omega),NN]; omega
   clear HT;have con:=cA l[j] r[j];generalize bI l[j] r[j]=tg at *;generalize l[j]=lj at *;generalize r[j]=rj at *;have p1:=ag c1;have p2:=ag c2;haveI:Nonempty (bW wr):=⟨⟨_,Nk _ _⟩⟩
   go_wp2_with fail
   refine aq (by kernel_rfl) (by kernel_rfl) ?_
   repeat (go_big_quiet_step (first | (go_at_call 173; exact bE (con _))))
   refine wpQuiet_nil ?_;rintro w5 ⟨⟨v5,hb5⟩,h5⟩;obtain rfl:w5=v5:=h5;clear p1 p2 this c1 c2 con;by_cases h0:tg.2=0
   ·have HT':Hid (er=fw (l.drop (j+1)) (r.drop (j+1))):=HOk.out h0;have h0b:(tg.2 != 0)=false:=by simp [h0]
    obtain ⟨cc,ff,hset⟩:=sg (hO.nx hb5) hlen hlt;have O6:=hset tg.1;have hA6:=(chain hb hb5).setCell (p:=⟨w.heap.size,j,none⟩) (Nj _) (.int .i64 tg.1);rw [← HTl.out] at O6;clear HBad HOk h0 hset hO hlen HTl;go_wp2_with fail
    go_roundw
    case rel=>exact ⟨j+1,by omega,by go_num,HT',O6,hA6⟩
    case measure=>simp [intOf]; omega
   ·have e:er=tg.2:=HBad.out h0;have h0b:(tg.2 != 0)=true:=by simpa using h0
    clear HBad HOk HTl hO hlen;go_wp2_with fail
    exact Nl (v:=.tuple #[.slice none 0 0,.int .i64 tg.2]) (by simp [results,Tryz.results144,go_sem]) rfl ⟨_,by rw [e],fun c=>absurd (e ▸ c) h0,fun _=>rfl,chain hb hb5⟩
  ·have e:j=l.length:=by omega
   have er0:er=0:=by rw [HT.out,uZ (by omega)]
   subst e;rw [NL,Nat.sub_self,List.replicate_zero,OG,HL.out,NL] at hO;subst er0;clear HT;go_wp2_with fail
   first
    | exact Nl (v:=.tuple #[.slice (some ⟨w.heap.size,0,none⟩) l.length l.length,.int .i64 0]) (by simp [results,Tryz.results144,go_sem]) rfl ⟨_,rfl,⟨rfl,hO⟩,hb⟩
    | exact Nl (v:=.tuple #[.slice (some ⟨w.heap.size,0,none⟩) l.length l.length,.int .i64 0]) (by simp [results,Tryz.results144,go_sem]) rfl ⟨_,rfl,fun _=>⟨rfl,hO⟩,fun c=>absurd rfl c,hb⟩
def D0 (lo:Nat) (u:Value) (T:List Wp→Vl) (w:World):Prop :=
 ∃ g cb,u = .func (.func g) #[] cb∧(∀ args w,(callFunc g args).run Tryz.prog w = .ok (.enter g args) w) ∧
  ∀ (l:List Wp) (a:Option Addr) (cap:Nat) (W:World),Iw l→0<l.length→jh W a l→ax lo w W →
   Calls Tryz.prog g (#[.slice a l.length cap] ++ cb) W fun e w'=>e = .returned (fW (T l))∧Below W.heap.size W w'
theorem D0.next {lo:Nat} {u:Value} {T:List Wp→Vl} {w w1:World} (h:D0 lo u T w) (hb:ax lo w w1):D0 lo u T w1:=by
 obtain ⟨g,cb,e,eg,hd⟩:=h;exact ⟨g,cb,e,eg,fun l a cap W hk h0 hs hW=>hd l a cap W hk h0 hs (hb.trans hW)⟩
def j5 (T:List Wp→Vl) (l:List Wp):Vl:=if l.length=0 then (1,0,⟨#[]⟩) else T l
theorem Av (lo:Nat) (ut:Value) (T:List Wp→Vl) (tb:Nat) (a:Option Addr) (cap:Nat) (l:List Wp) (W:World) (c0:W.cell? ⟨tb,0,none⟩=some ut) (hT:D0 lo ut T W) (hk:Iw l) (h:jh W a l) :
  Calls Tryz.prog 212 #[.slice a l.length cap,.pointer (some ⟨tb,0,none⟩)] W fun e w'=>e = .returned (fW (j5 T l))∧Below W.heap.size W w':=by
 have hal:=aa W (.cells #[.int .i64 0,.int .i64 0,.string ⟨#[]⟩] 24);have q0:=aw W #[.int .i64 0,.int .i64 0,.string ⟨#[]⟩] 24
 have ends:∀ w2:World,Below (W.alloc (.cells #[.int .i64 0,.int .i64 0,.string ⟨#[]⟩] 24)).heap.size (W.alloc (.cells #[.int .i64 0,.int .i64 0,.string ⟨#[]⟩] 24)) w2→(w2.cell? ⟨W.heap.size,0,none⟩=some (.int .i64 0)∧w2.cell? ⟨W.heap.size,1,none⟩=some (.int .i64 0)∧w2.cell? ⟨W.heap.size,2,none⟩=some (.string ⟨#[]⟩))∧w2.frozen? ⟨W.heap.size,0,none⟩=false∧w2.frozen? ⟨W.heap.size,1,none⟩=false∧w2.frozen? ⟨W.heap.size,2,none⟩=false:=fun w2 hb2=>by
  have q2:=(hb2.block _ (ae q0)).trans q0;exact ⟨⟨cell_of (i:=0) q2 rfl,cell_of (i:=1) q2 rfl,cell_of (i:=2) q2 rfl⟩,No w2 W.heap.size 0 _ _ q2,No w2 W.heap.size 1 _ _ q2,No w2 W.heap.size 2 _ _ q2⟩
 have HEn:Hid _:=ends;have d:=(hal.cell (p:=⟨tb,0,none⟩) (Nt _ _ c0)).trans c0;clear ends;by_cases h0:l.length=0
 ·have e:j5 T l=(1,0,⟨#[]⟩):=by unfold j5; rw [if_pos h0]
  rw [e,h0];unfold fW;clear e d hT;go_enter Tryz.func212,Tryz.ntmps212;go_wp2_with fail
  generalize W.alloc (.cells #[.int .i64 0,.int .i64 0,.string ⟨#[]⟩] 24)=w0 at *;refine (dZ w0).mono ?_;rintro e w2 ⟨rfl,hb2⟩;obtain ⟨⟨d0,d1,d2⟩,f0,f1,f2⟩:=HEn.out w2 hb2;have hA2:=chain hal hb2;dsimp only;go_wp2
  exact Nl (v:=.agg #[.int .i64 1,.int .i64 0,.string ⟨#[]⟩]) (by simp [results,Tryz.results212,go_sem,d0,d1,d2]) rfl ⟨rfl,((hA2.setCell (p:=⟨W.heap.size,0,none⟩) (Nj _) _).setCell (p:=⟨W.heap.size,1,none⟩) (Nj _) _).setCell (p:=⟨W.heap.size,2,none⟩) (Nj _) _⟩
 ·have e:j5 T l=T l:=by unfold j5; rw [if_neg h0]
  rw [e];obtain ⟨gt,ct,rfl,egt,dt⟩:=hT;have con:=dt l a cap _ hk (by omega) (h.next hal) (ax.of hal);have hn:¬ (l.length:Int)=0:=by omega
  have hnb:((l.length:Int) == 0)=false:=by rw [beq_eq_false_iff_ne]; exact hn
  generalize T l=res at *;unfold fW at con ⊢;clear e dt h0;go_enter Tryz.func212,Tryz.ntmps212;go_wp2_with fail
  generalize W.alloc (.cells #[.int .i64 0,.int .i64 0,.string ⟨#[]⟩] 24)=w0 at *;go_wp2_with (go_at_fn gt; refine con.mono ?_; rintro e w2 ⟨rfl,hb2⟩; obtain ⟨⟨d0,d1,d2⟩,f0,f1,f2⟩:=HEn.out w2 hb2; have hA2:=chain hal hb2)
  exact Nl (v:=.agg #[.int .i64 res.1,.int .i64 res.2.1,.string res.2.2]) (by simp [results,Tryz.results212,go_sem,d0,d1,d2]) rfl ⟨rfl,((hA2.setCell (p:=⟨W.heap.size,0,none⟩) (Nj _) _).setCell (p:=⟨W.heap.size,1,none⟩) (Nj _) _).setCell (p:=⟨W.heap.size,2,none⟩) (Nj _) _⟩
theorem pH (u:Value) (T:List Wp→Vl) (w:World) (hT:D0 w.heap.size u T w) :
  Calls Tryz.prog 187 #[u] w fun e w'=>∃ v,e = .returned v∧qK w.heap.size v (j5 T) w'∧Below w.heap.size w w':=by
 have hT':=hT;obtain ⟨gt,ct,rfl,_,_⟩:=hT';have hal:=aa w (.cells #[.func (.func gt) #[] ct] 187);have q0:=aw w #[.func (.func gt) #[] ct] 187;have fin:qK w.heap.size (.func (.func 212) #[] #[.pointer (some ⟨w.heap.size,0,none⟩)]) (j5 T) (w.alloc (.cells #[.func (.func gt) #[] ct] 187)) :=
  ⟨212,_,rfl,enters_of Tryz.func212 (by kernel_rfl) rfl,fun l a cap W hk hs hW=>Av w.heap.size _ T w.heap.size a cap l W ((hW.cell (p:=⟨w.heap.size,0,none⟩) (Nj _) (ae q0)).trans (cell_of (i:=0) q0 rfl)) ((hT.next (ax.of hal)).next hW) hk hs⟩
 have HF:Hid _:=fin;clear fin hT;go_enter Tryz.func187,Tryz.ntmps187;go_wp2
 go_ret;exact ⟨_,rfl,HF.out,hal⟩
def qd (g:Nat) (T:List Wp→Vl):Prop:=∀ (l:List Wp) (a:Option Addr) (cap:Nat) (W:World),Iw l→0<l.length→jh W a l→Calls Tryz.prog g #[.slice a l.length cap] W fun e w'=>e = .returned (fW (T l))∧Below W.heap.size W w'
theorem qd.fn {g:Nat} {T:List Wp→Vl} (h:qd g T) (eg:∀ args w,(callFunc g args).run Tryz.prog w = .ok (.enter g args) w) (lo:Nat) (w:World):D0 lo (.func (.func g) #[] #[]) T w :=
 ⟨g,#[],rfl,eg,fun l a cap W hk h0 hs _=>by simpa using h l a cap W hk h0 hs⟩
theorem C3 (h:qd 188 (fx 3)):fi 3:=by
 intro w;have eT:j5 (fx 3)=fx 3:=by
  funext l
  unfold j5
  split
  ·rename_i h0
   have:l = []:=Nu h0;subst this;simp [fx,Jm]
  ·rfl
 have con:=pH (.func (.func 188) #[] #[]) (fx 3) w (h.fn (enters_of Tryz.func188 (by kernel_rfl) rfl) _ _);rw [eT] at con;go_enter Tryz.func153,Tryz.ntmps153;go_wp2_with fail
 refine con.mono ?_;rintro e w1 ⟨v,rfl,hv,hb⟩;clear con;obtain ⟨g,cb,rfl⟩:∃ g cb,v = .func (.func g) #[] cb:=by obtain ⟨g,cb,e,_⟩:=hv; exact ⟨g,cb,e⟩
 dsimp only;go_wp2
 go_ret;exact ⟨_,rfl,hv,hb⟩
theorem Dg (h:qd 189 (fx 4)):fi 4:=by
 intro w;have eT:j5 (fx 4)=fx 4:=by
  funext l
  unfold j5
  split
  ·rename_i h0
   have:l = []:=Nu h0;subst this;simp [fx,Ef]
  ·rfl
 have con:=pH (.func (.func 189) #[] #[]) (fx 4) w (h.fn (enters_of Tryz.func189 (by kernel_rfl) rfl) _ _);rw [eT] at con;go_enter Tryz.func153,Tryz.ntmps153;go_wp2_with fail
 refine con.mono ?_;rintro e w1 ⟨v,rfl,hv,hb⟩;clear con;obtain ⟨g,cb,rfl⟩:∃ g cb,v = .func (.func g) #[] cb:=by obtain ⟨g,cb,e,_⟩:=hv; exact ⟨g,cb,e⟩
 dsimp only;go_wp2
 go_ret;exact ⟨_,rfl,hv,hb⟩
theorem EN (h:qd 190 (fx 5)):fi 5:=by
 intro w;have eT:j5 (fx 5)=fx 5:=by
  funext l
  unfold j5
  split
  ·rename_i h0
   have:l = []:=Nu h0;subst this;simp [fx,EX]
  ·rfl
 have con:=pH (.func (.func 190) #[] #[]) (fx 5) w (h.fn (enters_of Tryz.func190 (by kernel_rfl) rfl) _ _);rw [eT] at con;go_enter Tryz.func153,Tryz.ntmps153;go_wp2_with fail
 refine con.mono ?_;rintro e w1 ⟨v,rfl,hv,hb⟩;clear con;obtain ⟨g,cb,rfl⟩:∃ g cb,v = .func (.func g) #[] cb:=by obtain ⟨g,cb,e,_⟩:=hv; exact ⟨g,cb,e⟩
 dsimp only;go_wp2
 go_ret;exact ⟨_,rfl,hv,hb⟩
theorem rD (x y:Wp) (w:World):Calls Tryz.prog 215 #[.agg #[.int .i64 x.1.1,.int .i64 x.1.2.1,.string x.1.2.2,.int .i64 x.2],.agg #[.int .i64 y.1.1,.int .i64 y.1.2.1,.string y.1.2.2,.int .i64 y.2]] w fun e w'=>e = .returned (.int .i64 (dW x.1.1 x.1.2.1 x.1.2.2 y.1.1 y.1.2.1 y.1.2.2))∧Below w.heap.size w w':=by
 go_enter Tryz.func215,Tryz.ntmps215;go_wp2_with fail
 refine (l9 _ _ _ _ _ _ _).mono ?_;rintro e w1 ⟨rfl,hb1⟩;dsimp only;go_wp2
 go_ret;exact ⟨rfl,chain (((Nk _ _).alloc (Nj _) _).alloc (by simp) _) hb1⟩
theorem Cz (a b c d:Value) (w:World):(Instr.field 221 (.agg #[a,b,c,d]) 0).run Tryz.prog w = .ok (.agg #[a,b,c]) w:=by kernel_rfl
structure fM (W:World) (b:Nat) (p:Wp):Prop where
 c0:W.cell? ⟨b,0,none⟩=some (.int .i64 p.1.1)
 c1:W.cell? ⟨b,1,none⟩=some (.int .i64 p.1.2.1)
 c2:W.cell? ⟨b,2,none⟩=some (.string p.1.2.2)
 c3:W.cell? ⟨b,3,none⟩=some (.int .i64 p.2)
 f:∀ i,W.frozen? ⟨b,i,none⟩=false
 lt:b<W.heap.size
theorem fM.next {W w1:World} {b:Nat} {p:Wp} (h:fM W b p) (hb:Below W.heap.size W w1):fM w1 b p :=
 ⟨(hb.cell (p:=⟨b,0,none⟩) h.lt).trans h.c0,(hb.cell (p:=⟨b,1,none⟩) h.lt).trans h.c1,(hb.cell (p:=⟨b,2,none⟩) h.lt).trans h.c2,(hb.cell (p:=⟨b,3,none⟩) h.lt).trans h.c3,fun i=>(hb.frozen (p:=⟨b,i,none⟩) h.lt).trans (h.f i),Nn h.lt hb.size⟩
theorem fM.new (W:World) (p:Wp) (T:TypeId):fM (W.alloc (.cells #[.int .i64 p.1.1,.int .i64 p.1.2.1,.string p.1.2.2,.int .i64 p.2] T)) W.heap.size p:=by
 have q:=aw W #[.int .i64 p.1.1,.int .i64 p.1.2.1,.string p.1.2.2,.int .i64 p.2] T;exact ⟨cell_of (i:=0) q rfl,cell_of (i:=1) q rfl,cell_of (i:=2) q rfl,cell_of (i:=3) q rfl,fun i=>No _ W.heap.size i _ _ q,ae q⟩
theorem fM.put {W:World} {b:Nat} {p:Wp} (h:fM W b p) (u:Wp):fM ((((W.setCell ⟨b,0,none⟩ (.int .i64 u.1.1)).setCell ⟨b,1,none⟩ (.int .i64 u.1.2.1)).setCell ⟨b,2,none⟩ (.string u.1.2.2)).setCell ⟨b,3,none⟩ (.int .i64 u.2)) b u:=by
 refine ⟨?_,?_,?_,?_,fun i=>by rw [N8,N8,N8,N8]; exact h.f i,by simpa using h.lt⟩
 ·simp [go_sem,h.c0]
 ·simp [go_sem,h.c1]
 ·simp [go_sem,h.c2]
 ·simp [go_sem,h.c3]
theorem fM.Ix {W:World} {b:Nat} {p:Wp} (h:fM W b p) (g:Nat) (u:Wp) (hn:g≠b):fM ((((W.setCell ⟨g,0,none⟩ (.int .i64 u.1.1)).setCell ⟨g,1,none⟩ (.int .i64 u.1.2.1)).setCell ⟨g,2,none⟩ (.string u.1.2.2)).setCell ⟨g,3,none⟩ (.int .i64 u.2)) b p:=by
 have key:∀ (X:World) (o o':Nat) (v:Value),(X.setCell ⟨g,o',none⟩ v).cell? ⟨b,o,none⟩=X.cell? ⟨b,o,none⟩:=fun X o o' v=>Nv _ _ _ _ (by intro e; injection e with e; exact hn e)
 refine ⟨?_,?_,?_,?_,fun i=>by rw [N8,N8,N8,N8]; exact h.f i,by simpa using h.lt⟩
 ·rw [key,key,key,key]; exact h.c0
 ·rw [key,key,key,key]; exact h.c1
 ·rw [key,key,key,key]; exact h.c2
 ·rw [key,key,key,key]; exact h.c3
def jG:List Wp→Wp
 | []=>(fH,0)
 | p :: r=>r.foldl (fun m x=>if cZ x.1 m.1<0 then x else m) p
theorem ET {l:List Wp} {i:Nat} (h0:0<i) (h:i<l.length):jG (l.take (i+1))=if cZ l[i].1 (jG (l.take i)).1<0 then l[i] else jG (l.take i):=by
 rw [Nz h]
 match l,i,h0,h with
 | p :: r,i+1,_,h =>
  simp only [OX,OD,jG,List.foldl_append,OL,List.foldl_nil];try rfl
theorem Hc {l:List Wp} (h:0<l.length):jG (l.take 1)=l[0]:=by
 match l,h with
 | p :: r,_=>rfl
theorem G0:∀ (l:List Wp),0<l.length→(jG l).1=Ef l
 | p :: r,_=>by
  unfold jG Ef
  have aux:∀ (r:List Wp) (p:Wp),(r.foldl (fun m x=>if cZ x.1 m.1<0 then x else m) p).1=r.foldl (fun m x=>if cZ x.1 m<0 then x.1 else m) p.1:=by
   intro r
   induction r with
   | nil=>intro p; rfl
   | cons x t ih =>
    intro p;rw [OL,OL,ih];by_cases c:cZ x.1 p.1<0
    ·rw [if_pos c,if_pos c]
    ·rw [if_neg c,if_neg c]
  exact aux r p
theorem zZ (g:Nat) (eg:∀ args w,(callFunc g args).run Tryz.prog w = .ok (.enter g args) w) (hd:∀ (x y:Wp) (W:World),Calls Tryz.prog g #[.agg #[.int .i64 x.1.1,.int .i64 x.1.2.1,.string x.1.2.2,.int .i64 x.2],.agg #[.int .i64 y.1.1,.int .i64 y.1.2.1,.string y.1.2.2,.int .i64 y.2]] W fun e w'=>e = .returned (.int .i64 (dW x.1.1 x.1.2.1 x.1.2.2 y.1.1 y.1.2.1 y.1.2.2))∧Below W.heap.size W w') (a:Option Addr) (cap:Nat) (l:List Wp) (w:World) (h:jh w a l) (h0:0<l.length) (hl:l.length≤400) :
  Calls Tryz.prog 214 #[.slice a l.length cap,.func (.func g) #[] #[]] w fun e w'=>e = .returned (.agg #[.int .i64 (jG l).1.1,.int .i64 (jG l).1.2.1,.string (jG l).1.2.2,.int .i64 (jG l).2])∧Below w.heap.size w w':=by
 have hal:=aa w (.cells #[.int .i64 0,.int .i64 0,.string ⟨#[]⟩,.int .i64 0] 221);have V0:fM (w.alloc (.cells #[.int .i64 0,.int .i64 0,.string ⟨#[]⟩,.int .i64 0] 221)) w.heap.size (fH,0):=fM.new w (fH,0) 221;obtain ⟨b,off,rfl,hbl,c0,c1,c2,c3⟩:=(h.next hal).elem h0;have z0:(w.alloc (.cells #[.int .i64 0,.int .i64 0,.string ⟨#[]⟩,.int .i64 0] 221)).heap.size > w.heap.size:=by simp
 generalize hres:jG l=res;have HRes:Hid (jG l=res):=hres;clear hres;simp only [Nat.zero_mul,Oz] at c0 c1 c2 c3;have hn1:¬ (l.length:Int)<1:=by omega
 have hp:(0:Int)<(l.length:Int):=by omega
 go_enter Tryz.func214,Tryz.ntmps214;go_upto_region 3 with fail
 generalize w.alloc (.cells #[.int .i64 0,.int .i64 0,.string ⟨#[]⟩,.int .i64 0] 221)=w0 at *;have hal1:=aa w0 (.cells #[.int .i64 l[0].1.1,.int .i64 l[0].1.2.1,.string l[0].1.2.2,.int .i64 l[0].2] 221);have V1:fM (w0.alloc (.cells #[.int .i64 l[0].1.1,.int .i64 l[0].1.2.1,.string l[0].1.2.2,.int .i64 l[0].2] 221)) w0.heap.size l[0]:=fM.new w0 l[0] 221;have V0':=V0.next hal1;go_upto_region 4 with fail
 clear c0 c1 c2 c3 V0;have hA1:=chain hal hal1;generalize w0.alloc (.cells #[.int .i64 l[0].1.1,.int .i64 l[0].1.2.1,.string l[0].1.2.2,.int .i64 l[0].2] 221)=w1 at *;go_wp2_with fail
 go_loopw [6] (fun i wr=>∃ (k:Nat) (mv:Wp),0<k∧k≤l.length∧i = .int .i64 k∧fM wr w0.heap.size mv∧fM wr w.heap.size (fH,0)∧Hid (mv=jG (l.take k))∧Below w.heap.size w wr) (fun i _=>l.length - (intOf i).toNat)
 case atStart=>exact ⟨1,l[0],by omega,by omega,rfl,V1,V0',(Hc h0).symm,hA1⟩
 case round =>
  clear V1 V0' hA1 hal1;obtain ⟨k,mv,hk0,hk,rfl,VM,VR,HM,hb⟩:=hrel;by_cases hlt:k<l.length
  ·obtain ⟨b',off',e',hbl',c0,c1,c2,c3⟩:=(h.next hb).elem hlt;have HT:Hid (jG (l.take (k+1))=if cZ l[k].1 (jG (l.take k)).1<0 then l[k] else jG (l.take k)):=ET hk0 hlt;injection e' with e'
   injection e' with e1 e2 _
   subst e1 e2;have k0:(0:Int)≤(k:Int):=by omega
   have k1:(k:Int)<(l.length:Int):=by omega
   clear c0 c1 c2 c3;have hCC:∀ W W':World,(jh W (some ⟨b,off,none⟩) l∧fM W w0.heap.size mv)→Below W.heap.size W W'→(jh W' (some ⟨b,off,none⟩) l∧fM W' w0.heap.size mv):=fun W W' h hb=>⟨h.1.next hb,h.2.next hb⟩
   have hdr:Below wr.heap.size wr wr.drew:=(Nk _ _).drew;have CW:(jh wr.drew (some ⟨b,off,none⟩) l∧fM wr.drew w0.heap.size mv):=hCC _ _ ⟨h.next hb,VM⟩ hdr;go_upto_region 7 with fail
   refine aK (fun W=>(jh W (some ⟨b,off,none⟩) l∧fM W w0.heap.size mv)) (by kernel_rfl) ?_;refine ab hCC 20 (i:=0) (v:=.func (.func g) #[] #[]) (fun n hn=>?_) CW ?_
   ·go_simp
   simp only [Act.put,pA,pB,pC];refine ab hCC 21 (i:=1) (v:=.slice (some ⟨b,off,none⟩) l.length cap) (fun n hn=>?_) CW ?_
   ·go_simp
   simp only [Act.put,pA,pB,pC];refine ab hCC 22 (i:=2) (v:=.int .i64 (k:Int)) (fun n hn=>?_) CW ?_
   ·go_simp
   simp only [Act.put,pA,pB,pC];refine ab hCC 23 (i:=3) (v:=.pointer (some ⟨b,off+k*4,none⟩)) (fun n hn=>?_) CW ?_
   ·go_simp
   simp only [Act.put,pA,pB,pC];refine ab hCC 24 (i:=4) (v:=.agg #[.int .i64 l[k].1.1,.int .i64 l[k].1.2.1,.string l[k].1.2.2,.int .i64 l[k].2]) (fun n hn=>?_) CW ?_
   ·obtain ⟨b2,off2,e2,_,d0,d1,d2,d3⟩:=hn.1.elem hlt;injection e2 with e2
    injection e2 with e21 e22 _
    subst e21 e22;go_simp
   simp only [Act.put,pA,pB,pC];refine ab hCC 25 (i:=5) (v:=.agg #[.int .i64 mv.1.1,.int .i64 mv.1.2.1,.string mv.1.2.2,.int .i64 mv.2]) (fun n hn=>?_) CW ?_
   ·obtain ⟨n0,n1,n2,n3,_,_⟩:=hn.2;go_simp
   simp only [Act.put,pA,pB,pC];refine az (rs:=[6]) (by kernel_rfl) (by simp) ?_;intro w3 hb3 jj hj;obtain rfl:jj=6:=by simpa using hj
   clear hj;have CW3:=hCC _ _ CW hb3;have con:=hd l[k] mv w3;generalize hcm:dW l[k].1.1 l[k].1.2.1 l[k].1.2.2 mv.1.1 mv.1.2.1 mv.1.2.2=cm at con;have HCm:Hid (cZ l[k].1 mv.1=cm):=hcm;clear hcm;refine wpOp_step rfl (fun K hK=>?_);go_simp
   first | (refine con.mono ?_) | (go_at_fn g; refine con.mono ?_)
   rintro e w4 ⟨rfl,hb4⟩;clear con;have CW4:=hCC _ _ CW3 hb4;refine hK _ _ ⟨CW4,?_⟩;clear hK K CW3;refine ab hCC 27 (i:=7) (v:=.bool (decide (cm<0))) (fun n hn=>?_) CW4 ?_
   ·go_simp
   simp only [Act.put,pA,pB,pC];refine bL (by kernel_rfl) ?_;intro w7 hb7;have D7:=chain hdr (chain hb3 (chain hb4 hb7));have hB7:=chain hb D7;obtain ⟨S7,VM7⟩:=hCC _ _ CW4 hb7;have VR7:=VR.next D7;clear CW CW4 hCC hb3 hb4 hb7 VM VR;by_cases hc:cm<0
   ·have hg:decide (cm<0)=true:=decide_eq_true hc;rw [hg];have HM':Hid (l[k]=jG (l.take (k+1))):=by show _=_; rw [HT.out,← HM.out,HCm.out,if_pos hc]
    obtain ⟨b2,off2,e2,_,d0,d1,d2,d3⟩:=S7.elem hlt;injection e2 with e2
    injection e2 with e21 e22 _
    subst e21 e22;have VS:=VM7.put l[k];have VRS:=VR7.Ix w0.heap.size l[k] (by omega);obtain ⟨n0,n1,n2,n3,nf,nl⟩:=VM7;have nf0:=nf 0;have nf1:=nf 1;have nf2:=nf 2;have nf3:=nf 3;clear hc HM D7;go_wp2
    go_roundw
    case rel=>exact ⟨k+1,l[k],by omega,by omega,by go_num,VS,VRS,HM',(((hB7.setCell (p:=⟨w0.heap.size,0,none⟩) (by show _≤w0.heap.size; omega) _).setCell (p:=⟨w0.heap.size,1,none⟩) (by show _≤w0.heap.size; omega) _).setCell (p:=⟨w0.heap.size,2,none⟩) (by show _≤w0.heap.size; omega) _).setCell (p:=⟨w0.heap.size,3,none⟩) (by show _≤w0.heap.size; omega) _⟩
    case measure=>simp [intOf]; omega
   ·have hg:decide (cm<0)=false:=decide_eq_false hc;rw [hg];have HM':Hid (mv=jG (l.take (k+1))):=by show _=_; rw [HT.out,← HM.out,HCm.out,if_neg hc]
    clear hc HM D7 S7;go_wp2
    go_roundw
    case rel=>exact ⟨k+1,mv,by omega,by omega,by go_num,VM7,VR7,HM',hB7⟩
    case measure=>simp [intOf]; omega
  ·have e:k=l.length:=by omega
   subst e;have er:mv=res:=by rw [HM.out,NL,HRes.out]
   subst er;obtain ⟨m0,m1,m2,m3,_,_⟩:=VM;have VS:=VR.put mv;obtain ⟨n0,n1,n2,n3,nf,nl⟩:=VR;have nf0:=nf 0;have nf1:=nf 1;have nf2:=nf 2;have nf3:=nf 3;obtain ⟨s0,s1,s2,s3,_,_⟩:=VS;clear HM;go_wp2
   exact Nl (v:=.agg #[.int .i64 mv.1.1,.int .i64 mv.1.2.1,.string mv.1.2.2,.int .i64 mv.2]) (by simp [results,Tryz.results214,go_sem,s0,s1,s2,s3]) rfl ⟨rfl,(((hb.setCell (p:=⟨w.heap.size,0,none⟩) (Nj _) _).setCell (p:=⟨w.heap.size,1,none⟩) (Nj _) _).setCell (p:=⟨w.heap.size,2,none⟩) (Nj _) _).setCell (p:=⟨w.heap.size,3,none⟩) (Nj _) _⟩
def jJ:List Wp→Wp
 | []=>(fH,0)
 | p :: r=>r.foldl (fun m x=>if 0<cZ x.1 m.1 then x else m) p
theorem DL {l:List Wp} {i:Nat} (h0:0<i) (h:i<l.length):jJ (l.take (i+1))=if 0<cZ l[i].1 (jJ (l.take i)).1 then l[i] else jJ (l.take i):=by
 rw [Nz h]
 match l,i,h0,h with
 | p :: r,i+1,_,h =>
  simp only [OX,OD,jJ,List.foldl_append,OL,List.foldl_nil];try rfl
theorem Fl {l:List Wp} (h:0<l.length):jJ (l.take 1)=l[0]:=by
 match l,h with
 | p :: r,_=>rfl
theorem Hs:∀ (l:List Wp),0<l.length→(jJ l).1=EX l
 | p :: r,_=>by
  unfold jJ EX
  have aux:∀ (r:List Wp) (p:Wp),(r.foldl (fun m x=>if 0<cZ x.1 m.1 then x else m) p).1=r.foldl (fun m x=>if 0<cZ x.1 m then x.1 else m) p.1:=by
   intro r
   induction r with
   | nil=>intro p; rfl
   | cons x t ih =>
    intro p;rw [OL,OL,ih];by_cases c:0<cZ x.1 p.1
    ·rw [if_pos c,if_pos c]
    ·rw [if_neg c,if_neg c]
  exact aux r p
theorem AQ (g:Nat) (eg:∀ args w,(callFunc g args).run Tryz.prog w = .ok (.enter g args) w) (hd:∀ (x y:Wp) (W:World),Calls Tryz.prog g #[.agg #[.int .i64 x.1.1,.int .i64 x.1.2.1,.string x.1.2.2,.int .i64 x.2],.agg #[.int .i64 y.1.1,.int .i64 y.1.2.1,.string y.1.2.2,.int .i64 y.2]] W fun e w'=>e = .returned (.int .i64 (dW x.1.1 x.1.2.1 x.1.2.2 y.1.1 y.1.2.1 y.1.2.2))∧Below W.heap.size W w') (a:Option Addr) (cap:Nat) (l:List Wp) (w:World) (h:jh w a l) (h0:0<l.length) (hl:l.length≤400) :
  Calls Tryz.prog 216 #[.slice a l.length cap,.func (.func g) #[] #[]] w fun e w'=>e = .returned (.agg #[.int .i64 (jJ l).1.1,.int .i64 (jJ l).1.2.1,.string (jJ l).1.2.2,.int .i64 (jJ l).2])∧Below w.heap.size w w':=by
 have hal:=aa w (.cells #[.int .i64 0,.int .i64 0,.string ⟨#[]⟩,.int .i64 0] 221);have V0:fM (w.alloc (.cells #[.int .i64 0,.int .i64 0,.string ⟨#[]⟩,.int .i64 0] 221)) w.heap.size (fH,0):=fM.new w (fH,0) 221;obtain ⟨b,off,rfl,hbl,c0,c1,c2,c3⟩:=(h.next hal).elem h0;have z0:(w.alloc (.cells #[.int .i64 0,.int .i64 0,.string ⟨#[]⟩,.int .i64 0] 221)).heap.size > w.heap.size:=by simp
 generalize hres:jJ l=res;have HRes:Hid (jJ l=res):=hres;clear hres;simp only [Nat.zero_mul,Oz] at c0 c1 c2 c3;have hn1:¬ (l.length:Int)<1:=by omega
 have hp:(0:Int)<(l.length:Int):=by omega
 go_enter Tryz.func216,Tryz.ntmps216;go_upto_region 3 with fail
 generalize w.alloc (.cells #[.int .i64 0,.int .i64 0,.string ⟨#[]⟩,.int .i64 0] 221)=w0 at *;have hal1:=aa w0 (.cells #[.int .i64 l[0].1.1,.int .i64 l[0].1.2.1,.string l[0].1.2.2,.int .i64 l[0].2] 221);have V1:fM (w0.alloc (.cells #[.int .i64 l[0].1.1,.int .i64 l[0].1.2.1,.string l[0].1.2.2,.int .i64 l[0].2] 221)) w0.heap.size l[0]:=fM.new w0 l[0] 221;have V0':=V0.next hal1;go_upto_region 4 with fail
 clear c0 c1 c2 c3 V0;have hA1:=chain hal hal1;generalize w0.alloc (.cells #[.int .i64 l[0].1.1,.int .i64 l[0].1.2.1,.string l[0].1.2.2,.int .i64 l[0].2] 221)=w1 at *;go_wp2_with fail
 go_loopw [6] (fun i wr=>∃ (k:Nat) (mv:Wp),0<k∧k≤l.length∧i = .int .i64 k∧fM wr w0.heap.size mv∧fM wr w.heap.size (fH,0)∧Hid (mv=jJ (l.take k))∧Below w.heap.size w wr) (fun i _=>l.length - (intOf i).toNat)
 case atStart=>exact ⟨1,l[0],by omega,by omega,rfl,V1,V0',(Fl h0).symm,hA1⟩
 case round =>
  clear V1 V0' hA1 hal1;obtain ⟨k,mv,hk0,hk,rfl,VM,VR,HM,hb⟩:=hrel;by_cases hlt:k<l.length
  ·obtain ⟨b',off',e',hbl',c0,c1,c2,c3⟩:=(h.next hb).elem hlt;have HT:Hid (jJ (l.take (k+1))=if 0<cZ l[k].1 (jJ (l.take k)).1 then l[k] else jJ (l.take k)):=DL hk0 hlt;injection e' with e'
   injection e' with e1 e2 _
   subst e1 e2;have k0:(0:Int)≤(k:Int):=by omega
   have k1:(k:Int)<(l.length:Int):=by omega
   clear c0 c1 c2 c3;have hCC:∀ W W':World,(jh W (some ⟨b,off,none⟩) l∧fM W w0.heap.size mv)→Below W.heap.size W W'→(jh W' (some ⟨b,off,none⟩) l∧fM W' w0.heap.size mv):=fun W W' h hb=>⟨h.1.next hb,h.2.next hb⟩
   have hdr:Below wr.heap.size wr wr.drew:=(Nk _ _).drew;have CW:(jh wr.drew (some ⟨b,off,none⟩) l∧fM wr.drew w0.heap.size mv):=hCC _ _ ⟨h.next hb,VM⟩ hdr;go_upto_region 7 with fail
   refine aK (fun W=>(jh W (some ⟨b,off,none⟩) l∧fM W w0.heap.size mv)) (by kernel_rfl) ?_;refine ab hCC 20 (i:=0) (v:=.func (.func g) #[] #[]) (fun n hn=>?_) CW ?_
   ·go_simp
   simp only [Act.put,pA,pB,pC];refine ab hCC 21 (i:=1) (v:=.slice (some ⟨b,off,none⟩) l.length cap) (fun n hn=>?_) CW ?_
   ·go_simp
   simp only [Act.put,pA,pB,pC];refine ab hCC 22 (i:=2) (v:=.int .i64 (k:Int)) (fun n hn=>?_) CW ?_
   ·go_simp
   simp only [Act.put,pA,pB,pC];refine ab hCC 23 (i:=3) (v:=.pointer (some ⟨b,off+k*4,none⟩)) (fun n hn=>?_) CW ?_
   ·go_simp
   simp only [Act.put,pA,pB,pC];refine ab hCC 24 (i:=4) (v:=.agg #[.int .i64 l[k].1.1,.int .i64 l[k].1.2.1,.string l[k].1.2.2,.int .i64 l[k].2]) (fun n hn=>?_) CW ?_
   ·obtain ⟨b2,off2,e2,_,d0,d1,d2,d3⟩:=hn.1.elem hlt;injection e2 with e2
    injection e2 with e21 e22 _
    subst e21 e22;go_simp
   simp only [Act.put,pA,pB,pC];refine ab hCC 25 (i:=5) (v:=.agg #[.int .i64 mv.1.1,.int .i64 mv.1.2.1,.string mv.1.2.2,.int .i64 mv.2]) (fun n hn=>?_) CW ?_
   ·obtain ⟨n0,n1,n2,n3,_,_⟩:=hn.2;go_simp
   simp only [Act.put,pA,pB,pC];refine az (rs:=[6]) (by kernel_rfl) (by simp) ?_;intro w3 hb3 jj hj;obtain rfl:jj=6:=by simpa using hj
   clear hj;have CW3:=hCC _ _ CW hb3;have con:=hd l[k] mv w3;generalize hcm:dW l[k].1.1 l[k].1.2.1 l[k].1.2.2 mv.1.1 mv.1.2.1 mv.1.2.2=cm at con;have HCm:Hid (cZ l[k].1 mv.1=cm):=hcm;clear hcm;refine wpOp_step rfl (fun K hK=>?_);go_simp
   first | (refine con.mono ?_) | (go_at_fn g; refine con.mono ?_)
   rintro e w4 ⟨rfl,hb4⟩;clear con;have CW4:=hCC _ _ CW3 hb4;refine hK _ _ ⟨CW4,?_⟩;clear hK K CW3;refine ab hCC 27 (i:=7) (v:=.bool (decide (0<cm))) (fun n hn=>?_) CW4 ?_
   ·go_simp
   simp only [Act.put,pA,pB,pC];refine bL (by kernel_rfl) ?_;intro w7 hb7;have D7:=chain hdr (chain hb3 (chain hb4 hb7));have hB7:=chain hb D7;obtain ⟨S7,VM7⟩:=hCC _ _ CW4 hb7;have VR7:=VR.next D7;clear CW CW4 hCC hb3 hb4 hb7 VM VR;by_cases hc:0<cm
   ·have hg:decide (0<cm)=true:=decide_eq_true hc;rw [hg];have HM':Hid (l[k]=jJ (l.take (k+1))):=by show _=_; rw [HT.out,← HM.out,HCm.out,if_pos hc]
    obtain ⟨b2,off2,e2,_,d0,d1,d2,d3⟩:=S7.elem hlt;injection e2 with e2
    injection e2 with e21 e22 _
    subst e21 e22;have VS:=VM7.put l[k];have VRS:=VR7.Ix w0.heap.size l[k] (by omega);obtain ⟨n0,n1,n2,n3,nf,nl⟩:=VM7;have nf0:=nf 0;have nf1:=nf 1;have nf2:=nf 2;have nf3:=nf 3;clear hc HM D7;go_wp2
    go_roundw
    case rel=>exact ⟨k+1,l[k],by omega,by omega,by go_num,VS,VRS,HM',(((hB7.setCell (p:=⟨w0.heap.size,0,none⟩) (by show _≤w0.heap.size; omega) _).setCell (p:=⟨w0.heap.size,1,none⟩) (by show _≤w0.heap.size; omega) _).setCell (p:=⟨w0.heap.size,2,none⟩) (by show _≤w0.heap.size; omega) _).setCell (p:=⟨w0.heap.size,3,none⟩) (by show _≤w0.heap.size; omega) _⟩
    case measure=>simp [intOf]; omega
   ·have hg:decide (0<cm)=false:=decide_eq_false hc;rw [hg];have HM':Hid (mv=jJ (l.take (k+1))):=by show _=_; rw [HT.out,← HM.out,HCm.out,if_neg hc]
    clear hc HM D7 S7;go_wp2
    go_roundw
    case rel=>exact ⟨k+1,mv,by omega,by omega,by go_num,VM7,VR7,HM',hB7⟩
    case measure=>simp [intOf]; omega
  ·have e:k=l.length:=by omega
   subst e;have er:mv=res:=by rw [HM.out,NL,HRes.out]
   subst er;obtain ⟨m0,m1,m2,m3,_,_⟩:=VM;have VS:=VR.put mv;obtain ⟨n0,n1,n2,n3,nf,nl⟩:=VR;have nf0:=nf 0;have nf1:=nf 1;have nf2:=nf 2;have nf3:=nf 3;obtain ⟨s0,s1,s2,s3,_,_⟩:=VS;clear HM;go_wp2
   exact Nl (v:=.agg #[.int .i64 mv.1.1,.int .i64 mv.1.2.1,.string mv.1.2.2,.int .i64 mv.2]) (by simp [results,Tryz.results216,go_sem,s0,s1,s2,s3]) rfl ⟨rfl,(((hb.setCell (p:=⟨w.heap.size,0,none⟩) (Nj _) _).setCell (p:=⟨w.heap.size,1,none⟩) (Nj _) _).setCell (p:=⟨w.heap.size,2,none⟩) (Nj _) _).setCell (p:=⟨w.heap.size,3,none⟩) (Nj _) _⟩
theorem Iv:qd 189 (fx 4):=by
 intro l a cap W hk h0 h;have eT:fx 4 l=(jG l).1:=by rw [G0 l h0]; simp [fx]
 rw [eT];have hal:=aa W (.cells #[.int .i64 0,.int .i64 0,.string ⟨#[]⟩] 24);have q0:=aw W #[.int .i64 0,.int .i64 0,.string ⟨#[]⟩] 24;have con:=zZ 215 (enters_of Tryz.func215 (by kernel_rfl) rfl) rD a cap l _ (h.next hal) h0 hk.len;generalize jG l=res at *;unfold fW;clear eT;go_enter Tryz.func189,Tryz.ntmps189;go_wp2_with fail
 generalize W.alloc (.cells #[.int .i64 0,.int .i64 0,.string ⟨#[]⟩] 24)=w0 at *;refine con.mono ?_;rintro e w2 ⟨rfl,hb2⟩;clear con;have q2:=(hb2.block _ (ae q0)).trans q0;have d0:w2.cell? ⟨W.heap.size,0,none⟩=some (.int .i64 0):=cell_of (i:=0) q2 rfl;have d1:w2.cell? ⟨W.heap.size,1,none⟩=some (.int .i64 0):=cell_of (i:=1) q2 rfl;have d2:w2.cell? ⟨W.heap.size,2,none⟩=some (.string ⟨#[]⟩):=cell_of (i:=2) q2 rfl;have f0:w2.frozen? ⟨W.heap.size,0,none⟩=false:=No w2 W.heap.size 0 _ _ q2;have f1:w2.frozen? ⟨W.heap.size,1,none⟩=false:=No w2 W.heap.size 1 _ _ q2
 have f2:w2.frozen? ⟨W.heap.size,2,none⟩=false:=No w2 W.heap.size 2 _ _ q2;have hA2:=chain hal hb2;have hfw:=Cz (.int .i64 res.1.1) (.int .i64 res.1.2.1) (.string res.1.2.2) (.int .i64 res.2) w2;dsimp only;go_wp2
 exact Nl (v:=.agg #[.int .i64 res.1.1,.int .i64 res.1.2.1,.string res.1.2.2]) (by simp [results,Tryz.results189,go_sem,d0,d1,d2]) rfl ⟨rfl,((hA2.setCell (p:=⟨W.heap.size,0,none⟩) (Nj _) _).setCell (p:=⟨W.heap.size,1,none⟩) (Nj _) _).setCell (p:=⟨W.heap.size,2,none⟩) (Nj _) _⟩
theorem yC:qd 190 (fx 5):=by
 intro l a cap W hk h0 h;have eT:fx 5 l=(jJ l).1:=by rw [Hs l h0]; simp [fx]
 rw [eT];have hal:=aa W (.cells #[.int .i64 0,.int .i64 0,.string ⟨#[]⟩] 24);have q0:=aw W #[.int .i64 0,.int .i64 0,.string ⟨#[]⟩] 24;have con:=AQ 215 (enters_of Tryz.func215 (by kernel_rfl) rfl) rD a cap l _ (h.next hal) h0 hk.len;generalize jJ l=res at *;unfold fW;clear eT;go_enter Tryz.func190,Tryz.ntmps190;go_wp2_with fail
 generalize W.alloc (.cells #[.int .i64 0,.int .i64 0,.string ⟨#[]⟩] 24)=w0 at *;refine con.mono ?_;rintro e w2 ⟨rfl,hb2⟩;clear con;have q2:=(hb2.block _ (ae q0)).trans q0;have d0:w2.cell? ⟨W.heap.size,0,none⟩=some (.int .i64 0):=cell_of (i:=0) q2 rfl;have d1:w2.cell? ⟨W.heap.size,1,none⟩=some (.int .i64 0):=cell_of (i:=1) q2 rfl;have d2:w2.cell? ⟨W.heap.size,2,none⟩=some (.string ⟨#[]⟩):=cell_of (i:=2) q2 rfl;have f0:w2.frozen? ⟨W.heap.size,0,none⟩=false:=No w2 W.heap.size 0 _ _ q2;have f1:w2.frozen? ⟨W.heap.size,1,none⟩=false:=No w2 W.heap.size 1 _ _ q2
 have f2:w2.frozen? ⟨W.heap.size,2,none⟩=false:=No w2 W.heap.size 2 _ _ q2;have hA2:=chain hal hb2;have hfw:=Cz (.int .i64 res.1.1) (.int .i64 res.1.2.1) (.string res.1.2.2) (.int .i64 res.2) w2;dsimp only;go_wp2
 exact Nl (v:=.agg #[.int .i64 res.1.1,.int .i64 res.1.2.1,.string res.1.2.2]) (by simp [results,Tryz.results190,go_sem,d0,d1,d2]) rfl ⟨rfl,((hA2.setCell (p:=⟨W.heap.size,0,none⟩) (Nj _) _).setCell (p:=⟨W.heap.size,1,none⟩) (Nj _) _).setCell (p:=⟨W.heap.size,2,none⟩) (Nj _) _⟩
theorem Lr:fi 4:=Dg Iv
theorem KY:fi 5:=EN yC
def qN:List Wp→Int
 | []=>0
 | p :: r=>p.2*(p.1.2.1.tdiv 100000000)+qN r
def qF:List Wp→Int
 | []=>0
 | p :: r=>p.2*(p.1.2.1.tmod 100000000)+qF r
theorem DN {l:List Wp} {k:Nat} (h:k<l.length):qN (l.take (k+1))=qN (l.take k)+l[k].2*(l[k].1.2.1.tdiv 100000000):=by
 have aux:∀ (l:List Wp) (p:Wp),qN (l ++ [p])=qN l+p.2*(p.1.2.1.tdiv 100000000):=by
  intro l p
  induction l with
  | nil=>simp [qN]
  | cons q r ih=>rw [OD,qN,qN,ih]; omega
 rw [Nz h,aux]
theorem C7 {l:List Wp} {k:Nat} (h:k<l.length):qF (l.take (k+1))=qF (l.take k)+l[k].2*(l[k].1.2.1.tmod 100000000):=by
 have aux:∀ (l:List Wp) (p:Wp),qF (l ++ [p])=qF l+p.2*(p.1.2.1.tmod 100000000):=by
  intro l p
  induction l with
  | nil=>simp [qF]
  | cons q r ih=>rw [OD,qF,qF,ih]; omega
 rw [Nz h,aux]
theorem KI:∀ l:List Wp,qN l*100000000+qF l=qG l
 | []=>rfl
 | p :: r=>by
  have ih:=KI r
  have e:=Int.mul_tdiv_add_tmod p.1.2.1 100000000
  rw [qN,qF,qG,← ih]
  conv=>rhs; rw [← e]
  rw [Int.mul_add,Int.add_mul,Int.mul_assoc p.2,Int.mul_comm (Int.tdiv _ _) 100000000]
  omega
theorem CG {n:Int} (h:-1000000000000000≤n∧n≤1000000000000000):-10000000≤n.tdiv 100000000∧n.tdiv 100000000≤10000000:=by
 by_cases h0:0≤n
 ·rw [Int.tdiv_eq_ediv_of_nonneg h0]; omega
 ·have e:=Int.neg_tdiv (-n) 100000000;rw [Int.neg_neg] at e;rw [e,Int.tdiv_eq_ediv_of_nonneg (by omega)];omega
theorem Cc {n:Int}:-100000000≤n.tmod 100000000∧n.tmod 100000000≤100000000:=by
 by_cases h0:0≤n
 ·rw [Int.tmod_eq_emod_of_nonneg h0]; omega
 ·have e:=Int.neg_tmod (-n) 100000000;rw [Int.neg_neg] at e;rw [e,Int.tmod_eq_emod_of_nonneg (by omega)];omega
theorem GD {n:Int}:-100000000<n.tmod 100000000∧n.tmod 100000000<100000000:=by
 by_cases h0:0≤n
 ·rw [Int.tmod_eq_emod_of_nonneg h0]; omega
 ·have e:=Int.neg_tmod (-n) 100000000;rw [Int.neg_neg] at e;rw [e,Int.tmod_eq_emod_of_nonneg (by omega)];omega
theorem Hf {x w B:Int} (h:0≤w∧w≤1000000) (hx:-B≤x∧x≤B) (hB:0≤B):-(1000000*B)≤w*x∧w*x≤1000000*B:=by
 constructor
 ·have h1:w*(-B)≤w*x:=Int.mul_le_mul_of_nonneg_left hx.1 h.1;have h2:w*B≤1000000*B:=Int.mul_le_mul_of_nonneg_right h.2 hB;rw [Int.mul_neg] at h1;omega
 ·have h1:w*x≤w*B:=Int.mul_le_mul_of_nonneg_left hx.2 h.1;have h2:w*B≤1000000*B:=Int.mul_le_mul_of_nonneg_right h.2 hB;omega
theorem Lt:qd 188 (fx 3):=by
 intro l a cap W hok hl0 h;have eT:fx 3 l=if oV (qG l)=true then (3,qG l,⟨#[]⟩) else (1,0,⟨#[]⟩):=by
  have:¬ l = []:=by intro e; rw [e] at hl0; simp at hl0
  simp only [fx,if_true,Jm];rw [if_neg this]
 have hl:=hok.len;have HK:Hid (Iw l):=hok;generalize hres:fx 3 l=res;have HRes:Hid (res=if oV (qG l)=true then (3,qG l,⟨#[]⟩) else (1,0,⟨#[]⟩)):=by show _=_; rw [← hres]; exact eT
 clear hok eT hres hl0;have hal0:=aa W (.cells #[.int .i64 0,.int .i64 0,.string ⟨#[]⟩] 24);have q00:=aw W #[.int .i64 0,.int .i64 0,.string ⟨#[]⟩] 24;unfold fW;go_enter Tryz.func188,Tryz.ntmps188;go_wp2_with fail
 generalize W.alloc (.cells #[.int .i64 0,.int .i64 0,.string ⟨#[]⟩] 24)=w0 at *;go_loopw [3,4,9] (fun vu vv i wr=>∃ (k:Nat) (u v:Int),k≤l.length∧i = .int .i64 k∧vu = .int .i64 u∧vv = .int .i64 v∧Hid (u=qN (l.take k)∧v=qF (l.take k)) ∧ -(10000000000000*(k:Int))≤u∧u≤10000000000000*(k:Int) ∧ -(100000000000000*(k:Int))≤v∧v≤100000000000000*(k:Int)∧Below w0.heap.size w0 wr) (fun _ _ i _=>l.length - (intOf i).toNat)
 case atStart=>exact ⟨0,0,0,Nr _,rfl,rfl,rfl,⟨rfl,rfl⟩,by omega,by omega,by omega,by omega,Nk _ _⟩
 case round =>
  obtain ⟨k,u,v,hk,rfl,rfl,rfl,HN,hu0,hu1,hv0,hv1,hb⟩:=hrel;have hA:=chain hal0 hb;by_cases hlt:k<l.length
  ·obtain ⟨b,off,rfl,hbl,c0,c1,c2,c3⟩:=(h.next hA).elem hlt;have hw:=HK.out.wt _ (Ns hlt);have hn:=K4 (HK.out.right _ (Ns hlt)) (HK.out.num _ (Ns hlt));have hal:=aa wr (.cells #[.int .i64 l[k].1.1,.int .i64 l[k].1.2.1,.string l[k].1.2.2,.int .i64 l[k].2] 221);have b1:=Hf hw (CG hn) (by decide);have b2:=Hf hw (Cc (n:=l[k].1.2.1)) (by decide)
   have HN':Hid (u+l[k].2*(l[k].1.2.1.tdiv 100000000)=qN (l.take (k+1))∧v+l[k].2*(l[k].1.2.1.tmod 100000000)=qF (l.take (k+1))):=⟨by rw [DN hlt,HN.out.1],by rw [C7 hlt,HN.out.2]⟩
   have t1:=CG hn;have t2:=Cc (n:=l[k].1.2.1);have hW1:IntKind.i64.wrap (l[k].2*(l[k].1.2.1.tdiv 100000000))=l[k].2*(l[k].1.2.1.tdiv 100000000):=IntWalk.i64_in _ ⟨by omega,by omega⟩;have hW2:IntKind.i64.wrap (l[k].2*(l[k].1.2.1.tmod 100000000))=l[k].2*(l[k].1.2.1.tmod 100000000):=IntWalk.i64_in _ ⟨by omega,by omega⟩;have hW3:IntKind.i64.wrap (u+l[k].2*(l[k].1.2.1.tdiv 100000000))=u+l[k].2*(l[k].1.2.1.tdiv 100000000):=IntWalk.i64_in _ ⟨by omega,by omega⟩
   have hW4:IntKind.i64.wrap (v+l[k].2*(l[k].1.2.1.tmod 100000000))=v+l[k].2*(l[k].1.2.1.tmod 100000000):=IntWalk.i64_in _ ⟨by omega,by omega⟩;have hW5:IntKind.i64.wrap (l[k].1.2.1.tdiv 100000000)=l[k].1.2.1.tdiv 100000000:=IntWalk.i64_in _ ⟨by omega,by omega⟩;have hW6:IntKind.i64.wrap (l[k].1.2.1.tmod 100000000)=l[k].1.2.1.tmod 100000000:=IntWalk.i64_in _ ⟨by omega,by omega⟩;go_wp2_with fail
   go_roundw
   case rel=>exact ⟨k+1,u+l[k].2*(l[k].1.2.1.tdiv 100000000),v+l[k].2*(l[k].1.2.1.tmod 100000000),by omega,by go_num,rfl,rfl,HN',by omega,by omega,by omega,by omega,chain hb hal⟩
   case measure=>simp [intOf]; omega
  ·have e:k=l.length:=by omega
   subst e;have es:qG l=u*100000000+v:=by
    have:=HN.out;rw [NL] at this;rw [this.1,this.2,KI]
   have ev:=Int.mul_tdiv_add_tmod v 100000000;have vb:=GD (n:=v);have hn4:(l.length:Int)≤400:=by omega
   generalize hq:v.tdiv 100000000=vq at *;generalize hm:v.tmod 100000000=vm at *;have hs:qG l=(u+vq)*100000000+vm:=by omega
   have hW5:IntKind.i64.wrap vq=vq:=IntWalk.i64_in _ ⟨by omega,by omega⟩;have hW6:IntKind.i64.wrap vm=vm:=IntWalk.i64_in _ ⟨by omega,by omega⟩;have hW7:IntKind.i64.wrap (u+vq)=u+vq:=IntWalk.i64_in _ ⟨by omega,by omega⟩;generalize hu:u+vq=u2 at *;have HS:Hid (qG l=u2*100000000+vm):=hs;clear HN es hs ev;by_cases ho:u2 < -10000001∨10000001<u2
   ·have er:res=(1,0,⟨#[]⟩):=by
     rw [HRes.out,HS.out];have:oV (u2*100000000+vm)=false:=by simp [oV]; omega
     rw [this]; rfl
    subst er;clear HRes HS;by_cases ho1:u2 < -10000001;rotate_left;have ho2:10000001<u2:=by omega
    all_goals
     go_wp2_with fail
     refine (dZ wr).mono ?_;rintro e w2 ⟨rfl,hb2⟩;have q2:=((chain hb hb2).block _ (ae q00)).trans q00;have d0:w2.cell? ⟨W.heap.size,0,none⟩=some (.int .i64 0):=cell_of (i:=0) q2 rfl;have d1:w2.cell? ⟨W.heap.size,1,none⟩=some (.int .i64 0):=cell_of (i:=1) q2 rfl;have d2:w2.cell? ⟨W.heap.size,2,none⟩=some (.string ⟨#[]⟩):=cell_of (i:=2) q2 rfl;have f0:w2.frozen? ⟨W.heap.size,0,none⟩=false:=No w2 W.heap.size 0 _ _ q2;have f1:w2.frozen? ⟨W.heap.size,1,none⟩=false:=No w2 W.heap.size 1 _ _ q2
     have f2:w2.frozen? ⟨W.heap.size,2,none⟩=false:=No w2 W.heap.size 2 _ _ q2;have hA2:=chain hA hb2;dsimp only;go_wp2_with fail
     exact Nl (v:=.agg #[.int .i64 1,.int .i64 0,.string ⟨#[]⟩]) (by simp [results,Tryz.results188,go_sem,d0,d1,d2]) rfl ⟨rfl,((hA2.setCell (p:=⟨W.heap.size,0,none⟩) (Nj _) _).setCell (p:=⟨W.heap.size,1,none⟩) (Nj _) _).setCell (p:=⟨W.heap.size,2,none⟩) (Nj _) _⟩
   ·have ho1:¬ u2 < -10000001:=fun h=>ho (.inl h)
    have ho2:¬ 10000001<u2:=fun h=>ho (.inr h)
    have hW8:IntKind.i64.wrap (u2*100000000)=u2*100000000:=IntWalk.i64_in _ ⟨by omega,by omega⟩;have hW9:IntKind.i64.wrap (u2*100000000+vm)=u2*100000000+vm:=IntWalk.i64_in _ ⟨by omega,by omega⟩;have con:Calls Tryz.prog 213 #[.int .i64 (u2*100000000+vm)] wr fun e w'=>e = .returned (.agg #[.int .i64 res.1,.int .i64 res.2.1,.string res.2.2])∧Below wr.heap.size wr w':=by
     rw [HRes.out,HS.out];cases hi:oV (u2*100000000+vm) with
     | true=>exact AP _ wr hi
     | false=>exact Cm _ wr hi
    clear HRes HS ho;generalize hS:u2*100000000+vm=s at *;go_wp2_with fail
    refine con.mono ?_;rintro e w2 ⟨rfl,hb2⟩;clear con;have q2:=((chain hb hb2).block _ (ae q00)).trans q00;have d0:w2.cell? ⟨W.heap.size,0,none⟩=some (.int .i64 0):=cell_of (i:=0) q2 rfl;have d1:w2.cell? ⟨W.heap.size,1,none⟩=some (.int .i64 0):=cell_of (i:=1) q2 rfl;have d2:w2.cell? ⟨W.heap.size,2,none⟩=some (.string ⟨#[]⟩):=cell_of (i:=2) q2 rfl;have f0:w2.frozen? ⟨W.heap.size,0,none⟩=false:=No w2 W.heap.size 0 _ _ q2;have f1:w2.frozen? ⟨W.heap.size,1,none⟩=false:=No w2 W.heap.size 1 _ _ q2
    have f2:w2.frozen? ⟨W.heap.size,2,none⟩=false:=No w2 W.heap.size 2 _ _ q2;have hA2:=chain hA hb2;dsimp only;go_wp2_with fail
    exact Nl (v:=.agg #[.int .i64 res.1,.int .i64 res.2.1,.string res.2.2]) (by simp [results,Tryz.results188,go_sem,d0,d1,d2]) rfl ⟨rfl,((hA2.setCell (p:=⟨W.heap.size,0,none⟩) (Nj _) _).setCell (p:=⟨W.heap.size,1,none⟩) (Nj _) _).setCell (p:=⟨W.heap.size,2,none⟩) (Nj _) _⟩
theorem K7:fi 3:=C3 Lt
theorem uU (k:Int):fi k:=by
 by_cases h3:k=3
 ·subst h3; exact K7
 by_cases h4:k=4
 ·subst h4; exact Lr
 by_cases h5:k=5
 ·subst h5; exact KY
 exact Fc k h3 h4 h5
theorem gW {k:Int} {n:Nat} {m d:Int} (h:60<m∨15<d):eO k n m d=4:=by simp [eO,h]
theorem kE {k:Int} {n:Nat} {m d:Int} (h:¬ 60<m) (h':¬ 15<d) (h2:k<1∨13<k):eO k n m d=1:=by simp [eO,h,h',h2]
theorem mW {k:Int} {n:Nat} {m d:Int} (h:¬ 60<m) (h':¬ 15<d) (h2:¬ k<1) (h3:¬ 13<k) (h4:¬ n=cJ k):eO k n m d=5:=by simp [eO,h,h',h2,h3,h4]
theorem yS {k:Int} {n:Nat} {m d:Int} (h:¬ 60<m) (h':¬ 15<d) (h2:¬ k<1) (h3:¬ 13<k) (h4:n=cJ k):eO k n m d=0:=by simp [eO,h,h',h2,h3,h4]
theorem tY (p:Pl) (q:Pw) (m d:Int) (w:World):Calls Tryz.prog 88 #[bP p q,.int .i64 m,.int .i64 d] w fun e w'=>e = .returned (.int .i64 (eO p.k p.ks.length m d))∧Below w.heap.size w w':=by
 unfold bP;by_cases h1:60<m;rw [gW (.inl h1)];rotate_left;by_cases h2:15<d;rw [gW (.inr h2)];rotate_left;by_cases h3:p.k<1;rw [kE h1 h2 (.inl h3)];rotate_left;by_cases h4:13<p.k;rw [kE h1 h2 (.inr h4)];rotate_left;obtain ⟨qb,hq,hn⟩:∃ qb:Bool,((p.ks.length:Int) != ((cJ p.k:Nat):Int))=qb∧eO p.k p.ks.length m d=if qb then 5 else 0:=by
  by_cases h5:p.ks.length=cJ p.k
  ·exact ⟨false,by simp [h5],by rw [yS h1 h2 h3 h4 h5]; rfl⟩
  ·exact ⟨true,by simp; omega,by rw [mW h1 h2 h3 h4 h5]; rfl⟩
 rw [hn];clear hn;have hA:Below w.heap.size w (w.alloc (.cells (eS p q) 31)):=((Nk _ _).alloc (Nj _) _)
 have E:=gY.new w p q 31;go_enter Tryz.func88,Tryz.ntmps88;go_wp2_with fail
 generalize w.alloc (.cells (eS p q) 31)=wA at *;have p0:=ag E.c0;have p10:=ag E.zY;simp only [Np] at p10;haveI:Nonempty (bW wA):=⟨⟨_,Nk _ _⟩⟩
 refine aq (by kernel_rfl) (by kernel_rfl) ?_
 repeat (go_big_quiet_step (first | (go_at_call 110; exact bE (AU _ _))))
 refine wpQuiet_nil ?_;rintro w3 ⟨⟨v3,hb3⟩,h3'⟩;obtain rfl:w3=v3:=h3';have hb:=chain hA hb3;clear p0 p10 E hA hb3;cases qb
 ·go_wp2_with fail
  go_ret;exact ⟨rfl,hb⟩
 ·go_wp2_with fail
  go_ret;exact ⟨rfl,hb⟩
 all_goals
  go_enter Tryz.func88,Tryz.ntmps88;go_wp2_with fail
  go_ret;exact ⟨rfl,((Nk _ _).alloc (Nj _) _)⟩
theorem ml (w:World):aL w none []:=⟨Nr _,.inl rfl⟩
theorem ue (p:Pl) (q:Pw) (cols:List Int) (ca:Option Addr) (cc:Nat) (w:World) (hp:ja w.heap.size w p q) (hc:bc w.heap.size w ca cols) (hn:-9223372036854775808≤p.n∧p.n≤9223372036854775807) (hs:p.xs.length+p.gs.length≤9223372036854775807) :
  Calls Tryz.prog 140 #[bP p q,.slice ca cols.length cc] w fun e w'=>e = .returned (.int .i64 (jf p.k p.n p.x p.xs p.gs cols))∧Below w.heap.size w w':=by
 have hA:Below w.heap.size w (w.alloc (.cells (eS p q) 31)):=((Nk _ _).alloc (Nj _) _)
 have E:=gY.new w p q 31;have hpA:=(hp.next hA (Nj _)).up hA.size;have hcA:=(hc.next hA (Nj _)).up hA.size;have c2:=uA cols p.x ca cc q.xa q.xc none 0 [] _ hcA hpA.x (ml _);have c3:=Gz cols p.xs ca cc q.sa q.sc none 0 [] _ hcA hpA.xs (ml _);have c12:=zd cols p.xs p.gs (fun g _ _=>uU g.1) hs ca cc q.sa q.sc q.ga q.gc none 0 [] _ hcA hpA.xs hpA.gs (ml _);have c13:=FL cols p.xs p.n hn ca cc q.sa q.sc none 0 [] _ hcA hpA.xs (ml _)
 have H2:Hid (p.k=2→jf p.k p.n p.x p.xs p.gs cols=eV cols p.x []):=fun h=>by unfold jf; rw [if_pos h]
 have H3:Hid (p.k=3→jf p.k p.n p.x p.xs p.gs cols=iv cols p.xs []):=fun h=>by unfold jf; rw [if_neg (by omega),if_pos h]
 have H12:Hid (p.k=12→jf p.k p.n p.x p.xs p.gs cols=df cols p.xs p.gs []):=fun h=>by unfold jf; rw [if_neg (by omega),if_neg (by omega),if_pos h]
 have H13:Hid (p.k=13→jf p.k p.n p.x p.xs p.gs cols=kh cols p.xs p.n []):=fun h=>by unfold jf; rw [if_neg (by omega),if_neg (by omega),if_neg (by omega),if_pos h]
 have H0:Hid (¬ p.k=2→¬ p.k=3→¬ p.k=12→¬ p.k=13→jf p.k p.n p.x p.xs p.gs cols=0):=fun h1 h2 h3 h4=>by unfold jf; rw [if_neg h1,if_neg h2,if_neg h3,if_neg h4]
 generalize jf p.k p.n p.x p.xs p.gs cols=er at *;generalize eV cols p.x []=e2 at *;generalize iv cols p.xs []=e3 at *;generalize df cols p.xs p.gs []=e12 at *;generalize kh cols p.xs p.n []=e13 at *;generalize iq cols p.x []=z2 at *;generalize nd cols p.xs []=z3 at *;generalize fp cols p.xs p.gs []=z12 at *;generalize mV cols p.xs p.n []=z13 at *;obtain ⟨p0,p1,p2,p8,p9,p10⟩:=E;obtain ⟨x0,x1,x2,x3,x4,x5⟩:=p2;simp only [Np] at p1 x0 x1 x2 x3 x4 x5 p8 p9 p10;unfold lC at c2;unfold bP;go_enter Tryz.func140,Tryz.ntmps140;by_cases k2:p.k=2
 ·have e:=H2.out k2;subst e;have kb:(p.k == 2)=true:=by simpa using k2
  clear H2 H3 H12 H13 H0 c3 c12 c13 k2;go_wp2_with fail
  generalize w.alloc (.cells (eS p q) 31)=wA at *;refine c2.mono ?_;rintro e w5 ⟨v5,rfl,O5,hb5⟩;clear c2 O5;dsimp only;go_wp2
  go_ret;exact ⟨rfl,chain hA hb5⟩
 have b2:(p.k == 2)=false:=by rw [beq_eq_false_iff_ne]; exact k2
 by_cases k3:p.k=3
 ·have e:=H3.out k3;subst e;have kb:(p.k == 3)=true:=by simpa using k3
  clear H2 H3 H12 H13 H0 c2 c12 c13 k3 k2;go_wp2_with fail
  generalize w.alloc (.cells (eS p q) 31)=wA at *;refine c3.mono ?_;rintro e w5 ⟨v5,rfl,O5,hb5⟩;clear c3 O5;dsimp only;go_wp2
  go_ret;exact ⟨rfl,chain hA hb5⟩
 have b3:(p.k == 3)=false:=by rw [beq_eq_false_iff_ne]; exact k3
 by_cases k12:p.k=12
 ·have e:=H12.out k12;subst e;have kb:(p.k == 12)=true:=by simpa using k12
  clear H2 H3 H12 H13 H0 c2 c3 c13 k12 k2 k3;go_wp2_with fail
  generalize w.alloc (.cells (eS p q) 31)=wA at *;refine c12.mono ?_;rintro e w5 ⟨v5,rfl,O5,hb5⟩;clear c12 O5;dsimp only;go_wp2
  go_ret;exact ⟨rfl,chain hA hb5⟩
 have b12:(p.k == 12)=false:=by rw [beq_eq_false_iff_ne]; exact k12
 by_cases k13:p.k=13
 ·have e:=H13.out k13;subst e;have kb:(p.k == 13)=true:=by simpa using k13
  clear H2 H3 H12 H13 H0 c2 c3 c12 k13 k12 k2 k3;go_wp2_with fail
  generalize w.alloc (.cells (eS p q) 31)=wA at *;refine c13.mono ?_;rintro e w5 ⟨v5,rfl,O5,hb5⟩;clear c13 O5;dsimp only;go_wp2
  go_ret;exact ⟨rfl,chain hA hb5⟩
 have b13:(p.k == 13)=false:=by rw [beq_eq_false_iff_ne]; exact k13
 have e:=H0.out k2 k3 k12 k13;subst e;clear H2 H3 H12 H13 H0 c2 c3 c12 c13 k2 k3 k12 k13;go_wp2
 go_ret;exact ⟨rfl,hA⟩
end Go.Proofs.YtohjlfhmnmcndaaGreat
