import Derived.Test.YtoefpglknaiaeaaGreatMW12
set_option maxHeartbeats 16000000
set_option maxRecDepth 100000
namespace Go.Proofs.YtoefpglknaiaeaaGreat
open Go.RowKit Go.Lib Go.Shelf _root_.Go.Proofs.Tryz
theorem Lm:(Tryz.prog.info? 162).map (fun i=>(i.zero,i.size,i.bytes))=some (some (.agg #[bX,bX]),2,48):=by kernel_rfl
theorem CP (a:Option Addr) (cap:Nat) (L:List Kp) (w:World) (h:wb w a L) (hl:L.length≤400) :
  Calls prog 135 #[.slice a L.length cap] w fun e w'=>∃ v,e = .returned v∧np w w w' v (dJ L)∧Below w w w':=by
 obtain ⟨i0,hi,hj0,hj1,hj2⟩:=info_parts Tryz.fK;obtain ⟨ip,hip,hp0,hp1,hp2⟩:=info_parts Lm;go_enter func135,ntmps135;go_wp2_with fail
 go_loopw [3,9] (fun v i wr=>∃ k:Nat,k≤L.length∧i = .int .i64 k∧np w w wr v (dJ (L.take k))∧Below w w wr) (fun _ i _=>L.length - (intOf i).toNat)
 case atStart=>exact ⟨0,MD _,rfl,np.nil _ _ _ (Mx _),Mz _ _⟩
 case round =>
  obtain ⟨k,hk,rfl,HPs,hb⟩:=hrel;have hz:=hb.size;by_cases hlt:k<L.length
  ·obtain ⟨b,off,rfl,hbl,e2,⟨ra,rc,e1,sr⟩,ka,kc,e0,sk⟩:=h.elem hlt;have p2:=(hb.cell (p:=⟨b,_,none⟩) hbl).trans e2;have p1:=(hb.cell (p:=⟨b,_,none⟩) hbl).trans e1;have p0:=(hb.cell (p:=⟨b,_,none⟩) hbl).trans e0;have hbl':=My hbl hz;have HSr:=aB sr;have HSk:=aB sk;have HT:=aB (Ac hlt);have hsz:=qT (L.take k);rw [MR] at hsz;have HSm:Hid (∀ p ∈ dJ (L.take k),p.2.length≤400):=fun p hp=>by have:=hsz.2 p hp; omega
   have hpn:(dJ (L.take k)).length≤400:=by have:=hsz.1; omega
   obtain ⟨va,vc,ev⟩:∃ va vc,u3 = .slice va (dJ (L.take k)).length vc:=by obtain ⟨_,_,_,_,I⟩:=HPs; exact fa I.own
   subst ev;obtain ⟨hal,q0⟩:=iV wr #[.slice ka L[k].1.length kc,.slice ra L[k].2.1.length rc,.int .i64 L[k].2.2] 165;have hbk:=chain hb hal;have HPk:=HPs.next hal;clear e0 e1 e2 sr sk hsz HPs;go_upto_region 5 with fail
   clear p0 p1 p2;generalize wr.alloc _=wk at *;obtain ⟨ps,eps⟩:∃ ps,ps=dJ (L.take k):=⟨_,rfl⟩
   by_cases h0:ps.length=0
   rotate_left;refine Wr.o ?_;rotate_left
   have HOp:Hid (cY (dJ (L.take k)) L[k]=ps ++ [(L[k].1,[])]):=by show _=_; rw [← eps]; exact Er h0 _
   rw [← eps] at HPk HSm hpn ⊢;clear eps;obtain rfl:ps = []:=MH h0;haveI:Nonempty (cF wk):=⟨⟨wk,Mz _ _⟩⟩
   refine aq aG aG ?_
   repeat (go_big_quiet_step (fail))
   refine wpQuiet_nil ?_;rintro wq ⟨⟨v7,hb7⟩,h7⟩;obtain rfl:wq=v7:=h7;have HPq:=HPk.next hb7;have hbq:=chain hbk hb7;have qq:=iX hb7 q0;clear HPk h0;obtain ⟨xs,Bl,rv,zs,In⟩:=HPq;have ho:=In.own;have HInq:=aB In;have kq:=cell_of (i:=0) qq rfl;have hzq:=hbq.size;clear In
   go_wp2_with (first | (at_builtin; refine MX _ rfl _ _ 157 rfl w 162 ip _ 2 48 underlying157 hip hp0 hp1 hp2 rfl (by decide) _ _ _ rfl (ho.alloc _) (ah wq 0) 1 1 [.slice ka L[k].1.length kc,bX] rfl rfl ?Bc1 ?Bc2 ?Bc3 ?Bc4 ?Bc5 ?_))
   case Bc1 =>
    intro i u hu
    match i,hu with
    | 0,hu=>simp at hu; subst hu; simp [Addr.add]
    | 1,hu=>simp at hu; subst hu; simp [Addr.add]
   case Bc2=>intro u hu; simp at hu; rcases hu with rfl | rfl <;> rfl
   case Bc3=>unfold maxLen; omega
   case Bc4=>omega
   case Bc5=>simp; omega
   intro v' wx ox gx _;have halq:=aN wq (.cells #[.slice ka L[k].1.length kc,bX] 162);have oq:=ho.alloc (.cells #[.slice ka L[k].1.length kc,bX] 162);have HPx:=(HInq.out.next halq).push HSk.out gx (by first | exact ox | (rw [hm]; exact ox));have hbx:=(chain hbq halq).grown gx (by simp; omega) (fun q hq=>(oq.lt q hq).1)
   have qx:wx.heap[wr.heap.size]? = some (.cells #[.slice ka L[k].1.length kc,.slice ra L[k].2.1.length rc,.int .i64 L[k].2.2] 165 (0,0)):=by
    have qa:=iX halq qq;exact (gx.block _ (an qa) (fun e=>jW oq qa (by decide) e.symm)).trans qa
   have q0x:=qx;obtain ⟨ps1,eps1⟩:∃ ps1,ps1=([]:List Pt) ++ [(L[k].1,[])]:=⟨_,rfl⟩
   obtain ⟨m,hmm⟩:∃ m,m=0:=⟨_,rfl⟩
   have hm4:m≤400:=by omega
   rw [← eps1] at HPx;have hm1:ps1.length=m+1:=by rw [hmm,eps1,ME]; first | rfl | (rw [hm]; rfl)
   have eo:cY (dJ (L.take k)) L[k]=ps1:=by rw [eps1]; exact HOp.out
   have hsm:∀ p ∈ ps1,p.2.length≤400:=fun p hp=>by
    rw [eps1] at hp;rcases List.mem_append.1 hp with hp | hp
    ·exact HSm.out p hp
    ·rw [List.mem_singleton.1 hp]; exact MD _
   obtain ⟨g,c,evx⟩:∃ g c,v' = .slice (some (ah g 0)) ps1.length c:=by
    obtain ⟨xs',_,_,_,I'⟩:=HPx;rcases I'.own.2 with ⟨_,h2⟩ | ⟨g2,c2,_,h2,_⟩
    ·omega
    ·exact ⟨g2,c2,h2⟩
   subst evx;clear eps1 ox gx oq HInq ho kq halq hmm;have hmlt:m<ps1.length:=by omega
   refine Wr.o ?_;rotate_left;refine ⟨?_⟩
   obtain ⟨mm,hm⟩:∃ mm,ps.length=mm+1:=⟨ps.length - 1,by omega⟩
   have hmm:mm<ps.length:=by omega
   rw [← eps] at HPk HSm hpn ⊢;have Eps:=aB eps;clear eps;rw [hm] at HPk ⊢;obtain ⟨g0,eva⟩:∃ g0,va=some ⟨g0,0,none⟩:=by
    obtain ⟨_,_,_,_,I⟩:=HPk;rcases I.own.2 with ⟨_,h2⟩ | ⟨g2,c2,_,h2,_⟩
    ·omega
    ·exact ⟨g2,by injection h2⟩
   subst eva;obtain ⟨la,lc,ck,sk,hgk⟩:∃ la lc,wk.cell? ⟨g0,mm*2,none⟩=some (.slice la ps[mm].1.length lc)∧aZ w la ps[mm].1∧g0<wk.heap.size:=by
    obtain ⟨xs,_,_,_,I⟩:=HPk;obtain ⟨la,lc,x0,s0⟩:=I.key mm hmm;have o:=I.own;rw [hm] at o;exact ⟨la,lc,by rw [o.cellAt _ ag]; exact x0,s0,(o.lt g0 rfl).2⟩
   have HSl:=aB sk;have m0:(0:Int)≤(mm:Int):=by omega
   have m1:(mm:Int)<(mm:Int)+1:=by omega
   have m2:(mm:Int)≤400:=by omega
   have mne:¬ (mm:Int)+1=0:=by omega
   have hCC:∀ W W':World,(W.heap[wr.heap.size]? = some (.cells #[.slice ka L[k].1.length kc,.slice ra L[k].2.1.length rc,.int .i64 L[k].2.2] 165 (0,0))∧W.cell? ⟨g0,mm*2,none⟩=some (.slice la ps[mm].1.length lc))→Below W W W'→(W'.heap[wr.heap.size]? = some (.cells #[.slice ka L[k].1.length kc,.slice ra L[k].2.1.length rc,.int .i64 L[k].2.2] 165 (0,0))∧W'.cell? ⟨g0,mm*2,none⟩=some (.slice la ps[mm].1.length lc)):=fun W W' h hb=>⟨(hb.block _ (an h.1)).trans h.1,(hb.cell (ML _ _ h.2)).trans h.2⟩
   have hdr:Below wk wk wk.drew:=(Mz _ _).drew;have CW:=hCC _ _ ⟨q0,ck⟩ hdr;clear sk h0;refine aP (fun W=>(W.heap[wr.heap.size]? = some (.cells #[.slice ka L[k].1.length kc,.slice ra L[k].2.1.length rc,.int .i64 L[k].2.2] 165 (0,0))∧W.cell? ⟨g0,mm*2,none⟩=some (.slice la ps[mm].1.length lc))) aG ?_
   refine bB hCC 13 0 (.slice (some (ah g0 0)) (mm+1) vc) (fun n hn=>?_) CW ?_
   ·go_simp
   simp only [pX];refine bB hCC 14 1 (.int .i64 ((mm:Int)+1)) (fun n hn=>?_) CW ?_
   ·go_simp
   simp only [pX];refine bB hCC 15 2 false (fun n hn=>?_) CW ?_
   ·go_simp
   simp only [pX];refine bB hCC 16 3 false (fun n hn=>?_) CW ?_
   ·go_simp
   simp only [pX];refine bB hCC 17 4 (.slice (some (ah g0 0)) (mm+1) vc) (fun n hn=>?_) CW ?_
   ·go_simp
   simp only [pX];refine bB hCC 18 5 (.slice (some (ah g0 0)) (mm+1) vc) (fun n hn=>?_) CW ?_
   ·go_simp
   simp only [pX];refine bB hCC 19 6 (.int .i64 ((mm:Int)+1)) (fun n hn=>?_) CW ?_
   ·go_simp
   simp only [pX];refine bB hCC 20 7 (.int .i64 (mm:Int)) (fun n hn=>?_) CW ?_
   ·go_simp;exact IntWalk.i64_in _ ⟨by omega,by omega⟩
   simp only [pX];refine bB hCC 21 8 (.pointer (some ⟨g0,mm*2,none⟩)) (fun n hn=>?_) CW ?_
   ·go_simp
   simp only [pX];refine bB hCC 22 9 (.pointer (some ⟨g0,mm*2,none⟩)) (fun n hn=>?_) CW ?_
   ·go_simp
   simp only [pX];refine bB hCC 23 10 (.slice la ps[mm].1.length lc) (fun n hn=>?_) CW ?_
   ·have hc:=hn.2;go_simp
   simp only [pX];refine bB hCC 24 11 (ah wr 0) (fun n hn=>?_) CW ?_
   ·go_simp
   simp only [pX];refine bB hCC 25 12 (.slice ka L[k].1.length kc) (fun n hn=>?_) CW ?_
   ·have hc:=cell_of (i:=0) hn.1 rfl;go_simp
   simp only [pX];refine gp 13 aG fun w3 hb3=>?_
   have CW3:=hCC _ _ CW hb3;have D3:=chain hdr hb3;have con:=oU la ka lc kc ps[mm].1 L[k].1 w3 (HSl.out.next (chain hbk D3)) (HSk.out.next (chain hbk D3));generalize hcm:aF ps[mm].1 L[k].1=cm at con;have HCm:=aB hcm;clear hcm;refine wpOp_step rfl (fun K hK=>?_);go_simp;refine bC con fun w4 hb4=>?_;clear con;have CW4:=hCC _ _ CW3 hb4;have D4:=chain D3 hb4;refine hK _ _ ⟨CW4,?_⟩;clear hK K CW3
   refine bB hCC 27 14 (.bool (cm != 0)) (fun n hn=>?_) CW4 ?_
   ·go_simp
   simp only [pX];refine bB hCC 28 15 (.bool (cm != 0)) (fun n hn=>?_) CW4 ?_
   ·go_simp
   simp only [pX];refine cA aG ?_;intro wq hbw;have D5:=chain D4 hbw;have HPq:=HPk.next D5;have hbq:=chain hbk D5;have qq:=iX D5 q0;clear CW CW4 hCC D4 D3 D5 hbw HPk;by_cases hc0:cm=0
   rotate_left;refine Wr.o ?_;rotate_left;rotate_left
   have hcb:(cm != 0)=false:=by simp [hc0]
   rw [hcb];have eo:cY (dJ (L.take k)) L[k]=ps:=by rw [← Eps.out]; exact BI hm (by rw [HCm.out]; exact hc0)
   clear Eps hcb;obtain ⟨wx,hwx⟩:∃ z,z=wq:=⟨_,rfl⟩
   subst hwx;obtain ⟨m,hmx⟩:∃ z,z=mm:=⟨_,rfl⟩
   subst hmx;obtain ⟨ps1,hpx⟩:∃ z,z=ps:=⟨_,rfl⟩
   subst hpx;obtain ⟨g,hgx0⟩:∃ z,z=g0:=⟨_,rfl⟩
   subst hgx0;obtain ⟨c,hcx⟩:∃ z,z=vc:=⟨_,rfl⟩
   subst hcx;have hm1:=hm;have q0x:=qq;have hbx:=hbq;have hsm:=HSm.out;have HPx:np w w wx (.slice (some (ah g 0)) ps1.length c) ps1:=by rw [hm]; exact HPq
   clear HPq;go_wp2_with fail
   have hmlt:m<ps1.length:=by omega
   refine Wr.o ?_;rotate_left;refine ⟨?_⟩
   have hcb:(cm != 0)=true:=by simp [hc0]
   rw [hcb];have HOp:Hid (cY (dJ (L.take k)) L[k]=ps ++ [(L[k].1,[])]):=by show _=_; rw [← Eps.out]; exact yp hm (by rw [HCm.out]; exact hc0)
   clear Eps hcb;obtain ⟨xs,Bl,rv,zs,In⟩:=HPq;have ho:=In.own;have HInq:=aB In;have kq:=cell_of (i:=0) qq rfl;have hzq:=hbq.size;clear In;go_wp2_with (first | (at_builtin; refine MX _ rfl _ _ 157 rfl w 162 ip _ 2 48 underlying157 hip hp0 hp1 hp2 rfl (by decide) _ _ _ rfl (ho.alloc _) (ah wq 0) 1 1 [.slice ka L[k].1.length kc,bX] rfl rfl ?Bc1 ?Bc2 ?Bc3 ?Bc4 ?Bc5 ?_))
   case Bc1 =>
    intro i u hu
    match i,hu with
    | 0,hu=>simp at hu; subst hu; simp [Addr.add]
    | 1,hu=>simp at hu; subst hu; simp [Addr.add]
   case Bc2=>intro u hu; simp at hu; rcases hu with rfl | rfl <;> rfl
   case Bc3=>unfold maxLen; omega
   case Bc4=>omega
   case Bc5=>simp; omega
   intro v' wx ox gx _;have halq:=aN wq (.cells #[.slice ka L[k].1.length kc,bX] 162);have oq:=ho.alloc (.cells #[.slice ka L[k].1.length kc,bX] 162);have HPx:=(HInq.out.next halq).push HSk.out gx (by first | exact ox | (rw [hm]; exact ox));have hbx:=(chain hbq halq).grown gx (by simp; omega) (fun q hq=>(oq.lt q hq).1)
   have qx:wx.heap[wr.heap.size]? = some (.cells #[.slice ka L[k].1.length kc,.slice ra L[k].2.1.length rc,.int .i64 L[k].2.2] 165 (0,0)):=by
    have qa:=iX halq qq;exact (gx.block _ (an qa) (fun e=>jW oq qa (by decide) e.symm)).trans qa
   have q0x:=qx;obtain ⟨ps1,eps1⟩:∃ ps1,ps1=ps ++ [(L[k].1,[])]:=⟨_,rfl⟩
   obtain ⟨m,hmm⟩:∃ m,m=(mm+1):=⟨_,rfl⟩
   have hm4:m≤400:=by omega
   rw [← eps1] at HPx;have hm1:ps1.length=m+1:=by rw [hmm,eps1,ME]; first | rfl | (rw [hm]; rfl)
   have eo:cY (dJ (L.take k)) L[k]=ps1:=by rw [eps1]; exact HOp.out
   have hsm:∀ p ∈ ps1,p.2.length≤400:=fun p hp=>by
    rw [eps1] at hp;rcases List.mem_append.1 hp with hp | hp
    ·exact HSm.out p hp
    ·rw [List.mem_singleton.1 hp]; exact MD _
   obtain ⟨g,c,evx⟩:∃ g c,v' = .slice (some (ah g 0)) ps1.length c:=by
    obtain ⟨xs',_,_,_,I'⟩:=HPx;rcases I'.own.2 with ⟨_,h2⟩ | ⟨g2,c2,_,h2,_⟩
    ·omega
    ·exact ⟨g2,c2,h2⟩
   subst evx;clear eps1 ox gx oq HInq ho kq halq hmm;have hmlt:m<ps1.length:=by omega
   refine Wr.o ?_
   all_goals
    refine ⟨?_⟩
    obtain ⟨xs,Bl,rv,zs,In⟩:=HPx;have HIn:=aB In;have hgB:=(In.own.lt g rfl).1;have hgx:=(In.own.lt g rfl).2;have hgl:g=wr.heap.size→False:=fun e=>jW In.own q0x (by decide) (show some g=some wr.heap.size by rw [e])
    obtain ⟨rva,rvc,erv⟩:∃ rva rvc,rv m = .slice rva ps1[m].2.length rvc:=fa (In.row m hmlt).1;have cx:wx.cell? ⟨g,m*2+1,none⟩=some (.slice rva ps1[m].2.length rvc):=by
     have:=In.own;rw [this.cellAt _ ag,In.cell m hmlt,erv]
    have hrow1:=hsm ps1[m] (MC hmlt);have ev:Value.slice (some (ah g 0)) (m+1) c = .slice (some (ah g 0)) ps1.length c:=by rw [hm1]
    have m0:(0:Int)≤(m:Int):=by omega
    have m1:(m:Int)<(m:Int)+1:=by omega
    have m2:(m:Int)≤400:=by omega
    clear In;try rw [hm1]
    go_upto_region 8 with fail
    have hCC:∀ W W':World,(W.heap[wr.heap.size]? = some (.cells #[.slice ka L[k].1.length kc,.slice ra L[k].2.1.length rc,.int .i64 L[k].2.2] 165 (0,0)))→Below W W W'→(W'.heap[wr.heap.size]? = some (.cells #[.slice ka L[k].1.length kc,.slice ra L[k].2.1.length rc,.int .i64 L[k].2.2] 165 (0,0))):=fun W W' h hb=>(hb.block _ (an h)).trans h
    have hdr:Below wx wx wx.drew:=(Mz _ _).drew;have CW:=hCC _ _ q0x hdr;refine aP (fun W=>(W.heap[wr.heap.size]? = some (.cells #[.slice ka L[k].1.length kc,.slice ra L[k].2.1.length rc,.int .i64 L[k].2.2] 165 (0,0)))) aG ?_;refine bB hCC 40 0 (.pointer (some ⟨g,m*2,none⟩)) (fun n hn=>?_) CW ?_
    ·go_simp
    simp only [pX];refine bB hCC 41 1 (.pointer (some ⟨g,m*2,none⟩)) (fun n hn=>?_) CW ?_
    ·go_simp
    simp only [pX];refine bB hCC 42 2 (.pointer (some ⟨g,m*2,none⟩)) (fun n hn=>?_) CW ?_
    ·go_simp
    simp only [pX];refine bB hCC 43 3 (.pointer (some ⟨g,m*2+1,none⟩)) (fun n hn=>?_) CW ?_
    ·go_simp
    simp only [pX];refine bB hCC 45 5 (ah wr 1) (fun n hn=>?_) CW ?_
    ·go_simp
    simp only [pX];refine bB hCC 46 6 (.agg #[.slice ra L[k].2.1.length rc,.int .i64 L[k].2.2]) (fun n hn=>?_) CW ?_
    ·have hc:=cell_of (i:=1) hn rfl;have hc1:=cell_of (i:=2) hn rfl;go_simp
    simp only [pX];refine jC (rs:=[4,7]) aG (by simp) ?_;intro w3 hb3 jj hj;have D3:=chain hdr hb3;have CW3:=hCC _ _ CW hb3;rcases (by simpa using hj:jj=4∨jj=7) with rfl | rfl
    clear hj;have c3:=(D3.cell (p:=⟨g,m*2+1,none⟩) hgx).trans cx;refine wpOp_step rfl (fun K hK=>?_);go_simp;refine hK _ _ ⟨CW3,?_⟩;clear hK K;try simp only [pX]
    refine gp 7 aG fun w5 hb5=>?_
    refine wpOp_step rfl (fun K hK=>?_);go_simp;obtain ⟨hal5,q6⟩:=iV w5 #[.slice ra L[k].2.1.length rc,.int .i64 L[k].2.2] 47;have D6:=chain (chain D3 hb5) hal5;have CWt:=hCC _ _ (hCC _ _ CW3 hb5) hal5;refine hK _ _ ⟨CWt,?_⟩;clear hK K c3 CW3;generalize w5.alloc _=w6 at *;try simp only [pX]
    refine gp 8 aG fun w7 hb7=>?_
    have D7:=chain D6 hb7;have CW7:=hCC _ _ CWt hb7;have q7:=iX hb7 q6;have I7:=HIn.out.next D7;have rl7:w7.ownsRow Bl 47 2 (.slice rva ps1[m].2.length rvc) ps1[m].2.length (zs m):=by
     have:=(I7.row m hmlt).1;rw [if_pos hm1.symm,erv] at this;exact this
    have hBl7:=I7.hi;refine wpOp_step rfl (fun K hK=>?_);refine Eq.mpr (if_pos aG) ?_;refine dH (some 48) rfl (Operand.tmp 44) (Operand.tmp 47) 38 rfl Bl 47 i0 _ 2 32 underlying38 hi hj0 hj1 hj2 rfl (by decide) (.slice rva ps1[m].2.length rvc) ps1[m].2.length (zs m) rfl rl7 (ah w5 0) 1 1 [.slice ra L[k].2.1.length rc,.int .i64 L[k].2.2] rfl rfl ?Ac1 ?Ac2 ?Ac3 ?Ac4 ?Ac5 ?_
    case Ac1 =>
     intro j u hj
     match j,hj with
     | 0,hj=>simp at hj; subst hj; exact cell_of (i:=0) q7 rfl
     | 1,hj=>simp at hj; subst hj; exact cell_of (i:=1) q7 rfl
    case Ac2=>intro u hu; simp at hu; rcases hu with rfl | rfl <;> rfl
    case Ac3=>unfold maxLen; omega
    case Ac4=>omega
    case Ac5=>exact hBl7
    rotate_left;clear hj;refine wpOp_step rfl (fun K hK=>?_);go_simp;obtain ⟨hal4,q4⟩:=iV w3 #[.slice ra L[k].2.1.length rc,.int .i64 L[k].2.2] 47;have D4:=chain D3 hal4;have CW4:=hCC _ _ CW3 hal4;refine hK _ _ ⟨CW4,?_⟩;clear hK K;generalize w3.alloc _=w4 at *;try simp only [pX]
    refine gp 4 aG fun w6 hb6=>?_
    have D6:=chain D4 hb6;have CWt:=hCC _ _ CW4 hb6;have q6:=iX hb6 q4;have c6:=(D6.cell (p:=⟨g,m*2+1,none⟩) hgx).trans cx;refine wpOp_step rfl (fun K hK=>?_);go_simp;refine hK _ _ ⟨CWt,?_⟩;clear hK K c6 CW3 CW4;try simp only [pX]
    refine gp 8 aG fun w7 hb7=>?_
    have D7:=chain D6 hb7;have CW7:=hCC _ _ CWt hb7;have q7:=iX hb7 q6;have I7:=HIn.out.next D7;have rl7:w7.ownsRow Bl 47 2 (.slice rva ps1[m].2.length rvc) ps1[m].2.length (zs m):=by
     have:=(I7.row m hmlt).1;rw [if_pos hm1.symm,erv] at this;exact this
    have hBl7:=I7.hi;refine wpOp_step rfl (fun K hK=>?_);refine Eq.mpr (if_pos aG) ?_;refine dH (some 48) rfl (Operand.tmp 44) (Operand.tmp 47) 38 rfl Bl 47 i0 _ 2 32 underlying38 hi hj0 hj1 hj2 rfl (by decide) (.slice rva ps1[m].2.length rvc) ps1[m].2.length (zs m) rfl rl7 (ah w3 0) 1 1 [.slice ra L[k].2.1.length rc,.int .i64 L[k].2.2] rfl rfl ?Ac1 ?Ac2 ?Ac3 ?Ac4 ?Ac5 ?_
    case Ac1 =>
     intro j u hj
     match j,hj with
     | 0,hj=>simp at hj; subst hj; exact cell_of (i:=0) q7 rfl
     | 1,hj=>simp at hj; subst hj; exact cell_of (i:=1) q7 rfl
    case Ac2=>intro u hu; simp at hu; rcases hu with rfl | rfl <;> rfl
    case Ac3=>unfold maxLen; omega
    case Ac4=>omega
    case Ac5=>exact hBl7
    all_goals
     intro v8 w8 o8 g8 _;have nb8:∀ q,Value.ownBlock (.slice rva ps1[m].2.length rvc)=some q→w.heap.size≤q∧q<w7.heap.size∧(q=wr.heap.size→False)∧(q=g→False):=fun q hq=>by
      have h1:=rl7.lt q hq;refine ⟨MO I7.lo h1.1,h1.2,fun e=>?_,fun e=>?_⟩
      ·exact jW rl7 CW7 (by decide) (by rw [hq,e])
      ·have o7:=I7.own;rcases om (by decide) rl7 o7 with h2 | h2
       ·rw [h2] at hq; cases hq
       ·exact h2 (by rw [hq,e]; rfl)
     have CW8:=(g8.block _ (an CW7) (fun e=>(nb8 _ e.symm).2.2.1 rfl)).trans CW7;have c8:w8.cell? ⟨g,m*2+1,none⟩=some (.slice rva ps1[m].2.length rvc)∧w8.frozen? ⟨g,m*2+1,none⟩=false:=by
      have o7:=I7.own;rw [hm1] at o7;have hb8:=g8.block g (o7.lt g rfl).2 (fun e=>(nb8 _ e.symm).2.2.2 rfl);refine ⟨(MP (a:=⟨g,m*2+1,none⟩) hb8).trans ?_,(NU (a:=⟨g,m*2+1,none⟩) hb8).trans (o7.frozenAt _)⟩;rw [o7.cellAt _ ag,I7.cell m hmlt,erv]
     have hg8:g<w8.heap.size:=by
      have o7:=I7.own;rw [hm1] at o7;exact My (o7.lt g rfl).2 g8.size
     refine hK _ _ ⟨CW8,?_⟩;clear hK K;try simp only [pX]
     refine bB hCC 49 9 (.pointer (some ⟨g,m*2,none⟩)) (fun n hn=>?_) CW8 ?_
     ·go_simp
     simp only [pX];refine bB hCC 50 10 (.pointer (some ⟨g,m*2+1,none⟩)) (fun n hn=>?_) CW8 ?_
     ·go_simp
     simp only [pX];refine gp 11 aG fun w9 hb9=>?_
     have c9:=(hb9.cell (p:=⟨g,m*2+1,none⟩) hg8).trans c8.1;have f9:=(hb9.frozen (p:=⟨g,m*2+1,none⟩) hg8).trans c8.2;have CW9:=hCC _ _ CW8 hb9;obtain ⟨v8a,v8c,ev8⟩:∃ v8a v8c,v8 = .slice v8a (ps1[m].2.length+1) v8c:=fa o8;have P9:np w w (w9.setCell ⟨g,m*2+1,none⟩ v8) (.slice (some (ah g 0)) (m+1) c) (iP ps1 L[k].2):=by
      have I7':=I7;rw [← ev] at I7';exact pQ.put I7' hm1 (rc:=rc) HSr.out (by rw [erv]; exact g8) o8 hb9
     have B9:Below w w (w9.setCell ⟨g,m*2+1,none⟩ v8):=((chain ((chain hbx D7).trans ((Mz _ _).grown g8 (MO hbx.size D7.size) (fun q hq=>(nb8 q hq).1))) hb9)).setCell (p:=⟨g,m*2+1,none⟩) hgB _;have CW10:((w9.setCell ⟨g,m*2+1,none⟩ v8).heap[wr.heap.size]? = some (.cells #[.slice ka L[k].1.length kc,.slice ra L[k].2.1.length rc,.int .i64 L[k].2.2] 165 (0,0))):=(Nf _ _ _ _ (fun e=>hgl e.symm)).trans CW9;subst ev8;refine wpOp_step rfl (fun K hK=>?_);go_simp;refine hK _ _ ⟨CW10,?_⟩;clear hK K CW7 CW8 CW9 c8 c9 f9 nb8 rl7 I7 q7 o8 g8
     generalize w9.setCell ⟨g,m*2+1,none⟩ (.slice v8a (ps1[m].2.length+1) v8c)=wS at *;try simp only [pX]
     refine cA aG ?_;intro wT hbT;have PT:=P9.next hbT;have BT:=chain B9 hbT;clear P9 B9 CW10 CW CWt;go_wp2_with fail
     go_roundw
     case rel=>exact ⟨k+1,by omega,by go_num,by rw [HT.out,eo]; first | exact PT | (rw [hm1]; exact PT),BT⟩
     case measure=>simp [intOf]; omega
  ·have e:k=L.length:=by omega
   subst e;rw [MM] at HPs;obtain ⟨va,vc,ev⟩:∃ va vc,u3 = .slice va (dJ L).length vc:=by obtain ⟨_,_,_,_,I⟩:=HPs; exact fa I.own
   subst ev;go_wp2_with fail
   go_ret;exact ⟨_,rfl,HPs,hb⟩
def cZ:Int→List Kp→List Zp
 | _,[]=>[]
 | n,x :: r=>(x.2.1,min x.2.2 n) :: cZ (n - min x.2.2 n) r
theorem yR:∀ (n:Int) (l:List Kp),(cZ n l).length=l.length
 | _,[]=>rfl
 | n,x :: r=>by simp [cZ,yR _ r]
theorem sL:∀ (n:Int) (l:List Kp),0≤n→(∀ x ∈ l,0<x.2.2)→∀ y ∈ cZ n l,(∃ x ∈ l,y.1=x.2.1)∧0≤y.2∧y.2≤n
 | _,[],_,_,y,hy=>by simp [cZ] at hy
 | n,x :: r,hn,hl,y,hy=>by
  rw [cZ] at hy
  have hx:=hl x (by simp)
  rcases List.mem_cons.1 hy with rfl | hy
  ·exact ⟨⟨x,by simp,rfl⟩,by simp only; omega,by simp only; omega⟩
  ·obtain ⟨⟨q,hq,e⟩,h1,h2⟩:=sL _ r ag (fun q hq=>hl q (by simp [hq])) y hy
   exact ⟨⟨q,by simp [hq],e⟩,h1,by omega⟩
theorem dL {xs:List Ex} {z:List Zp} {x:Kp}:x ∈ aY xs z↔(x.2 ∈ z∧0<x.2.2)∧x.1=bp xs x.2.1:=by
 rw [(gm xs z).mem_iff];unfold dq;rw [Np];constructor
 ·rintro ⟨p,hp,rfl⟩;have:=List.mem_filter.1 hp;exact ⟨⟨this.1,by simpa using this.2⟩,rfl⟩
 ·rintro ⟨⟨h1,h2⟩,h3⟩;exact ⟨x.2,List.mem_filter.2 ⟨h1,by simpa using h2⟩,by rw [← h3]⟩
def jU (cols:List Int) (xs:List Ex) (k:Int) (z:List Zp):Int:=if bM cols xs≠0 then bM cols xs else if k<0∨50<k then 3 else if bV cols z≠0 then bV cols z else aR (cZ k (aY xs z))
def lY (cols:List Int) (xs:List Ex) (k:Int) (z:List Zp):List Zp:=if jU cols xs k z=0 then canon (cZ k (aY xs z)) else []
theorem CT {n:Int} {l:List Kp} {j:Nat} (h:j<l.length):cZ n (l.drop j)=(l[j].2.1,min l[j].2.2 n) :: cZ (n - min l[j].2.2 n) (l.drop (j+1)):=by
 rw [MI h,cZ]
theorem F8 (cols:List Int) (xs:List Ex) (n:Int) (hn64:-9223372036854775808≤n∧n≤9223372036854775807) (ca:Option Addr) (ccap:Nat) (xa:Option Addr) (xcap:Nat) (a:Option Addr) (cap:Nat) (l:List Zp) (w:World) (hc:bf w w ca cols) (hk:aU w w xa xs) (h:aK w a l) :
  Calls prog 97 #[.slice ca cols.length ccap,.slice xa xs.length xcap,n,.slice a l.length cap] w fun e w'=>∃ v,e = .returned (.tuple #[v,.int .i64 (jU cols xs n l)])∧eA w w' v (lY cols xs n l)∧Below w w w':=by
 obtain ⟨i0,hi,hj0,hj1,hj2⟩:=info_parts Tryz.fK;have con:=xn cols xs ca ccap xa xcap w hk hc;generalize hfz:lY cols xs n l=fz;generalize hfe:jU cols xs n l=fe;have HZ:=aB hfz;have HF:=aB hfe;clear hfz hfe;by_cases h1:bM cols xs=0
 ·have H1:=aB h1;rw [h1] at con;clear h1;by_cases hr:n<0∨50<n
  ·have e0:fe=3:=by rw [← HF.out]; unfold jU; rw [H1.out,if_neg (by simp),if_pos hr]
   have e1:fz = []:=by rw [← HZ.out]; unfold lY; rw [HF.out,e0,if_neg (by decide)]
   subst e0;have HV:=aB e1;clear e1;go_enter func97,ntmps97;go_wp2_with fail
   refine con.mono ?_;rintro e w1 ⟨u,rfl,hL,hb1⟩;clear con hL;dsimp only;by_cases hr1:n<0
   ·go_wp2
    exact bJ rfl rfl ⟨_,rfl,by rw [HV.out]; exact ed _ _,hb1⟩
   ·have hr2:50<n:=by omega
    go_wp2
    exact bJ rfl rfl ⟨_,rfl,by rw [HV.out]; exact ed _ _,hb1⟩
  have hr1:¬ n<0:=fun h=>hr (.inl h)
  have hr2:¬ 50<n:=fun h=>hr (.inr h)
  have HRg:=aB hr;clear hr;go_enter func97,ntmps97;go_wp2_with fail
  refine con.mono ?_;rintro e w1 ⟨u,rfl,hL,hb1⟩;clear con;have hL:lM cols w u xs w1:=by
   rcases hL with ⟨_,hL⟩ | ⟨hL,_⟩
   ·exact hL
   ·exact absurd (by trivial) hL
  obtain ⟨g,cb,rfl,eg,d⟩:=hL;have HL:Hid (lM cols w (.func (.func g) #[] cb) xs w1):=⟨g,cb,rfl,eg,d⟩
  clear d;have con:=hU cols ca ccap a cap l w1 ((hc.next hb1 (Mx _)).up hb1.size) (h.next hb1);by_cases h2:bV cols l=0
  ·have hz:=(gj cols l).1 h2;rw [h2] at con;have H2:=aB h2;clear h2;have HE:Hid (fe=aR (cZ n (aY xs l))):=by
    show fe=_;rw [← HF.out]; unfold jU; rw [H1.out,H2.out,if_neg (by simp),if_neg HRg.out,if_neg (by simp)]
   have HV:Hid (fz=bh (cZ n (aY xs l))):=by
    show fz=_;rw [← HZ.out]; unfold lY bh; rw [HF.out,HE.out]
   have hl4:=dg hz;have HO:=aB hz;dsimp only;go_wp2_with fail
   refine bC con fun w2 hb2=>?_;clear con;have hA:=chain hb1 hb2;have con:=rT cols xs (.func (.func g) #[] cb) w.heap.size a cap l w2 (HL.out.next (aI.of hb2)) HO.out (h.next hA);have hil:=jv xs l;generalize hio:aY xs l=L at *;have HI:=aB hio;clear hio;dsimp only;go_wp2_with fail
   refine con.mono ?_;rintro e w3 ⟨a3,c3,rfl,kd,hb3⟩;clear con;have hA3:=chain hA hb3;dsimp only;have HP:Hid (∀ x ∈ L,0<x.2.2):=fun x hx=>by rw [← HI.out] at hx; exact (dL.1 hx).1.2
   have HW:Hid (∀ x ∈ L,x.2.2≤1000000):=fun x hx=>by
    rw [← HI.out] at hx;have:=jb HO.out x.2 (dL.1 hx).1.1;rw [cK] at this;exact this.2
   clear hz;go_wp2_with fail
   go_loopw [13,14,44] (fun v s14 i wr=>∃ (k:Nat) (lf:Int) (acc:List Zp),k≤L.length∧i = .int .i64 k∧s14 = .int .i64 lf∧0≤lf∧lf≤50∧acc.length≤k∧qW w3 w3 wr v acc∧Hid (cZ n L=acc ++ cZ lf (L.drop k))∧Below w3 w3 wr) (fun _ _ i _=>L.length - (intOf i).toNat)
   case atStart=>exact ⟨0,n,[],MD _,rfl,rfl,by omega,by omega,Mx _,⟨[],by simpa using M4 _ _ _ _,by simp [iy]⟩,rfl,Mz _ _⟩
   case round =>
    obtain ⟨k,lf,acc,hk',rfl,rfl,hf0,hf1,hacc,HOB,HT,hb⟩:=hrel;have hzr:=hb.size;by_cases hlt:k<L.length
    ·obtain ⟨b,off,rfl,hbl,e2,⟨ra,rc,e1,sr⟩,ka,kc,e0,_⟩:=kd.elem hlt;have p2:=(hb.cell (p:=⟨b,_,none⟩) hbl).trans e2;have p1:=(hb.cell (p:=⟨b,_,none⟩) hbl).trans e1;have p0:=(hb.cell (p:=⟨b,_,none⟩) hbl).trans e0;have hbl':=My hbl hzr;have HS:=aB sr;have hw0:=HP.out L[k] (MC hlt);have hw1:=HW.out L[k] (MC hlt);have HD:Hid (cZ lf (L.drop k)=(L[k].2.1,min L[k].2.2 lf) :: cZ (lf - min L[k].2.2 lf) (L.drop (k+1))):=CT hlt;obtain ⟨xs',ho,he⟩:=HOB;have HEn:=aB he
     have hal:=aN wr (.cells #[.slice ka L[k].1.length kc,.slice ra L[k].2.1.length rc,.int .i64 L[k].2.2] 165);have ho1:=aL ho hal;have za:(wr.alloc (.cells #[.slice ka L[k].1.length kc,.slice ra L[k].2.1.length rc,.int .i64 L[k].2.2] 165)).heap.size=wr.heap.size+1:=by simp
     clear e0 e1 e2 sr he ho;go_wp2_with (at_builtin; refine MX _ rfl _ _ 38 rfl w3 47 i0 _ 2 32 underlying38 hi hj0 hj1 hj2 rfl (by decide) _ _ _ rfl (ho1.alloc _) (ah (wr+1) 0) 1 1 [.slice ra L[k].2.1.length rc,.int .i64 (min L[k].2.2 lf)] rfl rfl ?Ac1 ?Ac2 ?Ac3 ?Ac4 ?Ac5 ?_)
     case Ac1 =>
      intro j u hj
      match j,hj with
      | 0,hj=>simp at hj; subst hj; simp [Addr.add]
      | 1,hj=>simp at hj; subst hj; simp [Addr.add]
     case Ac2=>intro u hu; simp at hu; rcases hu with rfl | rfl <;> rfl
     case Ac3=>unfold maxLen; omega
     case Ac4=>omega
     case Ac5=>simp; omega
     intro v' w5 ho5 hg5 _;have hb5:=(((Mz w3 wr).alloc ag _).alloc (by simp; omega) _).grown hg5 (by simp; omega) (fun q hq=>((ho1.alloc (.cells #[.slice ra L[k].2.1.length rc,.int .i64 (min L[k].2.2 lf)] 47)).lt q hq).1);have hb6:=hb.trans hb5;clear hg5 ho1 hal hb5;go_wp2
     go_roundw
     case rel=>exact ⟨k+1,lf - min L[k].2.2 lf,acc ++ [(L[k].2.1,min L[k].2.2 lf)],by omega,by go_num,rfl,by omega,by omega,by simp; omega,⟨_,by simpa using ho5,HEn.out.push HS.out⟩,by show cZ n L=_; rw [HT.out,HD.out]; simp,hb6⟩
     case measure=>simp [intOf]; omega
    ·have e:k=L.length:=by omega
     subst e;have ea:cZ n L=acc:=by have:=HT.out; rw [NY] at this; simpa [cZ] using this
     obtain ⟨a4,c4,rfl,zs4,_⟩:=HOB.zs hb;have hmem:=sL n L ag HP.out;have con:=eU a4 c4 acc wr zs4 ag (fun y hy=>by rw [← ea] at hy; have:=hmem y hy; rw [mg]; omega) (fun y hy=>by
      rw [← ea] at hy;obtain ⟨⟨x,hx,e⟩,_⟩:=hmem y hy;rw [e];rw [← HI.out] at hx;exact JR HO.out x.2 (dL.1 hx).1.1)
     have HV':=HV.out;have HE':=HE.out;rw [ea] at HV' HE';rw [← HE',← HV'] at con;clear HV' HE' zs4 HOB ea hmem;go_wp2_with fail
     refine con.mono ?_;rintro e w6 ⟨v6,rfl,O6,hb6⟩;have hA6:=chain hA3 hb;have O6':=O6.mono hA6.size;obtain ⟨a6,c6,rfl,_⟩:=O6.zs;clear con O6;dsimp only;go_wp2
     exact bJ rfl rfl ⟨_,rfl,O6',chain hA6 hb6⟩
  ·have e0:fe=bV cols l:=by rw [← HF.out]; unfold jU; rw [H1.out,if_neg (by simp),if_neg HRg.out,if_pos h2]
   have e1:fz = []:=by rw [← HZ.out]; unfold lY; rw [HF.out,e0,if_neg h2]
   have hne:(bV cols l != 0)=true:=by simpa using h2
   rw [← e0] at con hne;have HV:=aB e1;clear e0 e1 h2;dsimp only;go_wp2_with fail
   refine bC con fun w2 hb2=>?_;clear con;dsimp only;go_wp2
   exact bJ rfl rfl ⟨_,rfl,by rw [HV.out]; exact ed _ _,chain hb1 hb2⟩
 ·have e0:fe=bM cols xs:=by rw [← HF.out]; unfold jU; rw [if_pos h1]
  have e1:fz = []:=by rw [← HZ.out]; unfold lY; rw [HF.out,e0,if_neg h1]
  have hne:(bM cols xs != 0)=true:=by simpa using h1
  have HL:=aB h1;rw [← e0] at hne;have HV:=aB e1;have HN:=aB e0;clear e0 e1 h1;go_enter func97,ntmps97;go_wp2_with fail
  refine con.mono ?_;rintro e w1 ⟨u,rfl,hL,hb1⟩;obtain ⟨_,rfl⟩:¬ bM cols xs=0∧u = .nilFunc:=by
   rcases hL with ⟨hL,_⟩ | hL
   ·exact absurd hL HL.out
   ·exact hL
  rw [← HN.out];clear con;go_wp2
  exact bJ rfl rfl ⟨_,rfl,by rw [HV.out]; exact ed _ _,hb1⟩
theorem Et (L:List Kp):∀ p ∈ dJ L,(∀ r ∈ p.2,∃ x ∈ L,x.2=r)∧∃ x ∈ L,p.1=x.1:=by
 have aux:∀ (L:List Kp) (ps:List Pt) (P:Zp→Prop) (Q:List Vl→Prop),(∀ x ∈ L,P x.2∧Q x.1)→(∀ p ∈ ps,(∀ r ∈ p.2,P r)∧Q p.1)→∀ p ∈ L.foldl (fun ps x=>iP (cY ps x) x.2) ps,(∀ r ∈ p.2,P r)∧Q p.1:=by
  intro L
  induction L with
  | nil=>intro ps P Q _ h; exact h
  | cons x r ih =>
   intro ps P Q hL h;rw [NA];refine ih _ P Q (fun y hy=>hL y (by simp [hy])) ?_;have hx:=hL x (by simp);have ho:∀ p ∈ cY ps x,(∀ r ∈ p.2,P r)∧Q p.1:=fun p hp=>by
    have hnew:∀ p ∈ ps ++ [((x.1,[]):Pt)],(∀ r ∈ p.2,P r)∧Q p.1:=fun p hp=>by
     rcases List.mem_append.1 hp with hp | hp
     ·exact h p hp
     ·rw [List.mem_singleton.1 hp]; exact ⟨fun r hr=>by simp at hr,hx.2⟩
    unfold cY at hp
    split at hp
    ·exact hnew p hp
    ·split at hp
     ·exact h p hp
     ·exact hnew p hp
   intro p hp;unfold iP at hp
   split at hp
   ·exact ho p hp
   ·rename_i hne
    rcases List.mem_or_eq_of_mem_set hp with hp | rfl
    ·exact ho p hp
    ·have hl:=ho _ (MC (l:=cY ps x) (n:=(cY ps x).length - 1) ag);refine ⟨fun r hr=>?_,hl.2⟩;rcases List.mem_append.1 hr with hr | hr
     ·exact hl.1 r hr
     ·rw [List.mem_singleton.1 hr]; exact hx.1
 intro p hp;exact aux L [] (fun r=>∃ x ∈ L,x.2=r) (fun k=>∃ x ∈ L,k=x.1) (fun x hx=>⟨⟨x,hx,rfl⟩,⟨x,hx,rfl⟩⟩) (fun p hp=>by simp at hp) p hp
def dN (xs:List Ex) (L:List Kp):List Pt:=if xs.length=0∧(dJ L).length=0 then [([],[])] else dJ L
def dZ (xs:List Ex) (gs:List Ag) (L:List Kp):List Zp:=(dN xs L).map fun p=>(p.1 ++ gs.map fun g=>fF g p.2,1)
def dx (cols:List Int) (xs:List Ex) (gs:List Ag) (z:List Zp):Int:=if 8<xs.length+gs.length then 5 else if bM cols xs≠0 then bM cols xs else if dF cols gs≠0 then dF cols gs else if bV cols z≠0 then bV cols z else aR (dZ xs gs (aY xs z))
def ei (cols:List Int) (xs:List Ex) (gs:List Ag) (z:List Zp):List Zp:=if dx cols xs gs z=0 then canon (dZ xs gs (aY xs z)) else []
theorem GR {cols:List Int} {xs:List Ex} {z:List Zp} (h:gN cols z):(dN xs (aY xs z)).length≤401∧∀ p ∈ dN xs (aY xs z),Fv cols p.2∧p.1.length=xs.length:=by
 have hs:=qT (aY xs z);have hl:=jv xs z;have h4:=dg h;have hp:∀ p ∈ dJ (aY xs z),Fv cols p.2∧p.1.length=xs.length:=fun p hp=>by
  obtain ⟨h1,x,hx,e⟩:=Et (aY xs z) p hp;refine ⟨⟨by have:=hs.2 p hp; omega,fun r hr=>?_,fun r hr=>?_⟩,?_⟩
  ·obtain ⟨y,hy,rfl⟩:=h1 r hr;exact h.fit _ (dL.1 hy).1.1
  ·obtain ⟨y,hy,rfl⟩:=h1 r hr;have hm:=dL.1 hy;have:=jb h y.2 hm.1.1;rw [cK] at this;have:=hm.1.2;omega
  ·rw [e,(dL.1 hx).2]; simp [bp]
 unfold dN
 split
 ·rename_i hc
  refine ⟨by simp,fun p hp'=>?_⟩;rw [List.mem_singleton.1 hp'];exact ⟨⟨MD _,fun r hr=>by simp at hr,fun r hr=>by simp at hr⟩,hc.1.symm⟩
 ·exact ⟨by have:=hs.1; omega,hp⟩
def LA (W:World) (b o:Nat) (p:Pt):Prop:=(∃ ka kc,W.cell? (ah b o)=some (.slice ka p.1.length kc)∧aZ W ka p.1)∧∃ ra rc,W.cell? ⟨b,o+1,none⟩=some (.slice ra p.2.length rc)∧aK W ra p.2
theorem LA.next {W w1:World} {b o:Nat} {p:Pt} (h:LA W b o p) (hlt:b<W.heap.size) (hb:Below W W w1):LA w1 b o p:=by
 obtain ⟨⟨ka,kc,h1,h2⟩,ra,rc,h3,h4⟩:=h;exact ⟨⟨ka,kc,(hb.cell (p:=⟨b,_,none⟩) hlt).trans h1,h2.next hb⟩,ra,rc,(hb.cell (p:=⟨b,_,none⟩) hlt).trans h3,h4.next hb⟩
def AG (W:World) (a:Option Addr) (ps:List Pt):Prop:=ps = []∨∃ b off,a=some ⟨b,off,none⟩∧b<W.heap.size∧∀ i (hi:i<ps.length),LA W b (off+i*2) ps[i]
theorem AG.next {W w1:World} {a:Option Addr} {ps:List Pt} (h:AG W a ps) (hb:Below W W w1):AG w1 a ps:=by
 rcases h with h | ⟨b,off,e,hlt,h⟩
 ·exact .inl h
 ·exact .inr ⟨b,off,e,My hlt hb.size,fun i hi=>(h i hi).next hlt hb⟩
theorem AG.elem {W:World} {a:Option Addr} {ps:List Pt} (h:AG W a ps) {i:Nat} (hi:i<ps.length):∃ b off,a=some ⟨b,off,none⟩∧b<W.heap.size∧LA W b (off+i*2) ps[i]:=by
 rcases h with h | ⟨b,off,e,hlt,h⟩
 ·subst h; simp at hi
 ·exact ⟨b,off,e,hlt,h i hi⟩
theorem np.pt {w0:World} {B:Nat} {W:World} {v:Value} {ps:List Pt} (h:np w0 B W v ps) (hb:Below w0 w0 W):∃ a c,v = .slice a ps.length c∧AG W a ps:=by
 obtain ⟨xs,Bl,rv,zs,I⟩:=h;have o:=I.own;rcases o.2 with ⟨rfl,h0⟩ | ⟨g,cap,cur,rfl,_⟩
 ·exact ⟨none,0,by rw [h0],.inl (MH h0)⟩
 ·refine ⟨_,cap,rfl,.inr ⟨g,0,rfl,(o.lt g rfl).2,fun i hi=>?_⟩⟩;obtain ⟨ka,kc,e0,s0⟩:=I.key i hi;obtain ⟨ra,rc,er,zr⟩:=rC (I.Hp hi) rfl (I.row i hi).2 hb;refine ⟨⟨ka,kc,?_,s0.next hb⟩,ra,rc,?_,zr⟩
  ·rw [MG,o.cellAt _ ag]; exact e0
  ·rw [MG,o.cellAt _ ag,I.cell i hi,er]
theorem yt (cols:List Int) (xs:List Ex) (gs:List Ag) (hT:∀ g ∈ gs,dh cols g=0→iK g.1) (hsum:xs.length+gs.length≤9223372036854775807) (ca:Option Addr) (ccap:Nat) (xa:Option Addr) (xcap:Nat) (ga:Option Addr) (gcap:Nat) (a:Option Addr) (cap:Nat) (l:List Zp) (w:World) (hc:bf w w ca cols) (hk:aU w w xa xs) (hg:iO w w ga gs) (h:aK w a l) :
  Calls prog 96 #[.slice ca cols.length ccap,.slice xa xs.length xcap,.slice ga gs.length gcap,.slice a l.length cap] w fun e w'=>∃ v,e = .returned (.tuple #[v,.int .i64 (dx cols xs gs l)])∧eA w w' v (ei cols xs gs l)∧Below w w w':=by
 obtain ⟨i0,hi,hz0,hz1,hz2⟩:=info_parts Tryz.fK;have con:=xn cols xs ca ccap xa xcap w hk hc;generalize hfz:ei cols xs gs l=fz;generalize hfe:dx cols xs gs l=fe;have HZ:=aB hfz;have HF:=aB hfe;have HTo:=aB hT;clear hfz hfe hT;have hW:IntKind.i64.wrap ((xs.length:Int)+(gs.length:Int))=(xs.length:Int)+(gs.length:Int):=IntWalk.i64_in _ ⟨by omega,by omega⟩;by_cases h8:8<xs.length+gs.length
 ·have e0:fe=5:=by rw [← HF.out]; unfold dx; rw [if_pos h8]
  have e1:fz = []:=by rw [← HZ.out]; unfold ei; rw [HF.out,e0,if_neg (by decide)]
  subst e0 e1;have hz:(8:Int)<(xs.length:Int)+(gs.length:Int):=by omega
  clear con;go_enter func96,ntmps96;go_wp2_with fail
  exact bJ rfl rfl ⟨_,rfl,ed _ _,Mz _ _⟩
 have hz:¬ (8:Int)<(xs.length:Int)+(gs.length:Int):=by omega
 have HN8:=aB h8;by_cases h1:bM cols xs=0
 ·have H1:=aB h1;rw [h1] at con;clear h1;go_enter func96,ntmps96;go_wp2_with fail
  refine con.mono ?_;rintro e w1 ⟨u,rfl,hL,hb1⟩;clear con;have hL:lM cols w u xs w1:=by
   rcases hL with ⟨_,hL⟩ | ⟨hL,_⟩
   ·exact hL
   ·exact absurd (by trivial) hL
  have HL:=aB hL;obtain ⟨ug,ucb,rfl⟩:∃ g cb,u = .func (.func g) #[] cb:=by obtain ⟨g,cb,e,_⟩:=hL; exact ⟨g,cb,e⟩
  clear hL;have con:=ux cols gs HTo.out ca ccap ga gcap w1 ((iO.next hb1 (Mx _) hg).up hb1.size) ((hc.next hb1 (Mx _)).up hb1.size) ag;by_cases h2:dF cols gs=0
  ·have H2:=aB h2;rw [h2] at con;clear h2;dsimp only;go_wp2_with fail
   refine con.mono ?_;rintro e w2 ⟨u2,rfl,hG,hb2⟩;clear con;have hG:Df cols w1 u2 gs w2:=by
    rcases hG with ⟨_,hG⟩ | ⟨hG,_⟩
    ·exact hG
    ·exact absurd (by trivial) hG
   obtain ⟨tg,tcb,rfl,egt,dt⟩:=hG;have HD:=aB dt;clear dt;have hA2:=chain hb1 hb2;have con:=hU cols ca ccap a cap l w2 ((hc.next hA2 (Mx _)).up hA2.size) (h.next hA2);by_cases h3:bV cols l=0
   ·have HO:=aB ((gj cols l).1 h3);rw [h3] at con;have H3:=aB h3;clear h3;have HE:Hid (fe=aR (dZ xs gs (aY xs l))):=by
     show fe=_;rw [← HF.out]; unfold dx; rw [if_neg HN8.out,H1.out,H2.out,H3.out,if_neg (by simp),if_neg (by simp),if_neg (by simp)]
    have HV:Hid (fz=bh (dZ xs gs (aY xs l))):=by
     show fz=_;rw [← HZ.out]; unfold ei bh; rw [HF.out,HE.out]
    have hl4:=dg HO.out;dsimp only;go_wp2_with fail
    refine bC con fun w3 hb3=>?_;clear con;have hA3:=chain hA2 hb3;have con:=rT cols xs (.func (.func ug) #[] ucb) w.heap.size a cap l w3 (HL.out.next (aI.of (chain hb2 hb3))) HO.out (h.next hA3);have hil:=jv xs l;dsimp only;go_wp2_with fail
    refine con.mono ?_;rintro e w4 ⟨a4,c4,rfl,kd,hb4⟩;clear con;have con:=CP a4 c4 (aY xs l) w4 kd ag;have hpk:=GR (xs:=xs) HO.out;have HPk:=aB hpk.2;have hpl:=hpk.1;clear hpk;dsimp only;go_wp2_with fail
    refine con.mono ?_;rintro e w5 ⟨v5,rfl,PS,hb5⟩;clear con kd;obtain ⟨a5,c5,rfl,PT⟩:=PS.pt hb5;clear PS;have hA5:=chain (chain hA3 hb4) hb5;have hS5:=chain (chain hb3 hb4) hb5;have HG:Hid (dZ xs gs (aY xs l)=(dN xs (aY xs l)).map fun p=>(p.1 ++ gs.map fun g=>fF g p.2,1)):=rfl;dsimp only;by_cases hcx:xs.length=0∧(dJ (aY xs l)).length=0
    rotate_left;refine Wr.o ?_;rotate_left
    obtain ⟨hx0,hp0⟩:=hcx;have eG:dN xs (aY xs l) = [([],[])]:=by unfold dN; rw [if_pos ⟨hx0,hp0⟩]
    have hx0b:((xs.length:Int) == 0)=true:=by simp [hx0]
    have hp0b:(((dJ (aY xs l)).length:Int) == 0)=true:=by simp [hp0]
    obtain ⟨ps,eps⟩:∃ ps,ps=dN xs (aY xs l):=⟨_,rfl⟩
    have HPs:=aB eps.symm;have hpsl:ps.length=1:=by rw [eps,eG]; rfl
    have hplx:ps.length≤401:=by omega
    generalize hpn:(dJ (aY xs l)).length=pn at *;obtain ⟨hal5,q5⟩:=iV w5 #[bX,bX] 162;have PT:AG (w5.alloc (.cells #[bX,bX] 162)) (some (ah w5 0)) ps:=by
     rw [eps,eG];refine .inr ⟨w5.heap.size,0,rfl,an q5,fun i hi=>?_⟩;have e0:i=0:=by simpa using hi
     subst e0;exact ⟨⟨none,0,cell_of (i:=0) q5 rfl,MD _,.inl rfl⟩,none,0,cell_of (i:=1) q5 rfl,MD _,.inl rfl⟩
    clear eps hpn eG hp0;go_upto_region 15 with fail
    have hbx:=chain hA5 hal5;have hSx:=chain hS5 hal5;generalize w5.alloc _=wx at *;obtain ⟨pa,epa⟩:∃ pa,pa=some ((ah w5 0):Addr):=⟨_,rfl⟩
    rw [← epa] at PT ⊢;clear epa;rw [show (1:Nat)=ps.length from hpsl.symm];clear hpsl hx0b hp0b hx0
    refine Wr.o ?_;rotate_left;refine ⟨?_⟩
    have eG:dN xs (aY xs l)=dJ (aY xs l):=by unfold dN; rw [if_neg hcx]
    obtain ⟨ps,eps⟩:∃ ps,ps=dN xs (aY xs l):=⟨_,rfl⟩
    have HPs:=aB eps.symm;have eP:dJ (aY xs l)=ps:=by rw [eps,eG]
    rw [eP] at hcx PT ⊢;have hplx:ps.length≤401:=by rw [eps]; exact hpl
    clear eps eG eP;obtain ⟨wx,hwx5⟩:∃ z,z=w5:=⟨_,rfl⟩
    subst hwx5;have hbx:=hA5;have hSx:=hS5;by_cases e1:xs.length=0;have e2n:¬ (ps.length:Int)=0:=fun e2=>hcx ⟨e1,by omega⟩
    have e2:((ps.length:Int) == 0)=false:=by rw [beq_eq_false_iff_ne]; exact e2n
    have e1b:((xs.length:Int) == 0)=true:=by simp [e1]
    clear hcx e1;go_upto_region 15 with fail
    clear e1b e2 e2n;rotate_left;have e1n:¬ (xs.length:Int)=0:=by omega
    have e1b:((xs.length:Int) == 0)=false:=by rw [beq_eq_false_iff_ne]; exact e1n
    clear hcx e1;go_upto_region 15 with fail
    clear e1b e1n
    all_goals
     try refine Wr.mk ?_
     have hgl:(dZ xs gs (aY xs l)).length=ps.length:=by rw [HG.out,HPs.out]; simp
     go_wp2_with (first | (at_make; refine wpList_make_full _ rfl _ _ 38 rfl wx 47 i0 _ 2 underlying38 hi hz0 hz1 .i64 .i64 ps.length ps.length ps.length rfl rfl rfl rfl (by rw [hz2]; omega) (by unfold maxLen; omega) (Mx _) ?_))
     intro w6 hown hgrow;have hb6:Below wx wx w6:=(Mz _ _).grown hgrow (Mx _) (by simp);obtain ⟨f,hf⟩:∃ f:Nat→Zp,f=(fun j=>(dZ xs gs (aY xs l)).getD j ([],0)):=⟨_,rfl⟩
     have HFn:=aB hf;have HGl:=aB hgl;clear hf hgl;have hB0:xz w6 wx ps.length f 0:=⟨_,hown,fun j _ hj=>absurd hj (M9 _)⟩
     clear hown hgrow;go_wp2_with fail
     go_loopw [67] (fun i wr=>∃ k:Nat,k≤ps.length∧i = .int .i64 k∧xz wr wx ps.length f k∧wx.heap.size<wr.heap.size∧Below wx wx wr) (fun i _=>ps.length - (intOf i).toNat)
     case atStart=>exact ⟨0,MD _,rfl,hB0,(by obtain ⟨xs0,o0,_⟩:=hB0; exact (o0.lt wx rfl).2),hb6⟩
     case round =>
      clear hB0 hb6;obtain ⟨k,hk',rfl,HB,hwx,hb⟩:=hrel;have hzz:=hb.size;by_cases hlt:k<ps.length
      ·obtain ⟨b,off,rfl,hbl,⟨ka,kc,c0,sk⟩,ra,rc,c1,zr⟩:=(PT.next hb).elem hlt;obtain ⟨hal,q0⟩:=iV wr #[.slice ka ps[k].1.length kc,.slice ra ps[k].2.length rc] 162;have hpo:=HPk.out ps[k] (by rw [HPs.out]; exact MC hlt);have HRo:=aB hpo.1;have hkl:=hpo.2;have HSk:=aB sk;have HZr:=aB zr;have ef:f k=(ps[k].1 ++ gs.map fun g=>fF g ps[k].2,1):=by
        rw [HFn.out];simp only [HG.out,HPs.out];simp [List.getD,hlt]
       have EF:=aB ef;have i0':(0:Int)≤(k:Int):=by omega
       have i1:(k:Int)<(ps.length:Int):=by omega
       have hkl8:ps[k].1.length+gs.length≤8:=by omega
       clear ef sk zr hpo hkl;go_wp2_with fail
       clear c0 c1;generalize wr.alloc _=wk at *;have hCC:∀ W W':World,(W.heap[wr.heap.size]? = some (.cells #[.slice ka ps[k].1.length kc,.slice ra ps[k].2.length rc] 162 (0,0)))→Below W W W'→(W'.heap[wr.heap.size]? = some (.cells #[.slice ka ps[k].1.length kc,.slice ra ps[k].2.length rc] 162 (0,0))):=fun W W' h hb=>(hb.block _ (an h)).trans h
       have hd:Below wk wk wk.drew:=(Mz _ _).drew;have CW:=hCC _ _ q0 hd;refine aP (fun W=>(W.heap[wr.heap.size]? = some (.cells #[.slice ka ps[k].1.length kc,.slice ra ps[k].2.length rc] 162 (0,0)))) aG ?_;refine bB hCC 72 0 (.slice (some (ah wx 0)) ps.length ps.length) (fun n hn=>?_) CW ?_
       ·go_simp
       simp only [pX];refine bB hCC 73 1 (.int .i64 (k:Int)) (fun n hn=>?_) CW ?_
       ·go_simp
       simp only [pX];refine bB hCC 74 2 (ah wr 0) (fun n hn=>?_) CW ?_
       ·go_simp
       simp only [pX];refine bB hCC 75 3 (.slice ka ps[k].1.length kc) (fun n hn=>?_) CW ?_
       ·have hc:=cell_of (i:=0) hn rfl;go_simp
       simp only [pX];refine bB hCC 76 4 (.func (.func tg) #[] tcb) (fun n hn=>?_) CW ?_
       ·go_simp
       simp only [pX];refine bB hCC 77 5 (ah wr 1) (fun n hn=>?_) CW ?_
       ·go_simp
       simp only [pX];refine bB hCC 78 6 (.slice ra ps[k].2.length rc) (fun n hn=>?_) CW ?_
       ·have hc:=cell_of (i:=1) hn rfl;go_simp
       simp only [pX];refine gp 7 aG fun w7 hb7=>?_
       have CW7:=hCC _ _ CW hb7;have D7:=chain hal (chain hd hb7);have con:=HD.out ps[k].2 ra rc w7 HRo.out (HZr.out.next D7) (aI.of (chain hSx (chain hb D7)));refine wpOp_step rfl (fun K hK=>?_);go_simp
       first | (refine con.mono ?_) | (go_at_fn tg; refine con.mono ?_)
       rintro e w8 ⟨rfl,hRN,hb8⟩;clear con;have CW8:=hCC _ _ CW7 hb8;have D8:=chain D7 hb8;refine hK _ _ ⟨CW8,?_⟩;clear hK K;refine gp 8 aG fun w9 hb9=>?_
       refine wpOp_step rfl (fun K hK=>?_);go_simp;have CW9:=hCC _ _ CW8 hb9;have D9:=chain D8 hb9;have R2:=fj (hRN.1.next hb9);have hgm:(gs.map fun g=>fF g ps[k].2).length=gs.length:=by simp
       rw [hgm] at R2;have PC:=jA.new kc gs.length (fj (HSk.out.next D9)) R2 45;have halA:=aN w9 (.cells #[.slice ka ps[k].1.length kc,.slice (some (ah w7 0)) gs.length gs.length] 45);have CWA:=hCC _ _ CW9 halA;have DA:=chain D9 halA;refine hK _ _ ⟨CWA,?_⟩;clear hK K R2 hgm hRN;generalize w9.alloc _=wA at *;refine jC (rs:=[9]) aG (by simp) ?_;intro wB hbB jj hj
       obtain rfl:jj=9:=by simpa using hj
       clear hj;refine wpOp_step rfl (fun K hK=>?_);go_simp;have CWB:=hCC _ _ CWA hbB;have DB:=chain DA hbB;refine (kY _ _ _ _ _ wB (PC.next hbB) ag).mono ?_;rintro e wC ⟨vC,rfl,OC,hbC⟩;rw [← bW] at OC;obtain ⟨aC,cC,rfl,SC,TC,_⟩:=dQ OC (by simp);have CWC:=hCC _ _ CWB hbC;have DC:=chain DB hbC;refine hK _ _ ⟨CWC,?_⟩;clear hK K OC PC CW7 CW8 CW9 CWA CWB CW;obtain ⟨rr,err⟩:∃ rr,rr=ps[k].1 ++ gs.map fun g=>fF g ps[k].2:=⟨_,rfl⟩
       rw [← err] at SC ⊢;have EFr:Hid (f k=(rr,1)):=by show _=_; rw [err]; exact EF.out
       clear err EF;refine bB hCC 82 10 (.agg #[.slice aC rr.length cC,(1:Int)]) (fun n hn=>?_) CWC ?_
       ·go_simp
       simp only [pX];refine bB hCC 83 11 (.pointer (some ⟨wx,k*2,none⟩)) (fun n hn=>?_) CWC ?_
       ·go_simp
       simp only [Act.put,pA,pB,pC];refine gp 12 aG fun wD hbD=>?_
       have CWD:=hCC _ _ CWC hbD;have DD:=chain DC hbD;have HBD:=(HB.next DD)
       obtain ⟨⟨u0,u1,d0,d1⟩,f0,f1,hlb⟩:=HBD.cells hlt;have MS:=HBD.step hlt (a:=aC) (cap:=cC) (by rw [EFr.out]; exact SC.next hbD) (TC.next hbD);rw [EFr.out] at MS;have hne:wr.heap.size≠wx.heap.size:=by omega
       have CWE:(((wD.setCell ⟨wx,k*2,none⟩ (.slice aC rr.length cC)).setCell ⟨wx,k*2+1,none⟩ (1:Int)).heap[wr.heap.size]? = some (.cells #[.slice ka ps[k].1.length kc,.slice ra ps[k].2.length rc] 162 (0,0))):=(Nf _ _ _ _ hne).trans ((Nf _ _ _ _ hne).trans CWD);have BE:Below wx wx ((wD.setCell ⟨wx,k*2,none⟩ (.slice aC rr.length cC)).setCell ⟨wx,k*2+1,none⟩ (1:Int)):=((chain hb DD).setCell (p:=⟨wx,k*2,none⟩) (Mx _) _).setCell (p:=⟨wx,k*2+1,none⟩) (Mx _) _
       have zE:wx.heap.size<((wD.setCell ⟨wx,k*2,none⟩ (.slice aC rr.length cC)).setCell ⟨wx,k*2+1,none⟩ (1:Int)).heap.size:=by simpa [World.setCell] using hlb
       refine wpOp_step rfl (fun K hK=>?_);go_simp;refine hK _ _ ⟨CWE,?_⟩;clear hK K CWD CWC d0 d1 f0 f1 HBD SC TC;generalize (wD.setCell ⟨wx,k*2,none⟩ (.slice aC rr.length cC)).setCell ⟨wx,k*2+1,none⟩ (1:Int)=wE at *;refine cA aG ?_;intro wF hbF;have MF:=MS.next hbF;have BF:=chain BE hbF;have zF:=hbF.size;clear MS BE CWE hCC;go_wp2_with fail
       go_roundw
       case rel=>exact ⟨k+1,by omega,by go_num,MF,by omega,BF⟩
       case measure=>simp [intOf]; omega
      ·have e:k=ps.length:=by omega
       subst e;have zsm:=HB.done (dZ xs gs (aY xs l)) HGl.out.symm (fun j hj=>by rw [HFn.out]; simp [List.getD,hj]) (by rw [HGl.out]; omega);have hmem:∀ y ∈ dZ xs gs (aY xs l),y.2=1∧y.1.length≤8:=fun y hy=>by
        rw [HG.out] at hy;obtain ⟨p,hp,rfl⟩:=List.mem_map.1 hy;have:=(HPk.out p hp).2;exact ⟨rfl,by simp; omega⟩
       have con:=eU (some (ah wx 0)) ps.length (dZ xs gs (aY xs l)) wr zsm (by rw [HGl.out]; omega) (fun y hy=>by rw [(hmem y hy).1]; rfl) (fun y hy=>(hmem y hy).2);rw [HGl.out,← HE.out,← HV.out] at con;clear zsm HB hmem;have hAr:=chain hbx hb;go_wp2_with fail
       refine con.mono ?_;rintro e w9 ⟨v9,rfl,O9,hb9⟩;have O9':=O9.mono hAr.size;obtain ⟨a9,c9,rfl,_⟩:=O9.zs;clear con O9;dsimp only;go_wp2_with fail
       exact bJ rfl rfl ⟨_,rfl,O9',chain hAr hb9⟩
   ·have e0:fe=bV cols l:=by rw [← HF.out]; unfold dx; rw [if_neg HN8.out,H1.out,H2.out,if_neg (by simp),if_neg (by simp),if_pos h3]
    have e1:fz = []:=by rw [← HZ.out]; unfold ei; rw [HF.out,e0,if_neg h3]
    have hne:(bV cols l != 0)=true:=by simpa using h3
    rw [← e0] at con hne;have HV:=aB e1;clear e0 e1 h3;dsimp only;go_wp2_with fail
    refine bC con fun w3 hb3=>?_;clear con;dsimp only;go_wp2_with fail
    exact bJ rfl rfl ⟨_,rfl,by rw [HV.out]; exact ed _ _,chain hA2 hb3⟩
  ·have e0:fe=dF cols gs:=by rw [← HF.out]; unfold dx; rw [if_neg HN8.out,H1.out,if_neg (by simp),if_pos h2]
   have e1:fz = []:=by rw [← HZ.out]; unfold ei; rw [HF.out,e0,if_neg h2]
   have hne:(dF cols gs != 0)=true:=by simpa using h2
   have HL2:=aB h2;rw [← e0] at hne;have HV:=aB e1;have HN:=aB e0;clear e0 e1 h2;dsimp only;go_wp2_with fail
   refine con.mono ?_;rintro e w2 ⟨u2,rfl,hG,hb2⟩;obtain ⟨_,rfl⟩:¬ dF cols gs=0∧u2 = .nilFunc:=by
    rcases hG with ⟨hG,_⟩ | hG
    ·exact absurd hG HL2.out
    ·exact hG
   rw [← HN.out];clear con;dsimp only;go_wp2_with fail
   exact bJ rfl rfl ⟨_,rfl,by rw [HV.out]; exact ed _ _,chain hb1 hb2⟩
 ·have e0:fe=bM cols xs:=by rw [← HF.out]; unfold dx; rw [if_neg HN8.out,if_pos h1]
  have e1:fz = []:=by rw [← HZ.out]; unfold ei; rw [HF.out,e0,if_neg h1]
  have hne:(bM cols xs != 0)=true:=by simpa using h1
  have HL:=aB h1;rw [← e0] at hne;have HV:=aB e1;have HN:=aB e0;clear e0 e1 h1;go_enter func96,ntmps96;go_wp2_with fail
  refine con.mono ?_;rintro e w1 ⟨u,rfl,hL,hb1⟩;obtain ⟨_,rfl⟩:¬ bM cols xs=0∧u = .nilFunc:=by
   rcases hL with ⟨hL,_⟩ | hL
   ·exact absurd hL HL.out
   ·exact hL
  rw [← HN.out];clear con;go_wp2_with fail
  exact bJ rfl rfl ⟨_,rfl,by rw [HV.out]; exact ed _ _,hb1⟩
end Go.Proofs.YtoefpglknaiaeaaGreat
