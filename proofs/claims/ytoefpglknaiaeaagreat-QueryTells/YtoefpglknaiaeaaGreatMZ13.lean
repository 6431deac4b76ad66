import Derived.Test.YtoefpglknaiaeaaGreatMZ11
set_option maxHeartbeats 16000000
set_option maxRecDepth 100000
namespace Go.Proofs.YtoefpglknaiaeaaGreat
open Go.RowKit Go.Lib Go.Shelf _root_.Go.Proofs.Tryz
theorem Lm:(Tryz.prog.info? 162).map (fun i=>(i.zero,i.size,i.bytes))=some (some (.agg #[bX,bX]),2,48):=by kernel_rfl
theorem CP (a:Option Addr) (cap:Nat) (L:List Kp) (w:World) (h:wb w a L) (hl:L.length≤400) :
  Calls prog 135 #[.slice a L.length cap] w fun e w'=>∃ v,e = .returned v∧np w w w' v (dJ L)∧Below w w w':=by
 obtain ⟨i0,hi,hj0,hj1,hj2⟩:=info_parts Tryz.fK;obtain ⟨ip,hip,hp0,hp1,hp2⟩:=info_parts Lm;go_enter func135,ntmps135;go_wp2_with fail
 go_loopw [3,9] (fun v i wr=>∃ k:Nat,k≤L.length∧i = .int .i64 k∧np w w wr v (dJ (L.take k))∧Below w w wr) (fun _ i _=>L.length - (intOf i).toNat)
 case atStart=>exact ⟨0,MD _,rfl,np.nil _ _ _ (Mx _),Mz _ _⟩
 case round =>
  obtain ⟨k,hk,rfl,HPs,hb⟩:=hrel;have hz:=hb.size;by_cases hlt:k<L.length
  ·obtain ⟨b,off,rfl,hbl,e2,⟨ra,rc,e1,sr⟩,ka,kc,e0,sk⟩:=h.elem hlt;have p2:=(hb.cell (p:=⟨b,_,none⟩) hbl).trans e2;have p1:=(hb.cell (p:=⟨b,_,none⟩) hbl).trans e1;have p0:=(hb.cell (p:=⟨b,_,none⟩) hbl).trans e0;have hbl':=My hbl hz;have HSr:=aB sr;have HSk:=aB sk;have HT:=aB (Ac hlt);have hsz:=qT (L.take k);rw [MR] at hsz;have HSm:Hid (∀ p ∈ dJ (L.take k),p.2.length≤400):=fun p hp=>by have:=hsz.2 p hp; omega
   have hpn:(dJ (L.take k)).length≤400:=by have:=hsz.1; omega
   obtain ⟨va,vc,ev⟩:∃ va vc,u3 = .slice va (dJ (L.take k)).length vc:=by obtain ⟨_,_,_,_,I⟩:=HPs; exact fa I.own
   subst ev;obtain ⟨hal,q0⟩:=iV wr #[.slice ka L[k].1.length kc,.slice ra L[k].2.1.length rc,.int .i64 L[k].2.2] 165;have hbk:=chain hb hal;have HPk:=HPs.next hal;clear e0 e1 e2 sr sk hsz HPs;go_upto_region 5 with fail
   clear p0 p1 p2;generalize wr.alloc _=wk at *;obtain ⟨ps,eps⟩:∃ ps,ps=dJ (L.take k):=⟨_,rfl⟩
   by_cases h0:ps.length=0
   ·have HOp:Hid (cY (dJ (L.take k)) L[k]=ps ++ [(L[k].1,[])]):=by show _=_; rw [← eps]; exact Er h0 _
    rw [← eps] at HPk HSm hpn ⊢;clear eps;obtain rfl:ps = []:=MH h0;haveI:Nonempty (cF wk):=⟨⟨wk,Mz _ _⟩⟩
    refine aq aG aG ?_
    repeat (go_big_quiet_step (fail))
    refine wpQuiet_nil ?_;rintro wq ⟨⟨v7,hb7⟩,h7⟩;obtain rfl:wq=v7:=h7;have HPq:=HPk.next hb7;have hbq:=chain hbk hb7;have qq:=iX hb7 q0;clear HPk h0;obtain ⟨xs,Bl,rv,zs,In⟩:=HPq;have ho:=In.own;have HInq:=aB In;have kq:=cell_of (i:=0) qq rfl;have hzq:=hbq.size;clear In
    go_wp2_with (first | (at_builtin; refine MX _ rfl _ _ 157 rfl w 162 ip _ 2 48 underlying157 hip hp0 hp1 hp2 rfl (by decide) _ _ _ rfl (ho.alloc _) (ah wq 0) 1 1 [.slice ka L[k].1.length kc,bX] rfl rfl ?Bc1 ?Bc2 ?Bc3 ?Bc4 ?Bc5 ?_))
    case Bc1 =>
     intro i u hu
     match i,hu with
     | 0,hu=>simp at hu; subst hu; simp [Addr.add]
     | 1,hu=>simp at hu; subst hu; simp [Addr.add]
    case Bc2=>intro u hu; simp at hu; rcases hu with rfl | rfl <;> rfl
    case Bc3=>unfold maxLen; omega
    case Bc4=>omega
    case Bc5=>simp; omega
    intro v' wx ox gx _;have halq:=aN wq (.cells #[.slice ka L[k].1.length kc,bX] 162);have oq:=ho.alloc (.cells #[.slice ka L[k].1.length kc,bX] 162);have HPx:=(HInq.out.next halq).push HSk.out gx (by first | exact ox | (rw [hm]; exact ox));have hbx:=(chain hbq halq).grown gx (by simp; omega) (fun q hq=>(oq.lt q hq).1)
    have qx:wx.heap[wr.heap.size]? = some (.cells #[.slice ka L[k].1.length kc,.slice ra L[k].2.1.length rc,.int .i64 L[k].2.2] 165 (0,0)):=by
     have qa:=iX halq qq;exact (gx.block _ (an qa) (fun e=>jW oq qa (by decide) e.symm)).trans qa
    have q0x:=qx;obtain ⟨ps1,eps1⟩:∃ ps1,ps1=([]:List Pt) ++ [(L[k].1,[])]:=⟨_,rfl⟩
    obtain ⟨m,hmm⟩:∃ m,m=0:=⟨_,rfl⟩
    have hm4:m≤400:=by omega
    rw [← eps1] at HPx;have hm1:ps1.length=m+1:=by rw [hmm,eps1,ME]; first | rfl | (rw [hm]; rfl)
    have eo:cY (dJ (L.take k)) L[k]=ps1:=by rw [eps1]; exact HOp.out
    have hsm:∀ p ∈ ps1,p.2.length≤400:=fun p hp=>by
     rw [eps1] at hp;rcases List.mem_append.1 hp with hp | hp
     ·exact HSm.out p hp
     ·rw [List.mem_singleton.1 hp]; exact MD _
    obtain ⟨g,c,evx⟩:∃ g c,v' = .slice (some (ah g 0)) ps1.length c:=by
     obtain ⟨xs',_,_,_,I'⟩:=HPx;rcases I'.own.2 with ⟨_,h2⟩ | ⟨g2,c2,_,h2,_⟩
     ·omega
     ·exact ⟨g2,c2,h2⟩
    subst evx;clear eps1 ox gx oq HInq ho kq halq hmm;have hmlt:m<ps1.length:=by omega
    obtain ⟨xs,Bl,rv,zs,In⟩:=HPx;have HIn:=aB In;have hgB:=(In.own.lt g rfl).1;have hgx:=(In.own.lt g rfl).2;have hgl:g=wr.heap.size→False:=fun e=>jW In.own q0x (by decide) (show some g=some wr.heap.size by rw [e])
    obtain ⟨rva,rvc,erv⟩:∃ rva rvc,rv m = .slice rva ps1[m].2.length rvc:=fa (In.row m hmlt).1;have cx:wx.cell? ⟨g,m*2+1,none⟩=some (.slice rva ps1[m].2.length rvc):=by
     have:=In.own;rw [this.cellAt _ ag,In.cell m hmlt,erv]
    have hrow1:=hsm ps1[m] (MC hmlt);have ev:Value.slice (some (ah g 0)) (m+1) c = .slice (some (ah g 0)) ps1.length c:=by rw [hm1]
    have m0:(0:Int)≤(m:Int):=by omega
    have m1:(m:Int)<(m:Int)+1:=by omega
    have m2:(m:Int)≤400:=by omega
    clear In;try rw [hm1]
    go_upto_region 8 with fail
    have hCC:∀ W W':World,(W.heap[wr.heap.size]? = some (.cells #[.slice ka L[k].1.length kc,.slice ra L[k].2.1.length rc,.int .i64 L[k].2.2] 165 (0,0)))→Below W W W'→(W'.heap[wr.heap.size]? = some (.cells #[.slice ka L[k].1.length kc,.slice ra L[k].2.1.length rc,.int .i64 L[k].2.2] 165 (0,0))):=fun W W' h hb=>(hb.block _ (an h)).trans h
    have hdr:Below wx wx wx.drew:=(Mz _ _).drew;have CW:=hCC _ _ q0x hdr;refine aP (fun W=>(W.heap[wr.heap.size]? = some (.cells #[.slice ka L[k].1.length kc,.slice ra L[k].2.1.length rc,.int .i64 L[k].2.2] 165 (0,0)))) aG ?_;refine bB hCC 40 0 (.pointer (some ⟨g,m*2,none⟩)) (fun n hn=>?_) CW ?_
    ·go_simp
    simp only [pX];refine bB hCC 41 1 (.pointer (some ⟨g,m*2,none⟩)) (fun n hn=>?_) CW ?_
    ·go_simp
    simp only [pX];refine bB hCC 42 2 (.pointer (some ⟨g,m*2,none⟩)) (fun n hn=>?_) CW ?_
    ·go_simp
    simp only [pX];refine bB hCC 43 3 (.pointer (some ⟨g,m*2+1,none⟩)) (fun n hn=>?_) CW ?_
    ·go_simp
    simp only [pX];refine bB hCC 45 5 (ah wr 1) (fun n hn=>?_) CW ?_
    ·go_simp
    simp only [pX];refine bB hCC 46 6 (.agg #[.slice ra L[k].2.1.length rc,.int .i64 L[k].2.2]) (fun n hn=>?_) CW ?_
    ·have hc:=cell_of (i:=1) hn rfl;have hc1:=cell_of (i:=2) hn rfl;go_simp
    simp only [pX];refine jC (rs:=[4,7]) aG (by simp) ?_;intro w3 hb3 jj hj;have D3:=chain hdr hb3;have CW3:=hCC _ _ CW hb3;rcases (by simpa using hj:jj=4∨jj=7) with rfl | rfl
    clear hj;have c3:=(D3.cell (p:=⟨g,m*2+1,none⟩) hgx).trans cx;refine wpOp_step rfl (fun K hK=>?_);go_simp;refine hK _ _ ⟨CW3,?_⟩;clear hK K;try simp only [pX]
    refine gp 7 aG fun w5 hb5=>?_
    refine wpOp_step rfl (fun K hK=>?_);go_simp;obtain ⟨hal5,q6⟩:=iV w5 #[.slice ra L[k].2.1.length rc,.int .i64 L[k].2.2] 47;have D6:=chain (chain D3 hb5) hal5;have CWt:=hCC _ _ (hCC _ _ CW3 hb5) hal5;refine hK _ _ ⟨CWt,?_⟩;clear hK K c3 CW3;generalize w5.alloc _=w6 at *;try simp only [pX]
    refine gp 8 aG fun w7 hb7=>?_
    have D7:=chain D6 hb7;have CW7:=hCC _ _ CWt hb7;have q7:=iX hb7 q6;have I7:=HIn.out.next D7;have rl7:w7.ownsRow Bl 47 2 (.slice rva ps1[m].2.length rvc) ps1[m].2.length (zs m):=by
     have:=(I7.row m hmlt).1;rw [if_pos hm1.symm,erv] at this;exact this
    have hBl7:=I7.hi;refine wpOp_step rfl (fun K hK=>?_);refine Eq.mpr (if_pos aG) ?_;refine dH (some 48) rfl (Operand.tmp 44) (Operand.tmp 47) 38 rfl Bl 47 i0 _ 2 32 underlying38 hi hj0 hj1 hj2 rfl (by decide) (.slice rva ps1[m].2.length rvc) ps1[m].2.length (zs m) rfl rl7 (ah w5 0) 1 1 [.slice ra L[k].2.1.length rc,.int .i64 L[k].2.2] rfl rfl ?Ac1 ?Ac2 ?Ac3 ?Ac4 ?Ac5 ?_
    case Ac1 =>
     intro j u hj
     match j,hj with
     | 0,hj=>simp at hj; subst hj; exact cell_of (i:=0) q7 rfl
     | 1,hj=>simp at hj; subst hj; exact cell_of (i:=1) q7 rfl
    case Ac2=>intro u hu; simp at hu; rcases hu with rfl | rfl <;> rfl
    case Ac3=>unfold maxLen; omega
    case Ac4=>omega
    case Ac5=>exact hBl7
    rotate_left;clear hj;refine wpOp_step rfl (fun K hK=>?_);go_simp;obtain ⟨hal4,q4⟩:=iV w3 #[.slice ra L[k].2.1.length rc,.int .i64 L[k].2.2] 47;have D4:=chain D3 hal4;have CW4:=hCC _ _ CW3 hal4;refine hK _ _ ⟨CW4,?_⟩;clear hK K;generalize w3.alloc _=w4 at *;try simp only [pX]
    refine gp 4 aG fun w6 hb6=>?_
    have D6:=chain D4 hb6;have CWt:=hCC _ _ CW4 hb6;have q6:=iX hb6 q4;have c6:=(D6.cell (p:=⟨g,m*2+1,none⟩) hgx).trans cx;refine wpOp_step rfl (fun K hK=>?_);go_simp;refine hK _ _ ⟨CWt,?_⟩;clear hK K c6 CW3 CW4;try simp only [pX]
    refine gp 8 aG fun w7 hb7=>?_
    have D7:=chain D6 hb7;have CW7:=hCC _ _ CWt hb7;have q7:=iX hb7 q6;have I7:=HIn.out.next D7;have rl7:w7.ownsRow Bl 47 2 (.slice rva ps1[m].2.length rvc) ps1[m].2.length (zs m):=by
     have:=(I7.row m hmlt).1;rw [if_pos hm1.symm,erv] at this;exact this
    have hBl7:=I7.hi;refine wpOp_step rfl (fun K hK=>?_);refine Eq.mpr (if_pos aG) ?_;refine dH (some 48) rfl (Operand.tmp 44) (Operand.tmp 47) 38 rfl Bl 47 i0 _ 2 32 underlying38 hi hj0 hj1 hj2 rfl (by decide) (.slice rva ps1[m].2.length rvc) ps1[m].2.length (zs m) rfl rl7 (ah w3 0) 1 1 [.slice ra L[k].2.1.length rc,.int .i64 L[k].2.2] rfl rfl ?Ac1 ?Ac2 ?Ac3 ?Ac4 ?Ac5 ?_
    case Ac1 =>
     intro j u hj
     match j,hj with
     | 0,hj=>simp at hj; subst hj; exact cell_of (i:=0) q7 rfl
     | 1,hj=>simp at hj; subst hj; exact cell_of (i:=1) q7 rfl
    case Ac2=>intro u hu; simp at hu; rcases hu with rfl | rfl <;> rfl
    case Ac3=>unfold maxLen; omega
    case Ac4=>omega
    case Ac5=>exact hBl7
    all_goals
     intro v8 w8 o8 g8 _;have nb8:∀ q,Value.ownBlock (.slice rva ps1[m].2.length rvc)=some q→w.heap.size≤q∧q<w7.heap.size∧(q=wr.heap.size→False)∧(q=g→False):=fun q hq=>by
      have h1:=rl7.lt q hq;refine ⟨MO I7.lo h1.1,h1.2,fun e=>?_,fun e=>?_⟩
      ·exact jW rl7 CW7 (by decide) (by rw [hq,e])
      ·have o7:=I7.own;rcases om (by decide) rl7 o7 with h2 | h2
       ·rw [h2] at hq; cases hq
       ·exact h2 (by rw [hq,e]; rfl)
     have CW8:=(g8.block _ (an CW7) (fun e=>(nb8 _ e.symm).2.2.1 rfl)).trans CW7;have c8:w8.cell? ⟨g,m*2+1,none⟩=some (.slice rva ps1[m].2.length rvc)∧w8.frozen? ⟨g,m*2+1,none⟩=false:=by
      have o7:=I7.own;rw [hm1] at o7;have hb8:=g8.block g (o7.lt g rfl).2 (fun e=>(nb8 _ e.symm).2.2.2 rfl);refine ⟨(MP (a:=⟨g,m*2+1,none⟩) hb8).trans ?_,(NU (a:=⟨g,m*2+1,none⟩) hb8).trans (o7.frozenAt _)⟩;rw [o7.cellAt _ ag,I7.cell m hmlt,erv]
     have hg8:g<w8.heap.size:=by
      have o7:=I7.own;rw [hm1] at o7;exact My (o7.lt g rfl).2 g8.size
     refine hK _ _ ⟨CW8,?_⟩;clear hK K;try simp only [pX]
     refine bB hCC 49 9 (.pointer (some ⟨g,m*2,none⟩)) (fun n hn=>?_) CW8 ?_
     ·go_simp
     simp only [pX];refine bB hCC 50 10 (.pointer (some ⟨g,m*2+1,none⟩)) (fun n hn=>?_) CW8 ?_
     ·go_simp
     simp only [pX];refine gp 11 aG fun w9 hb9=>?_
     have c9:=(hb9.cell (p:=⟨g,m*2+1,none⟩) hg8).trans c8.1;have f9:=(hb9.frozen (p:=⟨g,m*2+1,none⟩) hg8).trans c8.2;have CW9:=hCC _ _ CW8 hb9;obtain ⟨v8a,v8c,ev8⟩:∃ v8a v8c,v8 = .slice v8a (ps1[m].2.length+1) v8c:=fa o8;have P9:np w w (w9.setCell ⟨g,m*2+1,none⟩ v8) (.slice (some (ah g 0)) (m+1) c) (iP ps1 L[k].2):=by
      have I7':=I7;rw [← ev] at I7';exact pQ.put I7' hm1 (rc:=rc) HSr.out (by rw [erv]; exact g8) o8 hb9
     have B9:Below w w (w9.setCell ⟨g,m*2+1,none⟩ v8):=((chain ((chain hbx D7).trans ((Mz _ _).grown g8 (MO hbx.size D7.size) (fun q hq=>(nb8 q hq).1))) hb9)).setCell (p:=⟨g,m*2+1,none⟩) hgB _;have CW10:((w9.setCell ⟨g,m*2+1,none⟩ v8).heap[wr.heap.size]? = some (.cells #[.slice ka L[k].1.length kc,.slice ra L[k].2.1.length rc,.int .i64 L[k].2.2] 165 (0,0))):=(Nf _ _ _ _ (fun e=>hgl e.symm)).trans CW9;subst ev8;refine wpOp_step rfl (fun K hK=>?_);go_simp;refine hK _ _ ⟨CW10,?_⟩;clear hK K CW7 CW8 CW9 c8 c9 f9 nb8 rl7 I7 q7 o8 g8
     generalize w9.setCell ⟨g,m*2+1,none⟩ (.slice v8a (ps1[m].2.length+1) v8c)=wS at *;try simp only [pX]
     refine cA aG ?_;intro wT hbT;have PT:=P9.next hbT;have BT:=chain B9 hbT;clear P9 B9 CW10 CW CWt;go_wp2_with fail
     go_roundw
     case rel=>exact ⟨k+1,by omega,by go_num,by rw [HT.out,eo]; first | exact PT | (rw [hm1]; exact PT),BT⟩
     case measure=>simp [intOf]; omega
   ·obtain ⟨mm,hm⟩:∃ mm,ps.length=mm+1:=⟨ps.length - 1,by omega⟩
    have hmm:mm<ps.length:=by omega
    rw [← eps] at HPk HSm hpn ⊢;have Eps:=aB eps;clear eps;rw [hm] at HPk ⊢;obtain ⟨g0,eva⟩:∃ g0,va=some ⟨g0,0,none⟩:=by
     obtain ⟨_,_,_,_,I⟩:=HPk;rcases I.own.2 with ⟨_,h2⟩ | ⟨g2,c2,_,h2,_⟩
     ·omega
     ·exact ⟨g2,by injection h2⟩
    subst eva;obtain ⟨la,lc,ck,sk,hgk⟩:∃ la lc,wk.cell? ⟨g0,mm*2,none⟩=some (.slice la ps[mm].1.length lc)∧aZ w la ps[mm].1∧g0<wk.heap.size:=by
     obtain ⟨xs,_,_,_,I⟩:=HPk;obtain ⟨la,lc,x0,s0⟩:=I.key mm hmm;have o:=I.own;rw [hm] at o;exact ⟨la,lc,by rw [o.cellAt _ ag]; exact x0,s0,(o.lt g0 rfl).2⟩
    have HSl:=aB sk;have m0:(0:Int)≤(mm:Int):=by omega
    have m1:(mm:Int)<(mm:Int)+1:=by omega
    have m2:(mm:Int)≤400:=by omega
    have mne:¬ (mm:Int)+1=0:=by omega
    have hCC:∀ W W':World,(W.heap[wr.heap.size]? = some (.cells #[.slice ka L[k].1.length kc,.slice ra L[k].2.1.length rc,.int .i64 L[k].2.2] 165 (0,0))∧W.cell? ⟨g0,mm*2,none⟩=some (.slice la ps[mm].1.length lc))→Below W W W'→(W'.heap[wr.heap.size]? = some (.cells #[.slice ka L[k].1.length kc,.slice ra L[k].2.1.length rc,.int .i64 L[k].2.2] 165 (0,0))∧W'.cell? ⟨g0,mm*2,none⟩=some (.slice la ps[mm].1.length lc)):=fun W W' h hb=>⟨(hb.block _ (an h.1)).trans h.1,(hb.cell (ML _ _ h.2)).trans h.2⟩
    have hdr:Below wk wk wk.drew:=(Mz _ _).drew;have CW:=hCC _ _ ⟨q0,ck⟩ hdr;clear sk h0;refine aP (fun W=>(W.heap[wr.heap.size]? = some (.cells #[.slice ka L[k].1.length kc,.slice ra L[k].2.1.length rc,.int .i64 L[k].2.2] 165 (0,0))∧W.cell? ⟨g0,mm*2,none⟩=some (.slice la ps[mm].1.length lc))) aG ?_
    refine bB hCC 13 0 (.slice (some (ah g0 0)) (mm+1) vc) (fun n hn=>?_) CW ?_
    ·go_simp
    simp only [pX];refine bB hCC 14 1 (.int .i64 ((mm:Int)+1)) (fun n hn=>?_) CW ?_
    ·go_simp
    simp only [pX];refine bB hCC 15 2 false (fun n hn=>?_) CW ?_
    ·go_simp
    simp only [pX];refine bB hCC 16 3 false (fun n hn=>?_) CW ?_
    ·go_simp
    simp only [pX];refine bB hCC 17 4 (.slice (some (ah g0 0)) (mm+1) vc) (fun n hn=>?_) CW ?_
    ·go_simp
    simp only [pX];refine bB hCC 18 5 (.slice (some (ah g0 0)) (mm+1) vc) (fun n hn=>?_) CW ?_
    ·go_simp
    simp only [pX];refine bB hCC 19 6 (.int .i64 ((mm:Int)+1)) (fun n hn=>?_) CW ?_
    ·go_simp
    simp only [pX];refine bB hCC 20 7 (.int .i64 (mm:Int)) (fun n hn=>?_) CW ?_
    ·go_simp;exact IntWalk.i64_in _ ⟨by omega,by omega⟩
    simp only [pX];refine bB hCC 21 8 (.pointer (some ⟨g0,mm*2,none⟩)) (fun n hn=>?_) CW ?_
    ·go_simp
    simp only [pX];refine bB hCC 22 9 (.pointer (some ⟨g0,mm*2,none⟩)) (fun n hn=>?_) CW ?_
    ·go_simp
    simp only [pX];refine bB hCC 23 10 (.slice la ps[mm].1.length lc) (fun n hn=>?_) CW ?_
    ·have hc:=hn.2;go_simp
    simp only [pX];refine bB hCC 24 11 (ah wr 0) (fun n hn=>?_) CW ?_
    ·go_simp
    simp only [pX];refine bB hCC 25 12 (.slice ka L[k].1.length kc) (fun n hn=>?_) CW ?_
    ·have hc:=cell_of (i:=0) hn.1 rfl;go_simp
    simp only [pX];refine gp 13 aG fun w3 hb3=>?_
    have CW3:=hCC _ _ CW hb3;have D3:=chain hdr hb3;have con:=oU la ka lc kc ps[mm].1 L[k].1 w3 (HSl.out.next (chain hbk D3)) (HSk.out.next (chain hbk D3));generalize hcm:aF ps[mm].1 L[k].1=cm at con;have HCm:=aB hcm;clear hcm;refine wpOp_step rfl (fun K hK=>?_);go_simp;refine bC con fun w4 hb4=>?_;clear con;have CW4:=hCC _ _ CW3 hb4;have D4:=chain D3 hb4;refine hK _ _ ⟨CW4,?_⟩;clear hK K CW3
    refine bB hCC 27 14 (.bool (cm != 0)) (fun n hn=>?_) CW4 ?_
    ·go_simp
    simp only [pX];refine bB hCC 28 15 (.bool (cm != 0)) (fun n hn=>?_) CW4 ?_
    ·go_simp
    simp only [pX];refine cA aG ?_;intro wq hbw;have D5:=chain D4 hbw;have HPq:=HPk.next D5;have hbq:=chain hbk D5;have qq:=iX D5 q0;clear CW CW4 hCC D4 D3 D5 hbw HPk;by_cases hc0:cm=0
    ·have hcb:(cm != 0)=false:=by simp [hc0]
     rw [hcb];have eo:cY (dJ (L.take k)) L[k]=ps:=by rw [← Eps.out]; exact BI hm (by rw [HCm.out]; exact hc0)
     clear Eps hcb;obtain ⟨wx,hwx⟩:∃ z,z=wq:=⟨_,rfl⟩
     subst hwx;obtain ⟨m,hmx⟩:∃ z,z=mm:=⟨_,rfl⟩
     subst hmx;obtain ⟨ps1,hpx⟩:∃ z,z=ps:=⟨_,rfl⟩
     subst hpx;obtain ⟨g,hgx0⟩:∃ z,z=g0:=⟨_,rfl⟩
     subst hgx0;obtain ⟨c,hcx⟩:∃ z,z=vc:=⟨_,rfl⟩
     subst hcx;have hm1:=hm;have q0x:=qq;have hbx:=hbq;have hsm:=HSm.out;have HPx:np w w wx (.slice (some (ah g 0)) ps1.length c) ps1:=by rw [hm]; exact HPq
     clear HPq;go_wp2_with fail
     have hmlt:m<ps1.length:=by omega
     obtain ⟨xs,Bl,rv,zs,In⟩:=HPx;have HIn:=aB In;have hgB:=(In.own.lt g rfl).1;have hgx:=(In.own.lt g rfl).2;have hgl:g=wr.heap.size→False:=fun e=>jW In.own q0x (by decide) (show some g=some wr.heap.size by rw [e])
     obtain ⟨rva,rvc,erv⟩:∃ rva rvc,rv m = .slice rva ps1[m].2.length rvc:=fa (In.row m hmlt).1;have cx:wx.cell? ⟨g,m*2+1,none⟩=some (.slice rva ps1[m].2.length rvc):=by
      have:=In.own;rw [this.cellAt _ ag,In.cell m hmlt,erv]
     have hrow1:=hsm ps1[m] (MC hmlt);have ev:Value.slice (some (ah g 0)) (m+1) c = .slice (some (ah g 0)) ps1.length c:=by rw [hm1]
     have m0:(0:Int)≤(m:Int):=by omega
     have m1:(m:Int)<(m:Int)+1:=by omega
     have m2:(m:Int)≤400:=by omega
     clear In;try rw [hm1]
     go_upto_region 8 with fail
     have hCC:∀ W W':World,(W.heap[wr.heap.size]? = some (.cells #[.slice ka L[k].1.length kc,.slice ra L[k].2.1.length rc,.int .i64 L[k].2.2] 165 (0,0)))→Below W W W'→(W'.heap[wr.heap.size]? = some (.cells #[.slice ka L[k].1.length kc,.slice ra L[k].2.1.length rc,.int .i64 L[k].2.2] 165 (0,0))):=fun W W' h hb=>(hb.block _ (an h)).trans h
     have hdr:Below wx wx wx.drew:=(Mz _ _).drew;have CW:=hCC _ _ q0x hdr;refine aP (fun W=>(W.heap[wr.heap.size]? = some (.cells #[.slice ka L[k].1.length kc,.slice ra L[k].2.1.length rc,.int .i64 L[k].2.2] 165 (0,0)))) aG ?_;refine bB hCC 40 0 (.pointer (some ⟨g,m*2,none⟩)) (fun n hn=>?_) CW ?_
     ·go_simp
     simp only [pX];refine bB hCC 41 1 (.pointer (some ⟨g,m*2,none⟩)) (fun n hn=>?_) CW ?_
     ·go_simp
     simp only [pX];refine bB hCC 42 2 (.pointer (some ⟨g,m*2,none⟩)) (fun n hn=>?_) CW ?_
     ·go_simp
     simp only [pX];refine bB hCC 43 3 (.pointer (some ⟨g,m*2+1,none⟩)) (fun n hn=>?_) CW ?_
     ·go_simp
     simp only [pX];refine bB hCC 45 5 (ah wr 1) (fun n hn=>?_) CW ?_
     ·go_simp
     simp only [pX];refine bB hCC 46 6 (.agg #[.slice ra L[k].2.1.length rc,.int .i64 L[k].2.2]) (fun n hn=>?_) CW ?_
     ·have hc:=cell_of (i:=1) hn rfl;have hc1:=cell_of (i:=2) hn rfl;go_simp
     simp only [pX];refine jC (rs:=[4,7]) aG (by simp) ?_;intro w3 hb3 jj hj;have D3:=chain hdr hb3;have CW3:=hCC _ _ CW hb3;rcases (by simpa using hj:jj=4∨jj=7) with rfl | rfl
     clear hj;have c3:=(D3.cell (p:=⟨g,m*2+1,none⟩) hgx).trans cx;refine wpOp_step rfl (fun K hK=>?_);go_simp;refine hK _ _ ⟨CW3,?_⟩;clear hK K;try simp only [pX]
     refine gp 7 aG fun w5 hb5=>?_
     refine wpOp_step rfl (fun K hK=>?_);go_simp;obtain ⟨hal5,q6⟩:=iV w5 #[.slice ra L[k].2.1.length rc,.int .i64 L[k].2.2] 47;have D6:=chain (chain D3 hb5) hal5;have CWt:=hCC _ _ (hCC _ _ CW3 hb5) hal5;refine hK _ _ ⟨CWt,?_⟩;clear hK K c3 CW3;generalize w5.alloc _=w6 at *;try simp only [pX]
     refine gp 8 aG fun w7 hb7=>?_
     have D7:=chain D6 hb7;have CW7:=hCC _ _ CWt hb7;have q7:=iX hb7 q6;have I7:=HIn.out.next D7;have rl7:w7.ownsRow Bl 47 2 (.slice rva ps1[m].2.length rvc) ps1[m].2.length (zs m):=by
      have:=(I7.row m hmlt).1;rw [if_pos hm1.symm,erv] at this;exact this
     have hBl7:=I7.hi;refine wpOp_step rfl (fun K hK=>?_);refine Eq.mpr (if_pos aG) ?_;refine dH (some 48) rfl (Operand.tmp 44) (Operand.tmp 47) 38 rfl Bl 47 i0 _ 2 32 underlying38 hi hj0 hj1 hj2 rfl (by decide) (.slice rva ps1[m].2.length rvc) ps1[m].2.length (zs m) rfl rl7 (ah w5 0) 1 1 [.slice ra L[k].2.1.length rc,.int .i64 L[k].2.2] rfl rfl ?Ac1 ?Ac2 ?Ac3 ?Ac4 ?Ac5 ?_
     case Ac1 =>
      intro j u hj
      match j,hj with
      | 0,hj=>simp at hj; subst hj; exact cell_of (i:=0) q7 rfl
      | 1,hj=>simp at hj; subst hj; exact cell_of (i:=1) q7 rfl
     case Ac2=>intro u hu; simp at hu; rcases hu with rfl | rfl <;> rfl
     case Ac3=>unfold maxLen; omega
     case Ac4=>omega
     case Ac5=>exact hBl7
     rotate_left;clear hj;refine wpOp_step rfl (fun K hK=>?_);go_simp;obtain ⟨hal4,q4⟩:=iV w3 #[.slice ra L[k].2.1.length rc,.int .i64 L[k].2.2] 47;have D4:=chain D3 hal4;have CW4:=hCC _ _ CW3 hal4;refine hK _ _ ⟨CW4,?_⟩;clear hK K;generalize w3.alloc _=w4 at *;try simp only [pX]
     refine gp 4 aG fun w6 hb6=>?_
     have D6:=chain D4 hb6;have CWt:=hCC _ _ CW4 hb6;have q6:=iX hb6 q4;have c6:=(D6.cell (p:=⟨g,m*2+1,none⟩) hgx).trans cx;refine wpOp_step rfl (fun K hK=>?_);go_simp;refine hK _ _ ⟨CWt,?_⟩;clear hK K c6 CW3 CW4;try simp only [pX]
     refine gp 8 aG fun w7 hb7=>?_
     have D7:=chain D6 hb7;have CW7:=hCC _ _ CWt hb7;have q7:=iX hb7 q6;have I7:=HIn.out.next D7;have rl7:w7.ownsRow Bl 47 2 (.slice rva ps1[m].2.length rvc) ps1[m].2.length (zs m):=by
      have:=(I7.row m hmlt).1;rw [if_pos hm1.symm,erv] at this;exact this
     have hBl7:=I7.hi;refine wpOp_step rfl (fun K hK=>?_);refine Eq.mpr (if_pos aG) ?_;refine dH (some 48) rfl (Operand.tmp 44) (Operand.tmp 47) 38 rfl Bl 47 i0 _ 2 32 underlying38 hi hj0 hj1 hj2 rfl (by decide) (.slice rva ps1[m].2.length rvc) ps1[m].2.length (zs m) rfl rl7 (ah w3 0) 1 1 [.slice ra L[k].2.1.length rc,.int .i64 L[k].2.2] rfl rfl ?Ac1 ?Ac2 ?Ac3 ?Ac4 ?Ac5 ?_
     case Ac1 =>
      intro j u hj
      match j,hj with
      | 0,hj=>simp at hj; subst hj; exact cell_of (i:=0) q7 rfl
      | 1,hj=>simp at hj; subst hj; exact cell_of (i:=1) q7 rfl
     case Ac2=>intro u hu; simp at hu; rcases hu with rfl | rfl <;> rfl
     case Ac3=>unfold maxLen; omega
     case Ac4=>omega
     case Ac5=>exact hBl7
     all_goals
      intro v8 w8 o8 g8 _;have nb8:∀ q,Value.ownBlock (.slice rva ps1[m].2.length rvc)=some q→w.heap.size≤q∧q<w7.heap.size∧(q=wr.heap.size→False)∧(q=g→False):=fun q hq=>by
       have h1:=rl7.lt q hq;refine ⟨MO I7.lo h1.1,h1.2,fun e=>?_,fun e=>?_⟩
       ·exact jW rl7 CW7 (by decide) (by rw [hq,e])
       ·have o7:=I7.own;rcases om (by decide) rl7 o7 with h2 | h2
        ·rw [h2] at hq; cases hq
        ·exact h2 (by rw [hq,e]; rfl)
      have CW8:=(g8.block _ (an CW7) (fun e=>(nb8 _ e.symm).2.2.1 rfl)).trans CW7;have c8:w8.cell? ⟨g,m*2+1,none⟩=some (.slice rva ps1[m].2.length rvc)∧w8.frozen? ⟨g,m*2+1,none⟩=false:=by
       have o7:=I7.own;rw [hm1] at o7;have hb8:=g8.block g (o7.lt g rfl).2 (fun e=>(nb8 _ e.symm).2.2.2 rfl);refine ⟨(MP (a:=⟨g,m*2+1,none⟩) hb8).trans ?_,(NU (a:=⟨g,m*2+1,none⟩) hb8).trans (o7.frozenAt _)⟩;rw [o7.cellAt _ ag,I7.cell m hmlt,erv]
      have hg8:g<w8.heap.size:=by
       have o7:=I7.own;rw [hm1] at o7;exact My (o7.lt g rfl).2 g8.size
      refine hK _ _ ⟨CW8,?_⟩;clear hK K;try simp only [pX]
      refine bB hCC 49 9 (.pointer (some ⟨g,m*2,none⟩)) (fun n hn=>?_) CW8 ?_
      ·go_simp
      simp only [pX];refine bB hCC 50 10 (.pointer (some ⟨g,m*2+1,none⟩)) (fun n hn=>?_) CW8 ?_
      ·go_simp
      simp only [pX];refine gp 11 aG fun w9 hb9=>?_
      have c9:=(hb9.cell (p:=⟨g,m*2+1,none⟩) hg8).trans c8.1;have f9:=(hb9.frozen (p:=⟨g,m*2+1,none⟩) hg8).trans c8.2;have CW9:=hCC _ _ CW8 hb9;obtain ⟨v8a,v8c,ev8⟩:∃ v8a v8c,v8 = .slice v8a (ps1[m].2.length+1) v8c:=fa o8;have P9:np w w (w9.setCell ⟨g,m*2+1,none⟩ v8) (.slice (some (ah g 0)) (m+1) c) (iP ps1 L[k].2):=by
       have I7':=I7;rw [← ev] at I7';exact pQ.put I7' hm1 (rc:=rc) HSr.out (by rw [erv]; exact g8) o8 hb9
      have B9:Below w w (w9.setCell ⟨g,m*2+1,none⟩ v8):=((chain ((chain hbx D7).trans ((Mz _ _).grown g8 (MO hbx.size D7.size) (fun q hq=>(nb8 q hq).1))) hb9)).setCell (p:=⟨g,m*2+1,none⟩) hgB _;have CW10:((w9.setCell ⟨g,m*2+1,none⟩ v8).heap[wr.heap.size]? = some (.cells #[.slice ka L[k].1.length kc,.slice ra L[k].2.1.length rc,.int .i64 L[k].2.2] 165 (0,0))):=(Nf _ _ _ _ (fun e=>hgl e.symm)).trans CW9;subst ev8;refine wpOp_step rfl (fun K hK=>?_);go_simp;refine hK _ _ ⟨CW10,?_⟩;clear hK K CW7 CW8 CW9 c8 c9 f9 nb8 rl7 I7 q7 o8 g8
      generalize w9.setCell ⟨g,m*2+1,none⟩ (.slice v8a (ps1[m].2.length+1) v8c)=wS at *;try simp only [pX]
      refine cA aG ?_;intro wT hbT;have PT:=P9.next hbT;have BT:=chain B9 hbT;clear P9 B9 CW10 CW CWt;go_wp2_with fail
      go_roundw
      case rel=>exact ⟨k+1,by omega,by go_num,by rw [HT.out,eo]; first | exact PT | (rw [hm1]; exact PT),BT⟩
      case measure=>simp [intOf]; omega
    ·have hcb:(cm != 0)=true:=by simp [hc0]
     rw [hcb];have HOp:Hid (cY (dJ (L.take k)) L[k]=ps ++ [(L[k].1,[])]):=by show _=_; rw [← Eps.out]; exact yp hm (by rw [HCm.out]; exact hc0)
     clear Eps hcb;obtain ⟨xs,Bl,rv,zs,In⟩:=HPq;have ho:=In.own;have HInq:=aB In;have kq:=cell_of (i:=0) qq rfl;have hzq:=hbq.size;clear In;go_wp2_with (first | (at_builtin; refine MX _ rfl _ _ 157 rfl w 162 ip _ 2 48 underlying157 hip hp0 hp1 hp2 rfl (by decide) _ _ _ rfl (ho.alloc _) (ah wq 0) 1 1 [.slice ka L[k].1.length kc,bX] rfl rfl ?Bc1 ?Bc2 ?Bc3 ?Bc4 ?Bc5 ?_))
     case Bc1 =>
      intro i u hu
      match i,hu with
      | 0,hu=>simp at hu; subst hu; simp [Addr.add]
      | 1,hu=>simp at hu; subst hu; simp [Addr.add]
     case Bc2=>intro u hu; simp at hu; rcases hu with rfl | rfl <;> rfl
     case Bc3=>unfold maxLen; omega
     case Bc4=>omega
     case Bc5=>simp; omega
     intro v' wx ox gx _;have halq:=aN wq (.cells #[.slice ka L[k].1.length kc,bX] 162);have oq:=ho.alloc (.cells #[.slice ka L[k].1.length kc,bX] 162);have HPx:=(HInq.out.next halq).push HSk.out gx (by first | exact ox | (rw [hm]; exact ox));have hbx:=(chain hbq halq).grown gx (by simp; omega) (fun q hq=>(oq.lt q hq).1)
     have qx:wx.heap[wr.heap.size]? = some (.cells #[.slice ka L[k].1.length kc,.slice ra L[k].2.1.length rc,.int .i64 L[k].2.2] 165 (0,0)):=by
      have qa:=iX halq qq;exact (gx.block _ (an qa) (fun e=>jW oq qa (by decide) e.symm)).trans qa
     have q0x:=qx;obtain ⟨ps1,eps1⟩:∃ ps1,ps1=ps ++ [(L[k].1,[])]:=⟨_,rfl⟩
     obtain ⟨m,hmm⟩:∃ m,m=(mm+1):=⟨_,rfl⟩
     have hm4:m≤400:=by omega
     rw [← eps1] at HPx;have hm1:ps1.length=m+1:=by rw [hmm,eps1,ME]; first | rfl | (rw [hm]; rfl)
     have eo:cY (dJ (L.take k)) L[k]=ps1:=by rw [eps1]; exact HOp.out
     have hsm:∀ p ∈ ps1,p.2.length≤400:=fun p hp=>by
      rw [eps1] at hp;rcases List.mem_append.1 hp with hp | hp
      ·exact HSm.out p hp
      ·rw [List.mem_singleton.1 hp]; exact MD _
     obtain ⟨g,c,evx⟩:∃ g c,v' = .slice (some (ah g 0)) ps1.length c:=by
      obtain ⟨xs',_,_,_,I'⟩:=HPx;rcases I'.own.2 with ⟨_,h2⟩ | ⟨g2,c2,_,h2,_⟩
      ·omega
      ·exact ⟨g2,c2,h2⟩
     subst evx;clear eps1 ox gx oq HInq ho kq halq hmm;have hmlt:m<ps1.length:=by omega
     obtain ⟨xs,Bl,rv,zs,In⟩:=HPx;have HIn:=aB In;have hgB:=(In.own.lt g rfl).1;have hgx:=(In.own.lt g rfl).2;have hgl:g=wr.heap.size→False:=fun e=>jW In.own q0x (by decide) (show some g=some wr.heap.size by rw [e])
     obtain ⟨rva,rvc,erv⟩:∃ rva rvc,rv m = .slice rva ps1[m].2.length rvc:=fa (In.row m hmlt).1;have cx:wx.cell? ⟨g,m*2+1,none⟩=some (.slice rva ps1[m].2.length rvc):=by
      have:=In.own;rw [this.cellAt _ ag,In.cell m hmlt,erv]
     have hrow1:=hsm ps1[m] (MC hmlt);have ev:Value.slice (some (ah g 0)) (m+1) c = .slice (some (ah g 0)) ps1.length c:=by rw [hm1]
     have m0:(0:Int)≤(m:Int):=by omega
     have m1:(m:Int)<(m:Int)+1:=by omega
     have m2:(m:Int)≤400:=by omega
     clear In;try rw [hm1]
     go_upto_region 8 with fail
     have hCC:∀ W W':World,(W.heap[wr.heap.size]? = some (.cells #[.slice ka L[k].1.length kc,.slice ra L[k].2.1.length rc,.int .i64 L[k].2.2] 165 (0,0)))→Below W W W'→(W'.heap[wr.heap.size]? = some (.cells #[.slice ka L[k].1.length kc,.slice ra L[k].2.1.length rc,.int .i64 L[k].2.2] 165 (0,0))):=fun W W' h hb=>(hb.block _ (an h)).trans h
     have hdr:Below wx wx wx.drew:=(Mz _ _).drew;have CW:=hCC _ _ q0x hdr;refine aP (fun W=>(W.heap[wr.heap.size]? = some (.cells #[.slice ka L[k].1.length kc,.slice ra L[k].2.1.length rc,.int .i64 L[k].2.2] 165 (0,0)))) aG ?_;refine bB hCC 40 0 (.pointer (some ⟨g,m*2,none⟩)) (fun n hn=>?_) CW ?_
     ·go_simp
     simp only [pX];refine bB hCC 41 1 (.pointer (some ⟨g,m*2,none⟩)) (fun n hn=>?_) CW ?_
     ·go_simp
     simp only [pX];refine bB hCC 42 2 (.pointer (some ⟨g,m*2,none⟩)) (fun n hn=>?_) CW ?_
     ·go_simp
     simp only [pX];refine bB hCC 43 3 (.pointer (some ⟨g,m*2+1,none⟩)) (fun n hn=>?_) CW ?_
     ·go_simp
     simp only [pX];refine bB hCC 45 5 (ah wr 1) (fun n hn=>?_) CW ?_
     ·go_simp
     simp only [pX];refine bB hCC 46 6 (.agg #[.slice ra L[k].2.1.length rc,.int .i64 L[k].2.2]) (fun n hn=>?_) CW ?_
     ·have hc:=cell_of (i:=1) hn rfl;have hc1:=cell_of (i:=2) hn rfl;go_simp
     simp only [pX];refine jC (rs:=[4,7]) aG (by simp) ?_;intro w3 hb3 jj hj;have D3:=chain hdr hb3;have CW3:=hCC _ _ CW hb3;rcases (by simpa using hj:jj=4∨jj=7) with rfl | rfl
     clear hj;have c3:=(D3.cell (p:=⟨g,m*2+1,none⟩) hgx).trans cx;refine wpOp_step rfl (fun K hK=>?_);go_simp;refine hK _ _ ⟨CW3,?_⟩;clear hK K;try simp only [pX]
     refine gp 7 aG fun w5 hb5=>?_
     refine wpOp_step rfl (fun K hK=>?_);go_simp;obtain ⟨hal5,q6⟩:=iV w5 #[.slice ra L[k].2.1.length rc,.int .i64 L[k].2.2] 47;have D6:=chain (chain D3 hb5) hal5;have CWt:=hCC _ _ (hCC _ _ CW3 hb5) hal5;refine hK _ _ ⟨CWt,?_⟩;clear hK K c3 CW3;generalize w5.alloc _=w6 at *;try simp only [pX]
     refine gp 8 aG fun w7 hb7=>?_
     have D7:=chain D6 hb7;have CW7:=hCC _ _ CWt hb7;have q7:=iX hb7 q6;have I7:=HIn.out.next D7;have rl7:w7.ownsRow Bl 47 2 (.slice rva ps1[m].2.length rvc) ps1[m].2.length (zs m):=by
      have:=(I7.row m hmlt).1;rw [if_pos hm1.symm,erv] at this;exact this
     have hBl7:=I7.hi;refine wpOp_step rfl (fun K hK=>?_);refine Eq.mpr (if_pos aG) ?_;refine dH (some 48) rfl (Operand.tmp 44) (Operand.tmp 47) 38 rfl Bl 47 i0 _ 2 32 underlying38 hi hj0 hj1 hj2 rfl (by decide) (.slice rva ps1[m].2.length rvc) ps1[m].2.length (zs m) rfl rl7 (ah w5 0) 1 1 [.slice ra L[k].2.1.length rc,.int .i64 L[k].2.2] rfl rfl ?Ac1 ?Ac2 ?Ac3 ?Ac4 ?Ac5 ?_
     case Ac1 =>
      intro j u hj
      match j,hj with
      | 0,hj=>simp at hj; subst hj; exact cell_of (i:=0) q7 rfl
      | 1,hj=>simp at hj; subst hj; exact cell_of (i:=1) q7 rfl
     case Ac2=>intro u hu; simp at hu; rcases hu with rfl | rfl <;> rfl
     case Ac3=>unfold maxLen; omega
     case Ac4=>omega
     case Ac5=>exact hBl7
     rotate_left;clear hj;refine wpOp_step rfl (fun K hK=>?_);go_simp;obtain ⟨hal4,q4⟩:=iV w3 #[.slice ra L[k].2.1.length rc,.int .i64 L[k].2.2] 47;have D4:=chain D3 hal4;have CW4:=hCC _ _ CW3 hal4;refine hK _ _ ⟨CW4,?_⟩;clear hK K;generalize w3.alloc _=w4 at *;try simp only [pX]
     refine gp 4 aG fun w6 hb6=>?_
     have D6:=chain D4 hb6;have CWt:=hCC _ _ CW4 hb6;have q6:=iX hb6 q4;have c6:=(D6.cell (p:=⟨g,m*2+1,none⟩) hgx).trans cx;refine wpOp_step rfl (fun K hK=>?_);go_simp;refine hK _ _ ⟨CWt,?_⟩;clear hK K c6 CW3 CW4;try simp only [pX]
     refine gp 8 aG fun w7 hb7=>?_
     have D7:=chain D6 hb7;have CW7:=hCC _ _ CWt hb7;have q7:=iX hb7 q6;have I7:=HIn.out.next D7;have rl7:w7.ownsRow Bl 47 2 (.slice rva ps1[m].2.length rvc) ps1[m].2.length (zs m):=by
      have:=(I7.row m hmlt).1;rw [if_pos hm1.symm,erv] at this;exact this
     have hBl7:=I7.hi;refine wpOp_step rfl (fun K hK=>?_);refine Eq.mpr (if_pos aG) ?_;refine dH (some 48) rfl (Operand.tmp 44) (Operand.tmp 47) 38 rfl Bl 47 i0 _ 2 32 underlying38 hi hj0 hj1 hj2 rfl (by decide) (.slice rva ps1[m].2.length rvc) ps1[m].2.length (zs m) rfl rl7 (ah w3 0) 1 1 [.slice ra L[k].2.1.length rc,.int .i64 L[k].2.2] rfl rfl ?Ac1 ?Ac2 ?Ac3 ?Ac4 ?Ac5 ?_
     case Ac1 =>
      intro j u hj
      match j,hj with
      | 0,hj=>simp at hj; subst hj; exact cell_of (i:=0) q7 rfl
      | 1,hj=>simp at hj; subst hj; exact cell_of (i:=1) q7 rfl
     case Ac2=>intro u hu; simp at hu; rcases hu with rfl | rfl <;> rfl
     case Ac3=>unfold maxLen; omega
     case Ac4=>omega
     case Ac5=>exact hBl7
     all_goals
      intro v8 w8 o8 g8 _;have nb8:∀ q,Value.ownBlock (.slice rva ps1[m].2.length rvc)=some q→w.heap.size≤q∧q<w7.heap.size∧(q=wr.heap.size→False)∧(q=g→False):=fun q hq=>by
       have h1:=rl7.lt q hq;refine ⟨MO I7.lo h1.1,h1.2,fun e=>?_,fun e=>?_⟩
       ·exact jW rl7 CW7 (by decide) (by rw [hq,e])
       ·have o7:=I7.own;rcases om (by decide) rl7 o7 with h2 | h2
        ·rw [h2] at hq; cases hq
        ·exact h2 (by rw [hq,e]; rfl)
      have CW8:=(g8.block _ (an CW7) (fun e=>(nb8 _ e.symm).2.2.1 rfl)).trans CW7;have c8:w8.cell? ⟨g,m*2+1,none⟩=some (.slice rva ps1[m].2.length rvc)∧w8.frozen? ⟨g,m*2+1,none⟩=false:=by
       have o7:=I7.own;rw [hm1] at o7;have hb8:=g8.block g (o7.lt g rfl).2 (fun e=>(nb8 _ e.symm).2.2.2 rfl);refine ⟨(MP (a:=⟨g,m*2+1,none⟩) hb8).trans ?_,(NU (a:=⟨g,m*2+1,none⟩) hb8).trans (o7.frozenAt _)⟩;rw [o7.cellAt _ ag,I7.cell m hmlt,erv]
      have hg8:g<w8.heap.size:=by
       have o7:=I7.own;rw [hm1] at o7;exact My (o7.lt g rfl).2 g8.size
      refine hK _ _ ⟨CW8,?_⟩;clear hK K;try simp only [pX]
      refine bB hCC 49 9 (.pointer (some ⟨g,m*2,none⟩)) (fun n hn=>?_) CW8 ?_
      ·go_simp
      simp only [pX];refine bB hCC 50 10 (.pointer (some ⟨g,m*2+1,none⟩)) (fun n hn=>?_) CW8 ?_
      ·go_simp
      simp only [pX];refine gp 11 aG fun w9 hb9=>?_
      have c9:=(hb9.cell (p:=⟨g,m*2+1,none⟩) hg8).trans c8.1;have f9:=(hb9.frozen (p:=⟨g,m*2+1,none⟩) hg8).trans c8.2;have CW9:=hCC _ _ CW8 hb9;obtain ⟨v8a,v8c,ev8⟩:∃ v8a v8c,v8 = .slice v8a (ps1[m].2.length+1) v8c:=fa o8;have P9:np w w (w9.setCell ⟨g,m*2+1,none⟩ v8) (.slice (some (ah g 0)) (m+1) c) (iP ps1 L[k].2):=by
       have I7':=I7;rw [← ev] at I7';exact pQ.put I7' hm1 (rc:=rc) HSr.out (by rw [erv]; exact g8) o8 hb9
      have B9:Below w w (w9.setCell ⟨g,m*2+1,none⟩ v8):=((chain ((chain hbx D7).trans ((Mz _ _).grown g8 (MO hbx.size D7.size) (fun q hq=>(nb8 q hq).1))) hb9)).setCell (p:=⟨g,m*2+1,none⟩) hgB _;have CW10:((w9.setCell ⟨g,m*2+1,none⟩ v8).heap[wr.heap.size]? = some (.cells #[.slice ka L[k].1.length kc,.slice ra L[k].2.1.length rc,.int .i64 L[k].2.2] 165 (0,0))):=(Nf _ _ _ _ (fun e=>hgl e.symm)).trans CW9;subst ev8;refine wpOp_step rfl (fun K hK=>?_);go_simp;refine hK _ _ ⟨CW10,?_⟩;clear hK K CW7 CW8 CW9 c8 c9 f9 nb8 rl7 I7 q7 o8 g8
      generalize w9.setCell ⟨g,m*2+1,none⟩ (.slice v8a (ps1[m].2.length+1) v8c)=wS at *;try simp only [pX]
      refine cA aG ?_;intro wT hbT;have PT:=P9.next hbT;have BT:=chain B9 hbT;clear P9 B9 CW10 CW CWt;go_wp2_with fail
      go_roundw
      case rel=>exact ⟨k+1,by omega,by go_num,by rw [HT.out,eo]; first | exact PT | (rw [hm1]; exact PT),BT⟩
      case measure=>simp [intOf]; omega
  ·have e:k=L.length:=by omega
   subst e;rw [MM] at HPs;obtain ⟨va,vc,ev⟩:∃ va vc,u3 = .slice va (dJ L).length vc:=by obtain ⟨_,_,_,_,I⟩:=HPs; exact fa I.own
   subst ev;go_wp2_with fail
   go_ret;exact ⟨_,rfl,HPs,hb⟩
def cZ:Int→List Kp→List Zp
 | _,[]=>[]
 | n,x :: r=>(x.2.1,min x.2.2 n) :: cZ (n - min x.2.2 n) r
theorem yR:∀ (n:Int) (l:List Kp),(cZ n l).length=l.length
 | _,[]=>rfl
 | n,x :: r=>by simp [cZ,yR _ r]
theorem sL:∀ (n:Int) (l:List Kp),0≤n→(∀ x ∈ l,0<x.2.2)→∀ y ∈ cZ n l,(∃ x ∈ l,y.1=x.2.1)∧0≤y.2∧y.2≤n
 | _,[],_,_,y,hy=>by simp [cZ] at hy
 | n,x :: r,hn,hl,y,hy=>by
  rw [cZ] at hy
  have hx:=hl x (by simp)
  rcases List.mem_cons.1 hy with rfl | hy
  ·exact ⟨⟨x,by simp,rfl⟩,by simp only; omega,by simp only; omega⟩
  ·obtain ⟨⟨q,hq,e⟩,h1,h2⟩:=sL _ r ag (fun q hq=>hl q (by simp [hq])) y hy
   exact ⟨⟨q,by simp [hq],e⟩,h1,by omega⟩
theorem dL {xs:List Ex} {z:List Zp} {x:Kp}:x ∈ aY xs z↔(x.2 ∈ z∧0<x.2.2)∧x.1=bp xs x.2.1:=by
 rw [(gm xs z).mem_iff];unfold dq;rw [Np];constructor
 ·rintro ⟨p,hp,rfl⟩;have:=List.mem_filter.1 hp;exact ⟨⟨this.1,by simpa using this.2⟩,rfl⟩
 ·rintro ⟨⟨h1,h2⟩,h3⟩;exact ⟨x.2,List.mem_filter.2 ⟨h1,by simpa using h2⟩,by rw [← h3]⟩
def jU (cols:List Int) (xs:List Ex) (k:Int) (z:List Zp):Int:=if bM cols xs≠0 then bM cols xs else if k<0∨50<k then 3 else if bV cols z≠0 then bV cols z else aR (cZ k (aY xs z))
def lY (cols:List Int) (xs:List Ex) (k:Int) (z:List Zp):List Zp:=if jU cols xs k z=0 then canon (cZ k (aY xs z)) else []
theorem CT {n:Int} {l:List Kp} {j:Nat} (h:j<l.length):cZ n (l.drop j)=(l[j].2.1,min l[j].2.2 n) :: cZ (n - min l[j].2.2 n) (l.drop (j+1)):=by
 rw [MI h,cZ]
theorem F8 (cols:List Int) (xs:List Ex) (n:Int) (hn64:-9223372036854775808≤n∧n≤9223372036854775807) (ca:Option Addr) (ccap:Nat) (xa:Option Addr) (xcap:Nat) (a:Option Addr) (cap:Nat) (l:List Zp) (w:World) (hc:bf w w ca cols) (hk:aU w w xa xs) (h:aK w a l) :
  Calls prog 97 #[.slice ca cols.length ccap,.slice xa xs.length xcap,n,.slice a l.length cap] w fun e w'=>∃ v,e = .returned (.tuple #[v,.int .i64 (jU cols xs n l)])∧eA w w' v (lY cols xs n l)∧Below w w w':=by
 obtain ⟨i0,hi,hj0,hj1,hj2⟩:=info_parts Tryz.fK;have con:=xn cols xs ca ccap xa xcap w hk hc;generalize hfz:lY cols xs n l=fz;generalize hfe:jU cols xs n l=fe;have HZ:=aB hfz;have HF:=aB hfe;clear hfz hfe;by_cases h1:bM cols xs=0
 ·have H1:=aB h1;rw [h1] at con;clear h1;by_cases hr:n<0∨50<n
  ·have e0:fe=3:=by rw [← HF.out]; unfold jU; rw [H1.out,if_neg (by simp),if_pos hr]
   have e1:fz = []:=by rw [← HZ.out]; unfold lY; rw [HF.out,e0,if_neg (by decide)]
   subst e0;have HV:=aB e1;clear e1;go_enter func97,ntmps97;go_wp2_with fail
   refine con.mono ?_;rintro e w1 ⟨u,rfl,hL,hb1⟩;clear con hL;dsimp only;by_cases hr1:n<0
   ·go_wp2
    exact bJ rfl rfl ⟨_,rfl,by rw [HV.out]; exact ed _ _,hb1⟩
   ·have hr2:50<n:=by omega
    go_wp2
    exact bJ rfl rfl ⟨_,rfl,by rw [HV.out]; exact ed _ _,hb1⟩
  have hr1:¬ n<0:=fun h=>hr (.inl h)
  have hr2:¬ 50<n:=fun h=>hr (.inr h)
  have HRg:=aB hr;clear hr;go_enter func97,ntmps97;go_wp2_with fail
  refine con.mono ?_;rintro e w1 ⟨u,rfl,hL,hb1⟩;clear con;have hL:lM cols w u xs w1:=by
   rcases hL with ⟨_,hL⟩ | ⟨hL,_⟩
   ·exact hL
   ·exact absurd (by trivial) hL
  obtain ⟨g,cb,rfl,eg,d⟩:=hL;have HL:Hid (lM cols w (.func (.func g) #[] cb) xs w1):=⟨g,cb,rfl,eg,d⟩
  clear d;have con:=hU cols ca ccap a cap l w1 ((hc.next hb1 (Mx _)).up hb1.size) (h.next hb1);by_cases h2:bV cols l=0
  ·have hz:=(gj cols l).1 h2;rw [h2] at con;have H2:=aB h2;clear h2;have HE:Hid (fe=aR (cZ n (aY xs l))):=by
    show fe=_;rw [← HF.out]; unfold jU; rw [H1.out,H2.out,if_neg (by simp),if_neg HRg.out,if_neg (by simp)]
   have HV:Hid (fz=bh (cZ n (aY xs l))):=by
    show fz=_;rw [← HZ.out]; unfold lY bh; rw [HF.out,HE.out]
   have hl4:=dg hz;have HO:=aB hz;dsimp only;go_wp2_with fail
   refine bC con fun w2 hb2=>?_;clear con;have hA:=chain hb1 hb2;have con:=rT cols xs (.func (.func g) #[] cb) w.heap.size a cap l w2 (HL.out.next (aI.of hb2)) HO.out (h.next hA);have hil:=jv xs l;generalize hio:aY xs l=L at *;have HI:=aB hio;clear hio;dsimp only;go_wp2_with fail
   refine con.mono ?_;rintro e w3 ⟨a3,c3,rfl,kd,hb3⟩;clear con;have hA3:=chain hA hb3;dsimp only;have HP:Hid (∀ x ∈ L,0<x.2.2):=fun x hx=>by rw [← HI.out] at hx; exact (dL.1 hx).1.2
   have HW:Hid (∀ x ∈ L,x.2.2≤1000000):=fun x hx=>by
    rw [← HI.out] at hx;have:=jb HO.out x.2 (dL.1 hx).1.1;rw [cK] at this;exact this.2
   clear hz;go_wp2_with fail
   go_loopw [13,14,44] (fun v s14 i wr=>∃ (k:Nat) (lf:Int) (acc:List Zp),k≤L.length∧i = .int .i64 k∧s14 = .int .i64 lf∧0≤lf∧lf≤50∧acc.length≤k∧qW w3 w3 wr v acc∧Hid (cZ n L=acc ++ cZ lf (L.drop k))∧Below w3 w3 wr) (fun _ _ i _=>L.length - (intOf i).toNat)
   case atStart=>exact ⟨0,n,[],MD _,rfl,rfl,by omega,by omega,Mx _,⟨[],by simpa using M4 _ _ _ _,by simp [iy]⟩,rfl,Mz _ _⟩
   case round =>
    obtain ⟨k,lf,acc,hk',rfl,rfl,hf0,hf1,hacc,HOB,HT,hb⟩:=hrel;have hzr:=hb.size;by_cases hlt:k<L.length
    ·obtain ⟨b,off,rfl,hbl,e2,⟨ra,rc,e1,sr⟩,ka,kc,e0,_⟩:=kd.elem hlt;have p2:=(hb.cell (p:=⟨b,_,none⟩) hbl).trans e2;have p1:=(hb.cell (p:=⟨b,_,none⟩) hbl).trans e1;have p0:=(hb.cell (p:=⟨b,_,none⟩) hbl).trans e0;have hbl':=My hbl hzr;have HS:=aB sr;have hw0:=HP.out L[k] (MC hlt);have hw1:=HW.out L[k] (MC hlt);have HD:Hid (cZ lf (L.drop k)=(L[k].2.1,min L[k].2.2 lf) :: cZ (lf - min L[k].2.2 lf) (L.drop (k+1))):=CT hlt;obtain ⟨xs',ho,he⟩:=HOB;have HEn:=aB he
     have hal:=aN wr (.cells #[.slice ka L[k].1.length kc,.slice ra L[k].2.1.length rc,.int .i64 L[k].2.2] 165);have ho1:=aL ho hal;have za:(wr.alloc (.cells #[.slice ka L[k].1.length kc,.slice ra L[k].2.1.length rc,.int .i64 L[k].2.2] 165)).heap.size=wr.heap.size+1:=by simp
     clear e0 e1 e2 sr he ho;go_wp2_with (at_builtin; refine MX _ rfl _ _ 38 rfl w3 47 i0 _ 2 32 underlying38 hi hj0 hj1 hj2 rfl (by decide) _ _ _ rfl (ho1.alloc _) (ah (wr+1) 0) 1 1 [.slice ra L[k].2.1.length rc,.int .i64 (min L[k].2.2 lf)] rfl rfl ?Ac1 ?Ac2 ?Ac3 ?Ac4 ?Ac5 ?_)
     case Ac1 =>
      intro j u hj
      match j,hj with
      | 0,hj=>simp at hj; subst hj; simp [Addr.add]
      | 1,hj=>simp at hj; subst hj; simp [Addr.add]
     case Ac2=>intro u hu; simp at hu; rcases hu with rfl | rfl <;> rfl
     case Ac3=>unfold maxLen; omega
     case Ac4=>omega
     case Ac5=>simp; omega
     intro v' w5 ho5 hg5 _;have hb5:=(((Mz w3 wr).alloc ag _).alloc (by simp; omega) _).grown hg5 (by simp; omega) (fun q hq=>((ho1.alloc (.cells #[.slice ra L[k].2.1.length rc,.int .i64 (min L[k].2.2 lf)] 47)).lt q hq).1);have hb6:=hb.trans hb5;clear hg5 ho1 hal hb5;go_wp2
     go_roundw
     case rel=>exact ⟨k+1,lf - min L[k].2.2 lf,acc ++ [(L[k].2.1,min L[k].2.2 lf)],by omega,by go_num,rfl,by omega,by omega,by simp; omega,⟨_,by simpa using ho5,HEn.out.push HS.out⟩,by show cZ n L=_; rw [HT.out,HD.out]; simp,hb6⟩
     case measure=>simp [intOf]; omega
    ·have e:k=L.length:=by omega
     subst e;have ea:cZ n L=acc:=by have:=HT.out; rw [NY] at this; simpa [cZ] using this
     obtain ⟨a4,c4,rfl,zs4,_⟩:=HOB.zs hb;have hmem:=sL n L ag HP.out;have con:=eU a4 c4 acc wr zs4 ag (fun y hy=>by rw [← ea] at hy; have:=hmem y hy; rw [mg]; omega) (fun y hy=>by
      rw [← ea] at hy;obtain ⟨⟨x,hx,e⟩,_⟩:=hmem y hy;rw [e];rw [← HI.out] at hx;exact JR HO.out x.2 (dL.1 hx).1.1)
     have HV':=HV.out;have HE':=HE.out;rw [ea] at HV' HE';rw [← HE',← HV'] at con;clear HV' HE' zs4 HOB ea hmem;go_wp2_with fail
     refine con.mono ?_;rintro e w6 ⟨v6,rfl,O6,hb6⟩;have hA6:=chain hA3 hb;have O6':=O6.mono hA6.size;obtain ⟨a6,c6,rfl,_⟩:=O6.zs;clear con O6;dsimp only;go_wp2
     exact bJ rfl rfl ⟨_,rfl,O6',chain hA6 hb6⟩
  ·have e0:fe=bV cols l:=by rw [← HF.out]; unfold jU; rw [H1.out,if_neg (by simp),if_neg HRg.out,if_pos h2]
   have e1:fz = []:=by rw [← HZ.out]; unfold lY; rw [HF.out,e0,if_neg h2]
   have hne:(bV cols l != 0)=true:=by simpa using h2
   rw [← e0] at con hne;have HV:=aB e1;clear e0 e1 h2;dsimp only;go_wp2_with fail
   refine bC con fun w2 hb2=>?_;clear con;dsimp only;go_wp2
   exact bJ rfl rfl ⟨_,rfl,by rw [HV.out]; exact ed _ _,chain hb1 hb2⟩
 ·have e0:fe=bM cols xs:=by rw [← HF.out]; unfold jU; rw [if_pos h1]
  have e1:fz = []:=by rw [← HZ.out]; unfold lY; rw [HF.out,e0,if_neg h1]
  have hne:(bM cols xs != 0)=true:=by simpa using h1
  have HL:=aB h1;rw [← e0] at hne;have HV:=aB e1;have HN:=aB e0;clear e0 e1 h1;go_enter func97,ntmps97;go_wp2_with fail
  refine con.mono ?_;rintro e w1 ⟨u,rfl,hL,hb1⟩;obtain ⟨_,rfl⟩:¬ bM cols xs=0∧u = .nilFunc:=by
   rcases hL with ⟨hL,_⟩ | hL
   ·exact absurd hL HL.out
   ·exact hL
  rw [← HN.out];clear con;go_wp2
  exact bJ rfl rfl ⟨_,rfl,by rw [HV.out]; exact ed _ _,hb1⟩
end Go.Proofs.YtoefpglknaiaeaaGreat
