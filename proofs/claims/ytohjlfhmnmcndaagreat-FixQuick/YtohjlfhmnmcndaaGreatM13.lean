/- Together: NE, J11, J12, J13, J14, NF, NG, NH, NI. -/
import Derived.Laws.CopyOwn
import Derived.Test.YtohjlfhmnmcndaaGreatM11
import Derived.Test.YtohjlfhmnmcndaaGreatM8
namespace Go.Proofs.YtohjlfhmnmcndaaGreat
open Go.RowKit Go.Lib Go.Shelf
set_option maxRecDepth 100000
set_option maxHeartbeats 16000000
theorem G3 (ts:List (List Int)) (B lo:Nat) (p k0:Pl) (q:Pw) (ca:Option Addr) (n cc:Nat) (na:Option Addr) (nc:Nat) (z:List Zp) (za:Option Addr) (zc:Nat) (w:World) (hB:B≤w.heap.size) (hN:sY ts B lo w na p.ks) (hp:ja B w p q) (hk:cz p) (hks:p.ks = [k0]) (hz:aL w za z) :
  Calls Tryz.prog 67 #[oI p q ca n cc na nc,.slice za z.length zc] w fun e w'=>∃ v,e = .returned (.tuple #[v,.int .i64 (aT [] p.k p.n p.x p.xs p.gs [ah ts k0] [z]).1])∧bZ w.heap.size w' v (aT [] p.k p.n p.x p.xs p.gs [ah ts k0] [z]).2∧Below w.heap.size w w':=by
 have hl0:p.ks.length=1:=by rw [hks]; rfl
 rw [hks] at hN;obtain ⟨b,off,q0,c1,cc1,n1,nc1,rfl,hbl,hbt,_,d11,_,ND⟩:=hN.elem (i:=0) (by simp);simp only [Nat.zero_mul,Oz,Oa] at d11 ND;have I1:=ND.cols;have lz:0<p.ks.length:=by omega
 have hA:=aa w (.cells (pd p q ca n cc (some ⟨b,off,none⟩) p.ks.length nc) 73);have Q:=aw w (pd p q ca n cc (some ⟨b,off,none⟩) p.ks.length nc) 73;have d11A:=(hA.cell (p:=⟨b,off+11,none⟩) hbl).trans d11;generalize hR:aT [] p.k p.n p.x p.xs p.gs [ah ts k0] [z]=R;have HR:Hid (aT [] p.k p.n p.x p.xs p.gs [ah ts k0] [z]=R):=hR;have HK:Hid (cz p):=hk;clear hR hk hN ND hks hl0;obtain ⟨re,rz⟩:=R;dsimp only;unfold oI;go_enter Tryz.func67,Tryz.ntmps67;go_wp2_with fail
 generalize w.alloc (.cells (pd p q ca n cc (some ⟨b,off,none⟩) p.ks.length nc) 73)=wA at *;have x0:=cell_of (i:=0) Q rfl;have x1:=cell_of (i:=1) Q rfl;have x2:=cell_of (i:=2) Q rfl;have x3:=cell_of (i:=3) Q rfl;have x4:=cell_of (i:=4) Q rfl;have x5:=cell_of (i:=5) Q rfl;have x6:=cell_of (i:=6) Q rfl;have x7:=cell_of (i:=7) Q rfl;have x8:=cell_of (i:=8) Q rfl;have x9:=cell_of (i:=9) Q rfl;have x10:=cell_of (i:=10) Q rfl;have x11:=cell_of (i:=11) Q rfl;have x12:=cell_of (i:=12) Q rfl;have lA:=ae Q;have lb:=Nn hbl hA.size;go_region
 have hd:Below (wA.alloc (.cells (eS p q) 31)).heap.size (wA.alloc (.cells (eS p q) 31)) (wA.alloc (.cells (eS p q) 31)).drew:=(Nk _ _).drew;have hal:=aa wA (.cells (eS p q) 31);have E0:=gY.new wA p q 31;have zA:wA.heap.size<(wA.alloc (.cells (eS p q) 31)).heap.size:=by simp
 have hAd:=chain hA (chain hal hd);have E1:=E0.next hd zA;clear x0 x1 x2 x3 x4 x5 x6 x7 x8 x9 x10 x11 x12 Q d11A E0;generalize (wA.alloc (.cells (eS p q) 31)).drew=wB at *;have hpB:=(hp.next hAd hB).up (Nw hB hAd.size);have hcB:=(I1.low hAd hB).at;have hzB:=hz.next hAd;obtain ⟨y0,y1,⟨y2,y3,y4,y5,y6,y7⟩,y8,y9,y10⟩:=E1;simp only [Np] at y1 y2 y3 y4 y5 y6 y7 y8 y9 y10;clear hd hal zA lA lb;by_cases k2:p.k=2;have kb:(p.k == 2)=true:=by simpa using k2
 have e1:re=eV (ah ts k0) p.x z:=by have h:=congrArg Prod.fst HR.out; simp [aT,k2] at h; exact h.symm
 have e2:rz=iq (ah ts k0) p.x z:=by have h:=congrArg Prod.snd HR.out; simp [aT,k2] at h; exact h.symm
 have con:=uA (ah ts k0) p.x c1 cc1 q.xa q.xc za zc z wB hcB hpB.x hzB;rw [← e1,← e2] at con;unfold lC at con;clear e1 e2 HR k2;rotate_left;have b2:(p.k == 2)=false:=by rw [beq_eq_false_iff_ne]; exact k2
 by_cases k3:p.k=3;have kb:(p.k == 3)=true:=by simpa using k3
 have e1:re=iv (ah ts k0) p.xs z:=by have h:=congrArg Prod.fst HR.out; simp [aT,k3] at h; exact h.symm
 have e2:rz=nd (ah ts k0) p.xs z:=by have h:=congrArg Prod.snd HR.out; simp [aT,k3] at h; exact h.symm
 have con:=Gz (ah ts k0) p.xs c1 cc1 q.sa q.sc za zc z wB hcB hpB.xs hzB;rw [← e1,← e2] at con;clear e1 e2 HR k2 k3;rotate_left;have b3:(p.k == 3)=false:=by rw [beq_eq_false_iff_ne]; exact k3
 by_cases k10:p.k=10;have kb:(p.k == 10)=true:=by simpa using k10
 have e1:re=aF z:=by have h:=congrArg Prod.fst HR.out; simp [aT,k10] at h; exact h.symm
 have e2:rz=gS lL z:=by have h:=congrArg Prod.snd HR.out; simp [aT,k10] at h; exact h.symm
 have con:=yV za zc z wB hzB;rw [← e1,← e2] at con;clear e1 e2 HR k2 k3 k10;rotate_left;have b10:(p.k == 10)=false:=by rw [beq_eq_false_iff_ne]; exact k10
 by_cases k11:p.k=11;have kb:(p.k == 11)=true:=by simpa using k11
 have e1:re=aF z:=by have h:=congrArg Prod.fst HR.out; simp [aT,k11] at h; exact h.symm
 have e2:rz=gS fg z:=by have h:=congrArg Prod.snd HR.out; simp [aT,k11] at h; exact h.symm
 have con:=mc za zc z wB hzB;rw [← e1,← e2] at con;clear e1 e2 HR k2 k3 k10 k11;rotate_left;have b11:(p.k == 11)=false:=by rw [beq_eq_false_iff_ne]; exact k11
 by_cases k12:p.k=12;have kb:(p.k == 12)=true:=by simpa using k12
 have e1:re=df (ah ts k0) p.xs p.gs z:=by have h:=congrArg Prod.fst HR.out; simp [aT,k12] at h; exact h.symm
 have e2:rz=fp (ah ts k0) p.xs p.gs z:=by have h:=congrArg Prod.snd HR.out; simp [aT,k12] at h; exact h.symm
 have con:=zd (ah ts k0) p.xs p.gs (fun g _ _=>uU g.1) HK.out.sum c1 cc1 q.sa q.sc q.ga q.gc za zc z wB hcB hpB.xs hpB.gs hzB;rw [← e1,← e2] at con;clear e1 e2 HR k2 k3 k10 k11 k12;rotate_left;have b12:(p.k == 12)=false:=by rw [beq_eq_false_iff_ne]; exact k12
 have e1:re=kh (ah ts k0) p.xs p.n z:=by have h:=congrArg Prod.fst HR.out; simp [aT,k2,k3,k10,k11,k12] at h; exact h.symm
 have e2:rz=mV (ah ts k0) p.xs p.n z:=by have h:=congrArg Prod.snd HR.out; simp [aT,k2,k3,k10,k11,k12] at h; exact h.symm
 have con:=FL (ah ts k0) p.xs p.n HK.out.n c1 cc1 q.sa q.sc za zc z wB hcB hpB.xs hzB;rw [← e1,← e2] at con;clear e1 e2 HR k2 k3 k10 k11 k12;go_wp2_with fail
 refine con.mono ?_;rintro e w5 ⟨v5,rfl,O5,hb5⟩;clear con y0 y1 y2 y3 y4 y5 y6 y7 y8 y9 y10;have O5':=O5.mono hAd.size;dsimp only;go_wp2_with fail
 exact Nl (v:=.tuple #[v5,.int .i64 re]) (by simp [results,Tryz.results67,go_sem]) rfl ⟨_,rfl,O5',chain hAd hb5⟩
 all_goals
  go_wp2_with fail
  refine con.mono ?_;rintro e w5 ⟨v5,rfl,O5,hb5⟩;clear con y0 y1 y2 y3 y4 y5 y6 y7 y8 y9 y10;have O5':=O5.mono hAd.size;dsimp only;go_wp2_with fail
  exact Nl (v:=.tuple #[v5,.int .i64 re]) (by simp [results,Tryz.results67,go_sem]) rfl ⟨_,rfl,O5',chain hAd hb5⟩
theorem Ba (g:Nat) (fs cb:Array Value) (p:Zp→Bool) (a:Option Addr) (cap:Nat) (l:List Zp) (w0 w:World) (Inv:World→Prop) (h:aL w0 a l) (hl:l.length≤100000)
  (eg:∀ args w,(callFunc g args).run Tryz.prog w = .ok (.enter g args) w) (hI0:Inv w) (hI1:∀ W,Inv W→Below w0.heap.size w0 W) (hI2:∀ W W',Inv W→Below w.heap.size W W'→Inv W')
  (hcall:∀ x ∈ l,∀ (ra:Option Addr) (rc:Nat) (W:World),Inv W→aM w0 ra x.1→w.heap.size≤W.heap.size→Calls Tryz.prog g (fs ++ #[.agg #[.slice ra x.1.length rc,.int .i64 x.2]] ++ cb) W fun e w'=>e = .returned (.bool (p x))∧Inv w'∧ax w.heap.size W w') :
  Calls Tryz.prog 119 #[.slice a l.length cap,.func (.func g) fs cb] w fun e w'=>∃ v,e = .returned v∧qE w0 w.heap.size w' v (l.filter p)∧Inv w'∧w.heap.size≤w'.heap.size:=by
 obtain ⟨i0,hi,hj0,hj1,hj2⟩:=info_parts Tryz.gX;have HC:Hid (∀ x ∈ l,∀ (ra:Option Addr) (rc:Nat) (W:World),Inv W→aM w0 ra x.1→w.heap.size≤W.heap.size→Calls Tryz.prog g (fs ++ #[.agg #[.slice ra x.1.length rc,.int .i64 x.2]] ++ cb) W fun e w'=>e = .returned (.bool (p x))∧Inv w'∧ax w.heap.size W w'):=hcall;have H1:Hid (∀ W,Inv W→Below w0.heap.size w0 W):=hI1;have H2:Hid (∀ W W',Inv W→Below w.heap.size W W'→Inv W'):=hI2;clear hcall hI1 hI2;go_enter Tryz.func119,Tryz.ntmps119;go_wp2_with fail
 go_loopw [5,10] (fun v i wr=>∃ k:Nat,k≤l.length∧i = .int .i64 k∧qE w0 w.heap.size wr v ((l.take k).filter p)∧Hid (Inv wr)∧w.heap.size≤wr.heap.size) (fun _ i _=>l.length - (intOf i).toNat)
 case atStart=>exact ⟨0,Nr _,rfl,⟨[],by simpa using NP _ _ _ _,by simp [jF]⟩,hI0,Nj _⟩
 case round =>
  clear hI0;obtain ⟨k,hk,rfl,HO,HI,hz⟩:=hrel;by_cases hlt:k<l.length
  ·obtain ⟨b,off,rfl,hbl,d1,ar,cr,d0,sr⟩:=h.elem hlt;have hB:=H1.out _ HI.out;have c1:=(hB.cell (p:=⟨b,_,none⟩) hbl).trans d1;have c0:=(hB.cell (p:=⟨b,_,none⟩) hbl).trans d0;have hbl':b<wr.heap.size:=Nn hbl hB.size;have hlen:((l.take k).filter p).length≤k:=by have:=Oi p (l.take k); simp only [NN] at this; omega
   have hal:=aa wr (.cells #[.slice ar l[k].1.length cr,.int .i64 l[k].2] 58);have IA:Inv (wr.alloc (.cells #[.slice ar l[k].1.length cr,.int .i64 l[k].2] 58)):=H2.out _ _ HI.out (hal.mono hz);have con:=HC.out l[k] (Ns hlt) ar cr _ IA sr (Nw hz hal.size);have q0:(wr.alloc (.cells #[.slice ar l[k].1.length cr,.int .i64 l[k].2] 58)).cell? ⟨wr.heap.size,0,none⟩=some (.slice ar l[k].1.length cr):=by simp
   have q1:(wr.alloc (.cells #[.slice ar l[k].1.length cr,.int .i64 l[k].2] 58)).cell? ⟨wr.heap.size,1,none⟩=some (.int .i64 l[k].2):=by simp
   have za:(wr.alloc (.cells #[.slice ar l[k].1.length cr,.int .i64 l[k].2] 58)).heap.size=wr.heap.size+1:=by simp
   have HS:Hid (aM w0 ar l[k].1):=sr;obtain ⟨xs,ho,he⟩:=HO;have HE:Hid (jF w0 xs ((l.take k).filter p)):=he;have ho1:=aS ho hal;clear d0 d1 sr he ho IA;by_cases hp:p l[k]=true
   ·rw [hp] at con;have HP:Hid (p l[k]=true):=hp;clear hp
    go_wp2_with (first | (go_at_fn g; refine con.mono ?_; rintro e w1 ⟨rfl,I1,s1⟩; have r0:=(s1.cell (p:=⟨wr.heap.size,0,none⟩) hz (by show wr.heap.size<_; omega)).trans q0; have r1:=(s1.cell (p:=⟨wr.heap.size,1,none⟩) hz (by show wr.heap.size<_; omega)).trans q1; have z1:=s1.1; have o1:=jN ho1 (Nj _) s1) | (at_builtin; refine NZ _ rfl _ _ 34 rfl w.heap.size 58 i0 _ 2 32 Tryz.underlying34 hi hj0 hj1 hj2 rfl (by decide) _ _ _ rfl (o1.alloc _) ⟨w1.heap.size,0,none⟩ 1 1 [.slice ar l[k].1.length cr,.int .i64 l[k].2] rfl rfl ?Ac1 ?Ac2 ?Ac3 ?Ac4 ?Ac5 ?_))
    case Ac1 =>
     intro j u hj
     match j,hj with
     | 0,hj=>simp at hj; subst hj; simp [Addr.add]
     | 1,hj=>simp at hj; subst hj; simp [Addr.add]
    case Ac2=>intro u hu; simp at hu; rcases hu with rfl | rfl <;> rfl
    case Ac3=>unfold maxLen; omega
    case Ac4=>omega
    case Ac5=>simp; omega
    intro v' w5 ho5 hg5 _;have hb5:Below w.heap.size w1 w5:=((Nk w.heap.size w1).alloc (by omega) _).grown hg5 (by simp; omega) (fun q hq=>((o1.alloc (.cells #[.slice ar l[k].1.length cr,.int .i64 l[k].2] 58)).lt q hq).1);have HI1:Hid (Inv w5):=H2.out _ _ I1 hb5;have z5:=hb5.size;clear hg5 o1 I1 con q0 q1 ho1;go_wp2
    go_roundw
    case rel=>exact ⟨k+1,by omega,by go_num,by rw [jt p hlt,if_pos HP.out]; exact ⟨_,by simpa using ho5,HE.out.push HS.out⟩,HI1,by omega⟩
    case measure=>simp [intOf]; omega
   ·have hp:p l[k]=false:=by simpa using hp
    rw [hp] at con;have HP:Hid (p l[k]=false):=hp;clear hp;go_wp2_with (go_at_fn g; refine con.mono ?_; rintro e w1 ⟨rfl,I1,s1⟩)
    have o1:=jN ho1 (Nj _) s1;have z1:=s1.1;have HI1:Hid (Inv w1):=I1;clear con q0 q1 ho1 I1;go_roundw
    case rel=>exact ⟨k+1,by omega,by go_num,by rw [jt p hlt,HP.out,if_neg (by decide),OG]; exact ⟨_,o1,HE.out⟩,HI1,by omega⟩
    case measure=>simp [intOf]; omega
  ·have e:k=l.length:=by omega
   subst e;rw [NL] at HO;obtain ⟨av,cv,rfl,_⟩:=HO.zs (H1.out _ HI.out);go_wp2
   go_ret;exact ⟨_,rfl,HO,HI.out,hz⟩
theorem Bg (cols:List Int) (x:Ex) (w0 wp w:World) (a b:Option Addr) (ca cb:Nat) (l r:List Zp) (v:Value) (R rv:Nat) (hP:dB cols x w0 wp a b ca cb l r v R rv) (hI:cP wp R rv w) (za:aL w0 a l) (zb:aL w0 b r) (hq:nM cols l r) :
  Calls Tryz.prog 129 #[v] w fun e w'=>∃ u,e = .returned u∧qE w0 (w.heap.size+1) w' u (jk x l r)∧cP wp R rv w'∧w.heap.size≤w'.heap.size:=by
 have hP':=hP;obtain ⟨lo,wc,hv,u,rfl,hn,hv0,hc,hC,hcR,hcp,h0,h0p⟩:=hP;have hrv:=hI.sz hn;have hll:=hq.ll;have h1:=aa w (.cells #[.slice a l.length ca,.slice b r.length cb,.func (.func 219) #[] #[.pointer (some ⟨rv,0,none⟩),.pointer (some ⟨hv,0,none⟩)]] 162);have e1:(w.alloc (.cells #[.slice a l.length ca,.slice b r.length cb,.func (.func 219) #[] #[.pointer (some ⟨rv,0,none⟩),.pointer (some ⟨hv,0,none⟩)]] 162)).heap.size=w.heap.size+1:=by simp
 clear hC;go_enter Tryz.func129,Tryz.ntmps129;go_wp2_with fail
 generalize w.alloc (.cells #[.slice a l.length ca,.slice b r.length cb,.func (.func 219) #[] #[.pointer (some ⟨rv,0,none⟩),.pointer (some ⟨hv,0,none⟩)]] 162)=w1 at *;have I1:=hI.dX hn hI.size h1;refine (Ba 162 #[.agg #[.slice a l.length ca,.slice b r.length cb,.func (.func 219) #[] #[.pointer (some ⟨rv,0,none⟩),.pointer (some ⟨hv,0,none⟩)]]] #[] (fun y=>lg x r y.1) a ca l w0 w1 (fun W=>cP wp R rv W) za (by omega) (enters_of Tryz.func162 (by kernel_rfl) rfl) I1 (fun W hW=>h0p.trans ((hW.below hn).mono h0)) (fun W W' hW hb=>hW.dX hn I1.size hb) ?_).mono ?_
 ·intro y hy ra rc W hW sy hz;refine (oF cols x w0 wp W a b ca cb l r _ R rv hP' hW zb hq.rl ra rc y sy (fun q hq'=>hq.row y hy q hq') (fun q hq'=>hq.fit y hy q hq')).mono ?_;rintro e w' ⟨rfl,I',S'⟩;exact ⟨rfl,I',S'.up (by omega)⟩
 rintro e w2 ⟨v2,rfl,O2,I2,z2⟩;have HI2:Hid (cP wp R rv w2):=I2;have hs:l.filter (fun y=>lg x r y.1)=jk x l r:=rfl;rw [hs,e1] at O2;obtain ⟨a2,c2,rfl,_⟩:=O2.zs (h0p.trans ((I2.below hn).mono h0));clear I2 I1 hP';dsimp only;go_wp2
 go_ret;exact ⟨_,rfl,O2,HI2.out,by omega⟩
theorem uj (cols:List Int) (x:Ex) (w0 wp:World) (a b:Option Addr) (ca cb:Nat) (l r:List Zp) (R rv hv pb:Nat) (hP:dB cols x w0 wp a b ca cb l r (.agg #[.slice a l.length ca,.slice b r.length cb,.func (.func 219) #[] #[.pointer (some ⟨rv,0,none⟩),.pointer (some ⟨hv,0,none⟩)]]) R rv) (W:World) (hI:cP wp R rv W) (zb:aL w0 b r) (hr:r.length≤400) (ra:Option Addr) (rc:Nat) (y:Zp) (sy:aM w0 ra y.1) (h8:∀ q ∈ r,y.1.length+q.1.length≤8) (hf:∀ q ∈ r,cL cols (y.1 ++ q.1))
  (cp:W.heap[pb]? = some (.cells #[.slice a l.length ca,.slice b r.length cb,.func (.func 219) #[] #[.pointer (some ⟨rv,0,none⟩),.pointer (some ⟨hv,0,none⟩)]] 162 (0,0))) :
  Calls Tryz.prog 163 #[.agg #[.slice ra y.1.length rc,.int .i64 y.2],.pointer (some ⟨pb,0,none⟩)] W fun e w'=>e = .returned (.bool (!lg x r y.1))∧cP wp R rv w'∧ax (rv+1) W w':=by
 have hn:pG wp R rv:=by obtain ⟨_,_,_,_,_,hn,_⟩:=hP; exact hn
 have h1:=aa W (.cells #[.slice ra y.1.length rc,.int .i64 y.2] 58);have p1:=(h1.block pb (ae cp)).trans cp;have k0:(W.alloc (.cells #[.slice ra y.1.length rc,.int .i64 y.2] 58)).cell? ⟨pb,0,none⟩=some (.slice a l.length ca):=cell_of (i:=0) p1 rfl;have k1:(W.alloc (.cells #[.slice ra y.1.length rc,.int .i64 y.2] 58)).cell? ⟨pb,1,none⟩=some (.slice b r.length cb):=cell_of (i:=1) p1 rfl
 have k2:(W.alloc (.cells #[.slice ra y.1.length rc,.int .i64 y.2] 58)).cell? ⟨pb,2,none⟩=some (.func (.func 219) #[] #[.pointer (some ⟨rv,0,none⟩),.pointer (some ⟨hv,0,none⟩)]):=cell_of (i:=2) p1 rfl;have I1:=hI.dX hn hI.size h1;have con:=oF cols x w0 wp _ a b ca cb l r _ R rv hP I1 zb hr ra rc y sy h8 hf;generalize lg x r y.1=t at *;clear hP p1 cp I1 h8 hf;go_enter Tryz.func163,Tryz.ntmps163;go_wp2_with fail
 generalize W.alloc (.cells #[.slice ra y.1.length rc,.int .i64 y.2] 58)=w1 at *;refine con.mono ?_;rintro e w2 ⟨rfl,I2,S2⟩;have HI2:Hid (cP wp R rv w2):=I2;have S3:ax (rv+1) W w2:=(ax.of h1).trans S2;clear con I2 k0 k1 k2 hI;dsimp only;go_wp2
 go_ret;exact ⟨rfl,HI2.out,S3⟩
theorem nP (cols:List Int) (x:Ex) (w0 wp w:World) (a b:Option Addr) (ca cb:Nat) (l r:List Zp) (v:Value) (R rv:Nat) (hP:dB cols x w0 wp a b ca cb l r v R rv) (hI:cP wp R rv w) (za:aL w0 a l) (zb:aL w0 b r) (hq:nM cols l r) :
  Calls Tryz.prog 130 #[v] w fun e w'=>∃ u,e = .returned u∧qE w0 (w.heap.size+1) w' u (ir x l r)∧cP wp R rv w'∧w.heap.size≤w'.heap.size:=by
 have hP':=hP;obtain ⟨lo,wc,hv,u,rfl,hn,hv0,hc,hC,hcR,hcp,h0,h0p⟩:=hP;have hrv:=hI.sz hn;have hll:=hq.ll;have h1:=aa w (.cells #[.slice a l.length ca,.slice b r.length cb,.func (.func 219) #[] #[.pointer (some ⟨rv,0,none⟩),.pointer (some ⟨hv,0,none⟩)]] 162);have p1:=aw w #[.slice a l.length ca,.slice b r.length cb,.func (.func 219) #[] #[.pointer (some ⟨rv,0,none⟩),.pointer (some ⟨hv,0,none⟩)]] 162
 have e1:(w.alloc (.cells #[.slice a l.length ca,.slice b r.length cb,.func (.func 219) #[] #[.pointer (some ⟨rv,0,none⟩),.pointer (some ⟨hv,0,none⟩)]] 162)).heap.size=w.heap.size+1:=by simp
 clear hC;go_enter Tryz.func130,Tryz.ntmps130;go_wp2_with fail
 generalize w.alloc (.cells #[.slice a l.length ca,.slice b r.length cb,.func (.func 219) #[] #[.pointer (some ⟨rv,0,none⟩),.pointer (some ⟨hv,0,none⟩)]] 162)=w1 at *;have I1:=hI.dX hn hI.size h1
 refine (oS 163 #[.pointer (some ⟨w.heap.size,0,none⟩)] (fun y=>!lg x r y.1) a ca l w0 w1 (fun W=>cP wp R rv W∧W.heap[w.heap.size]? = some (.cells #[.slice a l.length ca,.slice b r.length cb,.func (.func 219) #[] #[.pointer (some ⟨rv,0,none⟩),.pointer (some ⟨hv,0,none⟩)]] 162 (0,0))) za (by omega) (enters_of Tryz.func163 (by kernel_rfl) rfl) ⟨I1,p1⟩ (fun W hW=>h0p.trans ((hW.1.below hn).mono h0)) (fun W W' hW hb=>⟨hW.1.dX hn I1.size hb,(hb.block _ (by omega)).trans hW.2⟩) ?_).mono ?_
 ·intro y hy ra rc W hW sy hz;refine (uj cols x w0 wp a b ca cb l r R rv hv w.heap.size hP' W hW.1 zb hq.rl ra rc y sy (fun q hq'=>hq.row y hy q hq') (fun q hq'=>hq.fit y hy q hq') hW.2).mono ?_;rintro e w' ⟨rfl,I',S'⟩;exact ⟨rfl,⟨I',(S'.2 _ (by omega) (by omega)).trans hW.2⟩,S'.up (by omega)⟩
 rintro e w2 ⟨v2,rfl,O2,⟨I2,_⟩,z2⟩;have HI2:Hid (cP wp R rv w2):=I2;have hs:l.filter (fun y=>!lg x r y.1)=ir x l r:=rfl;rw [hs,e1] at O2;obtain ⟨a2,c2,rfl,_⟩:=O2.zs (h0p.trans ((I2.below hn).mono h0));clear I2 I1 hP' p1;dsimp only;go_wp2
 go_ret;exact ⟨_,rfl,O2,HI2.out,by omega⟩
theorem JK (left right:List Int) (x:Ex) (la:Option Addr) (lcap:Nat) (ra:Option Addr) (rcap:Nat) (xa:Option Addr) (xcap:Nat) (a:Option Addr) (ca:Nat) (l:List Zp) (b:Option Addr) (cb:Nat) (r:List Zp) (w:World)
  (hcl:bc w.heap.size w la left) (hcr:bc w.heap.size w ra right) (hx:bd w.heap.size w xa x.ks) (h:aL w a l) (h':aL w b r) (hll:left.length≤100000000000000) (hrl:right.length≤100000000000000) :
  Calls Tryz.prog 100 #[.slice la left.length lcap,.slice ra right.length rcap,lC x.k x.v x.c xa x.ks.length xcap,.slice a l.length ca,.slice b r.length cb] w fun e w'=>∃ v,e = .returned (.tuple #[v,.int .i64 (bY 1 left right x l r)])∧bZ w.heap.size w' v (dg 1 left right x l r)∧Below w.heap.size w w':=by
 have h1:=aa w (.cells (ig x xa xcap) 27);have zs1:=h.next h1;have zs1':=h'.next h1;have con:=kG 1 129 #[] left right x la lcap ra rcap xa xcap a ca l b cb r (w.alloc (.cells (ig x xa xcap) 27)) ((hcl.next h1 (Nj _)).up h1.size) ((hcr.next h1 (Nj _)).up h1.size) ((bd.next h1 (Nj _) hx).up h1.size) zs1 zs1' hll hrl (enters_of Tryz.func129 (by kernel_rfl) rfl) (fun W v R rv hP hI hT=>by
  refine (Bg (left ++ right) x _ W W a b ca cb l r v R rv hP hI zs1 zs1' (nH hT)).mono ?_;rintro e w' ⟨u,rfl,OJ,I',z'⟩;obtain ⟨_,_,_,_,_,hn,_,_,_,_,_,hR,hB⟩:=hP;have hE:=hB.trans ((I'.below hn).mono hR);obtain ⟨ua,uc,rfl,zu,_⟩:=OJ.zs hE;exact ⟨ua,uc,rfl,zu,hE⟩)
 generalize hfz:dg 1 left right x l r=fz at *;generalize hfe:bY 1 left right x l r=fe at *;clear hfz hfe;go_enter Tryz.func100,Tryz.ntmps100;go_wp2_with fail
 generalize w.alloc (.cells (ig x xa xcap) 27)=w1 at *;refine con.mono ?_;rintro e w2 ⟨v2,rfl,O2,hb2⟩;have O2':=O2.mono h1.size;obtain ⟨a2,c2,rfl,_⟩:=O2.zs;clear con O2;dsimp only;go_wp2
 exact Nl (v:=.tuple #[.slice a2 fz.length c2,.int .i64 fe]) (by simp [results,Tryz.results100,go_sem]) rfl ⟨_,rfl,O2',chain h1 hb2⟩
theorem Jq (left right:List Int) (x:Ex) (la:Option Addr) (lcap:Nat) (ra:Option Addr) (rcap:Nat) (xa:Option Addr) (xcap:Nat) (a:Option Addr) (ca:Nat) (l:List Zp) (b:Option Addr) (cb:Nat) (r:List Zp) (w:World)
  (hcl:bc w.heap.size w la left) (hcr:bc w.heap.size w ra right) (hx:bd w.heap.size w xa x.ks) (h:aL w a l) (h':aL w b r) (hll:left.length≤100000000000000) (hrl:right.length≤100000000000000) :
  Calls Tryz.prog 101 #[.slice la left.length lcap,.slice ra right.length rcap,lC x.k x.v x.c xa x.ks.length xcap,.slice a l.length ca,.slice b r.length cb] w fun e w'=>∃ v,e = .returned (.tuple #[v,.int .i64 (bY 2 left right x l r)])∧bZ w.heap.size w' v (dg 2 left right x l r)∧Below w.heap.size w w':=by
 have h1:=aa w (.cells (ig x xa xcap) 27);have zs1:=h.next h1;have zs1':=h'.next h1;have con:=kG 2 130 #[] left right x la lcap ra rcap xa xcap a ca l b cb r (w.alloc (.cells (ig x xa xcap) 27)) ((hcl.next h1 (Nj _)).up h1.size) ((hcr.next h1 (Nj _)).up h1.size) ((bd.next h1 (Nj _) hx).up h1.size) zs1 zs1' hll hrl (enters_of Tryz.func130 (by kernel_rfl) rfl) (fun W v R rv hP hI hT=>by
  refine (nP (left ++ right) x _ W W a b ca cb l r v R rv hP hI zs1 zs1' (nH hT)).mono ?_;rintro e w' ⟨u,rfl,OJ,I',z'⟩;obtain ⟨_,_,_,_,_,hn,_,_,_,_,_,hR,hB⟩:=hP;have hE:=hB.trans ((I'.below hn).mono hR);obtain ⟨ua,uc,rfl,zu,_⟩:=OJ.zs hE;exact ⟨ua,uc,rfl,zu,hE⟩)
 generalize hfz:dg 2 left right x l r=fz at *;generalize hfe:bY 2 left right x l r=fe at *;clear hfz hfe;go_enter Tryz.func101,Tryz.ntmps101;go_wp2_with fail
 generalize w.alloc (.cells (ig x xa xcap) 27)=w1 at *;refine con.mono ?_;rintro e w2 ⟨v2,rfl,O2,hb2⟩;have O2':=O2.mono h1.size;obtain ⟨a2,c2,rfl,_⟩:=O2.zs;clear con O2;dsimp only;go_wp2
 exact Nl (v:=.tuple #[.slice a2 fz.length c2,.int .i64 fe]) (by simp [results,Tryz.results101,go_sem]) rfl ⟨_,rfl,O2',chain h1 hb2⟩
theorem GH (c:Nat) (hc:c≤8) (w:World):Calls Tryz.prog 222 #[.int .u64 1,.int .u64 c] w fun e w'=>e = .returned (.tuple #[.int .u64 0,.int .u64 c])∧w'=w:=by
 have h:c=0∨c=1∨c=2∨c=3∨c=4∨c=5∨c=6∨c=7∨c=8:=by omega
 rcases h with rfl | rfl | rfl | rfl | rfl | rfl | rfl | rfl | rfl
 all_goals (
  have b0:bits BinOp.and IntKind.u64 0 4294967295=0:=by decide +kernel
  have b1:bits BinOp.and IntKind.u64 1 4294967295=1:=by decide +kernel
  have b2:bits BinOp.and IntKind.u64 2 4294967295=2:=by decide +kernel
  have b3:bits BinOp.and IntKind.u64 3 4294967295=3:=by decide +kernel
  have b4:bits BinOp.and IntKind.u64 4 4294967295=4:=by decide +kernel
  have b5:bits BinOp.and IntKind.u64 5 4294967295=5:=by decide +kernel
  have b6:bits BinOp.and IntKind.u64 6 4294967295=6:=by decide +kernel
  have b7:bits BinOp.and IntKind.u64 7 4294967295=7:=by decide +kernel
  have b8:bits BinOp.and IntKind.u64 8 4294967295=8:=by decide +kernel
  go_enter Tryz.func222,Tryz.ntmps222;go_wp2_with fail
  exact Nl (by simp [results,Tryz.results222,go_sem]) rfl ⟨rfl,rfl⟩)
theorem LC (c:Nat) (hc:c≤8) (w:World):Calls Tryz.prog 196 #[.int .u64 1,.int .u64 c] w fun e w'=>e = .returned (.tuple #[.int .u64 0,.int .u64 c])∧w'=w:=by
 go_enter Tryz.func196,Tryz.ntmps196;go_wp2_with fail
 refine (GH c hc w).mono ?_;rintro e w1 ⟨rfl,rfl⟩;dsimp only;go_wp2
 exact Nl (v:=.tuple #[.int .u64 0,.int .u64 c]) (by simp [results,Tryz.results196,go_sem]) rfl ⟨rfl,rfl⟩
theorem sf {P:Program} (w:World) (dT sT ty elem:TypeId) (g o dLen dCap:Nat) (a:Addr) (sLen sCap k m:Nat) (cur:List Value) (t:TypeId) (cs:List Value)
  (hu:P.underlying dT=some (.slice elem)) (hs:(P.info? elem).map (·.size)=some k)
  (hg:w.heap[g]? = some (.cells cur.toArray t (0,0))) (hm:Nat.min sLen dLen=m) (hn:cs.length=m*k)
  (hsrc:∀ j v,cs[j]? = some v→w.cell? (a.add j)=some v) (hfit:o+cs.length≤cur.length) (h1:∀ v ∈ cs,v.oneCell'=true) :
  (Builtin.copy_ #[dT,sT] ty #[.slice (some ⟨g,o,none⟩) dLen dCap,.slice (some a) sLen sCap]).run P w =
   .ok (goInt m) (w.setRow g (splice cur o cs).toArray):=by
 have hl:=run_loadCells_list (P:=P) w a cs hsrc;have hst:=run_storeCells_at P g o t cs 0 cur.toArray w hg (by simpa using hfit) h1;rw [hn] at hl;cases hq:P.info? elem with
 | none=>simp [hq] at hs
 | some i =>
  have hi:i.size=k:=by simpa [hq] using hs
  simp [Builtin.copy_,run_underlying hu,Builtin.lenOf,Builtin.firstCells,sizeOf,typeInfo,hq,hi,hm,hl,hst,splice]
def fu (v:Vl) (n c:Nat):List Value:=bw (List.replicate n v ++ List.replicate (c - n) fH)
theorem yx (v:Vl) (n c:Nat) (h:n≤c):(fu v n c).length=c*3:=by
 unfold fu; rw [dp]; simp; omega
theorem qo (v:Vl) (n m c:Nat) (h:n+m≤c):splice (fu v n c) (n*3) (bw (List.replicate m v))=fu v (n+m) c:=by
 have e1:fu v n c=bw (List.replicate n v) ++ (bw (List.replicate m fH) ++ bw (List.replicate (c - n - m) fH)):=by
  unfold fu;rw [← bQ,← bQ,List.replicate_append_replicate,show m+(c - n - m)=c - n by omega]
 have l1:(bw (List.replicate n v)).length=n*3:=by rw [dp]; simp
 have l2:(bw (List.replicate m v)).length=m*3:=by rw [dp]; simp
 have l3:(bw (List.replicate m fH)).length=m*3:=by rw [dp]; simp
 have t1:(fu v n c).take (n*3)=bw (List.replicate n v):=by rw [e1]; exact List.take_left' l1
 have t2:(fu v n c).drop (n*3+m*3)=bw (List.replicate (c - n - m) fH):=by rw [e1,← Pf]; exact List.drop_left' (by rw [Nx,l1,l3])
 unfold splice;rw [l2,t1,t2];unfold fu;rw [← Pf,← bQ,← bQ,List.replicate_append_replicate,show c - n - m=c - (n+m) by omega]
theorem KA:(Tryz.prog.info? 24).map (·.size)=some 3:=by kernel_rfl
theorem tf {W:World} {g n c:Nat} {v:Vl} (h:W.heap[g]? = some (.cells (fu v n c).toArray 24 (0,0))) {m:Nat} (hm:m≤n):∀ j u,(bw (List.replicate m v))[j]? = some u→W.cell? ((⟨g,0,none⟩:Addr).add j)=some u:=fun j u hj=>by
 rw [gM,Np]
 have e:fu v n c=bw (List.replicate m v) ++ bw (List.replicate (n - m) v ++ List.replicate (c - n) fH):=by
  unfold fu;rw [← bQ,← Pf,List.replicate_append_replicate,show m+(n - m)=n by omega]
 have hl:j<(bw (List.replicate m v)).length:=by
  rcases NY j (bw (List.replicate m v)).length with h | h
  ·exact h
  ·rw [NW h] at hj; cases hj
 simp only [World.cell?,h];simp only [Option.isSome_none,Ox,if_false,List.getElem?_toArray];rw [e,NC hl];exact hj
theorem GC (v:Vl) (c:Nat) (hc:c≤8):fu v 0 c=(madeCells #[.int .i64 0,.int .i64 0,.string ⟨#[]⟩] (c*3)).toList:=by
 have h:c=0∨c=1∨c=2∨c=3∨c=4∨c=5∨c=6∨c=7∨c=8:=by omega
 rcases h with rfl | rfl | rfl | rfl | rfl | rfl | rfl | rfl | rfl <;> simp [fu,bw,madeCells,fH,List.replicate,List.range_succ]
theorem Bi {P:Program} {w:World} {o:Oper} {a:Act} {K:Act→World→Prop} {Q:Exit→Act→World→Prop} (d:Option Tmp) (hd:o.dst=d) (s x:Operand) (t:TypeId)
  (ho:o.op = .call { callee:=.builtin .copy,args:=#[s,x],argTypes:=#[t,t] })
  (elem:TypeId) (g off dLen dCap:Nat) (ad:Addr) (sLen sCap k m:Nat) (cur:List Value) (T:TypeId) (cs:List Value)
  (hu:P.underlying t=some (.slice elem)) (hsz:(P.info? elem).map (·.size)=some k)
  (hg:w.heap[g]? = some (.cells cur.toArray T (0,0))) (hm:Nat.min sLen dLen=m) (hn:cs.length=m*k)
  (hsrc:∀ j v,cs[j]? = some v→w.cell? (ad.add j)=some v) (hfit:off+cs.length≤cur.length) (h1:∀ v ∈ cs,v.oneCell'=true)
  (hs:a.eval s = .slice (some ⟨g,off,none⟩) dLen dCap) (hx:a.eval x = .slice (some ad) sLen sCap)
  (h:K (a.put d (goInt m)) (w.setRow g (splice cur off cs).toArray)):o.wp P a w K Q:=by
 subst hd;have hr:=sf (P:=P) w t t o.type elem g off dLen dCap ad sLen sCap k m cur T cs hu hsz hg hm hn hsrc hfit h1;unfold Oper.wp execOp;simp only [ho,resolve,invoke,builtin,Sem.run_bind,Sem.run_pure,Result.andThen_ok,NM,NO,NS,hs,hx,hr];exact h
theorem Ks {W:World} {g c:Nat} {v:Vl} (h:W.heap[g]? = some (.cells (fu v c c).toArray 24 (0,0))) (hc:c≤8):aM W (some ⟨g,0,none⟩) (List.replicate c v)∧gm W (some ⟨g,0,none⟩):=by
 have hlt:=ae h;refine ⟨⟨by simp; unfold maxLen; omega,.inr ⟨g,0,rfl,fun i hi=>?_,hlt⟩⟩,fun b off e=>?_⟩
 ·have hi':i<c:=by simpa using hi
  have hc:=tf h (Nj c);obtain ⟨f0,f1,f2⟩:=mw (List.replicate c v) i hi;have g0:=hc _ _ f0;have g1:=hc _ _ f1;have g2:=hc _ _ f2;rw [gM] at g0 g1 g2;exact ⟨g0,g1,g2⟩
 ·have e:=NU e;injection e with e1
  subst e1;exact ⟨_,_,h⟩
theorem Ec (B:Nat) (v:Vl) (c:Nat) (hc:c≤8) (w:World) (q0:w.cell? ⟨B,0,none⟩=some (.int .i64 v.1)) (q1:w.cell? ⟨B,1,none⟩=some (.int .i64 v.2.1)) (q2:w.cell? ⟨B,2,none⟩=some (.string v.2.2)) :
  Calls Tryz.prog 164 #[.slice (some ⟨B,0,none⟩) 1 1,.int .i64 c] w fun e w'=>e = .returned (.slice (some ⟨w.heap.size,0,none⟩) c c)∧aM w' (some ⟨w.heap.size,0,none⟩) (List.replicate c v)∧gm w' (some ⟨w.heap.size,0,none⟩)∧Below w.heap.size w w':=by
 obtain ⟨i0,hi,hj0,hj1,hj2⟩:=info_parts GR;have hB:=Nt _ _ q0;go_enter Tryz.func164,Tryz.ntmps164;go_wp2_with fail
 refine (LC c hc w).mono ?_;rintro e w1 ⟨rfl,rfl⟩;dsimp only;go_wp2_with (first | (at_make; refine wpList_make_full _ rfl _ _ 56 rfl w1.heap.size 24 i0 _ 3 Tryz.underlying56 hi hj0 hj1 .i64 .i64 c c c rfl rfl rfl rfl (by rw [hj2]; omega) (by unfold maxLen; omega) (Nj _) ?_))
 intro w2 hown hgrow;have hb2:Below w1.heap.size w1 w2:=(Nk _ _).grown hgrow (Nj _) (by simp);have hrow:w2.heap[w1.heap.size]? = some (.cells (fu v 0 c).toArray 24 (0,0)):=by
  obtain ⟨hx,⟨e,_⟩ | ⟨g,cap,cur,e,_,hh,_,hcs,hs,ht⟩⟩:=hown
  ·cases e
  ·injection e with e1 _ e3
   have e1:=NU e1;injection e1 with e1
   subst e1 e3;have hcl:cur.toList=(madeCells #[.int .i64 0,.int .i64 0,.string ⟨#[]⟩] (c*3)).toList:=by
    rw [← ht]; exact (List.take_of_length_le (by simp [hs])).symm
   have hrp:fu v 0 c=(madeCells #[.int .i64 0,.int .i64 0,.string ⟨#[]⟩] (c*3)).toList:=GC v c hc;rw [hrp,← hcl];exact hh
 clear hown hgrow;have p0:=(hb2.cell (p:=⟨B,0,none⟩) hB).trans q0;have p1:=(hb2.cell (p:=⟨B,1,none⟩) hB).trans q1;have p2:=(hb2.cell (p:=⟨B,2,none⟩) hB).trans q2;obtain ⟨m0,hm0⟩:∃ m,m=Nat.min 1 c:=⟨_,rfl⟩
 have hm1:m0≤1:=by rw [hm0]; exact Nat.min_le_left _ _
 have hm2:m0≤c:=by rw [hm0]; exact Nat.min_le_right _ _
 have hm3:c=0∨m0=1:=by
  rcases Nat.eq_zero_or_pos c with h | h
  ·exact .inl h
  ·exact .inr (by rw [hm0]; exact Nat.min_eq_left h)
 have HM3:Hid (c=0∨m0=1):=hm3;have hrow1:(w2.setRow w1.heap.size (splice (fu v 0 c) (0*3) (bw (List.replicate m0 v))).toArray).heap[w1.heap.size]? = some (.cells (fu v (0+m0) c).toArray 24 (0,0)):=by
  rw [setRow_heap w2 w1.heap.size _ _ _ _ hrow,qo v 0 m0 c (by omega)]
 have hbr:Below w1.heap.size w1 (w2.setRow w1.heap.size (splice (fu v 0 c) (0*3) (bw (List.replicate m0 v))).toArray):=below_setRow hb2 (Nj _) _;have hs1:∀ j u,(bw (List.replicate m0 v))[j]? = some u→w2.cell? ((⟨B,0,none⟩:Addr).add j)=some u:=by
  intro j u hj;have hj':j<(bw (List.replicate m0 v)).length:=by
   rcases NY j (bw (List.replicate m0 v)).length with h | h
   ·exact h
   ·rw [NW h] at hj; cases hj
  have e1:m0=1:=by
   rw [dp] at hj'; simp at hj'; omega
  rw [e1] at hj;have hj3:j=0∨j=1∨j=2:=by rw [dp] at hj'; simp at hj'; omega
  rcases hj3 with rfl | rfl | rfl
  ·simp [bw] at hj; subst hj; rw [gM]; exact p0
  ·simp [bw] at hj; subst hj; rw [gM]; exact p1
  ·simp [bw] at hj; subst hj; rw [gM]; exact p2
 have hs2:0*3+(bw (List.replicate m0 v)).length≤(fu v 0 c).length:=by rw [dp,yx v 0 c (Nr _)]; simp; omega
 have hs3:(bw (List.replicate m0 v)).length=m0*3:=by rw [dp]; simp
 have hcopy:Sem.run Tryz.prog (Builtin.copy_ #[56,56] 3 #[.slice (some ⟨w1.heap.size,0,none⟩) c c,.slice (some ⟨B,0,none⟩) 1 1]) w2 = .ok (.int .i64 m0) (w2.setRow w1.heap.size (splice (fu v 0 c) (0*3) (bw (List.replicate m0 v))).toArray):=sf w2 _ _ _ 24 w1.heap.size 0 c c ⟨B,0,none⟩ 1 1 3 m0 (fu v 0 c) 24 (bw (List.replicate m0 v)) Tryz.underlying56 KA hrow hm0.symm hs3 hs1 hs2 (mh _);rw [Np] at hrow1;clear hrow hm0 hm3 hs1 hs2 hs3;generalize w2.setRow w1.heap.size (splice (fu v 0 c) (0*3) (bw (List.replicate m0 v))).toArray=w3 at *;go_wp2_with fail
 go_loopw [8] (fun s8 wr=>∃ n:Nat,n≤c∧s8 = .int .i64 n∧Hid (c=0∨0<n)∧Hid (wr.heap[w1.heap.size]? = some (.cells (fu v n c).toArray 24 (0,0)))∧Below w1.heap.size w1 wr) (fun s8 _=>c - (intOf s8).toNat)
 case atStart=>exact ⟨m0,hm2,by first | rfl | simp [goInt],by rcases HM3.out with h | h; exact .inl h; exact .inr (by omega),hrow1,hbr⟩
 case round =>
  clear hrow1 hbr;obtain ⟨n,hnc,rfl,HN,HR,hb⟩:=hrel;by_cases hlt:n<c
  ·have hltz:(n:Int)<(c:Int):=by omega
   have hn0:0<n:=by rcases HN.out with h | h; omega; exact h
   obtain ⟨m,hm⟩:∃ m,m=Nat.min n (c - n):=⟨_,rfl⟩
   have hm1:m≤n:=by rw [hm]; exact Nat.min_le_left _ _
   have hm2:m≤c - n:=by rw [hm]; exact Nat.min_le_right _ _
   have hm3:0<m:=by rw [hm]; exact Nat.lt_min.2 ⟨hn0,by omega⟩
   have HM:Hid (m=Nat.min n (c - n)):=hm;clear hm;go_wp2_with fail
   have hCC:∀ W W':World,True→Below W.heap.size W W'→True:=fun _ _ _ _=>trivial
   have hdr:Below wr.heap.size wr wr.drew:=(Nk _ _).drew;refine aK (fun _=>True) (by kernel_rfl) ?_;refine ab hCC 38 (i:=0) (v:=.int .i64 n) (fun k hk=>?_) trivial ?_
   ·go_simp
   simp only [Act.put,pA,pB,pC];refine ab hCC 39 (i:=1) (v:=.slice (some ⟨w1.heap.size,0,none⟩) c c) (fun k hk=>?_) trivial ?_
   ·go_simp
   simp only [Act.put,pA,pB,pC];refine ab hCC 40 (i:=2) (v:=.int .i64 n) (fun k hk=>?_) trivial ?_
   ·go_simp
   simp only [Act.put,pA,pB,pC];refine ab hCC 41 (i:=3) (v:=.slice (some ⟨w1.heap.size,n*3,none⟩) (c - n) (c - n)) (fun k hk=>?_) trivial ?_
   ·go_simp;omega
   simp only [Act.put,pA,pB,pC];refine ab hCC 42 (i:=4) (v:=.slice (some ⟨w1.heap.size,0,none⟩) c c) (fun k hk=>?_) trivial ?_
   ·go_simp
   simp only [Act.put,pA,pB,pC];refine ab hCC 43 (i:=5) (v:=.int .i64 n) (fun k hk=>?_) trivial ?_
   ·go_simp
   simp only [Act.put,pA,pB,pC];refine ab hCC 44 (i:=6) (v:=.slice (some ⟨w1.heap.size,0,none⟩) n c) (fun k hk=>?_) trivial ?_
   ·go_simp
   simp only [Act.put,pA,pB,pC];refine az (rs:=[7]) (by kernel_rfl) (by simp) ?_;intro w4 hb4 jj hj;obtain rfl:jj=7:=by simpa using hj
   clear hj;have D4:=chain hdr hb4;have R4:w4.heap[w1.heap.size]? = some (.cells (fu v n c).toArray 24 (0,0)):=(D4.block _ (ae HR.out)).trans HR.out;have hrow1:(w4.setRow w1.heap.size (splice (fu v n c) (n*3) (bw (List.replicate m v))).toArray).heap[w1.heap.size]? = some (.cells (fu v (n+m) c).toArray 24 (0,0)):=by
    rw [setRow_heap w4 w1.heap.size _ _ _ _ R4,qo v n m c (by omega)]
   have hbr:Below w1.heap.size w1 (w4.setRow w1.heap.size (splice (fu v n c) (n*3) (bw (List.replicate m v))).toArray):=below_setRow (chain hb D4) (Nj _) _;refine wpOp_step rfl (fun K hK=>?_);refine Eq.mpr (if_pos (by kernel_rfl)) ?_;refine Bi (some 45) rfl (Operand.tmp 41) (Operand.tmp 44) 56 rfl 24 w1.heap.size (n*3) (c - n) (c - n) ⟨w1.heap.size,0,none⟩ n c 3 m (fu v n c) 24 (bw (List.replicate m v)) Tryz.underlying56 KA R4 HM.out.symm (by rw [dp]; simp) (tf R4 hm1) (by rw [dp,yx v n c hnc]; simp; omega) (mh _) rfl rfl ?_
   refine hK _ _ ⟨trivial,?_⟩;clear hK K R4;generalize w4.setRow w1.heap.size (splice (fu v n c) (n*3) (bw (List.replicate m v))).toArray=w5 at *;simp only [Act.put,pA,pB,pC];refine ab hCC 46 (i:=8) (v:=.int .i64 ((n+m:Nat):Int)) (fun k hk=>?_) trivial ?_
   ·go_simp;rw [IntKind.wrap_i64];omega
   simp only [Act.put,pA,pB,pC];refine ab hCC 8 (i:=9) (v:=.int .i64 ((n+m:Nat):Int)) (fun k hk=>?_) trivial ?_
   ·go_simp
   simp only [Act.put,pA,pB,pC];refine bL (by kernel_rfl) ?_;intro w6 hb6;have HR6:Hid (w6.heap[w1.heap.size]? = some (.cells (fu v (n+m) c).toArray 24 (0,0))):=(hb6.block _ (ae hrow1)).trans hrow1;have hB6:=chain hbr hb6;clear hrow1 hbr hb6;go_wp2
   go_roundw
   case rel=>exact ⟨n+m,by omega,by first | rfl | go_num,.inr (by omega),HR6,hB6⟩
   case measure=>simp [intOf]; omega
  ·have e:n=c:=by omega
   subst e;obtain ⟨s1,s2⟩:=Ks HR.out hc;go_wp2
   go_ret;exact ⟨rfl,s1,s2,hb⟩
theorem Jg (w:World):Calls Tryz.prog 165 #[] w fun e w'=>e = .returned (.agg #[.int .i64 1,.int .i64 0,.string ⟨#[]⟩])∧Below w.heap.size w w':=by
 go_enter Tryz.func165,Tryz.ntmps165;go_wp2
 exact Nl (v:=.agg #[.int .i64 1,.int .i64 0,.string ⟨#[]⟩]) (by simp [results,Tryz.results165,go_sem]) rfl ⟨rfl,by first | exact Nk _ _ | exact (Nk _ _).alloc (Nj _) _⟩
theorem xO.LI {w:World} {a b:Option Addr} {ca cb:Nat} {l l':List Zp} (h:aL w a l) (n:a=none→ca=0) (h':aL w b l') (n':b=none→cb=0) (T:TypeId):xO (w.alloc (.cells #[.slice a l.length ca,.slice b l'.length cb] T)) w.heap.size l l':=by
 have hal:=aa w (.cells #[.slice a l.length ca,.slice b l'.length cb] T);refine ⟨by simp,fun k hk=>?_⟩
 match k,hk with
 | 0,_=>exact ⟨a,ca,l,by simp,h.next hal,n,by simp [fl]⟩
 | 1,_=>exact ⟨b,cb,l',by simp,h'.next hal,n',by simp [fl]⟩
theorem mx (n:Nat) (l:List Zp):(gJ n l).length=l.length:=by simp [gJ]
theorem Ao (a:Option Addr) (ca:Nat) (l:List Zp) (m:Nat) (hm:m≤8) (w:World) (h:aL w a l) (hl:l.length≤400) (h8:∀ y ∈ l,y.1.length+m≤8) :
  Calls Tryz.prog 132 #[.slice a l.length ca,.int .i64 m] w fun e w'=>∃ a' c',e = .returned (.slice a' (gJ m l).length c')∧aL w' a' (gJ m l)∧(a'=none→c'=0)∧Below w.heap.size w w':=by
 obtain ⟨i0,hi,hz0,hz1,hz2⟩:=info_parts Tryz.gX;rw [mx];go_enter Tryz.func132,Tryz.ntmps132;go_wp2_with fail
 refine (Jg w).mono ?_;rintro e w1 ⟨rfl,hb1⟩;dsimp only;go_wp2_with fail
 have h2:=aa w1 (.cells #[.int .i64 1,.int .i64 0,.string ⟨#[]⟩] 24);have con:=Ec w1.heap.size (1,0,⟨#[]⟩) m hm (w1.alloc (.cells #[.int .i64 1,.int .i64 0,.string ⟨#[]⟩] 24)) (by simp) (by simp) (by simp);generalize w1.alloc (.cells #[.int .i64 1,.int .i64 0,.string ⟨#[]⟩] 24)=w2 at *;refine con.mono ?_;rintro e w3 ⟨rfl,sn,tn,hb3⟩;clear con;have hA:=chain (chain hb1 h2) hb3;have hnl:(gy m).length=m:=by simp [gy]
 have sn:aM w3 (some ⟨w2.heap.size,0,none⟩) (gy m):=sn;dsimp only;go_wp2_with (first | (at_make; refine wpList_make_full _ rfl _ _ 34 rfl w3.heap.size 58 i0 _ 2 Tryz.underlying34 hi hz0 hz1 .i64 .i64 l.length l.length l.length rfl rfl rfl rfl (by rw [hz2]; omega) (by unfold maxLen; omega) (Nj _) ?_))
 intro w4 hown hgrow;have hb4:Below w3.heap.size w3 w4:=(Nk _ _).grown hgrow (Nj _) (by simp);obtain ⟨f,hf⟩:∃ f:Nat→Zp,f=(fun j=>(gJ m l).getD j ([],0)):=⟨_,rfl⟩
 have HFn:Hid (f=(fun j=>(gJ m l).getD j ([],0))):=hf;clear hf;have hB0:xr w4 w3.heap.size l.length f 0:=⟨_,hown,fun j _ hj=>absurd hj (N7 _)⟩
 have HNL:Hid ((gy m).length=m):=hnl;clear hown hgrow hnl;go_wp2_with fail
 go_loopw [18] (fun i wr=>∃ k:Nat,k≤l.length∧i = .int .i64 k∧xr wr w3.heap.size l.length f k∧Below w3.heap.size w3 wr) (fun i _=>l.length - (intOf i).toNat)
 case atStart=>exact ⟨0,Nr _,rfl,hB0,hb4⟩
 case round =>
  clear hB0 hb4;obtain ⟨k,hk,rfl,HB,hb⟩:=hrel;have hz:=hb.size;by_cases hlt:k<l.length
  ·obtain ⟨bb,off,rfl,hbl,c1,ar,cr,c0,sr⟩:=(h.next (chain hA hb)).elem hlt;have hal:=aa wr (.cells #[.slice ar l[k].1.length cr,.int .i64 l[k].2] 58);have q0:=aw wr #[.slice ar l[k].1.length cr,.int .i64 l[k].2] 58;have za:(wr.alloc (.cells #[.slice ar l[k].1.length cr,.int .i64 l[k].2] 58)).heap.size=wr.heap.size+1:=by simp
   have ef:f k=(l[k].1 ++ gy m,l[k].2):=by rw [HFn.out]; simp [gJ,List.getD,hlt]
   have EF:Hid (f k=(l[k].1 ++ gy m,l[k].2)):=ef;have h8k:=h8 l[k] (Ns hlt);have HS:Hid (aM wr ar l[k].1):=sr;have i0':(0:Int)≤(k:Int):=by omega
   have i1:(k:Int)<(l.length:Int):=by omega
   clear ef sr;go_wp2_with fail
   clear c0 c1;generalize wr.alloc (.cells #[.slice ar l[k].1.length cr,.int .i64 l[k].2] 58)=wk at *;have CELW:∀ W:World,(W.heap[wr.heap.size]? = some (.cells #[.slice ar l[k].1.length cr,.int .i64 l[k].2] 58 (0,0)))=(W.heap[wr.heap.size]? = some (.cells #[.slice ar l[k].1.length cr,.int .i64 l[k].2] 58 (0,0))):=fun _=>rfl
   clear CELW;have hCC:∀ W W':World,W.heap[wr.heap.size]? = some (.cells #[.slice ar l[k].1.length cr,.int .i64 l[k].2] 58 (0,0))→Below W.heap.size W W'→W'.heap[wr.heap.size]? = some (.cells #[.slice ar l[k].1.length cr,.int .i64 l[k].2] 58 (0,0)):=fun W W' h hb=>(hb.block _ (ae h)).trans h
   have hdr:Below wk.heap.size wk wk.drew:=(Nk _ _).drew;have CW:wk.drew.heap[wr.heap.size]? = some (.cells #[.slice ar l[k].1.length cr,.int .i64 l[k].2] 58 (0,0)):=hCC _ _ q0 hdr;refine aK (fun W=>W.heap[wr.heap.size]? = some (.cells #[.slice ar l[k].1.length cr,.int .i64 l[k].2] 58 (0,0))) (by kernel_rfl) ?_;refine ab hCC 23 (i:=0) (v:=.slice (some ⟨w3.heap.size,0,none⟩) l.length l.length) (fun n hn=>?_) CW ?_
   ·go_simp
   simp only [Act.put,pA,pB,pC];refine ab hCC 24 (i:=1) (v:=.int .i64 k) (fun n hn=>?_) CW ?_
   ·go_simp
   simp only [Act.put,pA,pB,pC];refine ab hCC 25 (i:=2) (v:=.pointer (some ⟨wr.heap.size,0,none⟩)) (fun n hn=>?_) CW ?_
   ·go_simp
   simp only [Act.put,pA,pB,pC];refine ab hCC 26 (i:=3) (v:=.slice ar l[k].1.length cr) (fun n hn=>?_) CW ?_
   ·have hcell:n.cell? ⟨wr.heap.size,0,none⟩=some (.slice ar l[k].1.length cr):=cell_of (i:=0) hn rfl;go_simp
   simp only [Act.put,pA,pB,pC];refine ab hCC 27 (i:=4) (v:=.slice (some ⟨w2.heap.size,0,none⟩) m m) (fun n hn=>?_) CW ?_
   ·go_simp
   simp only [Act.put,pA,pB,pC];refine ab hCC 30 (i:=7) (v:=.pointer (some ⟨wr.heap.size,1,none⟩)) (fun n hn=>?_) CW ?_
   ·go_simp
   simp only [Act.put,pA,pB,pC];refine ab hCC 31 (i:=8) (v:=.int .i64 l[k].2) (fun n hn=>?_) CW ?_
   ·have hcell:n.cell? ⟨wr.heap.size,1,none⟩=some (.int .i64 l[k].2):=cell_of (i:=1) hn rfl;go_simp
   simp only [Act.put,pA,pB,pC];refine az (rs:=[5]) (by kernel_rfl) (by simp) ?_;intro w5 hb5 jj hj;obtain rfl:jj=5:=by simpa using hj
   clear hj;refine wpOp_step rfl (fun K hK=>?_);go_simp;have D5:=chain (chain hal hdr) hb5;have CW5:=hCC _ _ CW hb5;have B5:=chain hb D5;have hal5:=aa w5 (.cells #[.slice ar l[k].1.length cr,.slice (some ⟨w2.heap.size,0,none⟩) m m] 56);have PC:=gA.new cr m (fG (HS.out.next D5)) (fG (sn.next B5)) 56;rw [HNL.out] at PC;have D6:=chain D5 hal5;have CW6:=hCC _ _ CW5 hal5;refine hK _ _ ⟨CW6,?_⟩;clear hK K hal5 hb5 CW CW5
   generalize w5.alloc (.cells #[.slice ar l[k].1.length cr,.slice (some ⟨w2.heap.size,0,none⟩) m m] 56)=w6 at *;refine az (rs:=[6]) (by kernel_rfl) (by simp) ?_;intro w7 hb7 jj hj;obtain rfl:jj=6:=by simpa using hj
   clear hj;refine wpOp_step rfl (fun K hK=>?_);go_simp;have D7:=chain D6 hb7;have CW7:=hCC _ _ CW6 hb7;refine (kX _ _ _ _ _ w7 (PC.next hb7) (by omega)).mono ?_;rintro e w8 ⟨v8,rfl,O8,hb8⟩;rw [← bQ] at O8;obtain ⟨a8,c8,rfl,S8,T8,_⟩:=lV O8 (by rw [Nx,HNL.out]);have D8:=chain D7 hb8;have CW8:=hCC _ _ CW7 hb8;refine hK _ _ ⟨CW8,?_⟩;clear hK K PC O8 CW6 CW7
   refine ab hCC 32 (i:=9) (v:=.agg #[.slice a8 (l[k].1 ++ gy m).length c8,.int .i64 l[k].2]) (fun n hn=>?_) CW8 ?_
   ·go_simp
   simp only [Act.put,pA,pB,pC];refine ab hCC 33 (i:=10) (v:=.pointer (some ⟨w3.heap.size,k*2,none⟩)) (fun n hn=>?_) CW8 ?_
   ·go_simp
   simp only [Act.put,pA,pB,pC];refine az (rs:=[11]) (by kernel_rfl) (by simp) ?_;intro w9 hb9 jj hj;obtain rfl:jj=11:=by simpa using hj
   clear hj;have D9:=chain D8 hb9;have CW9:=hCC _ _ CW8 hb9;have HB9:=HB.next D9;have S9:=S8.next hb9;have T9:=T8.next hb9;obtain ⟨⟨u0,u1,d0,d1⟩,g0,g1,hlb9⟩:=HB9.cells hlt;have hne:wr.heap.size≠w3.heap.size:=by
    have:=(HB.cells hlt).2.2.2;omega
   refine wpOp_step rfl (fun K hK=>?_);go_simp;have CWS:((w9.setCell ⟨w3.heap.size,k*2,none⟩ (.slice a8 (l[k].1.length+(gy m).length) c8)).setCell ⟨w3.heap.size,k*2+1,none⟩ (.int .i64 l[k].2)).heap[wr.heap.size]? = some (.cells #[.slice ar l[k].1.length cr,.int .i64 l[k].2] 58 (0,0)):=by
    rw [NR _ ⟨w3.heap.size,k*2+1,none⟩ _ _ hne,NR _ ⟨w3.heap.size,k*2,none⟩ _ _ hne];exact CW9
   have MS:=HB9.step hlt (a:=a8) (cap:=c8) (by rw [EF.out]; exact S9) T9;rw [EF.out] at MS;have BS:=((chain hb D9).setCell (p:=⟨w3.heap.size,k*2,none⟩) (Nj _) (.slice a8 (l[k].1 ++ gy m).length c8)).setCell (p:=⟨w3.heap.size,k*2+1,none⟩) (Nj _) (.int .i64 l[k].2);rw [Nx] at MS BS;refine hK _ _ ⟨CWS,?_⟩;clear hK K CW9 CW8 S9 T9 S8 T8 D9 D8 HB9 CWS;generalize (w9.setCell ⟨w3.heap.size,k*2,none⟩ (.slice a8 (l[k].1.length+(gy m).length) c8)).setCell ⟨w3.heap.size,k*2+1,none⟩ (.int .i64 l[k].2)=w10 at *;refine bL (by kernel_rfl) ?_;intro w11 hb11
   have M11:=MS.next hb11;have B11:=chain BS hb11;clear MS BS hb11 HB;go_wp2
   go_roundw
   case rel=>exact ⟨k+1,by omega,by go_num,M11,B11⟩
   case measure=>simp [intOf]; omega
  ·have e:k=l.length:=by omega
   subst e;have zsm:=HB.done (gJ m l) (mx m l).symm (fun j hj=>by rw [HFn.out]; simp [List.getD,hj]) (by rw [mx]; omega);have hAe:=chain hA hb;go_wp2
   go_ret;exact ⟨_,_,rfl,zsm,(fun e=>by cases e),hAe⟩
theorem dB.step {cols:List Int} {x:Ex} {w0 wp W:World} {a b:Option Addr} {ca cb:Nat} {l r:List Zp} {v:Value} {R rv:Nat} (h:dB cols x w0 wp a b ca cb l r v R rv) (hI:cP wp R rv W):dB cols x w0 W a b ca cb l r v R rv∧cP W R rv W:=by
 obtain ⟨lo,wc,hv,u,e,hn,h2,h3,h4,h5,h6,h7,h8⟩:=h;have hr:=hn.r;have hrv:=hn.v;have hb:=hI.below hn;have z:=hI.size;refine ⟨⟨lo,wc,hv,u,e,⟨hr,by omega⟩,h2,(hb.cell (p:=⟨hv,0,none⟩) h2).trans h3,h4,h5,⟨by have:=h6.1; omega,fun k h1 h2'=>?_⟩,h7,h8.trans (hb.mono h7)⟩,⟨rfl,rfl,rfl,Nj _,fun _ _ _ _=>rfl,hI.var,hI.Fy,hI.room⟩⟩;exact (hb.block k (by omega)).trans (h6.2 k h1 h2')
theorem Ig (left right:List Int) (x:Ex) (ra:Option Addr) (rcap:Nat) (rb:Nat) (w0 wp w:World) (a b:Option Addr) (ca cb:Nat) (l r:List Zp) (v:Value) (R rv:Nat) (hP:dB (left ++ right) x w0 wp a b ca cb l r v R rv) (hI:cP wp R rv w) (za:aL w0 a l) (zb:aL w0 b r) (hT:ow left right x l r)
  (hrb:w.heap[rb]? = some (.cells #[.slice ra right.length rcap] 45 (0,0))) (hrb0:rb<w0.heap.size) :
  Calls Tryz.prog 131 #[v,.pointer (some ⟨rb,0,none⟩)] w fun e w'=>∃ ua uc,e = .returned (.slice ua (pR x right.length l r).length uc)∧aL w' ua (pR x right.length l r)∧Below w0.heap.size w0 w':=by
 have hq:=nH hT;have hlen:=hT.len;generalize hlz:pR x right.length l r=z;have HLz:Hid (pR x right.length l r=z):=hlz;clear hlz;obtain ⟨hP0,hI0⟩:=hP.step hI;have hP':=hP0;obtain ⟨lo,wc,hv,u,rfl,hn,hv0,hc,hC,hcR,hcp,h0,h0p⟩:=hP0;have hrv:=hn.v;have hrr:=hn.r;have h1:=aa w (.cells #[.slice a l.length ca,.slice b r.length cb,.func (.func 219) #[] #[.pointer (some ⟨rv,0,none⟩),.pointer (some ⟨hv,0,none⟩)]] 162)
 have p1:=aw w #[.slice a l.length ca,.slice b r.length cb,.func (.func 219) #[] #[.pointer (some ⟨rv,0,none⟩),.pointer (some ⟨hv,0,none⟩)]] 162;obtain ⟨P1,I1⟩:=hP'.step (hI0.dX hn (Nj _) h1);have r1:=(h1.block rb (ae hrb)).trans hrb;clear hC;go_enter Tryz.func131,Tryz.ntmps131;go_wp2_with fail
 generalize w.alloc (.cells #[.slice a l.length ca,.slice b r.length cb,.func (.func 219) #[] #[.pointer (some ⟨rv,0,none⟩),.pointer (some ⟨hv,0,none⟩)]] 162)=w1 at *
 have hCC:∀ W W':World,(W.heap[w.heap.size]? = some (.cells #[.slice a l.length ca,.slice b r.length cb,.func (.func 219) #[] #[.pointer (some ⟨rv,0,none⟩),.pointer (some ⟨hv,0,none⟩)]] 162 (0,0))∧W.heap[rb]? = some (.cells #[.slice ra right.length rcap] 45 (0,0)))→Below W.heap.size W W'→(W'.heap[w.heap.size]? = some (.cells #[.slice a l.length ca,.slice b r.length cb,.func (.func 219) #[] #[.pointer (some ⟨rv,0,none⟩),.pointer (some ⟨hv,0,none⟩)]] 162 (0,0))∧W'.heap[rb]? = some (.cells #[.slice ra right.length rcap] 45 (0,0))):=fun W W' h hb=>⟨(hb.block _ (ae h.1)).trans h.1,(hb.block _ (ae h.2)).trans h.2⟩
 have hd:Below w1.heap.size w1 w1.drew:=(Nk _ _).drew;have CW:w1.drew.heap[w.heap.size]? = some (.cells #[.slice a l.length ca,.slice b r.length cb,.func (.func 219) #[] #[.pointer (some ⟨rv,0,none⟩),.pointer (some ⟨hv,0,none⟩)]] 162 (0,0))∧w1.drew.heap[rb]? = some (.cells #[.slice ra right.length rcap] 45 (0,0)):=hCC _ _ ⟨p1,r1⟩ hd
 refine aK (fun W=>W.heap[w.heap.size]? = some (.cells #[.slice a l.length ca,.slice b r.length cb,.func (.func 219) #[] #[.pointer (some ⟨rv,0,none⟩),.pointer (some ⟨hv,0,none⟩)]] 162 (0,0))∧W.heap[rb]? = some (.cells #[.slice ra right.length rcap] 45 (0,0))) (by kernel_rfl) ?_;refine ab hCC 4 (i:=0) (v:=.agg #[.slice a l.length ca,.slice b r.length cb,.func (.func 219) #[] #[.pointer (some ⟨rv,0,none⟩),.pointer (some ⟨hv,0,none⟩)]]) (fun n hn=>?_) CW ?_
 ·have hc0:n.cell? ⟨w.heap.size,0,none⟩=some (.slice a l.length ca):=cell_of (i:=0) hn.1 rfl;have hc1:n.cell? ⟨w.heap.size,1,none⟩=some (.slice b r.length cb):=cell_of (i:=1) hn.1 rfl;have hc2:n.cell? ⟨w.heap.size,2,none⟩=some (.func (.func 219) #[] #[.pointer (some ⟨rv,0,none⟩),.pointer (some ⟨hv,0,none⟩)]):=cell_of (i:=2) hn.1 rfl;go_simp
 simp only [Act.put,pA,pB,pC];refine ab hCC 6 (i:=2) (v:=.agg #[.slice a l.length ca,.slice b r.length cb,.func (.func 219) #[] #[.pointer (some ⟨rv,0,none⟩),.pointer (some ⟨hv,0,none⟩)]]) (fun n hn=>?_) CW ?_
 ·have hc0:n.cell? ⟨w.heap.size,0,none⟩=some (.slice a l.length ca):=cell_of (i:=0) hn.1 rfl;have hc1:n.cell? ⟨w.heap.size,1,none⟩=some (.slice b r.length cb):=cell_of (i:=1) hn.1 rfl;have hc2:n.cell? ⟨w.heap.size,2,none⟩=some (.func (.func 219) #[] #[.pointer (some ⟨rv,0,none⟩),.pointer (some ⟨hv,0,none⟩)]):=cell_of (i:=2) hn.1 rfl;go_simp
 simp only [Act.put,pA,pB,pC];refine ab hCC 8 (i:=4) (v:=.slice ra right.length rcap) (fun n hn=>?_) CW ?_
 ·have hc0:n.cell? ⟨rb,0,none⟩=some (.slice ra right.length rcap):=cell_of (i:=0) hn.2 rfl;go_simp
 simp only [Act.put,pA,pB,pC];refine ab hCC 9 (i:=5) (v:=.int .i64 right.length) (fun n hn=>?_) CW ?_
 ·go_simp
 simp only [Act.put,pA,pB,pC];refine az (rs:=[1]) (by kernel_rfl) (by simp) ?_;intro w2 hb2 jj hj;obtain rfl:jj=1:=by simpa using hj
 clear hj;have D2:=chain hd hb2;have CW2:=hCC _ _ CW hb2;obtain ⟨P2,I2⟩:=P1.step (I1.dX (by obtain ⟨_,_,_,_,_,hn,_⟩:=P1; exact hn) (Nj _) D2);have con:=vw (left ++ right) x w0 w2 w2 a b ca cb l r _ R rv P2 I2 za zb hq;refine wpOp_step rfl (fun K hK=>?_);go_simp;refine con.mono ?_;rintro e w3 ⟨u3,rfl,O3,I3,z3⟩;clear con;obtain ⟨P3,J3⟩:=P2.step I3;have ne1:w.heap.size≠R∧w.heap.size≠rv:=by omega
 have ne2:rb≠R∧rb≠rv:=by omega
 have CW3:w3.heap[w.heap.size]? = some (.cells #[.slice a l.length ca,.slice b r.length cb,.func (.func 219) #[] #[.pointer (some ⟨rv,0,none⟩),.pointer (some ⟨hv,0,none⟩)]] 162 (0,0))∧w3.heap[rb]? = some (.cells #[.slice ra right.length rcap] 45 (0,0)):=⟨(I3.block _ (ae CW2.1) ne1.1 ne1.2).trans CW2.1,(I3.block _ (ae CW2.2) ne2.1 ne2.2).trans CW2.2⟩
 obtain ⟨a3,c3,rfl⟩:=O3.slice;refine hK _ _ ⟨CW3,?_⟩;clear hK K CW CW2 I2 P2 I3;refine az (rs:=[3]) (by kernel_rfl) (by simp) ?_;intro w4 hb4 jj hj;obtain rfl:jj=3:=by simpa using hj
 clear hj;have CW4:=hCC _ _ CW3 hb4;have hn3:pG w3 R rv:=by obtain ⟨_,_,_,_,_,hn,_⟩:=P3; exact hn
 obtain ⟨P4,I4⟩:=P3.step (J3.dX hn3 (Nj _) hb4);have hn4:pG w4 R rv:=by obtain ⟨_,_,_,_,_,hn,_⟩:=P4; exact hn
 have O4:=O3.since (lo:=0) (Nr _) (ax.of hb4);have con:=nP (left ++ right) x w0 w4 w4 a b ca cb l r _ R rv P4 I4 za zb hq;refine wpOp_step rfl (fun K hK=>?_);go_simp;refine con.mono ?_;rintro e w5 ⟨u5,rfl,O5,I5,z5⟩;clear con;obtain ⟨P5,J5⟩:=P4.step I5;have hn5:pG w5 R rv:=by obtain ⟨_,_,_,_,_,hn,_⟩:=P5; exact hn
 have CW5:w5.heap[w.heap.size]? = some (.cells #[.slice a l.length ca,.slice b r.length cb,.func (.func 219) #[] #[.pointer (some ⟨rv,0,none⟩),.pointer (some ⟨hv,0,none⟩)]] 162 (0,0))∧w5.heap[rb]? = some (.cells #[.slice ra right.length rcap] 45 (0,0)):=⟨(I5.block _ (ae CW4.1) ne1.1 ne1.2).trans CW4.1,(I5.block _ (ae CW4.2) ne2.1 ne2.2).trans CW4.2⟩
 have S5:ax (rv+1) w4 w5:=⟨I5.size,fun k h1 h2=>I5.block k h2 (by omega) (by omega)⟩
 have O4':=O4.since (lo:=rv+1) (by have:=hI.size; have:=hb2.size; have:=D2.size; have:=h1.size; have:=hn.v; omega) S5;have hE5:Below w0.heap.size w0 w5:=by obtain ⟨_,_,_,_,_,_,_,_,_,_,_,_,hB⟩:=P5; exact hB
 obtain ⟨a5,c5,rfl,zs5,_⟩:=O5.zs hE5;refine hK _ _ ⟨CW5,?_⟩;clear hK K CW3 CW4 I4 P4 I5 O5 O4;refine az (rs:=[6]) (by kernel_rfl) (by simp) ?_;intro w6 hb6 jj hj;obtain rfl:jj=6:=by simpa using hj
 clear hj;have CW6:=hCC _ _ CW5 hb6;have O6:=O4'.since (lo:=0) (Nr _) (ax.of hb6);have al:(ir x l r).length≤l.length:=Oi _ _;have con:=Ao a5 c5 (ir x l r) right.length (by omega) w6 (zs5.next hb6) (by have:=hq.ll; omega) (fun y hy=>by
  have:=(hT.left.fit y (List.mem_filter.1 hy).1).len;omega)
 refine wpOp_step rfl (fun K hK=>?_);go_simp;refine con.mono ?_;rintro e w7 ⟨a7,c7,rfl,zs7,n7,hb7⟩;clear con;have CW7:=hCC _ _ CW6 hb7;have O7:=O6.since (lo:=0) (Nr _) (ax.of hb7);have D7:=chain hb6 hb7;refine hK _ _ ⟨CW7,?_⟩;clear hK K CW5 CW6 O6 O4';refine az (rs:=[7]) (by kernel_rfl) (by simp) ?_;intro w8 hb8 jj hj;obtain rfl:jj=7:=by simpa using hj
 clear hj;refine wpOp_step rfl (fun K hK=>?_);go_simp;have O8:=O7.since (lo:=0) (Nr _) (ax.of hb8);have zs8:=zs7.next hb8;obtain ⟨aj,cj,ej,zj,nj⟩:=O8.z.xK;injection ej with ej1 _ ej3
 subst ej1 ej3;have hal:=aa w8 (.cells #[.slice a3 (bH x l r).length c3,.slice a7 (gJ right.length (ir x l r)).length c7] 34);have PR:=xO.LI zj nj zs8 n7 34;have D9:=chain (chain D7 hb8) hal;have CW9:=hCC _ _ (hCC _ _ CW7 hb8) hal;refine hK _ _ ⟨CW9,?_⟩;clear hK K CW7 O7 O8;generalize w8.alloc (.cells #[.slice a3 (bH x l r).length c3,.slice a7 (gJ right.length (ir x l r)).length c7] 34)=w9 at *;refine az (rs:=[8]) (by kernel_rfl) (by simp) ?_;intro w10 hb10 jj hj;obtain rfl:jj=8:=by simpa using hj
 clear hj;have jl:=(Cu hT).1;have wl:(gJ right.length (ir x l r)).length≤400:=by rw [mx]; have:=hq.ll; omega
 have con:=vI w8.heap.size (bH x l r) (gJ right.length (ir x l r)) w10 (PR.next hb10) (by omega);refine wpOp_step rfl (fun K hK=>?_);go_simp;refine con.mono ?_;rintro e w11 ⟨a11,c11,rfl,zs11,n11,hb11⟩;clear con;have CW11:=hCC _ _ (hCC _ _ CW9 hb10) hb11;have hE11:=chain hE5 (chain (chain D9 hb10) hb11);refine hK _ _ ⟨CW11,?_⟩;clear hK K CW9;refine ab hCC 3 (i:=9) (v:=.slice a11 (bH x l r ++ gJ right.length (ir x l r)).length c11) (fun n hn=>?_) CW11 ?_
 ·go_simp
 simp only [Act.put,pA,pB,pC];refine bL (by kernel_rfl) ?_;intro w12 hb12;have zs12:=zs11.next hb12;have hE12:=chain hE11 hb12;have hl2:bH x l r ++ gJ right.length (ir x l r)=z:=HLz.out;rw [hl2] at zs12 ⊢;clear zs11 CW11 hl2;go_wp2
 go_ret
 first | exact ⟨_,_,rfl,zs12,hE12⟩ | exact ⟨_,⟨_,rfl⟩,zs12,hE12⟩
theorem left_at (left right:List Int) (x:Ex) (la:Option Addr) (lcap:Nat) (ra:Option Addr) (rcap:Nat) (xa:Option Addr) (xcap:Nat) (a:Option Addr) (ca:Nat) (l:List Zp) (b:Option Addr) (cb:Nat) (r:List Zp) (w:World)
  (hcl:bc w.heap.size w la left) (hcr:bc w.heap.size w ra right) (hx:bd w.heap.size w xa x.ks) (h:aL w a l) (h':aL w b r) (hll:left.length≤100000000000000) (hrl:right.length≤100000000000000) :
  Calls Tryz.prog 102 #[.slice la left.length lcap,.slice ra right.length rcap,lC x.k x.v x.c xa x.ks.length xcap,.slice a l.length ca,.slice b r.length cb] w fun e w'=>∃ v,e = .returned (.tuple #[v,.int .i64 (bY 3 left right x l r)])∧bZ w.heap.size w' v (dg 3 left right x l r)∧Below w.heap.size w w':=by
 have h1:=aa w (.cells #[.slice ra right.length rcap] 45);have q1:=aw w #[.slice ra right.length rcap] 45;have c1:(w.alloc (.cells #[.slice ra right.length rcap] 45)).cell? ⟨w.heap.size,0,none⟩=some (.slice ra right.length rcap):=by simp
 have e1:(w.alloc (.cells #[.slice ra right.length rcap] 45)).heap.size=w.heap.size+1:=by simp
 generalize hfz:dg 3 left right x l r=fz;generalize hfe:bY 3 left right x l r=fe;have HZ:Hid (dg 3 left right x l r=fz):=hfz;have HE:Hid (bY 3 left right x l r=fe):=hfe;clear hfz hfe;go_enter Tryz.func102,Tryz.ntmps102;go_wp2_with fail
 generalize w.alloc (.cells #[.slice ra right.length rcap] 45)=w0 at *;have h2:=aa w0 (.cells (ig x xa xcap) 27);have q2:=(h2.block w.heap.size (by omega)).trans q1;have c2:=(h2.cell (p:=⟨w.heap.size,0,none⟩) (by show w.heap.size<_; omega)).trans c1;have e2:(w0.alloc (.cells (ig x xa xcap) 27)).heap.size=w0.heap.size+1:=by simp
 have hA:=chain h1 h2;generalize w0.alloc (.cells (ig x xa xcap) 27)=w1 at *;have zs1:=h.next hA;have zs1':=h'.next hA;have con:=kG 3 131 #[.pointer (some ⟨w.heap.size,0,none⟩)] left right x la lcap ra rcap xa xcap a ca l b cb r w1 ((hcl.next hA (Nj _)).up hA.size) ((hcr.next hA (Nj _)).up hA.size) ((bd.next hA (Nj _) hx).up hA.size) zs1 zs1' hll hrl (enters_of Tryz.func131 (by kernel_rfl) rfl) (fun W v R rv hP hI hT=>by
  have hBW:Below w1.heap.size w1 W:=by obtain ⟨_,_,_,_,_,_,_,_,_,_,_,_,hB⟩:=hP; exact hB
  have:=Ig left right x ra rcap w.heap.size w1 W W a b ca cb l r v R rv hP hI zs1 zs1' hT ((hBW.block _ (by omega)).trans q2) (by omega);exact this)
 rw [HZ.out,HE.out] at con;go_wp2_with fail
 refine con.mono ?_;rintro e w2 ⟨v2,rfl,O2,hb2⟩;have O2':=O2.mono hA.size;obtain ⟨a2,c2',rfl,_⟩:=O2.zs;clear con O2;dsimp only;go_wp2
 exact Nl (v:=.tuple #[.slice a2 fz.length c2',.int .i64 fe]) (by simp [results,Tryz.results102,go_sem]) rfl ⟨_,rfl,O2',chain hA hb2⟩
theorem Dq (ts:List (List Int)) (B lo:Nat) (p k0 k1:Pl) (q:Pw) (ca:Option Addr) (n cc:Nat) (na:Option Addr) (nc:Nat) (z:List Zp) (za:Option Addr) (zc:Nat) (y:List Zp) (ya:Option Addr) (yc:Nat) (w:World) (hB:B≤w.heap.size) (hN:sY ts B lo w na p.ks) (hp:ja B w p q) (hks:p.ks = [k0,k1]) (g0:(ah ts k0).length≤8) (g1:(ah ts k1).length≤8) (hz:aL w za z) (hy:aL w ya y) (hn:za=none→zc=0) :
  Calls Tryz.prog 68 #[oI p q ca n cc na nc,.slice za z.length zc,.slice ya y.length yc] w fun e w'=>∃ v,e = .returned (.tuple #[v,.int .i64 (aT [] p.k p.n p.x p.xs p.gs [ah ts k0,ah ts k1] [z,y]).1])∧bZ w.heap.size w' v (aT [] p.k p.n p.x p.xs p.gs [ah ts k0,ah ts k1] [z,y]).2∧Below w.heap.size w w':=by
 have hl0:p.ks.length=2:=by rw [hks]; rfl
 rw [hks] at hN;obtain ⟨b,off,q0,c1,cc1,n1,nc1,rfl,hbl,hbt,_,d11,_,ND⟩:=hN.elem (i:=0) (by simp);obtain ⟨b',off',q1,c2,cc2,n2,nc2,eb,_,_,_,d24,_,ND1⟩:=hN.elem (i:=1) (by simp);have eb:=NU eb;injection eb with eb1 eb2
 subst eb1 eb2;simp only [Nat.zero_mul,Nat.one_mul,Oz,Oa,Ot] at d11 ND d24 ND1;have I1:=ND.cols;have I2:=ND1.cols;have lz1:(1:Int)<(p.ks.length:Int):=by omega
 have lz:0<p.ks.length:=by omega
 have hA:=aa w (.cells (pd p q ca n cc (some ⟨b,off,none⟩) p.ks.length nc) 73);have Q:=aw w (pd p q ca n cc (some ⟨b,off,none⟩) p.ks.length nc) 73;have d11A:=(hA.cell (p:=⟨b,off+11,none⟩) hbl).trans d11;generalize hR:aT [] p.k p.n p.x p.xs p.gs [ah ts k0,ah ts k1] [z,y]=R;have HR:Hid (aT [] p.k p.n p.x p.xs p.gs [ah ts k0,ah ts k1] [z,y]=R):=hR;have d24A:=(hA.cell (p:=⟨b,off+13+11,none⟩) hbl).trans d24;clear hR hN ND ND1 hks hl0;obtain ⟨re,rz⟩:=R;dsimp only;unfold oI;go_enter Tryz.func68,Tryz.ntmps68
 go_wp2_with fail
 generalize w.alloc (.cells (pd p q ca n cc (some ⟨b,off,none⟩) p.ks.length nc) 73)=wA at *;have x0:=cell_of (i:=0) Q rfl;have x1:=cell_of (i:=1) Q rfl;have x2:=cell_of (i:=2) Q rfl;have x3:=cell_of (i:=3) Q rfl;have x4:=cell_of (i:=4) Q rfl;have x5:=cell_of (i:=5) Q rfl;have x6:=cell_of (i:=6) Q rfl;have x7:=cell_of (i:=7) Q rfl;have x8:=cell_of (i:=8) Q rfl;have x9:=cell_of (i:=9) Q rfl;have x10:=cell_of (i:=10) Q rfl;have x11:=cell_of (i:=11) Q rfl;have x12:=cell_of (i:=12) Q rfl;have lA:=ae Q;have lb:=Nn hbl hA.size;go_region
 have hd:Below (wA.alloc (.cells (eS p q) 31)).heap.size (wA.alloc (.cells (eS p q) 31)) (wA.alloc (.cells (eS p q) 31)).drew:=(Nk _ _).drew;have hal:=aa wA (.cells (eS p q) 31);have E0:=gY.new wA p q 31;have zA:wA.heap.size<(wA.alloc (.cells (eS p q) 31)).heap.size:=by simp
 have hAd:=chain hA (chain hal hd);have E1:=E0.next hd zA;clear x0 x1 x2 x3 x4 x5 x6 x7 x8 x9 x10 x11 x12 Q d11A d24A E0;generalize (wA.alloc (.cells (eS p q) 31)).drew=wB at *;have hpB:=(hp.next hAd hB).up (Nw hB hAd.size);have hcB:=(I1.low hAd hB).at;have hdB:=(I2.low hAd hB).at;have hyB:=hy.next hAd;have hzB:=hz.next hAd;obtain ⟨y0,y1,⟨y2,y3,y4,y5,y6,y7⟩,y8,y9,y10⟩:=E1;simp only [Np] at y1 y2 y3 y4 y5 y6 y7 y8 y9 y10;clear hd hal zA lA lb;by_cases k4:p.k=4;have kb:(p.k == 4)=true:=by simpa using k4
 have e1:re=bY 0 (ah ts k0) (ah ts k1) p.x z y:=by have h:=congrArg Prod.fst HR.out; simp [aT,k4] at h; exact h.symm
 have e2:rz=dg 0 (ah ts k0) (ah ts k1) p.x z y:=by have h:=congrArg Prod.snd HR.out; simp [aT,k4] at h; exact h.symm
 have con:=Cf (ah ts k0) (ah ts k1) p.x c1 cc1 c2 cc2 q.xa q.xc za zc z ya yc y wB hcB hdB hpB.x hzB hyB (by omega) (by omega);rw [← e1,← e2] at con;unfold lC at con;clear e1 e2 HR k4;rotate_left;have b4:(p.k == 4)=false:=by rw [beq_eq_false_iff_ne]; exact k4
 by_cases k5:p.k=5;have kb:(p.k == 5)=true:=by simpa using k5
 have e1:re=bY 1 (ah ts k0) (ah ts k1) p.x z y:=by have h:=congrArg Prod.fst HR.out; simp [aT,k5] at h; exact h.symm
 have e2:rz=dg 1 (ah ts k0) (ah ts k1) p.x z y:=by have h:=congrArg Prod.snd HR.out; simp [aT,k5] at h; exact h.symm
 have con:=JK (ah ts k0) (ah ts k1) p.x c1 cc1 c2 cc2 q.xa q.xc za zc z ya yc y wB hcB hdB hpB.x hzB hyB (by omega) (by omega);rw [← e1,← e2] at con;unfold lC at con;clear e1 e2 HR k4 k5;rotate_left;have b5:(p.k == 5)=false:=by rw [beq_eq_false_iff_ne]; exact k5
 by_cases k6:p.k=6;have kb:(p.k == 6)=true:=by simpa using k6
 have e1:re=bY 2 (ah ts k0) (ah ts k1) p.x z y:=by have h:=congrArg Prod.fst HR.out; simp [aT,k6] at h; exact h.symm
 have e2:rz=dg 2 (ah ts k0) (ah ts k1) p.x z y:=by have h:=congrArg Prod.snd HR.out; simp [aT,k6] at h; exact h.symm
 have con:=Jq (ah ts k0) (ah ts k1) p.x c1 cc1 c2 cc2 q.xa q.xc za zc z ya yc y wB hcB hdB hpB.x hzB hyB (by omega) (by omega);rw [← e1,← e2] at con;unfold lC at con;clear e1 e2 HR k4 k5 k6;rotate_left;have b6:(p.k == 6)=false:=by rw [beq_eq_false_iff_ne]; exact k6
 by_cases k7:p.k=7;have kb:(p.k == 7)=true:=by simpa using k7
 have e1:re=bY 3 (ah ts k0) (ah ts k1) p.x z y:=by have h:=congrArg Prod.fst HR.out; simp [aT,k7] at h; exact h.symm
 have e2:rz=dg 3 (ah ts k0) (ah ts k1) p.x z y:=by have h:=congrArg Prod.snd HR.out; simp [aT,k7] at h; exact h.symm
 have con:=left_at (ah ts k0) (ah ts k1) p.x c1 cc1 c2 cc2 q.xa q.xc za zc z ya yc y wB hcB hdB hpB.x hzB hyB (by omega) (by omega);rw [← e1,← e2] at con;unfold lC at con;clear e1 e2 HR k4 k5 k6 k7;rotate_left;have b7:(p.k == 7)=false:=by rw [beq_eq_false_iff_ne]; exact k7
 by_cases k8:p.k=8;have kb:(p.k == 8)=true:=by simpa using k8
 have e1:re=bh 1 z y:=by have h:=congrArg Prod.fst HR.out; simp [aT,k8] at h; exact h.symm
 have e2:rz=cM 1 z y:=by have h:=congrArg Prod.snd HR.out; simp [aT,k8] at h; exact h.symm
 have con:=HX za ya zc yc z y wB hzB hyB hn;rw [← e1,← e2] at con;clear e1 e2 HR k4 k5 k6 k7 k8;rotate_left;have b8:(p.k == 8)=false:=by rw [beq_eq_false_iff_ne]; exact k8
 have e1:re=bh (-1) z y:=by have h:=congrArg Prod.fst HR.out; simp [aT,k4,k5,k6,k7,k8] at h; exact h.symm
 have e2:rz=cM (-1) z y:=by have h:=congrArg Prod.snd HR.out; simp [aT,k4,k5,k6,k7,k8] at h; exact h.symm
 have con:=Hl za ya zc yc z y wB hzB hyB hn;rw [← e1,← e2] at con;clear e1 e2 HR k4 k5 k6 k7 k8;go_wp2_with fail
 refine con.mono ?_;rintro e w5 ⟨v5,rfl,O5,hb5⟩;clear con y0 y1 y2 y3 y4 y5 y6 y7 y8 y9 y10;have O5':=O5.mono hAd.size;dsimp only;go_wp2_with fail
 exact Nl (v:=.tuple #[v5,.int .i64 re]) (by simp [results,Tryz.results68,go_sem]) rfl ⟨_,rfl,O5',chain hAd hb5⟩
 all_goals
  go_wp2_with fail
  refine con.mono ?_;rintro e w5 ⟨v5,rfl,O5,hb5⟩;clear con y0 y1 y2 y3 y4 y5 y6 y7 y8 y9 y10;have O5':=O5.mono hAd.size;dsimp only;go_wp2_with fail
  exact Nl (v:=.tuple #[v5,.int .i64 re]) (by simp [results,Tryz.results68,go_sem]) rfl ⟨_,rfl,O5',chain hAd hb5⟩
theorem CX {n:Nat} (h:n≤2) (w:World):(Instr.makeSlice 32 (.int .i64 n) (.int .i64 n)).run Tryz.prog w = .ok (.slice (some ⟨w.heap.size,0,none⟩) n n) (w.alloc (.cells (Array.replicate n (.slice none 0 0)) 34)):=by
 obtain rfl | rfl | rfl:n=0∨n=1∨n=2:=by omega
 all_goals kernel_rfl
theorem IT {W w1:World} {base e size n g:Nat} {v:Value} {xs:List Value} (h:W.ownsRow base e size v n xs) (hb:au g W w1) (hg:g<base):w1.ownsRow base e size v n xs:=by
 obtain ⟨h0,⟨h1,h2⟩ | ⟨k,cap,cur,h1,h2,h3,h4⟩⟩:=h
 ·exact ⟨h0,.inl ⟨h1,h2⟩⟩
 ·exact ⟨h0,.inr ⟨k,cap,cur,h1,h2,(hb.2 k (ae h3) (by omega)).trans h3,h4⟩⟩
theorem KX {W w1:World} {g:Nat} {c:Array Value} {T:TypeId} {y:Nat × Nat} (hq:W.heap[g]? = some (.cells c T y)) (hT:T≠24) (hb:au g W w1) {a:Option Addr} {r:List Vl} (h:aM W a r) (ht:gm W a):aM w1 a r∧gm w1 a:=by
 have key:∀ b off,a=some ⟨b,off,none⟩→w1.heap[b]? = W.heap[b]?:=by
  intro b off e;obtain ⟨c',z,h1⟩:=ht b off e;refine hb.2 b (ae h1) ?_;intro e';subst e';rw [hq] at h1;have:=NU h1;injection this with _ e2
  exact hT e2
 refine ⟨⟨h.1,?_⟩,?_⟩
 ·rcases h.2 with h | ⟨b,off,e,hr,hlt⟩
  ·exact .inl h
  ·refine .inr ⟨b,off,e,fun i hi=>?_,Nn hlt hb.size⟩;have k:=key b off e;obtain ⟨c0,c1,c2⟩:=hr i hi;exact ⟨(NA (a:=⟨b,_,none⟩) k).trans c0,(NA (a:=⟨b,_,none⟩) k).trans c1,(NA (a:=⟨b,_,none⟩) k).trans c2⟩
 ·intro b off e;obtain ⟨c',z,h1⟩:=ht b off e;exact ⟨c',z,(key b off e).trans h1⟩
theorem bZ.Ix {W w1:World} {base g:Nat} {v:Value} {l:List Zp} {c:Array Value} {T:TypeId} {y:Nat × Nat} (h:bZ base W v l) (hq:W.heap[g]? = some (.cells c T y)) (hT:T≠24) (hb:au g W w1) (hg:g<base):bZ base w1 v l:=by
 obtain ⟨xs,h1,h2,h3⟩:=h;refine ⟨xs,IT h1 hb hg,h2,fun i hi=>?_⟩;obtain ⟨a,cap,e0,e1,e2,e3⟩:=h3 i hi;have:=KX hq hT hb e2 e3;exact ⟨a,cap,e0,e1,this.1,this.2⟩
structure BV (W:World) (g n:Nat) (zs:List (List Zp)):Prop where
 ty:∃ c y,W.heap[g]? = some (.cells c 34 y)
 room:∀ o,o<n→∃ u,W.cell? ⟨g,o,none⟩=some u
 fz:∀ o,W.frozen? ⟨g,o,none⟩=false
 laid:∀ (i:Nat) (h:i<zs.length),∃ v base,g<base∧W.cell? ⟨g,i,none⟩=some v∧bZ base W v zs[i]
theorem BV.lt {W:World} {g n:Nat} {zs:List (List Zp)} (h:BV W g n zs):g<W.heap.size:=by obtain ⟨_,_,h⟩:=h.ty; exact ae h
theorem BV.new (w:World) (n:Nat):BV (w.alloc (.cells (Array.replicate n (.slice none 0 0)) 34)) w.heap.size n []:=by
 have q:=aw w (Array.replicate n (.slice none 0 0)) 34;exact ⟨⟨_,_,q⟩,fun o ho=>⟨.slice none 0 0,cell_of (i:=o) q (by simp [ho])⟩,fun o=>No _ w.heap.size o _ _ q,fun i hi=>by cases hi⟩
theorem BV.next {W w1:World} {g n:Nat} {zs:List (List Zp)} (h:BV W g n zs) (hb:Below W.heap.size W w1):BV w1 g n zs:=by
 have hl:=h.lt;refine ⟨?_,fun o ho=>?_,fun o=>(hb.frozen (p:=⟨g,o,none⟩) hl).trans (h.fz o),fun i hi=>?_⟩
 ·obtain ⟨c,y,q⟩:=h.ty;exact ⟨c,y,(hb.block _ hl).trans q⟩
 ·obtain ⟨u,hu⟩:=h.room o ho;exact ⟨u,(hb.cell (p:=⟨g,o,none⟩) hl).trans hu⟩
 ·obtain ⟨v,base,h1,h2,h3⟩:=h.laid i hi;exact ⟨v,base,h1,(hb.cell (p:=⟨g,i,none⟩) hl).trans h2,h3.next hb⟩
theorem BV.store {W:World} {g n base:Nat} {zs:List (List Zp)} (h:BV W g n zs) (hn:zs.length<n) {v:Value} {z:List Zp} (hv:bZ base W v z) (hg:g<base):BV (W.setCell ⟨g,zs.length,none⟩ v) g n (zs ++ [z]):=by
 obtain ⟨c,y,q⟩:=h.ty;have X:=(au.refl g W).set zs.length v;have hT:34≠24:=by decide
 refine ⟨?_,fun o ho=>?_,fun o=>by rw [N8]; exact h.fz o,fun i hi=>?_⟩
 ·have hlt:=ae q;have q':W.heap[g] = .cells c 34 y:=by simpa [Array.getElem?_eq_getElem hlt] using q
  refine ⟨c.setIfInBounds zs.length v,y,?_⟩;show (W.heap.modify g _)[g]? = _;rw [Oc (by simpa using hlt),Array.getElem_modify_self,q'];rfl
 ·by_cases e:o=zs.length
  ·subst e;obtain ⟨u,hu⟩:=h.room zs.length hn;exact ⟨v,Ou _ _ _ hu⟩
  ·obtain ⟨u,hu⟩:=h.room o ho;exact ⟨u,by rw [Nv _ _ _ _ (by intro e'; injection e' with _ e'; exact e e'.symm)]; exact hu⟩
 ·by_cases e:i<zs.length
  ·obtain ⟨v',base',h1,h2,h3⟩:=h.laid i e;rw [Ny e];exact ⟨v',base',h1,by rw [Nv _ _ _ _ (by intro e'; injection e' with _ e'; omega)]; exact h2,h3.Ix q hT X h1⟩
  ·have e:i=zs.length:=by simp at hi; omega
   subst e;obtain ⟨u,hu⟩:=h.room zs.length hn;exact ⟨v,base,hg,Ou _ _ _ hu,by simpa using hv.Ix q hT X hg⟩
def wO (ts:List (List Int)) (data:List (List Zp)) (p:Pl):Prop :=
 ∀ (B lo:Nat) (q:Pw) (ca:Option Addr) (cc:Nat) (na:Option Addr) (nc:Nat) (da:Option Addr) (dc:Nat) (m d:Int) (w:World),(aQ ts p m d).1=0→E8 ts B lo w p q ca na→B≤w.heap.size→gL w da data→cz p →
  Calls Tryz.prog 41 #[oI p q ca (ah ts p).length cc na nc,.slice da data.length dc] w fun e w'=>∃ v,e = .returned (.tuple #[v,.int .i64 (aB ts data p).1])∧bZ w.heap.size w' v (aB ts data p).2∧Below w.heap.size w w'
theorem eval_at (ts:List (List Int)) (hts:dC ts=0) (data:List (List Zp)) (hD:Mw ts data) (p:Pl) (ih:∀ r ∈ p.ks,wO ts data r):wO ts data p:=by
 intro B lo q ca cc na nc da dc m d w hlk hN hB hdt hok;obtain ⟨hq,hks,hne⟩:eO p.k p.ks.length (m+1) d=0∧(aW ts p.ks (m+1) (d+1)).1=0∧fC ts p.k p.n p.x p.xs p.gs (p.ks.map (ah ts))=0:=by
  cases p;obtain ⟨h1,h2,h3,_⟩:=fO hlk;rw [dR] at h3;exact ⟨h1,h2,h3⟩
 obtain ⟨hln,_,_,_,_⟩:=iY hq;have hl2:p.ks.length≤2:=by rw [hln]; exact gh _
 have HLk:Hid (∀ r ∈ p.ks,∃ m',(aQ ts r m' (d+1)).1=0):=gN hks;have HNe:Hid (fC ts p.k p.n p.x p.xs p.gs (p.ks.map (ah ts))=0):=hne;have HTs:Hid (dC ts=0):=hts;have HD:Hid (Mw ts data):=hD;have HK:Hid (cz p):=hok;have IH:Hid (∀ r ∈ p.ks,wO ts data r):=ih;generalize hr:aB ts data p=r;have HR:Hid (aB ts data p=r):=hr;obtain ⟨re,rz⟩:=r;dsimp only;clear hr hts hD hok ih hks hne hq hln hlk;have hA:=aa w (.cells (pd p q ca (ah ts p).length cc na p.ks.length nc) 73)
 have Q:=aw w (pd p q ca (ah ts p).length cc na p.ks.length nc) 73;have hmk:=CX hl2;have q12:=cell_of (i:=12) Q rfl;have lA:=ae Q;unfold oI;go_enter Tryz.func41,Tryz.ntmps41;go_upto_region 1 with fail
 generalize w.alloc (.cells (pd p q ca (ah ts p).length cc na p.ks.length nc) 73)=wA at *;go_wp2_with fail
 have hal1:=aa wA (.cells (Array.replicate p.ks.length (.slice none 0 0)) 34);have S0:=BV.new wA p.ks.length;have Q1:=(hal1.block _ lA).trans Q;have hA1:=chain hA hal1;clear hmk q12 Q hal1;generalize wA.alloc (.cells (Array.replicate p.ks.length (.slice none 0 0)) 34)=w1 at *;generalize hg:wA.heap.size=g at *;clear hg
 go_loopw [18] (fun i wr=>∃ j:Nat,j≤p.ks.length∧i = .int .i64 j∧Hid (∀ i (hi:i<p.ks.length),i<j→(aB ts data p.ks[i]).1=0)∧BV wr g p.ks.length ((p.ks.take j).map fun r=>(aB ts data r).2)∧wr.heap[w.heap.size]? = some (.cells (pd p q ca (ah ts p).length cc na p.ks.length nc) 73 (0,0))∧Below w.heap.size w wr) (fun i _=>p.ks.length - (intOf i).toNat)
 case atStart=>exact ⟨0,Nr _,rfl,(fun i _ h=>absurd h (N7 _)),by simpa using S0,Q1,hA1⟩
 case round =>
  obtain ⟨j,hj,rfl,HZ,hS,QN,hb⟩:=hrel;clear S0 Q1 hA1;by_cases hlt:j<p.ks.length
  ·obtain ⟨b,off,q1,ca1,cc1,na1,nc1,rfl,hbl,_,EL,e11,e12,ND⟩:=(sY.next (Kept.of hb hB) hN.kids).elem hlt;obtain ⟨y0,y1,⟨y2,y3,y4,y5,y6,y7⟩,y8,y9,y10⟩:=EL;have hjz:(j:Int)<(p.ks.length:Int):=by omega
   have hz:=hb.size;have hgl:=hS.lt;have hal:=aa wr (.cells #[.int .i64 p.ks[j].k,.int .i64 p.ks[j].n,.int .i64 p.ks[j].x.k,.int .i64 p.ks[j].x.v.1,.int .i64 p.ks[j].x.v.2.1,.string p.ks[j].x.v.2.2,.int .i64 p.ks[j].x.c,.slice q1.xa p.ks[j].x.ks.length q1.xc,.slice q1.sa p.ks[j].xs.length q1.sc,.slice q1.ga p.ks[j].gs.length q1.gc,.slice q1.ka p.ks[j].ks.length q1.kc,.slice ca1 (ah ts p.ks[j]).length cc1,.slice na1 p.ks[j].ks.length nc1] 73)
   have Qk:=aw wr #[.int .i64 p.ks[j].k,.int .i64 p.ks[j].n,.int .i64 p.ks[j].x.k,.int .i64 p.ks[j].x.v.1,.int .i64 p.ks[j].x.v.2.1,.string p.ks[j].x.v.2.2,.int .i64 p.ks[j].x.c,.slice q1.xa p.ks[j].x.ks.length q1.xc,.slice q1.sa p.ks[j].xs.length q1.sc,.slice q1.ga p.ks[j].gs.length q1.gc,.slice q1.ka p.ks[j].ks.length q1.kc,.slice ca1 (ah ts p.ks[j]).length cc1,.slice na1 p.ks[j].ks.length nc1] 73
   have zk:(wr.alloc (.cells #[.int .i64 p.ks[j].k,.int .i64 p.ks[j].n,.int .i64 p.ks[j].x.k,.int .i64 p.ks[j].x.v.1,.int .i64 p.ks[j].x.v.2.1,.string p.ks[j].x.v.2.2,.int .i64 p.ks[j].x.c,.slice q1.xa p.ks[j].x.ks.length q1.xc,.slice q1.sa p.ks[j].xs.length q1.sc,.slice q1.ga p.ks[j].gs.length q1.gc,.slice q1.ka p.ks[j].ks.length q1.kc,.slice ca1 (ah ts p.ks[j]).length cc1,.slice na1 p.ks[j].ks.length nc1] 73)).heap.size=wr.heap.size+1:=by simp
   obtain ⟨m',hm'⟩:=HLk.out p.ks[j] (Ns hlt);have con:=IH.out p.ks[j] (Ns hlt) B lo q1 ca1 cc1 na1 nc1 da dc m' (d+1) _ hm' (ND.next (Kept.of hal (by omega))) (by omega) ((hdt.next hb).next hal) (HK.out.ks _ (Ns hlt));unfold oI at con;clear hm' ND;go_upto_region 5 with fail
   clear y0 y1 y2 y3 y4 y5 y6 y7 y8 y9 y10 e11 e12;generalize wr.alloc (.cells #[.int .i64 p.ks[j].k,.int .i64 p.ks[j].n,.int .i64 p.ks[j].x.k,.int .i64 p.ks[j].x.v.1,.int .i64 p.ks[j].x.v.2.1,.string p.ks[j].x.v.2.2,.int .i64 p.ks[j].x.c,.slice q1.xa p.ks[j].x.ks.length q1.xc,.slice q1.sa p.ks[j].xs.length q1.sc,.slice q1.ga p.ks[j].gs.length q1.gc,.slice q1.ka p.ks[j].ks.length q1.kc,.slice ca1 (ah ts p.ks[j]).length cc1,.slice na1 p.ks[j].ks.length nc1] 73)=wk at *;have z0:=cell_of (i:=0) Qk rfl;have z1:=cell_of (i:=1) Qk rfl;have z2:=cell_of (i:=2) Qk rfl
   have z3:=cell_of (i:=3) Qk rfl;have z4:=cell_of (i:=4) Qk rfl;have z5:=cell_of (i:=5) Qk rfl;have z6:=cell_of (i:=6) Qk rfl;have z7:=cell_of (i:=7) Qk rfl;have z8:=cell_of (i:=8) Qk rfl;have z9:=cell_of (i:=9) Qk rfl;have z10:=cell_of (i:=10) Qk rfl;have z11:=cell_of (i:=11) Qk rfl;have z12:=cell_of (i:=12) Qk rfl;go_wp2_with fail
   refine con.mono ?_;rintro e w5 ⟨v5,rfl,O5,hb5⟩;clear con z0 z1 z2 z3 z4 z5 z6 z7 z8 z9 z10 z11 z12 Qk;obtain ⟨a5,c5,ev,_,_⟩:=O5.xK;subst ev;have hb5':=chain hal hb5;have hA5:=chain hb hb5';have QN5:=(hb5'.block _ (ae QN)).trans QN;have S5:=hS.next hb5';have hlen:((p.ks.take j).map fun r=>(aB ts data r).2).length=j:=by rw [Od,NN]; omega
   have HTk:Hid (((p.ks.take (j+1)).map fun r=>(aB ts data r).2)=((p.ks.take j).map fun r=>(aB ts data r).2) ++ [(aB ts data p.ks[j]).2]):=by
    show _=_;rw [Nz hlt,Om];rfl
   have S6:=S5.store (by rw [hlen]; exact hlt) O5 (by omega);rw [hlen,← HTk.out] at S6;obtain ⟨u5,r5⟩:=S5.room j hlt;have f5:=S5.fz j;have HBad:Hid (¬ (aB ts data p.ks[j]).1=0→(re,rz)=((aB ts data p.ks[j]).1,[])):=fun c=>HR.out.symm.trans (uO (ni hlt HZ.out c) c)
   have HZ':Hid ((aB ts data p.ks[j]).1=0→∀ i (hi:i<p.ks.length),i<j+1→(aB ts data p.ks[i]).1=0):=fun c i hi h=>by
    by_cases e:i=j
    ·subst e; exact c
    ·exact HZ.out i hi (by omega)
   clear hS QN O5 S5 hlen HTk HZ hal hb5;generalize (aB ts data p.ks[j]).1=e1 at *;generalize (aB ts data p.ks[j]).2=z1 at *;dsimp only;by_cases he:e1=0
   ·have HZn:=HZ'.out he;have HZn:Hid (∀ i (hi:i<p.ks.length),i<j+1→(aB ts data p.ks[i]).1=0):=HZn;subst he;have QN6:=(((au.refl g w5).set j (.slice a5 z1.length c5)).2 w.heap.size (ae QN5) (by omega)).trans QN5;have hA6:=hA5.setCell (p:=⟨g,j,none⟩) (by show w.heap.size≤g; omega) (.slice a5 z1.length c5);clear HZ' HBad;go_wp2
    go_roundw
    case rel=>exact ⟨j+1,by omega,by go_num,HZn,S6,QN6,hA6⟩
    case measure=>simp [intOf]; omega
   ·have e:=HBad.out he;injection e with e1' e2'
    subst e1' e2';have heb:(re != 0)=true:=by simpa using he
    clear HBad HZ' S6;go_wp2
    exact Nl (v:=.tuple #[.slice none 0 0,.int .i64 re]) (by simp [results,Tryz.results41,go_sem]) rfl ⟨_,rfl,⟨[],by simpa using NP _ _ _ _,⟨rfl,fun i hi=>by simp at hi⟩⟩,hA5⟩
  ·have e:j=p.ks.length:=by omega
   subst e;rw [NL] at hS;have hAll:∀ r ∈ p.ks,(aB ts data r).1=0:=fun r hr=>by
    obtain ⟨i,hi,rfl⟩:=Ov hr;exact HZ.out i hi hi
   have eR:aT data p.k p.n p.x p.xs p.gs (p.ks.map (ah ts)) (p.ks.map fun r=>(aB ts data r).2)=(re,rz):=(fV hAll).symm.trans HR.out;have HRz:Hid (aT data p.k p.n p.x p.xs p.gs (p.ks.map (ah ts)) (p.ks.map fun r=>(aB ts data r).2)=(re,rz)):=eR;clear eR hAll HR HZ;have hz:=hb.size;have hgl:=hS.lt;have hwl:=ae QN;have hc:p.ks = []∨(∃ k0,p.ks = [k0])∨∃ k0 k1,p.ks = [k0,k1]:=by
    match hm:p.ks with
    | []=>exact .inl rfl
    | [k0]=>exact .inr (.inl ⟨k0,rfl⟩)
    | [k0,k1]=>exact .inr (.inr ⟨k0,k1,rfl⟩)
    | _ :: _ :: _ :: _=>rw [hm] at hl2; exact absurd hl2 (by simp)
   rcases hc with hks | ⟨k0,hks⟩ | ⟨k0,k1,hks⟩
   ·have hl0:p.ks.length=0:=by rw [hks]; rfl
    have lb:((p.ks.length:Int) == 0)=true:=by simp [hl0]
    have hne:=HNe.out;rw [hks] at hne;simp only [NS,fC] at hne;have hrange:0≤p.n∧p.n<(ts.length:Int):=by
     by_cases c:p.n<0∨(ts.length:Int)≤p.n
     ·rw [if_pos c] at hne; cases hne
     ·omega
    obtain ⟨jn,ejn⟩:∃ jn:Nat,p.n=(jn:Int):=⟨p.n.toNat,by omega⟩
    have hjd:jn<data.length:=by rw [HD.out.len]; omega
    have e1:re=aH data[jn]:=by
     have h:=congrArg Prod.fst HRz.out;rw [hks] at h;simp [aT,ejn,hjd] at h;exact h.symm
    have e2:rz=bg data[jn]:=by
     have h:=congrArg Prod.snd HRz.out;rw [hks] at h;simp [aT,ejn,hjd] at h;exact h.symm
    obtain ⟨b2,o2,zi,zc,rfl,hb2,c2,hzz,_⟩:=(hdt.next hb).elem hjd;have hw:=(bD _).1 (HD.out.ok data[jn] (Ns hjd));have con:=ep zi zc data[jn] wr hzz (by omega) (fun x hx=>ov (hw.2.1 x hx).2.2) (fun x hx=>I0 (hw.2.1 x hx).1);rw [← e1,← e2] at con;have q1c:wr.cell? ⟨w.heap.size,1,none⟩=some (.int .i64 p.n):=cell_of (i:=1) QN rfl;have hjz:(jn:Int)<(data.length:Int):=by omega
    have hj0:(0:Int)≤(jn:Int):=by omega
    clear hw e1 e2 hne hrange hks hl0 HRz;rw [ejn] at q1c;clear ejn;go_wp2_with fail
    refine con.mono ?_;rintro e w5 ⟨v5,rfl,O5,hb5⟩;clear con q1c c2;have O5':=O5.mono hz;dsimp only;go_wp2
    exact Nl (v:=.tuple #[v5,.int .i64 re]) (by simp [results,Tryz.results41,go_sem]) rfl ⟨_,rfl,O5',chain hb hb5⟩
   ·have hl0:p.ks.length=1:=by rw [hks]; rfl
    have lb:((p.ks.length:Int) == 0)=false:=by simp [hl0]
    have lb1:((p.ks.length:Int) == 1)=true:=by simp [hl0]
    have lz:0<p.ks.length:=by omega
    rw [hks] at hS HRz;obtain ⟨v0,bs,_,cv,O0⟩:=hS.laid 0 (by simp);simp only [NO,NS,Oa] at O0;obtain ⟨a0,c0,ev,zs0,_⟩:=O0.xK;subst ev;have hry:aT [] p.k p.n p.x p.xs p.gs [ah ts k0] [(aB ts data k0).2]=(re,rz):=by
     have h:=HRz.out
     simpa [aT] using h
    generalize (aB ts data k0).2=zz at *;have HRy:Hid (aT [] p.k p.n p.x p.xs p.gs [ah ts k0] [zz]=(re,rz)):=hry;clear HRz O0 hS hry;obtain ⟨V,hV⟩:∃ V,V=Value.agg (pd p q ca (ah ts p).length cc na p.ks.length nc):=⟨_,rfl⟩
    have HV:Hid (V=Value.agg (pd p q ca (ah ts p).length cc na p.ks.length nc)):=hV;clear hV;go_wp2_with fail
    have hCC:∀ W W':World,(W.heap[w.heap.size]? = some (.cells (pd p q ca (ah ts p).length cc na p.ks.length nc) 73 (0,0))∧W.cell? ⟨g,0,none⟩=some (.slice a0 zz.length c0)∧g<W.heap.size)→Below W.heap.size W W'→(W'.heap[w.heap.size]? = some (.cells (pd p q ca (ah ts p).length cc na p.ks.length nc) 73 (0,0))∧W'.cell? ⟨g,0,none⟩=some (.slice a0 zz.length c0)∧g<W'.heap.size):=fun W W' h hb=>⟨(hb.block _ (ae h.1)).trans h.1,(hb.cell (p:=⟨g,0,none⟩) h.2.2).trans h.2.1,Nn h.2.2 hb.size⟩
    have hd:Below wr.heap.size wr wr.drew:=(Nk _ _).drew;have CW:=hCC _ _ ⟨QN,cv,hgl⟩ hd;refine aK (fun W=>(W.heap[w.heap.size]? = some (.cells (pd p q ca (ah ts p).length cc na p.ks.length nc) 73 (0,0))∧W.cell? ⟨g,0,none⟩=some (.slice a0 zz.length c0)∧g<W.heap.size)) (by kernel_rfl) ?_;refine ab hCC 52 (i:=0) (v:=V) (fun n hn=>?_) CW ?_
    ·obtain ⟨hn1,_⟩:=hn;have m0:=cell_of (i:=0) hn1 rfl;have m1:=cell_of (i:=1) hn1 rfl;have m2:=cell_of (i:=2) hn1 rfl;have m3:=cell_of (i:=3) hn1 rfl;have m4:=cell_of (i:=4) hn1 rfl;have m5:=cell_of (i:=5) hn1 rfl;have m6:=cell_of (i:=6) hn1 rfl;have m7:=cell_of (i:=7) hn1 rfl;have m8:=cell_of (i:=8) hn1 rfl;have m9:=cell_of (i:=9) hn1 rfl;have m10:=cell_of (i:=10) hn1 rfl;have m11:=cell_of (i:=11) hn1 rfl;have m12:=cell_of (i:=12) hn1 rfl;rw [HV.out];clear hn1 QN hdt hN HNe HLk IH HRy CW hCC HV;go_simp
    simp only [Act.put,pA,pB,pC];refine ab hCC 53 (i:=1) (v:=.slice (some ⟨g,0,none⟩) p.ks.length p.ks.length) (fun n hn=>?_) CW ?_
    ·clear hn QN hdt hN HNe HLk IH HRy CW hCC HV;go_simp
    simp only [Act.put,pA,pB,pC];refine ab hCC 54 (i:=2) (v:=.pointer (some ⟨g,0,none⟩)) (fun n hn=>?_) CW ?_
    ·clear hn QN hdt hN HNe HLk IH HRy CW hCC HV;go_simp
    simp only [Act.put,pA,pB,pC];refine ab hCC 55 (i:=3) (v:=.slice a0 zz.length c0) (fun n hn=>?_) CW ?_
    ·have hc:=hn.2.1;clear hn QN hdt hN HNe HLk IH HRy CW hCC HV;go_simp
    simp only [Act.put,pA,pB,pC];refine az (rs:=[4]) (by kernel_rfl) (by simp) ?_;intro w6 hb6 jj hjj;obtain rfl:jj=4:=by simpa using hjj
    clear hjj;have CW6:=hCC _ _ CW hb6;have D6:=chain hd hb6;have D6w:=chain hb D6;have con:=G3 ts B lo p k0 q ca (ah ts p).length cc na nc zz a0 c0 w6 (Nw hB D6w.size) (sY.next (Kept.of D6w hB) hN.kids) (hN.pl.next D6w hB) HK.out hks (zs0.next D6);rw [HRy.out] at con;unfold oI at con;rw [← HV.out] at con;refine wpOp_step rfl (fun K hK=>?_);go_simp;refine con.mono ?_;rintro e w7 ⟨v7,rfl,O7,hb7⟩;clear con;have CW7:=hCC _ _ CW6 hb7;refine hK _ _ ⟨CW7,?_⟩;clear hK K CW6 CW
    refine ab hCC 57 (i:=5) (v:=v7) (fun n hn=>?_) CW7 ?_
    ·clear hn QN hdt hN HNe HLk IH HRy CW7 hCC HV O7;go_simp
    simp only [Act.put,pA,pB,pC];refine ab hCC 58 (i:=6) (v:=.int .i64 re) (fun n hn=>?_) CW7 ?_
    ·clear hn QN hdt hN HNe HLk IH HRy CW7 hCC HV O7;go_simp
    simp only [Act.put,pA,pB,pC];refine ab hCC 4 (i:=7) (v:=v7) (fun n hn=>?_) CW7 ?_
    ·clear hn QN hdt hN HNe HLk IH HRy CW7 hCC HV O7;go_simp
    simp only [Act.put,pA,pB,pC];refine ab hCC 5 (i:=8) (v:=.int .i64 re) (fun n hn=>?_) CW7 ?_
    ·clear hn QN hdt hN HNe HLk IH HRy CW7 hCC HV O7;go_simp
    simp only [Act.put,pA,pB,pC];refine bL (by kernel_rfl) ?_;intro w8 hb8;have O8:=(O7.next hb8).mono D6w.size;have D8:=chain D6w (chain hb7 hb8);clear CW7 hCC hb8 O7;go_wp2
    exact Nl (v:=.tuple #[v7,.int .i64 re]) (by simp [results,Tryz.results41,go_sem]) rfl ⟨_,rfl,O8,D8⟩
   ·have hl0:p.ks.length=2:=by rw [hks]; rfl
    have lb:((p.ks.length:Int) == 0)=false:=by simp [hl0]
    have lb1:((p.ks.length:Int) == 1)=false:=by simp [hl0]
    have lz:0<p.ks.length:=by omega
    have lz1:1<p.ks.length:=by omega
    have g0:(ah ts k0).length≤8:=by
     obtain ⟨m',hm'⟩:=HLk.out k0 (by rw [hks]; simp);exact iu HTs.out k0 _ _ hm'
    have g1:(ah ts k1).length≤8:=by
     obtain ⟨m',hm'⟩:=HLk.out k1 (by rw [hks]; simp);exact iu HTs.out k1 _ _ hm'
    rw [hks] at hS HRz;obtain ⟨v0,bs,_,cv,O0⟩:=hS.laid 0 (by simp);obtain ⟨v1,bs1,_,cv1,O1⟩:=hS.laid 1 (by simp);simp only [NO,NS,Oa,Ot] at O0 O1;obtain ⟨a0,c0,ev,zs0,nz0⟩:=O0.xK;obtain ⟨a1,c1,ev1,zs1,_⟩:=O1.xK;subst ev ev1;have hry:aT [] p.k p.n p.x p.xs p.gs [ah ts k0,ah ts k1] [(aB ts data k0).2,(aB ts data k1).2]=(re,rz):=by
     have h:=HRz.out
     simpa [aT] using h
    generalize (aB ts data k0).2=zz at *;generalize (aB ts data k1).2=yy at *;have HRy:Hid (aT [] p.k p.n p.x p.xs p.gs [ah ts k0,ah ts k1] [zz,yy]=(re,rz)):=hry;clear HRz O0 O1 hS hry;obtain ⟨V,hV⟩:∃ V,V=Value.agg (pd p q ca (ah ts p).length cc na p.ks.length nc):=⟨_,rfl⟩
    have HV:Hid (V=Value.agg (pd p q ca (ah ts p).length cc na p.ks.length nc)):=hV;clear hV;go_wp2_with fail
    have hCC:∀ W W':World,(W.heap[w.heap.size]? = some (.cells (pd p q ca (ah ts p).length cc na p.ks.length nc) 73 (0,0))∧W.cell? ⟨g,0,none⟩=some (.slice a0 zz.length c0)∧W.cell? ⟨g,1,none⟩=some (.slice a1 yy.length c1)∧g<W.heap.size)→Below W.heap.size W W'→(W'.heap[w.heap.size]? = some (.cells (pd p q ca (ah ts p).length cc na p.ks.length nc) 73 (0,0))∧W'.cell? ⟨g,0,none⟩=some (.slice a0 zz.length c0)∧W'.cell? ⟨g,1,none⟩=some (.slice a1 yy.length c1)∧g<W'.heap.size):=fun W W' h hb=>⟨(hb.block _ (ae h.1)).trans h.1,(hb.cell (p:=⟨g,0,none⟩) h.2.2.2).trans h.2.1,(hb.cell (p:=⟨g,1,none⟩) h.2.2.2).trans h.2.2.1,Nn h.2.2.2 hb.size⟩
    have hd:Below wr.heap.size wr wr.drew:=(Nk _ _).drew;have CW:=hCC _ _ ⟨QN,cv,cv1,hgl⟩ hd;refine aK (fun W=>(W.heap[w.heap.size]? = some (.cells (pd p q ca (ah ts p).length cc na p.ks.length nc) 73 (0,0))∧W.cell? ⟨g,0,none⟩=some (.slice a0 zz.length c0)∧W.cell? ⟨g,1,none⟩=some (.slice a1 yy.length c1)∧g<W.heap.size)) (by kernel_rfl) ?_;refine ab hCC 59 (i:=0) (v:=V) (fun n hn=>?_) CW ?_
    ·obtain ⟨hn1,_⟩:=hn;have m0:=cell_of (i:=0) hn1 rfl;have m1:=cell_of (i:=1) hn1 rfl;have m2:=cell_of (i:=2) hn1 rfl;have m3:=cell_of (i:=3) hn1 rfl;have m4:=cell_of (i:=4) hn1 rfl;have m5:=cell_of (i:=5) hn1 rfl;have m6:=cell_of (i:=6) hn1 rfl;have m7:=cell_of (i:=7) hn1 rfl;have m8:=cell_of (i:=8) hn1 rfl;have m9:=cell_of (i:=9) hn1 rfl;have m10:=cell_of (i:=10) hn1 rfl;have m11:=cell_of (i:=11) hn1 rfl;have m12:=cell_of (i:=12) hn1 rfl;rw [HV.out];clear hn1 QN hdt hN HNe HLk IH HRy CW hCC HV;go_simp
    simp only [Act.put,pA,pB,pC];refine ab hCC 60 (i:=1) (v:=.slice (some ⟨g,0,none⟩) p.ks.length p.ks.length) (fun n hn=>?_) CW ?_
    ·clear hn QN hdt hN HNe HLk IH HRy CW hCC HV;go_simp
    simp only [Act.put,pA,pB,pC];refine ab hCC 61 (i:=2) (v:=.pointer (some ⟨g,0,none⟩)) (fun n hn=>?_) CW ?_
    ·clear hn QN hdt hN HNe HLk IH HRy CW hCC HV;go_simp
    simp only [Act.put,pA,pB,pC];refine ab hCC 62 (i:=3) (v:=.slice a0 zz.length c0) (fun n hn=>?_) CW ?_
    ·have hc:=hn.2.1;clear hn QN hdt hN HNe HLk IH HRy CW hCC HV;go_simp
    simp only [Act.put,pA,pB,pC];refine ab hCC 63 (i:=4) (v:=.slice (some ⟨g,0,none⟩) p.ks.length p.ks.length) (fun n hn=>?_) CW ?_
    ·clear hn QN hdt hN HNe HLk IH HRy CW hCC HV;go_simp
    simp only [Act.put,pA,pB,pC];refine ab hCC 64 (i:=5) (v:=.pointer (some ⟨g,1,none⟩)) (fun n hn=>?_) CW ?_
    ·clear hn QN hdt hN HNe HLk IH HRy CW hCC HV;go_simp
    simp only [Act.put,pA,pB,pC];refine ab hCC 65 (i:=6) (v:=.slice a1 yy.length c1) (fun n hn=>?_) CW ?_
    ·have hc:=hn.2.2.1;clear hn QN hdt hN HNe HLk IH HRy CW hCC HV;go_simp
    simp only [Act.put,pA,pB,pC];refine az (rs:=[7]) (by kernel_rfl) (by simp) ?_;intro w6 hb6 jj hjj;obtain rfl:jj=7:=by simpa using hjj
    clear hjj;have CW6:=hCC _ _ CW hb6;have D6:=chain hd hb6;have D6w:=chain hb D6;have con:=Dq ts B lo p k0 k1 q ca (ah ts p).length cc na nc zz a0 c0 yy a1 c1 w6 (Nw hB D6w.size) (sY.next (Kept.of D6w hB) hN.kids) (hN.pl.next D6w hB) hks g0 g1 (zs0.next D6) (zs1.next D6) nz0;rw [HRy.out] at con;unfold oI at con;rw [← HV.out] at con;refine wpOp_step rfl (fun K hK=>?_);go_simp;refine con.mono ?_;rintro e w7 ⟨v7,rfl,O7,hb7⟩;clear con;have CW7:=hCC _ _ CW6 hb7;refine hK _ _ ⟨CW7,?_⟩;clear hK K CW6 CW
    refine ab hCC 67 (i:=8) (v:=v7) (fun n hn=>?_) CW7 ?_
    ·clear hn QN hdt hN HNe HLk IH HRy CW7 hCC HV O7;go_simp
    simp only [Act.put,pA,pB,pC];refine ab hCC 68 (i:=9) (v:=.int .i64 re) (fun n hn=>?_) CW7 ?_
    ·clear hn QN hdt hN HNe HLk IH HRy CW7 hCC HV O7;go_simp
    simp only [Act.put,pA,pB,pC];refine ab hCC 4 (i:=10) (v:=v7) (fun n hn=>?_) CW7 ?_
    ·clear hn QN hdt hN HNe HLk IH HRy CW7 hCC HV O7;go_simp
    simp only [Act.put,pA,pB,pC];refine ab hCC 5 (i:=11) (v:=.int .i64 re) (fun n hn=>?_) CW7 ?_
    ·clear hn QN hdt hN HNe HLk IH HRy CW7 hCC HV O7;go_simp
    simp only [Act.put,pA,pB,pC];refine bL (by kernel_rfl) ?_;intro w8 hb8;have O8:=(O7.next hb8).mono D6w.size;have D8:=chain D6w (chain hb7 hb8);clear CW7 hCC hb8 O7;go_wp2
    exact Nl (v:=.tuple #[v7,.int .i64 re]) (by simp [results,Tryz.results41,go_sem]) rfl ⟨_,rfl,O8,D8⟩
theorem Fx (ts:List (List Int)) (hts:dC ts=0) (data:List (List Zp)) (hD:Mw ts data):∀ p,wO ts data p:=Pl.ind fun k n x xs gs ks ih=>eval_at ts hts data hD (.mk k n x xs gs ks) ih
theorem dY (B:Nat) (W:World):bZ B W (.slice none 0 0) []:=⟨[],by simpa using NP _ _ _ _,⟨rfl,fun i hi=>by simp at hi⟩⟩
theorem GS (ts:List (List Int)) (data:List (List Zp)) (p:Pl) (q:Pw) (ta:Option Addr) (tc:Nat) (da:Option Addr) (dc:Nat) (w:World) (hT:fy w.heap.size w ta ts) (hD:gL w da data) (hp:ja w.heap.size w p q) (hk:cz p) :
  Calls Tryz.prog 16 #[.slice ta ts.length tc,bP p q,.slice da data.length dc] w fun e w'=>∃ v,e = .returned (.tuple #[v,.int .i64 (hM ts data p)])∧bZ w.heap.size w' v (yr ts data p)∧Below w.heap.size w w':=by
 have hA:=aa w (.cells (eS p q) 31);have EL:=gY.new w p q 31;have con:=uY ts p q ta tc (w.alloc (.cells (eS p q) 31)) ((hT.next hA (Nj _)).up hA.size) ((hp.next hA (Nj _)).up hA.size) hk;have HK:Hid (cz p):=hk;generalize hee:hM ts data p=ee;generalize hez:yr ts data p=ez;have HE:Hid (hM ts data p=ee):=hee;have HZ:Hid (yr ts data p=ez):=hez;generalize hle:aX ts p=le at con;have HLe:Hid (aX ts p=le):=hle;clear hk hee hez hle;obtain ⟨y0,y1,⟨y2,y3,y4,y5,y6,y7⟩,y8,y9,y10⟩:=EL
 simp only [Np] at y1 y2 y3 y4 y5 y6 y7 y8 y9 y10;unfold bP at con ⊢;go_enter Tryz.func16,Tryz.ntmps16;go_upto_region 1 with fail
 generalize w.alloc (.cells (eS p q) 31)=wA at *;go_wp2_with fail
 refine con.mono ?_;rintro e w1 ⟨⟨v1,rfl,hv0,hv1⟩,hb1⟩;clear con y0 y1 y2 y3 y4 y5 y6 y7 y8 y9 y10;have hA1:=chain hA hb1;by_cases he:le=0;rotate_left
 ·have e0:=hv1 he;obtain ⟨e1,e2⟩:=sw (data:=data) (show ¬ aX ts p=0 by rw [HLe.out]; exact he);rw [HE.out,HLe.out] at e1;rw [HZ.out] at e2;subst e0 e1 e2;have hal:=aa w1 (.cells #[.int .i64 0,.int .i64 0,.int .i64 0,.int .i64 0,.int .i64 0,.string ⟨#[]⟩,.int .i64 0,.slice none 0 0,.slice none 0 0,.slice none 0 0,.slice none 0 0,.slice none 0 0,.slice none 0 0] 73);have hA2:=chain hA1 hal;have heb:(ee != 0)=true:=by simpa using he
  clear hv0 hv1 HE HZ HLe;unfold lI;go_upto_region 2 with fail
  generalize w1.alloc (.cells #[.int .i64 0,.int .i64 0,.int .i64 0,.int .i64 0,.int .i64 0,.string ⟨#[]⟩,.int .i64 0,.slice none 0 0,.slice none 0 0,.slice none 0 0,.slice none 0 0,.slice none 0 0,.slice none 0 0] 73)=w2 at *;go_wp2_with fail
  exact Nl (v:=.tuple #[.slice none 0 0,.int .i64 ee]) (by simp [results,Tryz.results16,go_sem]) rfl ⟨_,rfl,dY _ _,hA2⟩
 obtain ⟨ca,cc,na,nc,e0,ND⟩:=hv0 he;have HL0:Hid (aX ts p=0):=by show _=_; rw [HLe.out,he]
 subst e0;clear hv0 hv1 HLe;subst he;have hal:=aa w1 (.cells (pd p q ca (ah ts p).length cc na p.ks.length nc) 73);have hA2:=chain hA1 hal;have Qk:=aw w1 (pd p q ca (ah ts p).length cc na p.ks.length nc) 73;have lk:=ae Qk;have hsA:=hb1.size;unfold oI;go_upto_region 2 with fail
 generalize w1.alloc (.cells (pd p q ca (ah ts p).length cc na p.ks.length nc) 73)=w2 at *;have h8:ts.length≤8:=Ci (cD HL0.out).1;have con:=vY ts data ta tc da dc w2 ((hT.next hA2 (Nj _)).up hA2.size) (hD.next hA2) h8;generalize hde:bG ts data=de at con;have HDe:Hid (bG ts data=de):=hde;clear hde;go_wp2_with fail
 refine con.mono ?_;rintro e w3 ⟨rfl,hb3⟩;clear con;have hA3:=chain hA2 hb3;dsimp only;by_cases hd:de=0;rotate_left
 ·obtain ⟨e1,e2⟩:=sd (data:=data) HL0.out (show ¬ bG ts data=0 by rw [HDe.out]; exact hd);rw [HE.out,HDe.out] at e1;rw [HZ.out] at e2;subst e1 e2;have heb:(ee != 0)=true:=by simpa using hd
  clear HE HZ HDe HL0;go_wp2_with fail
  exact Nl (v:=.tuple #[.slice none 0 0,.int .i64 ee]) (by simp [results,Tryz.results16,go_sem]) rfl ⟨_,rfl,dY _ _,hA3⟩
 have HD0:Hid (bG ts data=0):=by show _=_; rw [HDe.out,hd]
 clear HDe;subst hd;have Q3:=(hb3.block _ lk).trans Qk;have hk3:Kept wA.heap.size wA.heap.size w1 w3:=Kept.of (chain hal hb3) hsA;have con:=Fx ts (cD HL0.out).1 data (DR HD0.out) p wA.heap.size wA.heap.size q ca cc na nc da dc 0 1 w3 (cD HL0.out).2 (ND.next hk3) (Nw hsA (chain hal hb3).size) (hD.next hA3) HK.out;obtain ⟨e1,e2⟩:=qT (p:=p) HL0.out HD0.out;rw [HE.out] at e1;rw [HZ.out] at e2;rw [← e1,← e2] at con;unfold oI at con;clear e1 e2 HE HZ HL0 HD0 ND hk3;have z0:=cell_of (i:=0) Q3 rfl;have z1:=cell_of (i:=1) Q3 rfl;have z2:=cell_of (i:=2) Q3 rfl
 have z3:=cell_of (i:=3) Q3 rfl;have z4:=cell_of (i:=4) Q3 rfl;have z5:=cell_of (i:=5) Q3 rfl;have z6:=cell_of (i:=6) Q3 rfl;have z7:=cell_of (i:=7) Q3 rfl;have z8:=cell_of (i:=8) Q3 rfl;have z9:=cell_of (i:=9) Q3 rfl;have z10:=cell_of (i:=10) Q3 rfl;have z11:=cell_of (i:=11) Q3 rfl;have z12:=cell_of (i:=12) Q3 rfl;go_wp2_with fail
 refine con.mono ?_;rintro e w4 ⟨v4,rfl,O4,hb4⟩;clear con z0 z1 z2 z3 z4 z5 z6 z7 z8 z9 z10 z11 z12;have O4':=O4.mono hA3.size;go_wp2_with fail
 exact Nl (v:=.tuple #[v4,.int .i64 ee]) (by simp [results,Tryz.results16,go_sem]) rfl ⟨_,rfl,O4',chain hA3 hb4⟩
end Go.Proofs.YtohjlfhmnmcndaaGreat
