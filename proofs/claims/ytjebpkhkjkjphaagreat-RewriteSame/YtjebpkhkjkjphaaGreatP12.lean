/- Together: NE, J11, J12, J13, J14, NF, NG, NH, NI. -/
import Derived.Laws.CopyOwn
import Derived.Test.YtjebpkhkjkjphaaGreatP11
import Derived.Test.YtjebpkhkjkjphaaGreatP8
namespace Go.Proofs.YtjebpkhkjkjphaaGreat
open Go.RowKit Go.Lib Go.Shelf
set_option maxRecDepth 100000
set_option maxHeartbeats 16000000
theorem EB (ts:List (List Int)) (B lo:Nat) (p k0:Pl) (q:Pw) (ca:Option Addr) (n cc:Nat) (na:Option Addr) (nc:Nat) (z:List Zp) (za:Option Addr) (zc:Nat) (w:World) (hB:B≤w.heap.size) (hN:qL ts B lo w na p.ks) (hp:oh B w p q) (hk:dx p) (hks:p.ks = [k0]) (hz:bc w za z) :
  Calls Tryz.prog 31 #[mZ p q ca n cc na nc,.slice za z.length zc] w fun e w'=>∃ v,e = .returned (.tuple #[v,.int .i64 (bP [] p.k p.n p.x p.xs p.gs [ag ts k0] [z]).1])∧dH w.heap.size w' v (bP [] p.k p.n p.x p.xs p.gs [ag ts k0] [z]).2∧Below w.heap.size w w':=by
 have hl0:p.ks.length=1:=by rw [hks]; rfl
 rw [hks] at hN;obtain ⟨b,off,q0,c1,cc1,n1,nc1,rfl,hbl,hbt,_,d11,_,ND⟩:=hN.elem (i:=0) (by simp);simp only [Nv,Ng,Nc] at d11 ND;have I1:=ND.af;have lz:0<p.ks.length:=by omega
 have hA:=aa w (.cells (l7 p q ca n cc (some ⟨b,off,none⟩) p.ks.length nc) 56);have Q:=ak w (l7 p q ca n cc (some ⟨b,off,none⟩) p.ks.length nc) 56;have d11A:=(hA.cell (p:=⟨b,off+11,none⟩) hbl).trans d11;generalize hR:bP [] p.k p.n p.x p.xs p.gs [ag ts k0] [z]=R;have HR:=aw hR;have HK:=aw hk;clear hR hk hN ND hks hl0;obtain ⟨re,rz⟩:=R;dsimp only;unfold mZ;go_enter Tryz.func31,Tryz.ntmps31;go_wp2_with fail
 generalize w.alloc (.cells (l7 p q ca n cc (some ⟨b,off,none⟩) p.ks.length nc) 56)=wA at *;have x0:=cell_of (i:=0) Q rfl;have x1:=cell_of (i:=1) Q rfl;have x2:=cell_of (i:=2) Q rfl;have x3:=cell_of (i:=3) Q rfl;have x4:=cell_of (i:=4) Q rfl;have x5:=cell_of (i:=5) Q rfl;have x6:=cell_of (i:=6) Q rfl;have x7:=cell_of (i:=7) Q rfl;have x8:=cell_of (i:=8) Q rfl;have x9:=cell_of (i:=9) Q rfl;have x10:=cell_of (i:=10) Q rfl;have x11:=cell_of (i:=11) Q rfl;have x12:=cell_of (i:=12) Q rfl;have lA:=ae Q;have lb:=Mh hbl hA.size;go_region
 have hd:Below (wA.alloc (.cells (dS p q) 31)).heap.size (wA.alloc (.cells (dS p q) 31)) (wA.alloc (.cells (dS p q) 31)).drew:=(Md _ _).drew;have hal:=aa wA (.cells (dS p q) 31);have E0:=iA.new wA p q 31;have zA:wA.heap.size<(wA.alloc (.cells (dS p q) 31)).heap.size:=by simp
 have hAd:=chain hA (chain hal hd);have E1:=E0.next hd zA;clear x0 x1 x2 x3 x4 x5 x6 x7 x8 x9 x10 x11 x12 Q d11A E0;generalize (wA.alloc (.cells (dS p q) 31)).drew=wB at *;have hpB:=(hp.next hAd hB).up (Mr hB hAd.size);have hcB:=(I1.low hAd hB).at;have hzB:=hz.next hAd;obtain ⟨y0,y1,⟨y2,y3,y4,y5,y6,y7⟩,y8,y9,y10⟩:=E1;simp only [Mq] at y1 y2 y3 y4 y5 y6 y7 y8 y9 y10;clear hd hal zA lA lb;by_cases k2:p.k=2;have kb:(p.k == 2)=true:=by simpa using k2
 have e1:re=gz (ag ts k0) p.x z:=by have h:=congrArg Prod.fst HR.out; simp [bP,k2] at h; exact h.symm
 have e2:rz=lY (ag ts k0) p.x z:=by have h:=congrArg Prod.snd HR.out; simp [bP,k2] at h; exact h.symm
 have con:=th (ag ts k0) p.x c1 cc1 q.xa q.xc za zc z wB hcB hpB.x hzB;rw [← e1,← e2] at con;unfold iU at con;clear e1 e2 HR k2;rotate_left;have b2:(p.k == 2)=false:=by rw [beq_eq_false_iff_ne]; exact k2
 by_cases k3:p.k=3;have kb:(p.k == 3)=true:=by simpa using k3
 have e1:re=lq (ag ts k0) p.xs z:=by have h:=congrArg Prod.fst HR.out; simp [bP,k3] at h; exact h.symm
 have e2:rz=ui (ag ts k0) p.xs z:=by have h:=congrArg Prod.snd HR.out; simp [bP,k3] at h; exact h.symm
 have con:=Fq (ag ts k0) p.xs c1 cc1 q.sa q.sc za zc z wB hcB hpB.xs hzB;rw [← e1,← e2] at con;clear e1 e2 HR k2 k3;rotate_left;have b3:(p.k == 3)=false:=by rw [beq_eq_false_iff_ne]; exact k3
 by_cases k10:p.k=10;have kb:(p.k == 10)=true:=by simpa using k10
 have e1:re=aR z:=by have h:=congrArg Prod.fst HR.out; simp [bP,k10] at h; exact h.symm
 have e2:rz=mn iV z:=by have h:=congrArg Prod.snd HR.out; simp [bP,k10] at h; exact h.symm
 have con:=wK za zc z wB hzB;rw [← e1,← e2] at con;clear e1 e2 HR k2 k3 k10;rotate_left;have b10:(p.k == 10)=false:=by rw [beq_eq_false_iff_ne]; exact k10
 by_cases k11:p.k=11;have kb:(p.k == 11)=true:=by simpa using k11
 have e1:re=aR z:=by have h:=congrArg Prod.fst HR.out; simp [bP,k11] at h; exact h.symm
 have e2:rz=mn iv z:=by have h:=congrArg Prod.snd HR.out; simp [bP,k11] at h; exact h.symm
 have con:=uY za zc z wB hzB;rw [← e1,← e2] at con;clear e1 e2 HR k2 k3 k10 k11;rotate_left;have b11:(p.k == 11)=false:=by rw [beq_eq_false_iff_ne]; exact k11
 by_cases k12:p.k=12;have kb:(p.k == 12)=true:=by simpa using k12
 have e1:re=dM (ag ts k0) p.xs p.gs z:=by have h:=congrArg Prod.fst HR.out; simp [bP,k12] at h; exact h.symm
 have e2:rz=iN (ag ts k0) p.xs p.gs z:=by have h:=congrArg Prod.snd HR.out; simp [bP,k12] at h; exact h.symm
 have con:=ve (ag ts k0) p.xs p.gs (fun g _ _=>sD g.1) HK.out.sum c1 cc1 q.sa q.sc q.ga q.gc za zc z wB hcB hpB.xs hpB.gs hzB;rw [← e1,← e2] at con;clear e1 e2 HR k2 k3 k10 k11 k12;rotate_left;have b12:(p.k == 12)=false:=by rw [beq_eq_false_iff_ne]; exact k12
 have e1:re=kX (ag ts k0) p.xs p.n z:=by have h:=congrArg Prod.fst HR.out; simp [bP,k2,k3,k10,k11,k12] at h; exact h.symm
 have e2:rz=rO (ag ts k0) p.xs p.n z:=by have h:=congrArg Prod.snd HR.out; simp [bP,k2,k3,k10,k11,k12] at h; exact h.symm
 have con:=Gw (ag ts k0) p.xs p.n HK.out.n c1 cc1 q.sa q.sc za zc z wB hcB hpB.xs hzB;rw [← e1,← e2] at con;clear e1 e2 HR k2 k3 k10 k11 k12;go_wp2_with fail
 refine con.mono ?_;rintro e w5 ⟨v5,rfl,O5,hb5⟩;clear con y0 y1 y2 y3 y4 y5 y6 y7 y8 y9 y10;have O5':=O5.mono hAd.size;dsimp only;go_wp2_with fail
 exact Me (v:=.tuple #[v5,.int .i64 re]) (by simp [results,Tryz.results31,go_sem]) rfl ⟨_,rfl,O5',chain hAd hb5⟩
 all_goals
  go_wp2_with fail
  refine con.mono ?_;rintro e w5 ⟨v5,rfl,O5,hb5⟩;clear con y0 y1 y2 y3 y4 y5 y6 y7 y8 y9 y10;have O5':=O5.mono hAd.size;dsimp only;go_wp2_with fail
  exact Me (v:=.tuple #[v5,.int .i64 re]) (by simp [results,Tryz.results31,go_sem]) rfl ⟨_,rfl,O5',chain hAd hb5⟩
theorem yt (g:Nat) (fs cb:Array Value) (p:Zp→Bool) (a:Option Addr) (cap:Nat) (l:List Zp) (w0 w:World) (Inv:World→Prop) (h:bc w0 a l) (hl:l.length≤100000)
  (eg:∀ args w,(callFunc g args).run Tryz.prog w = .ok (.enter g args) w) (hI0:Inv w) (hI1:∀ W,Inv W→Below w0.heap.size w0 W) (hI2:∀ W W',Inv W→Below w.heap.size W W'→Inv W')
  (hcall:∀ x ∈ l,∀ (ra:Option Addr) (rc:Nat) (W:World),Inv W→bg w0 ra x.1→w.heap.size≤W.heap.size→Calls Tryz.prog g (fs ++ #[.agg #[.slice ra x.1.length rc,.int .i64 x.2]] ++ cb) W fun e w'=>e = .returned (.bool (p x))∧Inv w'∧Since w.heap.size W w') :
  Calls Tryz.prog 77 #[.slice a l.length cap,.func (.func g) fs cb] w fun e w'=>∃ v,e = .returned v∧po w0 w.heap.size w' v (l.filter p)∧Inv w'∧w.heap.size≤w'.heap.size:=by
 obtain ⟨i0,hi,hj0,hj1,hj2⟩:=info_parts Tryz.gH;have HC:=aw hcall;have H1:=aw hI1;have H2:=aw hI2;clear hcall hI1 hI2;go_enter Tryz.func77,Tryz.ntmps77;go_wp2_with fail
 go_loopw [5,10] (fun v i wr=>∃ k:Nat,k≤l.length∧i = .int .i64 k∧po w0 w.heap.size wr v ((l.take k).filter p)∧Hid (Inv wr)∧w.heap.size≤wr.heap.size) (fun _ i _=>l.length - (intOf i).toNat)
 case atStart=>exact ⟨0,Mj _,rfl,⟨[],by simpa using MM _ _ _ _,by simp [ku]⟩,hI0,Mc _⟩
 case round =>
  clear hI0;obtain ⟨k,hk,rfl,HO,HI,hz⟩:=hrel;by_cases hlt:k<l.length
  ·obtain ⟨b,off,rfl,hbl,d1,ar,cr,d0,sr⟩:=h.elem hlt;have hB:=H1.out _ HI.out;have c1:=(hB.cell (p:=⟨b,_,none⟩) hbl).trans d1;have c0:=(hB.cell (p:=⟨b,_,none⟩) hbl).trans d0;have hbl':b<wr.heap.size:=Mh hbl hB.size;have hlen:((l.take k).filter p).length≤k:=by have:=M5 p (l.take k); simp only [MH] at this; omega
   have hal:=aa wr (.cells #[.slice ar l[k].1.length cr,.int .i64 l[k].2] 63);have IA:Inv (wr.alloc (.cells #[.slice ar l[k].1.length cr,.int .i64 l[k].2] 63)):=H2.out _ _ HI.out (hal.mono hz);have con:=HC.out l[k] (Mk hlt) ar cr _ IA sr (Mr hz hal.size);have q0:(wr.alloc (.cells #[.slice ar l[k].1.length cr,.int .i64 l[k].2] 63)).cell? ⟨wr.heap.size,0,none⟩=some (.slice ar l[k].1.length cr):=by simp
   have q1:(wr.alloc (.cells #[.slice ar l[k].1.length cr,.int .i64 l[k].2] 63)).cell? ⟨wr.heap.size,1,none⟩=some (.int .i64 l[k].2):=by simp
   have za:(wr.alloc (.cells #[.slice ar l[k].1.length cr,.int .i64 l[k].2] 63)).heap.size=wr.heap.size+1:=by simp
   have HS:=aw sr;obtain ⟨xs,ho,he⟩:=HO;have HE:=aw he;have ho1:=bp ho hal;clear d0 d1 sr he ho IA;by_cases hp:p l[k]=true
   ·rw [hp] at con;have HP:=aw hp;clear hp
    go_wp2_with (first | (go_at_fn g; refine con.mono ?_; rintro e w1 ⟨rfl,I1,s1⟩; have r0:=(s1.cell (p:=⟨wr.heap.size,0,none⟩) hz (by show wr.heap.size<_; omega)).trans q0; have r1:=(s1.cell (p:=⟨wr.heap.size,1,none⟩) hz (by show wr.heap.size<_; omega)).trans q1; have z1:=s1.1; have o1:=jA ho1 (Mc _) s1) | (at_builtin; refine M9 _ rfl _ _ 37 rfl w.heap.size 63 i0 _ 2 32 Tryz.underlying37 hi hj0 hj1 hj2 rfl (by decide) _ _ _ rfl (o1.alloc _) ⟨w1.heap.size,0,none⟩ 1 1 [.slice ar l[k].1.length cr,.int .i64 l[k].2] rfl rfl ?Ac1 ?Ac2 ?Ac3 ?Ac4 ?Ac5 ?_))
    case Ac1 =>
     intro j u hj
     match j,hj with
     | 0,hj=>simp at hj; subst hj; simp [Addr.add]
     | 1,hj=>simp at hj; subst hj; simp [Addr.add]
    case Ac2=>intro u hu; simp at hu; rcases hu with rfl | rfl <;> rfl
    case Ac3=>unfold maxLen; omega
    case Ac4=>omega
    case Ac5=>simp; omega
    intro v' w5 ho5 hg5 _;have hb5:Below w.heap.size w1 w5:=((Md w.heap.size w1).alloc (by omega) _).grown hg5 (by simp; omega) (fun q hq=>((o1.alloc (.cells #[.slice ar l[k].1.length cr,.int .i64 l[k].2] 63)).lt q hq).1);have HI1:Hid (Inv w5):=H2.out _ _ I1 hb5;have z5:=hb5.size;clear hg5 o1 I1 con q0 q1 ho1;go_wp2
    go_roundw
    case rel=>exact ⟨k+1,by omega,by go_num,by rw [je p hlt,if_pos HP.out]; exact ⟨_,by simpa using ho5,HE.out.push HS.out⟩,HI1,by omega⟩
    case measure=>simp [intOf]; omega
   ·have hp:p l[k]=false:=by simpa using hp
    rw [hp] at con;have HP:=aw hp;clear hp;go_wp2_with (go_at_fn g; refine con.mono ?_; rintro e w1 ⟨rfl,I1,s1⟩)
    have o1:=jA ho1 (Mc _) s1;have z1:=s1.1;have HI1:=aw I1;clear con q0 q1 ho1 I1;go_roundw
    case rel=>exact ⟨k+1,by omega,by go_num,by rw [je p hlt,HP.out,if_neg (by decide),Nm]; exact ⟨_,o1,HE.out⟩,HI1,by omega⟩
    case measure=>simp [intOf]; omega
  ·have e:k=l.length:=by omega
   subst e;rw [MB] at HO;obtain ⟨av,cv,rfl,_⟩:=HO.zs (H1.out _ HI.out);go_wp2
   go_ret;exact ⟨_,rfl,HO,HI.out,hz⟩
theorem yV (af:List Int) (x:Ex) (w0 wp w:World) (a b:Option Addr) (ca cb:Nat) (l r:List Zp) (v:Value) (R rv:Nat) (hP:dq af x w0 wp a b ca cb l r v R rv) (hI:di wp R rv w) (za:bc w0 a l) (zb:bc w0 b r) (hq:pG af l r) :
  Calls Tryz.prog 89 #[v] w fun e w'=>∃ u,e = .returned u∧po w0 (w.heap.size+1) w' u (pZ x l r)∧di wp R rv w'∧w.heap.size≤w'.heap.size:=by
 have hP':=hP;obtain ⟨lo,wc,hv,u,rfl,hn,hv0,hc,hC,hcR,hcp,h0,h0p⟩:=hP;have hrv:=hI.sz hn;have hll:=hq.ll;have h1:=aa w (.cells #[.slice a l.length ca,.slice b r.length cb,.func (.func 185) #[] #[.pointer (some ⟨rv,0,none⟩),.pointer (some ⟨hv,0,none⟩)]] 137);have e1:(w.alloc (.cells #[.slice a l.length ca,.slice b r.length cb,.func (.func 185) #[] #[.pointer (some ⟨rv,0,none⟩),.pointer (some ⟨hv,0,none⟩)]] 137)).heap.size=w.heap.size+1:=by simp
 clear hC;go_enter Tryz.func89,Tryz.ntmps89;go_wp2_with fail
 generalize w.alloc (.cells #[.slice a l.length ca,.slice b r.length cb,.func (.func 185) #[] #[.pointer (some ⟨rv,0,none⟩),.pointer (some ⟨hv,0,none⟩)]] 137)=w1 at *;have I1:=hI.cG hn hI.size h1;refine (yt 121 #[.agg #[.slice a l.length ca,.slice b r.length cb,.func (.func 185) #[] #[.pointer (some ⟨rv,0,none⟩),.pointer (some ⟨hv,0,none⟩)]]] #[] (fun y=>j4 x r y.1) a ca l w0 w1 (fun W=>di wp R rv W) za (by omega) (enters_of Tryz.func121 (by kernel_rfl) rfl) I1 (fun W hW=>h0p.trans ((hW.below hn).mono h0)) (fun W W' hW hb=>hW.cG hn I1.size hb) ?_).mono ?_
 ·intro y hy ra rc W hW sy hz;refine (mP af x w0 wp W a b ca cb l r _ R rv hP' hW zb hq.rl ra rc y sy (fun q hq'=>hq.row y hy q hq') (fun q hq'=>hq.fit y hy q hq')).mono ?_;rintro e w' ⟨rfl,I',S'⟩;exact ⟨rfl,I',S'.up (by omega)⟩
 rintro e w2 ⟨v2,rfl,O2,I2,z2⟩;have HI2:=aw I2;have hs:l.filter (fun y=>j4 x r y.1)=pZ x l r:=rfl;rw [hs,e1] at O2;obtain ⟨a2,c2,rfl,_⟩:=O2.zs (h0p.trans ((I2.below hn).mono h0));clear I2 I1 hP';dsimp only;go_wp2
 go_ret;exact ⟨_,rfl,O2,HI2.out,by omega⟩
theorem rN (af:List Int) (x:Ex) (w0 wp:World) (a b:Option Addr) (ca cb:Nat) (l r:List Zp) (R rv hv pb:Nat) (hP:dq af x w0 wp a b ca cb l r (.agg #[.slice a l.length ca,.slice b r.length cb,.func (.func 185) #[] #[.pointer (some ⟨rv,0,none⟩),.pointer (some ⟨hv,0,none⟩)]]) R rv) (W:World) (hI:di wp R rv W) (zb:bc w0 b r) (hr:r.length≤400) (ra:Option Addr) (rc:Nat) (y:Zp) (sy:bg w0 ra y.1) (h8:∀ q ∈ r,y.1.length+q.1.length≤8) (hf:∀ q ∈ r,fM af (y.1 ++ q.1))
  (cp:W.heap[pb]? = some (.cells #[.slice a l.length ca,.slice b r.length cb,.func (.func 185) #[] #[.pointer (some ⟨rv,0,none⟩),.pointer (some ⟨hv,0,none⟩)]] 137 (0,0))) :
  Calls Tryz.prog 122 #[.agg #[.slice ra y.1.length rc,.int .i64 y.2],.pointer (some ⟨pb,0,none⟩)] W fun e w'=>e = .returned (.bool (!j4 x r y.1))∧di wp R rv w'∧Since (rv+1) W w':=by
 have hn:ob wp R rv:=by obtain ⟨_,_,_,_,_,hn,_⟩:=hP; exact hn
 have h1:=aa W (.cells #[.slice ra y.1.length rc,.int .i64 y.2] 63);have p1:=(h1.block pb (ae cp)).trans cp;have k0:(W.alloc (.cells #[.slice ra y.1.length rc,.int .i64 y.2] 63)).cell? ⟨pb,0,none⟩=some (.slice a l.length ca):=cell_of (i:=0) p1 rfl;have k1:(W.alloc (.cells #[.slice ra y.1.length rc,.int .i64 y.2] 63)).cell? ⟨pb,1,none⟩=some (.slice b r.length cb):=cell_of (i:=1) p1 rfl
 have k2:(W.alloc (.cells #[.slice ra y.1.length rc,.int .i64 y.2] 63)).cell? ⟨pb,2,none⟩=some (.func (.func 185) #[] #[.pointer (some ⟨rv,0,none⟩),.pointer (some ⟨hv,0,none⟩)]):=cell_of (i:=2) p1 rfl;have I1:=hI.cG hn hI.size h1;have con:=mP af x w0 wp _ a b ca cb l r _ R rv hP I1 zb hr ra rc y sy h8 hf;generalize j4 x r y.1=t at *;clear hP p1 cp I1 h8 hf;go_enter Tryz.func122,Tryz.ntmps122;go_wp2_with fail
 generalize W.alloc (.cells #[.slice ra y.1.length rc,.int .i64 y.2] 63)=w1 at *;refine con.mono ?_;rintro e w2 ⟨rfl,I2,S2⟩;have HI2:=aw I2;have S3:Since (rv+1) W w2:=(Since.of h1).trans S2;clear con I2 k0 k1 k2 hI;dsimp only;go_wp2
 go_ret;exact ⟨rfl,HI2.out,S3⟩
theorem np (af:List Int) (x:Ex) (w0 wp w:World) (a b:Option Addr) (ca cb:Nat) (l r:List Zp) (v:Value) (R rv:Nat) (hP:dq af x w0 wp a b ca cb l r v R rv) (hI:di wp R rv w) (za:bc w0 a l) (zb:bc w0 b r) (hq:pG af l r) :
  Calls Tryz.prog 90 #[v] w fun e w'=>∃ u,e = .returned u∧po w0 (w.heap.size+1) w' u (gC x l r)∧di wp R rv w'∧w.heap.size≤w'.heap.size:=by
 have hP':=hP;obtain ⟨lo,wc,hv,u,rfl,hn,hv0,hc,hC,hcR,hcp,h0,h0p⟩:=hP;have hrv:=hI.sz hn;have hll:=hq.ll;have h1:=aa w (.cells #[.slice a l.length ca,.slice b r.length cb,.func (.func 185) #[] #[.pointer (some ⟨rv,0,none⟩),.pointer (some ⟨hv,0,none⟩)]] 137);have p1:=ak w #[.slice a l.length ca,.slice b r.length cb,.func (.func 185) #[] #[.pointer (some ⟨rv,0,none⟩),.pointer (some ⟨hv,0,none⟩)]] 137
 have e1:(w.alloc (.cells #[.slice a l.length ca,.slice b r.length cb,.func (.func 185) #[] #[.pointer (some ⟨rv,0,none⟩),.pointer (some ⟨hv,0,none⟩)]] 137)).heap.size=w.heap.size+1:=by simp
 clear hC;go_enter Tryz.func90,Tryz.ntmps90;go_wp2_with fail
 generalize w.alloc (.cells #[.slice a l.length ca,.slice b r.length cb,.func (.func 185) #[] #[.pointer (some ⟨rv,0,none⟩),.pointer (some ⟨hv,0,none⟩)]] 137)=w1 at *;have I1:=hI.cG hn hI.size h1
 refine (nL 122 #[.pointer (some ⟨w.heap.size,0,none⟩)] (fun y=>!j4 x r y.1) a ca l w0 w1 (fun W=>di wp R rv W∧W.heap[w.heap.size]? = some (.cells #[.slice a l.length ca,.slice b r.length cb,.func (.func 185) #[] #[.pointer (some ⟨rv,0,none⟩),.pointer (some ⟨hv,0,none⟩)]] 137 (0,0))) za (by omega) (enters_of Tryz.func122 (by kernel_rfl) rfl) ⟨I1,p1⟩ (fun W hW=>h0p.trans ((hW.1.below hn).mono h0)) (fun W W' hW hb=>⟨hW.1.cG hn I1.size hb,(hb.block _ (by omega)).trans hW.2⟩) ?_).mono ?_
 ·intro y hy ra rc W hW sy hz;refine (rN af x w0 wp a b ca cb l r R rv hv w.heap.size hP' W hW.1 zb hq.rl ra rc y sy (fun q hq'=>hq.row y hy q hq') (fun q hq'=>hq.fit y hy q hq') hW.2).mono ?_;rintro e w' ⟨rfl,I',S'⟩;exact ⟨rfl,⟨I',(S'.2 _ (by omega) (by omega)).trans hW.2⟩,S'.up (by omega)⟩
 rintro e w2 ⟨v2,rfl,O2,⟨I2,_⟩,z2⟩;have HI2:=aw I2;have hs:l.filter (fun y=>!j4 x r y.1)=gC x l r:=rfl;rw [hs,e1] at O2;obtain ⟨a2,c2,rfl,_⟩:=O2.zs (h0p.trans ((I2.below hn).mono h0));clear I2 I1 hP' p1;dsimp only;go_wp2
 go_ret;exact ⟨_,rfl,O2,HI2.out,by omega⟩
theorem Hm (left right:List Int) (x:Ex) (la:Option Addr) (lcap:Nat) (ra:Option Addr) (rcap:Nat) (xa:Option Addr) (xcap:Nat) (a:Option Addr) (ca:Nat) (l:List Zp) (b:Option Addr) (cb:Nat) (r:List Zp) (w:World)
  (hcl:bG w.heap.size w la left) (hcr:bG w.heap.size w ra right) (hx:aX w.heap.size w xa x.ks) (h:bc w a l) (h':bc w b r) (hll:left.length≤100000000000000) (hrl:right.length≤100000000000000) :
  Calls Tryz.prog 55 #[.slice la left.length lcap,.slice ra right.length rcap,iU x.k x.v x.c xa x.ks.length xcap,.slice a l.length ca,.slice b r.length cb] w fun e w'=>∃ v,e = .returned (.tuple #[v,.int .i64 (cL 1 left right x l r)])∧dH w.heap.size w' v (ed 1 left right x l r)∧Below w.heap.size w w':=by
 have h1:=aa w (.cells (fS x xa xcap) 27);have zs1:=h.next h1;have zs1':=h'.next h1;have con:=j9 1 89 #[] left right x la lcap ra rcap xa xcap a ca l b cb r (w.alloc (.cells (fS x xa xcap) 27)) ((hcl.next h1 (Mc _)).up h1.size) ((hcr.next h1 (Mc _)).up h1.size) ((aX.next h1 (Mc _) hx).up h1.size) zs1 zs1' hll hrl (enters_of Tryz.func89 (by kernel_rfl) rfl) (fun W v R rv hP hI hT=>by
  refine (yV (left ++ right) x _ W W a b ca cb l r v R rv hP hI zs1 zs1' (ng hT)).mono ?_;rintro e w' ⟨u,rfl,OJ,I',z'⟩;obtain ⟨_,_,_,_,_,hn,_,_,_,_,_,hR,hB⟩:=hP;have hE:=hB.trans ((I'.below hn).mono hR);obtain ⟨ua,uc,rfl,zu,_⟩:=OJ.zs hE;exact ⟨ua,uc,rfl,zu,hE⟩)
 generalize hfz:ed 1 left right x l r=fz at *;generalize hfe:cL 1 left right x l r=fe at *;clear hfz hfe;go_enter Tryz.func55,Tryz.ntmps55;go_wp2_with fail
 generalize w.alloc (.cells (fS x xa xcap) 27)=w1 at *;refine con.mono ?_;rintro e w2 ⟨v2,rfl,O2,hb2⟩;have O2':=O2.mono h1.size;obtain ⟨a2,c2,rfl,_⟩:=O2.zs;clear con O2;dsimp only;go_wp2
 exact Me (v:=.tuple #[.slice a2 fz.length c2,.int .i64 fe]) (by simp [results,Tryz.results55,go_sem]) rfl ⟨_,rfl,O2',chain h1 hb2⟩
theorem H7 (left right:List Int) (x:Ex) (la:Option Addr) (lcap:Nat) (ra:Option Addr) (rcap:Nat) (xa:Option Addr) (xcap:Nat) (a:Option Addr) (ca:Nat) (l:List Zp) (b:Option Addr) (cb:Nat) (r:List Zp) (w:World)
  (hcl:bG w.heap.size w la left) (hcr:bG w.heap.size w ra right) (hx:aX w.heap.size w xa x.ks) (h:bc w a l) (h':bc w b r) (hll:left.length≤100000000000000) (hrl:right.length≤100000000000000) :
  Calls Tryz.prog 56 #[.slice la left.length lcap,.slice ra right.length rcap,iU x.k x.v x.c xa x.ks.length xcap,.slice a l.length ca,.slice b r.length cb] w fun e w'=>∃ v,e = .returned (.tuple #[v,.int .i64 (cL 2 left right x l r)])∧dH w.heap.size w' v (ed 2 left right x l r)∧Below w.heap.size w w':=by
 have h1:=aa w (.cells (fS x xa xcap) 27);have zs1:=h.next h1;have zs1':=h'.next h1;have con:=j9 2 90 #[] left right x la lcap ra rcap xa xcap a ca l b cb r (w.alloc (.cells (fS x xa xcap) 27)) ((hcl.next h1 (Mc _)).up h1.size) ((hcr.next h1 (Mc _)).up h1.size) ((aX.next h1 (Mc _) hx).up h1.size) zs1 zs1' hll hrl (enters_of Tryz.func90 (by kernel_rfl) rfl) (fun W v R rv hP hI hT=>by
  refine (np (left ++ right) x _ W W a b ca cb l r v R rv hP hI zs1 zs1' (ng hT)).mono ?_;rintro e w' ⟨u,rfl,OJ,I',z'⟩;obtain ⟨_,_,_,_,_,hn,_,_,_,_,_,hR,hB⟩:=hP;have hE:=hB.trans ((I'.below hn).mono hR);obtain ⟨ua,uc,rfl,zu,_⟩:=OJ.zs hE;exact ⟨ua,uc,rfl,zu,hE⟩)
 generalize hfz:ed 2 left right x l r=fz at *;generalize hfe:cL 2 left right x l r=fe at *;clear hfz hfe;go_enter Tryz.func56,Tryz.ntmps56;go_wp2_with fail
 generalize w.alloc (.cells (fS x xa xcap) 27)=w1 at *;refine con.mono ?_;rintro e w2 ⟨v2,rfl,O2,hb2⟩;have O2':=O2.mono h1.size;obtain ⟨a2,c2,rfl,_⟩:=O2.zs;clear con O2;dsimp only;go_wp2
 exact Me (v:=.tuple #[.slice a2 fz.length c2,.int .i64 fe]) (by simp [results,Tryz.results56,go_sem]) rfl ⟨_,rfl,O2',chain h1 hb2⟩
theorem FW (c:Nat) (hc:c≤8) (w:World):Calls Tryz.prog 188 #[.int .u64 1,.int .u64 c] w fun e w'=>e = .returned (.tuple #[.int .u64 0,.int .u64 c])∧w'=w:=by
 have h:c=0∨c=1∨c=2∨c=3∨c=4∨c=5∨c=6∨c=7∨c=8:=by omega
 rcases h with rfl | rfl | rfl | rfl | rfl | rfl | rfl | rfl | rfl
 all_goals (
  have b0:bits BinOp.and IntKind.u64 0 4294967295=0:=by decide +kernel
  have b1:bits BinOp.and IntKind.u64 1 4294967295=1:=by decide +kernel
  have b2:bits BinOp.and IntKind.u64 2 4294967295=2:=by decide +kernel
  have b3:bits BinOp.and IntKind.u64 3 4294967295=3:=by decide +kernel
  have b4:bits BinOp.and IntKind.u64 4 4294967295=4:=by decide +kernel
  have b5:bits BinOp.and IntKind.u64 5 4294967295=5:=by decide +kernel
  have b6:bits BinOp.and IntKind.u64 6 4294967295=6:=by decide +kernel
  have b7:bits BinOp.and IntKind.u64 7 4294967295=7:=by decide +kernel
  have b8:bits BinOp.and IntKind.u64 8 4294967295=8:=by decide +kernel
  go_enter Tryz.func188,Tryz.ntmps188;go_wp2_with fail
  exact Me (by simp [results,Tryz.results188,go_sem]) rfl ⟨rfl,rfl⟩)
theorem Kj (c:Nat) (hc:c≤8) (w:World):Calls Tryz.prog 158 #[.int .u64 1,.int .u64 c] w fun e w'=>e = .returned (.tuple #[.int .u64 0,.int .u64 c])∧w'=w:=by
 go_enter Tryz.func158,Tryz.ntmps158;go_wp2_with fail
 refine (FW c hc w).mono ?_;rintro e w1 ⟨rfl,rfl⟩;dsimp only;go_wp2
 exact Me (v:=.tuple #[.int .u64 0,.int .u64 c]) (by simp [results,Tryz.results158,go_sem]) rfl ⟨rfl,rfl⟩
theorem qn {P:Program} (w:World) (dT sT ty elem:TypeId) (g o dLen dCap:Nat) (a:Addr) (sLen sCap k m:Nat) (cur:List Value) (t:TypeId) (cs:List Value)
  (hu:P.underlying dT=some (.slice elem)) (hs:(P.info? elem).map (·.size)=some k)
  (hg:w.heap[g]? = some (.cells cur.toArray t (0,0))) (hm:Nat.min sLen dLen=m) (hn:cs.length=m*k)
  (hsrc:∀ j v,cs[j]? = some v→w.cell? (a.add j)=some v) (hfit:o+cs.length≤cur.length) (h1:∀ v ∈ cs,v.oneCell'=true) :
  (Builtin.copy_ #[dT,sT] ty #[.slice (some ⟨g,o,none⟩) dLen dCap,.slice (some a) sLen sCap]).run P w =
   .ok (goInt m) (w.setRow g (splice cur o cs).toArray):=by
 have hl:=run_loadCells_list (P:=P) w a cs hsrc;have hst:=run_storeCells_at P g o t cs 0 cur.toArray w hg (by simpa using hfit) h1;rw [hn] at hl;cases hq:P.info? elem with
 | none=>simp [hq] at hs
 | some i =>
  have hi:i.size=k:=by simpa [hq] using hs
  simp [Builtin.copy_,run_underlying hu,Builtin.lenOf,Builtin.firstCells,sizeOf,typeInfo,hq,hi,hm,hl,hst,splice]
def fC (v:Vl) (n c:Nat):List Value:=bw (List.replicate n v ++ List.replicate (c - n) eD)
theorem vR (v:Vl) (n c:Nat) (h:n≤c):(fC v n c).length=c*3:=by
 unfold fC; rw [cJ]; simp; omega
theorem oG (v:Vl) (n m c:Nat) (h:n+m≤c):splice (fC v n c) (n*3) (bw (List.replicate m v))=fC v (n+m) c:=by
 have e1:fC v n c=bw (List.replicate n v) ++ (bw (List.replicate m eD) ++ bw (List.replicate (c - n - m) eD)):=by
  unfold fC;rw [← bO,← bO,List.replicate_append_replicate,show m+(c - n - m)=c - n by omega]
 have l1:(bw (List.replicate n v)).length=n*3:=by rw [cJ]; simp
 have l2:(bw (List.replicate m v)).length=m*3:=by rw [cJ]; simp
 have l3:(bw (List.replicate m eD)).length=m*3:=by rw [cJ]; simp
 have t1:(fC v n c).take (n*3)=bw (List.replicate n v):=by rw [e1]; exact List.take_left' l1
 have t2:(fC v n c).drop (n*3+m*3)=bw (List.replicate (c - n - m) eD):=by rw [e1,← List.append_assoc]; exact List.drop_left' (by rw [Mw,l1,l3])
 unfold splice;rw [l2,t1,t2];unfold fC;rw [← List.append_assoc,← bO,← bO,List.replicate_append_replicate,show c - n - m=c - (n+m) by omega]
theorem Jn:(Tryz.prog.info? 24).map (·.size)=some 3:=by kernel_rfl
theorem rm {W:World} {g n c:Nat} {v:Vl} (h:W.heap[g]? = some (.cells (fC v n c).toArray 24 (0,0))) {m:Nat} (hm:m≤n):∀ j u,(bw (List.replicate m v))[j]? = some u→W.cell? ((⟨g,0,none⟩:Addr).add j)=some u:=fun j u hj=>by
 rw [gJ,Mq]
 have e:fC v n c=bw (List.replicate m v) ++ bw (List.replicate (n - m) v ++ List.replicate (c - n) eD):=by
  unfold fC;rw [← bO,← List.append_assoc,List.replicate_append_replicate,show m+(n - m)=n by omega]
 have hl:j<(bw (List.replicate m v)).length:=by
  rcases ME j (bw (List.replicate m v)).length with h | h
  ·exact h
  ·rw [MK h] at hj; cases hj
 simp only [World.cell?,h];simp only [Option.isSome_none,Nq,if_false,List.getElem?_toArray];rw [e,Mx hl];exact hj
theorem DR (v:Vl) (c:Nat) (hc:c≤8):fC v 0 c=(madeCells #[.int .i64 0,.int .i64 0,.string ⟨#[]⟩] (c*3)).toList:=by
 have h:c=0∨c=1∨c=2∨c=3∨c=4∨c=5∨c=6∨c=7∨c=8:=by omega
 rcases h with rfl | rfl | rfl | rfl | rfl | rfl | rfl | rfl | rfl <;> simp [fC,bw,madeCells,eD,List.replicate,List.range_succ]
theorem xX {P:Program} {w:World} {o:Oper} {a:Act} {K:Act→World→Prop} {Q:Exit→Act→World→Prop} (d:Option Tmp) (hd:o.dst=d) (s x:Operand) (t:TypeId)
  (ho:o.op = .call { callee:=.builtin .copy,args:=#[s,x],argTypes:=#[t,t] })
  (elem:TypeId) (g off dLen dCap:Nat) (ad:Addr) (sLen sCap k m:Nat) (cur:List Value) (T:TypeId) (cs:List Value)
  (hu:P.underlying t=some (.slice elem)) (hsz:(P.info? elem).map (·.size)=some k)
  (hg:w.heap[g]? = some (.cells cur.toArray T (0,0))) (hm:Nat.min sLen dLen=m) (hn:cs.length=m*k)
  (hsrc:∀ j v,cs[j]? = some v→w.cell? (ad.add j)=some v) (hfit:off+cs.length≤cur.length) (h1:∀ v ∈ cs,v.oneCell'=true)
  (hs:a.eval s = .slice (some ⟨g,off,none⟩) dLen dCap) (hx:a.eval x = .slice (some ad) sLen sCap)
  (h:K (a.put d (goInt m)) (w.setRow g (splice cur off cs).toArray)):o.wp P a w K Q:=by
 subst hd;have hr:=qn (P:=P) w t t o.type elem g off dLen dCap ad sLen sCap k m cur T cs hu hsz hg hm hn hsrc hfit h1;unfold Oper.wp execOp;simp only [ho,resolve,invoke,builtin,Sem.run_bind,Sem.run_pure,Result.andThen_ok,List.map_toArray,Na,NJ,hs,hx,hr];exact h
theorem Hn {W:World} {g c:Nat} {v:Vl} (h:W.heap[g]? = some (.cells (fC v c c).toArray 24 (0,0))) (hc:c≤8):bg W (some ⟨g,0,none⟩) (List.replicate c v)∧gp W (some ⟨g,0,none⟩):=by
 have hlt:=ae h;refine ⟨⟨by simp; unfold maxLen; omega,.inr ⟨g,0,rfl,fun i hi=>?_,hlt⟩⟩,fun b off e=>?_⟩
 ·have hi':i<c:=by simpa using hi
  have hc:=rm h (Mc c);obtain ⟨f0,f1,f2⟩:=lK (List.replicate c v) i hi;have g0:=hc _ _ f0;have g1:=hc _ _ f1;have g2:=hc _ _ f2;rw [gJ] at g0 g1 g2;exact ⟨g0,g1,g2⟩
 ·have e:=MO e;injection e with e1
  subst e1;exact ⟨_,_,h⟩
theorem Bs (B:Nat) (v:Vl) (c:Nat) (hc:c≤8) (w:World) (q0:w.cell? ⟨B,0,none⟩=some (.int .i64 v.1)) (q1:w.cell? ⟨B,1,none⟩=some (.int .i64 v.2.1)) (q2:w.cell? ⟨B,2,none⟩=some (.string v.2.2)) :
  Calls Tryz.prog 124 #[.slice (some ⟨B,0,none⟩) 1 1,.int .i64 c] w fun e w'=>e = .returned (.slice (some ⟨w.heap.size,0,none⟩) c c)∧bg w' (some ⟨w.heap.size,0,none⟩) (List.replicate c v)∧gp w' (some ⟨w.heap.size,0,none⟩)∧Below w.heap.size w w':=by
 obtain ⟨i0,hi,hj0,hj1,hj2⟩:=info_parts DU;have hB:=Mm _ _ q0;go_enter Tryz.func124,Tryz.ntmps124;go_wp2_with fail
 refine (Kj c hc w).mono ?_;rintro e w1 ⟨rfl,rfl⟩;dsimp only;go_wp2_with (first | (at_make; refine wpList_make_full _ rfl _ _ 61 rfl w1.heap.size 24 i0 _ 3 Tryz.underlying61 hi hj0 hj1 .i64 .i64 c c c rfl rfl rfl rfl (by rw [hj2]; omega) (by unfold maxLen; omega) (Mc _) ?_))
 intro w2 hown hgrow;have hb2:Below w1.heap.size w1 w2:=(Md _ _).grown hgrow (Mc _) (by simp);have hrow:w2.heap[w1.heap.size]? = some (.cells (fC v 0 c).toArray 24 (0,0)):=by
  obtain ⟨hx,⟨e,_⟩ | ⟨g,cap,cur,e,_,hh,_,hcs,hs,ht⟩⟩:=hown
  ·cases e
  ·injection e with e1 _ e3
   have e1:=MO e1;injection e1 with e1
   subst e1 e3;have hcl:cur.toList=(madeCells #[.int .i64 0,.int .i64 0,.string ⟨#[]⟩] (c*3)).toList:=by
    rw [← ht]; exact (List.take_of_length_le (by simp [hs])).symm
   have hrp:fC v 0 c=(madeCells #[.int .i64 0,.int .i64 0,.string ⟨#[]⟩] (c*3)).toList:=DR v c hc;rw [hrp,← hcl];exact hh
 clear hown hgrow;have p0:=(hb2.cell (p:=⟨B,0,none⟩) hB).trans q0;have p1:=(hb2.cell (p:=⟨B,1,none⟩) hB).trans q1;have p2:=(hb2.cell (p:=⟨B,2,none⟩) hB).trans q2;obtain ⟨m0,hm0⟩:∃ m,m=Nat.min 1 c:=⟨_,rfl⟩
 have hm1:m0≤1:=by rw [hm0]; exact Nat.min_le_left _ _
 have hm2:m0≤c:=by rw [hm0]; exact Nat.min_le_right _ _
 have hm3:c=0∨m0=1:=by
  rcases Nat.eq_zero_or_pos c with h | h
  ·exact .inl h
  ·exact .inr (by rw [hm0]; exact Nat.min_eq_left h)
 have HM3:=aw hm3;have hrow1:(w2.setRow w1.heap.size (splice (fC v 0 c) (0*3) (bw (List.replicate m0 v))).toArray).heap[w1.heap.size]? = some (.cells (fC v (0+m0) c).toArray 24 (0,0)):=by
  rw [setRow_heap w2 w1.heap.size _ _ _ _ hrow,oG v 0 m0 c (by omega)]
 have hbr:Below w1.heap.size w1 (w2.setRow w1.heap.size (splice (fC v 0 c) (0*3) (bw (List.replicate m0 v))).toArray):=below_setRow hb2 (Mc _) _;have hs1:∀ j u,(bw (List.replicate m0 v))[j]? = some u→w2.cell? ((⟨B,0,none⟩:Addr).add j)=some u:=by
  intro j u hj;have hj':j<(bw (List.replicate m0 v)).length:=by
   rcases ME j (bw (List.replicate m0 v)).length with h | h
   ·exact h
   ·rw [MK h] at hj; cases hj
  have e1:m0=1:=by
   rw [cJ] at hj'; simp at hj'; omega
  rw [e1] at hj;have hj3:j=0∨j=1∨j=2:=by rw [cJ] at hj'; simp at hj'; omega
  rcases hj3 with rfl | rfl | rfl
  ·simp [bw] at hj; subst hj; rw [gJ]; exact p0
  ·simp [bw] at hj; subst hj; rw [gJ]; exact p1
  ·simp [bw] at hj; subst hj; rw [gJ]; exact p2
 have hs2:0*3+(bw (List.replicate m0 v)).length≤(fC v 0 c).length:=by rw [cJ,vR v 0 c (Mj _)]; simp; omega
 have hs3:(bw (List.replicate m0 v)).length=m0*3:=by rw [cJ]; simp
 have hcopy:Sem.run Tryz.prog (Builtin.copy_ #[61,61] 3 #[.slice (some ⟨w1.heap.size,0,none⟩) c c,.slice (some ⟨B,0,none⟩) 1 1]) w2 = .ok (.int .i64 m0) (w2.setRow w1.heap.size (splice (fC v 0 c) (0*3) (bw (List.replicate m0 v))).toArray):=qn w2 _ _ _ 24 w1.heap.size 0 c c ⟨B,0,none⟩ 1 1 3 m0 (fC v 0 c) 24 (bw (List.replicate m0 v)) Tryz.underlying61 Jn hrow hm0.symm hs3 hs1 hs2 (lH _);rw [Mq] at hrow1;clear hrow hm0 hm3 hs1 hs2 hs3;generalize w2.setRow w1.heap.size (splice (fC v 0 c) (0*3) (bw (List.replicate m0 v))).toArray=w3 at *;go_wp2_with fail
 go_loopw [8] (fun s8 wr=>∃ n:Nat,n≤c∧s8 = .int .i64 n∧Hid (c=0∨0<n)∧Hid (wr.heap[w1.heap.size]? = some (.cells (fC v n c).toArray 24 (0,0)))∧Below w1.heap.size w1 wr) (fun s8 _=>c - (intOf s8).toNat)
 case atStart=>exact ⟨m0,hm2,by first | rfl | simp [goInt],by rcases HM3.out with h | h; exact .inl h; exact .inr (by omega),hrow1,hbr⟩
 case round =>
  clear hrow1 hbr;obtain ⟨n,hnc,rfl,HN,HR,hb⟩:=hrel;by_cases hlt:n<c
  ·have hltz:(n:Int)<(c:Int):=by omega
   have hn0:0<n:=by rcases HN.out with h | h; omega; exact h
   obtain ⟨m,hm⟩:∃ m,m=Nat.min n (c - n):=⟨_,rfl⟩
   have hm1:m≤n:=by rw [hm]; exact Nat.min_le_left _ _
   have hm2:m≤c - n:=by rw [hm]; exact Nat.min_le_right _ _
   have hm3:0<m:=by rw [hm]; exact Nat.lt_min.2 ⟨hn0,by omega⟩
   have HM:=aw hm;clear hm;go_wp2_with fail
   have hCC:∀ W W':World,True→Below W.heap.size W W'→True:=fun _ _ _ _=>trivial
   have hdr:Below wr.heap.size wr wr.drew:=(Md _ _).drew;refine aH (fun _=>True) (by kernel_rfl) ?_;refine az hCC 38 0 (.int .i64 n) (fun k hk=>?_) trivial ?_
   ·go_simp
   simp only [pD,pB,pC];refine az hCC 39 1 (.slice (some ⟨w1.heap.size,0,none⟩) c c) (fun k hk=>?_) trivial ?_
   ·go_simp
   simp only [pD,pB,pC];refine az hCC 40 2 (.int .i64 n) (fun k hk=>?_) trivial ?_
   ·go_simp
   simp only [pD,pB,pC];refine az hCC 41 3 (.slice (some ⟨w1.heap.size,n*3,none⟩) (c - n) (c - n)) (fun k hk=>?_) trivial ?_
   ·go_simp;omega
   simp only [pD,pB,pC];refine az hCC 42 4 (.slice (some ⟨w1.heap.size,0,none⟩) c c) (fun k hk=>?_) trivial ?_
   ·go_simp
   simp only [pD,pB,pC];refine az hCC 43 5 (.int .i64 n) (fun k hk=>?_) trivial ?_
   ·go_simp
   simp only [pD,pB,pC];refine az hCC 44 6 (.slice (some ⟨w1.heap.size,0,none⟩) n c) (fun k hk=>?_) trivial ?_
   ·go_simp
   simp only [pD,pB,pC];refine bD 7 ?_;intro w4 hb4
   have D4:=chain hdr hb4;have R4:w4.heap[w1.heap.size]? = some (.cells (fC v n c).toArray 24 (0,0)):=(D4.block _ (ae HR.out)).trans HR.out;have hrow1:(w4.setRow w1.heap.size (splice (fC v n c) (n*3) (bw (List.replicate m v))).toArray).heap[w1.heap.size]? = some (.cells (fC v (n+m) c).toArray 24 (0,0)):=by
    rw [setRow_heap w4 w1.heap.size _ _ _ _ R4,oG v n m c (by omega)]
   have hbr:Below w1.heap.size w1 (w4.setRow w1.heap.size (splice (fC v n c) (n*3) (bw (List.replicate m v))).toArray):=below_setRow (chain hb D4) (Mc _) _;refine wpOp_step rfl (fun K hK=>?_);refine Eq.mpr (if_pos (by kernel_rfl)) ?_;refine xX (some 45) rfl (Operand.tmp 41) (Operand.tmp 44) 61 rfl 24 w1.heap.size (n*3) (c - n) (c - n) ⟨w1.heap.size,0,none⟩ n c 3 m (fC v n c) 24 (bw (List.replicate m v)) Tryz.underlying61 Jn R4 HM.out.symm (by rw [cJ]; simp) (rm R4 hm1) (by rw [cJ,vR v n c hnc]; simp; omega) (lH _) rfl rfl ?_
   refine hK _ _ ⟨trivial,?_⟩;clear hK K R4;generalize w4.setRow w1.heap.size (splice (fC v n c) (n*3) (bw (List.replicate m v))).toArray=w5 at *;simp only [pD,pB,pC];refine az hCC 46 8 (.int .i64 ((n+m:Nat):Int)) (fun k hk=>?_) trivial ?_
   ·go_simp;rw [IntKind.wrap_i64];omega
   simp only [pD,pB,pC];refine az hCC 8 9 (.int .i64 ((n+m:Nat):Int)) (fun k hk=>?_) trivial ?_
   ·go_simp
   simp only [pD,pB,pC];refine bo (by kernel_rfl) ?_;intro w6 hb6;have HR6:Hid (w6.heap[w1.heap.size]? = some (.cells (fC v (n+m) c).toArray 24 (0,0))):=(hb6.block _ (ae hrow1)).trans hrow1;have hB6:=chain hbr hb6;clear hrow1 hbr hb6;go_wp2
   go_roundw
   case rel=>exact ⟨n+m,by omega,by first | rfl | go_num,.inr (by omega),HR6,hB6⟩
   case measure=>simp [intOf]; omega
  ·have e:n=c:=by omega
   subst e;obtain ⟨s1,s2⟩:=Hn HR.out hc;go_wp2
   go_ret;exact ⟨rfl,s1,s2,hb⟩
theorem It (w:World):Calls Tryz.prog 125 #[] w fun e w'=>e = .returned (.agg #[.int .i64 1,.int .i64 0,.string ⟨#[]⟩])∧Below w.heap.size w w':=by
 go_enter Tryz.func125,Tryz.ntmps125;go_wp2
 exact Me (v:=.agg #[.int .i64 1,.int .i64 0,.string ⟨#[]⟩]) (by simp [results,Tryz.results125,go_sem]) rfl ⟨rfl,by first | exact Md _ _ | exact (Md _ _).alloc (Mc _) _⟩
theorem wi.Jx {w:World} {a b:Option Addr} {ca cb:Nat} {l l':List Zp} (h:bc w a l) (n:a=none→ca=0) (h':bc w b l') (n':b=none→cb=0) (T:TypeId):wi (w.alloc (.cells #[.slice a l.length ca,.slice b l'.length cb] T)) w.heap.size l l':=by
 have hal:=aa w (.cells #[.slice a l.length ca,.slice b l'.length cb] T);refine ⟨by simp,fun k hk=>?_⟩
 match k,hk with
 | 0,_=>exact ⟨a,ca,l,by simp,h.next hal,n,by simp [gQ]⟩
 | 1,_=>exact ⟨b,cb,l',by simp,h'.next hal,n',by simp [gQ]⟩
theorem lM (n:Nat) (l:List Zp):(hY n l).length=l.length:=by simp [hY]
theorem xB (a:Option Addr) (ca:Nat) (l:List Zp) (m:Nat) (hm:m≤8) (w:World) (h:bc w a l) (hl:l.length≤400) (h8:∀ y ∈ l,y.1.length+m≤8) :
  Calls Tryz.prog 93 #[.slice a l.length ca,.int .i64 m] w fun e w'=>∃ a' c',e = .returned (.slice a' (hY m l).length c')∧bc w' a' (hY m l)∧(a'=none→c'=0)∧Below w.heap.size w w':=by
 obtain ⟨i0,hi,hz0,hz1,hz2⟩:=info_parts Tryz.gH;rw [lM];go_enter Tryz.func93,Tryz.ntmps93;go_wp2_with fail
 refine (It w).mono ?_;rintro e w1 ⟨rfl,hb1⟩;dsimp only;go_wp2_with fail
 have h2:=aa w1 (.cells #[.int .i64 1,.int .i64 0,.string ⟨#[]⟩] 24);have con:=Bs w1.heap.size (1,0,⟨#[]⟩) m hm (w1.alloc (.cells #[.int .i64 1,.int .i64 0,.string ⟨#[]⟩] 24)) (by simp) (by simp) (by simp);generalize w1.alloc (.cells #[.int .i64 1,.int .i64 0,.string ⟨#[]⟩] 24)=w2 at *;refine con.mono ?_;rintro e w3 ⟨rfl,sn,tn,hb3⟩;clear con;have hA:=chain (chain hb1 h2) hb3;have hnl:(kN m).length=m:=by simp [kN]
 have sn:bg w3 (some ⟨w2.heap.size,0,none⟩) (kN m):=sn;dsimp only;go_wp2_with (first | (at_make; refine wpList_make_full _ rfl _ _ 37 rfl w3.heap.size 63 i0 _ 2 Tryz.underlying37 hi hz0 hz1 .i64 .i64 l.length l.length l.length rfl rfl rfl rfl (by rw [hz2]; omega) (by unfold maxLen; omega) (Mc _) ?_))
 intro w4 hown hgrow;have hb4:Below w3.heap.size w3 w4:=(Md _ _).grown hgrow (Mc _) (by simp);obtain ⟨f,hf⟩:∃ f:Nat→Zp,f=(fun j=>(hY m l).getD j ([],0)):=⟨_,rfl⟩
 have HFn:=aw hf;clear hf;have hB0:uC w4 w3.heap.size l.length f 0:=⟨_,hown,fun j _ hj=>absurd hj (MP _)⟩
 have HNL:=aw hnl;clear hown hgrow hnl;go_wp2_with fail
 go_loopw [18] (fun i wr=>∃ k:Nat,k≤l.length∧i = .int .i64 k∧uC wr w3.heap.size l.length f k∧Below w3.heap.size w3 wr) (fun i _=>l.length - (intOf i).toNat)
 case atStart=>exact ⟨0,Mj _,rfl,hB0,hb4⟩
 case round =>
  clear hB0 hb4;obtain ⟨k,hk,rfl,HB,hb⟩:=hrel;have hz:=hb.size;by_cases hlt:k<l.length
  ·obtain ⟨bb,off,rfl,hbl,c1,ar,cr,c0,sr⟩:=(h.next (chain hA hb)).elem hlt;have hal:=aa wr (.cells #[.slice ar l[k].1.length cr,.int .i64 l[k].2] 63);have q0:=ak wr #[.slice ar l[k].1.length cr,.int .i64 l[k].2] 63;have za:(wr.alloc (.cells #[.slice ar l[k].1.length cr,.int .i64 l[k].2] 63)).heap.size=wr.heap.size+1:=by simp
   have ef:f k=(l[k].1 ++ kN m,l[k].2):=by rw [HFn.out]; simp [hY,List.getD,hlt]
   have EF:=aw ef;have h8k:=h8 l[k] (Mk hlt);have HS:=aw sr;have i0':(0:Int)≤(k:Int):=by omega
   have i1:(k:Int)<(l.length:Int):=by omega
   clear ef sr;go_wp2_with fail
   clear c0 c1;generalize wr.alloc (.cells #[.slice ar l[k].1.length cr,.int .i64 l[k].2] 63)=wk at *;have CELW:∀ W:World,(W.heap[wr.heap.size]? = some (.cells #[.slice ar l[k].1.length cr,.int .i64 l[k].2] 63 (0,0)))=(W.heap[wr.heap.size]? = some (.cells #[.slice ar l[k].1.length cr,.int .i64 l[k].2] 63 (0,0))):=fun _=>rfl
   clear CELW;have hCC:∀ W W':World,W.heap[wr.heap.size]? = some (.cells #[.slice ar l[k].1.length cr,.int .i64 l[k].2] 63 (0,0))→Below W.heap.size W W'→W'.heap[wr.heap.size]? = some (.cells #[.slice ar l[k].1.length cr,.int .i64 l[k].2] 63 (0,0)):=fun W W' h hb=>(hb.block _ (ae h)).trans h
   have hdr:Below wk.heap.size wk wk.drew:=(Md _ _).drew;have CW:wk.drew.heap[wr.heap.size]? = some (.cells #[.slice ar l[k].1.length cr,.int .i64 l[k].2] 63 (0,0)):=hCC _ _ q0 hdr;refine aH (fun W=>W.heap[wr.heap.size]? = some (.cells #[.slice ar l[k].1.length cr,.int .i64 l[k].2] 63 (0,0))) (by kernel_rfl) ?_;refine az hCC 23 0 (.slice (some ⟨w3.heap.size,0,none⟩) l.length l.length) (fun n hn=>?_) CW ?_
   ·go_simp
   simp only [pD,pB,pC];refine az hCC 24 1 (.int .i64 k) (fun n hn=>?_) CW ?_
   ·go_simp
   simp only [pD,pB,pC];refine az hCC 25 2 (.pointer (some ⟨wr.heap.size,0,none⟩)) (fun n hn=>?_) CW ?_
   ·go_simp
   simp only [pD,pB,pC];refine az hCC 26 3 (.slice ar l[k].1.length cr) (fun n hn=>?_) CW ?_
   ·have hcell:n.cell? ⟨wr.heap.size,0,none⟩=some (.slice ar l[k].1.length cr):=cell_of (i:=0) hn rfl;go_simp
   simp only [pD,pB,pC];refine az hCC 27 4 (.slice (some ⟨w2.heap.size,0,none⟩) m m) (fun n hn=>?_) CW ?_
   ·go_simp
   simp only [pD,pB,pC];refine az hCC 30 7 (.pointer (some ⟨wr.heap.size,1,none⟩)) (fun n hn=>?_) CW ?_
   ·go_simp
   simp only [pD,pB,pC];refine az hCC 31 8 (.int .i64 l[k].2) (fun n hn=>?_) CW ?_
   ·have hcell:n.cell? ⟨wr.heap.size,1,none⟩=some (.int .i64 l[k].2):=cell_of (i:=1) hn rfl;go_simp
   simp only [pD,pB,pC];refine bD 5 ?_;intro w5 hb5
   refine wpOp_step rfl (fun K hK=>?_);go_simp;have D5:=chain (chain hal hdr) hb5;have CW5:=hCC _ _ CW hb5;have B5:=chain hb D5;have hal5:=aa w5 (.cells #[.slice ar l[k].1.length cr,.slice (some ⟨w2.heap.size,0,none⟩) m m] 61);have PC:=iQ.new cr m (fA (HS.out.next D5)) (fA (sn.next B5)) 61;rw [HNL.out] at PC;have D6:=chain D5 hal5;have CW6:=hCC _ _ CW5 hal5;refine hK _ _ ⟨CW6,?_⟩;clear hK K hal5 hb5 CW CW5
   generalize w5.alloc (.cells #[.slice ar l[k].1.length cr,.slice (some ⟨w2.heap.size,0,none⟩) m m] 61)=w6 at *;refine bD 6 ?_;intro w7 hb7
   refine wpOp_step rfl (fun K hK=>?_);go_simp;have D7:=chain D6 hb7;have CW7:=hCC _ _ CW6 hb7;refine (kg _ _ _ _ _ w7 (PC.next hb7) (by omega)).mono ?_;rintro e w8 ⟨v8,rfl,O8,hb8⟩;rw [← bO] at O8;obtain ⟨a8,c8,rfl,S8,T8,_⟩:=kG O8 (by rw [Mw,HNL.out]);have D8:=chain D7 hb8;have CW8:=hCC _ _ CW7 hb8;refine hK _ _ ⟨CW8,?_⟩;clear hK K PC O8 CW6 CW7
   refine az hCC 32 9 (.agg #[.slice a8 (l[k].1 ++ kN m).length c8,.int .i64 l[k].2]) (fun n hn=>?_) CW8 ?_
   ·go_simp
   simp only [pD,pB,pC];refine az hCC 33 10 (.pointer (some ⟨w3.heap.size,k*2,none⟩)) (fun n hn=>?_) CW8 ?_
   ·go_simp
   simp only [pD,pB,pC];refine bD 11 ?_;intro w9 hb9
   have D9:=chain D8 hb9;have CW9:=hCC _ _ CW8 hb9;have HB9:=HB.next D9;have S9:=S8.next hb9;have T9:=T8.next hb9;obtain ⟨⟨u0,u1,d0,d1⟩,g0,g1,hlb9⟩:=HB9.cells hlt;have hne:wr.heap.size≠w3.heap.size:=by
    have:=(HB.cells hlt).2.2.2;omega
   refine wpOp_step rfl (fun K hK=>?_);go_simp;have CWS:((w9.setCell ⟨w3.heap.size,k*2,none⟩ (.slice a8 (l[k].1.length+(kN m).length) c8)).setCell ⟨w3.heap.size,k*2+1,none⟩ (.int .i64 l[k].2)).heap[wr.heap.size]? = some (.cells #[.slice ar l[k].1.length cr,.int .i64 l[k].2] 63 (0,0)):=by
    rw [ML _ ⟨w3.heap.size,k*2+1,none⟩ _ _ hne,ML _ ⟨w3.heap.size,k*2,none⟩ _ _ hne];exact CW9
   have MS:=HB9.step hlt (a:=a8) (cap:=c8) (by rw [EF.out]; exact S9) T9;rw [EF.out] at MS;have BS:=((chain hb D9).setCell (p:=⟨w3.heap.size,k*2,none⟩) (Mc _) (.slice a8 (l[k].1 ++ kN m).length c8)).setCell (p:=⟨w3.heap.size,k*2+1,none⟩) (Mc _) (.int .i64 l[k].2);rw [Mw] at MS BS;refine hK _ _ ⟨CWS,?_⟩;clear hK K CW9 CW8 S9 T9 S8 T8 D9 D8 HB9 CWS;generalize (w9.setCell ⟨w3.heap.size,k*2,none⟩ (.slice a8 (l[k].1.length+(kN m).length) c8)).setCell ⟨w3.heap.size,k*2+1,none⟩ (.int .i64 l[k].2)=w10 at *;refine bo (by kernel_rfl) ?_;intro w11 hb11
   have M11:=MS.next hb11;have B11:=chain BS hb11;clear MS BS hb11 HB;go_wp2
   go_roundw
   case rel=>exact ⟨k+1,by omega,by go_num,M11,B11⟩
   case measure=>simp [intOf]; omega
  ·have e:k=l.length:=by omega
   subst e;have zsm:=HB.done (hY m l) (lM m l).symm (fun j hj=>by rw [HFn.out]; simp [List.getD,hj]) (by rw [lM]; omega);have hAe:=chain hA hb;go_wp2
   go_ret;exact ⟨_,_,rfl,zsm,(fun e=>by cases e),hAe⟩
theorem dq.step {af:List Int} {x:Ex} {w0 wp W:World} {a b:Option Addr} {ca cb:Nat} {l r:List Zp} {v:Value} {R rv:Nat} (h:dq af x w0 wp a b ca cb l r v R rv) (hI:di wp R rv W):dq af x w0 W a b ca cb l r v R rv∧di W R rv W:=by
 obtain ⟨lo,wc,hv,u,e,hn,h2,h3,h4,h5,h6,h7,h8⟩:=h;have hr:=hn.r;have hrv:=hn.v;have hb:=hI.below hn;have z:=hI.size;refine ⟨⟨lo,wc,hv,u,e,⟨hr,by omega⟩,h2,(hb.cell (p:=⟨hv,0,none⟩) h2).trans h3,h4,h5,⟨by have:=h6.1; omega,fun k h1 h2'=>?_⟩,h7,h8.trans (hb.mono h7)⟩,⟨rfl,rfl,rfl,Mc _,fun _ _ _ _=>rfl,hI.var,hI.Fa,hI.room⟩⟩;exact (hb.block k (by omega)).trans (h6.2 k h1 h2')
theorem Gr (left right:List Int) (x:Ex) (ra:Option Addr) (rcap:Nat) (rb:Nat) (w0 wp w:World) (a b:Option Addr) (ca cb:Nat) (l r:List Zp) (v:Value) (R rv:Nat) (hP:dq (left ++ right) x w0 wp a b ca cb l r v R rv) (hI:di wp R rv w) (za:bc w0 a l) (zb:bc w0 b r) (hT:qe left right x l r)
  (hrb:w.heap[rb]? = some (.cells #[.slice ra right.length rcap] 42 (0,0))) (hrb0:rb<w0.heap.size) :
  Calls Tryz.prog 91 #[v,.pointer (some ⟨rb,0,none⟩)] w fun e w'=>∃ ua uc,e = .returned (.slice ua (rW x right.length l r).length uc)∧bc w' ua (rW x right.length l r)∧Below w0.heap.size w0 w':=by
 have hq:=ng hT;have hlen:=hT.len;generalize hlz:rW x right.length l r=z;have HLz:=aw hlz;clear hlz;obtain ⟨hP0,hI0⟩:=hP.step hI;have hP':=hP0;obtain ⟨lo,wc,hv,u,rfl,hn,hv0,hc,hC,hcR,hcp,h0,h0p⟩:=hP0;have hrv:=hn.v;have hrr:=hn.r;have h1:=aa w (.cells #[.slice a l.length ca,.slice b r.length cb,.func (.func 185) #[] #[.pointer (some ⟨rv,0,none⟩),.pointer (some ⟨hv,0,none⟩)]] 137)
 have p1:=ak w #[.slice a l.length ca,.slice b r.length cb,.func (.func 185) #[] #[.pointer (some ⟨rv,0,none⟩),.pointer (some ⟨hv,0,none⟩)]] 137;obtain ⟨P1,I1⟩:=hP'.step (hI0.cG hn (Mc _) h1);have r1:=(h1.block rb (ae hrb)).trans hrb;clear hC;go_enter Tryz.func91,Tryz.ntmps91;go_wp2_with fail
 generalize w.alloc (.cells #[.slice a l.length ca,.slice b r.length cb,.func (.func 185) #[] #[.pointer (some ⟨rv,0,none⟩),.pointer (some ⟨hv,0,none⟩)]] 137)=w1 at *
 have hCC:∀ W W':World,(W.heap[w.heap.size]? = some (.cells #[.slice a l.length ca,.slice b r.length cb,.func (.func 185) #[] #[.pointer (some ⟨rv,0,none⟩),.pointer (some ⟨hv,0,none⟩)]] 137 (0,0))∧W.heap[rb]? = some (.cells #[.slice ra right.length rcap] 42 (0,0)))→Below W.heap.size W W'→(W'.heap[w.heap.size]? = some (.cells #[.slice a l.length ca,.slice b r.length cb,.func (.func 185) #[] #[.pointer (some ⟨rv,0,none⟩),.pointer (some ⟨hv,0,none⟩)]] 137 (0,0))∧W'.heap[rb]? = some (.cells #[.slice ra right.length rcap] 42 (0,0))):=fun W W' h hb=>⟨(hb.block _ (ae h.1)).trans h.1,(hb.block _ (ae h.2)).trans h.2⟩
 have hd:Below w1.heap.size w1 w1.drew:=(Md _ _).drew;have CW:w1.drew.heap[w.heap.size]? = some (.cells #[.slice a l.length ca,.slice b r.length cb,.func (.func 185) #[] #[.pointer (some ⟨rv,0,none⟩),.pointer (some ⟨hv,0,none⟩)]] 137 (0,0))∧w1.drew.heap[rb]? = some (.cells #[.slice ra right.length rcap] 42 (0,0)):=hCC _ _ ⟨p1,r1⟩ hd
 refine aH (fun W=>W.heap[w.heap.size]? = some (.cells #[.slice a l.length ca,.slice b r.length cb,.func (.func 185) #[] #[.pointer (some ⟨rv,0,none⟩),.pointer (some ⟨hv,0,none⟩)]] 137 (0,0))∧W.heap[rb]? = some (.cells #[.slice ra right.length rcap] 42 (0,0))) (by kernel_rfl) ?_;refine az hCC 4 0 (.agg #[.slice a l.length ca,.slice b r.length cb,.func (.func 185) #[] #[.pointer (some ⟨rv,0,none⟩),.pointer (some ⟨hv,0,none⟩)]]) (fun n hn=>?_) CW ?_
 ·have hc0:n.cell? ⟨w.heap.size,0,none⟩=some (.slice a l.length ca):=cell_of (i:=0) hn.1 rfl;have hc1:n.cell? ⟨w.heap.size,1,none⟩=some (.slice b r.length cb):=cell_of (i:=1) hn.1 rfl;have hc2:n.cell? ⟨w.heap.size,2,none⟩=some (.func (.func 185) #[] #[.pointer (some ⟨rv,0,none⟩),.pointer (some ⟨hv,0,none⟩)]):=cell_of (i:=2) hn.1 rfl;go_simp
 simp only [pD,pB,pC];refine az hCC 6 2 (.agg #[.slice a l.length ca,.slice b r.length cb,.func (.func 185) #[] #[.pointer (some ⟨rv,0,none⟩),.pointer (some ⟨hv,0,none⟩)]]) (fun n hn=>?_) CW ?_
 ·have hc0:n.cell? ⟨w.heap.size,0,none⟩=some (.slice a l.length ca):=cell_of (i:=0) hn.1 rfl;have hc1:n.cell? ⟨w.heap.size,1,none⟩=some (.slice b r.length cb):=cell_of (i:=1) hn.1 rfl;have hc2:n.cell? ⟨w.heap.size,2,none⟩=some (.func (.func 185) #[] #[.pointer (some ⟨rv,0,none⟩),.pointer (some ⟨hv,0,none⟩)]):=cell_of (i:=2) hn.1 rfl;go_simp
 simp only [pD,pB,pC];refine az hCC 8 4 (.slice ra right.length rcap) (fun n hn=>?_) CW ?_
 ·have hc0:n.cell? ⟨rb,0,none⟩=some (.slice ra right.length rcap):=cell_of (i:=0) hn.2 rfl;go_simp
 simp only [pD,pB,pC];refine az hCC 9 5 (.int .i64 right.length) (fun n hn=>?_) CW ?_
 ·go_simp
 simp only [pD,pB,pC];refine bD 1 ?_;intro w2 hb2
 have D2:=chain hd hb2;have CW2:=hCC _ _ CW hb2;obtain ⟨P2,I2⟩:=P1.step (I1.cG (by obtain ⟨_,_,_,_,_,hn,_⟩:=P1; exact hn) (Mc _) D2);have con:=rU (left ++ right) x w0 w2 w2 a b ca cb l r _ R rv P2 I2 za zb hq;refine wpOp_step rfl (fun K hK=>?_);go_simp;refine con.mono ?_;rintro e w3 ⟨u3,rfl,O3,I3,z3⟩;clear con;obtain ⟨P3,J3⟩:=P2.step I3;have ne1:w.heap.size≠R∧w.heap.size≠rv:=by omega
 have ne2:rb≠R∧rb≠rv:=by omega
 have CW3:w3.heap[w.heap.size]? = some (.cells #[.slice a l.length ca,.slice b r.length cb,.func (.func 185) #[] #[.pointer (some ⟨rv,0,none⟩),.pointer (some ⟨hv,0,none⟩)]] 137 (0,0))∧w3.heap[rb]? = some (.cells #[.slice ra right.length rcap] 42 (0,0)):=⟨(I3.block _ (ae CW2.1) ne1.1 ne1.2).trans CW2.1,(I3.block _ (ae CW2.2) ne2.1 ne2.2).trans CW2.2⟩
 obtain ⟨a3,c3,rfl⟩:=O3.slice;refine hK _ _ ⟨CW3,?_⟩;clear hK K CW CW2 I2 P2 I3;refine bD 3 ?_;intro w4 hb4
 have CW4:=hCC _ _ CW3 hb4;have hn3:ob w3 R rv:=by obtain ⟨_,_,_,_,_,hn,_⟩:=P3; exact hn
 obtain ⟨P4,I4⟩:=P3.step (J3.cG hn3 (Mc _) hb4);have hn4:ob w4 R rv:=by obtain ⟨_,_,_,_,_,hn,_⟩:=P4; exact hn
 have O4:=O3.since (lo:=0) (Mj _) (Since.of hb4);have con:=np (left ++ right) x w0 w4 w4 a b ca cb l r _ R rv P4 I4 za zb hq;refine wpOp_step rfl (fun K hK=>?_);go_simp;refine con.mono ?_;rintro e w5 ⟨u5,rfl,O5,I5,z5⟩;clear con;obtain ⟨P5,J5⟩:=P4.step I5;have hn5:ob w5 R rv:=by obtain ⟨_,_,_,_,_,hn,_⟩:=P5; exact hn
 have CW5:w5.heap[w.heap.size]? = some (.cells #[.slice a l.length ca,.slice b r.length cb,.func (.func 185) #[] #[.pointer (some ⟨rv,0,none⟩),.pointer (some ⟨hv,0,none⟩)]] 137 (0,0))∧w5.heap[rb]? = some (.cells #[.slice ra right.length rcap] 42 (0,0)):=⟨(I5.block _ (ae CW4.1) ne1.1 ne1.2).trans CW4.1,(I5.block _ (ae CW4.2) ne2.1 ne2.2).trans CW4.2⟩
 have S5:Since (rv+1) w4 w5:=⟨I5.size,fun k h1 h2=>I5.block k h2 (by omega) (by omega)⟩
 have O4':=O4.since (lo:=rv+1) (by have:=hI.size; have:=hb2.size; have:=D2.size; have:=h1.size; have:=hn.v; omega) S5;have hE5:Below w0.heap.size w0 w5:=by obtain ⟨_,_,_,_,_,_,_,_,_,_,_,_,hB⟩:=P5; exact hB
 obtain ⟨a5,c5,rfl,zs5,_⟩:=O5.zs hE5;refine hK _ _ ⟨CW5,?_⟩;clear hK K CW3 CW4 I4 P4 I5 O5 O4;refine bD 6 ?_;intro w6 hb6
 have CW6:=hCC _ _ CW5 hb6;have O6:=O4'.since (lo:=0) (Mj _) (Since.of hb6);have al:(gC x l r).length≤l.length:=M5 _ _;have con:=xB a5 c5 (gC x l r) right.length (by omega) w6 (zs5.next hb6) (by have:=hq.ll; omega) (fun y hy=>by
  have:=(hT.left.fit y (List.mem_filter.1 hy).1).len;omega)
 refine wpOp_step rfl (fun K hK=>?_);go_simp;refine con.mono ?_;rintro e w7 ⟨a7,c7,rfl,zs7,n7,hb7⟩;clear con;have CW7:=hCC _ _ CW6 hb7;have O7:=O6.since (lo:=0) (Mj _) (Since.of hb7);have D7:=chain hb6 hb7;refine hK _ _ ⟨CW7,?_⟩;clear hK K CW5 CW6 O6 O4';refine bD 7 ?_;intro w8 hb8
 refine wpOp_step rfl (fun K hK=>?_);go_simp;have O8:=O7.since (lo:=0) (Mj _) (Since.of hb8);have zs8:=zs7.next hb8;obtain ⟨aj,cj,ej,zj,nj⟩:=O8.z.KH;injection ej with ej1 _ ej3
 subst ej1 ej3;have hal:=aa w8 (.cells #[.slice a3 (bX x l r).length c3,.slice a7 (hY right.length (gC x l r)).length c7] 37);have PR:=wi.Jx zj nj zs8 n7 37;have D9:=chain (chain D7 hb8) hal;have CW9:=hCC _ _ (hCC _ _ CW7 hb8) hal;refine hK _ _ ⟨CW9,?_⟩;clear hK K CW7 O7 O8;generalize w8.alloc (.cells #[.slice a3 (bX x l r).length c3,.slice a7 (hY right.length (gC x l r)).length c7] 37)=w9 at *;refine bD 8 ?_;intro w10 hb10
 have jl:=(AT hT).1;have wl:(hY right.length (gC x l r)).length≤400:=by rw [lM]; have:=hq.ll; omega
 have con:=sI w8.heap.size (bX x l r) (hY right.length (gC x l r)) w10 (PR.next hb10) (by omega);refine wpOp_step rfl (fun K hK=>?_);go_simp;refine con.mono ?_;rintro e w11 ⟨a11,c11,rfl,zs11,n11,hb11⟩;clear con;have CW11:=hCC _ _ (hCC _ _ CW9 hb10) hb11;have hE11:=chain hE5 (chain (chain D9 hb10) hb11);refine hK _ _ ⟨CW11,?_⟩;clear hK K CW9;refine az hCC 3 9 (.slice a11 (bX x l r ++ hY right.length (gC x l r)).length c11) (fun n hn=>?_) CW11 ?_
 ·go_simp
 simp only [pD,pB,pC];refine bo (by kernel_rfl) ?_;intro w12 hb12;have zs12:=zs11.next hb12;have hE12:=chain hE11 hb12;have hl2:bX x l r ++ hY right.length (gC x l r)=z:=HLz.out;rw [hl2] at zs12 ⊢;clear zs11 CW11 hl2;go_wp2
 go_ret
 first | exact ⟨_,_,rfl,zs12,hE12⟩ | exact ⟨_,⟨_,rfl⟩,zs12,hE12⟩
theorem left_at (left right:List Int) (x:Ex) (la:Option Addr) (lcap:Nat) (ra:Option Addr) (rcap:Nat) (xa:Option Addr) (xcap:Nat) (a:Option Addr) (ca:Nat) (l:List Zp) (b:Option Addr) (cb:Nat) (r:List Zp) (w:World)
  (hcl:bG w.heap.size w la left) (hcr:bG w.heap.size w ra right) (hx:aX w.heap.size w xa x.ks) (h:bc w a l) (h':bc w b r) (hll:left.length≤100000000000000) (hrl:right.length≤100000000000000) :
  Calls Tryz.prog 57 #[.slice la left.length lcap,.slice ra right.length rcap,iU x.k x.v x.c xa x.ks.length xcap,.slice a l.length ca,.slice b r.length cb] w fun e w'=>∃ v,e = .returned (.tuple #[v,.int .i64 (cL 3 left right x l r)])∧dH w.heap.size w' v (ed 3 left right x l r)∧Below w.heap.size w w':=by
 have h1:=aa w (.cells #[.slice ra right.length rcap] 42);have q1:=ak w #[.slice ra right.length rcap] 42;have c1:(w.alloc (.cells #[.slice ra right.length rcap] 42)).cell? ⟨w.heap.size,0,none⟩=some (.slice ra right.length rcap):=by simp
 have e1:(w.alloc (.cells #[.slice ra right.length rcap] 42)).heap.size=w.heap.size+1:=by simp
 generalize hfz:ed 3 left right x l r=fz;generalize hfe:cL 3 left right x l r=fe;have HZ:=aw hfz;have HE:=aw hfe;clear hfz hfe;go_enter Tryz.func57,Tryz.ntmps57;go_wp2_with fail
 generalize w.alloc (.cells #[.slice ra right.length rcap] 42)=w0 at *;have h2:=aa w0 (.cells (fS x xa xcap) 27);have q2:=(h2.block w.heap.size (by omega)).trans q1;have c2:=(h2.cell (p:=⟨w.heap.size,0,none⟩) (by show w.heap.size<_; omega)).trans c1;have e2:(w0.alloc (.cells (fS x xa xcap) 27)).heap.size=w0.heap.size+1:=by simp
 have hA:=chain h1 h2;generalize w0.alloc (.cells (fS x xa xcap) 27)=w1 at *;have zs1:=h.next hA;have zs1':=h'.next hA;have con:=j9 3 91 #[.pointer (some ⟨w.heap.size,0,none⟩)] left right x la lcap ra rcap xa xcap a ca l b cb r w1 ((hcl.next hA (Mc _)).up hA.size) ((hcr.next hA (Mc _)).up hA.size) ((aX.next hA (Mc _) hx).up hA.size) zs1 zs1' hll hrl (enters_of Tryz.func91 (by kernel_rfl) rfl) (fun W v R rv hP hI hT=>by
  have hBW:Below w1.heap.size w1 W:=by obtain ⟨_,_,_,_,_,_,_,_,_,_,_,_,hB⟩:=hP; exact hB
  have:=Gr left right x ra rcap w.heap.size w1 W W a b ca cb l r v R rv hP hI zs1 zs1' hT ((hBW.block _ (by omega)).trans q2) (by omega);exact this)
 rw [HZ.out,HE.out] at con;go_wp2_with fail
 refine con.mono ?_;rintro e w2 ⟨v2,rfl,O2,hb2⟩;have O2':=O2.mono hA.size;obtain ⟨a2,c2',rfl,_⟩:=O2.zs;clear con O2;dsimp only;go_wp2
 exact Me (v:=.tuple #[.slice a2 fz.length c2',.int .i64 fe]) (by simp [results,Tryz.results57,go_sem]) rfl ⟨_,rfl,O2',chain hA hb2⟩
theorem C7 (ts:List (List Int)) (B lo:Nat) (p k0 k1:Pl) (q:Pw) (ca:Option Addr) (n cc:Nat) (na:Option Addr) (nc:Nat) (z:List Zp) (za:Option Addr) (zc:Nat) (y:List Zp) (ya:Option Addr) (yc:Nat) (w:World) (hB:B≤w.heap.size) (hN:qL ts B lo w na p.ks) (hp:oh B w p q) (hks:p.ks = [k0,k1]) (g0:(ag ts k0).length≤8) (g1:(ag ts k1).length≤8) (hz:bc w za z) (hy:bc w ya y) (hn:za=none→zc=0) :
  Calls Tryz.prog 32 #[mZ p q ca n cc na nc,.slice za z.length zc,.slice ya y.length yc] w fun e w'=>∃ v,e = .returned (.tuple #[v,.int .i64 (bP [] p.k p.n p.x p.xs p.gs [ag ts k0,ag ts k1] [z,y]).1])∧dH w.heap.size w' v (bP [] p.k p.n p.x p.xs p.gs [ag ts k0,ag ts k1] [z,y]).2∧Below w.heap.size w w':=by
 have hl0:p.ks.length=2:=by rw [hks]; rfl
 rw [hks] at hN;obtain ⟨b,off,q0,c1,cc1,n1,nc1,rfl,hbl,hbt,_,d11,_,ND⟩:=hN.elem (i:=0) (by simp);obtain ⟨b',off',q1,c2,cc2,n2,nc2,eb,_,_,_,d24,_,ND1⟩:=hN.elem (i:=1) (by simp);have eb:=MO eb;injection eb with eb1 eb2
 subst eb1 eb2;simp only [Nv,Nat.one_mul,Ng,Nc,Nw] at d11 ND d24 ND1;have I1:=ND.af;have I2:=ND1.af;have lz1:(1:Int)<(p.ks.length:Int):=by omega
 have lz:0<p.ks.length:=by omega
 have hA:=aa w (.cells (l7 p q ca n cc (some ⟨b,off,none⟩) p.ks.length nc) 56);have Q:=ak w (l7 p q ca n cc (some ⟨b,off,none⟩) p.ks.length nc) 56;have d11A:=(hA.cell (p:=⟨b,off+11,none⟩) hbl).trans d11;generalize hR:bP [] p.k p.n p.x p.xs p.gs [ag ts k0,ag ts k1] [z,y]=R;have HR:=aw hR;have d24A:=(hA.cell (p:=⟨b,off+13+11,none⟩) hbl).trans d24;clear hR hN ND ND1 hks hl0;obtain ⟨re,rz⟩:=R;dsimp only;unfold mZ;go_enter Tryz.func32,Tryz.ntmps32
 go_wp2_with fail
 generalize w.alloc (.cells (l7 p q ca n cc (some ⟨b,off,none⟩) p.ks.length nc) 56)=wA at *;have x0:=cell_of (i:=0) Q rfl;have x1:=cell_of (i:=1) Q rfl;have x2:=cell_of (i:=2) Q rfl;have x3:=cell_of (i:=3) Q rfl;have x4:=cell_of (i:=4) Q rfl;have x5:=cell_of (i:=5) Q rfl;have x6:=cell_of (i:=6) Q rfl;have x7:=cell_of (i:=7) Q rfl;have x8:=cell_of (i:=8) Q rfl;have x9:=cell_of (i:=9) Q rfl;have x10:=cell_of (i:=10) Q rfl;have x11:=cell_of (i:=11) Q rfl;have x12:=cell_of (i:=12) Q rfl;have lA:=ae Q;have lb:=Mh hbl hA.size;go_region
 have hd:Below (wA.alloc (.cells (dS p q) 31)).heap.size (wA.alloc (.cells (dS p q) 31)) (wA.alloc (.cells (dS p q) 31)).drew:=(Md _ _).drew;have hal:=aa wA (.cells (dS p q) 31);have E0:=iA.new wA p q 31;have zA:wA.heap.size<(wA.alloc (.cells (dS p q) 31)).heap.size:=by simp
 have hAd:=chain hA (chain hal hd);have E1:=E0.next hd zA;clear x0 x1 x2 x3 x4 x5 x6 x7 x8 x9 x10 x11 x12 Q d11A d24A E0;generalize (wA.alloc (.cells (dS p q) 31)).drew=wB at *;have hpB:=(hp.next hAd hB).up (Mr hB hAd.size);have hcB:=(I1.low hAd hB).at;have hdB:=(I2.low hAd hB).at;have hyB:=hy.next hAd;have hzB:=hz.next hAd;obtain ⟨y0,y1,⟨y2,y3,y4,y5,y6,y7⟩,y8,y9,y10⟩:=E1;simp only [Mq] at y1 y2 y3 y4 y5 y6 y7 y8 y9 y10;clear hd hal zA lA lb;by_cases k4:p.k=4;have kb:(p.k == 4)=true:=by simpa using k4
 have e1:re=cL 0 (ag ts k0) (ag ts k1) p.x z y:=by have h:=congrArg Prod.fst HR.out; simp [bP,k4] at h; exact h.symm
 have e2:rz=ed 0 (ag ts k0) (ag ts k1) p.x z y:=by have h:=congrArg Prod.snd HR.out; simp [bP,k4] at h; exact h.symm
 have con:=Ao (ag ts k0) (ag ts k1) p.x c1 cc1 c2 cc2 q.xa q.xc za zc z ya yc y wB hcB hdB hpB.x hzB hyB (by omega) (by omega);rw [← e1,← e2] at con;unfold iU at con;clear e1 e2 HR k4;rotate_left;have b4:(p.k == 4)=false:=by rw [beq_eq_false_iff_ne]; exact k4
 by_cases k5:p.k=5;have kb:(p.k == 5)=true:=by simpa using k5
 have e1:re=cL 1 (ag ts k0) (ag ts k1) p.x z y:=by have h:=congrArg Prod.fst HR.out; simp [bP,k5] at h; exact h.symm
 have e2:rz=ed 1 (ag ts k0) (ag ts k1) p.x z y:=by have h:=congrArg Prod.snd HR.out; simp [bP,k5] at h; exact h.symm
 have con:=Hm (ag ts k0) (ag ts k1) p.x c1 cc1 c2 cc2 q.xa q.xc za zc z ya yc y wB hcB hdB hpB.x hzB hyB (by omega) (by omega);rw [← e1,← e2] at con;unfold iU at con;clear e1 e2 HR k4 k5;rotate_left;have b5:(p.k == 5)=false:=by rw [beq_eq_false_iff_ne]; exact k5
 by_cases k6:p.k=6;have kb:(p.k == 6)=true:=by simpa using k6
 have e1:re=cL 2 (ag ts k0) (ag ts k1) p.x z y:=by have h:=congrArg Prod.fst HR.out; simp [bP,k6] at h; exact h.symm
 have e2:rz=ed 2 (ag ts k0) (ag ts k1) p.x z y:=by have h:=congrArg Prod.snd HR.out; simp [bP,k6] at h; exact h.symm
 have con:=H7 (ag ts k0) (ag ts k1) p.x c1 cc1 c2 cc2 q.xa q.xc za zc z ya yc y wB hcB hdB hpB.x hzB hyB (by omega) (by omega);rw [← e1,← e2] at con;unfold iU at con;clear e1 e2 HR k4 k5 k6;rotate_left;have b6:(p.k == 6)=false:=by rw [beq_eq_false_iff_ne]; exact k6
 by_cases k7:p.k=7;have kb:(p.k == 7)=true:=by simpa using k7
 have e1:re=cL 3 (ag ts k0) (ag ts k1) p.x z y:=by have h:=congrArg Prod.fst HR.out; simp [bP,k7] at h; exact h.symm
 have e2:rz=ed 3 (ag ts k0) (ag ts k1) p.x z y:=by have h:=congrArg Prod.snd HR.out; simp [bP,k7] at h; exact h.symm
 have con:=left_at (ag ts k0) (ag ts k1) p.x c1 cc1 c2 cc2 q.xa q.xc za zc z ya yc y wB hcB hdB hpB.x hzB hyB (by omega) (by omega);rw [← e1,← e2] at con;unfold iU at con;clear e1 e2 HR k4 k5 k6 k7;rotate_left;have b7:(p.k == 7)=false:=by rw [beq_eq_false_iff_ne]; exact k7
 by_cases k8:p.k=8;have kb:(p.k == 8)=true:=by simpa using k8
 have e1:re=fl 1 z y:=by have h:=congrArg Prod.fst HR.out; simp [bP,k8] at h; exact h.symm
 have e2:rz=eF 1 z y:=by have h:=congrArg Prod.snd HR.out; simp [bP,k8] at h; exact h.symm
 have con:=JU za ya zc yc z y wB hzB hyB hn;rw [← e1,← e2] at con;clear e1 e2 HR k4 k5 k6 k7 k8;rotate_left;have b8:(p.k == 8)=false:=by rw [beq_eq_false_iff_ne]; exact k8
 have e1:re=fl (-1) z y:=by have h:=congrArg Prod.fst HR.out; simp [bP,k4,k5,k6,k7,k8] at h; exact h.symm
 have e2:rz=eF (-1) z y:=by have h:=congrArg Prod.snd HR.out; simp [bP,k4,k5,k6,k7,k8] at h; exact h.symm
 have con:=JL za ya zc yc z y wB hzB hyB hn;rw [← e1,← e2] at con;clear e1 e2 HR k4 k5 k6 k7 k8;go_wp2_with fail
 refine con.mono ?_;rintro e w5 ⟨v5,rfl,O5,hb5⟩;clear con y0 y1 y2 y3 y4 y5 y6 y7 y8 y9 y10;have O5':=O5.mono hAd.size;dsimp only;go_wp2_with fail
 exact Me (v:=.tuple #[v5,.int .i64 re]) (by simp [results,Tryz.results32,go_sem]) rfl ⟨_,rfl,O5',chain hAd hb5⟩
 all_goals
  go_wp2_with fail
  refine con.mono ?_;rintro e w5 ⟨v5,rfl,O5,hb5⟩;clear con y0 y1 y2 y3 y4 y5 y6 y7 y8 y9 y10;have O5':=O5.mono hAd.size;dsimp only;go_wp2_with fail
  exact Me (v:=.tuple #[v5,.int .i64 re]) (by simp [results,Tryz.results32,go_sem]) rfl ⟨_,rfl,O5',chain hAd hb5⟩
theorem Bq {n:Nat} (h:n≤2) (w:World):(Instr.makeSlice 32 (.int .i64 n) (.int .i64 n)).run Tryz.prog w = .ok (.slice (some ⟨w.heap.size,0,none⟩) n n) (w.alloc (.cells (Array.replicate n (.slice none 0 0)) 37)):=by
 obtain rfl | rfl | rfl:n=0∨n=1∨n=2:=by omega
 all_goals kernel_rfl
theorem GV {W w1:World} {base e size n g:Nat} {v:Value} {xs:List Value} (h:W.ownsRow base e size v n xs) (hb:aP g W w1) (hg:g<base):w1.ownsRow base e size v n xs:=by
 obtain ⟨h0,⟨h1,h2⟩ | ⟨k,cap,cur,h1,h2,h3,h4⟩⟩:=h
 ·exact ⟨h0,.inl ⟨h1,h2⟩⟩
 ·exact ⟨h0,.inr ⟨k,cap,cur,h1,h2,(hb.2 k (ae h3) (by omega)).trans h3,h4⟩⟩
theorem JP {W w1:World} {g:Nat} {c:Array Value} {T:TypeId} {y:Nat × Nat} (hq:W.heap[g]? = some (.cells c T y)) (hT:T≠24) (hb:aP g W w1) {a:Option Addr} {r:List Vl} (h:bg W a r) (ht:gp W a):bg w1 a r∧gp w1 a:=by
 have key:∀ b off,a=some ⟨b,off,none⟩→w1.heap[b]? = W.heap[b]?:=by
  intro b off e;obtain ⟨c',z,h1⟩:=ht b off e;refine hb.2 b (ae h1) ?_;intro e';subst e';rw [hq] at h1;have:=MO h1;injection this with _ e2
  exact hT e2
 refine ⟨⟨h.1,?_⟩,?_⟩
 ·rcases h.2 with h | ⟨b,off,e,hr,hlt⟩
  ·exact .inl h
  ·refine .inr ⟨b,off,e,fun i hi=>?_,Mh hlt hb.size⟩;have k:=key b off e;obtain ⟨c0,c1,c2⟩:=hr i hi;exact ⟨(Mv (a:=⟨b,_,none⟩) k).trans c0,(Mv (a:=⟨b,_,none⟩) k).trans c1,(Mv (a:=⟨b,_,none⟩) k).trans c2⟩
 ·intro b off e;obtain ⟨c',z,h1⟩:=ht b off e;exact ⟨c',z,(key b off e).trans h1⟩
theorem dH.GN {W w1:World} {base g:Nat} {v:Value} {l:List Zp} {c:Array Value} {T:TypeId} {y:Nat × Nat} (h:dH base W v l) (hq:W.heap[g]? = some (.cells c T y)) (hT:T≠24) (hb:aP g W w1) (hg:g<base):dH base w1 v l:=by
 obtain ⟨xs,h1,h2,h3⟩:=h;refine ⟨xs,GV h1 hb hg,h2,fun i hi=>?_⟩;obtain ⟨a,cap,e0,e1,e2,e3⟩:=h3 i hi;have:=JP hq hT hb e2 e3;exact ⟨a,cap,e0,e1,this.1,this.2⟩
structure DP (W:World) (g n:Nat) (zs:List (List Zp)):Prop where
 ty:∃ c y,W.heap[g]? = some (.cells c 37 y)
 room:∀ o,o<n→∃ u,W.cell? ⟨g,o,none⟩=some u
 fz:∀ o,W.frozen? ⟨g,o,none⟩=false
 laid:∀ (i:Nat) (h:i<zs.length),∃ v base,g<base∧W.cell? ⟨g,i,none⟩=some v∧dH base W v zs[i]
theorem DP.lt {W:World} {g n:Nat} {zs:List (List Zp)} (h:DP W g n zs):g<W.heap.size:=by obtain ⟨_,_,h⟩:=h.ty; exact ae h
theorem DP.new (w:World) (n:Nat):DP (w.alloc (.cells (Array.replicate n (.slice none 0 0)) 37)) w.heap.size n []:=by
 have q:=ak w (Array.replicate n (.slice none 0 0)) 37;exact ⟨⟨_,_,q⟩,fun o ho=>⟨.slice none 0 0,cell_of (i:=o) q (by simp [ho])⟩,fun o=>Mg _ w.heap.size o _ _ q,fun i hi=>by cases hi⟩
theorem DP.next {W w1:World} {g n:Nat} {zs:List (List Zp)} (h:DP W g n zs) (hb:Below W.heap.size W w1):DP w1 g n zs:=by
 have hl:=h.lt;refine ⟨?_,fun o ho=>?_,fun o=>(hb.frozen (p:=⟨g,o,none⟩) hl).trans (h.fz o),fun i hi=>?_⟩
 ·obtain ⟨c,y,q⟩:=h.ty;exact ⟨c,y,(hb.block _ hl).trans q⟩
 ·obtain ⟨u,hu⟩:=h.room o ho;exact ⟨u,(hb.cell (p:=⟨g,o,none⟩) hl).trans hu⟩
 ·obtain ⟨v,base,h1,h2,h3⟩:=h.laid i hi;exact ⟨v,base,h1,(hb.cell (p:=⟨g,i,none⟩) hl).trans h2,h3.next hb⟩
theorem DP.store {W:World} {g n base:Nat} {zs:List (List Zp)} (h:DP W g n zs) (hn:zs.length<n) {v:Value} {z:List Zp} (hv:dH base W v z) (hg:g<base):DP (W.setCell ⟨g,zs.length,none⟩ v) g n (zs ++ [z]):=by
 obtain ⟨c,y,q⟩:=h.ty;have X:=(aP.refl g W).set zs.length v;have hT:37≠24:=by decide
 refine ⟨?_,fun o ho=>?_,fun o=>by rw [MQ]; exact h.fz o,fun i hi=>?_⟩
 ·have hlt:=ae q;have q':W.heap[g] = .cells c 37 y:=by simpa [MX hlt] using q
  refine ⟨c.setIfInBounds zs.length v,y,?_⟩;show (W.heap.modify g _)[g]? = _;rw [MX (by simpa using hlt),Array.getElem_modify_self,q'];rfl
 ·by_cases e:o=zs.length
  ·subst e;obtain ⟨u,hu⟩:=h.room zs.length hn;exact ⟨v,Nd _ _ _ hu⟩
  ·obtain ⟨u,hu⟩:=h.room o ho;exact ⟨u,by rw [Mn _ _ _ _ (by intro e'; injection e' with _ e'; exact e e'.symm)]; exact hu⟩
 ·by_cases e:i<zs.length
  ·obtain ⟨v',base',h1,h2,h3⟩:=h.laid i e;rw [Mz e];exact ⟨v',base',h1,by rw [Mn _ _ _ _ (by intro e'; injection e' with _ e'; omega)]; exact h2,h3.GN q hT X h1⟩
  ·have e:i=zs.length:=by simp at hi; omega
   subst e;obtain ⟨u,hu⟩:=h.room zs.length hn;exact ⟨v,base,hg,Nd _ _ _ hu,by simpa using hv.GN q hT X hg⟩
def zy (ts:List (List Int)) (data:List (List Zp)) (p:Pl):Prop :=
 ∀ (B lo:Nat) (q:Pw) (ca:Option Addr) (cc:Nat) (na:Option Addr) (nc:Nat) (da:Option Addr) (dc:Nat) (m d:Int) (w:World),(aV ts p m d).1=0→Bm ts B lo w p q ca na→B≤w.heap.size→rk w da data→dx p →
  Calls Tryz.prog 17 #[mZ p q ca (ag ts p).length cc na nc,.slice da data.length dc] w fun e w'=>∃ v,e = .returned (.tuple #[v,.int .i64 (bu ts data p).1])∧dH w.heap.size w' v (bu ts data p).2∧Below w.heap.size w w'
theorem eval_at (ts:List (List Int)) (hts:gf ts=0) (data:List (List Zp)) (hD:Lp ts data) (p:Pl) (ih:∀ r ∈ p.ks,zy ts data r):zy ts data p:=by
 intro B lo q ca cc na nc da dc m d w hlk hN hB hdt hok;obtain ⟨hq,hks,hne⟩:dX p.k p.ks.length (m+1) d=0∧(aS ts p.ks (m+1) (d+1)).1=0∧eI ts p.k p.n p.x p.xs p.gs (p.ks.map (ag ts))=0:=by
  cases p;obtain ⟨h1,h2,h3,_⟩:=dR hlk;rw [bB] at h3;exact ⟨h1,h2,h3⟩
 obtain ⟨hln,_,_,_,_⟩:=fJ hq;have hl2:p.ks.length≤2:=by rw [hln]; exact kV _
 have HLk:Hid (∀ r ∈ p.ks,∃ m',(aV ts r m' (d+1)).1=0):=fL hks;have HNe:=aw hne;have HTs:=aw hts;have HD:=aw hD;have HK:=aw hok;have IH:=aw ih;generalize hr:bu ts data p=r;have HR:=aw hr;obtain ⟨re,rz⟩:=r;dsimp only;clear hr hts hD hok ih hks hne hq hln hlk;have hA:=aa w (.cells (l7 p q ca (ag ts p).length cc na p.ks.length nc) 56)
 have Q:=ak w (l7 p q ca (ag ts p).length cc na p.ks.length nc) 56;have hmk:=Bq hl2;have q12:=cell_of (i:=12) Q rfl;have lA:=ae Q;unfold mZ;go_enter Tryz.func17,Tryz.ntmps17;go_upto_region 1 with fail
 generalize w.alloc (.cells (l7 p q ca (ag ts p).length cc na p.ks.length nc) 56)=wA at *;go_wp2_with fail
 have hal1:=aa wA (.cells (Array.replicate p.ks.length (.slice none 0 0)) 37);have S0:=DP.new wA p.ks.length;have Q1:=(hal1.block _ lA).trans Q;have hA1:=chain hA hal1;clear hmk q12 Q hal1;generalize wA.alloc (.cells (Array.replicate p.ks.length (.slice none 0 0)) 37)=w1 at *;generalize hg:wA.heap.size=g at *;clear hg
 go_loopw [18] (fun i wr=>∃ j:Nat,j≤p.ks.length∧i = .int .i64 j∧Hid (∀ i (hi:i<p.ks.length),i<j→(bu ts data p.ks[i]).1=0)∧DP wr g p.ks.length ((p.ks.take j).map fun r=>(bu ts data r).2)∧wr.heap[w.heap.size]? = some (.cells (l7 p q ca (ag ts p).length cc na p.ks.length nc) 56 (0,0))∧Below w.heap.size w wr) (fun i _=>p.ks.length - (intOf i).toNat)
 case atStart=>exact ⟨0,Mj _,rfl,(fun i _ h=>absurd h (MP _)),by simpa using S0,Q1,hA1⟩
 case round =>
  obtain ⟨j,hj,rfl,HZ,hS,QN,hb⟩:=hrel;clear S0 Q1 hA1;by_cases hlt:j<p.ks.length
  ·obtain ⟨b,off,q1,ca1,cc1,na1,nc1,rfl,hbl,_,EL,e11,e12,ND⟩:=(qL.next (Kept.of hb hB) hN.kids).elem hlt;obtain ⟨y0,y1,⟨y2,y3,y4,y5,y6,y7⟩,y8,y9,y10⟩:=EL;have hjz:(j:Int)<(p.ks.length:Int):=by omega
   have hz:=hb.size;have hgl:=hS.lt;have hal:=aa wr (.cells (l7 p.ks[j] q1 ca1 (ag ts p.ks[j]).length cc1 na1 p.ks[j].ks.length nc1) 56)
   have Qk:=ak wr (l7 p.ks[j] q1 ca1 (ag ts p.ks[j]).length cc1 na1 p.ks[j].ks.length nc1) 56
   have zk:(wr.alloc (.cells (l7 p.ks[j] q1 ca1 (ag ts p.ks[j]).length cc1 na1 p.ks[j].ks.length nc1) 56)).heap.size=wr.heap.size+1:=by simp
   obtain ⟨m',hm'⟩:=HLk.out p.ks[j] (Mk hlt);have con:=IH.out p.ks[j] (Mk hlt) B lo q1 ca1 cc1 na1 nc1 da dc m' (d+1) _ hm' (ND.next (Kept.of hal (by omega))) (by omega) ((hdt.next hb).next hal) (HK.out.ks _ (Mk hlt));unfold mZ at con;clear hm' ND;go_upto_region 5 with fail
   clear y0 y1 y2 y3 y4 y5 y6 y7 y8 y9 y10 e11 e12;generalize wr.alloc (.cells (l7 p.ks[j] q1 ca1 (ag ts p.ks[j]).length cc1 na1 p.ks[j].ks.length nc1) 56)=wk at *;have z0:=cell_of (i:=0) Qk rfl;have z1:=cell_of (i:=1) Qk rfl;have z2:=cell_of (i:=2) Qk rfl
   have z3:=cell_of (i:=3) Qk rfl;have z4:=cell_of (i:=4) Qk rfl;have z5:=cell_of (i:=5) Qk rfl;have z6:=cell_of (i:=6) Qk rfl;have z7:=cell_of (i:=7) Qk rfl;have z8:=cell_of (i:=8) Qk rfl;have z9:=cell_of (i:=9) Qk rfl;have z10:=cell_of (i:=10) Qk rfl;have z11:=cell_of (i:=11) Qk rfl;have z12:=cell_of (i:=12) Qk rfl;go_wp2_with fail
   refine con.mono ?_;rintro e w5 ⟨v5,rfl,O5,hb5⟩;clear con z0 z1 z2 z3 z4 z5 z6 z7 z8 z9 z10 z11 z12 Qk;obtain ⟨a5,c5,ev,_,_⟩:=O5.KH;subst ev;have hb5':=chain hal hb5;have hA5:=chain hb hb5';have QN5:=(hb5'.block _ (ae QN)).trans QN;have S5:=hS.next hb5';have hlen:((p.ks.take j).map fun r=>(bu ts data r).2).length=j:=by rw [MA,MH]; omega
   have HTk:Hid (((p.ks.take (j+1)).map fun r=>(bu ts data r).2)=((p.ks.take j).map fun r=>(bu ts data r).2) ++ [(bu ts data p.ks[j]).2]):=by
    show _=_;rw [Mp hlt,M7];rfl
   have S6:=S5.store (by rw [hlen]; exact hlt) O5 (by omega);rw [hlen,← HTk.out] at S6;obtain ⟨u5,r5⟩:=S5.room j hlt;have f5:=S5.fz j;have HBad:Hid (¬ (bu ts data p.ks[j]).1=0→(re,rz)=((bu ts data p.ks[j]).1,[])):=fun c=>HR.out.symm.trans (sF (mo hlt HZ.out c) c)
   have HZ':Hid ((bu ts data p.ks[j]).1=0→∀ i (hi:i<p.ks.length),i<j+1→(bu ts data p.ks[i]).1=0):=fun c i hi h=>by
    by_cases e:i=j
    ·subst e; exact c
    ·exact HZ.out i hi (by omega)
   clear hS QN O5 S5 hlen HTk HZ hal hb5;generalize (bu ts data p.ks[j]).1=e1 at *;generalize (bu ts data p.ks[j]).2=z1 at *;dsimp only;by_cases he:e1=0
   ·have HZn:=HZ'.out he;have HZn:=aw HZn;subst he;have QN6:=(((aP.refl g w5).set j (.slice a5 z1.length c5)).2 w.heap.size (ae QN5) (by omega)).trans QN5;have hA6:=hA5.setCell (p:=⟨g,j,none⟩) (by show w.heap.size≤g; omega) (.slice a5 z1.length c5);clear HZ' HBad;go_wp2
    go_roundw
    case rel=>exact ⟨j+1,by omega,by go_num,HZn,S6,QN6,hA6⟩
    case measure=>simp [intOf]; omega
   ·have e:=HBad.out he;injection e with e1' e2'
    subst e1' e2';have heb:(re != 0)=true:=by simpa using he
    clear HBad HZ' S6;go_wp2
    exact Me (v:=.tuple #[.slice none 0 0,.int .i64 re]) (by simp [results,Tryz.results17,go_sem]) rfl ⟨_,rfl,⟨[],by simpa using MM _ _ _ _,⟨rfl,fun i hi=>by simp at hi⟩⟩,hA5⟩
  ·have e:j=p.ks.length:=by omega
   subst e;rw [MB] at hS;have hAll:∀ r ∈ p.ks,(bu ts data r).1=0:=fun r hr=>by
    obtain ⟨i,hi,rfl⟩:=Nk hr;exact HZ.out i hi hi
   have eR:bP data p.k p.n p.x p.xs p.gs (p.ks.map (ag ts)) (p.ks.map fun r=>(bu ts data r).2)=(re,rz):=(sX hAll).symm.trans HR.out;have HRz:=aw eR;clear eR hAll HR HZ;have hz:=hb.size;have hgl:=hS.lt;have hwl:=ae QN;have hc:p.ks = []∨(∃ k0,p.ks = [k0])∨∃ k0 k1,p.ks = [k0,k1]:=by
    match hm:p.ks with
    | []=>exact .inl rfl
    | [k0]=>exact .inr (.inl ⟨k0,rfl⟩)
    | [k0,k1]=>exact .inr (.inr ⟨k0,k1,rfl⟩)
    | _ :: _ :: _ :: _=>rw [hm] at hl2; exact absurd hl2 (by simp)
   rcases hc with hks | ⟨k0,hks⟩ | ⟨k0,k1,hks⟩
   ·have hl0:p.ks.length=0:=by rw [hks]; rfl
    have lb:((p.ks.length:Int) == 0)=true:=by simp [hl0]
    have hne:=HNe.out;rw [hks] at hne;simp only [NJ,eI] at hne;have hrange:0≤p.n∧p.n<(ts.length:Int):=by
     by_cases c:p.n<0∨(ts.length:Int)≤p.n
     ·rw [if_pos c] at hne; cases hne
     ·omega
    obtain ⟨jn,ejn⟩:∃ jn:Nat,p.n=(jn:Int):=⟨p.n.toNat,by omega⟩
    have hjd:jn<data.length:=by rw [HD.out.len]; omega
    have e1:re=bh data[jn]:=by
     have h:=congrArg Prod.fst HRz.out;rw [hks] at h;simp [bP,ejn,hjd] at h;exact h.symm
    have e2:rz=bT data[jn]:=by
     have h:=congrArg Prod.snd HRz.out;rw [hks] at h;simp [bP,ejn,hjd] at h;exact h.symm
    obtain ⟨b2,o2,zi,zc,rfl,hb2,c2,hzz,_⟩:=(hdt.next hb).elem hjd;have hw:=(cF _).1 (HD.out.ok data[jn] (Mk hjd));have con:=dP zi zc data[jn] wr hzz (by omega) (fun x hx=>mW (hw.2.1 x hx).2.2) (fun x hx=>Jf (hw.2.1 x hx).1);rw [← e1,← e2] at con;have q1c:wr.cell? ⟨w.heap.size,1,none⟩=some (.int .i64 p.n):=cell_of (i:=1) QN rfl;have hjz:(jn:Int)<(data.length:Int):=by omega
    have hj0:(0:Int)≤(jn:Int):=by omega
    clear hw e1 e2 hne hrange hks hl0 HRz;rw [ejn] at q1c;clear ejn;go_wp2_with fail
    refine con.mono ?_;rintro e w5 ⟨v5,rfl,O5,hb5⟩;clear con q1c c2;have O5':=O5.mono hz;dsimp only;go_wp2
    exact Me (v:=.tuple #[v5,.int .i64 re]) (by simp [results,Tryz.results17,go_sem]) rfl ⟨_,rfl,O5',chain hb hb5⟩
   ·have hl0:p.ks.length=1:=by rw [hks]; rfl
    have lb:((p.ks.length:Int) == 0)=false:=by simp [hl0]
    have lb1:((p.ks.length:Int) == 1)=true:=by simp [hl0]
    have lz:0<p.ks.length:=by omega
    rw [hks] at hS HRz;obtain ⟨v0,bs,_,cv,O0⟩:=hS.laid 0 (by simp);simp only [Na,NJ,Nc] at O0;obtain ⟨a0,c0,ev,zs0,_⟩:=O0.KH;subst ev;have hry:bP [] p.k p.n p.x p.xs p.gs [ag ts k0] [(bu ts data k0).2]=(re,rz):=by
     have h:=HRz.out
     simpa [bP] using h
    generalize (bu ts data k0).2=zz at *;have HRy:=aw hry;clear HRz O0 hS hry;obtain ⟨V,hV⟩:∃ V,V=Value.agg (l7 p q ca (ag ts p).length cc na p.ks.length nc):=⟨_,rfl⟩
    have HV:=aw hV;clear hV;go_wp2_with fail
    have hCC:∀ W W':World,(W.heap[w.heap.size]? = some (.cells (l7 p q ca (ag ts p).length cc na p.ks.length nc) 56 (0,0))∧W.cell? ⟨g,0,none⟩=some (.slice a0 zz.length c0)∧g<W.heap.size)→Below W.heap.size W W'→(W'.heap[w.heap.size]? = some (.cells (l7 p q ca (ag ts p).length cc na p.ks.length nc) 56 (0,0))∧W'.cell? ⟨g,0,none⟩=some (.slice a0 zz.length c0)∧g<W'.heap.size):=fun W W' h hb=>⟨(hb.block _ (ae h.1)).trans h.1,(hb.cell (p:=⟨g,0,none⟩) h.2.2).trans h.2.1,Mh h.2.2 hb.size⟩
    have hd:Below wr.heap.size wr wr.drew:=(Md _ _).drew;have CW:=hCC _ _ ⟨QN,cv,hgl⟩ hd;refine aH (fun W=>(W.heap[w.heap.size]? = some (.cells (l7 p q ca (ag ts p).length cc na p.ks.length nc) 56 (0,0))∧W.cell? ⟨g,0,none⟩=some (.slice a0 zz.length c0)∧g<W.heap.size)) (by kernel_rfl) ?_;refine az hCC 52 0 V (fun n hn=>?_) CW ?_
    ·obtain ⟨hn1,_⟩:=hn;have m0:=cell_of (i:=0) hn1 rfl;have m1:=cell_of (i:=1) hn1 rfl;have m2:=cell_of (i:=2) hn1 rfl;have m3:=cell_of (i:=3) hn1 rfl;have m4:=cell_of (i:=4) hn1 rfl;have m5:=cell_of (i:=5) hn1 rfl;have m6:=cell_of (i:=6) hn1 rfl;have m7:=cell_of (i:=7) hn1 rfl;have m8:=cell_of (i:=8) hn1 rfl;have m9:=cell_of (i:=9) hn1 rfl;have m10:=cell_of (i:=10) hn1 rfl;have m11:=cell_of (i:=11) hn1 rfl;have m12:=cell_of (i:=12) hn1 rfl;rw [HV.out];clear hn1 QN hdt hN HNe HLk IH HRy CW hCC HV;go_simp
    simp only [pD,pB,pC];refine az hCC 53 1 (.slice (some ⟨g,0,none⟩) p.ks.length p.ks.length) (fun n hn=>?_) CW ?_
    ·clear hn QN hdt hN HNe HLk IH HRy CW hCC HV;go_simp
    simp only [pD,pB,pC];refine az hCC 54 2 (.pointer (some ⟨g,0,none⟩)) (fun n hn=>?_) CW ?_
    ·clear hn QN hdt hN HNe HLk IH HRy CW hCC HV;go_simp
    simp only [pD,pB,pC];refine az hCC 55 3 (.slice a0 zz.length c0) (fun n hn=>?_) CW ?_
    ·have hc:=hn.2.1;clear hn QN hdt hN HNe HLk IH HRy CW hCC HV;go_simp
    simp only [pD,pB,pC];refine bD 4 ?_;intro w6 hb6
    have CW6:=hCC _ _ CW hb6;have D6:=chain hd hb6;have D6w:=chain hb D6;have con:=EB ts B lo p k0 q ca (ag ts p).length cc na nc zz a0 c0 w6 (Mr hB D6w.size) (qL.next (Kept.of D6w hB) hN.kids) (hN.pl.next D6w hB) HK.out hks (zs0.next D6);rw [HRy.out] at con;unfold mZ at con;rw [← HV.out] at con;refine wpOp_step rfl (fun K hK=>?_);go_simp;refine con.mono ?_;rintro e w7 ⟨v7,rfl,O7,hb7⟩;clear con;have CW7:=hCC _ _ CW6 hb7;refine hK _ _ ⟨CW7,?_⟩;clear hK K CW6 CW
    refine az hCC 57 5 v7 (fun n hn=>?_) CW7 ?_
    ·clear hn QN hdt hN HNe HLk IH HRy CW7 hCC HV O7;go_simp
    simp only [pD,pB,pC];refine az hCC 58 6 (.int .i64 re) (fun n hn=>?_) CW7 ?_
    ·clear hn QN hdt hN HNe HLk IH HRy CW7 hCC HV O7;go_simp
    simp only [pD,pB,pC];refine az hCC 4 7 v7 (fun n hn=>?_) CW7 ?_
    ·clear hn QN hdt hN HNe HLk IH HRy CW7 hCC HV O7;go_simp
    simp only [pD,pB,pC];refine az hCC 5 8 (.int .i64 re) (fun n hn=>?_) CW7 ?_
    ·clear hn QN hdt hN HNe HLk IH HRy CW7 hCC HV O7;go_simp
    simp only [pD,pB,pC];refine bo (by kernel_rfl) ?_;intro w8 hb8;have O8:=(O7.next hb8).mono D6w.size;have D8:=chain D6w (chain hb7 hb8);clear CW7 hCC hb8 O7;go_wp2
    exact Me (v:=.tuple #[v7,.int .i64 re]) (by simp [results,Tryz.results17,go_sem]) rfl ⟨_,rfl,O8,D8⟩
   ·have hl0:p.ks.length=2:=by rw [hks]; rfl
    have lb:((p.ks.length:Int) == 0)=false:=by simp [hl0]
    have lb1:((p.ks.length:Int) == 1)=false:=by simp [hl0]
    have lz:0<p.ks.length:=by omega
    have lz1:1<p.ks.length:=by omega
    have g0:(ag ts k0).length≤8:=by
     obtain ⟨m',hm'⟩:=HLk.out k0 (by rw [hks]; simp);exact qA HTs.out k0 _ _ hm'
    have g1:(ag ts k1).length≤8:=by
     obtain ⟨m',hm'⟩:=HLk.out k1 (by rw [hks]; simp);exact qA HTs.out k1 _ _ hm'
    rw [hks] at hS HRz;obtain ⟨v0,bs,_,cv,O0⟩:=hS.laid 0 (by simp);obtain ⟨v1,bs1,_,cv1,O1⟩:=hS.laid 1 (by simp);simp only [Na,NJ,Nc,Nw] at O0 O1;obtain ⟨a0,c0,ev,zs0,nz0⟩:=O0.KH;obtain ⟨a1,c1,ev1,zs1,_⟩:=O1.KH;subst ev ev1;have hry:bP [] p.k p.n p.x p.xs p.gs [ag ts k0,ag ts k1] [(bu ts data k0).2,(bu ts data k1).2]=(re,rz):=by
     have h:=HRz.out
     simpa [bP] using h
    generalize (bu ts data k0).2=zz at *;generalize (bu ts data k1).2=yy at *;have HRy:=aw hry;clear HRz O0 O1 hS hry;obtain ⟨V,hV⟩:∃ V,V=Value.agg (l7 p q ca (ag ts p).length cc na p.ks.length nc):=⟨_,rfl⟩
    have HV:=aw hV;clear hV;go_wp2_with fail
    have hCC:∀ W W':World,(W.heap[w.heap.size]? = some (.cells (l7 p q ca (ag ts p).length cc na p.ks.length nc) 56 (0,0))∧W.cell? ⟨g,0,none⟩=some (.slice a0 zz.length c0)∧W.cell? ⟨g,1,none⟩=some (.slice a1 yy.length c1)∧g<W.heap.size)→Below W.heap.size W W'→(W'.heap[w.heap.size]? = some (.cells (l7 p q ca (ag ts p).length cc na p.ks.length nc) 56 (0,0))∧W'.cell? ⟨g,0,none⟩=some (.slice a0 zz.length c0)∧W'.cell? ⟨g,1,none⟩=some (.slice a1 yy.length c1)∧g<W'.heap.size):=fun W W' h hb=>⟨(hb.block _ (ae h.1)).trans h.1,(hb.cell (p:=⟨g,0,none⟩) h.2.2.2).trans h.2.1,(hb.cell (p:=⟨g,1,none⟩) h.2.2.2).trans h.2.2.1,Mh h.2.2.2 hb.size⟩
    have hd:Below wr.heap.size wr wr.drew:=(Md _ _).drew;have CW:=hCC _ _ ⟨QN,cv,cv1,hgl⟩ hd;refine aH (fun W=>(W.heap[w.heap.size]? = some (.cells (l7 p q ca (ag ts p).length cc na p.ks.length nc) 56 (0,0))∧W.cell? ⟨g,0,none⟩=some (.slice a0 zz.length c0)∧W.cell? ⟨g,1,none⟩=some (.slice a1 yy.length c1)∧g<W.heap.size)) (by kernel_rfl) ?_;refine az hCC 59 0 V (fun n hn=>?_) CW ?_
    ·obtain ⟨hn1,_⟩:=hn;have m0:=cell_of (i:=0) hn1 rfl;have m1:=cell_of (i:=1) hn1 rfl;have m2:=cell_of (i:=2) hn1 rfl;have m3:=cell_of (i:=3) hn1 rfl;have m4:=cell_of (i:=4) hn1 rfl;have m5:=cell_of (i:=5) hn1 rfl;have m6:=cell_of (i:=6) hn1 rfl;have m7:=cell_of (i:=7) hn1 rfl;have m8:=cell_of (i:=8) hn1 rfl;have m9:=cell_of (i:=9) hn1 rfl;have m10:=cell_of (i:=10) hn1 rfl;have m11:=cell_of (i:=11) hn1 rfl;have m12:=cell_of (i:=12) hn1 rfl;rw [HV.out];clear hn1 QN hdt hN HNe HLk IH HRy CW hCC HV;go_simp
    simp only [pD,pB,pC];refine az hCC 60 1 (.slice (some ⟨g,0,none⟩) p.ks.length p.ks.length) (fun n hn=>?_) CW ?_
    ·clear hn QN hdt hN HNe HLk IH HRy CW hCC HV;go_simp
    simp only [pD,pB,pC];refine az hCC 61 2 (.pointer (some ⟨g,0,none⟩)) (fun n hn=>?_) CW ?_
    ·clear hn QN hdt hN HNe HLk IH HRy CW hCC HV;go_simp
    simp only [pD,pB,pC];refine az hCC 62 3 (.slice a0 zz.length c0) (fun n hn=>?_) CW ?_
    ·have hc:=hn.2.1;clear hn QN hdt hN HNe HLk IH HRy CW hCC HV;go_simp
    simp only [pD,pB,pC];refine az hCC 63 4 (.slice (some ⟨g,0,none⟩) p.ks.length p.ks.length) (fun n hn=>?_) CW ?_
    ·clear hn QN hdt hN HNe HLk IH HRy CW hCC HV;go_simp
    simp only [pD,pB,pC];refine az hCC 64 5 (.pointer (some ⟨g,1,none⟩)) (fun n hn=>?_) CW ?_
    ·clear hn QN hdt hN HNe HLk IH HRy CW hCC HV;go_simp
    simp only [pD,pB,pC];refine az hCC 65 6 (.slice a1 yy.length c1) (fun n hn=>?_) CW ?_
    ·have hc:=hn.2.2.1;clear hn QN hdt hN HNe HLk IH HRy CW hCC HV;go_simp
    simp only [pD,pB,pC];refine bD 7 ?_;intro w6 hb6
    have CW6:=hCC _ _ CW hb6;have D6:=chain hd hb6;have D6w:=chain hb D6;have con:=C7 ts B lo p k0 k1 q ca (ag ts p).length cc na nc zz a0 c0 yy a1 c1 w6 (Mr hB D6w.size) (qL.next (Kept.of D6w hB) hN.kids) (hN.pl.next D6w hB) hks g0 g1 (zs0.next D6) (zs1.next D6) nz0;rw [HRy.out] at con;unfold mZ at con;rw [← HV.out] at con;refine wpOp_step rfl (fun K hK=>?_);go_simp;refine con.mono ?_;rintro e w7 ⟨v7,rfl,O7,hb7⟩;clear con;have CW7:=hCC _ _ CW6 hb7;refine hK _ _ ⟨CW7,?_⟩;clear hK K CW6 CW
    refine az hCC 67 8 v7 (fun n hn=>?_) CW7 ?_
    ·clear hn QN hdt hN HNe HLk IH HRy CW7 hCC HV O7;go_simp
    simp only [pD,pB,pC];refine az hCC 68 9 (.int .i64 re) (fun n hn=>?_) CW7 ?_
    ·clear hn QN hdt hN HNe HLk IH HRy CW7 hCC HV O7;go_simp
    simp only [pD,pB,pC];refine az hCC 4 10 v7 (fun n hn=>?_) CW7 ?_
    ·clear hn QN hdt hN HNe HLk IH HRy CW7 hCC HV O7;go_simp
    simp only [pD,pB,pC];refine az hCC 5 11 (.int .i64 re) (fun n hn=>?_) CW7 ?_
    ·clear hn QN hdt hN HNe HLk IH HRy CW7 hCC HV O7;go_simp
    simp only [pD,pB,pC];refine bo (by kernel_rfl) ?_;intro w8 hb8;have O8:=(O7.next hb8).mono D6w.size;have D8:=chain D6w (chain hb7 hb8);clear CW7 hCC hb8 O7;go_wp2
    exact Me (v:=.tuple #[v7,.int .i64 re]) (by simp [results,Tryz.results17,go_sem]) rfl ⟨_,rfl,O8,D8⟩
theorem Gi (ts:List (List Int)) (hts:gf ts=0) (data:List (List Zp)) (hD:Lp ts data):∀ p,zy ts data p:=Pl.ind fun k n x xs gs ks ih=>eval_at ts hts data hD (.mk k n x xs gs ks) ih
theorem uW (B:Nat) (W:World):dH B W (.slice none 0 0) []:=⟨[],by simpa using MM _ _ _ _,⟨rfl,fun i hi=>by simp at hi⟩⟩
theorem vz (ts:List (List Int)) (data:List (List Zp)) (p:Pl) (q:Pw) (ta:Option Addr) (tc:Nat) (da:Option Addr) (dc:Nat) (w:World) (hT:iW w.heap.size w ta ts) (hD:rk w da data) (hp:oh w.heap.size w p q) (hk:dx p) :
  Calls Tryz.prog 7 #[.slice ta ts.length tc,gR p q,.slice da data.length dc] w fun e w'=>∃ v,e = .returned (.tuple #[v,.int .i64 (Dk ts data p)])∧dH w.heap.size w' v (CM ts data p)∧Below w.heap.size w w':=by
 have hA:=aa w (.cells (dS p q) 31);have EL:=iA.new w p q 31;have con:=nW ts p q ta tc (w.alloc (.cells (dS p q) 31)) ((hT.next hA (Mc _)).up hA.size) ((hp.next hA (Mc _)).up hA.size) hk;have HK:=aw hk;generalize hee:Dk ts data p=ee;generalize hez:CM ts data p=ez;have HE:=aw hee;have HZ:=aw hez;generalize hle:bH ts p=le at con;have HLe:=aw hle;clear hk hee hez hle;obtain ⟨y0,y1,⟨y2,y3,y4,y5,y6,y7⟩,y8,y9,y10⟩:=EL
 simp only [Mq] at y1 y2 y3 y4 y5 y6 y7 y8 y9 y10;unfold gR at con ⊢;go_enter Tryz.func7,Tryz.ntmps7;go_upto_region 1 with fail
 generalize w.alloc (.cells (dS p q) 31)=wA at *;go_wp2_with fail
 refine con.mono ?_;rintro e w1 ⟨⟨v1,rfl,hv0,hv1⟩,hb1⟩;clear con y0 y1 y2 y3 y4 y5 y6 y7 y8 y9 y10;have hA1:=chain hA hb1;by_cases he:le=0;rotate_left
 ·have e0:=hv1 he;obtain ⟨e1,e2⟩:=Ed (data:=data) (show ¬ bH ts p=0 by rw [HLe.out]; exact he);rw [HE.out,HLe.out] at e1;rw [HZ.out] at e2;subst e0 e1 e2;have hal:=aa w1 (.cells wG 56);have hA2:=chain hA1 hal;have heb:(ee != 0)=true:=by simpa using he
  clear hv0 hv1 HE HZ HLe;unfold kz;go_upto_region 2 with fail
  generalize w1.alloc (.cells wG 56)=w2 at *;go_wp2_with fail
  exact Me (v:=.tuple #[.slice none 0 0,.int .i64 ee]) (by simp [results,Tryz.results7,go_sem]) rfl ⟨_,rfl,uW _ _,hA2⟩
 obtain ⟨ca,cc,na,nc,e0,ND⟩:=hv0 he;have HL0:Hid (bH ts p=0):=by show _=_; rw [HLe.out,he]
 subst e0;clear hv0 hv1 HLe;subst he;have hal:=aa w1 (.cells (l7 p q ca (ag ts p).length cc na p.ks.length nc) 56);have hA2:=chain hA1 hal;have Qk:=ak w1 (l7 p q ca (ag ts p).length cc na p.ks.length nc) 56;have lk:=ae Qk;have hsA:=hb1.size;unfold mZ;go_upto_region 2 with fail
 generalize w1.alloc (.cells (l7 p q ca (ag ts p).length cc na p.ks.length nc) 56)=w2 at *;have h8:ts.length≤8:=Lf (eJ HL0.out).1;have con:=DO ts data ta tc da dc w2 ((hT.next hA2 (Mc _)).up hA2.size) (hD.next hA2) h8;generalize hde:fU ts data=de at con;have HDe:=aw hde;clear hde;go_wp2_with fail
 refine con.mono ?_;rintro e w3 ⟨rfl,hb3⟩;clear con;have hA3:=chain hA2 hb3;dsimp only;by_cases hd:de=0;rotate_left
 ·obtain ⟨e1,e2⟩:=Fy (data:=data) HL0.out (show ¬ fU ts data=0 by rw [HDe.out]; exact hd);rw [HE.out,HDe.out] at e1;rw [HZ.out] at e2;subst e1 e2;have heb:(ee != 0)=true:=by simpa using hd
  clear HE HZ HDe HL0;go_wp2_with fail
  exact Me (v:=.tuple #[.slice none 0 0,.int .i64 ee]) (by simp [results,Tryz.results7,go_sem]) rfl ⟨_,rfl,uW _ _,hA3⟩
 have HD0:Hid (fU ts data=0):=by show _=_; rw [HDe.out,hd]
 clear HDe;subst hd;have Q3:=(hb3.block _ lk).trans Qk;have hk3:Kept wA.heap.size wA.heap.size w1 w3:=Kept.of (chain hal hb3) hsA;have con:=Gi ts (eJ HL0.out).1 data (Cf HD0.out) p wA.heap.size wA.heap.size q ca cc na nc da dc 0 1 w3 (eJ HL0.out).2 (ND.next hk3) (Mr hsA (chain hal hb3).size) (hD.next hA3) HK.out;obtain ⟨e1,e2⟩:=Ix (p:=p) HL0.out HD0.out;rw [HE.out] at e1;rw [HZ.out] at e2;rw [← e1,← e2] at con;unfold mZ at con;clear e1 e2 HE HZ HL0 HD0 ND hk3;have z0:=cell_of (i:=0) Q3 rfl;have z1:=cell_of (i:=1) Q3 rfl;have z2:=cell_of (i:=2) Q3 rfl
 have z3:=cell_of (i:=3) Q3 rfl;have z4:=cell_of (i:=4) Q3 rfl;have z5:=cell_of (i:=5) Q3 rfl;have z6:=cell_of (i:=6) Q3 rfl;have z7:=cell_of (i:=7) Q3 rfl;have z8:=cell_of (i:=8) Q3 rfl;have z9:=cell_of (i:=9) Q3 rfl;have z10:=cell_of (i:=10) Q3 rfl;have z11:=cell_of (i:=11) Q3 rfl;have z12:=cell_of (i:=12) Q3 rfl;go_wp2_with fail
 refine con.mono ?_;rintro e w4 ⟨v4,rfl,O4,hb4⟩;clear con z0 z1 z2 z3 z4 z5 z6 z7 z8 z9 z10 z11 z12;have O4':=O4.mono hA3.size;go_wp2_with fail
 exact Me (v:=.tuple #[v4,.int .i64 ee]) (by simp [results,Tryz.results7,go_sem]) rfl ⟨_,rfl,O4',chain hA3 hb4⟩
end Go.Proofs.YtjebpkhkjkjphaaGreat
