/- Together: J8, J9, J10, S7, S8, S9, G1, G3, G4. -/
import Derived.Test.YtjebpkhkjkjphaaGreatP7
namespace Go.Proofs.YtjebpkhkjkjphaaGreat
open Go.RowKit Go.Lib Go.Shelf
set_option maxRecDepth 100000
set_option maxHeartbeats 16000000
def dq (af:List Int) (x:Ex) (w0 wp:World) (a b:Option Addr) (ca cb:Nat) (l r:List Zp) (v:Value) (R rv:Nat):Prop :=
 ∃ (lo:Nat) (wc:World) (hv:Nat) (u:Value),v = .agg #[.slice a l.length ca,.slice b r.length cb,.func (.func 185) #[] #[.pointer (some ⟨rv,0,none⟩),.pointer (some ⟨hv,0,none⟩)]] ∧
  ob wp R rv∧hv<R∧wp.cell? ⟨hv,0,none⟩=some u∧ki af lo u x wc∧wc.heap.size≤R∧Since lo wc wp∧w0.heap.size≤R∧Below w0.heap.size w0 wp
theorem pE.LU {af:List Int} {x:Ex} {w0 wp:World} {a b:Option Addr} {ca cb:Nat} {l r:List Zp} {v:Value} (h:pE af x w0 wp a b ca cb l r v):∃ R rv,dq af x w0 wp a b ca cb l r v R rv∧di wp R rv wp:=by
 obtain ⟨lo,wc,R,rv,hv,u,e,h1,h2,h3,h4,h5,h6,h7,h8,h9⟩:=h.ex;exact ⟨R,rv,⟨lo,wc,hv,u,e,h1,h2,h3,h4,h5,h6,h7,h8⟩,h9⟩
structure pG (af:List Int) (l r:List Zp):Prop where
 ll:l.length≤400
 rl:r.length≤400
 row:∀ p ∈ l,∀ q ∈ r,p.1.length+q.1.length≤8
 fit:∀ p ∈ l,∀ q ∈ r,fM af (p.1 ++ q.1)
 mul:∀ p ∈ l,∀ q ∈ r,-1000000000000≤p.2*q.2∧p.2*q.2≤1000000000000
theorem rU (af:List Int) (x:Ex) (w0 wp w:World) (a b:Option Addr) (ca cb:Nat) (l r:List Zp) (v:Value) (R rv:Nat) (hP:dq af x w0 wp a b ca cb l r v R rv) (hI:di wp R rv w) (za:bc w0 a l) (zb:bc w0 b r) (hq:pG af l r) :
  Calls Tryz.prog 88 #[v] w fun e w'=>∃ u,e = .returned u∧js (w.heap.size+1) w' u (bX x l r)∧di wp R rv w'∧w.heap.size≤w'.heap.size:=by
 obtain ⟨lo,wc,hv,u,rfl,hn,hv0,hc,hC,hcR,hcp,h0,h0p⟩:=hP;obtain ⟨i0,hi,hj0,hj1,hj2⟩:=info_parts Tryz.gH;have hrv:=hI.sz hn;have hrr:=hn.r;have hl:=hq.ll;have hr:=hq.rl;have HQ:=aw hq;have h1:=aa w (.cells #[.slice a l.length ca,.slice b r.length cb,.func (.func 185) #[] #[.pointer (some ⟨rv,0,none⟩),.pointer (some ⟨hv,0,none⟩)]] 137);have p1:=ak w #[.slice a l.length ca,.slice b r.length cb,.func (.func 185) #[] #[.pointer (some ⟨rv,0,none⟩),.pointer (some ⟨hv,0,none⟩)]] 137
 have I1:di wp R rv (w.alloc (.cells #[.slice a l.length ca,.slice b r.length cb,.func (.func 185) #[] #[.pointer (some ⟨rv,0,none⟩),.pointer (some ⟨hv,0,none⟩)]] 137)):=hI.cG hn hI.size h1;have z1:(w.alloc (.cells #[.slice a l.length ca,.slice b r.length cb,.func (.func 185) #[] #[.pointer (some ⟨rv,0,none⟩),.pointer (some ⟨hv,0,none⟩)]] 137)).heap.size=w.heap.size+1:=by simp
 clear hq;go_enter Tryz.func88,Tryz.ntmps88;go_wp2_with fail
 go_loopw [3,11] (fun v i wr=>∃ k:Nat,k≤l.length∧i = .int .i64 k∧js (w.heap.size+1) wr v (bX x (l.take k) r)∧Hid (di wp R rv wr)∧wr.heap[w.heap.size]? = some (.cells #[.slice a l.length ca,.slice b r.length cb,.func (.func 185) #[] #[.pointer (some ⟨rv,0,none⟩),.pointer (some ⟨hv,0,none⟩)]] 137 (0,0))) (fun _ i _=>l.length - (intOf i).toNat)
 case atStart=>exact ⟨0,Mj _,rfl,js.nil _ _,I1,p1⟩
 case round =>
  obtain ⟨k,hk,rfl,HO,HI,hp⟩:=hrel;clear h1 p1 I1 z1;by_cases hlt:k<l.length
  ·obtain ⟨wl,hwl⟩:∃ z,z=wr:=⟨_,rfl⟩
   obtain ⟨uo,huo⟩:∃ z,z=u3:=⟨_,rfl⟩
   subst hwl huo;have hpl:=ae hp;obtain ⟨bl,off,rfl,hbl,d1,ar,cr,d0,sr⟩:=za.elem hlt;have hB:Below w0.heap.size w0 wl:=h0p.trans ((HI.out.below hn).mono h0);have c1:=(hB.cell (p:=⟨bl,_,none⟩) hbl).trans d1;have c0:=(hB.cell (p:=⟨bl,_,none⟩) hbl).trans d0;have hbl':bl<wl.heap.size:=Mh hbl hB.size;have hal:=aa wl (.cells #[.slice ar l[k].1.length cr,.int .i64 l[k].2] 63);have pa:=(hal.block w.heap.size hpl).trans hp;have q5:=ak wl #[.slice ar l[k].1.length cr,.int .i64 l[k].2] 63
   have x1:(wl.alloc (.cells #[.slice ar l[k].1.length cr,.int .i64 l[k].2] 63)).cell? ⟨w.heap.size,1,none⟩=some (.slice b r.length cb):=cell_of (i:=1) pa rfl;have IA:Hid (di wp R rv (wl.alloc (.cells #[.slice ar l[k].1.length cr,.int .i64 l[k].2] 63))):=HI.out.cG hn HI.out.size hal;have OA:=HO.since (lo:=0) (Mj _) (Since.of hal);have HS:=aw sr;have nb:∀ g,uo.ownBlock=some g→g≠wl.heap.size:=fun g hg=>by have:=(HO.lt hg).2; omega
   have HT:Hid (bX x (l.take (k+1)) r=bX x (l.take k) r ++ cD x l[k] r):=zV x hlt;have HL:Hid ((bX x (l.take k) r).length≤160000):=by
    show (bX x (l.take k) r).length≤160000;have h1:=nY x (l.take k) r;have h2:(l.take k).length*r.length≤400*400:=Nat.mul_le_mul (by simp; omega) hr;omega
   clear d0 d1 sr;go_wp2_with fail
   go_loopw [3,18] (fun v i ws=>∃ m:Nat,m≤r.length∧i = .int .i64 m∧js (w.heap.size+1) ws v (bX x (l.take k) r ++ cD x l[k] (r.take m))∧Hid (di wp R rv ws)∧ws.heap[w.heap.size]? = some (.cells #[.slice (some ⟨bl,off,none⟩) l.length ca,.slice b r.length cb,.func (.func 185) #[] #[.pointer (some ⟨rv,0,none⟩),.pointer (some ⟨hv,0,none⟩)]] 137 (0,0))∧ws.heap[wl.heap.size]? = some (.cells #[.slice ar l[k].1.length cr,.int .i64 l[k].2] 63 (0,0))∧Hid (∀ g,v.ownBlock=some g→g≠wl.heap.size)) (fun _ i _=>r.length - (intOf i).toNat)
   case atStart=>exact ⟨0,Mj _,rfl,by simpa [cD] using OA,IA,pa,q5,nb⟩
   case round =>
    clear IA OA nb x1 pa q5 hal HO HI hp;obtain ⟨m,hm,rfl,HO,HI,hp,hq5,hnb⟩:=hrel;by_cases hmt:m<r.length
    ·obtain ⟨bl2,off2,rfl,hbl2,d1,br,cr2,d0,sr⟩:=zb.elem hmt;have hB:Below w0.heap.size w0 wr:=h0p.trans ((HI.out.below hn).mono h0);have e1:=(hB.cell (p:=⟨bl2,_,none⟩) hbl2).trans d1;have e0:=(hB.cell (p:=⟨bl2,_,none⟩) hbl2).trans d0;have hlw:wl.heap.size<wr.heap.size:=ae hq5;have hbl2':bl2<wr.heap.size:=Mh hbl2 hB.size;have hal:=aa wr (.cells #[.slice br r[m].1.length cr2,.int .i64 r[m].2] 63)
     have z7:(wr.alloc (.cells #[.slice br r[m].1.length cr2,.int .i64 r[m].2] 63)).heap.size=wr.heap.size+1:=by simp
     have pA:=(hal.block w.heap.size (by omega)).trans hp;have q5A:=(hal.block wl.heap.size hlw).trans hq5;have q7A:=ak wr #[.slice br r[m].1.length cr2,.int .i64 r[m].2] 63;have x2:(wr.alloc (.cells #[.slice br r[m].1.length cr2,.int .i64 r[m].2] 63)).cell? ⟨w.heap.size,2,none⟩=some (.func (.func 185) #[] #[.pointer (some ⟨rv,0,none⟩),.pointer (some ⟨hv,0,none⟩)]):=cell_of (i:=2) pA rfl;have y0:(wr.alloc (.cells #[.slice br r[m].1.length cr2,.int .i64 r[m].2] 63)).cell? ⟨wl.heap.size,0,none⟩=some (.slice ar l[k].1.length cr):=cell_of (i:=0) q5A rfl
     have con:=wZ af lo x wc wp w0 R rv hv u hn hv0 hc hC hcR hcp h0 h0p ar br cr cr2 l[k].1 r[m].1 _ (HI.out.cG hn HI.out.size hal) HS.out sr (HQ.out.row _ (Mk hlt) _ (Mk hmt)) (HQ.out.fit _ (Mk hlt) _ (Mk hmt));have OA:=HO.since (lo:=0) (Mj _) (Since.of hal);have HM:=HQ.out.mul _ (Mk hlt) _ (Mk hmt);have HR:=aw sr
     have HT2:Hid (cD x l[k] (r.take (m+1))=cD x l[k] (r.take m) ++ (if ax x (l[k].1 ++ r[m].1)=true then [(l[k].1 ++ r[m].1,l[k].2*r[m].2)] else [])):=ux x l[k] hmt;have hrow:=HQ.out.row _ (Mk hlt) _ (Mk hmt);have hnb7:Hid (∀ g,u3.ownBlock=some g→w.heap.size+1≤g∧g<wr.heap.size):=fun g hg=>HO.lt hg
     have hlen:(bX x (l.take k) r ++ cD x l[k] (r.take m)).length≤160400:=by
      have h1:=HL.out;have h2:=oW x l[k] (r.take m);simp only [Mw,MH] at h2 ⊢;omega
     clear HO d0 d1 sr hp hq5 HI hC c1 c0;by_cases hh:ax x (l[k].1 ++ r[m].1)=true
     ·rw [hh] at con;have HH:=aw hh;clear hh;go_wp2_with fail
      refine con.mono ?_;rintro e w1 ⟨rfl,I1,s1⟩;have HI1:=aw I1;have OB:=OA.since (by omega) s1;have pB:=(s1.2 w.heap.size (by omega) (by omega)).trans pA;have q5B:=(s1.2 wl.heap.size (by omega) (by omega)).trans q5A;have q7B:=(s1.2 wr.heap.size (by omega) (by omega)).trans q7A;have zB:=s1.1;clear con I1 s1 OA pA q5A q7A x2 y0 hal;dsimp only;go_wp2_with fail
      have hCC:∀ W W':World,(W.heap[wl.heap.size]? = some (.cells #[.slice ar l[k].1.length cr,.int .i64 l[k].2] 63 (0,0))∧W.heap[wr.heap.size]? = some (.cells #[.slice br r[m].1.length cr2,.int .i64 r[m].2] 63 (0,0)))→Below W.heap.size W W'→(W'.heap[wl.heap.size]? = some (.cells #[.slice ar l[k].1.length cr,.int .i64 l[k].2] 63 (0,0))∧W'.heap[wr.heap.size]? = some (.cells #[.slice br r[m].1.length cr2,.int .i64 r[m].2] 63 (0,0))):=fun W W' h hb=>⟨(hb.block _ (ae h.1)).trans h.1,(hb.block _ (ae h.2)).trans h.2⟩
      have hd:Below w1.heap.size w1 w1.drew:=(Md _ _).drew;have CW:w1.drew.heap[wl.heap.size]? = some (.cells #[.slice ar l[k].1.length cr,.int .i64 l[k].2] 63 (0,0))∧w1.drew.heap[wr.heap.size]? = some (.cells #[.slice br r[m].1.length cr2,.int .i64 r[m].2] 63 (0,0)):=hCC _ _ ⟨q5B,q7B⟩ hd;have HW:IntKind.i64.wrap (l[k].2*r[m].2)=l[k].2*r[m].2:=IntWalk.i64_in _ ⟨by omega,by omega⟩
      refine aH (fun W=>W.heap[wl.heap.size]? = some (.cells #[.slice ar l[k].1.length cr,.int .i64 l[k].2] 63 (0,0))∧W.heap[wr.heap.size]? = some (.cells #[.slice br r[m].1.length cr2,.int .i64 r[m].2] 63 (0,0))) (by kernel_rfl) ?_;refine az hCC 29 0 u3 (fun n hn=>?_) CW ?_
      ·go_simp
      simp only [Act.put,MC,MU,MV];refine az hCC 30 1 (.pointer (some ⟨wl.heap.size,0,none⟩)) (fun n hn=>?_) CW ?_
      ·go_simp
      simp only [Act.put,MC,MU,MV];refine az hCC 31 2 (.slice ar l[k].1.length cr) (fun n hn=>?_) CW ?_
      ·have hcell:n.cell? ⟨wl.heap.size,0,none⟩=some (.slice ar l[k].1.length cr):=cell_of (i:=0) hn.1 rfl;go_simp
      simp only [Act.put,MC,MU,MV];refine az hCC 32 3 (.pointer (some ⟨wr.heap.size,0,none⟩)) (fun n hn=>?_) CW ?_
      ·go_simp
      simp only [Act.put,MC,MU,MV];refine az hCC 33 4 (.slice br r[m].1.length cr2) (fun n hn=>?_) CW ?_
      ·have hcell:n.cell? ⟨wr.heap.size,0,none⟩=some (.slice br r[m].1.length cr2):=cell_of (i:=0) hn.2 rfl;go_simp
      simp only [Act.put,MC,MU,MV];refine az hCC 36 7 (.pointer (some ⟨wl.heap.size,1,none⟩)) (fun n hn=>?_) CW ?_
      ·go_simp
      simp only [Act.put,MC,MU,MV];refine az hCC 37 8 (.int .i64 l[k].2) (fun n hn=>?_) CW ?_
      ·have hcell:n.cell? ⟨wl.heap.size,1,none⟩=some (.int .i64 l[k].2):=cell_of (i:=1) hn.1 rfl;go_simp
      simp only [Act.put,MC,MU,MV];refine az hCC 38 9 (.pointer (some ⟨wr.heap.size,1,none⟩)) (fun n hn=>?_) CW ?_
      ·go_simp
      simp only [Act.put,MC,MU,MV];refine az hCC 39 10 (.int .i64 r[m].2) (fun n hn=>?_) CW ?_
      ·have hcell:n.cell? ⟨wr.heap.size,1,none⟩=some (.int .i64 r[m].2):=cell_of (i:=1) hn.2 rfl;go_simp
      simp only [Act.put,MC,MU,MV];refine az hCC 40 11 (.int .i64 (l[k].2*r[m].2)) (fun n hn=>?_) CW ?_
      ·go_simp
      simp only [Act.put,MC,MU,MV];refine bD 5 ?_;intro w3 hb3
      refine wpOp_step rfl (fun K hK=>?_);go_simp;have D3:=chain hd hb3;have CW3:=hCC _ _ CW hb3;have B3:Below w0.heap.size w0 w3:=(h0p.trans ((HI1.out.below hn).mono h0)).trans (D3.mono (by have:=HI1.out.size; have:=h0p.size; omega));have hal3:=aa w3 (.cells #[.slice ar l[k].1.length cr,.slice br r[m].1.length cr2] 61);have PC:=iQ.new cr cr2 (fA (HS.out.next B3)) (fA (HR.out.next B3)) 61;have D4:=chain D3 hal3;have CW4:=hCC _ _ CW3 hal3;refine hK _ _ ⟨CW4,?_⟩;clear hK K hal3 hb3 CW CW3
      generalize w3.alloc (.cells #[.slice ar l[k].1.length cr,.slice br r[m].1.length cr2] 61)=w4 at *;refine bD 6 ?_;intro w5 hb5
      refine wpOp_step rfl (fun K hK=>?_);go_simp;have D5:=chain D4 hb5;have CW5:=hCC _ _ CW4 hb5;refine (kg _ _ _ _ _ w5 (PC.next hb5) (by omega)).mono ?_;rintro e w6 ⟨v6,rfl,O6,hb6⟩;rw [← bO] at O6;have ge6:∀ b o n c,v6 = .slice (some ⟨b,o,none⟩) n c→w.heap.size+1≤b:=fun b o n c e=>by
       subst e;have:=(O6.lt b rfl).1;have:=D5.size;omega
      obtain ⟨a6,c6,rfl,S6,T6,_⟩:=kG O6 (by simp);have D6:=chain D5 hb6;have CW6:=hCC _ _ CW5 hb6;refine hK _ _ ⟨CW6,?_⟩;clear hK K PC O6 CW4 CW5;refine az hCC 41 12 (.agg #[.slice a6 (l[k].1 ++ r[m].1).length c6,.int .i64 (l[k].2*r[m].2)]) (fun n hn=>?_) CW6 ?_
      ·go_simp
      simp only [Act.put,MC,MU,MV];refine bD 13 ?_;intro w7 hb7
      refine wpOp_step rfl (fun K hK=>?_);go_simp;have D7:=chain D6 hb7;have CW7:=hCC _ _ CW6 hb7;have hal7:=aa w7 (.cells #[.slice a6 (l[k].1.length+r[m].1.length) c6,.int .i64 (l[k].2*r[m].2)] 63);have q8:=ak w7 #[.slice a6 (l[k].1.length+r[m].1.length) c6,.int .i64 (l[k].2*r[m].2)] 63;have D8:=chain D7 hal7;have CW8:=hCC _ _ CW7 hal7;have S8:=(S6.next hb7).next hal7;have T8:=(T6.next hb7).next hal7;refine hK _ _ ⟨CW8,?_⟩;clear hK K CW6 CW7 S6 T6
      generalize hw8:w7.alloc (.cells #[.slice a6 (l[k].1.length+r[m].1.length) c6,.int .i64 (l[k].2*r[m].2)] 63)=w8 at *;clear hw8;refine bD 14 ?_;intro w9 hb9
      have D9:=chain D8 hb9;have CW9:=hCC _ _ CW8 hb9;have S9:=S8.next hb9;have T9:=T8.next hb9;have q9:=(hb9.block _ (ae q8)).trans q8;obtain ⟨xs,o9,en9,bb9⟩:=OB.since (lo:=0) (Mj _) (Since.of D9);have zz:=D9.size;refine wpOp_step rfl (fun K hK=>?_);refine Eq.mpr (if_pos (by kernel_rfl)) ?_
      refine bW (some 43) rfl (Operand.tmp 29) (Operand.tmp 42) 37 rfl (w.heap.size+1) 63 i0 _ 2 32 Tryz.underlying37 hi hj0 hj1 hj2 rfl (by decide) u3 _ xs rfl o9 ⟨w7.heap.size,0,none⟩ 1 1 [.slice a6 (l[k].1.length+r[m].1.length) c6,.int .i64 (l[k].2*r[m].2)] rfl rfl ?Ac1 ?Ac2 ?Ac3 ?Ac4 ?Ac5 ?_
      case Ac1 =>
       intro j u hj
       match j,hj with
       | 0,hj=>simp at hj; subst hj; exact cell_of (i:=0) q9 rfl
       | 1,hj=>simp at hj; subst hj; exact cell_of (i:=1) q9 rfl
      case Ac2=>intro u hu; simp at hu; rcases hu with rfl | rfl <;> rfl
      case Ac3=>unfold maxLen; omega
      case Ac4=>omega
      case Ac5=>omega
      intro v' w10 o10 g10 at10;have CW10:w10.heap[wl.heap.size]? = some (.cells #[.slice ar l[k].1.length cr,.int .i64 l[k].2] 63 (0,0))∧w10.heap[wr.heap.size]? = some (.cells #[.slice br r[m].1.length cr2,.int .i64 r[m].2] 63 (0,0)):=⟨(g10.block _ (ae CW9.1) (fun e=>hnb.out _ e.symm rfl)).trans CW9.1,(g10.block _ (ae CW9.2) (fun e=>by have:=(hnb7.out _ e.symm).2; omega)).trans CW9.2⟩
      have p10:=(g10.block w.heap.size (by omega) (fun e=>by have:=(hnb7.out _ e.symm).1; omega)).trans ((D9.block w.heap.size (by omega)).trans pB);have OJ10:js (w.heap.size+1) w10 v' ((bX x (l.take k) r ++ cD x l[k] (r.take m)) ++ [(l[k].1 ++ r[m].1,l[k].2*r[m].2)]):=js.push o9 en9 bb9 S9 T9 (fun b o e=>ge6 b o _ _ (by rw [e])) (by simpa using o10) g10;have b10:Below wp.heap.size w9 w10:=(Md _ _).grown g10 (by have:=HI1.out.size; omega) (fun q hq=>by have:=(hnb7.out q hq).1; have:=hI.size; omega)
      have I10:di wp R rv w10:=(HI1.out.cG hn HI1.out.size D9).cG hn (Mc _) b10;have nb10:∀ g,v'.ownBlock=some g→g≠wl.heap.size:=fun g hg=>by
       rcases at10 with e | e
       ·exact hnb.out g (by rw [← e]; exact hg)
       ·rw [hg] at e; have:=MO e; omega
      refine hK _ _ ⟨CW10,?_⟩;clear hK K CW9 CW8 S9 T9 S8 T8 o9 en9 bb9 o10 at10 D9 D8 D7 D6 D5 D4 D3 q8 q9 OB;simp only [Act.put,MC,MU,MV];refine az hCC 3 15 v' (fun n hn=>?_) CW10 ?_
      ·go_simp
      simp only [Act.put,MC,MU,MV];refine bo (by kernel_rfl) ?_;intro w11 hb11;have OJ11:=OJ10.since (lo:=0) (Mj _) (Since.of hb11);have I11:Hid (di wp R rv w11):=I10.cG hn I10.size hb11;have CW11:=hCC _ _ CW10 hb11;have p11:=(hb11.block _ (ae p10)).trans p10;have nb11:=aw nb10;clear I10 OJ10 CW10 p10 hb11 g10 b10 nb10;go_wp2
      go_roundw
      case rel=>exact ⟨m+1,by omega,by go_num,by rw [HT2.out,HH.out,if_pos rfl,← List.append_assoc]; exact OJ11,I11,p11,CW11.1,nb11⟩
      case measure=>simp [intOf]; omega
     ·have hh:ax x (l[k].1 ++ r[m].1)=false:=by simpa using hh
      rw [hh] at con;have HH:=aw hh;clear hh;go_wp2_with fail
      refine con.mono ?_;rintro e w1 ⟨rfl,I1,s1⟩;have HI1:=aw I1;have OB:=OA.since (by omega) s1;have pB:=(s1.2 w.heap.size (by omega) (by omega)).trans pA;have q5B:=(s1.2 wl.heap.size (by omega) (by omega)).trans q5A;clear con I1 s1 OA pA q5A q7A x2 y0 hal;dsimp only;go_wp2
      go_roundw
      case rel=>exact ⟨m+1,by omega,by go_num,by rw [HT2.out,HH.out,if_neg (by decide),Nm]; exact OB,HI1,pB,q5B,hnb⟩
      case measure=>simp [intOf]; omega
    ·have e:m=r.length:=by omega
     subst e;rw [MB] at HO;have HO':js (w.heap.size+1) wr u3 (bX x (l.take (k+1)) r):=by rw [HT.out]; exact HO
     go_wp2
     go_roundw
     case rel=>exact ⟨k+1,by omega,by go_num,HO',HI,hp⟩
     case measure=>simp [intOf]; omega
  ·have e:k=l.length:=by omega
   subst e;rw [MB] at HO;obtain ⟨av,cv,rfl⟩:=HO.slice;go_wp2
   go_ret;exact ⟨_,rfl,HO,HI.out,NI (ae hp)⟩
theorem Ii {a b:Int} (h1:-1000000≤a) (h2:a≤1000000) (h3:-1000000≤b) (h4:b≤1000000):-1000000000000≤a*b∧a*b≤1000000000000:=by
 have ha:a.natAbs≤1000000:=by omega
 have hb:b.natAbs≤1000000:=by omega
 have:=Nat.mul_le_mul ha hb;rw [← Int.natAbs_mul] at this;omega
theorem dq.cG {af:List Int} {x:Ex} {w0 wp W:World} {a b:Option Addr} {ca cb:Nat} {l r:List Zp} {v:Value} {R rv:Nat} (h:dq af x w0 wp a b ca cb l r v R rv) (hI:di wp R rv wp) (hb:Below wp.heap.size wp W):dq af x w0 W a b ca cb l r v R rv∧di W R rv W:=by
 obtain ⟨lo,wc,hv,u,e,hn,h2,h3,h4,h5,h6,h7,h8⟩:=h;have hr:=hn.r;have hrv:=hn.v;have hI':=hI.cG hn (Mc _) hb;have z:=hb.size;exact ⟨⟨lo,wc,hv,u,e,⟨hr,by omega⟩,h2,(hb.cell (p:=⟨hv,0,none⟩) (by show hv<_; omega)).trans h3,h4,h5,h6.trans (Since.of hb),h7,chain h8 hb⟩,⟨rfl,rfl,rfl,Mc _,fun _ _ _ _=>rfl,hI'.var,hI'.Fa,hI'.room⟩⟩
theorem dq.down {af:List Int} {x:Ex} {w w0 wp:World} {a b:Option Addr} {ca cb:Nat} {l r:List Zp} {v:Value} {R rv:Nat} (h:dq af x w0 wp a b ca cb l r v R rv) (hb:Below w.heap.size w w0):dq af x w wp a b ca cb l r v R rv:=by
 obtain ⟨lo,wc,hv,u,e,hn,h2,h3,h4,h5,h6,h7,h8⟩:=h;exact ⟨lo,wc,hv,u,e,hn,h2,h3,h4,h5,h6,Mr hb.size h7,chain hb h8⟩
theorem ng {left right:List Int} {x:Ex} {l r:List Zp} (h:qe left right x l r):pG (left ++ right) l r where
 ll:=iq h.left
 rl:=iq h.right
 row p hp q hq:=by
  have h1:=(h.left.fit p hp).len;have h2:=(h.right.fit q hq).len;have:=h.len;omega
 fit p hp q hq:=ye (h.left.fit p hp) (h.right.fit q hq)
 mul p hp q hq:=by
  have h1:=mh h.left p hp;have h2:=mh h.right q hq;rw [jb] at h1 h2;exact Ii h1.1 h1.2 h2.1 h2.2
theorem AT {left right:List Int} {x:Ex} {l r:List Zp} (h:qe left right x l r):(bX x l r).length≤160000∧∀ y ∈ bX x l r,rJ y.2=true∧y.1.length≤8:=by
 have hq:=ng h;refine ⟨Mr (nY x l r) (Nat.mul_le_mul hq.ll hq.rl),fun y hy=>?_⟩;unfold bX at hy;obtain ⟨p,hp,hy⟩:=List.mem_flatMap.1 hy;unfold cD at hy;obtain ⟨q,hq',rfl⟩:=List.mem_map.1 hy;have hq'':=(List.mem_filter.1 hq').1;have h1:=hq.row p hp q hq'';exact ⟨(kD _).2 (hq.mul p hp q hq''),by simpa using h1⟩
theorem IL {left right:List Int} {x:Ex} {l r:List Zp} (what:Nat) (h:qe left right x l r):(ft what right.length x l r).length≤200000∧∀ y ∈ ft what right.length x l r,rJ y.2=true∧y.1.length≤8:=by
 have hj:=AT h;have hl:=iq h.left;have one:∀ y ∈ l,rJ y.2=true∧y.1.length≤8:=fun y hy=>⟨mW (mh h.left y hy),Ka h.left y hy⟩
 unfold ft
 split
 ·exact ⟨by omega,hj.2⟩
 split
 ·refine ⟨Mr (M5 _ _) (by omega),fun y hy=>one y (List.mem_filter.1 hy).1⟩
 split
 ·refine ⟨Mr (M5 _ _) (by omega),fun y hy=>one y (List.mem_filter.1 hy).1⟩
 ·have ha:(gC x l r).length≤l.length:=M5 _ _;refine ⟨?_,fun y hy=>?_⟩
  ·unfold rW hY;rw [Mw,MA];omega
  ·rcases List.mem_append.1 hy with hy | hy
   ·exact hj.2 y hy
   ·obtain ⟨p,hp,rfl⟩:=List.mem_map.1 hy;have hp':=(List.mem_filter.1 hp).1;have h1:=(h.left.fit p hp').len;have h2:=h.len;refine ⟨(one p hp').1,?_⟩;simp only [Mw,kN,List.length_replicate];omega
theorem j9 (what:Nat) (g:Nat) (cbs:Array Value) (left right:List Int) (x:Ex) (la:Option Addr) (lcap:Nat) (ra:Option Addr) (rcap:Nat) (xa:Option Addr) (xcap:Nat) (a:Option Addr) (ca:Nat) (l:List Zp) (b:Option Addr) (cb:Nat) (r:List Zp) (w:World)
  (hcl:bG w.heap.size w la left) (hcr:bG w.heap.size w ra right) (hx:aX w.heap.size w xa x.ks) (h:bc w a l) (h':bc w b r) (hll:left.length≤100000000000000) (hrl:right.length≤100000000000000)
  (eg:∀ args w,(callFunc g args).run Tryz.prog w = .ok (.enter g args) w)
  (hcall:∀ (W:World) (v:Value) (R rv:Nat),dq (left ++ right) x w W a b ca cb l r v R rv→di W R rv W→qe left right x l r→Calls Tryz.prog g (#[v] ++ cbs) W fun e w'=>∃ ua uc,e = .returned (.slice ua (ft what right.length x l r).length uc)∧bc w' ua (ft what right.length x l r)∧Below w.heap.size w w') :
  Calls Tryz.prog 87 #[.slice la left.length lcap,.slice ra right.length rcap,iU x.k x.v x.c xa x.ks.length xcap,.slice a l.length ca,.slice b r.length cb,.func (.func g) #[] cbs] w fun e w'=>∃ v,e = .returned (.tuple #[v,.int .i64 (cL what left right x l r)])∧dH w.heap.size w' v (ed what left right x l r)∧Below w.heap.size w w':=by
 have h1:=aa w (.cells (fS x xa xcap) 27);have con:=Bi left right x la lcap ra rcap xa xcap a ca l b cb r (w.alloc (.cells (fS x xa xcap) 27)) ((hcl.next h1 (Mc _)).up h1.size) ((hcr.next h1 (Mc _)).up h1.size) ((aX.next h1 (Mc _) hx).up h1.size) (h.next h1) (h'.next h1) hll hrl
 have HC:=aw hcall;clear hcall;generalize hfz:ed what left right x l r=fz;generalize hfe:cL what left right x l r=fe;have HZ:=aw hfz;have HF:=aw hfe;clear hfz hfe;by_cases ht:j2 left right x l r=0
 ·rw [ht] at con;have HT:=(Aq left right x l r).1 ht;have H2:=aw ht;clear ht;go_enter Tryz.func87,Tryz.ntmps87;go_wp2_with fail
  generalize w.alloc (.cells (fS x xa xcap) 27)=w1 at *;refine con.mono ?_;rintro e w2 ⟨v2,rfl,hor,hb2⟩;have PO:pE (left ++ right) x w1 w2 a b ca cb l r v2:=by
   rcases hor with ⟨_,h⟩ | ⟨c,_⟩
   ·exact h
   ·exact absurd trivial c
  clear hor;obtain ⟨R,rv,PI,I2⟩:=PO.LU;have PI:=PI.down h1;clear con PO;have hv2:∃ hv,v2 = .agg #[.slice a l.length ca,.slice b r.length cb,.func (.func 185) #[] #[.pointer (some ⟨rv,0,none⟩),.pointer (some ⟨hv,0,none⟩)]]:=by obtain ⟨_,_,hv,_,e,_⟩:=PI; exact ⟨hv,e⟩
  obtain ⟨hv,rfl⟩:=hv2;have hal2:=aa w2 (.cells #[.slice a l.length ca,.slice b r.length cb,.func (.func 185) #[] #[.pointer (some ⟨rv,0,none⟩),.pointer (some ⟨hv,0,none⟩)]] 137);obtain ⟨PI3,I3⟩:=PI.cG I2 hal2;have con:=HC.out _ _ R rv PI3 I3 HT;have hn:=IL what HT;have H3:=aw HT;clear HT PI PI3 I3 I2 hal2;dsimp only;go_wp2_with fail
  generalize w2.alloc (.cells #[.slice a l.length ca,.slice b r.length cb,.func (.func 185) #[] #[.pointer (some ⟨rv,0,none⟩),.pointer (some ⟨hv,0,none⟩)]] 137)=w3 at *;refine con.mono ?_;rintro e w4 ⟨a4,c4,rfl,zs4,hb4⟩;clear con;have con:=dP a4 c4 (ft what right.length x l r) w4 zs4 hn.1 (fun y hy=>(hn.2 y hy).1) (fun y hy=>(hn.2 y hy).2);have e0:cL what left right x l r=bh (ft what right.length x l r):=by unfold cL; rw [H2.out,if_neg (by simp)]
  have e1:bT (ft what right.length x l r)=fz:=by rw [← HZ.out]; unfold ed bT; rw [e0]
  rw [← e0,HF.out,e1] at con;clear e0 e1 zs4 hn;generalize (ft what right.length x l r).length=nl at *;dsimp only;go_wp2_with fail
  refine con.mono ?_;rintro e w5 ⟨v5,rfl,O5,hb5⟩;have O5':=O5.mono hb4.size;obtain ⟨a5,c5,rfl,_⟩:=O5.zs;clear con O5;dsimp only;go_wp2
  exact Me (v:=.tuple #[.slice a5 fz.length c5,.int .i64 fe]) (by simp [results,Tryz.results87,go_sem]) rfl ⟨_,rfl,O5',chain hb4 hb5⟩
 ·have e0:fe=j2 left right x l r:=by rw [← HF.out]; unfold cL; rw [if_pos ht]
  have e1:fz = []:=by rw [← HZ.out]; unfold ed; rw [if_neg (by rw [HF.out,e0]; exact ht)]
  rw [← e0] at con ht;have hne:(fe != 0)=true:=by simpa using ht
  subst e1;clear e0;go_enter Tryz.func87,Tryz.ntmps87;go_wp2_with fail
  generalize w.alloc (.cells (fS x xa xcap) 27)=w1 at *;refine con.mono ?_;rintro e w2 ⟨v2,rfl,hor,hb2⟩;obtain ⟨c,_⟩ | ⟨_,rfl⟩:=hor
  ·exact absurd c ht
  clear con;dsimp only;go_wp2
  exact Me (v:=.tuple #[.slice none 0 0,.int .i64 fe]) (by simp [results,Tryz.results87,go_sem]) rfl ⟨_,rfl,⟨[],by simpa using MM _ _ _ _,⟨rfl,fun i hi=>by simp at hi⟩⟩,(chain h1 hb2).alloc (by have:=(chain h1 hb2).size; omega) _⟩
theorem Ao (left right:List Int) (x:Ex) (la:Option Addr) (lcap:Nat) (ra:Option Addr) (rcap:Nat) (xa:Option Addr) (xcap:Nat) (a:Option Addr) (ca:Nat) (l:List Zp) (b:Option Addr) (cb:Nat) (r:List Zp) (w:World)
  (hcl:bG w.heap.size w la left) (hcr:bG w.heap.size w ra right) (hx:aX w.heap.size w xa x.ks) (h:bc w a l) (h':bc w b r) (hll:left.length≤100000000000000) (hrl:right.length≤100000000000000) :
  Calls Tryz.prog 54 #[.slice la left.length lcap,.slice ra right.length rcap,iU x.k x.v x.c xa x.ks.length xcap,.slice a l.length ca,.slice b r.length cb] w fun e w'=>∃ v,e = .returned (.tuple #[v,.int .i64 (cL 0 left right x l r)])∧dH w.heap.size w' v (ed 0 left right x l r)∧Below w.heap.size w w':=by
 have h1:=aa w (.cells (fS x xa xcap) 27);have zs1:=h.next h1;have zs1':=h'.next h1;have con:=j9 0 88 #[] left right x la lcap ra rcap xa xcap a ca l b cb r (w.alloc (.cells (fS x xa xcap) 27)) ((hcl.next h1 (Mc _)).up h1.size) ((hcr.next h1 (Mc _)).up h1.size) ((aX.next h1 (Mc _) hx).up h1.size) zs1 zs1' hll hrl (enters_of Tryz.func88 (by kernel_rfl) rfl) (fun W v R rv hP hI hT=>by
  refine (rU (left ++ right) x _ W W a b ca cb l r v R rv hP hI zs1 zs1' (ng hT)).mono ?_;rintro e w' ⟨u,rfl,OJ,I',z'⟩;obtain ⟨_,_,_,_,_,hn,_,_,_,_,_,hR,hB⟩:=hP;obtain ⟨ua,uc,rfl,zu⟩:=OJ.z.zs;exact ⟨ua,uc,rfl,zu,hB.trans ((I'.below hn).mono hR)⟩)
 generalize hfz:ed 0 left right x l r=fz at *;generalize hfe:cL 0 left right x l r=fe at *;clear hfz hfe;go_enter Tryz.func54,Tryz.ntmps54;go_wp2_with fail
 generalize w.alloc (.cells (fS x xa xcap) 27)=w1 at *;refine con.mono ?_;rintro e w2 ⟨v2,rfl,O2,hb2⟩;have O2':=O2.mono h1.size;obtain ⟨a2,c2,rfl,_⟩:=O2.zs;clear con O2;dsimp only;go_wp2
 exact Me (v:=.tuple #[.slice a2 fz.length c2,.int .i64 fe]) (by simp [results,Tryz.results54,go_sem]) rfl ⟨_,rfl,O2',chain h1 hb2⟩
def oa (p:Zp→Bool):Nat→List Zp→Int
 | _,[]=>-1
 | k,y :: r=>if p y then k else oa p (k+1) r
theorem uX (p:Zp→Bool):∀ (k:Nat) (l:List Zp),decide (0≤oa p k l)=l.any p
 | _,[]=>rfl
 | k,y :: r=>by
  rw [oa,List.any_cons,← uX p (k+1) r]
  cases p y <;> simp
theorem CP (p:Zp→Bool) {l:List Zp} {k:Nat} (h:k<l.length):oa p k (l.drop k)=if p l[k] then (k:Int) else oa p (k+1) (l.drop (k+1)):=by
 rw [Mi h,oa]
theorem Fu (g:Nat) (cb:Array Value) (p:Zp→Bool) (a:Option Addr) (cap:Nat) (l:List Zp) (w0 w:World) (Inv:World→Prop) (h:bc w0 a l) (hl:l.length≤100000)
  (eg:∀ args w,(callFunc g args).run Tryz.prog w = .ok (.enter g args) w) (hI0:Inv w) (hI1:∀ W,Inv W→Below w0.heap.size w0 W)
  (hcall:∀ x ∈ l,∀ (ra:Option Addr) (rc:Nat) (W:World),Inv W→bg w0 ra x.1→w.heap.size≤W.heap.size→Calls Tryz.prog g (#[.agg #[.slice ra x.1.length rc,.int .i64 x.2]] ++ cb) W fun e w'=>e = .returned (.bool (p x))∧Inv w'∧w.heap.size≤w'.heap.size) :
  Calls Tryz.prog 186 #[.slice a l.length cap,.func (.func g) #[] cb] w fun e w'=>e = .returned (.int .i64 (oa p 0 l))∧Inv w'∧w.heap.size≤w'.heap.size:=by
 have HC:=aw hcall;have H1:=aw hI1;clear hcall hI1;generalize hf:oa p 0 l=f;have HF:=aw hf;clear hf;go_enter Tryz.func186,Tryz.ntmps186;go_wp2_with fail
 go_loopw [8] (fun i wr=>∃ k:Nat,k≤l.length∧i = .int .i64 k∧Hid (f=oa p k (l.drop k))∧Hid (Inv wr)∧w.heap.size≤wr.heap.size) (fun i _=>l.length - (intOf i).toNat)
 case atStart=>exact ⟨0,Mj _,rfl,HF.out.symm,hI0,Mc _⟩
 case round =>
  clear hI0;obtain ⟨k,hk,rfl,HK,HI,hz⟩:=hrel;by_cases hlt:k<l.length
  ·obtain ⟨b,off,rfl,hbl,d1,ar,cr,d0,sr⟩:=h.elem hlt;have hB:=H1.out _ HI.out;have c1:=(hB.cell (p:=⟨b,_,none⟩) hbl).trans d1;have c0:=(hB.cell (p:=⟨b,_,none⟩) hbl).trans d0;have con:=HC.out l[k] (Mk hlt) ar cr wr HI.out sr hz;have HD:Hid (oa p k (l.drop k)=if p l[k] then (k:Int) else oa p (k+1) (l.drop (k+1))):=CP p hlt;clear d0 d1 sr;by_cases hp:p l[k]=true
   ·rw [hp] at con;have HP:=aw hp;clear hp;have e:f=(k:Int):=by rw [HK.out,HD.out,HP.out,if_pos rfl]
    go_wp2_with (go_at_fn g; refine con.mono ?_; rintro e w1 ⟨rfl,I1,s1⟩)
    go_ret;exact ⟨by rw [e]; rfl,I1,s1⟩
   ·have hp:p l[k]=false:=by simpa using hp
    rw [hp] at con;have HP:=aw hp;clear hp;have HE:Hid (f=oa p (k+1) (l.drop (k+1))):=by show f=_; rw [HK.out,HD.out,HP.out,if_neg (by decide)]
    go_wp2_with (go_at_fn g; refine con.mono ?_; rintro e w1 ⟨rfl,I1,s1⟩)
    have HI1:=aw I1;clear con I1;go_roundw
    case rel=>exact ⟨k+1,by omega,by go_num,HE,HI1,s1⟩
    case measure=>simp [intOf]; omega
  ·have e:k=l.length:=by omega
   subst e;have e:f = -1:=by rw [HK.out,List.drop_length]; rfl
   go_wp2
   go_ret;exact ⟨by rw [e]; rfl,HI.out,hz⟩
theorem uS (g:Nat) (cb:Array Value) (p:Zp→Bool) (a:Option Addr) (cap:Nat) (l:List Zp) (w0 w:World) (Inv:World→Prop) (h:bc w0 a l) (hl:l.length≤100000)
  (eg:∀ args w,(callFunc g args).run Tryz.prog w = .ok (.enter g args) w) (hI0:Inv w) (hI1:∀ W,Inv W→Below w0.heap.size w0 W)
  (hcall:∀ x ∈ l,∀ (ra:Option Addr) (rc:Nat) (W:World),Inv W→bg w0 ra x.1→w.heap.size≤W.heap.size→Calls Tryz.prog g (#[.agg #[.slice ra x.1.length rc,.int .i64 x.2]] ++ cb) W fun e w'=>e = .returned (.bool (p x))∧Inv w'∧w.heap.size≤w'.heap.size) :
  Calls Tryz.prog 156 #[.slice a l.length cap,.func (.func g) #[] cb] w fun e w'=>e = .returned (.bool (l.any p))∧Inv w'∧w.heap.size≤w'.heap.size:=by
 have con:=Fu g cb p a cap l w0 w Inv h hl eg hI0 hI1 hcall;have ha:=uX p 0 l;generalize oa p 0 l=f at *;rw [← ha];clear hcall hI1 hI0 ha;go_enter Tryz.func156,Tryz.ntmps156;go_wp2_with fail
 refine con.mono ?_;rintro e w1 ⟨rfl,I1,s1⟩;have H1:=aw I1;clear con I1;go_wp2
 go_ret;exact ⟨rfl,H1.out,s1⟩
theorem qN (ra:Option Addr) (n rc:Nat) (x:Int) (w:World) :
  Calls Tryz.prog 116 #[.agg #[.slice ra n rc,.int .i64 x]] w fun e w'=>e = .returned (.bool (decide (0<x)))∧Below w.heap.size w w':=by
 go_enter Tryz.func116,Tryz.ntmps116;go_wp2
 go_ret;exact ⟨rfl,(Md _ _).alloc (Mc _) _⟩
theorem vM (af:List Int) (lo:Nat) (x:Ex) (wc wp w0:World) (R rv hv:Nat) (u:Value) (hn:ob wp R rv) (hv0:hv<R) (hc:wp.cell? ⟨hv,0,none⟩=some u) (hC:ki af lo u x wc) (hcR:wc.heap.size≤R) (hcp:Since lo wc wp) (h0:w0.heap.size≤R) (h0p:Below w0.heap.size w0 wp)
  (a b:Option Addr) (ca cb:Nat) (l r:List Zp) (pb lb:Nat) (pa qa:Option Addr) (pc qc:Nat) (y q:Zp) (W:World) (hI:di wp R rv W) (sy:bg w0 pa y.1) (sq:bg w0 qa q.1) (h8:y.1.length+q.1.length≤8) (hf:fM af (y.1 ++ q.1))
  (cp:W.heap[pb]? = some (.cells #[.slice a l.length ca,.slice b r.length cb,.func (.func 185) #[] #[.pointer (some ⟨rv,0,none⟩),.pointer (some ⟨hv,0,none⟩)]] 137 (0,0))) (cl:W.heap[lb]? = some (.cells #[.slice pa y.1.length pc,.int .i64 y.2] 63 (0,0))) :
  Calls Tryz.prog 157 #[.agg #[.slice qa q.1.length qc,.int .i64 q.2],.pointer (some ⟨pb,0,none⟩),.pointer (some ⟨lb,0,none⟩)] W fun e w'=>e = .returned (.bool (decide (0<q.2) && ax x (y.1 ++ q.1)))∧di wp R rv w'∧Since (rv+1) W w':=by
 have h1:=aa W (.cells #[.slice qa q.1.length qc,.int .i64 q.2] 63);have q1:=ak W #[.slice qa q.1.length qc,.int .i64 q.2] 63;have p1:=(h1.block pb (ae cp)).trans cp;have l1:=(h1.block lb (ae cl)).trans cl;have I1:di wp R rv (W.alloc (.cells #[.slice qa q.1.length qc,.int .i64 q.2] 63)):=hI.cG hn hI.size h1;have e1:(W.alloc (.cells #[.slice qa q.1.length qc,.int .i64 q.2] 63)).heap.size=W.heap.size+1:=by simp
 have hrv:=hI.sz hn;generalize hans:(decide (0<q.2) && ax x (y.1 ++ q.1))=ans;have HA:=aw hans;clear hans;go_enter Tryz.func157,Tryz.ntmps157;go_wp2_with fail
 generalize W.alloc (.cells #[.slice qa q.1.length qc,.int .i64 q.2] 63)=w1 at *;refine (qN qa q.1.length qc q.2 w1).mono ?_;rintro e w2 ⟨rfl,hb2⟩;have q2:=(hb2.block _ (ae q1)).trans q1;have p2:=(hb2.block _ (ae p1)).trans p1;have l2:=(hb2.block _ (ae l1)).trans l1;have I2:=I1.cG hn I1.size hb2;have S2:Since (rv+1) W w2:=Since.of (chain h1 hb2);have k0:w2.cell? ⟨pb,2,none⟩=some (.func (.func 185) #[] #[.pointer (some ⟨rv,0,none⟩),.pointer (some ⟨hv,0,none⟩)]):=cell_of (i:=2) p2 rfl
 have k1:w2.cell? ⟨lb,0,none⟩=some (.slice pa y.1.length pc):=cell_of (i:=0) l2 rfl;have k2:w2.cell? ⟨W.heap.size,0,none⟩=some (.slice qa q.1.length qc):=cell_of (i:=0) q2 rfl;have con:=wZ af lo x wc wp w0 R rv hv u hn hv0 hc hC hcR hcp h0 h0p pa qa pc qc y.1 q.1 w2 I2 sy sq h8 hf;generalize hhp:ax x (y.1 ++ q.1)=t at *;clear hhp;have HI2:=aw I2;clear q1 p1 l1 I1 q2 p2 l2 I2 hC hI cp cl;dsimp only;by_cases hq:0<q.2
 ·have hd:decide (0<q.2)=true:=by simpa using hq
  rw [hd];have ea:t=ans:=by rw [← HA.out,hd,Bool.true_and]
  subst ea;go_wp2_with fail
  refine con.mono ?_;rintro e w3 ⟨rfl,I3,S3⟩;have HI3:=aw I3;have S4:=S2.trans S3;clear con I3;dsimp only;go_wp2
  go_ret;exact ⟨rfl,HI3.out,S4⟩
 ·have hd:decide (0<q.2)=false:=by simpa using hq
  rw [hd];have ea:ans=false:=by rw [← HA.out,hd,Bool.false_and]
  subst ea;clear con;go_wp2
  go_ret;exact ⟨rfl,HI2.out,S2⟩
theorem mP (af:List Int) (x:Ex) (w0 wp w:World) (a b:Option Addr) (ca cb:Nat) (l r:List Zp) (v:Value) (R rv:Nat) (hP:dq af x w0 wp a b ca cb l r v R rv) (hI:di wp R rv w) (zb:bc w0 b r) (hr:r.length≤400) (pa:Option Addr) (pc:Nat) (y:Zp) (sy:bg w0 pa y.1) (h8:∀ q ∈ r,y.1.length+q.1.length≤8) (hf:∀ q ∈ r,fM af (y.1 ++ q.1)) :
  Calls Tryz.prog 121 #[v,.agg #[.slice pa y.1.length pc,.int .i64 y.2]] w fun e w'=>e = .returned (.bool (j4 x r y.1))∧di wp R rv w'∧Since (rv+1) w w':=by
 obtain ⟨lo,wc,hv,u,rfl,hn,hv0,hc,hC,hcR,hcp,h0,h0p⟩:=hP;have hrv:=hI.sz hn;have h1:=aa w (.cells #[.slice a l.length ca,.slice b r.length cb,.func (.func 185) #[] #[.pointer (some ⟨rv,0,none⟩),.pointer (some ⟨hv,0,none⟩)]] 137);have p1:=ak w #[.slice a l.length ca,.slice b r.length cb,.func (.func 185) #[] #[.pointer (some ⟨rv,0,none⟩),.pointer (some ⟨hv,0,none⟩)]] 137
 have e1:(w.alloc (.cells #[.slice a l.length ca,.slice b r.length cb,.func (.func 185) #[] #[.pointer (some ⟨rv,0,none⟩),.pointer (some ⟨hv,0,none⟩)]] 137)).heap.size=w.heap.size+1:=by simp
 generalize hans:j4 x r y.1=t;have HA:=aw hans;clear hans;go_enter Tryz.func121,Tryz.ntmps121;go_wp2_with fail
 generalize w.alloc (.cells #[.slice a l.length ca,.slice b r.length cb,.func (.func 185) #[] #[.pointer (some ⟨rv,0,none⟩),.pointer (some ⟨hv,0,none⟩)]] 137)=w1 at *;have h2:=aa w1 (.cells #[.slice pa y.1.length pc,.int .i64 y.2] 63);have l2:=ak w1 #[.slice pa y.1.length pc,.int .i64 y.2] 63;have e2:(w1.alloc (.cells #[.slice pa y.1.length pc,.int .i64 y.2] 63)).heap.size=w1.heap.size+1:=by simp
 have p2:=(h2.block _ (ae p1)).trans p1;generalize w1.alloc (.cells #[.slice pa y.1.length pc,.int .i64 y.2] 63)=w2 at *;rw [e1] at l2;have I2:di wp R rv w2:=hI.cG hn hI.size (chain h1 h2);refine (uS 157 #[.pointer (some ⟨w.heap.size,0,none⟩),.pointer (some ⟨w.heap.size+1,0,none⟩)] (fun q=>decide (0<q.2) && ax x (y.1 ++ q.1)) b cb r w0 w2 (fun W=>di wp R rv W∧Since (rv+1) w2 W) zb (by omega) (enters_of Tryz.func157 (by kernel_rfl) rfl) ⟨I2,Since.refl _ _⟩ (fun W hW=>h0p.trans ((hW.1.below hn).mono h0)) ?_).mono ?_
 ·intro q hq qa qc W hW sq _;refine (vM af lo x wc wp w0 R rv hv u hn hv0 hc hC hcR hcp h0 h0p a b ca cb l r w.heap.size (w.heap.size+1) pa qa pc qc y q W hW.1 sy sq (h8 q hq) (hf q hq) ((hW.2.2 w.heap.size (by omega) (by omega)).trans p2) ((hW.2.2 (w.heap.size+1) (by omega) (by omega)).trans l2)).mono ?_;rintro e w' ⟨rfl,I',S'⟩;exact ⟨rfl,⟨I',hW.2.trans S'⟩,by have:=hW.2.1; have:=S'.1; omega⟩
 rintro e w3 ⟨rfl,⟨I3,S3⟩,_⟩;have HI3:=aw I3;have S4:Since (rv+1) w w3:=(Since.of (chain h1 h2)).trans S3;have ha:(r.any fun q=>decide (0<q.2) && ax x (y.1 ++ q.1))=t:=HA.out;rw [ha];clear p1 p2 l2 I2 I3 ha hC hI;dsimp only;go_wp2
 go_ret;exact ⟨rfl,HI3.out,S4⟩
def Em (w0 W:World) (xs:List Value) (l:List Kp):Prop:=xs.length=l.length*3∧∀ i (hi:i<l.length),∃ ka kc ra rc,xs[i*3]? = some (.slice ka l[i].1.length kc)∧xs[i*3+1]? = some (.slice ra l[i].2.1.length rc)∧xs[i*3+2]? = some (.int .i64 l[i].2.2)∧(bg W ka l[i].1∧gp W ka)∧bg w0 ra l[i].2.1
def nE (w0:World) (base:Nat) (W:World) (v:Value) (l:List Kp):Prop:=∃ xs,W.ownsRow base 132 3 v l.length xs∧Em w0 W xs l
theorem nE.nil (w0:World) (base:Nat) (W:World):nE w0 base W (.slice none 0 0) []:=⟨[],by simpa using MM _ _ _ _,rfl,fun i hi=>by simp at hi⟩
theorem Em.next {w0 W w1:World} {xs:List Value} {l:List Kp} (h:Em w0 W xs l) (hb:Below W.heap.size W w1):Em w0 w1 xs l:=by
 obtain ⟨h2,h3⟩:=h;refine ⟨h2,fun i hi=>?_⟩;obtain ⟨ka,kc,ra,rc,e0,e1,e2,⟨e3,e4⟩,e5⟩:=h3 i hi;exact ⟨ka,kc,ra,rc,e0,e1,e2,⟨e3.next hb,e4.next hb⟩,e5⟩
theorem nE.next {w0 W w1:World} {base:Nat} {v:Value} {l:List Kp} (h:nE w0 base W v l) (hb:Below W.heap.size W w1):nE w0 base w1 v l:=by
 obtain ⟨xs,h1,h2⟩:=h;exact ⟨xs,bp h1 hb,h2.next hb⟩
theorem sB {W w1:World} {base n:Nat} {v:Value} {xs:List Value} {a:Option Addr} {r:List Vl} (h:bg W a r) (ht:gp W a) (ho:W.ownsRow base 132 3 v n xs) (hg:W.grownBy w1 v.ownBlock):bg w1 a r∧gp w1 a:=by
 have key:∀ b off,a=some ⟨b,off,none⟩→w1.heap[b]? = W.heap[b]?:=by
  intro b off e;obtain ⟨c,z,h1⟩:=ht b off e;have hlt:b<W.heap.size:=ae h1;refine hg.block b hlt ?_;obtain ⟨_,⟨rfl,_⟩ | ⟨g,cap,cur,rfl,_,hh,_⟩⟩:=ho
  ·simp [Value.ownBlock]
  ·simp only [Value.ownBlock];intro e;injection e with e
   subst e;rw [hh] at h1;simp at h1
 refine ⟨⟨h.1,?_⟩,?_⟩
 ·rcases h.2 with h | ⟨b,off,e,hr,hlt⟩
  ·exact .inl h
  ·refine .inr ⟨b,off,e,fun i hi=>?_,Mh hlt hg.size⟩;have k:=key b off e;obtain ⟨c0,c1,c2⟩:=hr i hi;exact ⟨(Mv (a:=⟨b,_,none⟩) k).trans c0,(Mv (a:=⟨b,_,none⟩) k).trans c1,(Mv (a:=⟨b,_,none⟩) k).trans c2⟩
 ·intro b off e;obtain ⟨c,z,h1⟩:=ht b off e;exact ⟨c,z,(key b off e).trans h1⟩
theorem nE.push {w0 W w1:World} {base:Nat} {v v':Value} {xs:List Value} {l:List Kp} {ka ra:Option Addr} {kc rc:Nat} {x:Kp}
  (ho:W.ownsRow base 132 3 v l.length xs) (he:Em w0 W xs l) (hs:bg W ka x.1) (ht:gp W ka) (hr:bg w0 ra x.2.1)
  (ho':w1.ownsRow base 132 3 v' (l.length+1) (xs ++ [.slice ka x.1.length kc,.slice ra x.2.1.length rc,.int .i64 x.2.2])) (hg:W.grownBy w1 v.ownBlock):nE w0 base w1 v' (l ++ [x]):=by
 have lx:=he.1;refine ⟨_,by simpa using ho',by simp [he.1]; omega,?_⟩;intro i hi;by_cases hi':i<l.length
 ·obtain ⟨ka',kc',ra',rc',h1,h2,h3,⟨h4,h5⟩,h6⟩:=he.2 i hi';have g:=sB h4 h5 ho hg;rw [Mz hi'];exact ⟨ka',kc',ra',rc',by rw [Mx (by omega),h1],by rw [Mx (by omega),h2],by rw [Mx (by omega),h3],g,h6⟩
 ·have:i=l.length:=by simp at hi; omega
  subst this;have g:=sB hs ht ho hg;refine ⟨ka,kc,ra,rc,?_,?_,?_,?_,?_⟩
  ·rw [My (by omega)]; simp [lx]
  ·rw [My (by omega)]; simp [lx]
  ·rw [My (by omega)]; simp [lx]
  ·simpa using g
  ·simpa using hr
theorem zP {xs:List Ex} {m:List Zp} {k:Nat} (h:k<m.length):((m.take (k+1)).map fun p=>(fj xs p.1,p))=((m.take k).map fun p=>(fj xs p.1,p)) ++ [(fj xs m[k].1,m[k])]:=by
 rw [Mp h,M7]; rfl
theorem KW:(Tryz.prog.info? 132).map (fun i=>(i.zero,i.size,i.bytes))=some (some (.agg #[.slice none 0 0,.slice none 0 0,.int .i64 0]),3,56):=by kernel_rfl
theorem nE.arr {w0 W:World} {base:Nat} {v:Value} {l:List Kp} (h:nE w0 base W v l) (hb:Below w0.heap.size w0 W) (hbs:w0.heap.size≤base):(l = []∧v = .slice none 0 0)∨∃ (g cap:Nat) (d:Array (Kg W g)),v = .slice (some ⟨g,0,none⟩) l.length cap∧base≤g∧g<W.heap.size∧d.size=l.length∧d.toList.map (JJ W g)=l∧Go.Sort.HoldsK (mg W g) 3 W g 0 d:=by
 obtain ⟨xs,h1,h2,h3⟩:=h;have h1':=h1;obtain ⟨hx,⟨rfl,h0⟩ | ⟨g,cap,cur,rfl,hg,hh,hn,hc,hs,ht⟩⟩:=h1
 ·exact .inl ⟨Mo h0,rfl⟩
 ·right;have offK:∀ a r,gp W a→KL g a r:=fun a r ha=>.inr fun b off e hbg=>by
   obtain ⟨c,z,h1⟩:=ha b off e;rw [hbg,hh] at h1;simp at h1
  have offR:∀ a r,bg w0 a r→KL g a r:=fun a r ha=>by
   rcases ha.2 with e | ⟨b,o,e,hr,hlt⟩
   ·exact .inl e
   ·exact .inr fun b' o' e' hbg=>by
     rw [e] at e';have e':=MO e';injection e' with e1
     have:=(h1'.lt g rfl).1;omega
  obtain ⟨f,hf⟩:=Go.Deep.choose_lt (α:=Kg W g) (n:=l.length) (p:=fun i x=>∀ hi:i<l.length,JJ W g x=l[i]∧xs[i*3]? = some (.slice x.1.ka x.1.keys.length x.1.kc)∧xs[i*3+1]? = some (.slice x.1.ra x.1.row.length x.1.rc)∧xs[i*3+2]? = some (.int .i64 x.1.w)) (fun i hi=>by
   obtain ⟨ka,kc,ra,rc,e0,e1,e2,⟨e3,e4⟩,e5⟩:=h3 i hi;exact ⟨⟨⟨ka,kc,l[i].1,ra,rc,l[i].2.1,l[i].2.2⟩,⟨e3,offK _ _ e4⟩,e5.next hb,offR _ _ e5⟩,fun _=>⟨rfl,e0,e1,e2⟩⟩)
  have hd:∀ i,i<l.length→((Array.range l.length).map f)[i]! = f i:=fun i hi=>by simp [hi]
  refine ⟨g,cap,(Array.range l.length).map f,rfl,(h1'.lt g rfl).1,(h1'.lt g rfl).2,by simp,?_,?_⟩
  ·apply List.ext_getElem
   ·simp
   ·intro i g1 g2;have:=(hf i g2 g2).1
    simpa using this
  ·intro j hj;have hj':j<l.length*3:=by simpa using hj
   refine ⟨?_,by rw [Mq]; exact h1'.frozenAt j⟩;have hi:j / 3<l.length:=by omega
   obtain ⟨_,g0,g1,g2⟩:=hf (j / 3) hi hi;rw [Mq,h1'.cellAt j hj'];show _=some (Go.Sort.flatK (mg W g) 3 ((Array.range l.length).map f))[j]!;rw [Go.Sort.get_flatK _ _ _ _ (by simpa using hj'),hd _ hi];have h3':j % 3=0∨j % 3=1∨j % 3=2:=by omega
   rcases h3' with e | e | e
   ·rw [e]; rw [show j / 3*3=j by omega] at g0; rw [g0]; rfl
   ·rw [e]; rw [show j / 3*3+1=j by omega] at g1; rw [g1]; rfl
   ·rw [e]; rw [show j / 3*3+2=j by omega] at g2; rw [g2]; rfl
theorem C6 {w W:World} {g:Nat} {d:Array (Kg w g)} (hS:SWK (mg w g) 3 w g 0 d W) (hH:Go.Sort.HoldsK (mg w g) 3 W g 0 d) (hlt:g<W.heap.size):uq W (some ⟨g,0,none⟩) (d.toList.map (JJ w g)):=by
 refine .inr ⟨g,0,rfl,hlt,fun i hi=>?_⟩;have hi':i<d.size:=by simpa using hi
 have e:d[i]! = d[i]:=getElem!_pos d i hi';have h0:=(hH (i*3) (by simp; omega)).1;have h1:=(hH (i*3+1) (by simp; omega)).1;have h2:=(hH (i*3+2) (by simp; omega)).1;show KI W g (0+i*3) _;rw [Go.Sort.get_flatK _ _ _ _ (by omega),show i*3 / 3=i by omega,show i*3 % 3=0 by omega,e] at h0;rw [Go.Sort.get_flatK _ _ _ _ (by omega),show (i*3+1) / 3=i by omega,show (i*3+1) % 3=1 by omega,e,← NF] at h1;rw [Go.Sort.get_flatK _ _ _ _ (by omega),show (i*3+2) / 3=i by omega,show (i*3+2) % 3=2 by omega,e,← NF] at h2;simp only [MY,Ni]
 exact ⟨h2,⟨d[i].1.ra,d[i].1.rc,h1,lB d[i].2.2.1 d[i].2.2.2 hS⟩,d[i].1.ka,d[i].1.kc,h0,lB d[i].2.1.1 d[i].2.1.2 hS⟩
theorem HJ {W:World} {g:Nat} {d:Array (Kg W g)} (hH:Go.Sort.HoldsK (mg W g) 3 W g 0 d) (hlt:g<W.heap.size):RowK (mg W g) 3 W g 0 d where
 hk _:=rfl
 h1 x v hv:=by simp [mg] at hv; rcases hv with rfl | rfl | rfl <;> rfl
 hH:=hH
 hblk:=hlt
theorem ordered {W:World} {g:Nat} {d d':Array (Kg W g)} {xs:List Ex} {z:List Zp} (hz:iH z) (hd:d.toList.map (JJ W g)=i6 xs z) (hp:Go.Sort.PermIn 0 d.size d d') (hs:aO (Jo W g) (Ff W g) 0 d.size d'):d'.toList.map (JJ W g)=bj xs z:=by
 have hl:d'.size=d.size:=hp.1;refine oU _ _ ?_ ?_ (tF hz)
 ·refine List.Perm.trans ?_ ((jQ xs z).symm);rw [← hd];refine List.Perm.map _ ?_;have:=hp.2.2;rw [Array.extract_eq_self_of_le (by omega),Array.extract_eq_self_of_le (by omega)] at this;exact this
 ·rw [List.pairwise_map,List.pairwise_iff_getElem];intro i j hi hj hij;have hi':i<d'.size:=by simpa using hi
  have hj':j<d'.size:=by simpa using hj
  have:=hs i j (Mj _) hij (by omega);rw [getElem!_pos d' i hi',getElem!_pos d' j hj'] at this;exact this
theorem IS {W:World} {g:Nat} {d:Array (Kg W g)} {xs:List Ex} {z:List Zp} (hz:iH z) (hd:d.toList.map (JJ W g)=i6 xs z):vY (Ff W g) 0 d.size d:=fun i j _ hij hj=>by
 have hr:=qu (xs:=xs) hz
 rw [← hd,List.pairwise_map,List.pairwise_iff_getElem] at hr
 have:=hr i j (by simpa using (by omega:i<d.size)) (by simpa using hj) hij
 rw [getElem!_pos d i (by omega),getElem!_pos d j hj]
 exact this
theorem Bn (W:World) (g cap:Nat) (d:Array (Kg W g)) (xs:List Ex) (z:List Zp) (hz:iH z) (hl:d.size≤1000000) (hlt:g<W.heap.size) (hd:d.toList.map (JJ W g)=i6 xs z) (hH:Go.Sort.HoldsK (mg W g) 3 W g 0 d) (w0:World) (hw:w0.heap.size≤g) (hb:Below w0.heap.size w0 W) :
  Calls Tryz.prog 117 #[.slice (some ⟨g,0,none⟩) d.size cap,.func (.func 118) #[] #[]] W fun e w'=>e = .returned (.tuple #[])∧uq w' (some ⟨g,0,none⟩) (bj xs z)∧Below w0.heap.size w0 w':=by
 have R:=HJ hH hlt;have eg:∀ args w,(callFunc 118 args).run Tryz.prog w = .ok (.enter 118 args) w:=enters_of Tryz.func118 (by kernel_rfl) rfl
 have eSw:∀ args w,(callFunc 209 args).run Tryz.prog w = .ok (.enter 209 args) w:=enters_of Tryz.func209 (by kernel_rfl) rfl
 have eRo:∀ args w,(callFunc 203 args).run Tryz.prog w = .ok (.enter 203 args) w:=enters_of Tryz.func203 (by kernel_rfl) rfl
 have eSy:∀ args w,(callFunc 184 args).run Tryz.prog w = .ok (.enter 184 args) w:=enters_of Tryz.func184 (by kernel_rfl) rfl
 have eIn:∀ args w,(callFunc 183 args).run Tryz.prog w = .ok (.enter 183 args) w:=enters_of Tryz.func183 (by kernel_rfl) rfl
 have eSt:∀ args w,(callFunc 154 args).run Tryz.prog w = .ok (.enter 154 args) w:=enters_of Tryz.func154 (by kernel_rfl) rfl
 refine (rD 3 Tryz.K0 (mg W g) (AI W g) 118 #[] g 0 cap d W hl (SWK.start hH) (IS hz hd) eIn eSy eSt (Jy W g 0 cap d R hl) (Er 3 Tryz.K0 (mg W g) (Jo W g) (Ff W g) (AI W g) 118 #[] g 0 cap d W (by omega) eg (EW W g 0 d.size) R eSw eRo eSy)).mono ?_;rintro e w' ⟨rfl,d',hp,hs,S⟩;refine ⟨rfl,?_,zR hb hw S⟩;rw [← ordered hz hd hp hs];exact C6 S (S.holds hlt hH hp.1) (S.lt hlt)
theorem yx (cap:Nat) (w:World):Calls Tryz.prog 183 #[.slice none 0 cap,.int .i64 0,.int .i64 0,.func (.func 118) #[] #[]] w fun e w'=>e = .returned (.tuple #[])∧w'=w:=by
 go_enter Tryz.func183,Tryz.ntmps183;go_wp2
 refine wp_loop_rounds 1 ?_;rw [NH];go_wp2
 go_end0
 exact ⟨rfl,rfl⟩
theorem rF (cap:Nat) (w:World):Calls Tryz.prog 154 #[.slice none 0 cap,.int .i64 0,.func (.func 118) #[] #[]] w fun e w'=>e = .returned (.tuple #[])∧w'=w:=by
 go_enter Tryz.func154,Tryz.ntmps154;go_wp2
 refine wp_loop_rounds 1 ?_;rw [NH];go_wp2_with fail
 refine (yx cap w).mono ?_;rintro e w1 ⟨rfl,rfl⟩;dsimp only;go_wp2
 refine wp_loop_rounds 1 ?_;rw [NH];go_wp2
 go_end0
 exact ⟨rfl,rfl⟩
theorem uL (cap:Nat) (w:World):Calls Tryz.prog 117 #[.slice none 0 cap,.func (.func 118) #[] #[]] w fun e w'=>e = .returned (.tuple #[])∧Below w.heap.size w w':=by
 go_enter Tryz.func117,Tryz.ntmps117;go_wp2_with fail
 refine (rF cap w).mono ?_;rintro e w1 ⟨rfl,rfl⟩;dsimp only;go_wp2
 go_end0
 exact ⟨rfl,Md _ _⟩
theorem rh (af:List Int) (xs:List Ex) (u:Value) (lo:Nat) (a:Option Addr) (cap:Nat) (l:List Zp) (w:World) (hu:ko af lo u xs w) (hz:kj af l) (h:bc w a l) :
  Calls Tryz.prog 85 #[.slice a l.length cap,u] w fun e w'=>∃ a' c',e = .returned (.slice a' (bj xs l).length c')∧uq w' a' (bj xs l)∧Below w.heap.size w w':=by
 obtain ⟨i0,hi,hj0,hj1,hj2⟩:=info_parts KW;have hl:=iq hz;have hR:iH l:=((cF l).1 hz.set).2.2;obtain ⟨g,cb,rfl,eg,hd⟩:=hu;have HD:=aw hd;have HO:=aw hz;have HR:=aw hR;clear hd hz hR
 have con:=nL 116 #[] (fun p=>decide (0<p.2)) a cap l w w (fun W=>Below w.heap.size w W) h (by omega) (enters_of Tryz.func116 (by kernel_rfl) rfl) (Md _ _) (fun _ hW=>hW) (fun W W' hW hb=>hW.trans hb) (fun x _ ra rc W hW _ _=>by
  refine (qN ra x.1.length rc x.2 W).mono ?_;rintro e w' ⟨rfl,hb⟩;exact ⟨rfl,chain hW hb,(Since.of hb)⟩)
 generalize hm:(l.filter fun p=>decide (0<p.2))=m at con;have HM:=aw hm;have hml:m.length≤l.length:=by rw [← hm]; exact M5 _ _
 have HF:Hid (∀ p ∈ m,fM af p.1):=fun p hp=>by
  rw [← HM.out] at hp;exact HO.out.fit p (List.mem_filter.1 hp).1
 clear hm;go_enter Tryz.func85,Tryz.ntmps85;go_wp2_with fail
 refine con.mono ?_;rintro e w1 ⟨v1,rfl,O1,hb1,z1⟩;clear con;obtain ⟨a1,c1,rfl,zs1,_⟩:=O1.zs hb1;clear O1;dsimp only;go_wp2_with fail
 go_loopw [5,11] (fun v i wr=>∃ k:Nat,k≤m.length∧i = .int .i64 k∧nE w1 w1.heap.size wr v ((m.take k).map fun p=>(fj xs p.1,p))∧Below w1.heap.size w1 wr) (fun _ i _=>m.length - (intOf i).toNat)
 case atStart=>exact ⟨0,Mj _,rfl,nE.nil _ _ _,Md _ _⟩
 case round =>
  obtain ⟨k,hk,rfl,HK,hb⟩:=hrel;have hzr:=hb.size;by_cases hlt:k<m.length
  ·obtain ⟨b,off,rfl,hbl,d1,ar,cr,d0,sr⟩:=zs1.elem hlt;have c1':=(hb.cell (p:=⟨b,_,none⟩) hbl).trans d1;have c0':=(hb.cell (p:=⟨b,_,none⟩) hbl).trans d0;have hbl':b<wr.heap.size:=Mh hbl hzr;have HS:=aw sr;have hal:=aa wr (.cells #[.slice ar m[k].1.length cr,.int .i64 m[k].2] 63);have q0:=ak wr #[.slice ar m[k].1.length cr,.int .i64 m[k].2] 63;have HT:Hid (((m.take (k+1)).map fun p=>(fj xs p.1,p))=((m.take k).map fun p=>(fj xs p.1,p)) ++ [(fj xs m[k].1,m[k])]):=zP hlt
   have hfit:=HF.out m[k] (Mk hlt);have HFk:=aw hfit;have hrl:xs.length=(fj xs m[k].1).length:=by simp [fj]
   have HRL:=aw hrl;clear d0 d1 sr hfit hrl;go_wp2_with fail
   generalize hwa:wr.alloc (.cells #[.slice ar m[k].1.length cr,.int .i64 m[k].2] 63)=wa at *;clear hwa;have hCC:∀ W W':World,W.heap[wr.heap.size]? = some (.cells #[.slice ar m[k].1.length cr,.int .i64 m[k].2] 63 (0,0))→Below W.heap.size W W'→W'.heap[wr.heap.size]? = some (.cells #[.slice ar m[k].1.length cr,.int .i64 m[k].2] 63 (0,0)):=fun W W' h hb=>(hb.block _ (ae h)).trans h
   have hdr:Below wa.heap.size wa wa.drew:=(Md _ _).drew;have CW:wa.drew.heap[wr.heap.size]? = some (.cells #[.slice ar m[k].1.length cr,.int .i64 m[k].2] 63 (0,0)):=hCC _ _ q0 hdr;refine aH (fun W=>W.heap[wr.heap.size]? = some (.cells #[.slice ar m[k].1.length cr,.int .i64 m[k].2] 63 (0,0))) (by kernel_rfl) ?_;refine az hCC 15 0 u5 (fun n hn=>?_) CW ?_
   ·go_simp
   simp only [pD,pB,pC];refine az hCC 16 1 (.func (.func g) #[] cb) (fun n hn=>?_) CW ?_
   ·go_simp
   simp only [pD,pB,pC];refine az hCC 17 2 (.pointer (some ⟨wr.heap.size,0,none⟩)) (fun n hn=>?_) CW ?_
   ·go_simp
   simp only [pD,pB,pC];refine az hCC 18 3 (.slice ar m[k].1.length cr) (fun n hn=>?_) CW ?_
   ·have hcell:n.cell? ⟨wr.heap.size,0,none⟩=some (.slice ar m[k].1.length cr):=cell_of (i:=0) hn rfl;go_simp
   simp only [pD,pB,pC];refine az hCC 20 5 (.agg #[.slice ar m[k].1.length cr,.int .i64 m[k].2]) (fun n hn=>?_) CW ?_
   ·have hcell:n.cell? ⟨wr.heap.size,0,none⟩=some (.slice ar m[k].1.length cr):=cell_of (i:=0) hn rfl;have hcell1:n.cell? ⟨wr.heap.size,1,none⟩=some (.int .i64 m[k].2):=cell_of (i:=1) hn rfl;go_simp
   simp only [pD,pB,pC];refine bD 4 ?_;intro w3 hb3
   have D3:=chain (chain hal hdr) hb3;have B3:=chain hb D3;have CW3:=hCC _ _ CW hb3;have con:=HD.out m[k].1 ar cr w3 HFk.out (HS.out.next B3) (Since.of (chain hb1 B3));refine wpOp_step rfl (fun K hK=>?_);go_simp
   first | (refine con.mono ?_) | (go_at_fn g; refine con.mono ?_)
   rintro e w4 ⟨rfl,hRN,hb4⟩;have D4:=chain D3 hb4;have CW4:=hCC _ _ CW3 hb4;refine hK _ _ ⟨CW4,?_⟩;clear hK K con CW3;refine az hCC 21 6 (.agg #[.slice (some ⟨w3.heap.size,0,none⟩) xs.length xs.length,.slice ar m[k].1.length cr,.int .i64 m[k].2]) (fun n hn=>?_) CW4 ?_
   ·go_simp
   simp only [pD,pB,pC];refine bD 7 ?_;intro w5 hb5
   refine wpOp_step rfl (fun K hK=>?_);go_simp;have D5:=chain D4 hb5;have CW5:=hCC _ _ CW4 hb5;have hal5:=aa w5 (.cells #[.slice (some ⟨w3.heap.size,0,none⟩) xs.length xs.length,.slice ar m[k].1.length cr,.int .i64 m[k].2] 132);have q6:=ak w5 #[.slice (some ⟨w3.heap.size,0,none⟩) xs.length xs.length,.slice ar m[k].1.length cr,.int .i64 m[k].2] 132;have D6:=chain D5 hal5;have CW6:=hCC _ _ CW5 hal5;have S6:=(hRN.1.next hb5).next hal5;have T6:=(hRN.2.next hb5).next hal5;refine hK _ _ ⟨CW6,?_⟩
   clear hK K CW5 CW4 hRN;generalize hw6:w5.alloc (.cells #[.slice (some ⟨w3.heap.size,0,none⟩) xs.length xs.length,.slice ar m[k].1.length cr,.int .i64 m[k].2] 132)=w6 at *;clear hw6;refine bD 8 ?_;intro w7 hb7
   have D7:=chain D6 hb7;have CW7:=hCC _ _ CW6 hb7;have S7:=S6.next hb7;have T7:=T6.next hb7;have q7:=(hb7.block _ (ae q6)).trans q6;obtain ⟨ys,o7,Jr⟩:=HK.next D7;have zz:=D7.size;have hnb:∀ g',u5.ownBlock=some g'→g'<wr.heap.size∧w1.heap.size≤g':=fun g' hg'=>by
    obtain ⟨ys0,o0,_⟩:=HK;exact ⟨(o0.lt g' hg').2,(o0.lt g' hg').1⟩
   refine wpOp_step rfl (fun K hK=>?_);refine Eq.mpr (if_pos (by kernel_rfl)) ?_;refine bW (some 23) rfl (Operand.tmp 15) (Operand.tmp 22) 126 rfl w1.heap.size 132 i0 _ 3 56 Tryz.underlying126 hi hj0 hj1 hj2 rfl (by decide) u5 _ ys rfl o7 ⟨w5.heap.size,0,none⟩ 1 1 [.slice (some ⟨w3.heap.size,0,none⟩) xs.length xs.length,.slice ar m[k].1.length cr,.int .i64 m[k].2] rfl rfl ?Ac1 ?Ac2 ?Ac3 ?Ac4 ?Ac5 ?_
   case Ac1 =>
    intro j u hj
    match j,hj with
    | 0,hj=>simp at hj; subst hj; exact cell_of (i:=0) q7 rfl
    | 1,hj=>simp at hj; subst hj; exact cell_of (i:=1) q7 rfl
    | 2,hj=>simp at hj; subst hj; exact cell_of (i:=2) q7 rfl
   case Ac2=>intro u hu; simp at hu; rcases hu with rfl | rfl | rfl <;> rfl
   case Ac3=>simp only [MA,MH]; unfold maxLen; omega
   case Ac4=>simp only [MA,MH]; omega
   case Ac5=>omega
   intro v' w8 o8 g8 _;have CW8:w8.heap[wr.heap.size]? = some (.cells #[.slice ar m[k].1.length cr,.int .i64 m[k].2] 63 (0,0)):=(g8.block _ (ae CW7) (fun e=>by have:=(hnb _ e.symm).1; omega)).trans CW7;have OK8:nE w1 w1.heap.size w8 v' (((m.take k).map fun p=>(fj xs p.1,p)) ++ [(fj xs m[k].1,m[k])]):=nE.push (kc:=xs.length) (rc:=cr) o7 Jr S7 T7 HS.out (by have:=HRL.out; rw [← this]; exact o8) g8;have b8:Below w1.heap.size w1 w8:=(hb.trans (D7.mono hzr)).trans ((Md _ _).grown g8 (by omega) (fun q hq=>(hnb q hq).2));refine hK _ _ ⟨CW8,?_⟩
   clear hK K CW7 CW6 S7 T7 S6 T6 o7 Jr o8 D7 D6 D5 D4 D3 q6 q7 g8 HK;simp only [pD,pB,pC];refine az hCC 5 9 v' (fun n hn=>?_) CW8 ?_
   ·go_simp
   simp only [pD,pB,pC];refine bo (by kernel_rfl) ?_;intro w9 hb9;have OK9:=OK8.next hb9;have b9:=chain b8 hb9;clear OK8 b8 CW8 hb9;go_wp2
   go_roundw
   case rel=>exact ⟨k+1,by omega,by go_num,by rw [HT.out]; exact OK9,b9⟩
   case measure=>simp [intOf]; omega
  ·have e:k=m.length:=by omega
   subst e;rw [MB] at HK;have hwk:(m.map fun p=>(fj xs p.1,p))=i6 xs l:=by unfold i6; rw [HM.out]
   rw [hwk] at HK;have hb':=chain hb1 hb;have hil:(bj xs l).length=(i6 xs l).length:=(jQ xs l).length_eq;have hwl:=sv xs l;rcases HK.arr hb (Mc _) with ⟨hn,rfl⟩ | ⟨gb,kc,dd,rfl,hg1,hg2,hds,hdm,hH⟩
   ·have hio:bj xs l = []:=Mo (by rw [hil,hn]; rfl);have con:=uL 0 wr;clear HK;go_wp2_with fail
    refine con.mono ?_;rintro e w2 ⟨rfl,hb2⟩;clear con;dsimp only;go_wp2
    go_ret;exact ⟨none,0,by rw [hio]; rfl,.inl hio,chain hb' hb2⟩
   ·have con:=Bn wr gb kc dd xs l HR.out (by omega) hg2 hdm hH w1 hg1 hb;rw [hds,← hil] at con;rw [← hil];clear HK hH hdm hil hwk hds;go_wp2_with fail
    refine con.mono ?_;rintro e w2 ⟨rfl,kd,hb2⟩;clear con;dsimp only;have HKD:=aw kd;have hA:=hb1.trans (hb2.mono hb1.size);clear kd;go_wp2
    go_ret;exact ⟨_,_,rfl,HKD.out,hA⟩
abbrev Pt:Type:=List Vl × List Zp
def cX (ps:List Pt) (x:Kp):List Pt:=if h:ps.length=0 then ps ++ [(x.1,[])] else if aK (ps[ps.length - 1]'(by omega)).1 x.1=0 then ps else ps ++ [(x.1,[])]
def kL (ps:List Pt) (r:Zp):List Pt:=if h:ps.length=0 then ps else ps.set (ps.length - 1) ((ps[ps.length - 1]'(by omega)).1,(ps[ps.length - 1]'(by omega)).2 ++ [r])
def dp (L:List Kp):List Pt:=L.foldl (fun ps x=>kL (cX ps x) x.2) []
theorem xy {L:List Kp} {k:Nat} (h:k<L.length):dp (L.take (k+1))=kL (cX (dp (L.take k)) L[k]) L[k].2:=by
 unfold dp;rw [Mp h,List.foldl_append];rfl
theorem Cx (ps:List Pt) (x:Kp):(cX ps x).length≤ps.length+1∧0<(cX ps x).length:=by
 unfold cX
 split
 ·simp
 ·split
  ·omega
  ·simp
theorem Es (ps:List Pt) (r:Zp):(kL ps r).length=ps.length:=by
 unfold kL
 split
 ·rfl
 ·simp
theorem I0 {ps:List Pt} {m:Nat} (h:ps.length=m+1) (r:Zp):kL ps r=ps.set m ((ps[m]'(by omega)).1,(ps[m]'(by omega)).2 ++ [r]):=by
 unfold kL;rw [dif_neg (by omega)];simp only [h,Nat.add_sub_cancel]
theorem CE {ps:List Pt} (h:ps.length=0) (x:Kp):cX ps x=ps ++ [(x.1,[])]:=by unfold cX; rw [dif_pos h]
theorem zm {ps:List Pt} {m:Nat} (h:ps.length=m+1) {x:Kp} (hc:aK (ps[m]'(by omega)).1 x.1=0):cX ps x=ps:=by
 unfold cX;rw [dif_neg (by omega)];simp only [h,Nat.add_sub_cancel];rw [if_pos hc]
theorem xh {ps:List Pt} {m:Nat} (h:ps.length=m+1) {x:Kp} (hc:¬ aK (ps[m]'(by omega)).1 x.1=0):cX ps x=ps ++ [(x.1,[])]:=by
 unfold cX;rw [dif_neg (by omega)];simp only [h,Nat.add_sub_cancel];rw [if_neg hc]
theorem oR (L:List Kp):(dp L).length≤L.length∧∀ p ∈ dp L,p.2.length≤L.length:=by
 have aux:∀ (L:List Kp) (ps:List Pt) (n:Nat),ps.length≤n→(∀ p ∈ ps,p.2.length≤n)→(L.foldl (fun ps x=>kL (cX ps x) x.2) ps).length≤n+L.length∧∀ p ∈ L.foldl (fun ps x=>kL (cX ps x) x.2) ps,p.2.length≤n+L.length:=by
  intro L
  induction L with
  | nil=>intro ps n h1 h2; exact ⟨h1,h2⟩
  | cons x r ih =>
   intro ps n h1 h2;have ho:∀ p ∈ cX ps x,p.2.length≤n:=fun p hp=>by
    unfold cX at hp
    split at hp
    ·rcases List.mem_append.1 hp with hp | hp
     ·exact h2 p hp
     ·rw [List.mem_singleton.1 hp]; exact Mj _
    ·split at hp
     ·exact h2 p hp
     ·rcases List.mem_append.1 hp with hp | hp
      ·exact h2 p hp
      ·rw [List.mem_singleton.1 hp]; exact Mj _
   have:=ih (kL (cX ps x) x.2) (n+1) (by rw [Es]; have:=(Cx ps x).1; omega) (fun p hp=>by
    unfold kL at hp
    split at hp
    ·have:=ho p hp; omega
    ·rcases List.mem_or_eq_of_mem_set hp with hp | rfl
     ·have:=ho p hp; omega
     ·have:=ho _ (Mk (l:=cX ps x) (n:=(cX ps x).length - 1) (by omega));simp only [Mw,List.length_singleton]; omega)
   simp only [Nl,NG];refine ⟨by have:=this.1; omega,fun p hp=>by have:=this.2 p hp; omega⟩
 have:=aux L [] 0 (Mc _) (fun p hp=>by simp at hp);unfold dp
 simpa using this
theorem mb {W:World} {b b':Nat} {e e':TypeId} {s s' n n':Nat} {v v':Value} {xs xs':List Value} (hne:e≠e') (h:W.ownsRow b e s v n xs) (h':W.ownsRow b' e' s' v' n' xs'):v.ownBlock=none∨v.ownBlock≠v'.ownBlock:=by
 rcases h.2 with ⟨rfl,_⟩ | ⟨g,cap,cur,rfl,_,hg,_⟩
 ·exact .inl rfl
 ·refine .inr fun e0=>?_
  rcases h'.2 with ⟨rfl,_⟩ | ⟨g',cap',cur',rfl,_,hg',_⟩
  ·simp [Value.ownBlock] at e0
  ·have e1:g=g':=by simpa [Value.ownBlock] using e0
   subst e1;rw [hg] at hg';injection hg' with hg'
   injection hg' with _ he _
   exact hne he
theorem jc {W:World} {B:Nat} {e:TypeId} {s n:Nat} {v:Value} {xs:List Value} (h:W.ownsRow B e s v n xs) {q:Nat} {cs:Array Value} {T:TypeId} {f:Nat × Nat} (hq:W.heap[q]? = some (.cells cs T f)) (hne:T≠e):v.ownBlock≠some q:=by
 intro e0;rcases h.2 with ⟨rfl,_⟩ | ⟨g,cap,cur,rfl,_,hg,_⟩
 ·simp [Value.ownBlock] at e0
 ·have e1:g=q:=by simpa [Value.ownBlock] using e0
  subst e1;rw [hg] at hq;injection hq with hq
  injection hq with _ he _
  exact hne he.symm
theorem GD {W:World} {b b':Nat} {e:TypeId} {s n:Nat} {v:Value} {xs:List Value} (h:W.ownsRow b e s v n xs) (hb:b'≤b):W.ownsRow b' e s v n xs:=by
 obtain ⟨h0,h1⟩:=h;refine ⟨h0,?_⟩;rcases h1 with h1 | ⟨g,cap,cur,e,hg,h3⟩
 ·exact .inl h1
 ·exact .inr ⟨g,cap,cur,e,Mr hb hg,h3⟩
theorem dU {W:World} {base e size n:Nat} {v:Value} {xs:List Value} (h:W.ownsRow base e size v n xs):∃ a c,v = .slice a n c:=by
 obtain ⟨_,⟨rfl,h0⟩ | ⟨g,c1,cur,rfl,_⟩⟩:=h
 ·exact ⟨none,0,by rw [h0]⟩
 ·exact ⟨_,c1,rfl⟩
structure oe (w0:World) (B:Nat) (W:World) (v:Value) (ps:List Pt) (xs:List Value) (Bl:Nat) (rv:Nat→Value) (zs:Nat→List Value):Prop where
 own:W.ownsRow B 129 2 v ps.length xs
 lo:B≤Bl
 hi:Bl≤W.heap.size
 key:∀ i (h:i<ps.length),∃ ka kc,xs[i*2]? = some (.slice ka ps[i].1.length kc)∧bg w0 ka ps[i].1
 cell:∀ i (_:i<ps.length),xs[i*2+1]? = some (rv i)
 row:∀ i (h:i<ps.length),W.ownsRow (if i+1=ps.length then Bl else B) 63 2 (rv i) ps[i].2.length (zs i)∧ku w0 (zs i) ps[i].2
 low:∀ i,i+1<ps.length→∀ g,(rv i).ownBlock=some g→g<Bl
def kB (w0:World) (B:Nat) (W:World) (v:Value) (ps:List Pt):Prop:=∃ xs Bl rv zs,oe w0 B W v ps xs Bl rv zs
theorem oe.next {w0:World} {B:Nat} {W w1:World} {v:Value} {ps:List Pt} {xs:List Value} {Bl:Nat} {rv:Nat→Value} {zs:Nat→List Value} (h:oe w0 B W v ps xs Bl rv zs) (hb:Below W.heap.size W w1):oe w0 B w1 v ps xs Bl rv zs :=
 ⟨bp h.own hb,h.lo,Mr h.hi hb.size,h.key,h.cell,fun i hi=>⟨bp (h.row i hi).1 hb,(h.row i hi).2⟩,h.low⟩
theorem kB.next {w0:World} {B:Nat} {W w1:World} {v:Value} {ps:List Pt} (h:kB w0 B W v ps) (hb:Below W.heap.size W w1):kB w0 B w1 v ps:=by
 obtain ⟨xs,Bl,rv,zs,h⟩:=h;exact ⟨xs,Bl,rv,zs,h.next hb⟩
theorem kB.nil (w0:World) (B:Nat) (W:World) (hB:B≤W.heap.size):kB w0 B W (.slice none 0 0) [] :=
 ⟨[],B,fun _=>.slice none 0 0,fun _=>[],MM _ _ _ _,Mc _,hB,fun _ hi=>absurd hi (MP _),fun _ hi=>absurd hi (MP _),fun _ hi=>absurd hi (MP _),fun _ hi=>absurd hi (MP _)⟩
theorem oe.FO {w0:World} {B:Nat} {W:World} {v:Value} {ps:List Pt} {xs:List Value} {Bl:Nat} {rv:Nat→Value} {zs:Nat→List Value} (h:oe w0 B W v ps xs Bl rv zs) {i:Nat} (hi:i<ps.length):W.ownsRow B 63 2 (rv i) ps[i].2.length (zs i):=by
 refine GD (h.row i hi).1 ?_
 split
 ·exact h.lo
 ·exact Mc _
theorem oe.push {w0:World} {B:Nat} {W w1:World} {v v':Value} {ps:List Pt} {xs:List Value} {Bl:Nat} {rv:Nat→Value} {zs:Nat→List Value} (h:oe w0 B W v ps xs Bl rv zs) {ka:Option Addr} {kc:Nat} {k:List Vl} (hs:bg w0 ka k) (hg:W.grownBy w1 v.ownBlock)
  (ho:w1.ownsRow B 129 2 v' (ps.length+1) (xs ++ [.slice ka k.length kc,.slice none 0 0])):kB w0 B w1 v' (ps ++ [(k,[])]):=by
 have lx:=h.own.1;refine ⟨_,w1.heap.size,fun i=>if i=ps.length then .slice none 0 0 else rv i,fun i=>if i=ps.length then [] else zs i,by simpa using ho,Mr h.lo (Mr h.hi hg.size),Mc _,fun i hi=>?_,fun i hi=>?_,fun i hi=>?_,fun i hi g hgi=>?_⟩
 ·by_cases hi':i<ps.length
  ·obtain ⟨ka',kc',e0,s0⟩:=h.key i hi';rw [Mz hi'];exact ⟨ka',kc',by rw [Mx (by omega)]; exact e0,s0⟩
  ·have e:i=ps.length:=by simp at hi; omega
   subst e;refine ⟨ka,kc,?_,?_⟩
   ·rw [My (by omega)]; simp [lx]
   ·simpa using hs
 ·by_cases hi':i<ps.length
  ·rw [if_neg (by omega),Mx (by omega)]; exact h.cell i hi'
  ·have e:i=ps.length:=by simp at hi; omega
   subst e;rw [if_pos rfl,My (by omega)]; simp [lx]
 ·by_cases hi':i<ps.length
  ·rw [Mz hi',if_neg (by simp; omega),if_neg (by omega),if_neg (by omega)];exact ⟨(h.FO hi').kept hg (mb (by decide) (h.FO hi') h.own),(h.row i hi').2⟩
  ·have e:i=ps.length:=by simp at hi; omega
   subst e;simp only [Mw,List.length_singleton,if_true,List.getElem_concat_length];exact ⟨MM _ _ _ _,rfl,fun j hj=>absurd hj (MP _)⟩
 ·have hi':i<ps.length:=by simp at hi; omega
  rw [if_neg (by omega)] at hgi;exact Mh ((h.FO hi').lt g hgi).2 hg.size
theorem oe.put {w0:World} {B:Nat} {W w8 w9:World} {g c m:Nat} {ps:List Pt} {xs:List Value} {Bl:Nat} {rv:Nat→Value} {zs:Nat→List Value} (h:oe w0 B W (.slice (some ⟨g,0,none⟩) (m+1) c) ps xs Bl rv zs) (hm:ps.length=m+1) {ra:Option Addr} {rc:Nat} {r:Zp} {v8:Value}
  (sr:bg w0 ra r.1) (g8:W.grownBy w8 (rv m).ownBlock) (o8:w8.ownsRow Bl 63 2 v8 ((ps[m]'(by omega)).2.length+1) (zs m ++ [.slice ra r.1.length rc,.int .i64 r.2])) (hb:Below w8.heap.size w8 w9) :
  kB w0 B (w9.setCell ⟨g,m*2+1,none⟩ v8) (.slice (some ⟨g,0,none⟩) (m+1) c) (kL ps r):=by
 have hmlt:m<ps.length:=by omega
 have lx:=h.own.1;have ho:=h.own;rw [hm] at ho;have rl:W.ownsRow Bl 63 2 (rv m) (ps[m]'hmlt).2.length (zs m):=by
  have:=(h.row m hmlt).1
  rwa [if_pos hm.symm] at this
 have og:∀ {b e s n v ys},e≠129→w9.ownsRow b e s v n ys→(w9.setCell ⟨g,m*2+1,none⟩ v8).ownsRow b e s v n ys:=fun {b e s n v ys} hne hr=>by
  have o9:w9.ownsRow B 129 2 (.slice (some ⟨g,0,none⟩) (m+1) c) (m+1) xs:=bp (ho.kept g8 (mb (by decide) ho (rl))) hb;rcases mb hne hr o9 with e0 | e0
  ·exact ownsRow_setCell_other hr (by rw [e0]; simp) _
  ·exact ownsRow_setCell_other hr (by simpa [Value.ownBlock] using e0) _
 have o9:w9.ownsRow B 129 2 (.slice (some ⟨g,0,none⟩) (m+1) c) (m+1) xs:=bp (ho.kept g8 (mb (by decide) ho rl)) hb;have hsz:(w9.setCell ⟨g,m*2+1,none⟩ v8).heap.size=w9.heap.size:=by simp [World.setCell]
 rw [I0 hm];refine ⟨xs.set (m*2+1) v8,Bl,fun i=>if i=m then v8 else rv i,fun i=>if i=m then zs m ++ [.slice ra r.1.length rc,.int .i64 r.2] else zs i,?_,h.lo,?_,fun i hi=>?_,fun i hi=>?_,fun i hi=>?_,fun i hi g' hgi=>?_⟩
 ·rw [List.length_set,hm];exact (o9.stored (m*2+1) v8).1
 ·rw [hsz]; exact Mr h.hi (Mr g8.size hb.size)
 ·have hi0:i<ps.length:=by simpa using hi
  obtain ⟨ka',kc',e0,s0⟩:=h.key i hi0;rw [Mt (by omega),List.getElem_set]
  split
  ·rename_i e; subst e; exact ⟨ka',kc',e0,s0⟩
  ·exact ⟨ka',kc',e0,s0⟩
 ·have hi0:i<ps.length:=by simpa using hi
  by_cases e:i=m
  ·subst e;rw [if_pos rfl,List.getElem?_set_self (by omega)]
  ·rw [if_neg e,Mt (by omega)]; exact h.cell i hi0
 ·have hi0:i<ps.length:=by simpa using hi
  by_cases e:i=m
  ·subst e;simp only [List.length_set,if_true,List.getElem_set_self,Mw,List.length_singleton];rw [if_pos hm.symm];refine ⟨og (by decide) (bp o8 hb),?_⟩;exact ku.push (h.row i hi0).2 (x:=r) sr
  ·simp only [List.length_set];rw [if_neg e,if_neg e,if_neg (by omega),List.getElem_set_ne (fun e'=>e e'.symm)];have ri:=h.FO hi0;refine ⟨og (by decide) (bp (ri.kept g8 ?_) hb),(h.row i hi0).2⟩;by_cases e0:(rv i).ownBlock=none
   ·exact .inl e0
   ·obtain ⟨gi,hgi⟩:=Option.ne_none_iff_exists'.1 e0;refine .inr fun e1=>?_
    have h1:=h.low i (by omega) gi hgi;have h2:=(rl.lt gi (e1 ▸ hgi)).1;omega
 ·have hi0:i+1<ps.length:=by simpa using hi
  rw [if_neg (by omega)] at hgi;exact h.low i hi0 g' hgi
abbrev Wp:Type:=Vl × Int
def i9:List Wp→List Value
 | []=>[]
 | p :: r=>.int .i64 p.1.1 :: .int .i64 p.1.2.1 :: .string p.1.2.2 :: .int .i64 p.2 :: i9 r
theorem nh:∀ l r:List Wp,i9 (l ++ r)=i9 l ++ i9 r
 | [],_=>rfl
 | p :: t,r=>by rw [M8,i9,i9,nh t r]; rfl
theorem xr:∀ (l:List Wp) (i:Nat) (h:i<l.length),(i9 l)[i*4]? = some (.int .i64 l[i].1.1)∧(i9 l)[i*4+1]? = some (.int .i64 l[i].1.2.1)∧(i9 l)[i*4+2]? = some (.string l[i].1.2.2)∧(i9 l)[i*4+3]? = some (.int .i64 l[i].2)
 | p :: r,0,_=>⟨rfl,rfl,rfl,rfl⟩
 | p :: r,i+1,h=>by
  have ih:=xr r i (by simpa using h)
  have e:(i+1)*4=i*4+4:=by omega
  rw [e]
  exact ih
def dy (f:List Vl→Vl) (rows:List Zp):List Wp:=rows.filterMap fun r=>if (f r.1).1=1 then none else some (f r.1,r.2)
theorem xq (f:List Vl→Vl) {rows:List Zp} {k:Nat} (h:k<rows.length):dy f (rows.take (k+1))=dy f (rows.take k) ++ (if (f rows[k].1).1=1 then [] else [(f rows[k].1,rows[k].2)]):=by
 unfold dy;rw [Mp h,List.filterMap_append]
 congr 1
 by_cases c:(f rows[k].1).1=1
 ·simp [c]
 ·simp [c]
theorem pI (f:List Vl→Vl) (rows:List Zp):(dy f rows).length≤rows.length:=List.length_filterMap_le _ _
theorem KN:(Tryz.prog.info? 202).map (fun i=>(i.zero,i.size,i.bytes))=some (some (.agg #[.int .i64 0,.int .i64 0,.string ⟨#[]⟩,.int .i64 0]),4,40):=by kernel_rfl
theorem Gl (af:List Int) (lo:Nat) (u:Value) (f:List Vl→Vl) (a:Option Addr) (cap:Nat) (rows:List Zp) (w:World) (hA:gr af lo u f w) (h:bc w a rows) (hf:∀ p ∈ rows,fM af p.1) (hl:rows.length≤400) :
  Calls Tryz.prog 114 #[.slice a rows.length cap,u] w fun e w'=>∃ v,e = .returned v∧w'.ownsRow w.heap.size 202 4 v (dy f rows).length (i9 (dy f rows))∧Below w.heap.size w w':=by
 obtain ⟨iw,hi,hj0,hj1,hj2⟩:=info_parts KN;obtain ⟨g,cb,rfl,eg,hd⟩:=hA;have HD:=aw hd;have HF:=aw hf;clear hd hf;go_enter Tryz.func114,Tryz.ntmps114;go_wp2_with fail
 go_loopw [5,11] (fun v i wr=>∃ k:Nat,k≤rows.length∧i = .int .i64 k∧wr.ownsRow w.heap.size 202 4 v (dy f (rows.take k)).length (i9 (dy f (rows.take k)))∧Below w.heap.size w wr) (fun _ i _=>rows.length - (intOf i).toNat)
 case atStart=>exact ⟨0,Mj _,rfl,MM _ _ _ _,Md _ _⟩
 case round =>
  obtain ⟨k,hk,rfl,HO,hb⟩:=hrel;have hz:=hb.size;by_cases hlt:k<rows.length
  ·obtain ⟨b,off,rfl,hbl,c1,ar,cr,c0,sr⟩:=(h.next hb).elem hlt;have hal:=aa wr (.cells #[.slice ar rows[k].1.length cr,.int .i64 rows[k].2] 63);have q0:=ak wr #[.slice ar rows[k].1.length cr,.int .i64 rows[k].2] 63;have hal':=chain hb hal;have con:=HD.out rows[k].1 ar cr _ (HF.out _ (Mk hlt)) (sr.next hal) (Since.of hal');have HT:Hid (dy f (rows.take (k+1))=dy f (rows.take k) ++ (if (f rows[k].1).1=1 then [] else [(f rows[k].1,rows[k].2)])):=xq f hlt;have hkl:=pI f (rows.take k)
   rw [MH] at hkl;have O1:=bp HO hal;generalize f rows[k].1=fv at *;generalize dy f (rows.take k)=acc at *;unfold fW at con;go_upto_region 5 with fail
   clear c0 c1 sr HO;generalize wr.alloc (.cells #[.slice ar rows[k].1.length cr,.int .i64 rows[k].2] 63)=wk at *;have p0:wk.cell? ⟨wr.heap.size,0,none⟩=some (.slice ar rows[k].1.length cr):=cell_of (i:=0) q0 rfl;go_upto_region 6 with (go_at_fn g; refine con.mono ?_; rintro e w2 ⟨rfl,hb2⟩)
   clear con p0;have q2:=(hb2.block _ (ae q0)).trans q0;have O2:=bp O1 hb2;have hal2:=aa w2 (.cells #[.int .i64 fv.1,.int .i64 fv.2.1,.string fv.2.2] 24);have q3:=ak w2 #[.int .i64 fv.1,.int .i64 fv.2.1,.string fv.2.2] 24;have q2:=(hal2.block _ (ae q2)).trans q2;have O3:=bp O2 hal2;have hA3:=chain (chain hal' hb2) hal2;have hz3:=hA3.size;generalize w2.alloc (.cells #[.int .i64 fv.1,.int .i64 fv.2.1,.string fv.2.2] 24)=w3 at *
   have c0:w3.cell? ⟨w2.heap.size,0,none⟩=some (.int .i64 fv.1):=cell_of (i:=0) q3 rfl;have c1:w3.cell? ⟨w2.heap.size,1,none⟩=some (.int .i64 fv.2.1):=cell_of (i:=1) q3 rfl;have c2:w3.cell? ⟨w2.heap.size,2,none⟩=some (.string fv.2.2):=cell_of (i:=2) q3 rfl;have c3:w3.cell? ⟨wr.heap.size,1,none⟩=some (.int .i64 rows[k].2):=cell_of (i:=1) q2 rfl;by_cases hn:fv.1=1
   ·have hnb:(fv.1 != 1)=false:=by simp [hn]
    have HT':Hid (dy f (rows.take (k+1))=acc):=by show _=_; rw [HT.out,if_pos hn,Nm]
    clear hn;go_wp2
    go_roundw
    case rel=>exact ⟨k+1,by omega,by go_num,by rw [HT'.out]; exact O3,hA3⟩
    case measure=>simp [intOf]; omega
   ·have hnb:(fv.1 != 1)=true:=by simp [hn]
    have HT':Hid (dy f (rows.take (k+1))=acc ++ [(fv,rows[k].2)]):=by show _=_; rw [HT.out,if_neg hn]
    clear hn;go_wp2_with (first | (at_builtin; refine M9 _ rfl _ _ 165 rfl w.heap.size 202 iw _ 4 40 Tryz.underlying165 hi hj0 hj1 hj2 rfl (by decide) _ _ _ rfl (O3.alloc _) ⟨w3.heap.size,0,none⟩ 1 1 [.int .i64 fv.1,.int .i64 fv.2.1,.string fv.2.2,.int .i64 rows[k].2] rfl rfl ?Ac1 ?Ac2 ?Ac3 ?Ac4 ?Ac5 ?_))
    case Ac1 =>
     intro i u hu
     match i,hu with
     | 0,hu=>simp at hu; subst hu; simp [Addr.add]
     | 1,hu=>simp at hu; subst hu; simp [Addr.add]
     | 2,hu=>simp at hu; subst hu; simp [Addr.add]
     | 3,hu=>simp at hu; subst hu; simp [Addr.add]
    case Ac2=>intro u hu; simp at hu; rcases hu with rfl | rfl | rfl | rfl <;> rfl
    case Ac3=>unfold maxLen; omega
    case Ac4=>omega
    case Ac5=>simp; omega
    intro v' w4 o4 g4 _;have hb4:Below w.heap.size w w4:=hA3.trans (((Md _ _).alloc (by omega) _).grown g4 (by simp; omega) (fun q hq=>((O3.alloc (.cells #[.int .i64 fv.1,.int .i64 fv.2.1,.string fv.2.2,.int .i64 rows[k].2] 202)).lt q hq).1));have o4':w4.ownsRow w.heap.size 202 4 v' (acc ++ [(fv,rows[k].2)]).length (i9 (acc ++ [(fv,rows[k].2)])):=by rw [nh,Mw]; exact o4
    clear g4 o4 O3 O2 O1;go_wp2
    go_roundw
    case rel=>exact ⟨k+1,by omega,by go_num,by rw [HT'.out]; exact o4',hb4⟩
    case measure=>simp [intOf]; omega
  ·have e:k=rows.length:=by omega
   subst e;rw [MB] at HO;obtain ⟨av,cv,rfl⟩:=dU HO;go_wp2
   go_ret;exact ⟨_,rfl,HO,hb⟩
def jk (W:World) (a:Option Addr) (l:List Wp):Prop:=l.length≤maxLen∧(l = []∨∃ b off,a=some ⟨b,off,none⟩∧b<W.heap.size∧∀ (i:Nat) (h:i<l.length),W.cell? ⟨b,off+i*4,none⟩=some (.int .i64 l[i].1.1)∧W.cell? ⟨b,off+i*4+1,none⟩=some (.int .i64 l[i].1.2.1)∧W.cell? ⟨b,off+i*4+2,none⟩=some (.string l[i].1.2.2)∧W.cell? ⟨b,off+i*4+3,none⟩=some (.int .i64 l[i].2))
theorem jk.next {W w1:World} {a:Option Addr} {l:List Wp} (h:jk W a l) (hb:Below W.heap.size W w1):jk w1 a l:=by
 obtain ⟨h0,h | ⟨b,off,e,hlt,hr⟩⟩:=h
 ·exact ⟨h0,.inl h⟩
 ·refine ⟨h0,.inr ⟨b,off,e,Mh hlt hb.size,fun i hi=>?_⟩⟩;obtain ⟨a0,a1,a2,a3⟩:=hr i hi;exact ⟨(hb.cell (p:=⟨b,_,none⟩) hlt).trans a0,(hb.cell (p:=⟨b,_,none⟩) hlt).trans a1,(hb.cell (p:=⟨b,_,none⟩) hlt).trans a2,(hb.cell (p:=⟨b,_,none⟩) hlt).trans a3⟩
theorem jk.elem {W:World} {a:Option Addr} {l:List Wp} (h:jk W a l) {i:Nat} (hi:i<l.length):∃ b off,a=some ⟨b,off,none⟩∧b<W.heap.size∧W.cell? ⟨b,off+i*4,none⟩=some (.int .i64 l[i].1.1)∧W.cell? ⟨b,off+i*4+1,none⟩=some (.int .i64 l[i].1.2.1)∧W.cell? ⟨b,off+i*4+2,none⟩=some (.string l[i].1.2.2)∧W.cell? ⟨b,off+i*4+3,none⟩=some (.int .i64 l[i].2):=by
 obtain ⟨_,h | ⟨b,off,e,hlt,hr⟩⟩:=h
 ·subst h; simp at hi
 ·exact ⟨b,off,e,hlt,hr i hi⟩
theorem Kd {W:World} {B:Nat} {v:Value} {l:List Wp} (h:W.ownsRow B 202 4 v l.length (i9 l)):∃ a c,v = .slice a l.length c∧jk W a l:=by
 have h':=h;rcases h.2 with ⟨rfl,h0⟩ | ⟨g,cap,cur,rfl,_,_,hn,hc,_⟩
 ·have:l = []:=Mo h0;subst this;exact ⟨none,0,rfl,Mj _,.inl rfl⟩
 ·refine ⟨_,_,rfl,Mr hn hc,.inr ⟨g,0,rfl,(h'.lt g rfl).2,fun i hi=>?_⟩⟩;obtain ⟨a0,a1,a2,a3⟩:=xr l i hi;refine ⟨?_,?_,?_,?_⟩
  ·rw [h'.cellAt _ (by omega),← a0]; congr 1; omega
  ·rw [h'.cellAt _ (by omega),← a1]; congr 1; omega
  ·rw [h'.cellAt _ (by omega),← a2]; congr 1; omega
  ·rw [h'.cellAt _ (by omega),← a3]; congr 1; omega
def hM (v:Vl):Prop:=dE v.1 v.2.1=v.2.1
theorem s9 (v:Vl):hM (bF v):=by
 unfold hM bF dE;by_cases h:v.1=2∨v.1=3 <;> simp [h]
theorem iM (o:Option Bool):hM (om o):=by rcases o with _ | _ | _ <;> rfl
theorem pX (c:Int) (a b:Vl):hM (mS c a b):=by
 unfold hM mS;generalize pj c a.1 a.2.1 b.1 b.2.1=o;cases o with
 | none=>simp [uu,xQ,dE]
 | some n =>
  simp only [uu,xQ,j8,ky]
  split <;> simp [dE]
theorem Dv (a b:Vl):hM (oC a b):=by
 unfold hM oC;generalize kp a.1 a.2.2 b.1 b.2.2=k;simp [dE]
theorem EJ {k:Int} {a b:Vl} (ha:hM a) (hb:hM b):hM (nG k a b):=by
 have h1:hM (ID a b):=by unfold ID; exact iM _
 have h2:hM (Ln a b):=by unfold Ln; exact iM _
 have h3:∀ a b,hM (KD a b):=fun a b=>by unfold KD; exact iM _
 have h4:∀ a,hM (lv a):=fun a=>by unfold lv; exact iM _
 have h5:∀ a b,hM (I8 a b):=fun a b=>by unfold I8; exact iM _
 have h6:=pX 43 a b;have h7:=pX 45 a b;have h8:=pX 42 a b;have h9:=Dv a b;have hc:hM (l6 a b):=by
  unfold l6
  split
  ·exact hb
  ·exact ha
 have n1:=h4 (KD a b);have n2:=h4 (I8 a b);have n3:=h4 (I8 b a);have e1:=h3 a b;have l1:=h5 a b;have l2:=h5 b a;clear h3 h4 h5;unfold nG;by_cases k4:k=4
 ·rw [if_pos k4]; exact h1
 rw [if_neg k4];by_cases k5:k=5
 ·rw [if_pos k5]; exact h2
 rw [if_neg k5];by_cases k6:k=6
 ·rw [if_pos k6]; exact e1
 rw [if_neg k6];by_cases k7:k=7
 ·rw [if_pos k7]; exact n1
 rw [if_neg k7];by_cases k8:k=8
 ·rw [if_pos k8]; exact l1
 rw [if_neg k8];by_cases k11:k=11
 ·rw [if_pos k11]; exact n2
 rw [if_neg k11];by_cases k10:k=10
 ·rw [if_pos k10]; exact l2
 rw [if_neg k10];by_cases k9:k=9
 ·rw [if_pos k9]; exact n3
 rw [if_neg k9];by_cases k12:k=12
 ·rw [if_pos k12]; exact h6
 rw [if_neg k12];by_cases k13:k=13
 ·rw [if_pos k13]; exact h7
 rw [if_neg k13];by_cases k14:k=14
 ·rw [if_pos k14]; exact h8
 rw [if_neg k14];by_cases k15:k=15
 ·rw [if_pos k15]; exact h9
 rw [if_neg k15];exact hc
theorem BG (row:List Vl):∀ x,hM (aW row x):=Ex.ind fun k v c ks ih=>by
 have hk:∀ i,hM ((jB row ks).getD i eD):=fun i=>by
  rw [cV]
  by_cases h:i<ks.length
  ·have:(ks.map (aW row)).getD i eD=aW row ks[i]:=by simp [List.getD,h]
   rw [this]
   exact ih _ (Mk h)
  ·have:(ks.map (aW row)).getD i eD=eD:=by simp [List.getD,h]
   rw [this]
   rfl
 rw [aW]
 unfold gh
 split
 ·exact s9 _
 split
 ·exact s9 _
 split
 ·exact iM _
 split
 ·exact iM _
 split
 ·split
  ·exact hk 1
  ·exact hk 2
 ·exact EJ (hk 0) (hk 1)
theorem JT {v:Vl} (h:bt v=0) (hn:hM v):-1000000000000000≤v.2.1∧v.2.1≤1000000000000000:=by
 unfold hM dE at hn;unfold bt aU at h
 split at hn
 ·rename_i hk
  rcases hk with hk | hk
  ·rw [hk] at h;simp at h;omega
  ·rw [hk] at h;simp at h;omega
 ·omega
structure Kz (l:List Wp):Prop where
 len:l.length≤400
 wt:∀ p ∈ l,0≤p.2∧p.2≤1000000
 right:∀ p ∈ l,bt p.1=0
 num:∀ p ∈ l,hM p.1
def pf:List Wp→Int
 | []=>0
 | p :: r=>p.2+pf r
theorem C8 {l:List Wp} {k:Nat} (h:k<l.length):pf (l.take (k+1))=pf (l.take k)+l[k].2:=by
 have aux:∀ (l:List Wp) (p:Wp),pf (l ++ [p])=pf l+p.2:=by
  intro l p
  induction l with
  | nil=>simp [pf]
  | cons q r ih=>rw [M8,pf,pf,ih]; omega
 rw [Mp h,aux]
def countP (l:List Wp):Vl:=(3,pf l,⟨#[]⟩)
theorem EH (a:Option Addr) (cap:Nat) (l:List Wp) (w:World) (h:jk w a l) (hok:Kz l) :
  Calls Tryz.prog 153 #[.slice a l.length cap] w fun e w'=>e = .returned (fW (countP l))∧Below w.heap.size w w':=by
 have hl:=hok.len;have HK:=aw hok;clear hok;have hal0:=aa w (.cells #[.int .i64 0,.int .i64 0,.string ⟨#[]⟩] 24);have q00:=ak w #[.int .i64 0,.int .i64 0,.string ⟨#[]⟩] 24;unfold fW countP;generalize hs:pf l=s;have HS:=aw hs;clear hs;go_enter Tryz.func153,Tryz.ntmps153;go_wp2_with fail
 generalize w.alloc (.cells #[.int .i64 0,.int .i64 0,.string ⟨#[]⟩] 24)=w0 at *;go_loopw [3,8] (fun v i wr=>∃ (k:Nat) (n:Int),k≤l.length∧i = .int .i64 k∧v = .int .i64 n∧Hid (n=pf (l.take k))∧0≤n∧n≤1000000*(k:Int)∧Below w0.heap.size w0 wr) (fun _ i _=>l.length - (intOf i).toNat)
 case atStart=>exact ⟨0,0,Mj _,rfl,rfl,rfl,by omega,by omega,Md _ _⟩
 case round =>
  obtain ⟨k,n,hk,rfl,rfl,HN,hn0,hn1,hb⟩:=hrel;have hA:=chain hal0 hb;by_cases hlt:k<l.length
  ·obtain ⟨b,off,rfl,hbl,c0,c1,c2,c3⟩:=(h.next hA).elem hlt;have hw:=HK.out.wt _ (Mk hlt);have hal:=aa wr (.cells #[.int .i64 l[k].1.1,.int .i64 l[k].1.2.1,.string l[k].1.2.2,.int .i64 l[k].2] 202);have HN':Hid (n+l[k].2=pf (l.take (k+1))):=by show _=_; rw [C8 hlt,HN.out]
   go_wp2
   go_roundw
   case rel=>exact ⟨k+1,n+l[k].2,by omega,by go_num,rfl,HN',by omega,by omega,chain hb hal⟩
   case measure=>simp [intOf]; omega
  ·have e:k=l.length:=by omega
   subst e;have es:n=s:=by rw [HN.out,MB,HS.out]
   subst es;have con:=zO n wr (by simp [nM]; omega);have c0:w0.cell? ⟨w.heap.size,0,none⟩=some (.int .i64 0):=cell_of (i:=0) q00 rfl;go_wp2_with fail
   refine con.mono ?_;rintro e w2 ⟨rfl,hb2⟩;clear con;have q2:=((chain hb hb2).block _ (ae q00)).trans q00;have d0:w2.cell? ⟨w.heap.size,0,none⟩=some (.int .i64 0):=cell_of (i:=0) q2 rfl;have d1:w2.cell? ⟨w.heap.size,1,none⟩=some (.int .i64 0):=cell_of (i:=1) q2 rfl;have d2:w2.cell? ⟨w.heap.size,2,none⟩=some (.string ⟨#[]⟩):=cell_of (i:=2) q2 rfl;have f0:w2.frozen? ⟨w.heap.size,0,none⟩=false:=Mg w2 w.heap.size 0 _ _ q2;have f1:w2.frozen? ⟨w.heap.size,1,none⟩=false:=Mg w2 w.heap.size 1 _ _ q2
   have f2:w2.frozen? ⟨w.heap.size,2,none⟩=false:=Mg w2 w.heap.size 2 _ _ q2;have hA2:=chain hA hb2;go_wp2
   exact Me (v:=.agg #[.int .i64 3,.int .i64 n,.string ⟨#[]⟩]) (by simp [results,Tryz.results153,go_sem,d0,d1,d2]) rfl ⟨rfl,((hA2.setCell (p:=⟨w.heap.size,0,none⟩) (Mc _) _).setCell (p:=⟨w.heap.size,1,none⟩) (Mc _) _).setCell (p:=⟨w.heap.size,2,none⟩) (Mc _) _⟩
structure Gg (af:List Int) (rows:List Zp):Prop where
 len:rows.length≤400
 fit:∀ p ∈ rows,fM af p.1
 wt:∀ p ∈ rows,0≤p.2∧p.2≤1000000
theorem Gg.known {af:List Int} {rows:List Zp} (h:Gg af rows) {f:List Vl→Vl} (hf:∀ row,fM af row→bt (f row)=0∧hM (f row)):Kz (dy f rows):=by
 have hm:∀ p ∈ dy f rows,∃ q ∈ rows,p=(f q.1,q.2):=fun p hp=>by
  unfold dy at hp;obtain ⟨q,hq,e⟩:=List.mem_filterMap.1 hp
  split at e
  ·cases e
  ·exact ⟨q,hq,(MO e).symm⟩
 refine ⟨Mr (pI f rows) h.len,fun p hp=>?_,fun p hp=>?_,fun p hp=>?_⟩
 ·obtain ⟨q,hq,rfl⟩:=hm p hp; exact h.wt q hq
 ·obtain ⟨q,hq,rfl⟩:=hm p hp; exact (hf _ (h.fit q hq)).1
 ·obtain ⟨q,hq,rfl⟩:=hm p hp; exact (hf _ (h.fit q hq)).2
def pw (lo:Nat) (u:Value) (T:List Wp→Vl) (w:World):Prop :=
 ∃ g cb,u = .func (.func g) #[] cb∧(∀ args w,(callFunc g args).run Tryz.prog w = .ok (.enter g args) w) ∧
  ∀ (l:List Wp) (a:Option Addr) (cap:Nat) (W:World),Kz l→jk W a l→Since lo w W →
   Calls Tryz.prog g (#[.slice a l.length cap] ++ cb) W fun e w'=>e = .returned (fW (T l))∧Below W.heap.size W w'
theorem pw.next {lo:Nat} {u:Value} {T:List Wp→Vl} {w w1:World} (h:pw lo u T w) (hb:Since lo w w1):pw lo u T w1:=by
 obtain ⟨g,cb,e,eg,hd⟩:=h;exact ⟨g,cb,e,eg,fun l a cap W hk hs hW=>hd l a cap W hk hs (hb.trans hW)⟩
theorem pw.down {lo lo':Nat} {u:Value} {T:List Wp→Vl} {w:World} (h:pw lo u T w) (hl:lo'≤lo):pw lo' u T w:=by
 obtain ⟨g,cb,e,eg,hd⟩:=h;exact ⟨g,cb,e,eg,fun l a cap W hk hs hW=>hd l a cap W hk hs (hW.up hl)⟩
def kh (af:List Int) (lo:Nat) (u:Value) (F:List Zp→Vl) (w:World):Prop :=
 ∃ g cb,u = .func (.func g) #[] cb∧(∀ args w,(callFunc g args).run Tryz.prog w = .ok (.enter g args) w) ∧
  ∀ (rows:List Zp) (a:Option Addr) (cap:Nat) (W:World),Gg af rows→bc W a rows→Since lo w W →
   Calls Tryz.prog g (#[.slice a rows.length cap] ++ cb) W fun e w'=>e = .returned (fW (F rows))∧Below W.heap.size W w'
theorem kh.next {af:List Int} {lo:Nat} {u:Value} {F:List Zp→Vl} {w w1:World} (h:kh af lo u F w) (hb:Since lo w w1):kh af lo u F w1:=by
 obtain ⟨g,cb,e,eg,hd⟩:=h;exact ⟨g,cb,e,eg,fun l a cap W hk hs hW=>hd l a cap W hk hs (hb.trans hW)⟩
theorem kh.down {af:List Int} {lo lo':Nat} {u:Value} {F:List Zp→Vl} {w:World} (h:kh af lo u F w) (hl:lo'≤lo):kh af lo' u F w:=by
 obtain ⟨g,cb,e,eg,hd⟩:=h;exact ⟨g,cb,e,eg,fun l a cap W hk hs hW=>hd l a cap W hk hs (hW.up hl)⟩
theorem G1 (af:List Int) (lo:Nat) (ut uv:Value) (T:List Wp→Vl) (f:List Vl→Vl) (hfr:∀ row,fM af row→bt (f row)=0∧hM (f row)) (tb vb:Nat) (a:Option Addr) (cap:Nat) (rows:List Zp) (W:World) (c0:W.cell? ⟨tb,0,none⟩=some ut) (c1:W.cell? ⟨vb,0,none⟩=some uv) (hT:pw lo ut T W) (hV:gr af lo uv f W) (hr:Gg af rows) (h:bc W a rows) :
  Calls Tryz.prog 113 #[.slice a rows.length cap,.pointer (some ⟨tb,0,none⟩),.pointer (some ⟨vb,0,none⟩)] W fun e w'=>e = .returned (fW (T (dy f rows)))∧Below W.heap.size W w':=by
 have hV':=hV;obtain ⟨gv,cv,rfl,_,_⟩:=hV';have hT':=hT;obtain ⟨gt,ct,rfl,egt,dt⟩:=hT';have HDt:=aw dt;have HV:=aw hV;have HW:Hid (Kz (dy f rows)):=hr.known hfr;have HR:=aw hr;clear hV hT dt hr hfr;have hal:=aa W (.cells #[.int .i64 0,.int .i64 0,.string ⟨#[]⟩] 24)
 have q0:=ak W #[.int .i64 0,.int .i64 0,.string ⟨#[]⟩] 24;generalize hres:T (dy f rows)=res;have HRes:=aw hres;clear hres;go_enter Tryz.func113,Tryz.ntmps113;go_wp2_with fail
 generalize W.alloc (.cells #[.int .i64 0,.int .i64 0,.string ⟨#[]⟩] 24)=w0 at *;have d0:=(hal.cell (p:=⟨tb,0,none⟩) (Mm _ _ c0)).trans c0;have d1:=(hal.cell (p:=⟨vb,0,none⟩) (Mm _ _ c1)).trans c1;have lt0:tb<W.heap.size:=Mm _ _ c0;have lt1:vb<W.heap.size:=Mm _ _ c1
 have hCC:∀ X X':World,(X.cell? ⟨tb,0,none⟩=some (.func (.func gt) #[] ct)∧X.cell? ⟨vb,0,none⟩=some (.func (.func gv) #[] cv))→Below X.heap.size X X'→(X'.cell? ⟨tb,0,none⟩=some (.func (.func gt) #[] ct)∧X'.cell? ⟨vb,0,none⟩=some (.func (.func gv) #[] cv)):=fun X X' h hb=>⟨(hb.cell (Mm _ _ h.1)).trans h.1,(hb.cell (Mm _ _ h.2)).trans h.2⟩
 have hdr:Below w0.heap.size w0 w0.drew:=(Md _ _).drew;have CW:(w0.drew.cell? ⟨tb,0,none⟩=some (.func (.func gt) #[] ct)∧w0.drew.cell? ⟨vb,0,none⟩=some (.func (.func gv) #[] cv)):=hCC _ _ ⟨d0,d1⟩ hdr;clear c0 c1;refine aH (fun X=>(X.cell? ⟨tb,0,none⟩=some (.func (.func gt) #[] ct)∧X.cell? ⟨vb,0,none⟩=some (.func (.func gv) #[] cv))) (by kernel_rfl) ?_;refine az hCC 5 0 (.func (.func gt) #[] ct) (fun n hn=>?_) CW ?_
 ·have hc:=hn.1;go_simp
 simp only [pD,pB,pC];refine az hCC 6 1 (.slice a rows.length cap) (fun n hn=>?_) CW ?_
 ·go_simp
 simp only [pD,pB,pC];refine az hCC 7 2 (.func (.func gv) #[] cv) (fun n hn=>?_) CW ?_
 ·have hc:=hn.2;go_simp
 simp only [pD,pB,pC];refine bD 3 ?_;intro w3 hb3
 have CW3:=hCC _ _ CW hb3;have D3:=chain hal (chain hdr hb3);have con:=Gl af lo _ f a cap rows w3 (HV.out.next (Since.of D3)) (h.next D3) HR.out.fit HR.out.len;refine wpOp_step rfl (fun K hK=>?_);go_simp;refine con.mono ?_;rintro e w4 ⟨v4,rfl,O4,hb4⟩;clear con;obtain ⟨a4,c4,rfl,S4⟩:=Kd O4;have CW4:=hCC _ _ CW3 hb4;have D4:=chain D3 hb4;refine hK _ _ ⟨CW4,?_⟩;clear hK K O4;refine bD 4 ?_;intro w5 hb5
 have CW5:=hCC _ _ CW4 hb5;have D5:=chain D4 hb5;have con:=HDt.out (dy f rows) a4 c4 w5 HW.out (S4.next hb5) (Since.of D5);rw [HRes.out] at con;refine wpOp_step rfl (fun K hK=>?_);go_simp
 first | (refine con.mono ?_) | (go_at_fn gt; refine con.mono ?_)
 rintro e w6 ⟨rfl,hb6⟩;clear con;have CW6:=hCC _ _ CW5 hb6;have D6:=chain D5 hb6;refine hK _ _ ⟨CW6,?_⟩;clear hK K;refine bD 5 ?_;intro w7 hb7
 have CW7:=hCC _ _ CW6 hb7;have D7:=chain D6 hb7;have q7:w7.heap[W.heap.size]? = some (.cells #[.int .i64 0,.int .i64 0,.string ⟨#[]⟩] 24 (0,0)):=((chain hdr (chain hb3 (chain hb4 (chain hb5 (chain hb6 hb7))))).block _ (ae q0)).trans q0;have e0:w7.cell? ⟨W.heap.size,0,none⟩=some (.int .i64 0):=cell_of (i:=0) q7 rfl;have e1:w7.cell? ⟨W.heap.size,1,none⟩=some (.int .i64 0):=cell_of (i:=1) q7 rfl;have e2:w7.cell? ⟨W.heap.size,2,none⟩=some (.string ⟨#[]⟩):=cell_of (i:=2) q7 rfl;have f0:w7.frozen? ⟨W.heap.size,0,none⟩=false:=Mg w7 W.heap.size 0 _ _ q7
 have f1:w7.frozen? ⟨W.heap.size,1,none⟩=false:=Mg w7 W.heap.size 1 _ _ q7;have f2:w7.frozen? ⟨W.heap.size,2,none⟩=false:=Mg w7 W.heap.size 2 _ _ q7;have ne0:∀ o u (X:World),(X.setCell ⟨W.heap.size,o,none⟩ u).cell? ⟨tb,0,none⟩=X.cell? ⟨tb,0,none⟩:=fun o u X=>Mn _ _ _ _ (by intro e; injection e with e; omega)
 have ne1:∀ o u (X:World),(X.setCell ⟨W.heap.size,o,none⟩ u).cell? ⟨vb,0,none⟩=X.cell? ⟨vb,0,none⟩:=fun o u X=>Mn _ _ _ _ (by intro e; injection e with e; omega)
 unfold fW;refine wpOp_step rfl (fun K hK=>?_);go_simp;refine hK _ _ ⟨⟨by rw [ne0,ne0,ne0]; exact CW7.1,by rw [ne1,ne1,ne1]; exact CW7.2⟩,?_⟩;clear hK K CW3 CW4 CW5 CW6;have B8:Below W.heap.size W (((w7.setCell ⟨W.heap.size,0,none⟩ (.int .i64 res.1)).setCell ⟨W.heap.size,1,none⟩ (.int .i64 res.2.1)).setCell ⟨W.heap.size,2,none⟩ (.string res.2.2)):=((D7.setCell (p:=⟨W.heap.size,0,none⟩) (Mc _) _).setCell (p:=⟨W.heap.size,1,none⟩) (Mc _) _).setCell (p:=⟨W.heap.size,2,none⟩) (Mc _) _
 have g0:(((w7.setCell ⟨W.heap.size,0,none⟩ (.int .i64 res.1)).setCell ⟨W.heap.size,1,none⟩ (.int .i64 res.2.1)).setCell ⟨W.heap.size,2,none⟩ (.string res.2.2)).cell? ⟨W.heap.size,0,none⟩=some (.int .i64 res.1):=by simp [go_sem,e0]
 have g1:(((w7.setCell ⟨W.heap.size,0,none⟩ (.int .i64 res.1)).setCell ⟨W.heap.size,1,none⟩ (.int .i64 res.2.1)).setCell ⟨W.heap.size,2,none⟩ (.string res.2.2)).cell? ⟨W.heap.size,1,none⟩=some (.int .i64 res.2.1):=by simp [go_sem,e1]
 have g2:(((w7.setCell ⟨W.heap.size,0,none⟩ (.int .i64 res.1)).setCell ⟨W.heap.size,1,none⟩ (.int .i64 res.2.1)).setCell ⟨W.heap.size,2,none⟩ (.string res.2.2)).cell? ⟨W.heap.size,2,none⟩=some (.string res.2.2):=by simp [go_sem,e2]
 have l8:W.heap.size<(((w7.setCell ⟨W.heap.size,0,none⟩ (.int .i64 res.1)).setCell ⟨W.heap.size,1,none⟩ (.int .i64 res.2.1)).setCell ⟨W.heap.size,2,none⟩ (.string res.2.2)).heap.size:=Mm _ _ g0;clear e0 e1 e2 f0 f1 f2 q7 CW7 ne0 ne1;generalize (((w7.setCell ⟨W.heap.size,0,none⟩ (.int .i64 res.1)).setCell ⟨W.heap.size,1,none⟩ (.int .i64 res.2.1)).setCell ⟨W.heap.size,2,none⟩ (.string res.2.2))=w8 at *;refine bo (by kernel_rfl) ?_;intro w9 hb9;have k0:=(hb9.cell (p:=⟨W.heap.size,0,none⟩) l8).trans g0;have k1:=(hb9.cell (p:=⟨W.heap.size,1,none⟩) l8).trans g1
 have k2:=(hb9.cell (p:=⟨W.heap.size,2,none⟩) l8).trans g2;have B9:=chain B8 hb9;clear g0 g1 g2 CW hCC;go_wp2
 exact Me (v:=.agg #[.int .i64 res.1,.int .i64 res.2.1,.string res.2.2]) (by simp [results,Tryz.results113,go_sem,k0,k1,k2]) rfl ⟨rfl,B9⟩
def sV (af:List Int) (lo:Nat) (W:World) (kb:Nat) (Fs:List (List Zp→Vl)):Prop :=
 ∃ K,lo≤kb∧kb<W.heap.size∧lo≤K∧K<W.heap.size∧W.cell? ⟨kb,0,none⟩=some (.slice (some ⟨K,0,none⟩) Fs.length Fs.length) ∧
  ∀ (i:Nat) (h:i<Fs.length),∃ u,W.cell? ⟨K,i,none⟩=some u∧kh af lo u Fs[i] W
theorem sV.next {af:List Int} {lo:Nat} {W w1:World} {kb:Nat} {Fs:List (List Zp→Vl)} (h:sV af lo W kb Fs) (hb:Since lo W w1):sV af lo w1 kb Fs:=by
 obtain ⟨K,h1,h2,h3,h4,h5,h6⟩:=h;refine ⟨K,h1,Mh h2 hb.1,h3,Mh h4 hb.1,(hb.cell (p:=⟨kb,0,none⟩) h1 h2).trans h5,fun i hi=>?_⟩;obtain ⟨u,c,a⟩:=h6 i hi;exact ⟨u,(hb.cell (p:=⟨K,i,none⟩) h3 h4).trans c,a.next hb⟩
theorem Io (af:List Int) (lo:Nat) (vb:Nat) (Fs:List (List Zp→Vl)) (a:Option Addr) (rows:List Zp) (cap:Nat) (W:World) (hK:sV af lo W vb Fs) (h8:Fs.length≤8) (hr:Gg af rows) (hs:bc W a rows) :
  Calls Tryz.prog 115 #[.slice a rows.length cap,.pointer (some ⟨vb,0,none⟩)] W fun e w'=>e = .returned (.slice (some ⟨W.heap.size,0,none⟩) Fs.length Fs.length)∧tU W.heap.size w' (Fs.map fun F=>F rows)∧Below W.heap.size W w':=by
 obtain ⟨i0,hi,hz0,hz1,hz2⟩:=info_parts Tryz.qs;obtain ⟨K,k1,k2,k3,k4,k5,k6⟩:=hK;have HK:=aw k6;go_enter Tryz.func115,Tryz.ntmps115;go_wp2_with (first | (at_make; refine wpList_make_full _ rfl _ _ 61 rfl W.heap.size 24 i0 _ 3 Tryz.underlying61 hi hz0 hz1 .i64 .i64 Fs.length Fs.length Fs.length rfl rfl rfl rfl (by rw [hz2]; omega) (by unfold maxLen; omega) (Mc _) ?_))
 intro w1 hown hgrow;have hb0:Below W.heap.size W w1:=(Md _ _).grown hgrow (Mc _) (by simp);have hB0:Ah w1 W.heap.size Fs.length (fun j=>(Fs.getD j (fun _=>eD)) rows) 0:=⟨_,hown,fun j _ hj=>absurd hj (MP _)⟩
 have c1:=(hb0.cell (p:=⟨vb,0,none⟩) k2).trans k5;clear hown hgrow k5 k6;go_wp2_with fail
 clear c1;go_loopw [12] (fun i wr=>∃ k:Nat,k≤Fs.length∧i = .int .i64 k∧Ah wr W.heap.size Fs.length (fun j=>(Fs.getD j (fun _=>eD)) rows) k∧Below W.heap.size W wr) (fun i _=>Fs.length - (intOf i).toNat)
 case atStart=>exact ⟨0,Mj _,rfl,hB0,hb0⟩
 case round =>
  obtain ⟨k,hk,rfl,HB,hb⟩:=hrel;have hz:=hb.size;by_cases hlt:k<Fs.length
  ·obtain ⟨u,cu,A⟩:=HK.out k hlt;have cu:=(hb.cell (p:=⟨K,k,none⟩) k4).trans cu;obtain ⟨g,cb,rfl,eg,d⟩:=A;have d:=d rows a cap wr hr (hs.next hb) (Since.of hb);have ev:Fs[k] rows=(fun j=>(Fs.getD j (fun _=>eD)) rows) k:=by simp [List.getD,hlt]
   rw [ev] at d;generalize (fun j=>(Fs.getD j (fun _=>eD)) rows)=f at *;have i0:(0:Int)≤(k:Int):=by omega
   have i1:(k:Int)<(Fs.length:Int):=by omega
   go_wp2_with (go_at_fn g; refine d.mono ?_; rintro e w2 ⟨rfl,hb2⟩; have HB2:=HB.next hb2; obtain ⟨⟨u0,u1,u2,d0,d1,d2⟩,f0,f1,f2,hlb⟩:=HB2.cells hlt; have zz:=hb2.size)
   go_roundw
   case rel =>
    refine ⟨k+1,by omega,by go_num,?_,?_⟩
    ·exact HB2.step hlt
    ·exact (((chain hb hb2).setCell (p:=⟨W.heap.size,k*3,none⟩) (Mc _) _).setCell (p:=⟨W.heap.size,k*3+1,none⟩) (Mc _) _).setCell (p:=⟨W.heap.size,k*3+2,none⟩) (Mc _) _
   case measure=>simp [intOf]; omega
  ·have e:k=Fs.length:=by omega
   subst e;go_wp2
   go_ret;exact ⟨rfl,HB.done (Fs.map fun F:List Zp→Vl=>F rows) (by simp) (fun j hj=>by simp at hj; simp [List.getD,hj]) (by simp; omega),hb⟩
end Go.Proofs.YtjebpkhkjkjphaaGreat
