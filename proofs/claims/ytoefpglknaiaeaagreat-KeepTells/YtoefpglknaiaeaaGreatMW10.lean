import Derived.Maps.AppendAt
import Derived.Test.YtoefpglknaiaeaaGreatMW1
import Derived.Test.YtoefpglknaiaeaaGreatMW9
set_option maxHeartbeats 16000000
set_option maxRecDepth 100000
namespace Go.Proofs.YtoefpglknaiaeaaGreat
open Go.RowKit Go.Lib Go.Shelf _root_.Go.Proofs.Tryz
structure rG (cols:List Int) (x:Ex) (w0 wp:World) (a b:Option Addr) (ca cb:Nat) (l r:List Zp) (v:Value):Prop where
 ex:∃ (lo:Nat) (wc:World) (R rv hv:Nat) (u:Value),v = .agg #[.slice a l.length ca,.slice b r.length cb,.func (.func 246) #[] #[ah rv 0,ah hv 0]] ∧
  pO wp R rv∧hv<R∧wp.cell? (ah hv 0)=some u∧lN cols lo u x wc∧wc.heap.size≤R∧aI lo wc wp∧w0.heap.size≤R∧Below w0 w0 wp∧fc wp R rv wp
theorem Fg (u:Value) (w:World) (hu:∃ g cb,u = .func (.func g) #[] cb) :
  Calls prog 214 #[u] w fun e w'=>∃ rv,e = .returned (.func (.func 246) #[] #[ah rv 0,ah w 0])∧w'.cell? (ah w 0)=some u∧pO w' (w+1) rv∧fc w' (w+1) rv w'∧Below w w w':=by
 obtain ⟨g,cb,rfl⟩:=hu;obtain ⟨i0,hi,hj0,hj1,hj2⟩:=info_parts Tryz.pD;have h1:=aN w (.cells #[.func (.func g) #[] cb] 147);have c1:(w.alloc (.cells #[.func (.func g) #[] cb] 147)).cell? (ah w 0)=some (.func (.func g) #[] cb):=by simp
 have z1:(w.alloc (.cells #[.func (.func g) #[] cb] 147)).heap.size=w.heap.size+1:=by simp
 go_enter func214,ntmps214;go_wp2_with (first | (at_make; refine wpList_make_own _ rfl _ _ 45 rfl (w+1) 24 i0 _ 3 underlying45 hi hj0 hj1 .i64 .i64 8 8 rfl rfl rfl (by rw [hj2]; omega) (by unfold maxLen; omega) (by simp) ?_))
 generalize w.alloc _=w1 at *;intro w2 own2 g2;have z2:=g2.size;obtain ⟨hx2,⟨e2,_⟩ | ⟨gg,cap2,cur2,e2,hg2,hh2,hn2,hm2,hs2,ht2⟩⟩:=own2
 ·cases e2
 injection e2 with e2a e2b e2c
 have e2a:=Nk e2a;injection e2a with e2a
 subst e2c;subst e2a;have b2:Below w1 w1 w2:=(Mz _ _).grown g2 (Mx _) (by simp);have c2:=(b2.cell (p:=ah w 0) (by show w.heap.size<_; omega)).trans c1;have lt2:w.heap.size+1<w2.heap.size:=by
  rcases Nl (w+1) w2.heap.size with h | h
  ·exact h
  ·rw [Nz h] at hh2; cases hh2
 have h3:=aN w2 (.cells #[.slice (some (ah (w+1) 0)) 0 8] 45);have z3:(w2.alloc (.cells #[.slice (some (ah (w+1) 0)) 0 8] 45)).heap.size=w2.heap.size+1:=by simp
 have v3:(w2.alloc (.cells #[.slice (some (ah (w+1) 0)) 0 8] 45)).cell? (ah w2 0)=some (.slice (some (ah (w+1) 0)) 0 8):=by simp
 have f3:(w2.alloc (.cells #[.slice (some (ah (w+1) 0)) 0 8] 45)).frozen? (ah w2 0)=false:=by simp
 have r3:=(h3.block (w+1) lt2).trans hh2;have c3:=(h3.cell (p:=ah w 0) (by show w.heap.size<_; omega)).trans c2;have HP:Hid (∀ W,W=w2.alloc (.cells #[.slice (some (ah (w+1) 0)) 0 8] 45)→W.cell? (ah w 0)=some (.func (.func g) #[] cb)∧pO W (w+1) w2.heap.size∧fc W (w+1) w2.heap.size W∧Below w w W):=fun W hW=>by
  subst hW;exact ⟨c3,⟨lt2,by omega⟩,⟨rfl,rfl,rfl,Mx _,fun _ _ _ _=>rfl,⟨0,v3⟩,f3,cur2,r3,hs2⟩,chain (chain h1 b2) h3⟩
 clear v3 f3 r3 c3 h3 g2 hh2 hx2 ht2;go_wp2
 go_ret;exact ⟨_,rfl,HP.out _ rfl⟩
theorem rD {W:World} {k:Nat} {v0 v1 v2:Value} (u0 u1 u2:Value) (h0:W.cell? (ah k 0)=some v0) (h1:W.cell? (ah k 1)=some v1) (h2:W.cell? (ah k 2)=some v2) :
  (((W.setCell (ah k 0) u0).setCell (ah k 1) u1).setCell (ah k 2) u2).cell? (ah k 0)=some u0∧(((W.setCell (ah k 0) u0).setCell (ah k 1) u1).setCell (ah k 2) u2).cell? (ah k 1)=some u1∧(((W.setCell (ah k 0) u0).setCell (ah k 1) u1).setCell (ah k 2) u2).cell? (ah k 2)=some u2:=by
 have ne:∀ i j:Nat,i≠j→((ah k i):Addr)≠(ah k j):=fun i j h e=>h (congrArg Addr.off e)
 have t0:=NB W (ah k 0) u0 h0;have t1:=(MN W _ _ u0 (ne 0 1 (by decide))).trans h1;have t2:=(MN W _ _ u0 (ne 0 2 (by decide))).trans h2;have m0:=(MN (W.setCell (ah k 0) u0) _ _ u1 (ne 1 0 (by decide))).trans t0;have m1:=NB (W.setCell (ah k 0) u0) _ u1 t1;have m2:=(MN (W.setCell (ah k 0) u0) _ _ u1 (ne 1 2 (by decide))).trans t2
 exact ⟨(MN _ _ _ _ (ne 2 0 (by decide))).trans m0,(MN _ _ _ _ (ne 2 1 (by decide))).trans m1,NB _ _ _ m2⟩
theorem lG {B:Nat} {w W:World} {k:Nat} (u0 u1 u2:Value) (h:Below B w W) (hk:B≤k):Below B w (((W.setCell (ah k 0) u0).setCell (ah k 1) u1).setCell (ah k 2) u2) :=
 ((h.setCell (p:=ah k 0) hk _).setCell (p:=ah k 1) hk _).setCell (p:=ah k 2) hk _
theorem AL {W:World} {k:Nat} (u0 u1 u2:Value) (j:Nat) (hj:j≠k):(((W.setCell (ah k 0) u0).setCell (ah k 1) u1).setCell (ah k 2) u2).heap[j]? = W.heap[j]?:=by
 rw [Nf _ (ah k 2) _ j hj,Nf _ (ah k 1) _ j hj,Nf _ (ah k 0) _ j hj]
theorem De {W:World} {k:Nat} (u0 u1 u2:Value):(((W.setCell (ah k 0) u0).setCell (ah k 1) u1).setCell (ah k 2) u2).heap.size=W.heap.size:=by simp
theorem Eg (left right:List Int) (x:Ex) (la:Option Addr) (lcap:Nat) (ra:Option Addr) (rcap:Nat) (xa:Option Addr) (xcap:Nat) (a:Option Addr) (ca:Nat) (l:List Zp) (b:Option Addr) (cb:Nat) (r:List Zp) (w:World)
  (hcl:bf w w la left) (hcr:bf w w ra right) (hx:aU w w xa x.ks) (h:aK w a l) (h':aK w b r) (hll:left.length≤100000000000000) (hrl:right.length≤100000000000000) :
  Calls prog 182 #[.slice la left.length lcap,.slice ra right.length rcap,fN x.k x.v x.c xa x.ks.length xcap,.slice a l.length ca,.slice b r.length cb] w fun e w'=>∃ v,e = .returned (.tuple #[v,.int .i64 (iG left right x l r)])∧((iG left right x l r=0∧rG (left ++ right) x w w' a b ca cb l r v)∨(¬ iG left right x l r=0∧v = .agg #[bX,bX,.nilFunc]))∧Below w w w':=by
 have h1:=aN w (.cells (hJ x xa xcap) 27);have S1:=ki.new w x.k x.v x.c xa x.ks.length xcap 27;have z1:(w.alloc (.cells (hJ x xa xcap) 27)).heap.size=w.heap.size+1:=by simp
 have h2:Below (w.alloc (.cells (hJ x xa xcap) 27)).heap.size (w.alloc (.cells (hJ x xa xcap) 27)) ((w.alloc (.cells (hJ x xa xcap) 27)).alloc (.cells #[bX,bX,.nilFunc] 170)):=aN ..;have z2:((w.alloc (.cells (hJ x xa xcap) 27)).alloc (.cells #[bX,bX,.nilFunc] 170)).heap.size=w.heap.size+2:=by simp
 have S2:=S1.next h2 ag;have b0:((w.alloc (.cells (hJ x xa xcap) 27)).alloc (.cells #[bX,bX,.nilFunc] 170)).cell? (ah (w+1) 0)=some (.slice none 0 0):=by rw [Nv _ _ _ _ (by simp)]; rfl
 have b1:((w.alloc (.cells (hJ x xa xcap) 27)).alloc (.cells #[bX,bX,.nilFunc] 170)).cell? (ah (w+1) 1)=some (.slice none 0 0):=by rw [Nv _ _ _ _ (by simp)]; rfl
 have b2:((w.alloc (.cells (hJ x xa xcap) 27)).alloc (.cells #[bX,bX,.nilFunc] 170)).cell? (ah (w+1) 2)=some (.nilFunc):=by rw [Nv _ _ _ _ (by simp)]; rfl
 have f0:((w.alloc (.cells (hJ x xa xcap) 27)).alloc (.cells #[bX,bX,.nilFunc] 170)).frozen? (ah (w+1) 0)=false:=NV _ _ _ _ (by simp);have f1:((w.alloc (.cells (hJ x xa xcap) 27)).alloc (.cells #[bX,bX,.nilFunc] 170)).frozen? (ah (w+1) 1)=false:=NV _ _ _ _ (by simp);have f2:((w.alloc (.cells (hJ x xa xcap) 27)).alloc (.cells #[bX,bX,.nilFunc] 170)).frozen? (ah (w+1) 2)=false:=NV _ _ _ _ (by simp);have hA:=chain h1 h2
 generalize ht:iG left right x l r=te;have HT:=aB ht;clear ht S1;by_cases h8:8<left.length+right.length
 ·have e:te=5:=by rw [← HT.out]; simp [iG,h8]
  subst e;have hz:(8:Int)<(left.length:Int)+(right.length:Int):=by omega
  go_enter func182,ntmps182;go_wp2
  exact MA (v:=.tuple #[.agg #[.slice none 0 0,.slice none 0 0,.nilFunc],.int .i64 5]) (by simp [results,results182,go_sem]) rfl ⟨_,rfl,.inr ⟨by decide,rfl⟩,by first | exact hA | exact (hA.setCell (p:=⟨w.heap.size+1,0,none⟩) (by show w.heap.size≤w.heap.size+1; omega) _)⟩
 have hz:¬ (8:Int)<(left.length:Int)+(right.length:Int):=by omega
 have H8:=aB h8;have p0:=ak S2.c0;have p1:=ak S2.c1;have p2:=ak S2.c2;have p3:=ak S2.c3;have p4:=ak S2.c4;have p5:=ak S2.c5;simp only [MG] at p1 p2 p3 p4 p5;by_cases hcond:cH (left ++ right) x=0
 ·go_enter func182,ntmps182;go_wp2_with fail
  generalize (w.alloc (.cells (hJ x xa xcap) 27)).alloc (.cells #[.slice none 0 0,.slice none 0 0,.nilFunc] 170)=w2 at *;have hB0:Below w2.heap.size w2 w2.drew:=(Mz _ _).drew;refine iI (by kernel_rfl) ?_;refine aT (some 24) (i:=0) (v:=.slice la left.length lcap) rfl rfl (by kernel_rfl) (by kernel_rfl) (by kernel_rfl) (fun _ _ _ h=>h) (Or.inl ⟨rfl,fun n=>?_⟩) hB0 ?_
  ·go_simp
  simp only [Act.put,pA,pB,pC];refine aT (some 25) (i:=1) (v:=.slice ra right.length rcap) rfl rfl (by kernel_rfl) (by kernel_rfl) (by kernel_rfl) (fun _ _ _ h=>h) (Or.inl ⟨rfl,fun n=>?_⟩) hB0 ?_
  ·go_simp
  simp only [Act.put,pA,pB,pC];refine aT (some 28) (i:=4) (v:=fN x.k x.v x.c xa x.ks.length xcap) rfl rfl (by kernel_rfl) (by kernel_rfl) (by kernel_rfl) (fun _ _ _ h=>h) (Or.inl ⟨rfl,fun n=>?_⟩) hB0 ?_
  ·go_simp
  simp only [pX];clear p0 p1 p2 p3 p4 p5;refine fG (rs:=[2]) aG (by simp) ?_;intro w3 hb3 j hj;obtain rfl:j=2:=by simpa using hj
  clear hj;have D3:=hB0.trans (hb3.mono hB0.size);refine wpOp_step rfl (fun K hK=>?_);go_simp;have hal3:=aa w3 (.cells #[.slice la left.length lcap,.slice ra right.length rcap] 33);have PC:=jA.new lcap rcap (dE (hcl.next (chain hA D3) (Mx _))) (dE (hcr.next (chain hA D3) (Mx _))) 33;have D4:=D3.trans (hal3.mono D3.size);refine hK _ _ ⟨D4,?_⟩;clear hK K;generalize w3.alloc (.cells #[.slice la left.length lcap,.slice ra right.length rcap] 33)=w4 at *
  refine fG (rs:=[3]) aG (by simp) ?_;intro w5 hb5 j hj;obtain rfl:j=3:=by simpa using hj
  clear hj;have D5:=D4.trans (hb5.mono D4.size);refine wpOp_step rfl (fun K hK=>?_);go_simp;refine (kX _ _ _ _ _ w5 (PC.next hb5) ag).mono ?_;rintro e w6 ⟨v6,rfl,O6,hb6⟩;rw [← Nc] at O6;obtain ⟨a6,c6,rfl,I6⟩:=mC O6 (by simp);have D6:=D5.trans (hb6.mono D5.size);refine hK _ _ ⟨D6,?_⟩;clear hK K PC O6;refine fG (rs:=[5]) aG (by simp) ?_;intro w7 hb7 j hj;obtain rfl:j=5:=by simpa using hj
  clear hj;have D7:=D6.trans (hb7.mono D6.size);refine wpOp_step rfl (fun K hK=>?_);go_simp;have hA7:=chain hA D7;have con:=vD (left ++ right) x a6 c6 xa xcap w7 ((aU.next hA7 (Mx _) hx).up hA7.size) ((I6.next hb7 (Mx _)).up hb7.size) hcond;rw [ME] at con;refine con.mono ?_;clear con;rintro e w8 ⟨u8,rfl,hC8,hb8⟩;obtain ⟨ug,ucb,rfl⟩:∃ g cb,u8 = .func (.func g) #[] cb:=by obtain ⟨g,cb,e,_⟩:=hC8; exact ⟨g,cb,e⟩
  have D8:=D7.trans (hb8.mono D7.size);refine hK _ _ ⟨D8,?_⟩;clear hK K;refine aT (some 23) (i:=6) (v:=.tuple #[.func (.func ug) #[] ucb,aD]) rfl rfl aG aG aG (fun _ _ _ h=>h) (Or.inl ⟨rfl,fun n=>?_⟩) D8 ?_
  ·go_simp
  simp only [pX];refine aT (some 30) (i:=7) (v:=.func (.func ug) #[] ucb) rfl rfl aG aG aG (fun _ _ _ h=>h) (Or.inl ⟨rfl,fun n=>?_⟩) D8 ?_
  ·go_simp
  simp only [pX];refine aT (some 31) (i:=8) (v:=.int .i64 0) rfl rfl aG aG aG (fun _ _ _ h=>h) (Or.inl ⟨rfl,fun n=>?_⟩) D8 ?_
  ·go_simp
  simp only [pX];refine aT (some 12) (i:=9) (v:=.func (.func ug) #[] ucb) rfl rfl aG aG aG (fun _ _ _ h=>h) (Or.inl ⟨rfl,fun n=>?_⟩) D8 ?_
  ·go_simp
  simp only [pX];refine aT (some 13) (i:=10) (v:=.int .i64 0) rfl rfl aG aG aG (fun _ _ _ h=>h) (Or.inl ⟨rfl,fun n=>?_⟩) D8 ?_
  ·go_simp
  simp only [pX];refine ml aG ?_;intro w9 hb9;have D9:=D8.trans (hb9.mono D8.size);have hA9:=chain hA D9;have q0:=(D9.cell (p:=ah (w+1) 0) (by show w.heap.size+1<_; omega)).trans b0;have q1:=(D9.cell (p:=ah (w+1) 1) (by show w.heap.size+1<_; omega)).trans b1;have q2:=(D9.cell (p:=ah (w+1) 2) (by show w.heap.size+1<_; omega)).trans b2;have g0:=(D9.frozen (p:=ah (w+1) 0) (by show w.heap.size+1<_; omega)).trans f0;have g1:=(D9.frozen (p:=ah (w+1) 1) (by show w.heap.size+1<_; omega)).trans f1
  have g2:=(D9.frozen (p:=ah (w+1) 2) (by show w.heap.size+1<_; omega)).trans f2;have con:=hU left la lcap a ca l w9 ((hcl.next hA9 (Mx _)).up hA9.size) (h.next hA9);have lt9:w.heap.size+1<w9.heap.size:=by have:=D9.size; omega
  clear b0 b1 b2 f0 f1 f2 S2;by_cases hi1:bV left l=0
  ·go_wp2_with fail
   rw [hi1] at con;refine con.mono ?_;clear con;rintro e w10 ⟨rfl,hb10⟩;have hA10:=chain hA9 hb10;have lt10:w.heap.size+1<w10.heap.size:=by have:=hb10.size; omega
   have q0:=(hb10.cell (p:=ah (w+1) 0) lt9).trans q0;have q1:=(hb10.cell (p:=ah (w+1) 1) lt9).trans q1;have q2:=(hb10.cell (p:=ah (w+1) 2) lt9).trans q2;have g0:=(hb10.frozen (p:=ah (w+1) 0) lt9).trans g0;have g1:=(hb10.frozen (p:=ah (w+1) 1) lt9).trans g1;have g2:=(hb10.frozen (p:=ah (w+1) 2) lt9).trans g2;have con:=hU right ra rcap b cb r w10 ((hcr.next hA10 (Mx _)).up hA10.size) (h'.next hA10);by_cases hi2:bV right r=0
   ·go_wp2_with fail
    rw [hi2] at con;refine con.mono ?_;clear con;have e0:te=0:=by rw [← HT.out]; unfold iG; rw [if_neg H8.out,if_neg (by simp [hcond]),if_neg (by simp [hi1])]; exact hi2
    subst e0;rintro e w11 ⟨rfl,hb11⟩;have hA11:=chain hA10 hb11;have lt11:w.heap.size+1<w11.heap.size:=by have:=hb11.size; omega
    have q0:=(hb11.cell (p:=ah (w+1) 0) lt10).trans q0;have q1:=(hb11.cell (p:=ah (w+1) 1) lt10).trans q1;have q2:=(hb11.cell (p:=ah (w+1) 2) lt10).trans q2;have g0:=(hb11.frozen (p:=ah (w+1) 0) lt10).trans g0;have g1:=(hb11.frozen (p:=ah (w+1) 1) lt10).trans g1;have g2:=(hb11.frozen (p:=ah (w+1) 2) lt10).trans g2;go_wp2_with fail
    refine (Fg (.func (.func ug) #[] ucb) w11 ⟨_,_,rfl⟩).mono ?_;rintro e w12 ⟨rv,rfl,hv12,N12,I12,hb12⟩;have hA12:=chain hA11 hb12;have lt12:w.heap.size+1<w12.heap.size:=by have:=hb12.size; omega
    have q0:=(hb12.cell (p:=ah (w+1) 0) lt11).trans q0;have q1:=(hb12.cell (p:=ah (w+1) 1) lt11).trans q1;have q2:=(hb12.cell (p:=ah (w+1) 2) lt11).trans q2;have g0:=(hb12.frozen (p:=ah (w+1) 0) lt11).trans g0;have g1:=(hb12.frozen (p:=ah (w+1) 1) lt11).trans g1;have g2:=(hb12.frozen (p:=ah (w+1) 2) lt11).trans g2;have d12:=chain (chain (chain hb9 hb10) hb11) hb12;have F7:Hid (w.heap.size+2≤w7.heap.size):=by show w.heap.size+2≤w7.heap.size; have:=D7.size; omega
    have HC8:=aB hC8;have HZ:Hid (w8.heap.size≤w11.heap.size):=by show w8.heap.size≤w11.heap.size; have:=(chain (chain hb9 hb10) hb11).size; omega
    clear hC8;go_wp2_with fail
    obtain ⟨r0,r1,r2⟩:=rD (.slice a l.length ca) (.slice b r.length cb) (.func (.func 246) #[] #[ah rv 0,ah w11 0]) q0 q1 q2;have hE:=lG (.slice a l.length ca) (.slice b r.length cb) (.func (.func 246) #[] #[ah rv 0,ah w11 0]) hA12 (show w.heap.size≤w.heap.size+1 by omega);have hK:=AL (W:=w12) (k:=w.heap.size+1) (.slice a l.length ca) (.slice b r.length cb) (.func (.func 246) #[] #[ah rv 0,ah w11 0])
    have hS:=De (W:=w12) (k:=w.heap.size+1) (.slice a l.length ca) (.slice b r.length cb) (.func (.func 246) #[] #[ah rv 0,ah w11 0]);generalize ((w12.setCell (ah (w+1) 0) (.slice a l.length ca)).setCell (ah (w+1) 1) (.slice b r.length cb)).setCell (ah (w+1) 2) (.func (.func 246) #[] #[ah rv 0,ah w11 0])=wE at *;have hr12:=N12.r;have hv12':=N12.v;have hz:=HZ.out;have h7:=F7.out;obtain ⟨n12,hvar⟩:=I12.var;obtain ⟨cur12,hroom,hcs⟩:=I12.room
    refine MA (v:=.tuple #[.agg #[.slice a l.length ca,.slice b r.length cb,.func (.func 246) #[] #[.pointer (some ⟨rv,0,none⟩),.pointer (some ⟨w11.heap.size,0,none⟩)]],.int .i64 0]) (by simp [results,results182,go_sem,r0,r1,r2]) rfl ⟨_,rfl,⟨⟨w7.heap.size,w8,w11.heap.size+1,rv,w11.heap.size,_,rfl,⟨by omega,by omega⟩,by omega,(MP (w:=w12) (hK w11.heap.size (by omega))).trans hv12,HC8.out,by omega,⟨by have:=d12.size; omega,fun k k1 k2=>(hK k (by omega)).trans (d12.block k k2)⟩,by omega,hE,?_⟩⟩,hE⟩
    exact ⟨rfl,rfl,rfl,Mx _,fun _ _ _ _=>rfl,⟨n12,(MP (w:=w12) (hK rv ag)).trans hvar⟩,(NU (w:=w12) (hK rv ag)).trans I12.Gt,cur12,(hK _ ag).trans hroom,hcs⟩
   ·go_wp2_with fail
    refine con.mono ?_;clear con;have e0:te=bV right r:=by rw [← HT.out]; unfold iG; rw [if_neg H8.out,if_neg (by simp [hcond]),if_neg (by simp [hi1])]
    rw [← e0] at hi2 ⊢;have hne:(te != 0)=true:=by simpa using hi2
    clear e0;rintro e w11 ⟨rfl,hb11⟩;have hA11:=chain hA10 hb11;have q0:=(hb11.cell (p:=ah (w+1) 0) lt10).trans q0;have q1:=(hb11.cell (p:=ah (w+1) 1) lt10).trans q1;have q2:=(hb11.cell (p:=ah (w+1) 2) lt10).trans q2;have g0:=(hb11.frozen (p:=ah (w+1) 0) lt10).trans g0;have g1:=(hb11.frozen (p:=ah (w+1) 1) lt10).trans g1;have g2:=(hb11.frozen (p:=ah (w+1) 2) lt10).trans g2;go_wp2_with fail
    obtain ⟨r0,r1,r2⟩:=rD (.slice none 0 0) (.slice none 0 0) .nilFunc q0 q1 q2;have hE:=lG (.slice none 0 0) (.slice none 0 0) .nilFunc hA11 (show w.heap.size≤w.heap.size+1 by omega);generalize ((w11.setCell ⟨w.heap.size+1,0,none⟩ (.slice none 0 0)).setCell ⟨w.heap.size+1,1,none⟩ (.slice none 0 0)).setCell ⟨w.heap.size+1,2,none⟩ .nilFunc=wE at *;exact MA (v:=.tuple #[.agg #[.slice none 0 0,.slice none 0 0,.nilFunc],.int .i64 te]) (by simp [results,results182,go_sem,r0,r1,r2]) rfl ⟨_,rfl,.inr ⟨hi2,rfl⟩,hE⟩
  ·go_wp2_with fail
   refine con.mono ?_;clear con;have e0:te=bV left l:=by rw [← HT.out]; unfold iG; rw [if_neg H8.out,if_neg (by simp [hcond]),if_pos hi1]
   rw [← e0] at hi1 ⊢;have hne:(te != 0)=true:=by simpa using hi1
   clear e0;rintro e w10 ⟨rfl,hb10⟩;have hA10:=chain hA9 hb10;have q0:=(hb10.cell (p:=ah (w+1) 0) lt9).trans q0;have q1:=(hb10.cell (p:=ah (w+1) 1) lt9).trans q1;have q2:=(hb10.cell (p:=ah (w+1) 2) lt9).trans q2;have g0:=(hb10.frozen (p:=ah (w+1) 0) lt9).trans g0;have g1:=(hb10.frozen (p:=ah (w+1) 1) lt9).trans g1;have g2:=(hb10.frozen (p:=ah (w+1) 2) lt9).trans g2;go_wp2_with fail
   obtain ⟨r0,r1,r2⟩:=rD (.slice none 0 0) (.slice none 0 0) .nilFunc q0 q1 q2;have hE:=lG (.slice none 0 0) (.slice none 0 0) .nilFunc hA10 (show w.heap.size≤w.heap.size+1 by omega);generalize ((w10.setCell ⟨w.heap.size+1,0,none⟩ (.slice none 0 0)).setCell ⟨w.heap.size+1,1,none⟩ (.slice none 0 0)).setCell ⟨w.heap.size+1,2,none⟩ .nilFunc=wE at *;exact MA (v:=.tuple #[.agg #[.slice none 0 0,.slice none 0 0,.nilFunc],.int .i64 te]) (by simp [results,results182,go_sem,r0,r1,r2]) rfl ⟨_,rfl,.inr ⟨hi1,rfl⟩,hE⟩
 ·have e0:te=cH (left ++ right) x:=by rw [← HT.out]; unfold iG; rw [if_neg H8.out,if_pos hcond]
  have e1:¬ te=0:=by rw [e0]; exact hcond
  have hne:(te != 0)=true:=by simpa using e1
  have HC:=aB e0.symm;clear e0;go_enter func182,ntmps182;go_wp2_with fail
  generalize (w.alloc (.cells (hJ x xa xcap) 27)).alloc (.cells #[.slice none 0 0,.slice none 0 0,.nilFunc] 170)=w2 at *;have hB0:Below w2.heap.size w2 w2.drew:=(Mz _ _).drew;refine iI (by kernel_rfl) ?_;refine aT (some 24) (i:=0) (v:=.slice la left.length lcap) rfl rfl (by kernel_rfl) (by kernel_rfl) (by kernel_rfl) (fun _ _ _ h=>h) (Or.inl ⟨rfl,fun n=>?_⟩) hB0 ?_
  ·go_simp
  simp only [Act.put,pA,pB,pC];refine aT (some 25) (i:=1) (v:=.slice ra right.length rcap) rfl rfl (by kernel_rfl) (by kernel_rfl) (by kernel_rfl) (fun _ _ _ h=>h) (Or.inl ⟨rfl,fun n=>?_⟩) hB0 ?_
  ·go_simp
  simp only [Act.put,pA,pB,pC];refine aT (some 28) (i:=4) (v:=fN x.k x.v x.c xa x.ks.length xcap) rfl rfl (by kernel_rfl) (by kernel_rfl) (by kernel_rfl) (fun _ _ _ h=>h) (Or.inl ⟨rfl,fun n=>?_⟩) hB0 ?_
  ·go_simp
  simp only [pX];clear p0 p1 p2 p3 p4 p5;refine fG (rs:=[2]) aG (by simp) ?_;intro w3 hb3 j hj;obtain rfl:j=2:=by simpa using hj
  clear hj;have D3:=hB0.trans (hb3.mono hB0.size);refine wpOp_step rfl (fun K hK=>?_);go_simp;have hal3:=aa w3 (.cells #[.slice la left.length lcap,.slice ra right.length rcap] 33);have PC:=jA.new lcap rcap (dE (hcl.next (chain hA D3) (Mx _))) (dE (hcr.next (chain hA D3) (Mx _))) 33;have D4:=D3.trans (hal3.mono D3.size);refine hK _ _ ⟨D4,?_⟩;clear hK K;generalize w3.alloc (.cells #[.slice la left.length lcap,.slice ra right.length rcap] 33)=w4 at *
  refine fG (rs:=[3]) aG (by simp) ?_;intro w5 hb5 j hj;obtain rfl:j=3:=by simpa using hj
  clear hj;have D5:=D4.trans (hb5.mono D4.size);refine wpOp_step rfl (fun K hK=>?_);go_simp;refine (kX _ _ _ _ _ w5 (PC.next hb5) ag).mono ?_;rintro e w6 ⟨v6,rfl,O6,hb6⟩;rw [← Nc] at O6;obtain ⟨a6,c6,rfl,I6⟩:=mC O6 (by simp);have D6:=D5.trans (hb6.mono D5.size);refine hK _ _ ⟨D6,?_⟩;clear hK K PC O6;refine fG (rs:=[5]) aG (by simp) ?_;intro w7 hb7 j hj;obtain rfl:j=5:=by simpa using hj
  clear hj;have D7:=D6.trans (hb7.mono D6.size);refine wpOp_step rfl (fun K hK=>?_);go_simp;have hA7:=chain hA D7;have con:=rK (left ++ right) x a6 c6 xa xcap w7 ((aU.next hA7 (Mx _) hx).up hA7.size) ((I6.next hb7 (Mx _)).up hb7.size) hcond;rw [HC.out,ME] at con;refine con.mono ?_;clear con;rintro e w8 ⟨rfl,hb8⟩;have D8:=D7.trans (hb8.mono D7.size);refine hK _ _ ⟨D8,?_⟩;clear hK K
  refine aT (some 23) (i:=6) (v:=.tuple #[.nilFunc,te]) rfl rfl aG aG aG (fun _ _ _ h=>h) (Or.inl ⟨rfl,fun n=>?_⟩) D8 ?_
  ·go_simp
  simp only [pX];refine aT (some 30) (i:=7) (v:=.nilFunc) rfl rfl aG aG aG (fun _ _ _ h=>h) (Or.inl ⟨rfl,fun n=>?_⟩) D8 ?_
  ·go_simp
  simp only [pX];refine aT (some 31) (i:=8) (v:=.int .i64 te) rfl rfl aG aG aG (fun _ _ _ h=>h) (Or.inl ⟨rfl,fun n=>?_⟩) D8 ?_
  ·go_simp
  simp only [pX];refine aT (some 12) (i:=9) (v:=.nilFunc) rfl rfl aG aG aG (fun _ _ _ h=>h) (Or.inl ⟨rfl,fun n=>?_⟩) D8 ?_
  ·go_simp
  simp only [pX];refine aT (some 13) (i:=10) (v:=.int .i64 te) rfl rfl aG aG aG (fun _ _ _ h=>h) (Or.inl ⟨rfl,fun n=>?_⟩) D8 ?_
  ·go_simp
  simp only [pX];refine ml aG ?_;intro w9 hb9;have D9:=D8.trans (hb9.mono D8.size);have hA9:=chain hA D9;have q0:=(D9.cell (p:=ah (w+1) 0) (by show w.heap.size+1<_; omega)).trans b0;have q1:=(D9.cell (p:=ah (w+1) 1) (by show w.heap.size+1<_; omega)).trans b1;have q2:=(D9.cell (p:=ah (w+1) 2) (by show w.heap.size+1<_; omega)).trans b2;have g0:=(D9.frozen (p:=ah (w+1) 0) (by show w.heap.size+1<_; omega)).trans f0;have g1:=(D9.frozen (p:=ah (w+1) 1) (by show w.heap.size+1<_; omega)).trans f1
  have g2:=(D9.frozen (p:=ah (w+1) 2) (by show w.heap.size+1<_; omega)).trans f2;go_wp2_with fail
  obtain ⟨r0,r1,r2⟩:=rD (.slice none 0 0) (.slice none 0 0) .nilFunc q0 q1 q2;have hE:=lG (.slice none 0 0) (.slice none 0 0) .nilFunc hA9 (show w.heap.size≤w.heap.size+1 by omega);generalize ((w9.setCell ⟨w.heap.size+1,0,none⟩ (.slice none 0 0)).setCell ⟨w.heap.size+1,1,none⟩ (.slice none 0 0)).setCell ⟨w.heap.size+1,2,none⟩ .nilFunc=wE at *;exact MA (v:=.tuple #[.agg #[.slice none 0 0,.slice none 0 0,.nilFunc],.int .i64 te]) (by simp [results,results182,go_sem,r0,r1,r2]) rfl ⟨_,rfl,.inr ⟨e1,rfl⟩,hE⟩
end Go.Proofs.YtoefpglknaiaeaaGreat
namespace Go.Proofs.YtoefpglknaiaeaaGreat
open Go.RowKit Go.Lib Go.Shelf
def lg (base:Nat) (W:World) (v:Value) (l:List Zp):Prop:=∃ xs,W.ownsRow base 47 2 v l.length xs∧yX W xs l∧∀ (i:Nat) (b o cap n:Nat),i<l.length→xs[i*2]? = some (.slice (some (ah b o)) n cap)→base≤b
theorem lg.z {base:Nat} {W:World} {v:Value} {l:List Zp} (h:lg base W v l):eA base W v l:=by
 obtain ⟨xs,h1,h2,_⟩:=h;exact ⟨xs,h1,h2⟩
theorem F5 {lo:Nat} {W w1:World} {a:Option Addr} {r:List Vl} (h:aZ W a r) (ht:fi W a) (hb:∀ b o,a=some ⟨b,o,none⟩→lo≤b) (hs:aI lo W w1):aZ w1 a r∧fi w1 a:=by
 have key:∀ b off,a=some ⟨b,off,none⟩→w1.heap[b]? = W.heap[b]?:=by
  intro b off e;obtain ⟨c,z,h1⟩:=ht b off e;have hlt:b<W.heap.size:=by
   rcases Nl b W with h | h
   ·exact h
   ·rw [Nz h] at h1; cases h1
  exact hs.2 b (hb b off e) hlt
 refine ⟨⟨h.1,?_⟩,?_⟩
 ·rcases h.2 with h | ⟨b,off,e,hr,hlt⟩
  ·exact .inl h
  ·refine .inr ⟨b,off,e,fun i hi=>?_,My hlt hs.1⟩;have k:=key b off e;obtain ⟨c0,c1,c2⟩:=hr i hi;exact ⟨(MP (a:=⟨b,_,none⟩) k).trans c0,(MP (a:=⟨b,_,none⟩) k).trans c1,(MP (a:=⟨b,_,none⟩) k).trans c2⟩
 ·intro b off e;obtain ⟨c,z,h1⟩:=ht b off e;exact ⟨c,z,(key b off e).trans h1⟩
theorem lg.since {base lo:Nat} {W w1:World} {v:Value} {l:List Zp} (h:lg base W v l) (hl:lo≤base) (hs:aI lo W w1):lg base w1 v l:=by
 obtain ⟨xs,h1,h2,h3⟩:=h;refine ⟨xs,kF h1 hl hs,⟨h2.1,fun i hi=>?_⟩,h3⟩;obtain ⟨a,cap,e0,e1,e2,e3⟩:=h2.2 i hi;obtain ⟨g0,g1⟩:=F5 e2 e3 (fun b o e=>by subst e; exact MO hl (h3 i b o cap _ hi e0)) hs;exact ⟨a,cap,e0,e1,g0,g1⟩
theorem lg.nil (base:Nat) (W:World):lg base W bX []:=⟨[],by simpa using M4 _ _ _ _,⟨rfl,fun i hi=>by simp at hi⟩,fun i b o cap n hi=>by simp at hi⟩
theorem lg.slice {base:Nat} {W:World} {v:Value} {l:List Zp} (h:lg base W v l):∃ a cap,v = .slice a l.length cap:=by
 obtain ⟨a,cap,e,_⟩:=h.z.zs;exact ⟨a,cap,e⟩
theorem lg.push {W w1:World} {base:Nat} {v v':Value} {xs:List Value} {l:List Zp} {a:Option Addr} {cap:Nat} {r:List Vl} {x:Int}
  (ho:W.ownsRow base 47 2 v l.length xs) (he:yX W xs l) (hb:∀ (i:Nat) (b o cap n:Nat),i<l.length→xs[i*2]? = some (.slice (some (ah b o)) n cap)→base≤b) (hs:aZ W a r) (ht:fi W a) (ha:∀ b o,a=some ⟨b,o,none⟩→base≤b)
  (ho':w1.ownsRow base 47 2 v' (l.length+1) (xs ++ [.slice a r.length cap,.int .i64 x])) (hg:W.grownBy w1 v.ownBlock):lg base w1 v' (l ++ [(r,x)]):=by
 have lx:=he.1;refine ⟨_,by simpa using ho',⟨by simp [he.1]; omega,?_⟩,?_⟩
 ·intro i hi;by_cases hi':i<l.length
  ·obtain ⟨a',c',h1,h2,h3,h4⟩:=he.2 i hi';have g:=jR h3 h4 ho hg;refine ⟨a',c',?_,?_,?_,g.2⟩
   ·rw [MT ag,h1,MV hi']
   ·rw [MT ag,h2,MV hi']
   ·rw [MV hi']; exact g.1
  ·have:i=l.length:=by simp at hi; omega
   subst this;have g:=jR hs ht ho hg;refine ⟨a,cap,?_,?_,?_,g.2⟩
   ·rw [MU (by omega)]; simp [lx]
   ·rw [MU (by omega)]; simp [lx]
   ·simpa using g.1
 ·intro i b o c n hi h;by_cases hi':i<l.length
  ·rw [MT ag] at h;exact hb i b o c n hi' h
  ·have:i=l.length:=by simp at hi; omega
   subst this;rw [MU (by omega)] at h;simp [lx] at h;exact ha b o h.1
theorem lg.lt {base:Nat} {W:World} {v:Value} {l:List Zp} (h:lg base W v l) {g:Nat} (hg:v.ownBlock=some g):base≤g∧g<W.heap.size:=by
 obtain ⟨xs,h1,_⟩:=h;exact h1.lt g hg
theorem dH {P:Program} {w:World} {o:Oper} {a:Act} {K:Act→World→Prop} {Q:Exit→Act→World→Prop} (d:Option Tmp) (hd:o.dst=d) (s x:Operand) (t:TypeId)
  (ho:o.op = .call { callee:=.builtin .append,args:=#[s,x],argTypes:=#[t,t] })
  (base:Nat) (e:TypeId) (i:TypeInfo) (z:Value) (size bytes:Nat) (ht:P.underlying t=some (.slice e)) (hi:P.info? e=some i) (hz:i.zero=some z)
  (hsize:i.size=size) (hby:i.bytes=bytes) (hzs:z.cells.size=size) (hsz:0<size)
  (v:Value) (n:Nat) (xs:List Value) (hs:a.eval s=v) (hown:w.ownsRow base e size v n xs)
  (ad:Addr) (m c:Nat) (news:List Value) (hx:a.eval x = .slice (some ad) m c) (hl:news.length=m*size) (hnews:∀ j u,news[j]? = some u→w.cell? (ad.add j)=some u) (h1:∀ u ∈ news,u.oneCell'=true)
  (h63:n+m≤maxLen) (hbytes:(n+m)*bytes≤140737488355328) (hbase:base≤w.heap.size)
  (h:∀ v' w',w'.ownsRow base e size v' (n+m) (xs ++ news)→w.grownBy w' v.ownBlock→(v'.ownBlock=v.ownBlock∨v'.ownBlock=some w.heap.size)→K (a.put d v') w'):o.wp P a w K Q:=by
 subst hd;obtain ⟨v',w',hr,h2,h3,_,h5⟩:=run_append_own_at (P:=P) w base t o.type e i z size bytes ht hi hz hsize hby hzs hsz v n xs hown ad m c news hl hnews h1 h63 hbytes hbase;unfold Oper.wp execOp;simp only [ho,resolve,invoke,builtin,Sem.run_bind,Sem.run_pure,Result.andThen_ok,List.map_toArray,Oe,List.map_nil,hs,hx,hr];exact h v' w' h2 h3 h5
theorem A8 (x:Ex) {l r:List Zp} {k:Nat} (h:k<l.length):ep x (l.take (k+1)) r=ep x (l.take k) r ++ bI x l[k] r:=by
 unfold ep;rw [MJ h,List.flatMap_append];simp
theorem lD (x:Ex) (p:Zp) {r:List Zp} {k:Nat} (h:k<r.length):bI x p (r.take (k+1))=bI x p (r.take k) ++ (if cX x (p.1 ++ r[k].1)=true then [(p.1 ++ r[k].1,p.2*r[k].2)] else []):=by
 unfold bI;rw [MJ h,Ob,Nc,List.filter_cons]
 congr 1
 split <;> rfl
theorem qK (x:Ex) (p:Zp) (r:List Zp):(bI x p r).length≤r.length:=by
 unfold bI;rw [Nt];exact Nn _ _
theorem qd (x:Ex):∀ (l r:List Zp),(ep x l r).length≤l.length*r.length
 | [],_=>by simp [ep]
 | p :: t,r=>by
  have h1:=qd x t r
  have h2:=qK x p r
  unfold ep at h1 ⊢
  rw [Ol,ME,Ng,Nat.add_mul,Nat.one_mul]
  omega
theorem cell_of {W:World} {b:Nat} {xs:Array Value} {T:TypeId} {i:Nat} {v:Value} (h:W.heap[b]? = some (.cells xs T (0,0))) (hv:xs[i]? = some v):W.cell? (ah b i)=some v:=by
 simp [World.cell?,h,hv]
theorem bq (W:World) (xs:Array Value) (T:TypeId):(W.alloc (.cells xs T)).heap[W.heap.size]? = some (.cells xs T (0,0)):=by
 show (W.heap.push (.cells xs T (0,0)))[W.heap.size]? = _;exact Array.getElem?_push_size
theorem an {W:World} {b:Nat} {o:Obj} (h:W.heap[b]? = some o):b<W.heap.size:=by
 rcases Nl b W with h' | h'
 ·exact h'
 ·rw [Nz h'] at h; cases h
end Go.Proofs.YtoefpglknaiaeaaGreat
namespace Go.Proofs.YtoefpglknaiaeaaGreat
open Go.RowKit Go.Lib Go.Shelf _root_.Go.Proofs.Tryz
abbrev Kp:Type:=List Vl × Zp
def nt (x y:Kp):Prop:=aF x.1 y.1<0∨(aF x.1 y.1=0∧aF x.2.1 y.2.1<0)
instance (x y:Kp):Decidable (nt x y):=by unfold nt; exact inferInstance
theorem nt.trans {x y z:Kp} (h1:nt x y) (h2:nt y z):nt x z:=by
 rcases h1 with h1 | ⟨h1,g1⟩
 ·rcases h2 with h2 | ⟨h2,_⟩
  ·exact .inl (dD h1 ag)
  ·exact .inl (dD h1 ag)
 ·rcases h2 with h2 | ⟨h2,g2⟩
  ·exact .inl (An ag h2)
  ·refine .inr ⟨?_,dD g1 ag⟩;have a1:=dU x.1 y.1 z.1 ag ag;have n1:=bm x.1 y.1;have n2:=bm y.1 z.1;have n3:=bm x.1 z.1;have a2:=dU z.1 y.1 x.1 ag ag;omega
theorem nt.not {x y:Kp} (h1:nt x y) (h2:nt y x):False:=by
 have n1:=bm x.1 y.1;have n2:=bm x.2.1 y.2.1;rcases h1 with h1 | ⟨h1,g1⟩ <;> rcases h2 with h2 | ⟨h2,g2⟩ <;> omega
def insK (x:Kp):List Kp→List Kp
 | []=>[x]
 | y :: r=>if nt x y then x :: y :: r else y :: insK x r
def FH:List Kp→List Kp
 | []=>[]
 | x :: r=>insK x (FH r)
theorem pN (x:Kp):∀ l,(insK x l).Perm (x :: l)
 | []=>List.Perm.refl _
 | y :: r=>by
  unfold insK
  split
  ·exact List.Perm.refl _
  ·exact ((pN x r).cons y).trans (List.Perm.swap x y r)
theorem pS:∀ l,(FH l).Perm l
 | []=>List.Perm.refl _
 | x :: r=>(pN x (FH r)).trans ((pS r).cons x)
theorem qR (x:Kp):∀ l,l.Pairwise nt→(∀ y ∈ l,nt x y∨nt y x)→(insK x l).Pairwise nt
 | [],_,_=>by simp [insK]
 | y :: r,h,ht=>by
  obtain ⟨h1,h2⟩:=List.pairwise_cons.1 h
  unfold insK
  split
  ·rename_i c
   exact List.pairwise_cons.2 ⟨fun z hz=>by
    rcases List.mem_cons.1 hz with rfl | hz
    ·exact c
    ·exact c.trans (h1 z hz),h⟩
  ·rename_i c
   have c':nt y x:=by rcases ht y (by simp) with h | h; exact absurd h c; exact h
   exact List.pairwise_cons.2 ⟨fun z hz=>by
    rcases List.mem_cons.1 ((pN x r).mem_iff.1 hz) with rfl | hz
    ·exact c'
    ·exact h1 z hz,qR x r h2 fun z hz=>ht z (by simp [hz])⟩
theorem qy:∀ l,l.Pairwise (fun x y=>nt x y∨nt y x)→(FH l).Pairwise nt
 | [],_=>Om
 | x :: r,h=>by
  obtain ⟨h1,h2⟩:=List.pairwise_cons.1 h
  exact qR x _ (qy r h2) fun y hy=>h1 y ((pS r).mem_iff.1 hy)
theorem mH:∀ (l1 l2:List Kp),l1.Perm l2→l1.Pairwise nt→l2.Pairwise nt→l1=l2
 | [],l2,p,_,_=>(List.Perm.nil_eq p)
 | x :: t,[],p,_,_=>by have:=p.length_eq; simp at this
 | x :: t,y :: s,p,h1,h2=>by
  obtain ⟨a1,a2⟩:=List.pairwise_cons.1 h1
  obtain ⟨b1,b2⟩:=List.pairwise_cons.1 h2
  have e:x=y:=by
   by_cases e:x=y
   ·exact e
   ·exfalso;have hx:x ∈ s:=by
     rcases List.mem_cons.1 (p.mem_iff.1 (List.mem_cons_self)) with h | h
     ·exact absurd h e
     ·exact h
    have hy:y ∈ t:=by
     rcases List.mem_cons.1 (p.mem_iff.2 (List.mem_cons_self)) with h | h
     ·exact absurd h.symm e
     ·exact h
    exact nt.not (a1 y hy) (b1 x hx)
  subst e;rw [mH t s (List.Perm.cons_inv p) a2 b2]
def dq (xs:List Ex) (z:List Zp):List Kp:=(z.filter fun p=>decide (0<p.2)).map fun p=>(bp xs p.1,p)
def aY (xs:List Ex) (z:List Zp):List Kp:=FH (dq xs z)
theorem lE {xs:List Ex} {z:List Zp} (h:fh z):(dq xs z).Pairwise fun x y=>aF x.2.1 y.2.1<0:=by
 unfold dq;rw [N4];exact List.Pairwise.filter _ h
theorem vS (xs:List Ex) (z:List Zp):(dq xs z).length≤z.length:=by
 unfold dq;rw [Nt];exact Nn _ _
theorem gm (xs:List Ex) (z:List Zp):(aY xs z).Perm (dq xs z):=pS _
theorem gM {xs:List Ex} {z:List Zp} (h:fh z):(aY xs z).Pairwise nt:=qy _ ((lE h).imp fun {x y} hr=>by
 have n:=bm x.1 y.1
 by_cases c1:aF x.1 y.1<0
 ·exact .inl (.inl c1)
 ·by_cases c2:aF x.1 y.1=0
  ·exact .inl (.inr ⟨c2,hr⟩)
  ·exact .inr (.inl ag))
theorem jv (xs:List Ex) (z:List Zp):(aY xs z).length≤z.length:=by rw [(gm xs z).length_eq]; exact vS xs z
structure K4 (W:World) (b o:Nat) (x:Kp):Prop where
 w:W.cell? ⟨b,o+2,none⟩=some (.int .i64 x.2.2)
 r:∃ ra rc,W.cell? ⟨b,o+1,none⟩=some (.slice ra x.2.1.length rc)∧aZ W ra x.2.1
 k:∃ ka kc,W.cell? (ah b o)=some (.slice ka x.1.length kc)∧aZ W ka x.1
def wb (W:World) (a:Option Addr) (l:List Kp):Prop:=l = []∨∃ b off,a=some ⟨b,off,none⟩∧b<W.heap.size∧∀ i (hi:i<l.length),K4 W b (off+i*3) l[i]
theorem K4.next {W w1:World} {b o:Nat} {x:Kp} (h:K4 W b o x) (hlt:b<W.heap.size) (hb:Below W W w1):K4 w1 b o x:=by
 obtain ⟨h1,⟨ra,rc,h2,h3⟩,ka,kc,h4,h5⟩:=h;exact ⟨(hb.cell (p:=⟨b,_,none⟩) hlt).trans h1,⟨ra,rc,(hb.cell (p:=⟨b,_,none⟩) hlt).trans h2,h3.next hb⟩,ka,kc,(hb.cell (p:=⟨b,_,none⟩) hlt).trans h4,h5.next hb⟩
theorem wb.next {W w1:World} {a:Option Addr} {l:List Kp} (h:wb W a l) (hb:Below W W w1):wb w1 a l:=by
 rcases h with h | ⟨b,off,e,hlt,hr⟩
 ·exact .inl h
 ·exact .inr ⟨b,off,e,My hlt hb.size,fun i hi=>(hr i hi).next hlt hb⟩
theorem wb.elem {W:World} {a:Option Addr} {l:List Kp} (h:wb W a l) {k:Nat} (hk:k<l.length):∃ b off,a=some ⟨b,off,none⟩∧b<W.heap.size∧K4 W b (off+k*3) l[k]:=by
 rcases h with h | ⟨b,off,e,hlt,hr⟩
 ·subst h; simp at hk
 ·exact ⟨b,off,e,hlt,hr k hk⟩
structure Kr where
 ka:Option Addr
 kc:Nat
 keys:List Vl
 ra:Option Addr
 rc:Nat
 row:List Vl
 w:Int
def Lu (g:Nat) (a:Option Addr) (l:List Vl):Prop:=l = []∨∀ b off,a=some ⟨b,off,none⟩→b≠g
abbrev Kg (w:World) (g:Nat):Type:={ x:Kr // (aZ w x.ka x.keys∧Lu g x.ka x.keys)∧aZ w x.ra x.row∧Lu g x.ra x.row }
instance (w:World) (g:Nat):Inhabited (Kg w g):=⟨⟨⟨none,0,[],none,0,[],0⟩,⟨⟨by simp,.inl rfl⟩,.inl rfl⟩,⟨by simp,.inl rfl⟩,.inl rfl⟩⟩
section
variable (w:World) (g:Nat)
def nV (x:Kg w g):List Value:=[.slice x.1.ka x.1.keys.length x.1.kc,.slice x.1.ra x.1.row.length x.1.rc,x.1.w]
def J2 (x y:Kg w g):Int:=aF x.1.keys y.1.keys
def F2 (x y:Kg w g):Prop:=aF x.1.row y.1.row<0
def KH (x:Kg w g):Kp:=(x.1.keys,x.1.row,x.1.w)
theorem Cn:jD (J2 w g) (F2 w g) where
 neg x y:=by have:=bm x.1.keys y.1.keys; unfold J2; omega
 trans x y z h1 h2:=dU _ _ _ h1 h2
 GH x y z h1 h2:=dD h1 (by unfold F2 at h2; omega)
end
theorem BR {α:Type} [Inhabited α] (enc:α→List Value) (k:Nat) (w:World) (blk off m:Nat) (dk:Array α) (os:Array Obj) {j:Nat} (hj:j<w.heap.size) (hne:j≠blk):(sortWorldK enc k w blk off m dk os).heap[j]? = w.heap[j]?:=by
 show ((Go.Sort.mapBlock _ _ _).heap ++ os)[j]? = _;rw [Array.getElem?_append_left (by simp [Go.Sort.mapBlock,Go.Sort.ahead]; omega)];simp only [Go.Sort.mapBlock,Go.Sort.ahead,Array.getElem?_modify];rw [if_neg ag]
theorem mQ {α:Type} [Inhabited α] {enc:α→List Value} {k:Nat} {w w':World} {blk off:Nat} {dk:Array α} {a:Option Addr} {l:List Vl} (h:aZ w a l) (ho:Lu blk a l) (hS:SWK enc k w blk off dk w'):aZ w' a l:=by
 have hle:=hS.le;obtain ⟨m,os,rfl⟩:=hS;refine ⟨h.1,?_⟩;rcases ho with ho | ho
 ·exact .inl ho
 rcases h.2 with h | ⟨b,o,e,hr,hlt⟩
 ·exact .inl h
 ·refine .inr ⟨b,o,e,fun i hi=>?_,My hlt hle⟩;have k:=BR enc k w blk off m dk os hlt (ho b o e);obtain ⟨c0,c1,c2⟩:=hr i hi;exact ⟨(MP (a:=⟨b,_,none⟩) k).trans c0,(MP (a:=⟨b,_,none⟩) k).trans c1,(MP (a:=⟨b,_,none⟩) k).trans c2⟩
theorem Bq {α:Type} [Inhabited α] {enc:α→List Value} {k:Nat} {w0 w w':World} {blk off:Nat} {dk:Array α} (hb:Below w0 w0 w) (hk:w0.heap.size≤blk) (hS:SWK enc k w blk off dk w'):Below w0 w0 w':=by
 obtain ⟨m,os,rfl⟩:=hS;exact gh hb hk
theorem qJ (ka ra ka' ra':Option Addr) (kc rc kc' rc':Nat) (x x':Int) (l l' r r':List Vl) (w:World) (h:aZ w ka l) (h':aZ w ka' l') :
  Calls prog 180 #[.agg #[.slice ka l.length kc,.slice ra r.length rc,x],.agg #[.slice ka' l'.length kc',.slice ra' r'.length rc',.int .i64 x']] w fun e w'=>e = .returned (.int .i64 (aF l l'))∧∃ q os',w'=Go.Sort.grow (w.drewN q) os':=by
 have b2:Below w w ((w.alloc (.cells #[.slice ka l.length kc,.slice ra r.length rc,x] 165)).alloc (.cells #[.slice ka' l'.length kc',.slice ra' r'.length rc',.int .i64 x'] 165)):=(aN ..).alloc (by simp) _;go_enter func180,ntmps180;go_wp2_with fail
 refine (Au _ _ _ _ _ _ _ (h.next b2) (h'.next b2)).mono ?_;rintro e w1 ⟨rfl,hb1,hd1⟩;go_wp2
 go_ret;exact ⟨rfl,nG (chain b2 hb1) hd1⟩
theorem FL (w:World) (blk off size:Nat):CmpLays prog 180 #[] (nV w blk) 3 (J2 w blk) blk off size w :=
 fun m os _ _ x y=>qJ _ _ _ _ _ _ _ _ _ _ _ _ _ _ _ (mQ x.2.1.1 x.2.1.2 ⟨m,os,rfl⟩) (mQ y.2.1.1 y.2.1.2 ⟨m,os,rfl⟩)
end Go.Proofs.YtoefpglknaiaeaaGreat
namespace Go.Proofs
open Go.Shelf Go.RowKit Go.Lib _root_.Go.Proofs.Tryz
shelf_lay_g SlLaysF0.n20 Slsf 20 at Tryz 244 as Tryz.insK
end Go.Proofs
namespace Go.Proofs.YtoefpglknaiaeaaGreat
open Go.RowKit Go.Lib Go.Shelf Go.Sort _root_.Go.Proofs.Tryz
theorem Ko (wS:World) (blk off cap:Nat) (d:Array (Kg wS blk)) (R:RowK (nV wS blk) 3 wS blk off d) (hsz:d.size≤1000000):GD prog 3 (nV wS blk) (J2 wS blk) 180 #[] blk off cap d wS:=fun a b dk w hs S hab hbd=>by
 have eg:=enters_of func180 aG rfl
 have hH:=S.holds R.hblk R.hH hs.symm
 have hC:CmpLays prog 180 #[] (nV wS blk) 3 (J2 wS blk) blk off dk.size w:=fun m os dj hj x y=>by
  have S2:=S.on R.hblk m dj os hj
  exact qJ _ _ _ _ _ _ _ _ _ _ _ _ _ _ _ (mQ x.2.1.1 x.2.1.2 S2) (mQ y.2.1.1 y.2.1.2 S2)
 refine (AnyQ.insertionSortCmpFunc Tryz.insK 3 Tryz.isAgg165 Tryz.sizeOf165 (nV wS blk) R.hk R.h1 (J2 wS blk) 180 #[] blk off cap a b dk w eg hC hH (S.lt R.hblk) hab hbd ag).mono ?_
 rintro e w' ⟨rfl,n,os,rfl⟩
 refine ⟨rfl,S.on R.hblk _ _ _ ?_⟩
 exact (nZ (pre:=fun _ _=>True) ⟨(Cn wS blk).neg,(Cn wS blk).trans,fun _ _ _ _ _=>trivial⟩ a b dk hab hbd (fun _ _ _ _ _=>trivial)).1.1
end Go.Proofs.YtoefpglknaiaeaaGreat
namespace Go.Proofs.YtoefpglknaiaeaaGreat
open Go.RowKit Go.Lib Go.Shelf _root_.Go.Proofs.Tryz
def dW (cols:List Int) (x:Ex) (w0 wp:World) (a b:Option Addr) (ca cb:Nat) (l r:List Zp) (v:Value) (R rv:Nat):Prop :=
 ∃ (lo:Nat) (wc:World) (hv:Nat) (u:Value),v = .agg #[.slice a l.length ca,.slice b r.length cb,.func (.func 246) #[] #[ah rv 0,ah hv 0]] ∧
  pO wp R rv∧hv<R∧wp.cell? (ah hv 0)=some u∧lN cols lo u x wc∧wc.heap.size≤R∧aI lo wc wp∧w0.heap.size≤R∧Below w0 w0 wp
theorem rG.Mu {cols:List Int} {x:Ex} {w0 wp:World} {a b:Option Addr} {ca cb:Nat} {l r:List Zp} {v:Value} (h:rG cols x w0 wp a b ca cb l r v):∃ R rv,dW cols x w0 wp a b ca cb l r v R rv∧fc wp R rv wp:=by
 obtain ⟨lo,wc,R,rv,hv,u,e,h1,h2,h3,h4,h5,h6,h7,h8,h9⟩:=h.ex;exact ⟨R,rv,⟨lo,wc,hv,u,e,h1,h2,h3,h4,h5,h6,h7,h8⟩,h9⟩
structure rq (cols:List Int) (l r:List Zp):Prop where
 ll:l.length≤400
 rl:r.length≤400
 row:∀ p ∈ l,∀ q ∈ r,p.1.length+q.1.length≤8
 fit:∀ p ∈ l,∀ q ∈ r,dX cols (p.1 ++ q.1)
 mul:∀ p ∈ l,∀ q ∈ r,-1000000000000≤p.2*q.2∧p.2*q.2≤1000000000000
theorem vV (cols:List Int) (x:Ex) (w0 wp w:World) (a b:Option Addr) (ca cb:Nat) (l r:List Zp) (v:Value) (R rv:Nat) (hP:dW cols x w0 wp a b ca cb l r v R rv) (hI:fc wp R rv w) (za:aK w0 a l) (zb:aK w0 b r) (hq:rq cols l r) :
  Calls prog 139 #[v] w fun e w'=>∃ u,e = .returned u∧lg (w+1) w' u (ep x l r)∧fc wp R rv w'∧w.heap.size≤w'.heap.size:=by
 obtain ⟨lo,wc,hv,u,rfl,hn,hv0,hc,hC,hcR,hcp,h0,h0p⟩:=hP;obtain ⟨i0,hi,hj0,hj1,hj2⟩:=info_parts Tryz.fK;have hrv:=hI.sz hn;have hrr:=hn.r;have hl:=hq.ll;have hr:=hq.rl;have HQ:=aB hq;obtain ⟨h1,p1⟩:=iV w #[.slice a l.length ca,.slice b r.length cb,.func (.func 246) #[] #[ah rv 0,ah hv 0]] 170
 have I1:=hI.eO hn hI.size h1;have z1:(w.alloc (.cells #[.slice a l.length ca,.slice b r.length cb,.func (.func 246) #[] #[ah rv 0,ah hv 0]] 170)).heap.size=w.heap.size+1:=by simp
 clear hq;go_enter func139,ntmps139;go_wp2_with fail
 go_loopw [3,11] (fun v i wr=>∃ k:Nat,k≤l.length∧i = .int .i64 k∧lg (w+1) wr v (ep x (l.take k) r)∧Hid (fc wp R rv wr)∧wr.heap[w.heap.size]? = some (.cells #[.slice a l.length ca,.slice b r.length cb,.func (.func 246) #[] #[ah rv 0,ah hv 0]] 170 (0,0))) (fun _ i _=>l.length - (intOf i).toNat)
 case atStart=>exact ⟨0,MD _,rfl,lg.nil _ _,I1,p1⟩
 case round =>
  obtain ⟨k,hk,rfl,HO,HI,hp⟩:=hrel;clear h1 p1 I1 z1;by_cases hlt:k<l.length
  ·obtain ⟨wl,hwl⟩:∃ z,z=wr:=⟨_,rfl⟩
   obtain ⟨uo,huo⟩:∃ z,z=u3:=⟨_,rfl⟩
   subst hwl huo;have hpl:=an hp;obtain ⟨bl,off,rfl,hbl,d1,ar,cr,d0,sr⟩:=za.elem hlt;have hB:=h0p.trans ((HI.out.below hn).mono h0);have c1:=(hB.cell (p:=⟨bl,_,none⟩) hbl).trans d1;have c0:=(hB.cell (p:=⟨bl,_,none⟩) hbl).trans d0;have hbl':=My hbl hB.size;have hal:=aN wl (.cells #[.slice ar l[k].1.length cr,.int .i64 l[k].2] 47);have pa:=(hal.block w hpl).trans hp;have q5:=bq wl #[.slice ar l[k].1.length cr,.int .i64 l[k].2] 47
   have x1:=cell_of (i:=1) pa rfl;have IA:=aB (HI.out.eO hn HI.out.size hal);have OA:=HO.since (lo:=0) (MD _) (aI.of hal);have HS:=aB sr;have nb:∀ g,uo.ownBlock=some g→g≠wl.heap.size:=fun g hg=>by have:=(HO.lt hg).2; omega
   have HT:Hid (ep x (l.take (k+1)) r=ep x (l.take k) r ++ bI x l[k] r):=A8 x hlt;have HL:Hid ((ep x (l.take k) r).length≤160000):=by
    show (ep x (l.take k) r).length≤160000;have h1:=qd x (l.take k) r;have h2:(l.take k).length*r.length≤400*400:=Nat.mul_le_mul (by simp; omega) hr;omega
   clear d0 d1 sr;go_wp2_with fail
   go_loopw [3,18] (fun v i ws=>∃ m:Nat,m≤r.length∧i = .int .i64 m∧lg (w+1) ws v (ep x (l.take k) r ++ bI x l[k] (r.take m))∧Hid (fc wp R rv ws)∧ws.heap[w.heap.size]? = some (.cells #[.slice (some (ah bl off)) l.length ca,.slice b r.length cb,.func (.func 246) #[] #[ah rv 0,ah hv 0]] 170 (0,0))∧ws.heap[wl.heap.size]? = some (.cells #[.slice ar l[k].1.length cr,.int .i64 l[k].2] 47 (0,0))∧Hid (∀ g,v.ownBlock=some g→g≠wl.heap.size)) (fun _ i _=>r.length - (intOf i).toNat)
   case atStart=>exact ⟨0,MD _,rfl,by simpa [bI] using OA,IA,pa,q5,nb⟩
   case round =>
    clear IA OA nb x1 pa q5 hal HO HI hp;obtain ⟨m,hm,rfl,HO,HI,hp,hq5,hnb⟩:=hrel;by_cases hmt:m<r.length
    ·obtain ⟨bl2,off2,rfl,hbl2,d1,br,cr2,d0,sr⟩:=zb.elem hmt;have hB:=h0p.trans ((HI.out.below hn).mono h0);have e1:=(hB.cell (p:=⟨bl2,_,none⟩) hbl2).trans d1;have e0:=(hB.cell (p:=⟨bl2,_,none⟩) hbl2).trans d0;have hlw:=an hq5;have hbl2':=My hbl2 hB.size;have hal:=aN wr (.cells #[.slice br r[m].1.length cr2,.int .i64 r[m].2] 47)
     have z7:(wr.alloc (.cells #[.slice br r[m].1.length cr2,.int .i64 r[m].2] 47)).heap.size=wr.heap.size+1:=by simp
     have pA:=(hal.block w ag).trans hp;have q5A:=(hal.block wl hlw).trans hq5;have q7A:=bq wr #[.slice br r[m].1.length cr2,.int .i64 r[m].2] 47;have x2:=cell_of (i:=2) pA rfl;have y0:=cell_of (i:=0) q5A rfl
     have con:=zo cols lo x wc wp w0 R rv hv u hn hv0 hc hC hcR hcp h0 h0p ar br cr cr2 l[k].1 r[m].1 _ (HI.out.eO hn HI.out.size hal) HS.out sr (HQ.out.row _ (MC hlt) _ (MC hmt)) (HQ.out.fit _ (MC hlt) _ (MC hmt));have OA:=HO.since (lo:=0) (MD _) (aI.of hal);have HM:=HQ.out.mul _ (MC hlt) _ (MC hmt);have HR:=aB sr
     have HT2:=aB (lD x l[k] hmt);have hrow:=HQ.out.row _ (MC hlt) _ (MC hmt);have hnb7:Hid (∀ g,u3.ownBlock=some g→w.heap.size+1≤g∧g<wr.heap.size):=fun g hg=>HO.lt hg
     have hlen:(ep x (l.take k) r ++ bI x l[k] (r.take m)).length≤160400:=by
      have h1:=HL.out;have h2:=qK x l[k] (r.take m);simp only [ME,MR] at h2 ⊢;omega
     clear HO d0 d1 sr hp hq5 HI hC c1 c0;by_cases hh:cX x (l[k].1 ++ r[m].1)=true
     ·rw [hh] at con;have HH:=aB hh;clear hh;go_wp2_with fail
      refine con.mono ?_;rintro e w1 ⟨rfl,I1,s1⟩;have HI1:=aB I1;have OB:=OA.since ag s1;have pB:=(s1.2 w ag ag).trans pA;have q5B:=(s1.2 wl ag ag).trans q5A;have q7B:=(s1.2 wr ag ag).trans q7A;have zB:=s1.1;clear con I1 s1 OA pA q5A q7A x2 y0 hal;dsimp only;go_wp2_with fail
      have hCC:∀ W W':World,(W.heap[wl.heap.size]? = some (.cells #[.slice ar l[k].1.length cr,.int .i64 l[k].2] 47 (0,0))∧W.heap[wr.heap.size]? = some (.cells #[.slice br r[m].1.length cr2,.int .i64 r[m].2] 47 (0,0)))→Below W W W'→(W'.heap[wl.heap.size]? = some (.cells #[.slice ar l[k].1.length cr,.int .i64 l[k].2] 47 (0,0))∧W'.heap[wr.heap.size]? = some (.cells #[.slice br r[m].1.length cr2,.int .i64 r[m].2] 47 (0,0))):=fun W W' h hb=>⟨(hb.block _ (an h.1)).trans h.1,(hb.block _ (an h.2)).trans h.2⟩
      have hd:Below w1 w1 w1.drew:=(Mz _ _).drew;have CW:=hCC _ _ ⟨q5B,q7B⟩ hd;have HW:IntKind.i64.wrap (l[k].2*r[m].2)=l[k].2*r[m].2:=IntWalk.i64_in _ ⟨by omega,by omega⟩
      refine aP (fun W=>W.heap[wl.heap.size]? = some (.cells #[.slice ar l[k].1.length cr,.int .i64 l[k].2] 47 (0,0))∧W.heap[wr.heap.size]? = some (.cells #[.slice br r[m].1.length cr2,.int .i64 r[m].2] 47 (0,0))) aG ?_;refine bB hCC 29 0 u3 (fun n hn=>?_) CW ?_
      ·go_simp
      simp only [Act.put,M6,Ni,Nj];refine bB hCC 30 1 (ah wl 0) (fun n hn=>?_) CW ?_
      ·go_simp
      simp only [Act.put,M6,Ni,Nj];refine bB hCC 31 2 (.slice ar l[k].1.length cr) (fun n hn=>?_) CW ?_
      ·have hcell:=cell_of (i:=0) hn.1 rfl;go_simp
      simp only [Act.put,M6,Ni,Nj];refine bB hCC 32 3 (ah wr 0) (fun n hn=>?_) CW ?_
      ·go_simp
      simp only [Act.put,M6,Ni,Nj];refine bB hCC 33 4 (.slice br r[m].1.length cr2) (fun n hn=>?_) CW ?_
      ·have hcell:=cell_of (i:=0) hn.2 rfl;go_simp
      simp only [Act.put,M6,Ni,Nj];refine bB hCC 36 7 (ah wl 1) (fun n hn=>?_) CW ?_
      ·go_simp
      simp only [Act.put,M6,Ni,Nj];refine bB hCC 37 8 (.int .i64 l[k].2) (fun n hn=>?_) CW ?_
      ·have hcell:=cell_of (i:=1) hn.1 rfl;go_simp
      simp only [Act.put,M6,Ni,Nj];refine bB hCC 38 9 (ah wr 1) (fun n hn=>?_) CW ?_
      ·go_simp
      simp only [Act.put,M6,Ni,Nj];refine bB hCC 39 10 (.int .i64 r[m].2) (fun n hn=>?_) CW ?_
      ·have hcell:=cell_of (i:=1) hn.2 rfl;go_simp
      simp only [Act.put,M6,Ni,Nj];refine bB hCC 40 11 (.int .i64 (l[k].2*r[m].2)) (fun n hn=>?_) CW ?_
      ·go_simp
      simp only [Act.put,M6,Ni,Nj];refine gp 5 aG fun w3 hb3=>?_
      refine wpOp_step rfl (fun K hK=>?_);go_simp;have D3:=chain hd hb3;have CW3:=hCC _ _ CW hb3;have B3:=(h0p.trans ((HI1.out.below hn).mono h0)).trans (D3.mono (by have:=HI1.out.size; have:=h0p.size; omega));have hal3:=aN w3 (.cells #[.slice ar l[k].1.length cr,.slice br r[m].1.length cr2] 45);have PC:=jA.new cr cr2 (fj (HS.out.next B3)) (fj (HR.out.next B3)) 45;have D4:=chain D3 hal3;have CW4:=hCC _ _ CW3 hal3;refine hK _ _ ⟨CW4,?_⟩;clear hK K hal3 hb3 CW CW3
      generalize w3.alloc _=w4 at *;refine gp 6 aG fun w5 hb5=>?_
      refine wpOp_step rfl (fun K hK=>?_);go_simp;have D5:=chain D4 hb5;have CW5:=hCC _ _ CW4 hb5;refine (kY _ _ _ _ _ w5 (PC.next hb5) ag).mono ?_;rintro e w6 ⟨v6,rfl,O6,hb6⟩;rw [← bW] at O6;have ge6:∀ b o n c,v6 = .slice (some (ah b o)) n c→w.heap.size+1≤b:=fun b o n c e=>by
       subst e;have:=(O6.lt b rfl).1;have:=D5.size;omega
      obtain ⟨a6,c6,rfl,S6,T6,_⟩:=dQ O6 (by simp);have D6:=chain D5 hb6;have CW6:=hCC _ _ CW5 hb6;refine hK _ _ ⟨CW6,?_⟩;clear hK K PC O6 CW4 CW5;refine bB hCC 41 12 (.agg #[.slice a6 (l[k].1 ++ r[m].1).length c6,.int .i64 (l[k].2*r[m].2)]) (fun n hn=>?_) CW6 ?_
      ·go_simp
      simp only [Act.put,M6,Ni,Nj];refine gp 13 aG fun w7 hb7=>?_
      refine wpOp_step rfl (fun K hK=>?_);go_simp;have D7:=chain D6 hb7;have CW7:=hCC _ _ CW6 hb7;obtain ⟨hal7,q8⟩:=iV w7 #[.slice a6 (l[k].1.length+r[m].1.length) c6,.int .i64 (l[k].2*r[m].2)] 47;have D8:=chain D7 hal7;have CW8:=hCC _ _ CW7 hal7;have S8:=(S6.next hb7).next hal7;have T8:=(T6.next hb7).next hal7;refine hK _ _ ⟨CW8,?_⟩;clear hK K CW6 CW7 S6 T6
      generalize hw8:w7.alloc (.cells #[.slice a6 (l[k].1.length+r[m].1.length) c6,.int .i64 (l[k].2*r[m].2)] 47)=w8 at *;clear hw8;refine gp 14 aG fun w9 hb9=>?_
      have D9:=chain D8 hb9;have CW9:=hCC _ _ CW8 hb9;have S9:=S8.next hb9;have T9:=T8.next hb9;have q9:=iX hb9 q8;obtain ⟨xs,o9,en9,bb9⟩:=OB.since (lo:=0) (MD _) (aI.of D9);have zz:=D9.size;refine wpOp_step rfl (fun K hK=>?_);refine Eq.mpr (if_pos aG) ?_
      refine dH (some 43) rfl (Operand.tmp 29) (Operand.tmp 42) 38 rfl (w+1) 47 i0 _ 2 32 underlying38 hi hj0 hj1 hj2 rfl (by decide) u3 _ xs rfl o9 (ah w7 0) 1 1 [.slice a6 (l[k].1.length+r[m].1.length) c6,.int .i64 (l[k].2*r[m].2)] rfl rfl ?Ac1 ?Ac2 ?Ac3 ?Ac4 ?Ac5 ?_
      case Ac1 =>
       intro j u hj
       match j,hj with
       | 0,hj=>simp at hj; subst hj; exact cell_of (i:=0) q9 rfl
       | 1,hj=>simp at hj; subst hj; exact cell_of (i:=1) q9 rfl
      case Ac2=>intro u hu; simp at hu; rcases hu with rfl | rfl <;> rfl
      case Ac3=>unfold maxLen; omega
      case Ac4=>omega
      case Ac5=>omega
      intro v' w10 o10 g10 at10;have CW10:w10.heap[wl.heap.size]? = some (.cells #[.slice ar l[k].1.length cr,.int .i64 l[k].2] 47 (0,0))∧w10.heap[wr.heap.size]? = some (.cells #[.slice br r[m].1.length cr2,.int .i64 r[m].2] 47 (0,0)):=⟨(g10.block _ (an CW9.1) (fun e=>hnb.out _ e.symm rfl)).trans CW9.1,(g10.block _ (an CW9.2) (fun e=>by have:=(hnb7.out _ e.symm).2; omega)).trans CW9.2⟩
      have p10:=(g10.block w ag (fun e=>by have:=(hnb7.out _ e.symm).1; omega)).trans ((D9.block w ag).trans pB);have OJ10:=lg.push o9 en9 bb9 S9 T9 (fun b o e=>ge6 b o _ _ (by rw [e])) (by simpa using o10) g10;have b10:Below wp w9 w10:=(Mz _ _).grown g10 (by have:=HI1.out.size; omega) (fun q hq=>by have:=(hnb7.out q hq).1; have:=hI.size; omega)
      have I10:=(HI1.out.eO hn HI1.out.size D9).eO hn (Mx _) b10;have nb10:∀ g,v'.ownBlock=some g→g≠wl.heap.size:=fun g hg=>by
       rcases at10 with e | e
       ·exact hnb.out g (by rw [← e]; exact hg)
       ·rw [hg] at e; have:=Nk e; omega
      refine hK _ _ ⟨CW10,?_⟩;clear hK K CW9 CW8 S9 T9 S8 T8 o9 en9 bb9 o10 at10 D9 D8 D7 D6 D5 D4 D3 q8 q9 OB;simp only [Act.put,M6,Ni,Nj];refine bB hCC 3 15 v' (fun n hn=>?_) CW10 ?_
      ·go_simp
      simp only [Act.put,M6,Ni,Nj];refine cA aG ?_;intro w11 hb11;have OJ11:=OJ10.since (lo:=0) (MD _) (aI.of hb11);have I11:=aB (I10.eO hn I10.size hb11);have CW11:=hCC _ _ CW10 hb11;have p11:=iX hb11 p10;have nb11:=aB nb10;clear I10 OJ10 CW10 p10 hb11 g10 b10 nb10;go_wp2
      go_roundw
      case rel=>exact ⟨m+1,by omega,by go_num,by rw [HT2.out,HH.out,if_pos rfl,← Nh]; exact OJ11,I11,p11,CW11.1,nb11⟩
      case measure=>simp [intOf]; omega
     ·have hh:cX x (l[k].1 ++ r[m].1)=false:=by simpa using hh
      rw [hh] at con;have HH:=aB hh;clear hh;go_wp2_with fail
      refine con.mono ?_;rintro e w1 ⟨rfl,I1,s1⟩;have HI1:=aB I1;have OB:=OA.since ag s1;have pB:=(s1.2 w ag ag).trans pA;have q5B:=(s1.2 wl ag ag).trans q5A;clear con I1 s1 OA pA q5A q7A x2 y0 hal;dsimp only;go_wp2
      go_roundw
      case rel=>exact ⟨m+1,by omega,by go_num,by rw [HT2.out,HH.out,if_neg (by decide),M8]; exact OB,HI1,pB,q5B,hnb⟩
      case measure=>simp [intOf]; omega
    ·have e:m=r.length:=by omega
     subst e;rw [MM] at HO;have HO':lg (w+1) wr u3 (ep x (l.take (k+1)) r):=by rw [HT.out]; exact HO
     go_wp2
     go_roundw
     case rel=>exact ⟨k+1,by omega,by go_num,HO',HI,hp⟩
     case measure=>simp [intOf]; omega
  ·have e:k=l.length:=by omega
   subst e;rw [MM] at HO;obtain ⟨av,cv,rfl⟩:=HO.slice;go_wp2
   go_ret;exact ⟨_,rfl,HO,HI.out,M5 (an hp)⟩
theorem JA {a b:Int} (h1:-1000000≤a) (h2:a≤1000000) (h3:-1000000≤b) (h4:b≤1000000):-1000000000000≤a*b∧a*b≤1000000000000:=by
 have ha:a.natAbs≤1000000:=by omega
 have hb:b.natAbs≤1000000:=by omega
 have:=Nat.mul_le_mul ha hb;rw [← Int.natAbs_mul] at this;omega
theorem dW.eO {cols:List Int} {x:Ex} {w0 wp W:World} {a b:Option Addr} {ca cb:Nat} {l r:List Zp} {v:Value} {R rv:Nat} (h:dW cols x w0 wp a b ca cb l r v R rv) (hI:fc wp R rv wp) (hb:Below wp wp W):dW cols x w0 W a b ca cb l r v R rv∧fc W R rv W:=by
 obtain ⟨lo,wc,hv,u,e,hn,h2,h3,h4,h5,h6,h7,h8⟩:=h;have hr:=hn.r;have hrv:=hn.v;have hI':=hI.eO hn (Mx _) hb;have z:=hb.size;exact ⟨⟨lo,wc,hv,u,e,⟨hr,by omega⟩,h2,(hb.cell (p:=ah hv 0) (by show hv<_; omega)).trans h3,h4,h5,h6.trans (aI.of hb),h7,chain h8 hb⟩,⟨rfl,rfl,rfl,Mx _,fun _ _ _ _=>rfl,hI'.var,hI'.Gt,hI'.room⟩⟩
theorem dW.down {cols:List Int} {x:Ex} {w w0 wp:World} {a b:Option Addr} {ca cb:Nat} {l r:List Zp} {v:Value} {R rv:Nat} (h:dW cols x w0 wp a b ca cb l r v R rv) (hb:Below w w w0):dW cols x w wp a b ca cb l r v R rv:=by
 obtain ⟨lo,wc,hv,u,e,hn,h2,h3,h4,h5,h6,h7,h8⟩:=h;exact ⟨lo,wc,hv,u,e,hn,h2,h3,h4,h5,h6,MO hb.size h7,chain hb h8⟩
theorem fx {left right:List Int} {x:Ex} {l r:List Zp} (h:nE left right x l r):rq (left ++ right) l r where
 ll:=dg h.left
 rl:=dg h.right
 row p hp q hq:=by
  have h1:=(h.left.fit p hp).len;have h2:=(h.right.fit q hq).len;have:=h.len;omega
 fit p hp q hq:=tv (h.left.fit p hp) (h.right.fit q hq)
 mul p hp q hq:=by
  have h1:=jb h.left p hp;have h2:=jb h.right q hq;rw [cK] at h1 h2;exact JA h1.1 h1.2 h2.1 h2.2
theorem B4 {left right:List Int} {x:Ex} {l r:List Zp} (h:nE left right x l r):(ep x l r).length≤160000∧∀ y ∈ ep x l r,uu y.2=true∧y.1.length≤8:=by
 have hq:=fx h;refine ⟨MO (qd x l r) (Nat.mul_le_mul hq.ll hq.rl),fun y hy=>?_⟩;unfold ep at hy;obtain ⟨p,hp,hy⟩:=List.mem_flatMap.1 hy;unfold bI at hy;obtain ⟨q,hq',rfl⟩:=List.mem_map.1 hy;have hq'':=(List.mem_filter.1 hq').1;have h1:=hq.row p hp q hq'';exact ⟨(mg _).2 (hq.mul p hp q hq''),by simpa using h1⟩
theorem I0 {left right:List Int} {x:Ex} {l r:List Zp} (what:Nat) (h:nE left right x l r):(fH what right.length x l r).length≤200000∧∀ y ∈ fH what right.length x l r,uu y.2=true∧y.1.length≤8:=by
 have hj:=B4 h;have hl:=dg h.left;have one:∀ y ∈ l,uu y.2=true∧y.1.length≤8:=fun y hy=>⟨oA (jb h.left y hy),JR h.left y hy⟩
 unfold fH
 split
 ·exact ⟨by omega,hj.2⟩
 split
 ·refine ⟨MO (Nn _ _) ag,fun y hy=>one y (List.mem_filter.1 hy).1⟩
 split
 ·refine ⟨MO (Nn _ _) ag,fun y hy=>one y (List.mem_filter.1 hy).1⟩
 ·have ha:(jf x l r).length≤l.length:=Nn _ _;refine ⟨?_,fun y hy=>?_⟩
  ·unfold qS je;rw [ME,Nt];omega
  ·rcases List.mem_append.1 hy with hy | hy
   ·exact hj.2 y hy
   ·obtain ⟨p,hp,rfl⟩:=List.mem_map.1 hy;have hp':=(List.mem_filter.1 hp).1;have h1:=(h.left.fit p hp').len;have h2:=h.len;refine ⟨(one p hp').1,?_⟩;simp only [ME,eK,List.length_replicate];omega
theorem kU (what:Nat) (g:Nat) (cbs:Array Value) (left right:List Int) (x:Ex) (la:Option Addr) (lcap:Nat) (ra:Option Addr) (rcap:Nat) (xa:Option Addr) (xcap:Nat) (a:Option Addr) (ca:Nat) (l:List Zp) (b:Option Addr) (cb:Nat) (r:List Zp) (w:World)
  (hcl:bf w w la left) (hcr:bf w w ra right) (hx:aU w w xa x.ks) (h:aK w a l) (h':aK w b r) (hll:left.length≤100000000000000) (hrl:right.length≤100000000000000)
  (eg:∀ args w,(callFunc g args).run prog w = .ok (.enter g args) w)
  (hcall:∀ (W:World) (v:Value) (R rv:Nat),dW (left ++ right) x w W a b ca cb l r v R rv→fc W R rv W→nE left right x l r→Calls prog g (#[v] ++ cbs) W fun e w'=>∃ ua uc,e = .returned (.slice ua (fH what right.length x l r).length uc)∧aK w' ua (fH what right.length x l r)∧Below w w w') :
  Calls prog 138 #[.slice la left.length lcap,.slice ra right.length rcap,fN x.k x.v x.c xa x.ks.length xcap,.slice a l.length ca,.slice b r.length cb,.func (.func g) #[] cbs] w fun e w'=>∃ v,e = .returned (.tuple #[v,.int .i64 (cw what left right x l r)])∧eA w w' v (cB what left right x l r)∧Below w w w':=by
 have h1:=aN w (.cells (hJ x xa xcap) 27);have con:=Eg left right x la lcap ra rcap xa xcap a ca l b cb r (w.alloc (.cells (hJ x xa xcap) 27)) ((hcl.next h1 (Mx _)).up h1.size) ((hcr.next h1 (Mx _)).up h1.size) ((aU.next h1 (Mx _) hx).up h1.size) (h.next h1) (h'.next h1) hll hrl
 have HC:Hid (∀ (W:World) (v:Value) (R rv:Nat),dW (left ++ right) x w W a b ca cb l r v R rv→fc W R rv W→nE left right x l r→Calls prog g (#[v] ++ cbs) W fun e w'=>∃ ua uc,e = .returned (.slice ua (fH what right.length x l r).length uc)∧aK w' ua (fH what right.length x l r)∧Below w w w'):=hcall;clear hcall;generalize hfz:cB what left right x l r=fz;generalize hfe:cw what left right x l r=fe;have HZ:Hid (cB what left right x l r=fz):=hfz;have HF:Hid (cw what left right x l r=fe):=hfe;clear hfz hfe;by_cases ht:iG left right x l r=0
 ·rw [ht] at con;have HT:=(oM left right x l r).1 ht;have H2:Hid (iG left right x l r=0):=ht;clear ht;go_enter func138,ntmps138;go_wp2_with fail
  generalize w.alloc (.cells (hJ x xa xcap) 27)=w1 at *;refine con.mono ?_;rintro e w2 ⟨v2,rfl,hor,hb2⟩;have PO:rG (left ++ right) x w1 w2 a b ca cb l r v2:=by
   rcases hor with ⟨_,h⟩ | ⟨c,_⟩
   ·exact h
   ·exact absurd trivial c
  clear hor;obtain ⟨R,rv,PI,I2⟩:=PO.Mu;have PI:=PI.down h1;clear con PO;have hv2:∃ hv,v2 = .agg #[.slice a l.length ca,.slice b r.length cb,.func (.func 246) #[] #[ah rv 0,ah hv 0]]:=by obtain ⟨_,_,hv,_,e,_⟩:=PI; exact ⟨hv,e⟩
  obtain ⟨hv,rfl⟩:=hv2;have hal2:=aN w2 (.cells #[.slice a l.length ca,.slice b r.length cb,.func (.func 246) #[] #[ah rv 0,ah hv 0]] 170);obtain ⟨PI3,I3⟩:=PI.eO I2 hal2;have con:=HC.out _ _ R rv PI3 I3 HT;have hn:=I0 what HT;have H3:Hid (nE left right x l r):=HT;clear HT PI PI3 I3 I2 hal2;dsimp only;go_wp2_with fail
  generalize w2.alloc (.cells #[.slice a l.length ca,.slice b r.length cb,.func (.func 246) #[] #[ah rv 0,ah hv 0]] 170)=w3 at *;refine con.mono ?_;rintro e w4 ⟨a4,c4,rfl,zs4,hb4⟩;clear con;have con:=eU a4 c4 (fH what right.length x l r) w4 zs4 hn.1 (fun y hy=>(hn.2 y hy).1) (fun y hy=>(hn.2 y hy).2);have e0:cw what left right x l r=aR (fH what right.length x l r):=by unfold cw; rw [H2.out,if_neg (by simp)]
  have e1:bh (fH what right.length x l r)=fz:=by rw [← HZ.out]; unfold cB bh; rw [e0]
  rw [← e0,HF.out,e1] at con;clear e0 e1 zs4 hn;generalize (fH what right.length x l r).length=nl at *;dsimp only;go_wp2_with fail
  refine con.mono ?_;rintro e w5 ⟨v5,rfl,O5,hb5⟩;have O5':=O5.mono hb4.size;obtain ⟨a5,c5,rfl,_⟩:=O5.zs;clear con O5;dsimp only;go_wp2
  exact MA (v:=.tuple #[.slice a5 fz.length c5,fe]) (by simp [results,results138,go_sem]) rfl ⟨_,rfl,O5',chain hb4 hb5⟩
 ·have e0:fe=iG left right x l r:=by rw [← HF.out]; unfold cw; rw [if_pos ht]
  have e1:fz = []:=by rw [← HZ.out]; unfold cB; rw [if_neg (by rw [HF.out,e0]; exact ht)]
  rw [← e0] at con ht;have hne:(fe != 0)=true:=by simpa using ht
  subst e1;clear e0;go_enter func138,ntmps138;go_wp2_with fail
  generalize w.alloc (.cells (hJ x xa xcap) 27)=w1 at *;refine con.mono ?_;rintro e w2 ⟨v2,rfl,hor,hb2⟩;obtain ⟨c,_⟩ | ⟨_,rfl⟩:=hor
  ·exact absurd c ht
  clear con;dsimp only;go_wp2
  exact MA (v:=.tuple #[bX,fe]) (by simp [results,results138,go_sem]) rfl ⟨_,rfl,⟨[],by simpa using M4 _ _ _ _,⟨rfl,fun i hi=>by simp at hi⟩⟩,(chain h1 hb2).alloc (by have:=(chain h1 hb2).size; omega) _⟩
theorem Cy (left right:List Int) (x:Ex) (la:Option Addr) (lcap:Nat) (ra:Option Addr) (rcap:Nat) (xa:Option Addr) (xcap:Nat) (a:Option Addr) (ca:Nat) (l:List Zp) (b:Option Addr) (cb:Nat) (r:List Zp) (w:World)
  (hcl:bf w w la left) (hcr:bf w w ra right) (hx:aU w w xa x.ks) (h:aK w a l) (h':aK w b r) (hll:left.length≤100000000000000) (hrl:right.length≤100000000000000) :
  Calls prog 98 #[.slice la left.length lcap,.slice ra right.length rcap,fN x.k x.v x.c xa x.ks.length xcap,.slice a l.length ca,.slice b r.length cb] w fun e w'=>∃ v,e = .returned (.tuple #[v,.int .i64 (cw 0 left right x l r)])∧eA w w' v (cB 0 left right x l r)∧Below w w w':=by
 have h1:=aN w (.cells (hJ x xa xcap) 27);have zs1:=h.next h1;have zs1':=h'.next h1;have con:=kU 0 139 #[] left right x la lcap ra rcap xa xcap a ca l b cb r (w.alloc (.cells (hJ x xa xcap) 27)) ((hcl.next h1 (Mx _)).up h1.size) ((hcr.next h1 (Mx _)).up h1.size) ((aU.next h1 (Mx _) hx).up h1.size) zs1 zs1' hll hrl (enters_of func139 aG rfl) (fun W v R rv hP hI hT=>by
  refine (vV (left ++ right) x _ W W a b ca cb l r v R rv hP hI zs1 zs1' (fx hT)).mono ?_;rintro e w' ⟨u,rfl,OJ,I',z'⟩;obtain ⟨_,_,_,_,_,hn,_,_,_,_,_,hR,hB⟩:=hP;obtain ⟨ua,uc,rfl,zu⟩:=OJ.z.zs;exact ⟨ua,uc,rfl,zu,hB.trans ((I'.below hn).mono hR)⟩)
 generalize hfz:cB 0 left right x l r=fz at *;generalize hfe:cw 0 left right x l r=fe at *;clear hfz hfe;go_enter func98,ntmps98;go_wp2_with fail
 generalize w.alloc (.cells (hJ x xa xcap) 27)=w1 at *;refine con.mono ?_;rintro e w2 ⟨v2,rfl,O2,hb2⟩;have O2':=O2.mono h1.size;obtain ⟨a2,c2,rfl,_⟩:=O2.zs;clear con O2;dsimp only;go_wp2
 exact MA (v:=.tuple #[.slice a2 fz.length c2,fe]) (by simp [results,results98,go_sem]) rfl ⟨_,rfl,O2',chain h1 hb2⟩
end Go.Proofs.YtoefpglknaiaeaaGreat
