/- Together: J5, J6, Ext2, J7, S6, J8, J9, J10, S7. -/
import Derived.Laws.EntriesVeiled
import Derived.OrdersHeld
import Derived.RegionTactic
import Derived.Maps.AppendAt
import Derived.Shelf.Lay
import Derived.Test.YtjebpkhkjkjphaaGreatM6
import Derived.Test.YtjebpkhkjkjphaaGreatM1
import Derived.Test.YtjebpkhkjkjphaaGreatM0
namespace Go.Proofs.YtjebpkhkjkjphaaGreat
open Go.RowKit Go.Lib Go.Shelf
set_option maxRecDepth 100000
set_option maxHeartbeats 16000000
structure nE (af:List Int) (x:Ex) (w0 wp:World) (a b:Option Addr) (ca cb:Nat) (l r:List Zp) (v:Value):Prop where
 ex:∃ (lo:Nat) (wc:World) (R rv hv:Nat) (u:Value),v = .agg #[.slice a l.length ca,.slice b r.length cb,.func (.func 185) #[] #[.pointer (some ⟨rv,0,none⟩),.pointer (some ⟨hv,0,none⟩)]] ∧
  tp wp R rv∧hv<R∧wp.cell? ⟨hv,0,none⟩=some u∧jm af lo u x wc∧wc.heap.size≤R∧Since lo wc wp∧w0.heap.size≤R∧Below w0.heap.size w0 wp∧eR wp R rv wp
theorem zh (u:Value) (w:World) (hu:∃ g cb,u = .func (.func g) #[] cb) :
  Calls Tryz.prog 155 #[u] w fun e w'=>∃ rv,e = .returned (.func (.func 185) #[] #[.pointer (some ⟨rv,0,none⟩),.pointer (some ⟨w.heap.size,0,none⟩)])∧w'.cell? ⟨w.heap.size,0,none⟩=some u∧tp w' (w.heap.size+1) rv∧eR w' (w.heap.size+1) rv w'∧Below w.heap.size w w':=by
 obtain ⟨g,cb,rfl⟩:=hu;obtain ⟨i0,hi,hj0,hj1,hj2⟩:=info_parts Tryz.oU;have h1:=aa w (.cells #[.func (.func g) #[] cb] 113);have c1:(w.alloc (.cells #[.func (.func g) #[] cb] 113)).cell? ⟨w.heap.size,0,none⟩=some (.func (.func g) #[] cb):=by simp
 have z1:(w.alloc (.cells #[.func (.func g) #[] cb] 113)).heap.size=w.heap.size+1:=by simp
 go_enter Tryz.func155,Tryz.ntmps155;go_wp2_with (first | (at_make; refine wpList_make_own _ rfl _ _ 61 rfl (w.heap.size+1) 24 i0 _ 3 Tryz.underlying61 hi hj0 hj1 .i64 .i64 8 8 rfl rfl rfl (by rw [hj2]; omega) (by unfold maxLen; omega) (by simp) ?_))
 generalize w.alloc (.cells #[.func (.func g) #[] cb] 113)=w1 at *;intro w2 own2 g2;have z2:=g2.size;obtain ⟨hx2,⟨e2,_⟩ | ⟨gg,cap2,cur2,e2,hg2,hh2,hn2,hm2,hs2,ht2⟩⟩:=own2
 ·cases e2
 injection e2 with e2a e2b e2c
 have e2a:=It e2a;injection e2a with e2a
 subst e2c;subst e2a;have b2:Below w1.heap.size w1 w2:=(He _ _).grown g2 (Hd _) (by simp);have c2:=(b2.cell (p:=⟨w.heap.size,0,none⟩) (by show w.heap.size<_; omega)).trans c1;have lt2:w.heap.size+1<w2.heap.size:=by
  rcases Ic (w.heap.size+1) w2.heap.size with h | h
  ·exact h
  ·rw [Iy h] at hh2; cases hh2
 have h3:=aa w2 (.cells #[.slice (some ⟨w.heap.size+1,0,none⟩) 0 8] 61);have z3:(w2.alloc (.cells #[.slice (some ⟨w.heap.size+1,0,none⟩) 0 8] 61)).heap.size=w2.heap.size+1:=by simp
 have v3:(w2.alloc (.cells #[.slice (some ⟨w.heap.size+1,0,none⟩) 0 8] 61)).cell? ⟨w2.heap.size,0,none⟩=some (.slice (some ⟨w.heap.size+1,0,none⟩) 0 8):=by simp
 have f3:(w2.alloc (.cells #[.slice (some ⟨w.heap.size+1,0,none⟩) 0 8] 61)).frozen? ⟨w2.heap.size,0,none⟩=false:=by simp
 have r3:=(h3.block (w.heap.size+1) lt2).trans hh2;have c3:=(h3.cell (p:=⟨w.heap.size,0,none⟩) (by show w.heap.size<_; omega)).trans c2;have HP:Hid (∀ W,W=w2.alloc (.cells #[.slice (some ⟨w.heap.size+1,0,none⟩) 0 8] 61)→W.cell? ⟨w.heap.size,0,none⟩=some (.func (.func g) #[] cb)∧tp W (w.heap.size+1) w2.heap.size∧eR W (w.heap.size+1) w2.heap.size W∧Below w.heap.size w W):=fun W hW=>by
  subst hW;exact ⟨c3,⟨lt2,by omega⟩,⟨rfl,rfl,rfl,Hd _,fun _ _ _ _=>rfl,⟨0,v3⟩,f3,cur2,r3,hs2⟩,chain (chain h1 b2) h3⟩
 clear v3 f3 r3 c3 h3 g2 hh2 hx2 ht2;go_wp2
 go_ret;exact ⟨_,rfl,HP.out _ rfl⟩
theorem nA {W:World} {k:Nat} {v0 v1 v2:Value} (u0 u1 u2:Value) (h0:W.cell? ⟨k,0,none⟩=some v0) (h1:W.cell? ⟨k,1,none⟩=some v1) (h2:W.cell? ⟨k,2,none⟩=some v2) :
  (((W.setCell ⟨k,0,none⟩ u0).setCell ⟨k,1,none⟩ u1).setCell ⟨k,2,none⟩ u2).cell? ⟨k,0,none⟩=some u0∧(((W.setCell ⟨k,0,none⟩ u0).setCell ⟨k,1,none⟩ u1).setCell ⟨k,2,none⟩ u2).cell? ⟨k,1,none⟩=some u1∧(((W.setCell ⟨k,0,none⟩ u0).setCell ⟨k,1,none⟩ u1).setCell ⟨k,2,none⟩ u2).cell? ⟨k,2,none⟩=some u2:=by
 have ne:∀ i j:Nat,i≠j→(⟨k,i,none⟩:Addr)≠⟨k,j,none⟩:=fun i j h e=>h (congrArg Addr.off e)
 have t0:=ID W ⟨k,0,none⟩ u0 h0;have t1:=(Hq W _ _ u0 (ne 0 1 (by decide))).trans h1;have t2:=(Hq W _ _ u0 (ne 0 2 (by decide))).trans h2;have m0:=(Hq (W.setCell ⟨k,0,none⟩ u0) _ _ u1 (ne 1 0 (by decide))).trans t0;have m1:=ID (W.setCell ⟨k,0,none⟩ u0) _ u1 t1;have m2:=(Hq (W.setCell ⟨k,0,none⟩ u0) _ _ u1 (ne 1 2 (by decide))).trans t2
 exact ⟨(Hq _ _ _ _ (ne 2 0 (by decide))).trans m0,(Hq _ _ _ _ (ne 2 1 (by decide))).trans m1,ID _ _ _ m2⟩
theorem iV {B:Nat} {w W:World} {k:Nat} (u0 u1 u2:Value) (h:Below B w W) (hk:B≤k):Below B w (((W.setCell ⟨k,0,none⟩ u0).setCell ⟨k,1,none⟩ u1).setCell ⟨k,2,none⟩ u2) :=
 ((h.setCell (p:=⟨k,0,none⟩) hk _).setCell (p:=⟨k,1,none⟩) hk _).setCell (p:=⟨k,2,none⟩) hk _
theorem vM {W:World} {k:Nat} (u0 u1 u2:Value) (j:Nat) (hj:j≠k):(((W.setCell ⟨k,0,none⟩ u0).setCell ⟨k,1,none⟩ u1).setCell ⟨k,2,none⟩ u2).heap[j]? = W.heap[j]?:=by
 rw [Im _ ⟨k,2,none⟩ _ j hj,Im _ ⟨k,1,none⟩ _ j hj,Im _ ⟨k,0,none⟩ _ j hj]
theorem Ab {W:World} {k:Nat} (u0 u1 u2:Value):(((W.setCell ⟨k,0,none⟩ u0).setCell ⟨k,1,none⟩ u1).setCell ⟨k,2,none⟩ u2).heap.size=W.heap.size:=by simp
theorem yg (left right:List Int) (x:Ex) (la:Option Addr) (lcap:Nat) (ra:Option Addr) (rcap:Nat) (xa:Option Addr) (xcap:Nat) (a:Option Addr) (ca:Nat) (l:List Zp) (b:Option Addr) (cb:Nat) (r:List Zp) (w:World)
  (hcl:bo w.heap.size w la left) (hcr:bo w.heap.size w ra right) (hx:aO w.heap.size w xa x.ks) (h:bP w a l) (h':bP w b r) (hll:left.length≤100000000000000) (hrl:right.length≤100000000000000) :
  Calls Tryz.prog 120 #[.slice la left.length lcap,.slice ra right.length rcap,iY x.k x.v x.c xa x.ks.length xcap,.slice a l.length ca,.slice b r.length cb] w fun e w'=>∃ v,e = .returned (.tuple #[v,.int .i64 (ib left right x l r)])∧((ib left right x l r=0∧nE (left ++ right) x w w' a b ca cb l r v)∨(¬ ib left right x l r=0∧v = .agg #[.slice none 0 0,.slice none 0 0,.nilFunc]))∧Below w.heap.size w w':=by
 have h1:=aa w (.cells (ji x xa xcap) 27);have S1:=ik.new w x.k x.v x.c xa x.ks.length xcap 27;have z1:(w.alloc (.cells (ji x xa xcap) 27)).heap.size=w.heap.size+1:=by simp
 have h2:Below (w.alloc (.cells (ji x xa xcap) 27)).heap.size (w.alloc (.cells (ji x xa xcap) 27)) ((w.alloc (.cells (ji x xa xcap) 27)).alloc (.cells #[.slice none 0 0,.slice none 0 0,.nilFunc] 137)):=(He _ _).alloc (Hd _) _;have z2:((w.alloc (.cells (ji x xa xcap) 27)).alloc (.cells #[.slice none 0 0,.slice none 0 0,.nilFunc] 137)).heap.size=w.heap.size+2:=by simp
 have S2:=S1.next h2 (by omega);have b0:((w.alloc (.cells (ji x xa xcap) 27)).alloc (.cells #[.slice none 0 0,.slice none 0 0,.nilFunc] 137)).cell? ⟨w.heap.size+1,0,none⟩=some (.slice none 0 0):=by rw [Iv _ _ _ _ (by simp)]; rfl
 have b1:((w.alloc (.cells (ji x xa xcap) 27)).alloc (.cells #[.slice none 0 0,.slice none 0 0,.nilFunc] 137)).cell? ⟨w.heap.size+1,1,none⟩=some (.slice none 0 0):=by rw [Iv _ _ _ _ (by simp)]; rfl
 have b2:((w.alloc (.cells (ji x xa xcap) 27)).alloc (.cells #[.slice none 0 0,.slice none 0 0,.nilFunc] 137)).cell? ⟨w.heap.size+1,2,none⟩=some (.nilFunc):=by rw [Iv _ _ _ _ (by simp)]; rfl
 have f0:((w.alloc (.cells (ji x xa xcap) 27)).alloc (.cells #[.slice none 0 0,.slice none 0 0,.nilFunc] 137)).frozen? ⟨w.heap.size+1,0,none⟩=false:=IX _ _ _ _ (by simp);have f1:((w.alloc (.cells (ji x xa xcap) 27)).alloc (.cells #[.slice none 0 0,.slice none 0 0,.nilFunc] 137)).frozen? ⟨w.heap.size+1,1,none⟩=false:=IX _ _ _ _ (by simp);have f2:((w.alloc (.cells (ji x xa xcap) 27)).alloc (.cells #[.slice none 0 0,.slice none 0 0,.nilFunc] 137)).frozen? ⟨w.heap.size+1,2,none⟩=false:=IX _ _ _ _ (by simp);have hA:=chain h1 h2
 generalize ht:ib left right x l r=te;have HT:Hid (ib left right x l r=te):=ht;clear ht S1;by_cases h8:8<left.length+right.length
 ·have e:te=5:=by rw [← HT.out]; simp [ib,h8]
  subst e;have hz:(8:Int)<(left.length:Int)+(right.length:Int):=by omega
  go_enter Tryz.func120,Tryz.ntmps120;go_wp2
  exact Hf (v:=.tuple #[.agg #[.slice none 0 0,.slice none 0 0,.nilFunc],.int .i64 5]) (by simp [results,Tryz.results120,go_sem]) rfl ⟨_,rfl,.inr ⟨by decide,rfl⟩,by first | exact hA | exact (hA.setCell (p:=⟨w.heap.size+1,0,none⟩) (by show w.heap.size≤w.heap.size+1; omega) _)⟩
 have hz:¬ (8:Int)<(left.length:Int)+(right.length:Int):=by omega
 have H8:Hid (¬ 8<left.length+right.length):=h8;have p0:=ax S2.c0;have p1:=ax S2.c1;have p2:=ax S2.c2;have p3:=ax S2.c3;have p4:=ax S2.c4;have p5:=ax S2.c5;simp only [Hu] at p1 p2 p3 p4 p5;by_cases hcond:cz (left ++ right) x=0
 ·go_enter Tryz.func120,Tryz.ntmps120;go_wp2_with fail
  generalize (w.alloc (.cells (ji x xa xcap) 27)).alloc (.cells #[.slice none 0 0,.slice none 0 0,.nilFunc] 137)=w2 at *;have hB0:Below w2.heap.size w2 w2.drew:=(He _ _).drew;refine ij (by kernel_rfl) ?_;refine aN (some 24) (i:=0) (v:=.slice la left.length lcap) rfl rfl (by kernel_rfl) (by kernel_rfl) (by kernel_rfl) (fun _ _ _ h=>h) (Or.inl ⟨rfl,fun n=>?_⟩) hB0 ?_
  ·go_simp
  simp only [Act.put,pA,pB,pC];refine aN (some 25) (i:=1) (v:=.slice ra right.length rcap) rfl rfl (by kernel_rfl) (by kernel_rfl) (by kernel_rfl) (fun _ _ _ h=>h) (Or.inl ⟨rfl,fun n=>?_⟩) hB0 ?_
  ·go_simp
  simp only [Act.put,pA,pB,pC];refine aN (some 28) (i:=4) (v:=iY x.k x.v x.c xa x.ks.length xcap) rfl rfl (by kernel_rfl) (by kernel_rfl) (by kernel_rfl) (fun _ _ _ h=>h) (Or.inl ⟨rfl,fun n=>?_⟩) hB0 ?_
  ·go_simp
  simp only [Act.put,pA,pB,pC];clear p0 p1 p2 p3 p4 p5;refine fh (rs:=[2]) (by kernel_rfl) (by simp) ?_;intro w3 hb3 j hj;obtain rfl:j=2:=by simpa using hj
  clear hj;have D3:=hB0.trans (hb3.mono hB0.size);refine wpOp_step rfl (fun K hK=>?_);go_simp;have hal3:=aa w3 (.cells #[.slice la left.length lcap,.slice ra right.length rcap] 42);have PC:=hM.new lcap rcap (eN (hcl.next (chain hA D3) (Hd _))) (eN (hcr.next (chain hA D3) (Hd _))) 42;have D4:=D3.trans (hal3.mono D3.size);refine hK _ _ ⟨D4,?_⟩;clear hK K;generalize w3.alloc (.cells #[.slice la left.length lcap,.slice ra right.length rcap] 42)=w4 at *
  refine fh (rs:=[3]) (by kernel_rfl) (by simp) ?_;intro w5 hb5 j hj;obtain rfl:j=3:=by simpa using hj
  clear hj;have D5:=D4.trans (hb5.mono D4.size);refine wpOp_step rfl (fun K hK=>?_);go_simp;refine (jd _ _ _ _ _ w5 (PC.next hb5) (by omega)).mono ?_;rintro e w6 ⟨v6,rfl,O6,hb6⟩;rw [← IM] at O6;obtain ⟨a6,c6,rfl,I6⟩:=tP O6 (by simp);have D6:=D5.trans (hb6.mono D5.size);refine hK _ _ ⟨D6,?_⟩;clear hK K PC O6;refine fh (rs:=[5]) (by kernel_rfl) (by simp) ?_;intro w7 hb7 j hj;obtain rfl:j=5:=by simpa using hj
  clear hj;have D7:=D6.trans (hb7.mono D6.size);refine wpOp_step rfl (fun K hK=>?_);go_simp;have hA7:=chain hA D7;have con:=pG (left ++ right) x a6 c6 xa xcap w7 ((aO.next hA7 (Hd _) hx).up hA7.size) ((I6.next hb7 (Hd _)).up hb7.size) hcond;rw [Ii] at con;refine con.mono ?_;clear con;rintro e w8 ⟨u8,rfl,hC8,hb8⟩;obtain ⟨ug,ucb,rfl⟩:∃ g cb,u8 = .func (.func g) #[] cb:=by obtain ⟨g,cb,e,_⟩:=hC8; exact ⟨g,cb,e⟩
  have D8:=D7.trans (hb8.mono D7.size);refine hK _ _ ⟨D8,?_⟩;clear hK K;refine aN (some 23) (i:=6) (v:=.tuple #[.func (.func ug) #[] ucb,.int .i64 0]) rfl rfl (by kernel_rfl) (by kernel_rfl) (by kernel_rfl) (fun _ _ _ h=>h) (Or.inl ⟨rfl,fun n=>?_⟩) D8 ?_
  ·go_simp
  simp only [Act.put,pA,pB,pC];refine aN (some 30) (i:=7) (v:=.func (.func ug) #[] ucb) rfl rfl (by kernel_rfl) (by kernel_rfl) (by kernel_rfl) (fun _ _ _ h=>h) (Or.inl ⟨rfl,fun n=>?_⟩) D8 ?_
  ·go_simp
  simp only [Act.put,pA,pB,pC];refine aN (some 31) (i:=8) (v:=.int .i64 0) rfl rfl (by kernel_rfl) (by kernel_rfl) (by kernel_rfl) (fun _ _ _ h=>h) (Or.inl ⟨rfl,fun n=>?_⟩) D8 ?_
  ·go_simp
  simp only [Act.put,pA,pB,pC];refine aN (some 12) (i:=9) (v:=.func (.func ug) #[] ucb) rfl rfl (by kernel_rfl) (by kernel_rfl) (by kernel_rfl) (fun _ _ _ h=>h) (Or.inl ⟨rfl,fun n=>?_⟩) D8 ?_
  ·go_simp
  simp only [Act.put,pA,pB,pC];refine aN (some 13) (i:=10) (v:=.int .i64 0) rfl rfl (by kernel_rfl) (by kernel_rfl) (by kernel_rfl) (fun _ _ _ h=>h) (Or.inl ⟨rfl,fun n=>?_⟩) D8 ?_
  ·go_simp
  simp only [Act.put,pA,pB,pC];refine lh (by kernel_rfl) ?_;intro w9 hb9;have D9:=D8.trans (hb9.mono D8.size);have hA9:=chain hA D9;have q0:=(D9.cell (p:=⟨w.heap.size+1,0,none⟩) (by show w.heap.size+1<_; omega)).trans b0;have q1:=(D9.cell (p:=⟨w.heap.size+1,1,none⟩) (by show w.heap.size+1<_; omega)).trans b1;have q2:=(D9.cell (p:=⟨w.heap.size+1,2,none⟩) (by show w.heap.size+1<_; omega)).trans b2;have g0:=(D9.frozen (p:=⟨w.heap.size+1,0,none⟩) (by show w.heap.size+1<_; omega)).trans f0;have g1:=(D9.frozen (p:=⟨w.heap.size+1,1,none⟩) (by show w.heap.size+1<_; omega)).trans f1
  have g2:=(D9.frozen (p:=⟨w.heap.size+1,2,none⟩) (by show w.heap.size+1<_; omega)).trans f2;have con:=gu left la lcap a ca l w9 ((hcl.next hA9 (Hd _)).up hA9.size) (h.next hA9);have lt9:w.heap.size+1<w9.heap.size:=by have:=D9.size; omega
  clear b0 b1 b2 f0 f1 f2 S2;by_cases hi1:cG left l=0
  ·go_wp2_with fail
   rw [hi1] at con;refine con.mono ?_;clear con;rintro e w10 ⟨rfl,hb10⟩;have hA10:=chain hA9 hb10;have lt10:w.heap.size+1<w10.heap.size:=by have:=hb10.size; omega
   have q0:=(hb10.cell (p:=⟨w.heap.size+1,0,none⟩) lt9).trans q0;have q1:=(hb10.cell (p:=⟨w.heap.size+1,1,none⟩) lt9).trans q1;have q2:=(hb10.cell (p:=⟨w.heap.size+1,2,none⟩) lt9).trans q2;have g0:=(hb10.frozen (p:=⟨w.heap.size+1,0,none⟩) lt9).trans g0;have g1:=(hb10.frozen (p:=⟨w.heap.size+1,1,none⟩) lt9).trans g1;have g2:=(hb10.frozen (p:=⟨w.heap.size+1,2,none⟩) lt9).trans g2;have con:=gu right ra rcap b cb r w10 ((hcr.next hA10 (Hd _)).up hA10.size) (h'.next hA10);by_cases hi2:cG right r=0
   ·go_wp2_with fail
    rw [hi2] at con;refine con.mono ?_;clear con;have e0:te=0:=by rw [← HT.out]; unfold ib; rw [if_neg H8.out,if_neg (by simp [hcond]),if_neg (by simp [hi1])]; exact hi2
    subst e0;rintro e w11 ⟨rfl,hb11⟩;have hA11:=chain hA10 hb11;have lt11:w.heap.size+1<w11.heap.size:=by have:=hb11.size; omega
    have q0:=(hb11.cell (p:=⟨w.heap.size+1,0,none⟩) lt10).trans q0;have q1:=(hb11.cell (p:=⟨w.heap.size+1,1,none⟩) lt10).trans q1;have q2:=(hb11.cell (p:=⟨w.heap.size+1,2,none⟩) lt10).trans q2;have g0:=(hb11.frozen (p:=⟨w.heap.size+1,0,none⟩) lt10).trans g0;have g1:=(hb11.frozen (p:=⟨w.heap.size+1,1,none⟩) lt10).trans g1;have g2:=(hb11.frozen (p:=⟨w.heap.size+1,2,none⟩) lt10).trans g2;go_wp2_with fail
    refine (zh (.func (.func ug) #[] ucb) w11 ⟨_,_,rfl⟩).mono ?_;rintro e w12 ⟨rv,rfl,hv12,N12,I12,hb12⟩;have hA12:=chain hA11 hb12;have lt12:w.heap.size+1<w12.heap.size:=by have:=hb12.size; omega
    have q0:=(hb12.cell (p:=⟨w.heap.size+1,0,none⟩) lt11).trans q0;have q1:=(hb12.cell (p:=⟨w.heap.size+1,1,none⟩) lt11).trans q1;have q2:=(hb12.cell (p:=⟨w.heap.size+1,2,none⟩) lt11).trans q2;have g0:=(hb12.frozen (p:=⟨w.heap.size+1,0,none⟩) lt11).trans g0;have g1:=(hb12.frozen (p:=⟨w.heap.size+1,1,none⟩) lt11).trans g1;have g2:=(hb12.frozen (p:=⟨w.heap.size+1,2,none⟩) lt11).trans g2;have d12:Below w8.heap.size w8 w12:=chain (chain (chain hb9 hb10) hb11) hb12;have F7:Hid (w.heap.size+2≤w7.heap.size):=by show w.heap.size+2≤w7.heap.size; have:=D7.size; omega
    have HC8:Hid (jm (left ++ right) w7.heap.size (.func (.func ug) #[] ucb) x w8):=hC8;have HZ:Hid (w8.heap.size≤w11.heap.size):=by show w8.heap.size≤w11.heap.size; have:=(chain (chain hb9 hb10) hb11).size; omega
    clear hC8;go_wp2_with fail
    obtain ⟨r0,r1,r2⟩:=nA (.slice a l.length ca) (.slice b r.length cb) (.func (.func 185) #[] #[.pointer (some ⟨rv,0,none⟩),.pointer (some ⟨w11.heap.size,0,none⟩)]) q0 q1 q2;have hE:=iV (.slice a l.length ca) (.slice b r.length cb) (.func (.func 185) #[] #[.pointer (some ⟨rv,0,none⟩),.pointer (some ⟨w11.heap.size,0,none⟩)]) hA12 (show w.heap.size≤w.heap.size+1 by omega);have hK:=vM (W:=w12) (k:=w.heap.size+1) (.slice a l.length ca) (.slice b r.length cb) (.func (.func 185) #[] #[.pointer (some ⟨rv,0,none⟩),.pointer (some ⟨w11.heap.size,0,none⟩)])
    have hS:=Ab (W:=w12) (k:=w.heap.size+1) (.slice a l.length ca) (.slice b r.length cb) (.func (.func 185) #[] #[.pointer (some ⟨rv,0,none⟩),.pointer (some ⟨w11.heap.size,0,none⟩)]);generalize ((w12.setCell ⟨w.heap.size+1,0,none⟩ (.slice a l.length ca)).setCell ⟨w.heap.size+1,1,none⟩ (.slice b r.length cb)).setCell ⟨w.heap.size+1,2,none⟩ (.func (.func 185) #[] #[.pointer (some ⟨rv,0,none⟩),.pointer (some ⟨w11.heap.size,0,none⟩)])=wE at *;have hr12:=N12.r;have hv12':=N12.v;have hz:=HZ.out;have h7:=F7.out;obtain ⟨n12,hvar⟩:=I12.var;obtain ⟨cur12,hroom,hcs⟩:=I12.room
    refine Hf (v:=.tuple #[.agg #[.slice a l.length ca,.slice b r.length cb,.func (.func 185) #[] #[.pointer (some ⟨rv,0,none⟩),.pointer (some ⟨w11.heap.size,0,none⟩)]],.int .i64 0]) (by simp [results,Tryz.results120,go_sem,r0,r1,r2]) rfl ⟨_,rfl,⟨⟨w7.heap.size,w8,w11.heap.size+1,rv,w11.heap.size,_,rfl,⟨by omega,by omega⟩,by omega,(Hz (w:=w12) (hK w11.heap.size (by omega))).trans hv12,HC8.out,by omega,⟨by have:=d12.size; omega,fun k k1 k2=>(hK k (by omega)).trans (d12.block k k2)⟩,by omega,hE,?_⟩⟩,hE⟩
    exact ⟨rfl,rfl,rfl,Hd _,fun _ _ _ _=>rfl,⟨n12,(Hz (w:=w12) (hK rv (by omega))).trans hvar⟩,(IW (w:=w12) (hK rv (by omega))).trans I12.AS,cur12,(hK _ (by omega)).trans hroom,hcs⟩
   ·go_wp2_with fail
    refine con.mono ?_;clear con;have e0:te=cG right r:=by rw [← HT.out]; unfold ib; rw [if_neg H8.out,if_neg (by simp [hcond]),if_neg (by simp [hi1])]
    rw [← e0] at hi2 ⊢;have hne:(te != 0)=true:=by simpa using hi2
    clear e0;rintro e w11 ⟨rfl,hb11⟩;have hA11:=chain hA10 hb11;have q0:=(hb11.cell (p:=⟨w.heap.size+1,0,none⟩) lt10).trans q0;have q1:=(hb11.cell (p:=⟨w.heap.size+1,1,none⟩) lt10).trans q1;have q2:=(hb11.cell (p:=⟨w.heap.size+1,2,none⟩) lt10).trans q2;have g0:=(hb11.frozen (p:=⟨w.heap.size+1,0,none⟩) lt10).trans g0;have g1:=(hb11.frozen (p:=⟨w.heap.size+1,1,none⟩) lt10).trans g1;have g2:=(hb11.frozen (p:=⟨w.heap.size+1,2,none⟩) lt10).trans g2;go_wp2_with fail
    obtain ⟨r0,r1,r2⟩:=nA (.slice none 0 0) (.slice none 0 0) .nilFunc q0 q1 q2;have hE:=iV (.slice none 0 0) (.slice none 0 0) .nilFunc hA11 (show w.heap.size≤w.heap.size+1 by omega);generalize ((w11.setCell ⟨w.heap.size+1,0,none⟩ (.slice none 0 0)).setCell ⟨w.heap.size+1,1,none⟩ (.slice none 0 0)).setCell ⟨w.heap.size+1,2,none⟩ .nilFunc=wE at *;exact Hf (v:=.tuple #[.agg #[.slice none 0 0,.slice none 0 0,.nilFunc],.int .i64 te]) (by simp [results,Tryz.results120,go_sem,r0,r1,r2]) rfl ⟨_,rfl,.inr ⟨hi2,rfl⟩,hE⟩
  ·go_wp2_with fail
   refine con.mono ?_;clear con;have e0:te=cG left l:=by rw [← HT.out]; unfold ib; rw [if_neg H8.out,if_neg (by simp [hcond]),if_pos hi1]
   rw [← e0] at hi1 ⊢;have hne:(te != 0)=true:=by simpa using hi1
   clear e0;rintro e w10 ⟨rfl,hb10⟩;have hA10:=chain hA9 hb10;have q0:=(hb10.cell (p:=⟨w.heap.size+1,0,none⟩) lt9).trans q0;have q1:=(hb10.cell (p:=⟨w.heap.size+1,1,none⟩) lt9).trans q1;have q2:=(hb10.cell (p:=⟨w.heap.size+1,2,none⟩) lt9).trans q2;have g0:=(hb10.frozen (p:=⟨w.heap.size+1,0,none⟩) lt9).trans g0;have g1:=(hb10.frozen (p:=⟨w.heap.size+1,1,none⟩) lt9).trans g1;have g2:=(hb10.frozen (p:=⟨w.heap.size+1,2,none⟩) lt9).trans g2;go_wp2_with fail
   obtain ⟨r0,r1,r2⟩:=nA (.slice none 0 0) (.slice none 0 0) .nilFunc q0 q1 q2;have hE:=iV (.slice none 0 0) (.slice none 0 0) .nilFunc hA10 (show w.heap.size≤w.heap.size+1 by omega);generalize ((w10.setCell ⟨w.heap.size+1,0,none⟩ (.slice none 0 0)).setCell ⟨w.heap.size+1,1,none⟩ (.slice none 0 0)).setCell ⟨w.heap.size+1,2,none⟩ .nilFunc=wE at *;exact Hf (v:=.tuple #[.agg #[.slice none 0 0,.slice none 0 0,.nilFunc],.int .i64 te]) (by simp [results,Tryz.results120,go_sem,r0,r1,r2]) rfl ⟨_,rfl,.inr ⟨hi1,rfl⟩,hE⟩
 ·have e0:te=cz (left ++ right) x:=by rw [← HT.out]; unfold ib; rw [if_neg H8.out,if_pos hcond]
  have e1:¬ te=0:=by rw [e0]; exact hcond
  have hne:(te != 0)=true:=by simpa using e1
  have HC:Hid (cz (left ++ right) x=te):=e0.symm;clear e0;go_enter Tryz.func120,Tryz.ntmps120;go_wp2_with fail
  generalize (w.alloc (.cells (ji x xa xcap) 27)).alloc (.cells #[.slice none 0 0,.slice none 0 0,.nilFunc] 137)=w2 at *;have hB0:Below w2.heap.size w2 w2.drew:=(He _ _).drew;refine ij (by kernel_rfl) ?_;refine aN (some 24) (i:=0) (v:=.slice la left.length lcap) rfl rfl (by kernel_rfl) (by kernel_rfl) (by kernel_rfl) (fun _ _ _ h=>h) (Or.inl ⟨rfl,fun n=>?_⟩) hB0 ?_
  ·go_simp
  simp only [Act.put,pA,pB,pC];refine aN (some 25) (i:=1) (v:=.slice ra right.length rcap) rfl rfl (by kernel_rfl) (by kernel_rfl) (by kernel_rfl) (fun _ _ _ h=>h) (Or.inl ⟨rfl,fun n=>?_⟩) hB0 ?_
  ·go_simp
  simp only [Act.put,pA,pB,pC];refine aN (some 28) (i:=4) (v:=iY x.k x.v x.c xa x.ks.length xcap) rfl rfl (by kernel_rfl) (by kernel_rfl) (by kernel_rfl) (fun _ _ _ h=>h) (Or.inl ⟨rfl,fun n=>?_⟩) hB0 ?_
  ·go_simp
  simp only [Act.put,pA,pB,pC];clear p0 p1 p2 p3 p4 p5;refine fh (rs:=[2]) (by kernel_rfl) (by simp) ?_;intro w3 hb3 j hj;obtain rfl:j=2:=by simpa using hj
  clear hj;have D3:=hB0.trans (hb3.mono hB0.size);refine wpOp_step rfl (fun K hK=>?_);go_simp;have hal3:=aa w3 (.cells #[.slice la left.length lcap,.slice ra right.length rcap] 42);have PC:=hM.new lcap rcap (eN (hcl.next (chain hA D3) (Hd _))) (eN (hcr.next (chain hA D3) (Hd _))) 42;have D4:=D3.trans (hal3.mono D3.size);refine hK _ _ ⟨D4,?_⟩;clear hK K;generalize w3.alloc (.cells #[.slice la left.length lcap,.slice ra right.length rcap] 42)=w4 at *
  refine fh (rs:=[3]) (by kernel_rfl) (by simp) ?_;intro w5 hb5 j hj;obtain rfl:j=3:=by simpa using hj
  clear hj;have D5:=D4.trans (hb5.mono D4.size);refine wpOp_step rfl (fun K hK=>?_);go_simp;refine (jd _ _ _ _ _ w5 (PC.next hb5) (by omega)).mono ?_;rintro e w6 ⟨v6,rfl,O6,hb6⟩;rw [← IM] at O6;obtain ⟨a6,c6,rfl,I6⟩:=tP O6 (by simp);have D6:=D5.trans (hb6.mono D5.size);refine hK _ _ ⟨D6,?_⟩;clear hK K PC O6;refine fh (rs:=[5]) (by kernel_rfl) (by simp) ?_;intro w7 hb7 j hj;obtain rfl:j=5:=by simpa using hj
  clear hj;have D7:=D6.trans (hb7.mono D6.size);refine wpOp_step rfl (fun K hK=>?_);go_simp;have hA7:=chain hA D7;have con:=oV (left ++ right) x a6 c6 xa xcap w7 ((aO.next hA7 (Hd _) hx).up hA7.size) ((I6.next hb7 (Hd _)).up hb7.size) hcond;rw [HC.out,Ii] at con;refine con.mono ?_;clear con;rintro e w8 ⟨rfl,hb8⟩;have D8:=D7.trans (hb8.mono D7.size);refine hK _ _ ⟨D8,?_⟩;clear hK K
  refine aN (some 23) (i:=6) (v:=.tuple #[.nilFunc,.int .i64 te]) rfl rfl (by kernel_rfl) (by kernel_rfl) (by kernel_rfl) (fun _ _ _ h=>h) (Or.inl ⟨rfl,fun n=>?_⟩) D8 ?_
  ·go_simp
  simp only [Act.put,pA,pB,pC];refine aN (some 30) (i:=7) (v:=.nilFunc) rfl rfl (by kernel_rfl) (by kernel_rfl) (by kernel_rfl) (fun _ _ _ h=>h) (Or.inl ⟨rfl,fun n=>?_⟩) D8 ?_
  ·go_simp
  simp only [Act.put,pA,pB,pC];refine aN (some 31) (i:=8) (v:=.int .i64 te) rfl rfl (by kernel_rfl) (by kernel_rfl) (by kernel_rfl) (fun _ _ _ h=>h) (Or.inl ⟨rfl,fun n=>?_⟩) D8 ?_
  ·go_simp
  simp only [Act.put,pA,pB,pC];refine aN (some 12) (i:=9) (v:=.nilFunc) rfl rfl (by kernel_rfl) (by kernel_rfl) (by kernel_rfl) (fun _ _ _ h=>h) (Or.inl ⟨rfl,fun n=>?_⟩) D8 ?_
  ·go_simp
  simp only [Act.put,pA,pB,pC];refine aN (some 13) (i:=10) (v:=.int .i64 te) rfl rfl (by kernel_rfl) (by kernel_rfl) (by kernel_rfl) (fun _ _ _ h=>h) (Or.inl ⟨rfl,fun n=>?_⟩) D8 ?_
  ·go_simp
  simp only [Act.put,pA,pB,pC];refine lh (by kernel_rfl) ?_;intro w9 hb9;have D9:=D8.trans (hb9.mono D8.size);have hA9:=chain hA D9;have q0:=(D9.cell (p:=⟨w.heap.size+1,0,none⟩) (by show w.heap.size+1<_; omega)).trans b0;have q1:=(D9.cell (p:=⟨w.heap.size+1,1,none⟩) (by show w.heap.size+1<_; omega)).trans b1;have q2:=(D9.cell (p:=⟨w.heap.size+1,2,none⟩) (by show w.heap.size+1<_; omega)).trans b2;have g0:=(D9.frozen (p:=⟨w.heap.size+1,0,none⟩) (by show w.heap.size+1<_; omega)).trans f0;have g1:=(D9.frozen (p:=⟨w.heap.size+1,1,none⟩) (by show w.heap.size+1<_; omega)).trans f1
  have g2:=(D9.frozen (p:=⟨w.heap.size+1,2,none⟩) (by show w.heap.size+1<_; omega)).trans f2;go_wp2_with fail
  obtain ⟨r0,r1,r2⟩:=nA (.slice none 0 0) (.slice none 0 0) .nilFunc q0 q1 q2;have hE:=iV (.slice none 0 0) (.slice none 0 0) .nilFunc hA9 (show w.heap.size≤w.heap.size+1 by omega);generalize ((w9.setCell ⟨w.heap.size+1,0,none⟩ (.slice none 0 0)).setCell ⟨w.heap.size+1,1,none⟩ (.slice none 0 0)).setCell ⟨w.heap.size+1,2,none⟩ .nilFunc=wE at *;exact Hf (v:=.tuple #[.agg #[.slice none 0 0,.slice none 0 0,.nilFunc],.int .i64 te]) (by simp [results,Tryz.results120,go_sem,r0,r1,r2]) rfl ⟨_,rfl,.inr ⟨e1,rfl⟩,hE⟩
end Go.Proofs.YtjebpkhkjkjphaaGreat
namespace Go.Proofs.YtjebpkhkjkjphaaGreat
open Go.RowKit
set_option maxRecDepth 100000
set_option maxHeartbeats 16000000
section
variable {P:Program} {ops:Array Oper} {Q:Exit→Act→World→Prop} {md:Region.Mode} {C:World→Prop}
def fW (P:Program) (ops:Array Oper) (C:World→Prop) (o:Oper) (v:Value) (a:Act):Prop :=
 (Region.wanted o (yielded ops a.tmps)=true∧∀ n:World,C n→Oper.quietUpon P (fun w'=>Below n.heap.size n w') n v ((execOp a.eval o).run P n)) ∨
 (Region.wanted o (yielded ops a.tmps)=false∧v=undef)
theorem fW.of_same {o:Oper} {v:Value} {a a':Act} (hy:fW P ops C o v a) (he:execOp a'.eval o=execOp a.eval o)
  (hw:Region.wanted o (yielded ops a'.tmps)=Region.wanted o (yielded ops a.tmps)):fW P ops C o v a':=by
 unfold fW at *;rw [he,hw];exact hy
theorem fW.wpOp {i:Nat} {o:Oper} {v:Value} {a:Act} (hi:ops[i]? = some o) (hy:fW P ops C o v a)
  {K:Act→World→Prop} {w:World} (hB:C w) (h:∀ w',Below w.heap.size w w'→K (a.put o.dst v) w'):wpOp P ops Q i K a w:=by
 unfold Go.wpOp;simp only [hi];rcases hy with ⟨hw,hv⟩ | ⟨hw,rfl⟩
 ·simp only [hw,if_true];left;have h3:=hv w hB;unfold Oper.wp;generalize (execOp a.eval o).run P w=r at *;cases r with
  | ok n w' =>
   cases n <;> simp only [Oper.quietUpon] at h3 <;> simp only [Oper.upon]
   case value u =>
    obtain ⟨e1,e2⟩:=h3;rw [e1,e2];exact h _ (He _ _)
   case skip =>
    obtain ⟨e1,e2⟩:=h3;rw [e1,← e2];exact h _ (He _ _)
   case enter f args =>
    obtain ⟨e1,hc⟩:=h3;rw [e1];exact hc.mono fun e w'' ⟨he,hw''⟩=>by subst he; exact h _ hw''
  | halt x w'=>simp only [Oper.quietUpon] at h3
 ·simp only [hw,I9,if_false];exact h _ (He _ _)
theorem pD {Φ:Act→Prop} {j:Nat} {oi oj:Oper} {v:Value} (hj:ops[j]? = some oj) (hap:oi.apart ops oj=true)
  (hsj:∀ cs b,oj.op ≠ .select cs b) (hQ:∀ c a w,Q (.panic c) (a.put oi.dst v) w→Q (.panic c) a w)
  (gD:∀ (a:Act),Φ a→∀ u,Φ (a.put oj.dst u)) (keepD:∀ (a:Act) (d:Deferred),Φ a→Φ { a with defers:=d :: a.defers })
  {K:Act→World→Prop} {a:Act} {w:World} (hy:Φ a) (h:wpOp P ops Q j K (a.put oi.dst v) w) :
  wpOp P ops Q j (fun a' w'=>Φ a'∧K (a'.put oi.dst v) w') a w:=by
 obtain ⟨h1,h2,_⟩:=Oper.apart_spec hap;unfold wpOp at *;simp only [hj] at *;rw [wanted_put oj a oi.dst v h1] at h
 split
 ·rename_i hw
  simp only [hw,if_true] at h;rcases h with h | ⟨hasks,hlets⟩
  case inr=>exact .inr ⟨by unfold Oper.asks at *; rw [execOp_put oj hsj a oi.dst v h1] at hasks; exact hasks,hlets⟩
  refine .inl ?_;unfold Oper.wp at *;rw [execOp_put oj hsj a oi.dst v h1] at h;generalize (execOp a.eval oj).run P w=r at *;cases r with
  | ok n w' =>
   cases n <;> simp only [Oper.upon] at h ⊢
   case value u=>exact ⟨gD a hy u,by rw [← Act.put_comm a v u h2]; exact h⟩
   case skip=>exact ⟨gD a hy _,by rw [← Act.put_comm a v undef h2]; exact h⟩
   case defer d =>
    refine ⟨gD _ (keepD a d hy) _,?_⟩;rw [← Act.put_comm _ v undef h2,← Act.put_defers];exact h
   case enter f args =>
    refine Calls.mono h fun e w'' he=>?_
    cases e with
    | returned u=>exact ⟨gD a hy u,by rw [← Act.put_comm a v u h2]; exact he⟩
    | panicked c=>exact hQ _ _ _ he
    | outgrown=>exact he
   case row row args=>exact Rows.mono h fun u w'' he=>⟨gD a hy u,by rw [← Act.put_comm a v u h2]; exact he⟩
  | halt x w' =>
   cases x <;> simp only [Oper.upon] at h ⊢
   case panic u=>exact hQ _ _ _ h
 ·rename_i hw
  simp only [hw] at h;exact ⟨gD a hy _,by rw [← Act.put_comm a v undef h2]; exact h⟩
def xO (P:Program) (md:Region.Mode) (ops:Array Oper) (Q:Exit→Act→World→Prop) (C:World→Prop):Nat→Array Bool→Act→World→Prop
 | 0,listed,a,w=>Region.ready md ops listed = []∧∀ w',Below w.heap.size w w'→Q .normal a w'
 | fuel+1,listed,a,w=>∀ w',Below w.heap.size w w'→(Region.ready md ops listed = []→Q .normal a w') ∧
  ∀ i ∈ Region.ready md ops listed,wpOp P ops Q i (fun a' w''=>C w''∧xO P md ops Q C fuel (listed.setIfInBounds i true) a' w'') a w'
theorem xO.eI:∀ (fuel:Nat) {listed:Array Bool} {a:Act} {w w1:World},xO P md ops Q C fuel listed a w→Below w.heap.size w w1→xO P md ops Q C fuel listed a w1
 | 0,_,_,_,_,h,hb=>⟨h.1,fun w' hw'=>h.2 w' (chain hb hw')⟩
 | _+1,_,_,_,_,h,hb=>fun w' hw'=>h w' (chain hb hw')
theorem lI:∀ (fuel:Nat) (listed:Array Bool) (a:Act) (w:World),xO P md ops Q C fuel listed a w→wpAny P md ops Q fuel listed a w
 | 0,_,_,_,h=>⟨h.1,h.2 _ (He _ _)⟩
 | fuel+1,_,_,w,h=>⟨(h w (He _ _)).1,fun i hi=>wpOp_mono (fun a' w' h'=>lI fuel _ a' w' h'.2) ((h w (He _ _)).2 i hi)⟩
theorem yu (hC:∀ w w',C w→Below w.heap.size w w'→C w') {i:Nat} {oi:Oper} {v:Value} (hi:ops[i]? = some oi) (hsel:∀ (j:Nat) (o:Oper) cs b,ops[j]? = some o→o.op ≠ .select cs b)
  (hQ:∀ c a w,Q (.panic c) (a.put oi.dst v) w→Q (.panic c) a w) :
  ∀ (fuel:Nat) (listed:Array Bool) (a:Act) (w:World),
   (∀ j oj,ops[j]? = some oj→j≠i→listed.getD j true=false→(∀ e ∈ oj.after,Region.binds md e=true→e.on≠i)→oi.apart ops oj=true) →
   i ∈ Region.ready md ops listed→fW P ops C oi v a→C w →
   xO P md ops Q C fuel (listed.setIfInBounds i true) (a.put oi.dst v) w→xO P md ops Q C (fuel+1) listed a w:=by
 intro fuel
 induction fuel with
 | zero =>
  intro listed a w _ hr hy hB H w' hw';refine ⟨fun h=>(by rw [h] at hr; cases hr),fun j hj=>?_⟩;by_cases hji:j=i
  ·subst hji;exact hy.wpOp hi (hC _ _ hB hw') fun w'' hw''=>⟨hC _ _ (hC _ _ hB hw') hw'',H.eI 0 (chain hw' hw'')⟩
  ·have:=ready_mono hj hji;rw [H.1] at this;cases this
 | succ fuel ih =>
  intro listed a w hfree hr hy hB H w' hw';refine ⟨fun h=>(by rw [h] at hr; cases hr),fun j hj=>?_⟩;by_cases hji:j=i
  ·subst hji;exact hy.wpOp hi (hC _ _ hB hw') fun w'' hw''=>⟨hC _ _ (hC _ _ hB hw') hw'',H.eI (fuel+1) (chain hw' hw'')⟩
  ·have h1:=(H w' hw').2 j (ready_mono hj hji);obtain ⟨hjun,oj,hoj,hall⟩:=mem_ready.1 hj;have hnot:∀ e ∈ oj.after,Region.binds md e=true→e.on≠i:=fun e he hb heq=>by
    have h1:=hall e he hb;have h0:=(mem_ready.1 hr).1;rw [heq] at h1;rcases Ic i listed.size with h' | h'
    ·simp [h'] at h0 h1; rw [h0] at h1; cases h1
    ·simp [Iy h'] at h1
   have hap:=hfree j oj hoj hji hjun hnot;obtain ⟨_,_,h3⟩:=Oper.apart_spec hap;have h2:=pD (Φ:=fW P ops C oi v) hoj hap (fun cs b=>hsel j oj cs b hoj) hQ
    (fun a hy u=>hy.of_same (execOp_put oi (fun cs b=>hsel i oi cs b hi) a oj.dst u h3) (wanted_put oi a oj.dst u h3)) (fun a d hy=>hy.of_same rfl rfl) hy h1
   have hfree':∀ k ok,ops[k]? = some ok→k≠i→(listed.setIfInBounds j true).getD k true=false →
     (∀ e ∈ ok.after,Region.binds md e=true→e.on≠i)→oi.apart ops ok=true:=fun k ok hk hki hun hno=>by
    refine hfree k ok hk hki ?_ hno;by_cases hjk:j=k
    ·subst hjk; exact hjun
    ·rw [getD_set_ne true hjk] at hun; exact hun
   refine wpOp_mono (fun a' w'' h4=>⟨h4.2.1,ih (listed.setIfInBounds j true) a' w'' hfree' (ready_mono hr (Ne.symm hji)) h4.1 h4.2.1 ?_⟩) h2;rw [Array.setIfInBounds_comm _ _ hji];exact h4.2.2
theorem ag (hC:∀ w w',C w→Below w.heap.size w w'→C w') {i:Nat} {oi:Oper} {v:Value} {fuel:Nat} {listed:Array Bool} {a:Act} {w:World} (d:Option Tmp) (hi:ops[i]? = some oi) (hd:oi.dst=d)
  (hs:Region.noSelect ops=true) (hf:Region.free md ops listed i=true) (hr:(Region.ready md ops listed).contains i=true)
  (hQ:∀ c a w,Q (.panic c) (a.put oi.dst v) w→Q (.panic c) a w) (hy:fW P ops C oi v a) (hB:C w)
  (h:xO P md ops Q C fuel (listed.setIfInBounds i true) (a.put d v) w):xO P md ops Q C (fuel+1) listed a w:=by
 subst hd;exact yu hC hi (Region.noSelect_spec hs) hQ fuel listed a w (Region.free_spec hi hf) (by simpa using hr) hy hB h
theorem ab (hC:∀ w w',C w→Below w.heap.size w w'→C w') {i:Nat} {oi:Oper} {v:Value} {fuel:Nat} {listed:Array Bool} {a:Act} {w:World} (d:Tmp) (hy:∀ n:World,C n→Oper.quietUpon P (fun w'=>Below n.heap.size n w') n v ((execOp a.eval oi).run P n)) (hB:C w) (h:xO P md ops Q C fuel (listed.setIfInBounds i true) (a.put (some d) v) w) (hi:ops[i]? = some oi:=by exact rfl) (hd:oi.dst = some d:=by exact rfl) (hs:Region.noSelect ops=true:=by kernel_rfl) (hf:Region.free md ops listed i=true:=by kernel_rfl) (hr:(Region.ready md ops listed).contains i=true:=by kernel_rfl) (hQ:∀ c a w,Q (.panic c) (a.put oi.dst v) w→Q (.panic c) a w:=by exact fun _ _ _ h=>h) (hw:Region.wanted oi (yielded ops a.tmps)=true:=by exact rfl):xO P md ops Q C (fuel+1) listed a w:=ag hC (some d) hi hd hs hf hr hQ (.inl ⟨hw,hy⟩) hB h
theorem au {rs:List Nat} {fuel:Nat} {listed:Array Bool} {a:Act} {w:World} (hr:Region.ready md ops listed=rs) (hne:rs ≠ [])
  (h:∀ w',Below w.heap.size w w'→∀ i ∈ rs,wpOp P ops Q i (fun a' w''=>C w''∧xO P md ops Q C fuel (listed.setIfInBounds i true) a' w'') a w'):xO P md ops Q C (fuel+1) listed a w :=
 fun w' hw'=>⟨fun h0=>absurd (hr ▸ h0) hne,hr ▸ h w' hw'⟩
theorem bd {listed:Array Bool} {a:Act} {w:World} (hr:Region.ready md ops listed = []) (h:∀ w',Below w.heap.size w w'→Q .normal a w'):xO P md ops Q C 0 listed a w:=⟨hr,h⟩
theorem aG {id:Nat} {a:Act} {w:World} (C:World→Prop) (hm:P.follows .mixedOrders=true)
  (h:xO P .any ops Q C ops.size (Array.replicate ops.size false) a w.drew):(Code.region id ops true).wp P Q a w :=
 wp_region_any hm (lI _ _ _ _ h)
end
end Go.Proofs.YtjebpkhkjkjphaaGreat
namespace Go.Proofs.YtjebpkhkjkjphaaGreat
open Go.RowKit Go.Lib Go.Shelf
set_option maxRecDepth 100000
set_option maxHeartbeats 16000000
def iP (base:Nat) (W:World) (v:Value) (l:List Zp):Prop:=∃ xs,W.ownsRow base 63 2 v l.length xs∧rQ W xs l∧∀ (i:Nat) (b o cap n:Nat),i<l.length→xs[i*2]? = some (.slice (some ⟨b,o,none⟩) n cap)→base≤b
theorem iP.z {base:Nat} {W:World} {v:Value} {l:List Zp} (h:iP base W v l):fN base W v l:=by
 obtain ⟨xs,h1,h2,_⟩:=h;exact ⟨xs,h1,h2⟩
theorem Ci {lo:Nat} {W w1:World} {a:Option Addr} {r:List Vl} (h:aY W a r) (ht:fQ W a) (hb:∀ b o,a=some ⟨b,o,none⟩→lo≤b) (hs:Since lo W w1):aY w1 a r∧fQ w1 a:=by
 have key:∀ b off,a=some ⟨b,off,none⟩→w1.heap[b]? = W.heap[b]?:=by
  intro b off e;obtain ⟨c,z,h1⟩:=ht b off e;have hlt:b<W.heap.size:=by
   rcases Ic b W.heap.size with h | h
   ·exact h
   ·rw [Iy h] at h1; cases h1
  exact hs.2 b (hb b off e) hlt
 refine ⟨⟨h.1,?_⟩,?_⟩
 ·rcases h.2 with h | ⟨b,off,e,hr,hlt⟩
  ·exact .inl h
  ·refine .inr ⟨b,off,e,fun i hi=>?_,Hi hlt hs.1⟩;have k:=key b off e;obtain ⟨c0,c1,c2⟩:=hr i hi;exact ⟨(Hz (a:=⟨b,_,none⟩) k).trans c0,(Hz (a:=⟨b,_,none⟩) k).trans c1,(Hz (a:=⟨b,_,none⟩) k).trans c2⟩
 ·intro b off e;obtain ⟨c,z,h1⟩:=ht b off e;exact ⟨c,z,(key b off e).trans h1⟩
theorem iP.since {base lo:Nat} {W w1:World} {v:Value} {l:List Zp} (h:iP base W v l) (hl:lo≤base) (hs:Since lo W w1):iP base w1 v l:=by
 obtain ⟨xs,h1,h2,h3⟩:=h;refine ⟨xs,ma h1 hl hs,⟨h2.1,fun i hi=>?_⟩,h3⟩;obtain ⟨a,cap,e0,e1,e2,e3⟩:=h2.2 i hi;obtain ⟨g0,g1⟩:=Ci e2 e3 (fun b o e=>by subst e; exact HJ hl (h3 i b o cap _ hi e0)) hs;exact ⟨a,cap,e0,e1,g0,g1⟩
theorem iP.nil (base:Nat) (W:World):iP base W (.slice none 0 0) []:=⟨[],by simpa using Iq _ _ _ _,⟨rfl,fun i hi=>by simp at hi⟩,fun i b o cap n hi=>by simp at hi⟩
theorem iP.slice {base:Nat} {W:World} {v:Value} {l:List Zp} (h:iP base W v l):∃ a cap,v = .slice a l.length cap:=by
 obtain ⟨a,cap,e,_⟩:=h.z.zs;exact ⟨a,cap,e⟩
theorem iP.push {W w1:World} {base:Nat} {v v':Value} {xs:List Value} {l:List Zp} {a:Option Addr} {cap:Nat} {r:List Vl} {x:Int}
  (ho:W.ownsRow base 63 2 v l.length xs) (he:rQ W xs l) (hb:∀ (i:Nat) (b o cap n:Nat),i<l.length→xs[i*2]? = some (.slice (some ⟨b,o,none⟩) n cap)→base≤b) (hs:aY W a r) (ht:fQ W a) (ha:∀ b o,a=some ⟨b,o,none⟩→base≤b)
  (ho':w1.ownsRow base 63 2 v' (l.length+1) (xs ++ [.slice a r.length cap,.int .i64 x])) (hg:W.grownBy w1 v.ownBlock):iP base w1 v' (l ++ [(r,x)]):=by
 have lx:=he.1;refine ⟨_,by simpa using ho',⟨by simp [he.1]; omega,?_⟩,?_⟩
 ·intro i hi;by_cases hi':i<l.length
  ·obtain ⟨a',c',h1,h2,h3,h4⟩:=he.2 i hi';have g:=iq h3 h4 ho hg;refine ⟨a',c',?_,?_,?_,g.2⟩
   ·rw [Ia (by omega),h1,H7 hi']
   ·rw [Ia (by omega),h2,H7 hi']
   ·rw [H7 hi']; exact g.1
  ·have:i=l.length:=by simp at hi; omega
   subst this;have g:=iq hs ht ho hg;refine ⟨a,cap,?_,?_,?_,g.2⟩
   ·rw [H9 (by omega)]; simp [lx]
   ·rw [H9 (by omega)]; simp [lx]
   ·simpa using g.1
 ·intro i b o c n hi h;by_cases hi':i<l.length
  ·rw [Ia (by omega)] at h;exact hb i b o c n hi' h
  ·have:i=l.length:=by simp at hi; omega
   subst this;rw [H9 (by omega)] at h;simp [lx] at h;exact ha b o h.1
theorem iP.lt {base:Nat} {W:World} {v:Value} {l:List Zp} (h:iP base W v l) {g:Nat} (hg:v.ownBlock=some g):base≤g∧g<W.heap.size:=by
 obtain ⟨xs,h1,_⟩:=h;exact h1.lt g hg
theorem bM {P:Program} {w:World} {o:Oper} {a:Act} {K:Act→World→Prop} {Q:Exit→Act→World→Prop} (d:Option Tmp) (hd:o.dst=d) (s x:Operand) (t:TypeId)
  (ho:o.op = .call { callee:=.builtin .append,args:=#[s,x],argTypes:=#[t,t] })
  (base:Nat) (e:TypeId) (i:TypeInfo) (z:Value) (size bytes:Nat) (ht:P.underlying t=some (.slice e)) (hi:P.info? e=some i) (hz:i.zero=some z)
  (hsize:i.size=size) (hby:i.bytes=bytes) (hzs:z.cells.size=size) (hsz:0<size)
  (v:Value) (n:Nat) (xs:List Value) (hs:a.eval s=v) (hown:w.ownsRow base e size v n xs)
  (ad:Addr) (m c:Nat) (news:List Value) (hx:a.eval x = .slice (some ad) m c) (hl:news.length=m*size) (hnews:∀ j u,news[j]? = some u→w.cell? (ad.add j)=some u) (h1:∀ u ∈ news,u.oneCell'=true)
  (h63:n+m≤maxLen) (hbytes:(n+m)*bytes≤140737488355328) (hbase:base≤w.heap.size)
  (h:∀ v' w',w'.ownsRow base e size v' (n+m) (xs ++ news)→w.grownBy w' v.ownBlock→(v'.ownBlock=v.ownBlock∨v'.ownBlock=some w.heap.size)→K (a.put d v') w'):o.wp P a w K Q:=by
 subst hd;obtain ⟨v',w',hr,h2,h3,_,h5⟩:=run_append_own_at (P:=P) w base t o.type e i z size bytes ht hi hz hsize hby hzs hsz v n xs hown ad m c news hl hnews h1 h63 hbytes hbase;unfold Oper.wp execOp;simp only [ho,resolve,invoke,builtin,Sem.run_bind,Sem.run_pure,Result.andThen_ok,List.map_toArray,I0,List.map_nil,hs,hx,hr];exact h v' w' h2 h3 h5
theorem vS (x:Ex) {l r:List Zp} {k:Nat} (h:k<l.length):ek x (l.take (k+1)) r=ek x (l.take k) r ++ dh x l[k] r:=by
 unfold ek;rw [Ht h,List.flatMap_append];simp
theorem qQ (x:Ex) (p:Zp) {r:List Zp} {k:Nat} (h:k<r.length):dh x p (r.take (k+1))=dh x p (r.take k) ++ (if bW x (p.1 ++ r[k].1)=true then [(p.1 ++ r[k].1,p.2*r[k].2)] else []):=by
 unfold dh;rw [Ht h,List.filter_append,IM,List.filter_cons]
 congr 1
 split <;> rfl
theorem mD (x:Ex) (p:Zp) (r:List Zp):(dh x p r).length≤r.length:=by
 unfold dh;rw [Ik];exact IL _ _
theorem lV (x:Ex):∀ (l r:List Zp),(ek x l r).length≤l.length*r.length
 | [],_=>by simp [ek]
 | p :: t,r=>by
  have h1:=lV x t r
  have h2:=mD x p r
  unfold ek at h1 ⊢
  rw [List.flatMap_cons,Ii,Je,Nat.add_mul,Nat.one_mul]
  omega
theorem cell_of {W:World} {b:Nat} {xs:Array Value} {T:TypeId} {i:Nat} {v:Value} (h:W.heap[b]? = some (.cells xs T (0,0))) (hv:xs[i]? = some v):W.cell? ⟨b,i,none⟩=some v:=by
 simp [World.cell?,h,hv]
theorem an (W:World) (xs:Array Value) (T:TypeId):(W.alloc (.cells xs T)).heap[W.heap.size]? = some (.cells xs T (0,0)):=by
 show (W.heap.push (.cells xs T (0,0)))[W.heap.size]? = _;exact Array.getElem?_push_size
theorem ae {W:World} {b:Nat} {o:Obj} (h:W.heap[b]? = some o):b<W.heap.size:=by
 rcases Ic b W.heap.size with h' | h'
 ·exact h'
 ·rw [Iy h'] at h; cases h
abbrev Kp:Type:=List Vl × Zp
def pd (x y:Kp):Prop:=aL x.1 y.1<0∨(aL x.1 y.1=0∧aL x.2.1 y.2.1<0)
instance (x y:Kp):Decidable (pd x y):=by unfold pd; exact inferInstance
theorem pd.trans {x y z:Kp} (h1:pd x y) (h2:pd y z):pd x z:=by
 rcases h1 with h1 | ⟨h1,g1⟩
 ·rcases h2 with h2 | ⟨h2,_⟩
  ·exact .inl (cW h1 (by omega))
  ·exact .inl (cW h1 (by omega))
 ·rcases h2 with h2 | ⟨h2,g2⟩
  ·exact .inl (vj (by omega) h2)
  ·refine .inr ⟨?_,cW g1 (by omega)⟩;have a1:=bY x.1 y.1 z.1 (by omega) (by omega);have n1:=aX x.1 y.1;have n2:=aX y.1 z.1;have n3:=aX x.1 z.1;have a2:=bY z.1 y.1 x.1 (by omega) (by omega);omega
theorem pd.not {x y:Kp} (h1:pd x y) (h2:pd y x):False:=by
 have n1:=aX x.1 y.1;have n2:=aX x.2.1 y.2.1;rcases h1 with h1 | ⟨h1,g1⟩ <;> rcases h2 with h2 | ⟨h2,g2⟩ <;> omega
def insK (x:Kp):List Kp→List Kp
 | []=>[x]
 | y :: r=>if pd x y then x :: y :: r else y :: insK x r
def Ak:List Kp→List Kp
 | []=>[]
 | x :: r=>insK x (Ak r)
theorem lY (x:Kp):∀ l,(insK x l).Perm (x :: l)
 | []=>List.Perm.refl _
 | y :: r=>by
  unfold insK
  split
  ·exact List.Perm.refl _
  ·exact ((lY x r).cons y).trans (List.Perm.swap x y r)
theorem mi:∀ l,(Ak l).Perm l
 | []=>List.Perm.refl _
 | x :: r=>(lY x (Ak r)).trans ((mi r).cons x)
theorem mx (x:Kp):∀ l,l.Pairwise pd→(∀ y ∈ l,pd x y∨pd y x)→(insK x l).Pairwise pd
 | [],_,_=>by simp [insK]
 | y :: r,h,ht=>by
  obtain ⟨h1,h2⟩:=List.pairwise_cons.1 h
  unfold insK
  split
  ·rename_i c
   exact List.pairwise_cons.2 ⟨fun z hz=>by
    rcases List.mem_cons.1 hz with rfl | hz
    ·exact c
    ·exact c.trans (h1 z hz),h⟩
  ·rename_i c
   have c':pd y x:=by rcases ht y (by simp) with h | h; exact absurd h c; exact h
   exact List.pairwise_cons.2 ⟨fun z hz=>by
    rcases List.mem_cons.1 ((lY x r).mem_iff.1 hz) with rfl | hz
    ·exact c'
    ·exact h1 z hz,mx x r h2 fun z hz=>ht z (by simp [hz])⟩
theorem mY:∀ l,l.Pairwise (fun x y=>pd x y∨pd y x)→(Ak l).Pairwise pd
 | [],_=>List.Pairwise.nil
 | x :: r,h=>by
  obtain ⟨h1,h2⟩:=List.pairwise_cons.1 h
  exact mx x _ (mY r h2) fun y hy=>h1 y ((mi r).mem_iff.1 hy)
theorem nd:∀ (l1 l2:List Kp),l1.Perm l2→l1.Pairwise pd→l2.Pairwise pd→l1=l2
 | [],l2,p,_,_=>(List.Perm.nil_eq p)
 | x :: t,[],p,_,_=>by have:=p.length_eq; simp at this
 | x :: t,y :: s,p,h1,h2=>by
  obtain ⟨a1,a2⟩:=List.pairwise_cons.1 h1
  obtain ⟨b1,b2⟩:=List.pairwise_cons.1 h2
  have e:x=y:=by
   by_cases e:x=y
   ·exact e
   ·exfalso;have hx:x ∈ s:=by
     rcases List.mem_cons.1 (p.mem_iff.1 (List.mem_cons_self)) with h | h
     ·exact absurd h e
     ·exact h
    have hy:y ∈ t:=by
     rcases List.mem_cons.1 (p.mem_iff.2 (List.mem_cons_self)) with h | h
     ·exact absurd h.symm e
     ·exact h
    exact pd.not (a1 y hy) (b1 x hx)
  subst e;rw [nd t s (List.Perm.cons_inv p) a2 b2]
def gX (xs:List Ex) (z:List Zp):List Kp:=(z.filter fun p=>decide (0<p.2)).map fun p=>(dU xs p.1,p)
def bc (xs:List Ex) (z:List Zp):List Kp:=Ak (gX xs z)
theorem oD {xs:List Ex} {z:List Zp} (h:gd z):(gX xs z).Pairwise fun x y=>aL x.2.1 y.2.1<0:=by
 unfold gX;rw [List.pairwise_map];exact List.Pairwise.filter _ h
theorem pN (xs:List Ex) (z:List Zp):(gX xs z).length≤z.length:=by
 unfold gX;rw [Ik];exact IL _ _
theorem jb (xs:List Ex) (z:List Zp):(bc xs z).Perm (gX xs z):=mi _
theorem rb {xs:List Ex} {z:List Zp} (h:gd z):(bc xs z).Pairwise pd:=mY _ ((oD h).imp fun {x y} hr=>by
 have n:=aX x.1 y.1
 by_cases c1:aL x.1 y.1<0
 ·exact .inl (.inl c1)
 ·by_cases c2:aL x.1 y.1=0
  ·exact .inl (.inr ⟨c2,hr⟩)
  ·exact .inr (.inl (by omega)))
theorem mh (xs:List Ex) (z:List Zp):(bc xs z).length≤z.length:=by rw [(jb xs z).length_eq]; exact pN xs z
structure Gh (W:World) (b o:Nat) (x:Kp):Prop where
 w:W.cell? ⟨b,o+2,none⟩=some (.int .i64 x.2.2)
 r:∃ ra rc,W.cell? ⟨b,o+1,none⟩=some (.slice ra x.2.1.length rc)∧aY W ra x.2.1
 k:∃ ka kc,W.cell? ⟨b,o,none⟩=some (.slice ka x.1.length kc)∧aY W ka x.1
def pr (W:World) (a:Option Addr) (l:List Kp):Prop:=l = []∨∃ b off,a=some ⟨b,off,none⟩∧b<W.heap.size∧∀ i (hi:i<l.length),Gh W b (off+i*3) l[i]
theorem Gh.next {W w1:World} {b o:Nat} {x:Kp} (h:Gh W b o x) (hlt:b<W.heap.size) (hb:Below W.heap.size W w1):Gh w1 b o x:=by
 obtain ⟨h1,⟨ra,rc,h2,h3⟩,ka,kc,h4,h5⟩:=h;exact ⟨(hb.cell (p:=⟨b,_,none⟩) hlt).trans h1,⟨ra,rc,(hb.cell (p:=⟨b,_,none⟩) hlt).trans h2,h3.next hb⟩,ka,kc,(hb.cell (p:=⟨b,_,none⟩) hlt).trans h4,h5.next hb⟩
theorem pr.next {W w1:World} {a:Option Addr} {l:List Kp} (h:pr W a l) (hb:Below W.heap.size W w1):pr w1 a l:=by
 rcases h with h | ⟨b,off,e,hlt,hr⟩
 ·exact .inl h
 ·exact .inr ⟨b,off,e,Hi hlt hb.size,fun i hi=>(hr i hi).next hlt hb⟩
theorem pr.elem {W:World} {a:Option Addr} {l:List Kp} (h:pr W a l) {k:Nat} (hk:k<l.length):∃ b off,a=some ⟨b,off,none⟩∧b<W.heap.size∧Gh W b (off+k*3) l[k]:=by
 rcases h with h | ⟨b,off,e,hlt,hr⟩
 ·subst h; simp at hk
 ·exact ⟨b,off,e,hlt,hr k hk⟩
structure Kr where
 ka:Option Addr
 kc:Nat
 keys:List Vl
 ra:Option Addr
 rc:Nat
 row:List Vl
 w:Int
def Gn (g:Nat) (a:Option Addr) (l:List Vl):Prop:=l = []∨∀ b off,a=some ⟨b,off,none⟩→b≠g
abbrev Kg (w:World) (g:Nat):Type:={ x:Kr // (aY w x.ka x.keys∧Gn g x.ka x.keys)∧aY w x.ra x.row∧Gn g x.ra x.row }
instance (w:World) (g:Nat):Inhabited (Kg w g):=⟨⟨⟨none,0,[],none,0,[],0⟩,⟨⟨by simp,.inl rfl⟩,.inl rfl⟩,⟨by simp,.inl rfl⟩,.inl rfl⟩⟩
section
variable (w:World) (g:Nat)
def kn (x:Kg w g):List Value:=[.slice x.1.ka x.1.keys.length x.1.kc,.slice x.1.ra x.1.row.length x.1.rc,.int .i64 x.1.w]
def EP (x y:Kg w g):Int:=aL x.1.keys y.1.keys
def Bf (x y:Kg w g):Prop:=aL x.1.row y.1.row<0
def FA (x:Kg w g):Kp:=(x.1.keys,x.1.row,x.1.w)
theorem wU:gh (EP w g) (Bf w g) where
 neg x y:=by have:=aX x.1.keys y.1.keys; unfold EP; omega
 trans x y z h1 h2:=bY _ _ _ h1 h2
 AJ x y z h1 h2:=cW h1 (by unfold Bf at h2; omega)
end
theorem vV {α:Type} [Inhabited α] (enc:α→List Value) (k:Nat) (w:World) (blk off m:Nat) (dk:Array α) (os:Array Obj) {j:Nat} (hj:j<w.heap.size) (hne:j≠blk):(sortWorldK enc k w blk off m dk os).heap[j]? = w.heap[j]?:=by
 show ((Go.Sort.mapBlock _ _ _).heap ++ os)[j]? = _;rw [Array.getElem?_append_left (by simp [Go.Sort.mapBlock,Go.Sort.ahead]; omega)];simp only [Go.Sort.mapBlock,Go.Sort.ahead,Array.getElem?_modify];rw [if_neg (by omega)]
theorem jU {α:Type} [Inhabited α] {enc:α→List Value} {k:Nat} {w w':World} {blk off:Nat} {dk:Array α} {a:Option Addr} {l:List Vl} (h:aY w a l) (ho:Gn blk a l) (hS:SWK enc k w blk off dk w'):aY w' a l:=by
 have hle:=hS.le;obtain ⟨m,os,rfl⟩:=hS;refine ⟨h.1,?_⟩;rcases ho with ho | ho
 ·exact .inl ho
 rcases h.2 with h | ⟨b,o,e,hr,hlt⟩
 ·exact .inl h
 ·refine .inr ⟨b,o,e,fun i hi=>?_,Hi hlt hle⟩;have k:=vV enc k w blk off m dk os hlt (ho b o e);obtain ⟨c0,c1,c2⟩:=hr i hi;exact ⟨(Hz (a:=⟨b,_,none⟩) k).trans c0,(Hz (a:=⟨b,_,none⟩) k).trans c1,(Hz (a:=⟨b,_,none⟩) k).trans c2⟩
theorem uf {α:Type} [Inhabited α] {enc:α→List Value} {k:Nat} {w0 w w':World} {blk off:Nat} {dk:Array α} (hb:Below w0.heap.size w0 w) (hk:w0.heap.size≤blk) (hS:SWK enc k w blk off dk w'):Below w0.heap.size w0 w':=by
 obtain ⟨m,os,rfl⟩:=hS;exact eO hb hk
theorem mM (ka ra ka' ra':Option Addr) (kc rc kc' rc':Nat) (x x':Int) (l l' r r':List Vl) (w:World) (h:aY w ka l) (h':aY w ka' l') :
  Calls Tryz.prog 118 #[.agg #[.slice ka l.length kc,.slice ra r.length rc,.int .i64 x],.agg #[.slice ka' l'.length kc',.slice ra' r'.length rc',.int .i64 x']] w fun e w'=>e = .returned (.int .i64 (aL l l'))∧∃ q os',w'=Go.Sort.grow (w.drewN q) os':=by
 have b2:Below w.heap.size w ((w.alloc (.cells #[.slice ka l.length kc,.slice ra r.length rc,.int .i64 x] 132)).alloc (.cells #[.slice ka' l'.length kc',.slice ra' r'.length rc',.int .i64 x'] 132)):=((He _ _).alloc (Hd _) _).alloc (by simp) _;go_enter Tryz.func118,Tryz.ntmps118;go_wp2_with fail
 refine (uq _ _ _ _ _ _ _ (h.next b2) (h'.next b2)).mono ?_;rintro e w1 ⟨rfl,hb1,hd1⟩;go_wp2
 go_ret;exact ⟨rfl,kg (chain b2 hb1) hd1⟩
theorem An (w:World) (blk off size:Nat):CmpLays Tryz.prog 118 #[] (kn w blk) 3 (EP w blk) blk off size w :=
 fun m os _ _ x y=>mM _ _ _ _ _ _ _ _ _ _ _ _ _ _ _ (jU x.2.1.1 x.2.1.2 ⟨m,os,rfl⟩) (jU y.2.1.1 y.2.1.2 ⟨m,os,rfl⟩)
end Go.Proofs.YtjebpkhkjkjphaaGreat
namespace Go.Proofs
open Go.Shelf Go.RowKit Go.Lib
shelf_lay_g SlLaysF0.n20 Slsf 20 at Tryz 183 as Tryz.insK
end Go.Proofs
namespace Go.Proofs.YtjebpkhkjkjphaaGreat
open Go.RowKit Go.Lib Go.Shelf Go.Sort
set_option maxRecDepth 100000
set_option maxHeartbeats 16000000
theorem Fq (wS:World) (blk off cap:Nat) (d:Array (Kg wS blk)) (R:RowK (kn wS blk) 3 wS blk off d) (hsz:d.size≤1000000):wH Tryz.prog 3 (kn wS blk) (EP wS blk) 118 #[] blk off cap d wS:=fun a b dk w hs S hab hbd=>by
 have eg:∀ args w,(callFunc 118 args).run Tryz.prog w = .ok (.enter 118 args) w:=enters_of Tryz.func118 (by kernel_rfl) rfl
 have hH:=S.holds R.hblk R.hH hs.symm
 have hC:CmpLays Tryz.prog 118 #[] (kn wS blk) 3 (EP wS blk) blk off dk.size w:=fun m os dj hj x y=>by
  have S2:=S.on R.hblk m dj os hj
  exact mM _ _ _ _ _ _ _ _ _ _ _ _ _ _ _ (jU x.2.1.1 x.2.1.2 S2) (jU y.2.1.1 y.2.1.2 S2)
 refine (AnyQ.insertionSortCmpFunc Tryz.insK 3 Tryz.isAgg132 Tryz.sizeOf132 (kn wS blk) R.hk R.h1 (EP wS blk) 118 #[] blk off cap a b dk w eg hC hH (S.lt R.hblk) hab hbd (by omega)).mono ?_
 rintro e w' ⟨rfl,n,os,rfl⟩
 refine ⟨rfl,S.on R.hblk _ _ _ ?_⟩
 exact (kr (pre:=fun _ _=>True) ⟨(wU wS blk).neg,(wU wS blk).trans,fun _ _ _ _ _=>trivial⟩ a b dk hab hbd (fun _ _ _ _ _=>trivial)).1.1
end Go.Proofs.YtjebpkhkjkjphaaGreat
namespace Go.Proofs.YtjebpkhkjkjphaaGreat
open Go.RowKit Go.Lib Go.Shelf
set_option maxRecDepth 100000
set_option maxHeartbeats 16000000
def dZ (af:List Int) (x:Ex) (w0 wp:World) (a b:Option Addr) (ca cb:Nat) (l r:List Zp) (v:Value) (R rv:Nat):Prop :=
 ∃ (lo:Nat) (wc:World) (hv:Nat) (u:Value),v = .agg #[.slice a l.length ca,.slice b r.length cb,.func (.func 185) #[] #[.pointer (some ⟨rv,0,none⟩),.pointer (some ⟨hv,0,none⟩)]] ∧
  tp wp R rv∧hv<R∧wp.cell? ⟨hv,0,none⟩=some u∧jm af lo u x wc∧wc.heap.size≤R∧Since lo wc wp∧w0.heap.size≤R∧Below w0.heap.size w0 wp
theorem nE.G4 {af:List Int} {x:Ex} {w0 wp:World} {a b:Option Addr} {ca cb:Nat} {l r:List Zp} {v:Value} (h:nE af x w0 wp a b ca cb l r v):∃ R rv,dZ af x w0 wp a b ca cb l r v R rv∧eR wp R rv wp:=by
 obtain ⟨lo,wc,R,rv,hv,u,e,h1,h2,h3,h4,h5,h6,h7,h8,h9⟩:=h.ex;exact ⟨R,rv,⟨lo,wc,hv,u,e,h1,h2,h3,h4,h5,h6,h7,h8⟩,h9⟩
structure qP (af:List Int) (l r:List Zp):Prop where
 ll:l.length≤400
 rl:r.length≤400
 row:∀ p ∈ l,∀ q ∈ r,p.1.length+q.1.length≤8
 fit:∀ p ∈ l,∀ q ∈ r,et af (p.1 ++ q.1)
 mul:∀ p ∈ l,∀ q ∈ r,-1000000000000≤p.2*q.2∧p.2*q.2≤1000000000000
theorem ye (af:List Int) (x:Ex) (w0 wp w:World) (a b:Option Addr) (ca cb:Nat) (l r:List Zp) (v:Value) (R rv:Nat) (hP:dZ af x w0 wp a b ca cb l r v R rv) (hI:eR wp R rv w) (za:bP w0 a l) (zb:bP w0 b r) (hq:qP af l r) :
  Calls Tryz.prog 88 #[v] w fun e w'=>∃ u,e = .returned u∧iP (w.heap.size+1) w' u (ek x l r)∧eR wp R rv w'∧w.heap.size≤w'.heap.size:=by
 obtain ⟨lo,wc,hv,u,rfl,hn,hv0,hc,hC,hcR,hcp,h0,h0p⟩:=hP;obtain ⟨i0,hi,hj0,hj1,hj2⟩:=info_parts Tryz.i5;have hrv:=hI.sz hn;have hrr:=hn.r;have hl:=hq.ll;have hr:=hq.rl;have HQ:Hid (qP af l r):=hq;have h1:=aa w (.cells #[.slice a l.length ca,.slice b r.length cb,.func (.func 185) #[] #[.pointer (some ⟨rv,0,none⟩),.pointer (some ⟨hv,0,none⟩)]] 137);have p1:=an w #[.slice a l.length ca,.slice b r.length cb,.func (.func 185) #[] #[.pointer (some ⟨rv,0,none⟩),.pointer (some ⟨hv,0,none⟩)]] 137
 have I1:eR wp R rv (w.alloc (.cells #[.slice a l.length ca,.slice b r.length cb,.func (.func 185) #[] #[.pointer (some ⟨rv,0,none⟩),.pointer (some ⟨hv,0,none⟩)]] 137)):=hI.eI hn hI.size h1;have z1:(w.alloc (.cells #[.slice a l.length ca,.slice b r.length cb,.func (.func 185) #[] #[.pointer (some ⟨rv,0,none⟩),.pointer (some ⟨hv,0,none⟩)]] 137)).heap.size=w.heap.size+1:=by simp
 clear hq;go_enter Tryz.func88,Tryz.ntmps88;go_wp2_with fail
 go_loopw [3,11] (fun v i wr=>∃ k:Nat,k≤l.length∧i = .int .i64 k∧iP (w.heap.size+1) wr v (ek x (l.take k) r)∧Hid (eR wp R rv wr)∧wr.heap[w.heap.size]? = some (.cells #[.slice a l.length ca,.slice b r.length cb,.func (.func 185) #[] #[.pointer (some ⟨rv,0,none⟩),.pointer (some ⟨hv,0,none⟩)]] 137 (0,0))) (fun _ i _=>l.length - (intOf i).toNat)
 case atStart=>exact ⟨0,Hl _,rfl,iP.nil _ _,I1,p1⟩
 case round =>
  obtain ⟨k,hk,rfl,HO,HI,hp⟩:=hrel;clear h1 p1 I1 z1;by_cases hlt:k<l.length
  ·obtain ⟨wl,hwl⟩:∃ z,z=wr:=⟨_,rfl⟩
   obtain ⟨uo,huo⟩:∃ z,z=u3:=⟨_,rfl⟩
   subst hwl huo;have hpl:=ae hp;obtain ⟨bl,off,rfl,hbl,d1,ar,cr,d0,sr⟩:=za.elem hlt;have hB:Below w0.heap.size w0 wl:=h0p.trans ((HI.out.below hn).mono h0);have c1:=(hB.cell (p:=⟨bl,_,none⟩) hbl).trans d1;have c0:=(hB.cell (p:=⟨bl,_,none⟩) hbl).trans d0;have hbl':bl<wl.heap.size:=Hi hbl hB.size;have hal:=aa wl (.cells #[.slice ar l[k].1.length cr,.int .i64 l[k].2] 63);have pa:=(hal.block w.heap.size hpl).trans hp;have q5:=an wl #[.slice ar l[k].1.length cr,.int .i64 l[k].2] 63
   have x1:(wl.alloc (.cells #[.slice ar l[k].1.length cr,.int .i64 l[k].2] 63)).cell? ⟨w.heap.size,1,none⟩=some (.slice b r.length cb):=cell_of (i:=1) pa rfl;have IA:Hid (eR wp R rv (wl.alloc (.cells #[.slice ar l[k].1.length cr,.int .i64 l[k].2] 63))):=HI.out.eI hn HI.out.size hal;have OA:=HO.since (lo:=0) (Hl _) (Since.of hal);have HS:Hid (aY w0 ar l[k].1):=sr;have nb:∀ g,uo.ownBlock=some g→g≠wl.heap.size:=fun g hg=>by have:=(HO.lt hg).2; omega
   have HT:Hid (ek x (l.take (k+1)) r=ek x (l.take k) r ++ dh x l[k] r):=vS x hlt;have HL:Hid ((ek x (l.take k) r).length≤160000):=by
    show (ek x (l.take k) r).length≤160000;have h1:=lV x (l.take k) r;have h2:(l.take k).length*r.length≤400*400:=Nat.mul_le_mul (by simp; omega) hr;omega
   clear d0 d1 sr;go_wp2_with fail
   go_loopw [3,18] (fun v i ws=>∃ m:Nat,m≤r.length∧i = .int .i64 m∧iP (w.heap.size+1) ws v (ek x (l.take k) r ++ dh x l[k] (r.take m))∧Hid (eR wp R rv ws)∧ws.heap[w.heap.size]? = some (.cells #[.slice (some ⟨bl,off,none⟩) l.length ca,.slice b r.length cb,.func (.func 185) #[] #[.pointer (some ⟨rv,0,none⟩),.pointer (some ⟨hv,0,none⟩)]] 137 (0,0))∧ws.heap[wl.heap.size]? = some (.cells #[.slice ar l[k].1.length cr,.int .i64 l[k].2] 63 (0,0))∧Hid (∀ g,v.ownBlock=some g→g≠wl.heap.size)) (fun _ i _=>r.length - (intOf i).toNat)
   case atStart=>exact ⟨0,Hl _,rfl,by simpa [dh] using OA,IA,pa,q5,nb⟩
   case round =>
    clear IA OA nb x1 pa q5 hal HO HI hp;obtain ⟨m,hm,rfl,HO,HI,hp,hq5,hnb⟩:=hrel;by_cases hmt:m<r.length
    ·obtain ⟨bl2,off2,rfl,hbl2,d1,br,cr2,d0,sr⟩:=zb.elem hmt;have hB:Below w0.heap.size w0 wr:=h0p.trans ((HI.out.below hn).mono h0);have e1:=(hB.cell (p:=⟨bl2,_,none⟩) hbl2).trans d1;have e0:=(hB.cell (p:=⟨bl2,_,none⟩) hbl2).trans d0;have hlw:wl.heap.size<wr.heap.size:=ae hq5;have hbl2':bl2<wr.heap.size:=Hi hbl2 hB.size;have hal:=aa wr (.cells #[.slice br r[m].1.length cr2,.int .i64 r[m].2] 63)
     have z7:(wr.alloc (.cells #[.slice br r[m].1.length cr2,.int .i64 r[m].2] 63)).heap.size=wr.heap.size+1:=by simp
     have pA:=(hal.block w.heap.size (by omega)).trans hp;have q5A:=(hal.block wl.heap.size hlw).trans hq5;have q7A:=an wr #[.slice br r[m].1.length cr2,.int .i64 r[m].2] 63;have x2:(wr.alloc (.cells #[.slice br r[m].1.length cr2,.int .i64 r[m].2] 63)).cell? ⟨w.heap.size,2,none⟩=some (.func (.func 185) #[] #[.pointer (some ⟨rv,0,none⟩),.pointer (some ⟨hv,0,none⟩)]):=cell_of (i:=2) pA rfl;have y0:(wr.alloc (.cells #[.slice br r[m].1.length cr2,.int .i64 r[m].2] 63)).cell? ⟨wl.heap.size,0,none⟩=some (.slice ar l[k].1.length cr):=cell_of (i:=0) q5A rfl
     have con:=Ay af lo x wc wp w0 R rv hv u hn hv0 hc hC hcR hcp h0 h0p ar br cr cr2 l[k].1 r[m].1 _ (HI.out.eI hn HI.out.size hal) HS.out sr (HQ.out.row _ (Hm hlt) _ (Hm hmt)) (HQ.out.fit _ (Hm hlt) _ (Hm hmt));have OA:=HO.since (lo:=0) (Hl _) (Since.of hal);have HM:=HQ.out.mul _ (Hm hlt) _ (Hm hmt);have HR:Hid (aY w0 br r[m].1):=sr
     have HT2:Hid (dh x l[k] (r.take (m+1))=dh x l[k] (r.take m) ++ (if bW x (l[k].1 ++ r[m].1)=true then [(l[k].1 ++ r[m].1,l[k].2*r[m].2)] else [])):=qQ x l[k] hmt;have hrow:=HQ.out.row _ (Hm hlt) _ (Hm hmt);have hnb7:Hid (∀ g,u3.ownBlock=some g→w.heap.size+1≤g∧g<wr.heap.size):=fun g hg=>HO.lt hg
     have hlen:(ek x (l.take k) r ++ dh x l[k] (r.take m)).length≤160400:=by
      have h1:=HL.out;have h2:=mD x l[k] (r.take m);simp only [Ii,Ij] at h2 ⊢;omega
     clear HO d0 d1 sr hp hq5 HI hC c1 c0;by_cases hh:bW x (l[k].1 ++ r[m].1)=true
     ·rw [hh] at con;have HH:Hid (bW x (l[k].1 ++ r[m].1)=true):=hh;clear hh;go_wp2_with fail
      refine con.mono ?_;rintro e w1 ⟨rfl,I1,s1⟩;have HI1:Hid (eR wp R rv w1):=I1;have OB:=OA.since (by omega) s1;have pB:=(s1.2 w.heap.size (by omega) (by omega)).trans pA;have q5B:=(s1.2 wl.heap.size (by omega) (by omega)).trans q5A;have q7B:=(s1.2 wr.heap.size (by omega) (by omega)).trans q7A;have zB:=s1.1;clear con I1 s1 OA pA q5A q7A x2 y0 hal;dsimp only;go_wp2_with fail
      have hCC:∀ W W':World,(W.heap[wl.heap.size]? = some (.cells #[.slice ar l[k].1.length cr,.int .i64 l[k].2] 63 (0,0))∧W.heap[wr.heap.size]? = some (.cells #[.slice br r[m].1.length cr2,.int .i64 r[m].2] 63 (0,0)))→Below W.heap.size W W'→(W'.heap[wl.heap.size]? = some (.cells #[.slice ar l[k].1.length cr,.int .i64 l[k].2] 63 (0,0))∧W'.heap[wr.heap.size]? = some (.cells #[.slice br r[m].1.length cr2,.int .i64 r[m].2] 63 (0,0))):=fun W W' h hb=>⟨(hb.block _ (ae h.1)).trans h.1,(hb.block _ (ae h.2)).trans h.2⟩
      have hd:Below w1.heap.size w1 w1.drew:=(He _ _).drew;have CW:w1.drew.heap[wl.heap.size]? = some (.cells #[.slice ar l[k].1.length cr,.int .i64 l[k].2] 63 (0,0))∧w1.drew.heap[wr.heap.size]? = some (.cells #[.slice br r[m].1.length cr2,.int .i64 r[m].2] 63 (0,0)):=hCC _ _ ⟨q5B,q7B⟩ hd;have HW:IntKind.i64.wrap (l[k].2*r[m].2)=l[k].2*r[m].2:=IntWalk.i64_in _ ⟨by omega,by omega⟩
      refine aG (fun W=>W.heap[wl.heap.size]? = some (.cells #[.slice ar l[k].1.length cr,.int .i64 l[k].2] 63 (0,0))∧W.heap[wr.heap.size]? = some (.cells #[.slice br r[m].1.length cr2,.int .i64 r[m].2] 63 (0,0))) (by kernel_rfl) ?_;refine ab hCC 29 (i:=0) (v:=u3) (fun n hn=>?_) CW ?_
      ·go_simp
      simp only [Act.put,Hj,Ho,Hp];refine ab hCC 30 (i:=1) (v:=.pointer (some ⟨wl.heap.size,0,none⟩)) (fun n hn=>?_) CW ?_
      ·go_simp
      simp only [Act.put,Hj,Ho,Hp];refine ab hCC 31 (i:=2) (v:=.slice ar l[k].1.length cr) (fun n hn=>?_) CW ?_
      ·have hcell:n.cell? ⟨wl.heap.size,0,none⟩=some (.slice ar l[k].1.length cr):=cell_of (i:=0) hn.1 rfl;go_simp
      simp only [Act.put,Hj,Ho,Hp];refine ab hCC 32 (i:=3) (v:=.pointer (some ⟨wr.heap.size,0,none⟩)) (fun n hn=>?_) CW ?_
      ·go_simp
      simp only [Act.put,Hj,Ho,Hp];refine ab hCC 33 (i:=4) (v:=.slice br r[m].1.length cr2) (fun n hn=>?_) CW ?_
      ·have hcell:n.cell? ⟨wr.heap.size,0,none⟩=some (.slice br r[m].1.length cr2):=cell_of (i:=0) hn.2 rfl;go_simp
      simp only [Act.put,Hj,Ho,Hp];refine ab hCC 36 (i:=7) (v:=.pointer (some ⟨wl.heap.size,1,none⟩)) (fun n hn=>?_) CW ?_
      ·go_simp
      simp only [Act.put,Hj,Ho,Hp];refine ab hCC 37 (i:=8) (v:=.int .i64 l[k].2) (fun n hn=>?_) CW ?_
      ·have hcell:n.cell? ⟨wl.heap.size,1,none⟩=some (.int .i64 l[k].2):=cell_of (i:=1) hn.1 rfl;go_simp
      simp only [Act.put,Hj,Ho,Hp];refine ab hCC 38 (i:=9) (v:=.pointer (some ⟨wr.heap.size,1,none⟩)) (fun n hn=>?_) CW ?_
      ·go_simp
      simp only [Act.put,Hj,Ho,Hp];refine ab hCC 39 (i:=10) (v:=.int .i64 r[m].2) (fun n hn=>?_) CW ?_
      ·have hcell:n.cell? ⟨wr.heap.size,1,none⟩=some (.int .i64 r[m].2):=cell_of (i:=1) hn.2 rfl;go_simp
      simp only [Act.put,Hj,Ho,Hp];refine ab hCC 40 (i:=11) (v:=.int .i64 (l[k].2*r[m].2)) (fun n hn=>?_) CW ?_
      ·go_simp
      simp only [Act.put,Hj,Ho,Hp];refine au (rs:=[5]) (by kernel_rfl) (by simp) ?_;intro w3 hb3 jj hj;obtain rfl:jj=5:=by simpa using hj
      clear hj;refine wpOp_step rfl (fun K hK=>?_);go_simp;have D3:=chain hd hb3;have CW3:=hCC _ _ CW hb3;have B3:Below w0.heap.size w0 w3:=(h0p.trans ((HI1.out.below hn).mono h0)).trans (D3.mono (by have:=HI1.out.size; have:=h0p.size; omega));have hal3:=aa w3 (.cells #[.slice ar l[k].1.length cr,.slice br r[m].1.length cr2] 61);have PC:=hM.new cr cr2 (fP (HS.out.next B3)) (fP (HR.out.next B3)) 61;have D4:=chain D3 hal3;have CW4:=hCC _ _ CW3 hal3;refine hK _ _ ⟨CW4,?_⟩;clear hK K hal3 hb3 CW CW3
      generalize w3.alloc (.cells #[.slice ar l[k].1.length cr,.slice br r[m].1.length cr2] 61)=w4 at *;refine au (rs:=[6]) (by kernel_rfl) (by simp) ?_;intro w5 hb5 jj hj;obtain rfl:jj=6:=by simpa using hj
      clear hj;refine wpOp_step rfl (fun K hK=>?_);go_simp;have D5:=chain D4 hb5;have CW5:=hCC _ _ CW4 hb5;refine (kv _ _ _ _ _ w5 (PC.next hb5) (by omega)).mono ?_;rintro e w6 ⟨v6,rfl,O6,hb6⟩;rw [← dX] at O6;have ge6:∀ b o n c,v6 = .slice (some ⟨b,o,none⟩) n c→w.heap.size+1≤b:=fun b o n c e=>by
       subst e;have:=(O6.lt b rfl).1;have:=D5.size;omega
      obtain ⟨a6,c6,rfl,S6,T6,_⟩:=kJ O6 (by simp);have D6:=chain D5 hb6;have CW6:=hCC _ _ CW5 hb6;refine hK _ _ ⟨CW6,?_⟩;clear hK K PC O6 CW4 CW5;refine ab hCC 41 (i:=12) (v:=.agg #[.slice a6 (l[k].1 ++ r[m].1).length c6,.int .i64 (l[k].2*r[m].2)]) (fun n hn=>?_) CW6 ?_
      ·go_simp
      simp only [Act.put,Hj,Ho,Hp];refine au (rs:=[13]) (by kernel_rfl) (by simp) ?_;intro w7 hb7 jj hj;obtain rfl:jj=13:=by simpa using hj
      clear hj;refine wpOp_step rfl (fun K hK=>?_);go_simp;have D7:=chain D6 hb7;have CW7:=hCC _ _ CW6 hb7;have hal7:=aa w7 (.cells #[.slice a6 (l[k].1.length+r[m].1.length) c6,.int .i64 (l[k].2*r[m].2)] 63);have q8:=an w7 #[.slice a6 (l[k].1.length+r[m].1.length) c6,.int .i64 (l[k].2*r[m].2)] 63;have D8:=chain D7 hal7;have CW8:=hCC _ _ CW7 hal7;have S8:=(S6.next hb7).next hal7;have T8:=(T6.next hb7).next hal7;refine hK _ _ ⟨CW8,?_⟩;clear hK K CW6 CW7 S6 T6
      generalize hw8:w7.alloc (.cells #[.slice a6 (l[k].1.length+r[m].1.length) c6,.int .i64 (l[k].2*r[m].2)] 63)=w8 at *;clear hw8;refine au (rs:=[14]) (by kernel_rfl) (by simp) ?_;intro w9 hb9 jj hj;obtain rfl:jj=14:=by simpa using hj
      clear hj;have D9:=chain D8 hb9;have CW9:=hCC _ _ CW8 hb9;have S9:=S8.next hb9;have T9:=T8.next hb9;have q9:=(hb9.block _ (ae q8)).trans q8;obtain ⟨xs,o9,en9,bb9⟩:=OB.since (lo:=0) (Hl _) (Since.of D9);have zz:=D9.size;refine wpOp_step rfl (fun K hK=>?_);refine Eq.mpr (if_pos (by kernel_rfl)) ?_
      refine bM (some 43) rfl (Operand.tmp 29) (Operand.tmp 42) 37 rfl (w.heap.size+1) 63 i0 _ 2 32 Tryz.underlying37 hi hj0 hj1 hj2 rfl (by decide) u3 _ xs rfl o9 ⟨w7.heap.size,0,none⟩ 1 1 [.slice a6 (l[k].1.length+r[m].1.length) c6,.int .i64 (l[k].2*r[m].2)] rfl rfl ?Ac1 ?Ac2 ?Ac3 ?Ac4 ?Ac5 ?_
      case Ac1 =>
       intro j u hj
       match j,hj with
       | 0,hj=>simp at hj; subst hj; exact cell_of (i:=0) q9 rfl
       | 1,hj=>simp at hj; subst hj; exact cell_of (i:=1) q9 rfl
      case Ac2=>intro u hu; simp at hu; rcases hu with rfl | rfl <;> rfl
      case Ac3=>unfold maxLen; omega
      case Ac4=>omega
      case Ac5=>omega
      intro v' w10 o10 g10 at10;have CW10:w10.heap[wl.heap.size]? = some (.cells #[.slice ar l[k].1.length cr,.int .i64 l[k].2] 63 (0,0))∧w10.heap[wr.heap.size]? = some (.cells #[.slice br r[m].1.length cr2,.int .i64 r[m].2] 63 (0,0)):=⟨(g10.block _ (ae CW9.1) (fun e=>hnb.out _ e.symm rfl)).trans CW9.1,(g10.block _ (ae CW9.2) (fun e=>by have:=(hnb7.out _ e.symm).2; omega)).trans CW9.2⟩
      have p10:=(g10.block w.heap.size (by omega) (fun e=>by have:=(hnb7.out _ e.symm).1; omega)).trans ((D9.block w.heap.size (by omega)).trans pB);have OJ10:iP (w.heap.size+1) w10 v' ((ek x (l.take k) r ++ dh x l[k] (r.take m)) ++ [(l[k].1 ++ r[m].1,l[k].2*r[m].2)]):=iP.push o9 en9 bb9 S9 T9 (fun b o e=>ge6 b o _ _ (by rw [e])) (by simpa using o10) g10;have b10:Below wp.heap.size w9 w10:=(He _ _).grown g10 (by have:=HI1.out.size; omega) (fun q hq=>by have:=(hnb7.out q hq).1; have:=hI.size; omega)
      have I10:eR wp R rv w10:=(HI1.out.eI hn HI1.out.size D9).eI hn (Hd _) b10;have nb10:∀ g,v'.ownBlock=some g→g≠wl.heap.size:=fun g hg=>by
       rcases at10 with e | e
       ·exact hnb.out g (by rw [← e]; exact hg)
       ·rw [hg] at e; have:=It e; omega
      refine hK _ _ ⟨CW10,?_⟩;clear hK K CW9 CW8 S9 T9 S8 T8 o9 en9 bb9 o10 at10 D9 D8 D7 D6 D5 D4 D3 q8 q9 OB;simp only [Act.put,Hj,Ho,Hp];refine ab hCC 3 (i:=15) (v:=v') (fun n hn=>?_) CW10 ?_
      ·go_simp
      simp only [Act.put,Hj,Ho,Hp];refine bd (by kernel_rfl) ?_;intro w11 hb11;have OJ11:=OJ10.since (lo:=0) (Hl _) (Since.of hb11);have I11:Hid (eR wp R rv w11):=I10.eI hn I10.size hb11;have CW11:=hCC _ _ CW10 hb11;have p11:=(hb11.block _ (ae p10)).trans p10;have nb11:Hid (∀ g,v'.ownBlock=some g→g≠wl.heap.size):=nb10;clear I10 OJ10 CW10 p10 hb11 g10 b10 nb10;go_wp2
      go_roundw
      case rel=>exact ⟨m+1,by omega,by go_num,by rw [HT2.out,HH.out,if_pos rfl,← List.append_assoc]; exact OJ11,I11,p11,CW11.1,nb11⟩
      case measure=>simp [intOf]; omega
     ·have hh:bW x (l[k].1 ++ r[m].1)=false:=by simpa using hh
      rw [hh] at con;have HH:Hid (bW x (l[k].1 ++ r[m].1)=false):=hh;clear hh;go_wp2_with fail
      refine con.mono ?_;rintro e w1 ⟨rfl,I1,s1⟩;have HI1:Hid (eR wp R rv w1):=I1;have OB:=OA.since (by omega) s1;have pB:=(s1.2 w.heap.size (by omega) (by omega)).trans pA;have q5B:=(s1.2 wl.heap.size (by omega) (by omega)).trans q5A;clear con I1 s1 OA pA q5A q7A x2 y0 hal;dsimp only;go_wp2
      go_roundw
      case rel=>exact ⟨m+1,by omega,by go_num,by rw [HT2.out,HH.out,if_neg (by decide),Jc]; exact OB,HI1,pB,q5B,hnb⟩
      case measure=>simp [intOf]; omega
    ·have e:m=r.length:=by omega
     subst e;rw [Ib] at HO;have HO':iP (w.heap.size+1) wr u3 (ek x (l.take (k+1)) r):=by rw [HT.out]; exact HO
     go_wp2
     go_roundw
     case rel=>exact ⟨k+1,by omega,by go_num,HO',HI,hp⟩
     case measure=>simp [intOf]; omega
  ·have e:k=l.length:=by omega
   subst e;rw [Ib] at HO;obtain ⟨av,cv,rfl⟩:=HO.slice;go_wp2
   go_ret;exact ⟨_,rfl,HO,HI.out,Jh (ae hp)⟩
theorem Ef {a b:Int} (h1:-1000000≤a) (h2:a≤1000000) (h3:-1000000≤b) (h4:b≤1000000):-1000000000000≤a*b∧a*b≤1000000000000:=by
 have ha:a.natAbs≤1000000:=by omega
 have hb:b.natAbs≤1000000:=by omega
 have:=Nat.mul_le_mul ha hb;rw [← Int.natAbs_mul] at this;omega
theorem dZ.eI {af:List Int} {x:Ex} {w0 wp W:World} {a b:Option Addr} {ca cb:Nat} {l r:List Zp} {v:Value} {R rv:Nat} (h:dZ af x w0 wp a b ca cb l r v R rv) (hI:eR wp R rv wp) (hb:Below wp.heap.size wp W):dZ af x w0 W a b ca cb l r v R rv∧eR W R rv W:=by
 obtain ⟨lo,wc,hv,u,e,hn,h2,h3,h4,h5,h6,h7,h8⟩:=h;have hr:=hn.r;have hrv:=hn.v;have hI':=hI.eI hn (Hd _) hb;have z:=hb.size;exact ⟨⟨lo,wc,hv,u,e,⟨hr,by omega⟩,h2,(hb.cell (p:=⟨hv,0,none⟩) (by show hv<_; omega)).trans h3,h4,h5,h6.trans (Since.of hb),h7,chain h8 hb⟩,⟨rfl,rfl,rfl,Hd _,fun _ _ _ _=>rfl,hI'.var,hI'.AS,hI'.room⟩⟩
theorem dZ.down {af:List Int} {x:Ex} {w w0 wp:World} {a b:Option Addr} {ca cb:Nat} {l r:List Zp} {v:Value} {R rv:Nat} (h:dZ af x w0 wp a b ca cb l r v R rv) (hb:Below w.heap.size w w0):dZ af x w wp a b ca cb l r v R rv:=by
 obtain ⟨lo,wc,hv,u,e,hn,h2,h3,h4,h5,h6,h7,h8⟩:=h;exact ⟨lo,wc,hv,u,e,hn,h2,h3,h4,h5,h6,HJ hb.size h7,chain hb h8⟩
theorem wM {left right:List Int} {x:Ex} {l r:List Zp} (h:mZ left right x l r):qP (left ++ right) l r where
 ll:=gf h.left
 rl:=gf h.right
 row p hp q hq:=by
  have h1:=(h.left.fit p hp).len;have h2:=(h.right.fit q hq).len;have:=h.len;omega
 fit p hp q hq:=uh (h.left.fit p hp) (h.right.fit q hq)
 mul p hp q hq:=by
  have h1:=kB h.left p hp;have h2:=kB h.right q hq;rw [nB] at h1 h2;exact Ef h1.1 h1.2 h2.1 h2.2
theorem Dq {left right:List Int} {x:Ex} {l r:List Zp} (h:mZ left right x l r):(ek x l r).length≤160000∧∀ y ∈ ek x l r,pk y.2=true∧y.1.length≤8:=by
 have hq:=wM h;refine ⟨HJ (lV x l r) (Nat.mul_le_mul hq.ll hq.rl),fun y hy=>?_⟩;unfold ek at hy;obtain ⟨p,hp,hy⟩:=List.mem_flatMap.1 hy;unfold dh at hy;obtain ⟨q,hq',rfl⟩:=List.mem_map.1 hy;have hq'':=(List.mem_filter.1 hq').1;have h1:=hq.row p hp q hq'';exact ⟨(jE _).2 (hq.mul p hp q hq''),by simpa using h1⟩
theorem C7 {left right:List Int} {x:Ex} {l r:List Zp} (what:Nat) (h:mZ left right x l r):(fS what right.length x l r).length≤200000∧∀ y ∈ fS what right.length x l r,pk y.2=true∧y.1.length≤8:=by
 have hj:=Dq h;have hl:=gf h.left;have one:∀ y ∈ l,pk y.2=true∧y.1.length≤8:=fun y hy=>⟨qH (kB h.left y hy),Fj h.left y hy⟩
 unfold fS
 split
 ·exact ⟨by omega,hj.2⟩
 split
 ·refine ⟨HJ (IL _ _) (by omega),fun y hy=>one y (List.mem_filter.1 hy).1⟩
 split
 ·refine ⟨HJ (IL _ _) (by omega),fun y hy=>one y (List.mem_filter.1 hy).1⟩
 ·have ha:(wY x l r).length≤l.length:=IL _ _;refine ⟨?_,fun y hy=>?_⟩
  ·unfold AV EJ;rw [Ii,Ik];omega
  ·rcases List.mem_append.1 hy with hy | hy
   ·exact hj.2 y hy
   ·obtain ⟨p,hp,rfl⟩:=List.mem_map.1 hy;have hp':=(List.mem_filter.1 hp).1;have h1:=(h.left.fit p hp').len;have h2:=h.len;refine ⟨(one p hp').1,?_⟩;simp only [Ii,EI,List.length_replicate];omega
theorem uA (what:Nat) (g:Nat) (cbs:Array Value) (left right:List Int) (x:Ex) (la:Option Addr) (lcap:Nat) (ra:Option Addr) (rcap:Nat) (xa:Option Addr) (xcap:Nat) (a:Option Addr) (ca:Nat) (l:List Zp) (b:Option Addr) (cb:Nat) (r:List Zp) (w:World)
  (hcl:bo w.heap.size w la left) (hcr:bo w.heap.size w ra right) (hx:aO w.heap.size w xa x.ks) (h:bP w a l) (h':bP w b r) (hll:left.length≤100000000000000) (hrl:right.length≤100000000000000)
  (eg:∀ args w,(callFunc g args).run Tryz.prog w = .ok (.enter g args) w)
  (hcall:∀ (W:World) (v:Value) (R rv:Nat),dZ (left ++ right) x w W a b ca cb l r v R rv→eR W R rv W→mZ left right x l r→Calls Tryz.prog g (#[v] ++ cbs) W fun e w'=>∃ ua uc,e = .returned (.slice ua (fS what right.length x l r).length uc)∧bP w' ua (fS what right.length x l r)∧Below w.heap.size w w') :
  Calls Tryz.prog 87 #[.slice la left.length lcap,.slice ra right.length rcap,iY x.k x.v x.c xa x.ks.length xcap,.slice a l.length ca,.slice b r.length cb,.func (.func g) #[] cbs] w fun e w'=>∃ v,e = .returned (.tuple #[v,.int .i64 (fC what left right x l r)])∧fN w.heap.size w' v (ng what left right x l r)∧Below w.heap.size w w':=by
 have h1:=aa w (.cells (ji x xa xcap) 27);have con:=yg left right x la lcap ra rcap xa xcap a ca l b cb r (w.alloc (.cells (ji x xa xcap) 27)) ((hcl.next h1 (Hd _)).up h1.size) ((hcr.next h1 (Hd _)).up h1.size) ((aO.next h1 (Hd _) hx).up h1.size) (h.next h1) (h'.next h1) hll hrl
 have HC:Hid (∀ (W:World) (v:Value) (R rv:Nat),dZ (left ++ right) x w W a b ca cb l r v R rv→eR W R rv W→mZ left right x l r→Calls Tryz.prog g (#[v] ++ cbs) W fun e w'=>∃ ua uc,e = .returned (.slice ua (fS what right.length x l r).length uc)∧bP w' ua (fS what right.length x l r)∧Below w.heap.size w w'):=hcall;clear hcall;generalize hfz:ng what left right x l r=fz;generalize hfe:fC what left right x l r=fe;have HZ:Hid (ng what left right x l r=fz):=hfz;have HF:Hid (fC what left right x l r=fe):=hfe;clear hfz hfe;by_cases ht:ib left right x l r=0
 ·rw [ht] at con;have HT:=(xz left right x l r).1 ht;have H2:Hid (ib left right x l r=0):=ht;clear ht;go_enter Tryz.func87,Tryz.ntmps87;go_wp2_with fail
  generalize w.alloc (.cells (ji x xa xcap) 27)=w1 at *;refine con.mono ?_;rintro e w2 ⟨v2,rfl,hor,hb2⟩;have PO:nE (left ++ right) x w1 w2 a b ca cb l r v2:=by
   rcases hor with ⟨_,h⟩ | ⟨c,_⟩
   ·exact h
   ·exact absurd trivial c
  clear hor;obtain ⟨R,rv,PI,I2⟩:=PO.G4;have PI:=PI.down h1;clear con PO;have hv2:∃ hv,v2 = .agg #[.slice a l.length ca,.slice b r.length cb,.func (.func 185) #[] #[.pointer (some ⟨rv,0,none⟩),.pointer (some ⟨hv,0,none⟩)]]:=by obtain ⟨_,_,hv,_,e,_⟩:=PI; exact ⟨hv,e⟩
  obtain ⟨hv,rfl⟩:=hv2;have hal2:=aa w2 (.cells #[.slice a l.length ca,.slice b r.length cb,.func (.func 185) #[] #[.pointer (some ⟨rv,0,none⟩),.pointer (some ⟨hv,0,none⟩)]] 137);obtain ⟨PI3,I3⟩:=PI.eI I2 hal2;have con:=HC.out _ _ R rv PI3 I3 HT;have hn:=C7 what HT;have H3:Hid (mZ left right x l r):=HT;clear HT PI PI3 I3 I2 hal2;dsimp only;go_wp2_with fail
  generalize w2.alloc (.cells #[.slice a l.length ca,.slice b r.length cb,.func (.func 185) #[] #[.pointer (some ⟨rv,0,none⟩),.pointer (some ⟨hv,0,none⟩)]] 137)=w3 at *;refine con.mono ?_;rintro e w4 ⟨a4,c4,rfl,zs4,hb4⟩;clear con;have con:=eX a4 c4 (fS what right.length x l r) w4 zs4 hn.1 (fun y hy=>(hn.2 y hy).1) (fun y hy=>(hn.2 y hy).2);have e0:fC what left right x l r=bF (fS what right.length x l r):=by unfold fC; rw [H2.out,if_neg (by simp)]
  have e1:cB (fS what right.length x l r)=fz:=by rw [← HZ.out]; unfold ng cB; rw [e0]
  rw [← e0,HF.out,e1] at con;clear e0 e1 zs4 hn;generalize (fS what right.length x l r).length=nl at *;dsimp only;go_wp2_with fail
  refine con.mono ?_;rintro e w5 ⟨v5,rfl,O5,hb5⟩;have O5':=O5.mono hb4.size;obtain ⟨a5,c5,rfl,_⟩:=O5.zs;clear con O5;dsimp only;go_wp2
  exact Hf (v:=.tuple #[.slice a5 fz.length c5,.int .i64 fe]) (by simp [results,Tryz.results87,go_sem]) rfl ⟨_,rfl,O5',chain hb4 hb5⟩
 ·have e0:fe=ib left right x l r:=by rw [← HF.out]; unfold fC; rw [if_pos ht]
  have e1:fz = []:=by rw [← HZ.out]; unfold ng; rw [if_neg (by rw [HF.out,e0]; exact ht)]
  rw [← e0] at con ht;have hne:(fe != 0)=true:=by simpa using ht
  subst e1;clear e0;go_enter Tryz.func87,Tryz.ntmps87;go_wp2_with fail
  generalize w.alloc (.cells (ji x xa xcap) 27)=w1 at *;refine con.mono ?_;rintro e w2 ⟨v2,rfl,hor,hb2⟩;obtain ⟨c,_⟩ | ⟨_,rfl⟩:=hor
  ·exact absurd c ht
  clear con;dsimp only;go_wp2
  exact Hf (v:=.tuple #[.slice none 0 0,.int .i64 fe]) (by simp [results,Tryz.results87,go_sem]) rfl ⟨_,rfl,⟨[],by simpa using Iq _ _ _ _,⟨rfl,fun i hi=>by simp at hi⟩⟩,(chain h1 hb2).alloc (by have:=(chain h1 hb2).size; omega) _⟩
theorem CR (left right:List Int) (x:Ex) (la:Option Addr) (lcap:Nat) (ra:Option Addr) (rcap:Nat) (xa:Option Addr) (xcap:Nat) (a:Option Addr) (ca:Nat) (l:List Zp) (b:Option Addr) (cb:Nat) (r:List Zp) (w:World)
  (hcl:bo w.heap.size w la left) (hcr:bo w.heap.size w ra right) (hx:aO w.heap.size w xa x.ks) (h:bP w a l) (h':bP w b r) (hll:left.length≤100000000000000) (hrl:right.length≤100000000000000) :
  Calls Tryz.prog 54 #[.slice la left.length lcap,.slice ra right.length rcap,iY x.k x.v x.c xa x.ks.length xcap,.slice a l.length ca,.slice b r.length cb] w fun e w'=>∃ v,e = .returned (.tuple #[v,.int .i64 (fC 0 left right x l r)])∧fN w.heap.size w' v (ng 0 left right x l r)∧Below w.heap.size w w':=by
 have h1:=aa w (.cells (ji x xa xcap) 27);have zs1:=h.next h1;have zs1':=h'.next h1;have con:=uA 0 88 #[] left right x la lcap ra rcap xa xcap a ca l b cb r (w.alloc (.cells (ji x xa xcap) 27)) ((hcl.next h1 (Hd _)).up h1.size) ((hcr.next h1 (Hd _)).up h1.size) ((aO.next h1 (Hd _) hx).up h1.size) zs1 zs1' hll hrl (enters_of Tryz.func88 (by kernel_rfl) rfl) (fun W v R rv hP hI hT=>by
  refine (ye (left ++ right) x _ W W a b ca cb l r v R rv hP hI zs1 zs1' (wM hT)).mono ?_;rintro e w' ⟨u,rfl,OJ,I',z'⟩;obtain ⟨_,_,_,_,_,hn,_,_,_,_,_,hR,hB⟩:=hP;obtain ⟨ua,uc,rfl,zu⟩:=OJ.z.zs;exact ⟨ua,uc,rfl,zu,hB.trans ((I'.below hn).mono hR)⟩)
 generalize hfz:ng 0 left right x l r=fz at *;generalize hfe:fC 0 left right x l r=fe at *;clear hfz hfe;go_enter Tryz.func54,Tryz.ntmps54;go_wp2_with fail
 generalize w.alloc (.cells (ji x xa xcap) 27)=w1 at *;refine con.mono ?_;rintro e w2 ⟨v2,rfl,O2,hb2⟩;have O2':=O2.mono h1.size;obtain ⟨a2,c2,rfl,_⟩:=O2.zs;clear con O2;dsimp only;go_wp2
 exact Hf (v:=.tuple #[.slice a2 fz.length c2,.int .i64 fe]) (by simp [results,Tryz.results54,go_sem]) rfl ⟨_,rfl,O2',chain h1 hb2⟩
theorem uJ (ra:Option Addr) (n rc:Nat) (x:Int) (w:World) :
  Calls Tryz.prog 116 #[.agg #[.slice ra n rc,.int .i64 x]] w fun e w'=>e = .returned (.bool (decide (0<x)))∧Below w.heap.size w w':=by
 go_enter Tryz.func116,Tryz.ntmps116;go_wp2
 go_ret;exact ⟨rfl,(He _ _).alloc (Hd _) _⟩
def Co (w0 W:World) (xs:List Value) (l:List Kp):Prop:=xs.length=l.length*3∧∀ i (hi:i<l.length),∃ ka kc ra rc,xs[i*3]? = some (.slice ka l[i].1.length kc)∧xs[i*3+1]? = some (.slice ra l[i].2.1.length rc)∧xs[i*3+2]? = some (.int .i64 l[i].2.2)∧(aY W ka l[i].1∧fQ W ka)∧aY w0 ra l[i].2.1
def l6 (w0:World) (base:Nat) (W:World) (v:Value) (l:List Kp):Prop:=∃ xs,W.ownsRow base 132 3 v l.length xs∧Co w0 W xs l
theorem l6.nil (w0:World) (base:Nat) (W:World):l6 w0 base W (.slice none 0 0) []:=⟨[],by simpa using Iq _ _ _ _,rfl,fun i hi=>by simp at hi⟩
theorem Co.next {w0 W w1:World} {xs:List Value} {l:List Kp} (h:Co w0 W xs l) (hb:Below W.heap.size W w1):Co w0 w1 xs l:=by
 obtain ⟨h2,h3⟩:=h;refine ⟨h2,fun i hi=>?_⟩;obtain ⟨ka,kc,ra,rc,e0,e1,e2,⟨e3,e4⟩,e5⟩:=h3 i hi;exact ⟨ka,kc,ra,rc,e0,e1,e2,⟨e3.next hb,e4.next hb⟩,e5⟩
theorem l6.next {w0 W w1:World} {base:Nat} {v:Value} {l:List Kp} (h:l6 w0 base W v l) (hb:Below W.heap.size W w1):l6 w0 base w1 v l:=by
 obtain ⟨xs,h1,h2⟩:=h;exact ⟨xs,bg h1 hb,h2.next hb⟩
theorem pU {W w1:World} {base n:Nat} {v:Value} {xs:List Value} {a:Option Addr} {r:List Vl} (h:aY W a r) (ht:fQ W a) (ho:W.ownsRow base 132 3 v n xs) (hg:W.grownBy w1 v.ownBlock):aY w1 a r∧fQ w1 a:=by
 have key:∀ b off,a=some ⟨b,off,none⟩→w1.heap[b]? = W.heap[b]?:=by
  intro b off e;obtain ⟨c,z,h1⟩:=ht b off e;have hlt:b<W.heap.size:=ae h1;refine hg.block b hlt ?_;obtain ⟨_,⟨rfl,_⟩ | ⟨g,cap,cur,rfl,_,hh,_⟩⟩:=ho
  ·simp [Value.ownBlock]
  ·simp only [Value.ownBlock];intro e;injection e with e
   subst e;rw [hh] at h1;simp at h1
 refine ⟨⟨h.1,?_⟩,?_⟩
 ·rcases h.2 with h | ⟨b,off,e,hr,hlt⟩
  ·exact .inl h
  ·refine .inr ⟨b,off,e,fun i hi=>?_,Hi hlt hg.size⟩;have k:=key b off e;obtain ⟨c0,c1,c2⟩:=hr i hi;exact ⟨(Hz (a:=⟨b,_,none⟩) k).trans c0,(Hz (a:=⟨b,_,none⟩) k).trans c1,(Hz (a:=⟨b,_,none⟩) k).trans c2⟩
 ·intro b off e;obtain ⟨c,z,h1⟩:=ht b off e;exact ⟨c,z,(key b off e).trans h1⟩
theorem l6.push {w0 W w1:World} {base:Nat} {v v':Value} {xs:List Value} {l:List Kp} {ka ra:Option Addr} {kc rc:Nat} {x:Kp}
  (ho:W.ownsRow base 132 3 v l.length xs) (he:Co w0 W xs l) (hs:aY W ka x.1) (ht:fQ W ka) (hr:aY w0 ra x.2.1)
  (ho':w1.ownsRow base 132 3 v' (l.length+1) (xs ++ [.slice ka x.1.length kc,.slice ra x.2.1.length rc,.int .i64 x.2.2])) (hg:W.grownBy w1 v.ownBlock):l6 w0 base w1 v' (l ++ [x]):=by
 have lx:=he.1;refine ⟨_,by simpa using ho',by simp [he.1]; omega,?_⟩;intro i hi;by_cases hi':i<l.length
 ·obtain ⟨ka',kc',ra',rc',h1,h2,h3,⟨h4,h5⟩,h6⟩:=he.2 i hi';have g:=pU h4 h5 ho hg;rw [H7 hi'];exact ⟨ka',kc',ra',rc',by rw [Ia (by omega),h1],by rw [Ia (by omega),h2],by rw [Ia (by omega),h3],g,h6⟩
 ·have:i=l.length:=by simp at hi; omega
  subst this;have g:=pU hs ht ho hg;refine ⟨ka,kc,ra,rc,?_,?_,?_,?_,?_⟩
  ·rw [H9 (by omega)]; simp [lx]
  ·rw [H9 (by omega)]; simp [lx]
  ·rw [H9 (by omega)]; simp [lx]
  ·simpa using g
  ·simpa using hr
theorem vA {xs:List Ex} {m:List Zp} {k:Nat} (h:k<m.length):((m.take (k+1)).map fun p=>(dU xs p.1,p))=((m.take k).map fun p=>(dU xs p.1,p)) ++ [(dU xs m[k].1,m[k])]:=by
 rw [Ht h,IM]; rfl
theorem Gy:(Tryz.prog.info? 132).map (fun i=>(i.zero,i.size,i.bytes))=some (some (.agg #[.slice none 0 0,.slice none 0 0,.int .i64 0]),3,56):=by kernel_rfl
end Go.Proofs.YtjebpkhkjkjphaaGreat
