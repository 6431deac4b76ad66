import Derived.Laws.EntriesVeiled
import Derived.Test.YtoefpglknaiaeaaGreatMW5
set_option maxHeartbeats 16000000
set_option maxRecDepth 100000
namespace Go.Proofs.YtoefpglknaiaeaaGreat
open Go.RowKit _root_.Go.Proofs.Tryz
theorem gZ.congr {cols:List Int} {lo:Nat} {u:Value} {f f':List Vl→Vl} {w:World} (h:gZ cols lo u f w) (e:∀ row,dX cols row→f row=f' row):gZ cols lo u f' w:=by
 obtain ⟨g,cb,eu,eg,hd⟩:=h;exact ⟨g,cb,eu,eg,fun row a cap W hf hs hW=>by rw [← e row hf]; exact hd row a cap W hf hs hW⟩
theorem tU {n:Nat} (h:n≤8) (w:World):(Instr.makeSlice 195 n n).run prog w = .ok (.slice (some (ah w 0)) n n) (w.alloc (.cells (Array.replicate n Value.nilFunc) 191)):=by
 obtain rfl | rfl | rfl | rfl | rfl | rfl | rfl | rfl | rfl:n=0∨n=1∨n=2∨n=3∨n=4∨n=5∨n=6∨n=7∨n=8:=by omega
 all_goals kernel_rfl
structure xA (cols:List Int) (K kb M:Nat) (W:World) (ks:List Ex) (j:Nat):Prop where
 lt:K<M∧kb<M∧K≠kb∧M≤W.heap.size
 box:W.cell? (ah kb 0)=some (.slice (some (ah K 0)) ks.length ks.length)
 room:∀ i,i<ks.length→(∃ u,W.cell? (ah K i)=some u)∧W.frozen? (ah K i)=false
 done:∀ i (h:i<ks.length),i<j→∃ u,W.cell? (ah K i)=some u∧gZ cols M u (fun row=>bQ row ks[i]) W
theorem xA.next {cols:List Int} {K kb M:Nat} {W w1:World} {ks:List Ex} {j:Nat} (h:xA cols K kb M W ks j) (hb:Below W W w1):xA cols K kb M w1 ks j:=by
 obtain ⟨h1,h2,h3,h4⟩:=h;have z:=hb.size;refine ⟨⟨h1.1,h1.2.1,h1.2.2.1,by omega⟩,(hb.cell (p:=ah kb 0) (by show kb<_; omega)).trans h2,fun i hi=>?_,fun i hi hj=>?_⟩
 ·obtain ⟨⟨u,hu⟩,hf⟩:=h3 i hi;exact ⟨⟨u,(hb.cell (p:=ah K i) (by show K<_; omega)).trans hu⟩,(hb.frozen (p:=ah K i) (by show K<_; omega)).trans hf⟩
 ·obtain ⟨u,hu,ha⟩:=h4 i hi hj;exact ⟨u,(hb.cell (p:=ah K i) (by show K<_; omega)).trans hu,ha.next (aI.of hb)⟩
theorem xA.store {cols:List Int} {K kb M:Nat} {W:World} {ks:List Ex} {j:Nat} (h:xA cols K kb M W ks j) (hj:j<ks.length) {u:Value} (ha:gZ cols M u (fun row=>bQ row ks[j]) W):xA cols K kb M (W.setCell (ah K j) u) ks (j+1):=by
 obtain ⟨h1,h2,h3,h4⟩:=h;have hS:=(aI.refl M W).set K j u ag;have same:(W.setCell (ah K j) u).cell? (ah K j)=some u:=NS _ _ _ (by obtain ⟨⟨u',hu⟩,_⟩:=h3 j hj; rw [hu]; rfl);refine ⟨⟨h1.1,h1.2.1,h1.2.2.1,by simpa using h1.2.2.2⟩,?_,fun i hi=>?_,fun i hi hij=>?_⟩
 ·rw [MN _ _ _ _ (by intro e; injection e with e; omega)]; exact h2
 ·obtain ⟨⟨u',hu⟩,hf⟩:=h3 i hi;refine ⟨?_,by rw [Na]; exact hf⟩;by_cases e:i=j
  ·subst e; exact ⟨_,same⟩
  ·exact ⟨u',by rw [MN _ _ _ _ (by intro e; injection e with _ e; omega)]; exact hu⟩
 ·by_cases e:i=j
  ·subst e; exact ⟨u,same,ha.next hS⟩
  ·obtain ⟨u',hu,ha'⟩:=h4 i hi ag;exact ⟨u',by rw [MN _ _ _ _ (by intro e; injection e with _ e; omega)]; exact hu,ha'.next hS⟩
theorem xA.kids {cols:List Int} {K kb M lo:Nat} {W:World} {ks:List Ex} (h:xA cols K kb M W ks ks.length) (h1:lo≤K) (h2:lo≤kb):mj cols lo W kb ks:=by
 obtain ⟨l1,l2,_,l4⟩:=h;refine ⟨K,h2,by omega,h1,by omega,l2,fun i hi=>?_⟩;obtain ⟨u,hu,ha⟩:=l4 i hi hi;exact ⟨u,hu,ha.down ag⟩
theorem xA.new {cols:List Int} {w:World} {n:Nat} (ks:List Ex) (hn:n=ks.length) (T T':TypeId) {o:Obj} :
  xA cols (w+1) (w.heap.size+2) (w.heap.size+3) (((w.alloc o).alloc (.cells (Array.replicate n Value.nilFunc) T)).alloc (.cells #[.slice (some (ah (w+1) 0)) n n] T')) ks 0:=by
 subst hn;refine ⟨⟨by omega,by omega,by omega,by simp⟩,?_,fun i hi=>⟨⟨Value.nilFunc,?_⟩,?_⟩,fun i _ h=>absurd h (M9 _)⟩
 ·rw [Nv _ _ _ _ (by simp)]; rfl
 ·rw [World.cell?_alloc_past _ _ _ (by simp),Nv _ _ _ _ (by simp)];simp [hi]
 ·rw [World.frozen?_alloc_past _ _ _ (by simp)];exact NV _ _ _ _ (by simp)
theorem tY.down {lo lo':Nat} {u:Value} {f:Vl→Vl→Vl} {w:World} (h:tY lo u f w) (hl:lo'≤lo):tY lo' u f w:=by
 obtain ⟨g,cb,e,eg,hd⟩:=h;exact ⟨g,cb,e,eg,fun p q W hp hq hW=>hd p q W hp hq (hW.up hl)⟩
theorem fA (row:List Vl) (ks:List Ex) (i:Nat) (hi:i<ks.length):(qF row ks).getD i gX=bQ row ks[i]:=by
 rw [mM];simp [List.getD,hi]
def wh (cols:List Int) (x:Ex):Prop :=
 ∀ (B:Nat) (a:Option Addr) (cap:Nat) (w:World),aU B w a x.ks→B≤w.heap.size →
  Calls prog 205 #[fN x.k x.v x.c a x.ks.length cap] w fun e w'=>∃ u,e = .returned u∧gZ cols w u (fun row=>bQ row x) w'∧Below w w w'
theorem Ir (cols:List Int) (k:Int) (v:Vl) (c:Int) (ks:List Ex) (t:Int) (ht:py cols (.mk k v c ks)=some t) (ih:∀ x ∈ ks,wh cols x):wh cols (.mk k v c ks):=by
 obtain ⟨h1,h18,hl,ts,hts,hn⟩:=kz ht;intro B a cap w hk hB;simp only [Ex.k,Ex.v,Ex.c,Ex.ks] at hk ⊢;have hl3:ks.length≤8:=by have:=sD k; omega
 have HL:=aB hl;have hmk:=tU hl3;have S0:=ki.new w k v c a ks.length cap 27;have HI:=aB ih;clear hl ih;obtain ⟨s0,s1,s2,s3,s4,s5⟩:=S0;simp only [MG] at s1 s2 s3 s4 s5;have S1:ki (w.alloc (.cells #[k,v.1,v.2.1,v.2.2,c,.slice a ks.length cap] 27)) w 0 k v c a ks.length cap:=⟨s0,s1,s2,s3,s4,s5⟩
 have F0:xA cols (w+1) (w.heap.size+2) (w.heap.size+3) (((w.alloc (.cells #[k,v.1,v.2.1,v.2.2,c,.slice a ks.length cap] 27)).alloc (.cells (Array.replicate ks.length Value.nilFunc) 191)).alloc (.cells #[.slice (some (ah (w+1) 0)) ks.length ks.length] 195)) ks 0:=xA.new ks rfl _ _
 have hA:Below w w (((w.alloc (.cells #[k,v.1,v.2.1,v.2.2,c,.slice a ks.length cap] 27)).alloc (.cells (Array.replicate ks.length Value.nilFunc) 191)).alloc (.cells #[.slice (some (ah (w+1) 0)) ks.length ks.length] 195)):=((aN ..).alloc (by simp) _).alloc (by simp; omega) _
 have S3:ki (((w.alloc (.cells #[k,v.1,v.2.1,v.2.2,c,.slice a ks.length cap] 27)).alloc (.cells (Array.replicate ks.length Value.nilFunc) 191)).alloc (.cells #[.slice (some (ah (w+1) 0)) ks.length ks.length] 195)) w 0 k v c a ks.length cap:=(S1.next (aN ..) (by simp)).next (aN ..) (by simp; omega);clear S1;go_enter func205,ntmps205;go_wp2_with fail
 generalize ((w.alloc (.cells #[k,v.1,v.2.1,v.2.2,c,.slice a ks.length cap] 27)).alloc (.cells (Array.replicate ks.length Value.nilFunc) 191)).alloc (.cells #[.slice (some (ah (w+1) 0)) ks.length ks.length] 195)=w3 at *;clear s0 s1 s2 s3 s4 s5 hmk;go_loopw [14] (fun i wr=>∃ j:Nat,j≤ks.length∧i = .int .i64 j∧xA cols (w+1) (w.heap.size+2) (w.heap.size+3) wr ks j∧ki wr w 0 k v c a ks.length cap∧Below w w wr) (fun i _=>ks.length - (intOf i).toNat)
 case atStart=>exact ⟨0,MD _,rfl,F0,S3,hA⟩
 case round =>
  clear F0 S3 hA;obtain ⟨j,hj,rfl,F,S,hb⟩:=hrel;have hz:=hb.size;have hzF:=F.lt.2.2.2;by_cases hlt:j<ks.length
  ·obtain ⟨b,off,ai,ci,rfl,hbl,sx,kx⟩:=(aU.next hb hB hk).elem hlt;obtain ⟨x0,x1,x2,x3,x4,x5⟩:=sx;have hal:=aN wr (.cells #[.int .i64 ks[j].k,.int .i64 ks[j].v.1,.int .i64 ks[j].v.2.1,.string ks[j].v.2.2,.int .i64 ks[j].c,.slice ai ks[j].ks.length ci] 27)
   have hd:Below (wr.alloc (.cells #[.int .i64 ks[j].k,.int .i64 ks[j].v.1,.int .i64 ks[j].v.2.1,.string ks[j].v.2.2,.int .i64 ks[j].c,.slice ai ks[j].ks.length ci] 27)).heap.size (wr.alloc (.cells #[.int .i64 ks[j].k,.int .i64 ks[j].v.1,.int .i64 ks[j].v.2.1,.string ks[j].v.2.2,.int .i64 ks[j].c,.slice ai ks[j].ks.length ci] 27)) (wr.alloc (.cells #[.int .i64 ks[j].k,.int .i64 ks[j].v.1,.int .i64 ks[j].v.2.1,.string ks[j].v.2.2,.int .i64 ks[j].c,.slice ai ks[j].ks.length ci] 27)).drew:=(Mz _ _).drew
   have con:=HI.out ks[j] (MC _) B ai ci (wr.alloc (.cells #[.int .i64 ks[j].k,.int .i64 ks[j].v.1,.int .i64 ks[j].v.2.1,.string ks[j].v.2.2,.int .i64 ks[j].c,.slice ai ks[j].ks.length ci] 27)).drew (aU.next (hal.trans (hd.mono hal.size)) ag kx) (by have:=hal.size; have:=hd.size; omega);have Fk:=F.next hal;have bx:=Fk.box;obtain ⟨⟨uo,ro⟩,fo⟩:=Fk.room j hlt;have Sk:=ki.new wr ks[j].k ks[j].v ks[j].c ai ks[j].ks.length ci 27;obtain ⟨k0,k1,k2,k3,k4,k5⟩:=Sk;simp only [MG] at k1 k2 k3 k4 k5;have hjz:(j:Int)<ks.length:=by omega
   go_wp2_with fail
   clear x0 x1 x2 x3 x4 x5 kx;have hal2:=hal;have zk:(wr.alloc (.cells #[.int .i64 ks[j].k,.int .i64 ks[j].v.1,.int .i64 ks[j].v.2.1,.string ks[j].v.2.2,.int .i64 ks[j].c,.slice ai ks[j].ks.length ci] 27)).heap.size=wr.heap.size+1:=by simp
   generalize wr.alloc _=wk at *;go_region_with (go_at_call 205; refine con.mono ?_; rintro e w1 ⟨u,rfl,hA1,hb1⟩; have F1:=(Fk.next hd).next hb1; have q1:=F1.box; obtain ⟨⟨un,q2⟩,q3⟩:=F1.room j hlt; obtain ⟨ug,ucb,eu⟩:∃ g cb,u = .func (.func g) #[] cb:=(by obtain ⟨g,cb,e,_⟩:=hA1; exact ⟨g,cb,e⟩); subst eu)
   all_goals (
    go_wp2_with fail
    go_roundw
    case rel =>
     refine ⟨j+1,by omega,by go_num,F1.store hlt (hA1.down (by show w.heap.size+3≤wk.drew.heap.size; have:=hd.size; omega)),((S.next hal2 ag).next (hd.trans (hb1.mono hd.size)) ag).Fu _ _ _ ag,?_⟩;exact (chain (chain hb hal2) (hd.trans (hb1.mono hd.size))).setCell (p:=ah (w+1) j) (by show w.heap.size≤w.heap.size+1; omega) _
    case measure=>simp [intOf]; omega)
  ·have e:j=ks.length:=by omega
   subst e;obtain ⟨s0,s1,s2,s3,s4,s5⟩:=S;simp only [MG] at s1 s2 s3 s4 s5;by_cases k1:k=1
   ·subst k1;go_wp2_with fail
    refine (Fh cols v wr).mono ?_;rintro e w1 ⟨u,rfl,hA1,hb1⟩;go_wp2_with fail
    go_ret;exact ⟨_,rfl,(hA1.down hz).congr (fun row _=>by rw [bQ,nA,if_pos rfl]),chain hb hb1⟩
   have n1:(k == 1)=false:=by simpa using k1
   by_cases k2:k=2
   ·subst k2;unfold cV at hn;rw [if_neg (by decide),if_pos rfl] at hn;obtain ⟨q0,q1,_⟩:=ry hn;clear hn;go_wp2_with fail
    refine (CY cols c wr q0 q1).mono ?_;rintro e w1 ⟨u,rfl,hA1,hb1⟩;go_wp2_with fail
    go_ret;exact ⟨_,rfl,(hA1.down hz).congr (fun row _=>by rw [bQ,nA,if_neg (by decide),if_pos rfl]),chain hb hb1⟩
   have n2:(k == 2)=false:=by simpa using k2
   have KF:mj cols w wr (w+2) ks:=F.kids ag ag;by_cases k3:k=3
   ·subst k3;have l1:=HL.out;have HK:Hid (mj cols w wr (w+2) ks):=KF;have H1:Hid (ks.length=1):=l1;clear KF l1;go_wp2_with fail
    go_ret;refine ⟨_,rfl,⟨232,_,rfl,enters_of func232 aG rfl,?_⟩,hb⟩;intro row a cap W hf hs hW;have e:bQ row (.mk 3 v c ks)=kI (bQ row (ks[0]'(by rw [H1.out]; omega))):=by rw [bQ,nA,if_neg (by decide),if_neg (by decide),if_pos rfl,fA row ks 0 (by rw [H1.out]; omega)]
    show Calls _ _ _ _ fun e w'=>e = .returned (dV (bQ row (.mk 3 v c ks)))∧_
    rw [e];exact DP cols w (w+2) ks a row cap W (HK.out.next hW) (by rw [H1.out]; omega) hf hs
   have n3:(k == 3)=false:=by simpa using k3
   by_cases k16:k=16
   ·subst k16;have l1:=HL.out;have HK:Hid (mj cols w wr (w+2) ks):=KF;have H1:Hid (ks.length=1):=l1;clear KF l1;go_wp2_with fail
    go_ret;refine ⟨_,rfl,⟨234,_,rfl,enters_of func234 aG rfl,?_⟩,hb⟩;intro row a cap W hf hs hW;have e:bQ row (.mk 16 v c ks)=oC (some ((bQ row (ks[0]'(by rw [H1.out]; omega))).1 == 1)):=by rw [bQ,nA,if_neg (by decide),if_neg (by decide),if_neg (by decide),if_pos rfl,fA row ks 0 (by rw [H1.out]; omega)]
    show Calls _ _ _ _ fun e w'=>e = .returned (dV (bQ row (.mk 16 v c ks)))∧_
    rw [e];exact EY cols w (w+2) ks a row cap W (HK.out.next hW) (by rw [H1.out]; omega) hf hs
   have n16:(k == 16)=false:=by simpa using k16
   by_cases k17:k=17
   ·subst k17;have l3:ks.length=3:=HL.out;have m0:0<ks.length:=by omega
    have m1:1<ks.length:=by omega
    have m2:2<ks.length:=by omega
    have bx:=F.box;obtain ⟨u0,c0,A0⟩:=F.done 0 m0 m0;obtain ⟨u1,c1,A1⟩:=F.done 1 m1 m1;obtain ⟨u2,c2,A2⟩:=F.done 2 m2 m2;have A0:=A0.down (show w.heap.size≤w.heap.size+3 by omega);have A1:=A1.down (show w.heap.size≤w.heap.size+3 by omega);have A2:=A2.down (show w.heap.size≤w.heap.size+3 by omega);obtain ⟨g0,cb0,rfl⟩:∃ g cb,u0 = .func (.func g) #[] cb:=by obtain ⟨g,cb,e,_⟩:=A0; exact ⟨g,cb,e⟩
    obtain ⟨g1,cb1,rfl⟩:∃ g cb,u1 = .func (.func g) #[] cb:=by obtain ⟨g,cb,e,_⟩:=A1; exact ⟨g,cb,e⟩
    obtain ⟨g2,cb2,rfl⟩:∃ g cb,u2 = .func (.func g) #[] cb:=by obtain ⟨g,cb,e,_⟩:=A2; exact ⟨g,cb,e⟩
    have p0:=ak bx;have p1:=ak c0;have p2:=ak c1;have p3:=ak c2;have z0:(0:Int)<(ks.length:Int):=by omega
    have z1:(1:Int)<(ks.length:Int):=by omega
    have z2:(2:Int)<(ks.length:Int):=by omega
    have H3:=aB l3;clear l3 KF;go_wp2_with fail
    have hB0:Below wr wr wr.drew:=(Mz _ _).drew;refine iI aG ?_;refine aT (some 45) (i:=0) (v:=.slice (some (ah (w+1) 0)) ks.length ks.length) rfl rfl aG aG aG (fun _ _ _ h=>h) (Or.inl ⟨rfl,fun n=>?_⟩) hB0 ?_
    ·go_simp
    simp only [pX];refine aT (some 46) (i:=1) (v:=.pointer (some (ah (w+1) 0))) rfl rfl aG aG aG (fun _ _ _ h=>h) (Or.inl ⟨rfl,fun n=>?_⟩) hB0 ?_
    ·go_simp
    simp only [pX];refine aT (some 47) (i:=2) (v:=.func (.func g0) #[] cb0) rfl rfl aG aG aG (fun _ _ _ h=>h) (Or.inl ⟨rfl,fun n=>?_⟩) hB0 ?_
    ·go_simp
    simp only [pX];refine aT (some 48) (i:=3) (v:=.slice (some (ah (w+1) 0)) ks.length ks.length) rfl rfl aG aG aG (fun _ _ _ h=>h) (Or.inl ⟨rfl,fun n=>?_⟩) hB0 ?_
    ·go_simp
    simp only [pX];refine aT (some 49) (i:=4) (v:=.pointer (some (ah (w+1) 1))) rfl rfl aG aG aG (fun _ _ _ h=>h) (Or.inl ⟨rfl,fun n=>?_⟩) hB0 ?_
    ·go_simp
    simp only [pX];refine aT (some 50) (i:=5) (v:=.func (.func g1) #[] cb1) rfl rfl aG aG aG (fun _ _ _ h=>h) (Or.inl ⟨rfl,fun n=>?_⟩) hB0 ?_
    ·go_simp
    simp only [pX];refine aT (some 51) (i:=6) (v:=.slice (some (ah (w+1) 0)) ks.length ks.length) rfl rfl aG aG aG (fun _ _ _ h=>h) (Or.inl ⟨rfl,fun n=>?_⟩) hB0 ?_
    ·go_simp
    simp only [pX];refine aT (some 52) (i:=7) (v:=.pointer (some (ah (w+1) 2))) rfl rfl aG aG aG (fun _ _ _ h=>h) (Or.inl ⟨rfl,fun n=>?_⟩) hB0 ?_
    ·go_simp
    simp only [pX];refine aT (some 53) (i:=8) (v:=.func (.func g2) #[] cb2) rfl rfl aG aG aG (fun _ _ _ h=>h) (Or.inl ⟨rfl,fun n=>?_⟩) hB0 ?_
    ·go_simp
    simp only [pX];clear p0 p1 p2 p3;refine fG (rs:=[9]) aG (by simp) ?_;intro w5 hb5 i hi;obtain rfl:i=9:=by simpa using hi
    clear hi;have D5:=hB0.trans (hb5.mono hB0.size);refine wpOp_step rfl (fun K hK=>?_);go_simp;refine (DS cols w _ _ _ _ _ _ w5 (by have:=D5.size; omega) (A0.next (aI.of D5)) (A1.next (aI.of D5)) (A2.next (aI.of D5))).mono ?_;rintro e w6 ⟨u,rfl,hA6,hb6⟩;have D6:=D5.trans (hb6.mono D5.size);refine hK _ _ ⟨D6,?_⟩;clear hK K;refine fG (rs:=[10]) aG (by simp) ?_;intro w7 hb7 i hi;obtain rfl:i=10:=by simpa using hi
    clear hi;have D7:=D6.trans (hb7.mono D6.size);refine wpOp_step rfl (fun K hK=>?_);go_simp;refine hK _ _ ⟨D7,?_⟩;clear hK K;refine ml aG ?_;intro w8 hb8;have D8:=D7.trans (hb8.mono D7.size);go_wp2_with fail
    go_ret;refine ⟨_,rfl,(hA6.next (aI.of (chain hb7 hb8))).congr (fun row _=>?_),chain hb D8⟩;rw [bQ,nA,if_neg k1,if_neg k2,if_neg k3,if_neg k16,if_pos (show (17:Int)=17 from rfl),fA row ks 0 m0,fA row ks 1 m1,fA row ks 2 m2]
   have n17:(k == 17)=false:=by simpa using k17
   have l2:ks.length=2:=by rw [HL.out]; unfold dy; rw [if_neg ag,if_neg ag,if_neg k17]
   have H2:=aB l2;have HK:=aB KF;clear l2 KF;go_wp2_with fail
   refine (Gf k ag ag wr).mono ?_;rintro e w1 ⟨u,rfl,hF,hb1⟩;obtain ⟨g0,cb0,rfl⟩:∃ g cb,u = .func (.func g) #[] cb:=by obtain ⟨g,cb,e,_⟩:=hF; exact ⟨g,cb,e⟩
   have hal:=aN w1 (.cells #[.func (.func g0) #[] cb0] 256);have hb1':=chain hb hb1;go_wp2_with fail
   go_ret;refine ⟨_,rfl,⟨238,_,rfl,enters_of func238 aG rfl,?_⟩,chain hb1' hal⟩;intro row a cap W hf hs hW;have m0:0<ks.length:=by rw [H2.out]; omega
   have m1:1<ks.length:=by rw [H2.out]; omega
   have e:bQ row (.mk k v c ks)=gL k (bQ row ks[0]) (bQ row ks[1]):=by rw [bQ,nA,if_neg k1,if_neg k2,if_neg k3,if_neg k16,if_neg k17,fA row ks 0 m0,fA row ks 1 m1]
   show Calls _ _ _ _ fun e w'=>e = .returned (dV (bQ row (.mk k v c ks)))∧_
   rw [e];have zz:=hb1'.size;exact C7 cols w (w+2) w1.heap.size k ks a row cap W _ ((hW.cell (p:=ah w1 0) zz (by simp)).trans (by simp)) (((hF.down ag).next (aI.of hal)).next hW) (((HK.out.next (aI.of hb1)).next (aI.of hal)).next hW) m1 hf hs
    (lH hf _ _ (iM hts 0 m0)).1 (lH hf _ _ (iM hts 1 m1)).1
theorem Ep (cols:List Int):∀ x t,py cols x=some t→wh cols x:=by
 refine Ex.ind fun k v c ks ih t ht=>Ir cols k v c ks t ht fun x hx=>?_
 obtain ⟨_,_,_,ts,hts,_⟩:=kz ht;obtain ⟨i,hi,rfl⟩:=No hx;exact ih _ hx _ (iM hts i hi)
end Go.Proofs.YtoefpglknaiaeaaGreat
