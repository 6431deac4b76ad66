/- Together: IF, IG, IN, IO, IR, IS, JA, JB, RewriteSame. -/
import Derived.Test.YtjebpkhkjkjphaaGreatP15
import Derived.Test.YtjebpkhkjkjphaaGreatP14
import Derived.Test.YtjebpkhkjkjphaaGreatP11
import Derived.Test.YtjebpkhkjkjphaaGreatP12
import Derived.Test.YtjebpkhkjkjphaaGreatP5
import Derived.Test.YtjebpkhkjkjphaaGreatP7
namespace Go.Proofs.YtjebpkhkjkjphaaGreat
open Go.RowKit Go.Lib Go.Shelf
set_option maxRecDepth 100000
set_option maxHeartbeats 16000000
def ql (p:Pl):Pl:=match p.ks with
 | [r]=>if r.k=11 then r else if r.k=10 then .mk p.k p.n p.x p.xs p.gs r.ks else p
 | _=>p
theorem Hu (ts:List (List Int)) (S:Nat→Prop) (p kd:Pl) (q:Pw) (o:Nat) (ca:Option Addr) (cc:Nat) (na:Option Addr) (nc:Nat) (w:World) (hk:p.ks = [kd]) (hc:ag ts (.mk p.k p.n p.x p.xs p.gs kd.ks)=ag ts p∨kd.k≠10) (hp:kU ts S w p q ca na) :
  Calls Tryz.prog 22 #[cU ts p q o ca cc na nc] w fun e w'=>∃ v,e = .returned v∧aY ts (fu S w) w' v (ql p)∧Below w.heap.size w w':=by
 obtain ⟨cl,hcl⟩:∃ cl,(ag ts p).length=cl:=⟨_,rfl⟩
 have HCL:=aw hcl;have HL:Hid (p.ks.length=1):=by rw [hk]; rfl
 have HKS:=aw hk;have HC:=aw hc;obtain ⟨rp,hrp⟩:∃ rp,ql p=rp:=⟨_,rfl⟩
 have HRP:Hid (rp=if kd.k=11 then kd else if kd.k=10 then .mk p.k p.n p.x p.xs p.gs kd.ks else p):=by
  show _=_;rw [← hrp];unfold ql;rw [hk]
 obtain ⟨b,off,q1,o1,ca1,cc1,na1,nc1,rfl,_,hbl,hAt,hB⟩:=hp.kids.elem (i:=0) (by rw [hk]; simp);have ekd:∀ h:0<p.ks.length,p.ks[0]=kd:=fun h=>by simp [hk]
 rw [ekd] at hAt hB;rw [Nv,Ng] at hAt;obtain ⟨cl1,hcl1⟩:∃ cl1,(ag ts kd).length=cl1:=⟨_,rfl⟩
 have HCL1:=aw hcl1;have HB:=aw hB;have HP:=aw hp;rw [hrp];unfold bV at hAt;unfold cU bV;rw [hcl,HL.out];rw [hcl1] at hAt;clear hcl hcl1 hrp hk hc hB ekd hp;have A:Below w.heap.size w ((w.alloc (.cells (aL p q o ca cl cc (some ⟨b,off,none⟩) 1 nc) 50)).alloc (.cells aJ 50)):=(((Md w.heap.size w).alloc (Mc _) (.cells (aL p q o ca cl cc (some ⟨b,off,none⟩) 1 nc) 50)).alloc (by simp only [Mf]; omega) (.cells aJ 50))
 have Z:w.heap.size+2≤((w.alloc (.cells (aL p q o ca cl cc (some ⟨b,off,none⟩) 1 nc) 50)).alloc (.cells aJ 50)).heap.size:=by simp only [Mf]; omega
 have Q0:((w.alloc (.cells (aL p q o ca cl cc (some ⟨b,off,none⟩) 1 nc) 50)).alloc (.cells aJ 50)).heap[w.heap.size]? = some (.cells (aL p q o ca cl cc (some ⟨b,off,none⟩) 1 nc) 50 (0,0)):=by
  rw [aG _ _ (by simp only [Mf]; omega)];exact aB w (aL p q o ca cl cc (some ⟨b,off,none⟩) 1 nc) 50 rfl
 have Q1:((w.alloc (.cells (aL p q o ca cl cc (some ⟨b,off,none⟩) 1 nc) 50)).alloc (.cells aJ 50)).heap[w.heap.size+1]? = some (.cells aJ 50 (0,0)):=by
  exact aB (w.alloc (.cells (aL p q o ca cl cc (some ⟨b,off,none⟩) 1 nc) 50)) aJ 50 (by simp only [Mf])
 go_enter Tryz.func22,Tryz.ntmps22;go_upto_region 1 with fail
 generalize ((w.alloc (.cells (aL p q o ca cl cc (some ⟨b,off,none⟩) 1 nc) 50)).alloc (.cells aJ 50))=w2 at *;have e0:w2.cell? ⟨b,off,none⟩=some (.int .i64 kd.k):=(A.cell (p:=⟨b,_,none⟩) hbl).trans (hAt 0 _ rfl);have e1:w2.cell? ⟨b,off+1,none⟩=some (.int .i64 kd.n):=(A.cell (p:=⟨b,_,none⟩) hbl).trans (hAt 1 _ rfl);have e2:w2.cell? ⟨b,off+2,none⟩=some (.int .i64 kd.x.k):=(A.cell (p:=⟨b,_,none⟩) hbl).trans (hAt 2 _ rfl);have e3:w2.cell? ⟨b,off+3,none⟩=some (.int .i64 kd.x.v.1):=(A.cell (p:=⟨b,_,none⟩) hbl).trans (hAt 3 _ rfl)
 have e4:w2.cell? ⟨b,off+4,none⟩=some (.int .i64 kd.x.v.2.1):=(A.cell (p:=⟨b,_,none⟩) hbl).trans (hAt 4 _ rfl);have e5:w2.cell? ⟨b,off+5,none⟩=some (.string kd.x.v.2.2):=(A.cell (p:=⟨b,_,none⟩) hbl).trans (hAt 5 _ rfl);have e6:w2.cell? ⟨b,off+6,none⟩=some (.int .i64 kd.x.c):=(A.cell (p:=⟨b,_,none⟩) hbl).trans (hAt 6 _ rfl);have e7:w2.cell? ⟨b,off+7,none⟩=some (.slice q1.xa kd.x.ks.length q1.xc):=(A.cell (p:=⟨b,_,none⟩) hbl).trans (hAt 7 _ rfl);have e8:w2.cell? ⟨b,off+8,none⟩=some (.slice q1.sa kd.xs.length q1.sc):=(A.cell (p:=⟨b,_,none⟩) hbl).trans (hAt 8 _ rfl)
 have e9:w2.cell? ⟨b,off+9,none⟩=some (.slice q1.ga kd.gs.length q1.gc):=(A.cell (p:=⟨b,_,none⟩) hbl).trans (hAt 9 _ rfl);have e10:w2.cell? ⟨b,off+10,none⟩=some (.slice q1.ka o1 q1.kc):=(A.cell (p:=⟨b,_,none⟩) hbl).trans (hAt 10 _ rfl);have e11:w2.cell? ⟨b,off+11,none⟩=some (.slice ca1 cl1 cc1):=(A.cell (p:=⟨b,_,none⟩) hbl).trans (hAt 11 _ rfl);have e12:w2.cell? ⟨b,off+12,none⟩=some (.slice na1 kd.ks.length nc1):=(A.cell (p:=⟨b,_,none⟩) hbl).trans (hAt 12 _ rfl);have n12:w2.cell? ⟨w.heap.size,12,none⟩=some (.slice (some ⟨b,off,none⟩) 1 nc):=cell_of (i:=12) Q0 rfl
 have al:=aa w2 (.cells (aL kd q1 o1 ca1 cl1 cc1 na1 kd.ks.length nc1) 50);have QK:=ak w2 (aL kd q1 o1 ca1 cl1 cc1 na1 kd.ks.length nc1) 50;go_upto_region 2 with fail
 clear e0 e1 e2 e3 e4 e5 e6 e7 e8 e9 e10 e11 e12 n12 hAt;have A3:=chain A al;have Q03:=(al.block _ (ae Q0)).trans Q0;have Q13:=(al.block _ (ae Q1)).trans Q1;have lk:=ae QK;clear Q0 Q1 A;generalize w2.alloc (.cells (aL kd q1 o1 ca1 cl1 cc1 na1 kd.ks.length nc1) 50)=w3 at *;clear al;obtain ⟨n0,n1,n2,n3,n4,n5,n6,n7,n8,n9,n10,n11,n12⟩:=aD Q03;obtain ⟨k0,k1,k2,k3,k4,k5,k6,k7,k8,k9,k10,k11,k12⟩:=aD QK;obtain ⟨z0,z1,z2,z3,z4,z5,z6,z7,z8,z9,z10,z11,z12⟩:=aD Q13;obtain ⟨zf0,zf1,zf2,zf3,zf4,zf5,zf6,zf7,zf8,zf9,zf10,zf11,zf12⟩:=cT Q13
 have om:kd.k=11∨kd.k=10∨(kd.k≠11∧kd.k≠10):=by omega
 rcases om with h | h | h
 ·have b11:(kd.k == 11)=true:=by simpa using h
  have ERP:Hid (rp=kd):=by show _=_; rw [HRP.out,if_pos h]
  clear h HRP HC;go_wp2_with fail
  have AP:Below w.heap.size w (dF w3 (w.heap.size+1) kd q1 o1 ca1 cl1 cc1 na1 kd.ks.length nc1):=(bq (g:=w.heap.size+1) A3 (by omega) _ _ _ _ _ _ _ _ _ _ _ _ _)
  have QE:(dF w3 (w.heap.size+1) kd q1 o1 ca1 cl1 cc1 na1 kd.ks.length nc1).heap[w.heap.size+1]? = some (.cells (aL kd q1 o1 ca1 cl1 cc1 na1 kd.ks.length nc1) 50 (0,0)):=(bI (g:=w.heap.size+1) Q13 _ _ _ _ _ _ _ _ _ _ _ _ _)
  clear k0 k1 k2 k3 k4 k5 k6 k7 k8 k9 k10 k11 k12 n0 n1 n2 n3 n4 n5 n6 n7 n8 n9 n10 n11 n12 z0 zf0 z1 zf1 z2 zf2 z3 zf3 z4 zf4 z5 zf5 z6 zf6 z7 zf7 z8 zf8 z9 zf9 z10 zf10 z11 zf11 z12 zf12;unfold dF at AP QE
  generalize (((((((((((((w3.setCell ⟨w.heap.size+1,0,none⟩ (.int .i64 kd.k)).setCell ⟨w.heap.size+1,1,none⟩ (.int .i64 kd.n)).setCell ⟨w.heap.size+1,2,none⟩ (.int .i64 kd.x.k)).setCell ⟨w.heap.size+1,3,none⟩ (.int .i64 kd.x.v.1)).setCell ⟨w.heap.size+1,4,none⟩ (.int .i64 kd.x.v.2.1)).setCell ⟨w.heap.size+1,5,none⟩ (.string kd.x.v.2.2)).setCell ⟨w.heap.size+1,6,none⟩ (.int .i64 kd.x.c)).setCell ⟨w.heap.size+1,7,none⟩ (.slice q1.xa kd.x.ks.length q1.xc)).setCell ⟨w.heap.size+1,8,none⟩ (.slice q1.sa kd.xs.length q1.sc)).setCell ⟨w.heap.size+1,9,none⟩ (.slice q1.ga kd.gs.length q1.gc)).setCell ⟨w.heap.size+1,10,none⟩ (.slice q1.ka o1 q1.kc)).setCell ⟨w.heap.size+1,11,none⟩ (.slice ca1 cl1 cc1)).setCell ⟨w.heap.size+1,12,none⟩ (.slice na1 kd.ks.length nc1))=w5 at *
  have BP:=(HP.out.mono (S':=fu S w) fun b h _=>.inl h).next (ah.of AP);have BK:=(HB.out.mono (S':=fu S w) fun b h _=>.inl h).next (ah.of AP);have FIN:aY ts (fu S w) w5 (.agg (aL kd q1 o1 ca1 cl1 cc1 na1 kd.ks.length nc1)) rp:=by
   rw [ERP.out];exact ⟨q1,o1,ca1,cc1,na1,nc1,by unfold cU bV; rw [HCL1.out],BK⟩
  obtain ⟨r0,r1,r2,r3,r4,r5,r6,r7,r8,r9,r10,r11,r12⟩:=aD QE;exact Me (v:=.agg (aL kd q1 o1 ca1 cl1 cc1 na1 kd.ks.length nc1)) (by simp [results,Tryz.results22,go_sem,r0,r1,r2,r3,r4,r5,r6,r7,r8,r9,r10,r11,r12]) rfl ⟨_,rfl,FIN,AP⟩
 ·have b11:(kd.k == 11)=false:=beq_false_of_ne (by omega)
  have b10:(kd.k == 10)=true:=by simpa using h
  have ERP:Hid (rp = .mk p.k p.n p.x p.xs p.gs kd.ks):=by show _=_; rw [HRP.out,if_neg (by omega),if_pos h]
  have HC2:Hid (ag ts (.mk p.k p.n p.x p.xs p.gs kd.ks)=ag ts p):=HC.out.resolve_right (fun e=>e h);clear h HRP HC;go_wp2_with fail
  have AP:Below w.heap.size w (dF w3 (w.heap.size+1) p q o ca cl cc na1 kd.ks.length nc1):=(bq (g:=w.heap.size+1) A3 (by omega) _ _ _ _ _ _ _ _ _ _ _ _ _)
  have QE:(dF w3 (w.heap.size+1) p q o ca cl cc na1 kd.ks.length nc1).heap[w.heap.size+1]? = some (.cells (aL p q o ca cl cc na1 kd.ks.length nc1) 50 (0,0)):=(bI (g:=w.heap.size+1) Q13 _ _ _ _ _ _ _ _ _ _ _ _ _)
  clear k0 k1 k2 k3 k4 k5 k6 k7 k8 k9 k10 k11 k12 n0 n1 n2 n3 n4 n5 n6 n7 n8 n9 n10 n11 n12 z0 zf0 z1 zf1 z2 zf2 z3 zf3 z4 zf4 z5 zf5 z6 zf6 z7 zf7 z8 zf8 z9 zf9 z10 zf10 z11 zf11 z12 zf12;unfold dF at AP QE
  generalize (((((((((((((w3.setCell ⟨w.heap.size+1,0,none⟩ (.int .i64 p.k)).setCell ⟨w.heap.size+1,1,none⟩ (.int .i64 p.n)).setCell ⟨w.heap.size+1,2,none⟩ (.int .i64 p.x.k)).setCell ⟨w.heap.size+1,3,none⟩ (.int .i64 p.x.v.1)).setCell ⟨w.heap.size+1,4,none⟩ (.int .i64 p.x.v.2.1)).setCell ⟨w.heap.size+1,5,none⟩ (.string p.x.v.2.2)).setCell ⟨w.heap.size+1,6,none⟩ (.int .i64 p.x.c)).setCell ⟨w.heap.size+1,7,none⟩ (.slice q.xa p.x.ks.length q.xc)).setCell ⟨w.heap.size+1,8,none⟩ (.slice q.sa p.xs.length q.sc)).setCell ⟨w.heap.size+1,9,none⟩ (.slice q.ga p.gs.length q.gc)).setCell ⟨w.heap.size+1,10,none⟩ (.slice q.ka o q.kc)).setCell ⟨w.heap.size+1,11,none⟩ (.slice ca cl cc)).setCell ⟨w.heap.size+1,12,none⟩ (.slice na1 kd.ks.length nc1))=w5 at *
  have BP:=(HP.out.mono (S':=fu S w) fun b h _=>.inl h).next (ah.of AP);have BK:=(HB.out.mono (S':=fu S w) fun b h _=>.inl h).next (ah.of AP);have FIN:aY ts (fu S w) w5 (.agg (aL p q o ca cl cc na1 kd.ks.length nc1)) rp:=by
   rw [ERP.out];refine ⟨q,o,ca,cc,na1,nc1,?_,⟨BP.x,BP.xs,BP.gs,by rw [HC2.out]; exact BP.af,BK.kids⟩⟩;unfold cU bV;rw [HC2.out,HCL.out];rfl
  obtain ⟨r0,r1,r2,r3,r4,r5,r6,r7,r8,r9,r10,r11,r12⟩:=aD QE;exact Me (v:=.agg (aL p q o ca cl cc na1 kd.ks.length nc1)) (by simp [results,Tryz.results22,go_sem,r0,r1,r2,r3,r4,r5,r6,r7,r8,r9,r10,r11,r12]) rfl ⟨_,rfl,FIN,AP⟩
 ·have b11:(kd.k == 11)=false:=by simpa using h.1
  have b10:(kd.k == 10)=false:=by simpa using h.2
  have ERP:Hid (rp=p):=by show _=_; rw [HRP.out,if_neg h.1,if_neg h.2]
  clear h HRP HC;go_wp2_with fail
  have AP:Below w.heap.size w (dF w3 (w.heap.size+1) p q o ca cl cc (some ⟨b,off,none⟩) 1 nc):=(bq (g:=w.heap.size+1) A3 (by omega) _ _ _ _ _ _ _ _ _ _ _ _ _)
  have QE:(dF w3 (w.heap.size+1) p q o ca cl cc (some ⟨b,off,none⟩) 1 nc).heap[w.heap.size+1]? = some (.cells (aL p q o ca cl cc (some ⟨b,off,none⟩) 1 nc) 50 (0,0)):=(bI (g:=w.heap.size+1) Q13 _ _ _ _ _ _ _ _ _ _ _ _ _)
  clear k0 k1 k2 k3 k4 k5 k6 k7 k8 k9 k10 k11 k12 n0 n1 n2 n3 n4 n5 n6 n7 n8 n9 n10 n11 n12 z0 zf0 z1 zf1 z2 zf2 z3 zf3 z4 zf4 z5 zf5 z6 zf6 z7 zf7 z8 zf8 z9 zf9 z10 zf10 z11 zf11 z12 zf12;unfold dF at AP QE
  generalize (((((((((((((w3.setCell ⟨w.heap.size+1,0,none⟩ (.int .i64 p.k)).setCell ⟨w.heap.size+1,1,none⟩ (.int .i64 p.n)).setCell ⟨w.heap.size+1,2,none⟩ (.int .i64 p.x.k)).setCell ⟨w.heap.size+1,3,none⟩ (.int .i64 p.x.v.1)).setCell ⟨w.heap.size+1,4,none⟩ (.int .i64 p.x.v.2.1)).setCell ⟨w.heap.size+1,5,none⟩ (.string p.x.v.2.2)).setCell ⟨w.heap.size+1,6,none⟩ (.int .i64 p.x.c)).setCell ⟨w.heap.size+1,7,none⟩ (.slice q.xa p.x.ks.length q.xc)).setCell ⟨w.heap.size+1,8,none⟩ (.slice q.sa p.xs.length q.sc)).setCell ⟨w.heap.size+1,9,none⟩ (.slice q.ga p.gs.length q.gc)).setCell ⟨w.heap.size+1,10,none⟩ (.slice q.ka o q.kc)).setCell ⟨w.heap.size+1,11,none⟩ (.slice ca cl cc)).setCell ⟨w.heap.size+1,12,none⟩ (.slice (some ⟨b,off,none⟩) 1 nc))=w5 at *
  have BP:=(HP.out.mono (S':=fu S w) fun b h _=>.inl h).next (ah.of AP);have BK:=(HB.out.mono (S':=fu S w) fun b h _=>.inl h).next (ah.of AP);have FIN:aY ts (fu S w) w5 (.agg (aL p q o ca cl cc (some ⟨b,off,none⟩) 1 nc)) rp:=by
   rw [ERP.out];exact ⟨q,o,ca,cc,some ⟨b,off,none⟩,nc,by unfold cU bV; rw [HCL.out,HL.out],BP⟩
  obtain ⟨r0,r1,r2,r3,r4,r5,r6,r7,r8,r9,r10,r11,r12⟩:=aD QE;exact Me (v:=.agg (aL p q o ca cl cc (some ⟨b,off,none⟩) 1 nc)) (by simp [results,Tryz.results22,go_sem,r0,r1,r2,r3,r4,r5,r6,r7,r8,r9,r10,r11,r12]) rfl ⟨_,rfl,FIN,AP⟩
theorem pL (ok:List Int→Ex→Bool) (ts:List (List Int)):∀ l,ix ok ts l=l.map (iT ok ts)
 | []=>rfl
 | p :: r=>by rw [ix,pL ok ts r,Na]
theorem yi (ok:List Int→Ex→Bool) {ts:List (List Int)}:∀ p:Pl,fD ts p→ag ts (iT ok ts p)=ag ts p∧fD ts (iT ok ts p) :=
 Pl.ind fun k n y xs gs ks ih hs=>by
  obtain ⟨_,hks,⟨_,rfl,_⟩ | ⟨_,p,q,rfl,_⟩ | ⟨hk,_,p,rfl⟩⟩:=bM hs
  ·rw [iT,ix]
   exact ⟨rfl,hs⟩
  ·obtain ⟨cp,sp⟩:=ih p (by simp) (hks p (by simp))
   obtain ⟨cq,sq⟩:=ih q (by simp) (hks q (by simp))
   rw [iT,ix,ix,ix]
   refine ⟨?_,?_⟩
   ·show ag ts (.mk k n y xs gs [_,_])=_
    rw [cO,cO,cp,cq]
   ·refine gW hs rfl (by simp only [aQ,cp,cq]) fun r hr=>?_
    simp only [Mu,Np,or_false] at hr
    rcases hr with rfl | rfl
    ·exact sp
    ·exact sq
  ·obtain ⟨cp,sp⟩:=ih p (by simp) (hks p (by simp))
   rw [iT,ix,ix]
   generalize iT ok ts p=p' at cp sp ⊢
   unfold nU
   simp only
   by_cases k2:k=2
   ·rw [if_pos k2]
    subst k2
    exact ⟨by rw [eS ok p' y sp,cp,bJ]; rfl,vy ok p' y sp⟩
   rw [if_neg k2]
   have same:ag ts (.mk k n y xs gs [p'])=ag ts (.mk k n y xs gs [p])∧fD ts (.mk k n y xs gs [p']):=by
    refine ⟨by rw [bJ,bJ,cp],gW hs rfl (by simp only [aQ,cp]) fun r hr=>?_⟩
    rw [List.mem_singleton.1 hr]; exact sp
   have one:∀ {k' n':Int} {y':Ex} {xs':List Ex} {gs':List Ag} {ks':List Pl},fD ts (.mk k' n' y' xs' gs' ks')→k'=10∨k'=11→∃ r,ks' = [r]:=fun sp e=>by
    obtain ⟨_,_,⟨e',_⟩ | ⟨e',_⟩ | ⟨_,_,r,er⟩⟩:=bM sp
    ·omega
    ·omega
    ·exact ⟨r,er⟩
   by_cases c1:(k=10∨k=11)∧p'.k=11
   ·rw [if_pos c1]
    refine ⟨?_,sp⟩
    rw [cp,bJ]
    unfold jY
    rw [if_neg (by omega),if_neg (by omega)]
   rw [if_neg c1]
   by_cases c2:(k=10∨k=11)∧p'.k=10
   ·rw [if_pos c2]
    obtain ⟨k',n',y',xs',gs',ks'⟩:=p'
    simp only [Pl.k] at c2
    obtain ⟨c2,rfl⟩:=c2
    obtain ⟨r,rfl⟩:=one sp (by omega)
    have er:ag ts r=ag ts p:=by rw [← cp,bJ]; rfl
    refine ⟨?_,gW hs rfl (by simp only [Pl.ks,aQ,er]) fun t ht=>?_⟩
    ·show ag ts (.mk k n y xs gs [r])=_
     rw [bJ,bJ,er]
    ·rw [List.mem_singleton.1 ht]
     exact (bM sp).2.1 r (by simp)
   ·rw [if_neg c2]
    exact same
mutual
def DQ:Pl→Prop
 | .mk k _ y _ _ ks=>(k=2→fF gn y)∧FY ks
def FY:List Pl→Prop
 | []=>True
 | p :: r=>DQ p∧FY r
end
theorem mO:∀ {l:List Pl},FY l↔∀ p ∈ l,DQ p
 | []=>by simp [FY]
 | p :: r=>by rw [FY,mO (l:=r)]; simp
def JK (ts:List (List Int)) (p:Pl):Prop:=∀ (S:Nat→Prop) (q:Pw) (o:Nat) (ca:Option Addr) (cc:Nat) (na:Option Addr) (nc:Nat) (w:World),fD ts p→DQ p→kU ts S w p q ca na →
 Calls Tryz.prog 13 #[cU ts p q o ca cc na nc] w fun e w'=>∃ v,e = .returned v∧aY ts (fu S w) w' v (iT dw ts p)∧Below w.heap.size w w'
theorem JE {ts:List (List Int)} (p:Pl):iT dw ts p=nU dw ts p.k p.n p.x p.xs p.gs (p.ks.map (iT dw ts)):=by
 obtain ⟨k,n,y,xs,gs,ks⟩:=p;rw [iT,pL];rfl
theorem Iq {ok:List Int→Ex→Bool} {ts:List (List Int)} {k n:Int} {y:Ex} {xs:List Ex} {gs:List Ag} {r:Pl} (h:k=2):nU ok ts k n y xs gs [r]=aT ok ts r y:=by unfold nU; simp only [h,if_true]
theorem GF {ok:List Int→Ex→Bool} {ts:List (List Int)} {k n:Int} {y:Ex} {xs:List Ex} {gs:List Ag} {r:Pl} (h:k=10∨k=11):nU ok ts k n y xs gs [r]=ql (.mk k n y xs gs [r]):=by
 unfold nU ql;simp only [h,true_and];rw [if_neg (by omega)];rfl
theorem Gz {ok:List Int→Ex→Bool} {ts:List (List Int)} {k n:Int} {y:Ex} {xs:List Ex} {gs:List Ag} {l:List Pl} (h2:k≠2) (h10:k≠10) (h11:k≠11):nU ok ts k n y xs gs l = .mk k n y xs gs l:=by
 unfold nU
 split
 ·rw [if_neg h2,if_neg (by omega),if_neg (by omega)]
 ·rfl
theorem Al {ts:List (List Int)} {p:Pl} (h:fD ts p):(p.ks.map (iT dw ts)).map (ag ts)=p.ks.map (ag ts):=by
 rw [Nj];exact MN fun r hr=>(yi dw r (fq h r hr)).1
theorem ub {ts:List (List Int)} {p:Pl} (h:fD ts p) (hk:p.k=2∨p.k=10∨p.k=11):∃ r,p.ks = [r]:=by
 obtain ⟨k,n,x,xs,gs,ks⟩:=p;simp only [Pl.k] at hk;obtain ⟨_,_,⟨e,_⟩ | ⟨e,_⟩ | ⟨_,_,a,e⟩⟩:=bM h
 ·omega
 ·omega
 ·exact ⟨a,e⟩
theorem pW (ts:List (List Int)) (p:Pl) (ih:∀ r ∈ p.ks,JK ts r):JK ts p:=by
 intro S q o ca cc na nc w hsh hfw hp;obtain ⟨cl,hcl⟩:∃ cl,(ag ts p).length=cl:=⟨_,rfl⟩
 have HCL:=aw hcl;obtain ⟨rp,hrp⟩:∃ rp,iT dw ts p=rp:=⟨_,rfl⟩
 have HRP0:Hid (rp=nU dw ts p.k p.n p.x p.xs p.gs (p.ks.map (iT dw ts))):=by show _=_; rw [← hrp]; exact JE p
 rw [hrp];unfold cU bV;rw [hcl];clear hcl hrp;have A:Below w.heap.size w ((w.alloc (.cells (aL p q o ca cl cc na p.ks.length nc) 50)).alloc (.cells aJ 50)):=(((Md w.heap.size w).alloc (Mc _) (.cells (aL p q o ca cl cc na p.ks.length nc) 50)).alloc (by simp only [Mf]; omega) (.cells aJ 50))
 have Z:w.heap.size+2≤((w.alloc (.cells (aL p q o ca cl cc na p.ks.length nc) 50)).alloc (.cells aJ 50)).heap.size:=by simp only [Mf]; omega
 have Q0:((w.alloc (.cells (aL p q o ca cl cc na p.ks.length nc) 50)).alloc (.cells aJ 50)).heap[w.heap.size]? = some (.cells (aL p q o ca cl cc na p.ks.length nc) 50 (0,0)):=by
  rw [aG _ _ (by simp only [Mf]; omega)];exact aB w (aL p q o ca cl cc na p.ks.length nc) 50 rfl
 have Q1:((w.alloc (.cells (aL p q o ca cl cc na p.ks.length nc) 50)).alloc (.cells aJ 50)).heap[w.heap.size+1]? = some (.cells aJ 50 (0,0)):=by
  exact aB (w.alloc (.cells (aL p q o ca cl cc na p.ks.length nc) 50)) aJ 50 (by simp only [Mf])
 have HFW:Hid (∀ r ∈ p.ks,DQ r):=by
  obtain ⟨k,n,y,xs,gs,ks⟩:=p;rw [DQ] at hfw;exact mO.1 hfw.2
 have HFX:Hid (p.k=2→fF gn p.x):=by
  obtain ⟨k,n,y,xs,gs,ks⟩:=p;rw [DQ] at hfw;exact hfw.1
 have HP:=aw hp;have HS:=aw hsh;have hfn:Lh ts (.func (.func 13) #[] #[]) (iT dw ts) p.ks (Old (Old S w) ((w.alloc (.cells (aL p q o ca cl cc na p.ks.length nc) 50)).alloc (.cells aJ 50))) ((w.alloc (.cells (aL p q o ca cl cc na p.ks.length nc) 50)).alloc (.cells aJ 50)) :=
  ⟨13,#[],rfl,enters_of Tryz.func13 (by kernel_rfl) rfl,fun r hr q o ca cc na nc W _ hB=>by
   rw [Nr];exact ih r hr _ q o ca cc na nc W (fq hsh r hr) (HFW.out r hr) hB⟩
 have con:=rT ts (Old S w) (iT dw ts) _ p q o ca cc na nc ((w.alloc (.cells (aL p q o ca cl cc na p.ks.length nc) 50)).alloc (.cells aJ 50)) hfn ((hp.mono fun b h l=>⟨h,l⟩).next (ah.of A)) (lE hsh).1 (jL (Al hsh));unfold cU bV at con;rw [HCL.out] at con;clear hfn hp hsh hfw ih;go_enter Tryz.func13,Tryz.ntmps13;go_upto_region 1 with fail
 generalize ((w.alloc (.cells (aL p q o ca cl cc na p.ks.length nc) 50)).alloc (.cells aJ 50))=w2 at *;obtain ⟨n0,n1,n2,n3,n4,n5,n6,n7,n8,n9,n10,n11,n12⟩:=aD Q0;go_wp2_with fail
 refine con.mono ?_;rintro e w3 ⟨v3,rfl,N3,hb3⟩;clear con n0 n1 n2 n3 n4 n5 n6 n7 n8 n9 n10 n11 n12;have A3:=chain A hb3;have Q03:=(hb3.block _ (ae Q0)).trans Q0;have Q13:=(hb3.block _ (ae Q1)).trans Q1;have z3:=hb3.size;obtain ⟨q2,o2,ca2,cc2,na2,nc2,rfl,B3⟩:=N3;obtain ⟨F,hF⟩:∃ F,Pl.mk p.k p.n p.x p.xs p.gs (p.ks.map (iT dw ts))=F:=⟨_,rfl⟩
 rw [hF] at B3 ⊢;have FK:Hid (F.k=p.k∧F.x=p.x∧F.ks=p.ks.map (iT dw ts)):=by rw [← hF]; exact ⟨rfl,rfl,rfl⟩
 have HF:=aw hF;obtain ⟨cl2,hcl2⟩:∃ cl2,(ag ts F).length=cl2:=⟨_,rfl⟩
 have HCL2:=aw hcl2;have HCF:Hid (ag ts F=ag ts p):=by show _=_; rw [← hF]; exact jL (Al HS.out)
 unfold cU bV;rw [hcl2];clear hF hcl2 Q0 Q1 hb3;obtain ⟨n0,n1,n2,n3,n4,n5,n6,n7,n8,n9,n10,n11,n12⟩:=aD Q03;obtain ⟨nf0,nf1,nf2,nf3,nf4,nf5,nf6,nf7,nf8,nf9,nf10,nf11,nf12⟩:=cT Q03
 have A4:Below w.heap.size w (dF w3 w.heap.size F q2 o2 ca2 cl2 cc2 na2 F.ks.length nc2):=(bq (g:=w.heap.size) A3 (Mc _) _ _ _ _ _ _ _ _ _ _ _ _ _)
 have QN4:(dF w3 w.heap.size F q2 o2 ca2 cl2 cc2 na2 F.ks.length nc2).heap[w.heap.size]? = some (.cells (aL F q2 o2 ca2 cl2 cc2 na2 F.ks.length nc2) 50 (0,0)):=(bI (g:=w.heap.size) Q03 _ _ _ _ _ _ _ _ _ _ _ _ _)
 have Q14:(dF w3 w.heap.size F q2 o2 ca2 cl2 cc2 na2 F.ks.length nc2).heap[w.heap.size+1]? = some (.cells aJ 50 (0,0)):=(ij (g:=w.heap.size) Q13 (by omega) _ _ _ _ _ _ _ _ _ _ _ _ _)
 have B4:kU ts (fun b=>Old S w b∨w2.heap.size≤b) (dF w3 w.heap.size F q2 o2 ca2 cl2 cc2 na2 F.ks.length nc2) F q2 ca2 na2:=B3.next (bL (g:=w.heap.size) (ah.refl _ w3) (cR (Mc _) (by omega)) (.int .i64 F.k) (.int .i64 F.n) (.int .i64 F.x.k) (.int .i64 F.x.v.1) (.int .i64 F.x.v.2.1) (.string F.x.v.2.2) (.int .i64 F.x.c) (.slice q2.xa F.x.ks.length q2.xc) (.slice q2.sa F.xs.length q2.sc) (.slice q2.ga F.gs.length q2.gc) (.slice q2.ka o2 q2.kc) (.slice ca2 cl2 cc2) (.slice na2 F.ks.length nc2));go_upto_region 2 with fail
 clear n0 nf0 n1 nf1 n2 nf2 n3 nf3 n4 nf4 n5 nf5 n6 nf6 n7 nf7 n8 nf8 n9 nf9 n10 nf10 n11 nf11 n12 nf12 B3 A3 Q03 Q13;unfold dF at A4 QN4 Q14 B4
 generalize (((((((((((((w3.setCell ⟨w.heap.size,0,none⟩ (.int .i64 F.k)).setCell ⟨w.heap.size,1,none⟩ (.int .i64 F.n)).setCell ⟨w.heap.size,2,none⟩ (.int .i64 F.x.k)).setCell ⟨w.heap.size,3,none⟩ (.int .i64 F.x.v.1)).setCell ⟨w.heap.size,4,none⟩ (.int .i64 F.x.v.2.1)).setCell ⟨w.heap.size,5,none⟩ (.string F.x.v.2.2)).setCell ⟨w.heap.size,6,none⟩ (.int .i64 F.x.c)).setCell ⟨w.heap.size,7,none⟩ (.slice q2.xa F.x.ks.length q2.xc)).setCell ⟨w.heap.size,8,none⟩ (.slice q2.sa F.xs.length q2.sc)).setCell ⟨w.heap.size,9,none⟩ (.slice q2.ga F.gs.length q2.gc)).setCell ⟨w.heap.size,10,none⟩ (.slice q2.ka o2 q2.kc)).setCell ⟨w.heap.size,11,none⟩ (.slice ca2 cl2 cc2)).setCell ⟨w.heap.size,12,none⟩ (.slice na2 F.ks.length nc2))=w4 at *
 have l4:=ae Q14;have HB4:=aw B4;clear B4;have n0:w4.cell? ⟨w.heap.size,0,none⟩=some (.int .i64 F.k):=cell_of (i:=0) QN4 rfl;have om:F.k=2∨(F.k=10∨F.k=11)∨(F.k≠2∧F.k≠10∧F.k≠11):=by omega
 rcases om with h | h | h
 ·have b2:(F.k == 2)=true:=by simpa using h
  have hp2:p.k=2:=by rw [← FK.out.1]; exact h
  obtain ⟨r0,hr0⟩:=ub HS.out (.inl hp2);have hks:F.ks = [iT dw ts r0]:=by rw [FK.out.2.2,hr0]; rfl
  obtain ⟨kd,hkd⟩:∃ kd,iT dw ts r0=kd:=⟨_,rfl⟩
  rw [hkd] at hks;have HSK:Hid (fD ts kd):=by rw [← hkd]; exact (yi dw r0 (fq HS.out r0 (by rw [hr0]; simp))).2
  have HRP:Hid (aT dw ts kd F.x=rp):=by
   show _=_;rw [HRP0.out,hr0,FK.out.2.1,Na,NJ,hkd,Iq hp2]
  have HWX:Hid (fF gn F.x):=by rw [FK.out.2.1]; exact HFX.out hp2
  have HL:Hid (F.ks.length=1):=by rw [hks]; rfl
  obtain ⟨b,off,q1,o1,ca1,cc1,na1,nc1,rfl,hSb,hbl,hAt,hB⟩:=HB4.out.kids.elem (i:=0) (by rw [hks]; simp);have ekd:∀ h:0<F.ks.length,F.ks[0]=kd:=fun h=>by simp [hks]
  rw [ekd] at hAt hB;rw [Nv,Ng] at hAt;obtain ⟨cl1,hcl1⟩:∃ cl1,(ag ts kd).length=cl1:=⟨_,rfl⟩
  have HCL1:=aw hcl1;have HB:=aw hB;unfold bV at hAt;rw [hcl1] at hAt;rw [HL.out] at QN4 ⊢;clear hcl1 hB ekd hks hkd hr0 h hp2 HFX FK HF HRP0;go_upto_region 4 with fail
  clear n0 b2
  have hCC:∀ W W':World,(W.heap[w.heap.size]? = some (.cells (aL F q2 o2 ca2 cl2 cc2 (some ⟨b,off,none⟩) 1 nc2) 50 (0,0))∧At W b off [.int .i64 kd.k,.int .i64 kd.n,.int .i64 kd.x.k,.int .i64 kd.x.v.1,.int .i64 kd.x.v.2.1,.string kd.x.v.2.2,.int .i64 kd.x.c,.slice q1.xa kd.x.ks.length q1.xc,.slice q1.sa kd.xs.length q1.sc,.slice q1.ga kd.gs.length q1.gc,.slice q1.ka o1 q1.kc,.slice ca1 cl1 cc1,.slice na1 kd.ks.length nc1]∧b<W.heap.size)→Below W.heap.size W W'→(W'.heap[w.heap.size]? = some (.cells (aL F q2 o2 ca2 cl2 cc2 (some ⟨b,off,none⟩) 1 nc2) 50 (0,0))∧At W' b off [.int .i64 kd.k,.int .i64 kd.n,.int .i64 kd.x.k,.int .i64 kd.x.v.1,.int .i64 kd.x.v.2.1,.string kd.x.v.2.2,.int .i64 kd.x.c,.slice q1.xa kd.x.ks.length q1.xc,.slice q1.sa kd.xs.length q1.sc,.slice q1.ga kd.gs.length q1.gc,.slice q1.ka o1 q1.kc,.slice ca1 cl1 cc1,.slice na1 kd.ks.length nc1]∧b<W'.heap.size):=fun W W' h hb=>⟨(hb.block _ (ae h.1)).trans h.1,fun j u hj=>(hb.cell (p:=⟨b,_,none⟩) h.2.2).trans (h.2.1 j u hj),Mh h.2.2 hb.size⟩
  have hdr:Below w4.heap.size w4 w4.drew:=(Md _ _).drew;have CW:=hCC _ _ ⟨QN4,hAt,hbl⟩ hdr;refine i4 (fun W=>W.heap[w.heap.size]? = some (.cells (aL F q2 o2 ca2 cl2 cc2 (some ⟨b,off,none⟩) 1 nc2) 50 (0,0))∧At W b off [.int .i64 kd.k,.int .i64 kd.n,.int .i64 kd.x.k,.int .i64 kd.x.v.1,.int .i64 kd.x.v.2.1,.string kd.x.v.2.2,.int .i64 kd.x.c,.slice q1.xa kd.x.ks.length q1.xc,.slice q1.sa kd.xs.length q1.sc,.slice q1.ga kd.gs.length q1.gc,.slice q1.ka o1 q1.kc,.slice ca1 cl1 cc1,.slice na1 kd.ks.length nc1]∧b<W.heap.size) 8 (by kernel_rfl) ?_
  refine bN hCC (some 10) (i:=0) (v:=.pointer (some ⟨w.heap.size,0,none⟩)) rfl rfl (by kernel_rfl) (by kernel_rfl) (by kernel_rfl) (by kernel_rfl) (by kernel_rfl) rfl (fun _ _ _ h=>h) (Or.inl ⟨rfl,fun n hn=>?_⟩) (fun _=>CW) ?_
  ·go_simp
  simp only [pD,pB,pC];refine bN hCC (some 11) (i:=1) (v:=.pointer (some ⟨w.heap.size,2,none⟩)) rfl rfl (by kernel_rfl) (by kernel_rfl) (by kernel_rfl) (by kernel_rfl) (by kernel_rfl) rfl (fun _ _ _ h=>h) (Or.inl ⟨rfl,fun n hn=>?_⟩) (fun _=>CW) ?_
  ·go_simp
  simp only [pD,pB,pC];refine bN hCC (some 12) (i:=2) (v:=.agg (bC F.x q2.xa q2.xc)) rfl rfl (by kernel_rfl) (by kernel_rfl) (by kernel_rfl) (by kernel_rfl) (by kernel_rfl) rfl (fun _ _ _ h=>h) (Or.inl ⟨rfl,fun n hn=>?_⟩) (fun _=>CW) ?_
  ·have hc0:n.cell? ⟨w.heap.size,2,none⟩=some (.int .i64 F.x.k):=cell_of (i:=2) hn.1 rfl;have hc1:n.cell? ⟨w.heap.size,3,none⟩=some (.int .i64 F.x.v.1):=cell_of (i:=3) hn.1 rfl;have hc2:n.cell? ⟨w.heap.size,4,none⟩=some (.int .i64 F.x.v.2.1):=cell_of (i:=4) hn.1 rfl;have hc3:n.cell? ⟨w.heap.size,5,none⟩=some (.string F.x.v.2.2):=cell_of (i:=5) hn.1 rfl;have hc4:n.cell? ⟨w.heap.size,6,none⟩=some (.int .i64 F.x.c):=cell_of (i:=6) hn.1 rfl;have hc5:n.cell? ⟨w.heap.size,7,none⟩=some (.slice q2.xa F.x.ks.length q2.xc):=cell_of (i:=7) hn.1 rfl;go_simp
  simp only [pD,pB,pC];refine bN hCC (some 13) (i:=3) (v:=.pointer (some ⟨w.heap.size,12,none⟩)) rfl rfl (by kernel_rfl) (by kernel_rfl) (by kernel_rfl) (by kernel_rfl) (by kernel_rfl) rfl (fun _ _ _ h=>h) (Or.inl ⟨rfl,fun n hn=>?_⟩) (fun _=>CW) ?_
  ·go_simp
  simp only [pD,pB,pC];refine bN hCC (some 14) (i:=4) (v:=.slice (some ⟨b,off,none⟩) 1 nc2) rfl rfl (by kernel_rfl) (by kernel_rfl) (by kernel_rfl) (by kernel_rfl) (by kernel_rfl) rfl (fun _ _ _ h=>h) (Or.inl ⟨rfl,fun n hn=>?_⟩) (fun _=>CW) ?_
  ·have hc:n.cell? ⟨w.heap.size,12,none⟩=some (.slice (some ⟨b,off,none⟩) 1 nc2):=cell_of (i:=12) hn.1 rfl;go_simp
  simp only [pD,pB,pC];refine bN hCC (some 15) (i:=5) (v:=.pointer (some ⟨b,off,none⟩)) rfl rfl (by kernel_rfl) (by kernel_rfl) (by kernel_rfl) (by kernel_rfl) (by kernel_rfl) rfl (fun _ _ _ h=>h) (Or.inl ⟨rfl,fun n hn=>?_⟩) (fun _=>CW) ?_
  ·go_simp
  simp only [pD,pB,pC];refine bN hCC (some 16) (i:=6) (v:=.agg (aL kd q1 o1 ca1 cl1 cc1 na1 kd.ks.length nc1)) rfl rfl (by kernel_rfl) (by kernel_rfl) (by kernel_rfl) (by kernel_rfl) (by kernel_rfl) rfl (fun _ _ _ h=>h) (Or.inl ⟨rfl,fun n hn=>?_⟩) (fun _=>CW) ?_
  ·have hc0:n.cell? ⟨b,off,none⟩=some (.int .i64 kd.k):=hn.2.1 0 _ rfl;have hc1:n.cell? ⟨b,off+1,none⟩=some (.int .i64 kd.n):=hn.2.1 1 _ rfl;have hc2:n.cell? ⟨b,off+2,none⟩=some (.int .i64 kd.x.k):=hn.2.1 2 _ rfl;have hc3:n.cell? ⟨b,off+3,none⟩=some (.int .i64 kd.x.v.1):=hn.2.1 3 _ rfl;have hc4:n.cell? ⟨b,off+4,none⟩=some (.int .i64 kd.x.v.2.1):=hn.2.1 4 _ rfl;have hc5:n.cell? ⟨b,off+5,none⟩=some (.string kd.x.v.2.2):=hn.2.1 5 _ rfl;have hc6:n.cell? ⟨b,off+6,none⟩=some (.int .i64 kd.x.c):=hn.2.1 6 _ rfl;have hc7:n.cell? ⟨b,off+7,none⟩=some (.slice q1.xa kd.x.ks.length q1.xc):=hn.2.1 7 _ rfl
   have hc8:n.cell? ⟨b,off+8,none⟩=some (.slice q1.sa kd.xs.length q1.sc):=hn.2.1 8 _ rfl;have hc9:n.cell? ⟨b,off+9,none⟩=some (.slice q1.ga kd.gs.length q1.gc):=hn.2.1 9 _ rfl;have hc10:n.cell? ⟨b,off+10,none⟩=some (.slice q1.ka o1 q1.kc):=hn.2.1 10 _ rfl;have hc11:n.cell? ⟨b,off+11,none⟩=some (.slice ca1 cl1 cc1):=hn.2.1 11 _ rfl;have hc12:n.cell? ⟨b,off+12,none⟩=some (.slice na1 kd.ks.length nc1):=hn.2.1 12 _ rfl;go_simp
  simp only [pD,pB,pC];refine dg (rs:=[7]) (by kernel_rfl) (by simp) ?_;intro w5 hb5 jj hj;obtain rfl:jj=7:=by simpa using hj
  clear hj;have D5:=chain hdr hb5;have A5:=chain A4 D5;have CW5:=hCC _ _ CW hb5;have Q15:=(D5.block _ (ae Q14)).trans Q14;have con:=H4 ts kd (fun b=>Old S w b∨w2.heap.size≤b) F.x q2.xa q2.xc q1 o1 ca1 cc1 na1 nc1 w5 HWX.out HSK.out (HB4.out.x.next (ah.of D5)) (HB.out.next (ah.of D5));unfold cU bV at con;rw [HCL1.out] at con;refine wpOp_step rfl (fun K hK=>?_);go_simp;refine con.mono ?_;rintro e w8 ⟨v8,rfl,N8,hb8⟩;clear con;obtain ⟨q3,o3,ca3,cc3,na3,nc3,rfl,B8⟩:=N8;obtain ⟨H,hH⟩:∃ H,aT dw ts kd F.x=H:=⟨_,rfl⟩
  rw [hH] at B8 ⊢;have HRH:Hid (rp=H):=by show _=_; rw [← HRP.out,hH]
  obtain ⟨cl3,hcl3⟩:∃ cl3,(ag ts H).length=cl3:=⟨_,rfl⟩
  have HCL3:=aw hcl3;unfold cU bV;rw [hcl3];clear hcl3 hH;have CW8:=hCC _ _ CW5 hb8;refine hK _ _ ⟨fun _=>CW8,?_⟩;clear hK K CW5 CW;refine dg (rs:=[8]) (by kernel_rfl) (by simp) ?_;intro w9 hb9 jj hj;obtain rfl:jj=8:=by simpa using hj
  clear hj;have A9:=chain A5 (chain hb8 hb9);have Q19:=((chain hb8 hb9).block _ (ae Q15)).trans Q15;have B9:=B8.next (ah.of hb9);clear CW8 B8;obtain ⟨y0,y1,y2,y3,y4,y5,y6,y7,y8,y9,y10,y11,y12⟩:=aD Q19;obtain ⟨yf0,yf1,yf2,yf3,yf4,yf5,yf6,yf7,yf8,yf9,yf10,yf11,yf12⟩:=cT Q19;have l5:=D5.size;refine wpOp_step rfl (fun K hK=>?_);go_simp
  have AP:Below w.heap.size w (dF w9 (w.heap.size+1) H q3 o3 ca3 cl3 cc3 na3 H.ks.length nc3):=(bq (g:=w.heap.size+1) A9 (by omega) _ _ _ _ _ _ _ _ _ _ _ _ _)
  have KP:ah (fu (fun b=>Old S w b∨w2.heap.size≤b) w5) w9 (dF w9 (w.heap.size+1) H q3 o3 ca3 cl3 cc3 na3 H.ks.length nc3):=(bL (g:=w.heap.size+1) (ah.refl _ w9) (fun h=>by rcases h with h | h; exact cR (by omega) (by omega) h; omega) _ _ _ _ _ _ _ _ _ _ _ _ _)
  have QE:(dF w9 (w.heap.size+1) H q3 o3 ca3 cl3 cc3 na3 H.ks.length nc3).heap[w.heap.size+1]? = some (.cells (aL H q3 o3 ca3 cl3 cc3 na3 H.ks.length nc3) 50 (0,0)):=(bI (g:=w.heap.size+1) Q19 _ _ _ _ _ _ _ _ _ _ _ _ _)
  refine hK _ _ ⟨fun h=>absurd h (by decide),?_⟩;clear hK K y0 yf0 y1 yf1 y2 yf2 y3 yf3 y4 yf4 y5 yf5 y6 yf6 y7 yf7 y8 yf8 y9 yf9 y10 yf10 y11 yf11 y12 yf12;unfold dF at AP KP QE
  generalize (((((((((((((w9.setCell ⟨w.heap.size+1,0,none⟩ (.int .i64 H.k)).setCell ⟨w.heap.size+1,1,none⟩ (.int .i64 H.n)).setCell ⟨w.heap.size+1,2,none⟩ (.int .i64 H.x.k)).setCell ⟨w.heap.size+1,3,none⟩ (.int .i64 H.x.v.1)).setCell ⟨w.heap.size+1,4,none⟩ (.int .i64 H.x.v.2.1)).setCell ⟨w.heap.size+1,5,none⟩ (.string H.x.v.2.2)).setCell ⟨w.heap.size+1,6,none⟩ (.int .i64 H.x.c)).setCell ⟨w.heap.size+1,7,none⟩ (.slice q3.xa H.x.ks.length q3.xc)).setCell ⟨w.heap.size+1,8,none⟩ (.slice q3.sa H.xs.length q3.sc)).setCell ⟨w.heap.size+1,9,none⟩ (.slice q3.ga H.gs.length q3.gc)).setCell ⟨w.heap.size+1,10,none⟩ (.slice q3.ka o3 q3.kc)).setCell ⟨w.heap.size+1,11,none⟩ (.slice ca3 cl3 cc3)).setCell ⟨w.heap.size+1,12,none⟩ (.slice na3 H.ks.length nc3))=w10 at *
  refine mM (by kernel_rfl) ?_;intro w11 hb11;have A11:=chain AP hb11;have QE11:=(hb11.block _ (ae QE)).trans QE;have FIN:aY ts (fu S w) w11 (.agg (aL H q3 o3 ca3 cl3 cc3 na3 H.ks.length nc3)) H:=by
   refine ⟨q3,o3,ca3,cc3,na3,nc3,by unfold cU bV; rw [HCL3.out],((B9.next KP).next (ah.of hb11)).mono fun b h _=>?_⟩;rcases h with (h | h) | h
   ·exact .inl h.1
   ·exact .inr (by omega)
   ·exact .inr (by have:=A5.size; omega)
  obtain ⟨r0,r1,r2,r3,r4,r5,r6,r7,r8,r9,r10,r11,r12⟩:=aD QE11;go_wp2_with fail
  exact Me (v:=.agg (aL H q3 o3 ca3 cl3 cc3 na3 H.ks.length nc3)) (by simp [results,Tryz.results13,go_sem,r0,r1,r2,r3,r4,r5,r6,r7,r8,r9,r10,r11,r12]) rfl ⟨_,rfl,by rw [HRH.out]; exact FIN,A11⟩
 ·have b2:(F.k == 2)=false:=beq_false_of_ne (by omega)
  have hp2:p.k=10∨p.k=11:=by rw [← FK.out.1]; exact h
  have hb10:(F.k == 10)=true∨((F.k == 10)=false∧(F.k == 11)=true):=by
   simp only [beq_iff_eq,beq_eq_false_iff_ne];omega
  obtain ⟨r0,hr0⟩:=ub HS.out (.inr hp2);have hks:F.ks = [iT dw ts r0]:=by rw [FK.out.2.2,hr0]; rfl
  have HRP:Hid (ql F=rp):=by
   show _=_;rw [HRP0.out,← HF.out,hr0,Na,NJ,GF hp2]
  have HCK:Hid (ag ts (.mk F.k F.n F.x F.xs F.gs (iT dw ts r0).ks)=ag ts F∨(iT dw ts r0).k≠10):=by
   by_cases c:(iT dw ts r0).k=10
   ·refine .inl ?_;obtain ⟨cr,sr⟩:=yi dw r0 (fq HS.out r0 (by rw [hr0]; simp));obtain ⟨t0,ht0⟩:=ub sr (.inr (.inl c));refine jL ?_;rw [hks,ht0];simp only [Na,NJ]
    congr 1
    generalize iT dw ts r0=u at *;obtain ⟨k',n',y',xs',gs',ks'⟩:=u;simp only [Pl.k,Pl.ks] at c ht0;subst c ht0;rw [bJ];rfl
   ·exact .inr c
  have con:=Hu ts (fun b=>Old S w b∨w2.heap.size≤b) F (iT dw ts r0) q2 o2 ca2 cc2 na2 nc2 w4 hks HCK.out HB4.out;unfold cU bV at con;rw [HCL2.out] at con;clear hks hr0 h hp2 HFX FK HRP0 n0;obtain ⟨n0,n1,n2,n3,n4,n5,n6,n7,n8,n9,n10,n11,n12⟩:=aD QN4;rcases hb10 with b10 | ⟨b10,b11⟩
  all_goals (
   go_wp2_with fail
   refine con.mono ?_;clear n0 n1 n2 n3 n4 n5 n6 n7 n8 n9 n10 n11 n12;rintro e w7 ⟨v7,rfl,N7,hb7⟩;clear con;have A7:=chain A4 hb7;have QR7:=(hb7.block _ (ae Q14)).trans Q14;have lr6:=ae Q14;obtain ⟨q3,o3,ca3,cc3,na3,nc3,rfl,B7⟩:=N7;generalize hH:ql F=H at *;obtain ⟨cl3,hcl3⟩:∃ cl3,(ag ts H).length=cl3:=⟨_,rfl⟩
   have HCL3:=aw hcl3;unfold cU bV;rw [hcl3];clear hcl3 hH;obtain ⟨y0,y1,y2,y3,y4,y5,y6,y7,y8,y9,y10,y11,y12⟩:=aD QR7;obtain ⟨yf0,yf1,yf2,yf3,yf4,yf5,yf6,yf7,yf8,yf9,yf10,yf11,yf12⟩:=cT QR7;go_wp2_with fail
   have AP:Below w.heap.size w (dF w7 (w.heap.size+1) H q3 o3 ca3 cl3 cc3 na3 H.ks.length nc3):=(bq (g:=w.heap.size+1) A7 (by omega) _ _ _ _ _ _ _ _ _ _ _ _ _)
   have KP:ah (fu (fun b=>Old S w b∨w2.heap.size≤b) w4) w7 (dF w7 (w.heap.size+1) H q3 o3 ca3 cl3 cc3 na3 H.ks.length nc3):=(bL (g:=w.heap.size+1) (ah.refl _ w7) (fun h=>by rcases h with h | h; exact cR (by omega) (by omega) h; omega) _ _ _ _ _ _ _ _ _ _ _ _ _)
   have QE:(dF w7 (w.heap.size+1) H q3 o3 ca3 cl3 cc3 na3 H.ks.length nc3).heap[w.heap.size+1]? = some (.cells (aL H q3 o3 ca3 cl3 cc3 na3 H.ks.length nc3) 50 (0,0)):=(bI (g:=w.heap.size+1) QR7 _ _ _ _ _ _ _ _ _ _ _ _ _)
   clear y0 yf0 y1 yf1 y2 yf2 y3 yf3 y4 yf4 y5 yf5 y6 yf6 y7 yf7 y8 yf8 y9 yf9 y10 yf10 y11 yf11 y12 yf12;unfold dF at AP KP QE
   generalize (((((((((((((w7.setCell ⟨w.heap.size+1,0,none⟩ (.int .i64 H.k)).setCell ⟨w.heap.size+1,1,none⟩ (.int .i64 H.n)).setCell ⟨w.heap.size+1,2,none⟩ (.int .i64 H.x.k)).setCell ⟨w.heap.size+1,3,none⟩ (.int .i64 H.x.v.1)).setCell ⟨w.heap.size+1,4,none⟩ (.int .i64 H.x.v.2.1)).setCell ⟨w.heap.size+1,5,none⟩ (.string H.x.v.2.2)).setCell ⟨w.heap.size+1,6,none⟩ (.int .i64 H.x.c)).setCell ⟨w.heap.size+1,7,none⟩ (.slice q3.xa H.x.ks.length q3.xc)).setCell ⟨w.heap.size+1,8,none⟩ (.slice q3.sa H.xs.length q3.sc)).setCell ⟨w.heap.size+1,9,none⟩ (.slice q3.ga H.gs.length q3.gc)).setCell ⟨w.heap.size+1,10,none⟩ (.slice q3.ka o3 q3.kc)).setCell ⟨w.heap.size+1,11,none⟩ (.slice ca3 cl3 cc3)).setCell ⟨w.heap.size+1,12,none⟩ (.slice na3 H.ks.length nc3))=w8 at *
   have FIN:aY ts (fu S w) w8 (.agg (aL H q3 o3 ca3 cl3 cc3 na3 H.ks.length nc3)) H:=by
    refine ⟨q3,o3,ca3,cc3,na3,nc3,by unfold cU bV; rw [HCL3.out],(B7.next KP).mono fun b h _=>?_⟩;rcases h with (h | h) | h
    ·exact .inl h.1
    ·exact .inr (by omega)
    ·exact .inr (by have:=A4.size; omega)
   obtain ⟨r0,r1,r2,r3,r4,r5,r6,r7,r8,r9,r10,r11,r12⟩:=aD QE;exact Me (v:=.agg (aL H q3 o3 ca3 cl3 cc3 na3 H.ks.length nc3)) (by simp [results,Tryz.results13,go_sem,r0,r1,r2,r3,r4,r5,r6,r7,r8,r9,r10,r11,r12]) rfl ⟨_,rfl,by rw [← HRP.out]; exact FIN,AP⟩
   )
 ·have b2:(F.k == 2)=false:=by simpa using h.1
  have b10:(F.k == 10)=false:=by simpa using h.2.1
  have b11:(F.k == 11)=false:=by simpa using h.2.2
  have ERP:Hid (rp=F):=by
   show _=_;rw [HRP0.out,← HF.out];have hk:=FK.out.1;exact Gz (by omega) (by omega) (by omega)
  clear h HFX FK HRP0 n0;obtain ⟨n0,n1,n2,n3,n4,n5,n6,n7,n8,n9,n10,n11,n12⟩:=aD QN4;obtain ⟨z0,z1,z2,z3,z4,z5,z6,z7,z8,z9,z10,z11,z12⟩:=aD Q14;obtain ⟨zf0,zf1,zf2,zf3,zf4,zf5,zf6,zf7,zf8,zf9,zf10,zf11,zf12⟩:=cT Q14;go_wp2_with fail
  have AP:Below w.heap.size w (dF w4 (w.heap.size+1) F q2 o2 ca2 cl2 cc2 na2 F.ks.length nc2):=(bq (g:=w.heap.size+1) A4 (by omega) _ _ _ _ _ _ _ _ _ _ _ _ _)
  have KP:ah (fun b=>Old S w b∨w2.heap.size≤b) w4 (dF w4 (w.heap.size+1) F q2 o2 ca2 cl2 cc2 na2 F.ks.length nc2):=(bL (g:=w.heap.size+1) (ah.refl _ w4) (cR (by omega) (by omega)) _ _ _ _ _ _ _ _ _ _ _ _ _)
  have QE:(dF w4 (w.heap.size+1) F q2 o2 ca2 cl2 cc2 na2 F.ks.length nc2).heap[w.heap.size+1]? = some (.cells (aL F q2 o2 ca2 cl2 cc2 na2 F.ks.length nc2) 50 (0,0)):=(bI (g:=w.heap.size+1) Q14 _ _ _ _ _ _ _ _ _ _ _ _ _)
  clear n0 n1 n2 n3 n4 n5 n6 n7 n8 n9 n10 n11 n12 z0 zf0 z1 zf1 z2 zf2 z3 zf3 z4 zf4 z5 zf5 z6 zf6 z7 zf7 z8 zf8 z9 zf9 z10 zf10 z11 zf11 z12 zf12;unfold dF at AP KP QE
  generalize (((((((((((((w4.setCell ⟨w.heap.size+1,0,none⟩ (.int .i64 F.k)).setCell ⟨w.heap.size+1,1,none⟩ (.int .i64 F.n)).setCell ⟨w.heap.size+1,2,none⟩ (.int .i64 F.x.k)).setCell ⟨w.heap.size+1,3,none⟩ (.int .i64 F.x.v.1)).setCell ⟨w.heap.size+1,4,none⟩ (.int .i64 F.x.v.2.1)).setCell ⟨w.heap.size+1,5,none⟩ (.string F.x.v.2.2)).setCell ⟨w.heap.size+1,6,none⟩ (.int .i64 F.x.c)).setCell ⟨w.heap.size+1,7,none⟩ (.slice q2.xa F.x.ks.length q2.xc)).setCell ⟨w.heap.size+1,8,none⟩ (.slice q2.sa F.xs.length q2.sc)).setCell ⟨w.heap.size+1,9,none⟩ (.slice q2.ga F.gs.length q2.gc)).setCell ⟨w.heap.size+1,10,none⟩ (.slice q2.ka o2 q2.kc)).setCell ⟨w.heap.size+1,11,none⟩ (.slice ca2 cl2 cc2)).setCell ⟨w.heap.size+1,12,none⟩ (.slice na2 F.ks.length nc2))=w5 at *
  have FIN:aY ts (fu S w) w5 (.agg (aL F q2 o2 ca2 cl2 cc2 na2 F.ks.length nc2)) F:=⟨q2,o2,ca2,cc2,na2,nc2,by unfold cU bV; rw [HCL2.out],(HB4.out.next KP).mono fun b h _=>by
   rcases h with h | h
   ·exact .inl h.1
   ·exact .inr (by omega)⟩
  obtain ⟨r0,r1,r2,r3,r4,r5,r6,r7,r8,r9,r10,r11,r12⟩:=aD QE;exact Me (v:=.agg (aL F q2 o2 ca2 cl2 cc2 na2 F.ks.length nc2)) (by simp [results,Tryz.results13,go_sem,r0,r1,r2,r3,r4,r5,r6,r7,r8,r9,r10,r11,r12]) rfl ⟨_,rfl,by rw [ERP.out]; exact FIN,AP⟩
theorem uh (ts:List (List Int)):∀ p,JK ts p:=Pl.ind fun k n y xs gs ks ih=>pW ts (.mk k n y xs gs ks) ih
def fR (ts:List (List Int)) (p:Pl):Pl:=if bH ts (ln (iT dw ts p))=0 then ln (iT dw ts p) else ln p
def Lm:Value:=.agg eV
structure Gx (ts:List (List Int)) (p:Pl):Prop where
 lk:qh ts p
 LQ:fD ts p
 fw:DQ p
 wd:oK p
 LW:oK (iT dw ts p)
 ok:dx (ln (iT dw ts p))
theorem Ax (ts:List (List Int)) (p:Pl) (q:Pw) (ta:Option Addr) (tc:Nat) (w:World) (hT:iW w.heap.size w ta ts) (hp:oh w.heap.size w p q) (hok:dx p) (hpo:bH ts p=0→Gx ts p) :
  Calls Tryz.prog 6 #[.slice ta ts.length tc,gR p q] w fun e w'=>(¬ bH ts p=0→e = .returned (.tuple #[Lm,.int .i64 (bH ts p)]))∧(bH ts p=0→∃ q',e = .returned (.tuple #[gR (fR ts p) q',.int .i64 0])∧mE (fun b=>w.heap.size≤b) w' (fR ts p) q')∧Below w.heap.size w w':=by
 obtain ⟨le,hle⟩:∃ le,bH ts p=le:=⟨_,rfl⟩
 have HLE:=aw hle;have HPO:=aw hpo;have HOK:=aw hok;have HP:=aw hp;have HT:=aw hT;rw [hle];unfold gR;clear hle hp hT hok hpo;have A:Below w.heap.size w ((w.alloc (.cells (mf p q p.ks.length) 31)).alloc (.cells eV 31)):=(((Md w.heap.size w).alloc (Mc _) (.cells (mf p q p.ks.length) 31)).alloc (by simp only [Mf]; omega) (.cells eV 31))
 have Z:w.heap.size+2≤((w.alloc (.cells (mf p q p.ks.length) 31)).alloc (.cells eV 31)).heap.size:=by simp only [Mf]; omega
 have Q0:((w.alloc (.cells (mf p q p.ks.length) 31)).alloc (.cells eV 31)).heap[w.heap.size]? = some (.cells (mf p q p.ks.length) 31 (0,0)):=by
  rw [aG _ _ (by simp only [Mf]; omega)];exact aB w (mf p q p.ks.length) 31 rfl
 have Q1:((w.alloc (.cells (mf p q p.ks.length) 31)).alloc (.cells eV 31)).heap[w.heap.size+1]? = some (.cells eV 31 (0,0)):=by
  exact aB (w.alloc (.cells (mf p q p.ks.length) 31)) eV 31 (by simp only [Mf])
 have con:=wQ ts p q ta tc ((w.alloc (.cells (mf p q p.ks.length) 31)).alloc (.cells eV 31)) ((HT.out.next A (Mc _)).up A.size) ((HP.out.next A (Mc _)).up A.size) HOK.out;rw [HLE.out] at con;generalize (iX ts p)=cs at con;unfold gR at con;go_enter Tryz.func6,Tryz.ntmps6;go_upto_region 1 with fail
 generalize ((w.alloc (.cells (mf p q p.ks.length) 31)).alloc (.cells eV 31))=w2 at *;obtain ⟨n0,n1,n2,n3,n4,n5,n6,n7,n8,n9,n10⟩:=cw Q0;go_wp2_with fail
 refine con.mono ?_;rintro e w3 ⟨ca,cc,rfl,_,hb3⟩;clear con n0 n1 n2 n3 n4 n5 n6 n7 n8 n9 n10;have A3:=chain A hb3;have Q03:=(hb3.block _ (ae Q0)).trans Q0;have Q13:=(hb3.block _ (ae Q1)).trans Q1;have z3:=hb3.size;clear Q0 Q1 A hb3;dsimp only;by_cases h0:le=0;rotate_left
 ·have hb0:(le != 0)=true:=by simpa using h0
  have HN:=aw h0;clear h0;obtain ⟨z0,z1,z2,z3,z4,z5,z6,z7,z8,z9,z10⟩:=cw Q13;obtain ⟨zf0,zf1,zf2,zf3,zf4,zf5,zf6,zf7,zf8,zf9,zf10⟩:=nT Q13;go_wp2_with fail
  have AP:Below w.heap.size w (xM w3 (w.heap.size+1) (.int .i64 0) (.int .i64 0) (.int .i64 0) (.int .i64 0) (.int .i64 0) (.string ⟨#[]⟩) (.int .i64 0) (.slice none 0 0) (.slice none 0 0) (.slice none 0 0) (.slice none 0 0)):=(lO (g:=w.heap.size+1) A3 (by omega) _ _ _ _ _ _ _ _ _ _ _)
  have QE:(xM w3 (w.heap.size+1) (.int .i64 0) (.int .i64 0) (.int .i64 0) (.int .i64 0) (.int .i64 0) (.string ⟨#[]⟩) (.int .i64 0) (.slice none 0 0) (.slice none 0 0) (.slice none 0 0) (.slice none 0 0)).heap[w.heap.size+1]? = some (.cells eV 31 (0,0)):=(nr (g:=w.heap.size+1) Q13 _ _ _ _ _ _ _ _ _ _ _)
  clear z0 zf0 z1 zf1 z2 zf2 z3 zf3 z4 zf4 z5 zf5 z6 zf6 z7 zf7 z8 zf8 z9 zf9 z10 zf10;unfold xM at AP QE
  generalize (((((((((((w3.setCell ⟨w.heap.size+1,0,none⟩ (.int .i64 0)).setCell ⟨w.heap.size+1,1,none⟩ (.int .i64 0)).setCell ⟨w.heap.size+1,2,none⟩ (.int .i64 0)).setCell ⟨w.heap.size+1,3,none⟩ (.int .i64 0)).setCell ⟨w.heap.size+1,4,none⟩ (.int .i64 0)).setCell ⟨w.heap.size+1,5,none⟩ (.string ⟨#[]⟩)).setCell ⟨w.heap.size+1,6,none⟩ (.int .i64 0)).setCell ⟨w.heap.size+1,7,none⟩ (.slice none 0 0)).setCell ⟨w.heap.size+1,8,none⟩ (.slice none 0 0)).setCell ⟨w.heap.size+1,9,none⟩ (.slice none 0 0)).setCell ⟨w.heap.size+1,10,none⟩ (.slice none 0 0))=w5 at *
  obtain ⟨r0,r1,r2,r3,r4,r5,r6,r7,r8,r9,r10⟩:=cw QE;exact Me (v:=.tuple #[Lm,.int .i64 le]) (by simp [results,Lm,Tryz.results6,go_sem,r0,r1,r2,r3,r4,r5,r6,r7,r8,r9,r10]) rfl ⟨fun _=>rfl,fun h=>absurd h HN.out,AP⟩
 have PO:=HPO.out (by rw [HLE.out,h0]);have HPK:=aw PO;subst h0;clear PO;have con:=zM ts p w.heap.size q ta tc w3 A3.size (HP.out.next A3 (Mc _)) (HT.out.next A3 (Mc _)) HPK.out.lk HOK.out;unfold gR at con;obtain ⟨n0,n1,n2,n3,n4,n5,n6,n7,n8,n9,n10⟩:=cw Q03;go_wp2_with fail
 refine con.mono ?_;rintro e w4 ⟨v4,rfl,N4,hb4⟩;clear con n0 n1 n2 n3 n4 n5 n6 n7 n8 n9 n10;obtain ⟨q2,o2,ca2,cc2,na2,nc2,rfl,B4⟩:=N4;obtain ⟨cl2,hcl2⟩:∃ cl2,(ag ts p).length=cl2:=⟨_,rfl⟩
 have HCL2:=aw hcl2;unfold cU bV;rw [hcl2];clear hcl2;have A4:=chain A3 hb4;have Q14:=(hb4.block _ (ae Q13)).trans Q13;have al5:=aa w4 (.cells (aL p q2 o2 ca2 cl2 cc2 na2 p.ks.length nc2) 50);have QG:=ak w4 (aL p q2 o2 ca2 cl2 cc2 na2 p.ks.length nc2) 50;dsimp only;go_upto_region 5 with fail
 have A5:=chain A4 al5;have Q15:=(al5.block _ (ae Q14)).trans Q14;have z4:=hb4.size;have B5:=B4.next (ah.of al5);have l5:=ae QG;generalize w4.alloc (.cells (aL p q2 o2 ca2 cl2 cc2 na2 p.ks.length nc2) 50)=w5 at *;clear Q03 Q13 Q14 A3 A4 al5 B4 hb4;have HB5:=aw B5;clear B5;have con:=uh ts p (fun b=>b<w.heap.size∨w3.heap.size≤b) q2 o2 ca2 cc2 na2 nc2 w5 HPK.out.LQ HPK.out.fw HB5.out;unfold cU bV at con;rw [HCL2.out] at con;obtain ⟨n0,n1,n2,n3,n4,n5,n6,n7,n8,n9,n10,n11,n12⟩:=aD QG
 go_wp2_with fail
 refine con.mono ?_;rintro e w6 ⟨v6,rfl,N6,hb6⟩;clear con n0 n1 n2 n3 n4 n5 n6 n7 n8 n9 n10 n11 n12;obtain ⟨q3,o3,ca3,cc3,na3,nc3,rfl,B6⟩:=N6;obtain ⟨ea,hea⟩:∃ ea,ln (iT dw ts p)=ea:=⟨_,rfl⟩
 have con:=qU ts (iT dw ts p) _ q3 o3 ca3 cc3 na3 nc3 w6 HPK.out.LW B6;rw [hea] at con;have HEA:=aw hea;clear hea;dsimp only;go_wp2_with fail
 refine con.mono ?_;rintro e w7 ⟨q4,rfl,P7,hb7⟩;clear con B6;have D7:=chain hb6 hb7;have A7:=chain A5 D7;have Q17:=(D7.block _ (ae Q15)).trans Q15;have QG7:=(D7.block _ (ae QG)).trans QG;have al8:=aa w7 (.cells (mf ea q4 ea.ks.length) 31);have QEA:=ak w7 (mf ea q4 ea.ks.length) 31;unfold gR;dsimp only;go_upto_region 6 with fail
 have D8:=chain D7 al8;have A8:=chain A7 al8;have Q18:=(al8.block _ (ae Q17)).trans Q17;have QG8:=(al8.block _ (ae QG7)).trans QG7;have P8:=P7.next (ah.of al8);have l8:=ae QEA;have z6:=hb6.size;have z7:=hb7.size;generalize w7.alloc (.cells (mf ea q4 ea.ks.length) 31)=w8 at *;clear Q17 QG7 P7 A7 Q15 QG A5 al8 D7 hb6 hb7;obtain ⟨le2,hle2⟩:∃ le2,bH ts ea=le2:=⟨_,rfl⟩
 have HLE2:=aw hle2;have HRP:Hid (fR ts p=if le2=0 then ea else ln p):=by show _=_; unfold fR; rw [HEA.out,hle2]
 have con:=wQ ts ea q4 ta tc w8 ((HT.out.next A8 (Mc _)).up A8.size) P8.b (by rw [← HEA.out]; exact HPK.out.ok);rw [hle2] at con;clear hle2;generalize (iX ts ea)=cs2 at con;unfold gR at con;obtain ⟨n0,n1,n2,n3,n4,n5,n6,n7,n8,n9,n10⟩:=cw QEA;go_wp2_with fail
 refine con.mono ?_;rintro e w9 ⟨ca5,cc5,rfl,_,hb9⟩;clear con n0 n1 n2 n3 n4 n5 n6 n7 n8 n9 n10;have A9:=chain A8 hb9;have Q19:=(hb9.block _ (ae Q18)).trans Q18;have QG9:=(hb9.block _ (ae QG8)).trans QG8;have QE9:=(hb9.block _ (ae QEA)).trans QEA;have P9:=P8.next (ah.of hb9);have D9:=chain D8 hb9;clear Q18 QG8 QEA P8 A8 D8;dsimp only;by_cases h2:le2=0
 ·have hb0:(le2 != 0)=false:=by simpa using h2
  have HR:Hid (fR ts p=ea):=by show _=_; rw [HRP.out,if_pos h2]
  clear h2 HRP;obtain ⟨n0,n1,n2,n3,n4,n5,n6,n7,n8,n9,n10⟩:=cw QE9;obtain ⟨z0,z1,z2,z3,z4,z5,z6,z7,z8,z9,z10⟩:=cw Q19;obtain ⟨zf0,zf1,zf2,zf3,zf4,zf5,zf6,zf7,zf8,zf9,zf10⟩:=nT Q19;go_wp2_with fail
  have AP:Below w.heap.size w (Jh w9 (w.heap.size+1) ea q4 ea.ks.length):=(lO (g:=w.heap.size+1) A9 (by omega) _ _ _ _ _ _ _ _ _ _ _)
  have KP:ah (fun b=>w6.heap.size≤b) w9 (Jh w9 (w.heap.size+1) ea q4 ea.ks.length):=(nF (g:=w.heap.size+1) (ah.refl _ w9) (by omega) _ _ _ _ _ _ _ _ _ _ _)
  have QE:(Jh w9 (w.heap.size+1) ea q4 ea.ks.length).heap[w.heap.size+1]? = some (.cells (mf ea q4 ea.ks.length) 31 (0,0)):=(nr (g:=w.heap.size+1) Q19 _ _ _ _ _ _ _ _ _ _ _)
  clear z0 zf0 z1 zf1 z2 zf2 z3 zf3 z4 zf4 z5 zf5 z6 zf6 z7 zf7 z8 zf8 z9 zf9 z10 zf10 n0 n1 n2 n3 n4 n5 n6 n7 n8 n9 n10;unfold Jh at AP KP QE
  generalize (((((((((((w9.setCell ⟨w.heap.size+1,0,none⟩ (.int .i64 ea.k)).setCell ⟨w.heap.size+1,1,none⟩ (.int .i64 ea.n)).setCell ⟨w.heap.size+1,2,none⟩ (.int .i64 ea.x.k)).setCell ⟨w.heap.size+1,3,none⟩ (.int .i64 ea.x.v.1)).setCell ⟨w.heap.size+1,4,none⟩ (.int .i64 ea.x.v.2.1)).setCell ⟨w.heap.size+1,5,none⟩ (.string ea.x.v.2.2)).setCell ⟨w.heap.size+1,6,none⟩ (.int .i64 ea.x.c)).setCell ⟨w.heap.size+1,7,none⟩ (.slice q4.xa ea.x.ks.length q4.xc)).setCell ⟨w.heap.size+1,8,none⟩ (.slice q4.sa ea.xs.length q4.sc)).setCell ⟨w.heap.size+1,9,none⟩ (.slice q4.ga ea.gs.length q4.gc)).setCell ⟨w.heap.size+1,10,none⟩ (.slice q4.ka ea.ks.length q4.kc))=w10 at *
  obtain ⟨r0,r1,r2,r3,r4,r5,r6,r7,r8,r9,r10⟩:=cw QE;exact Me (v:=.tuple #[gR ea q4,.int .i64 0]) (by simp [results,gR,Tryz.results6,go_sem,r0,r1,r2,r3,r4,r5,r6,r7,r8,r9,r10]) rfl ⟨⟨q4,by rw [HR.out]; rfl,by rw [HR.out]; exact (P9.next KP).mono fun b h _=>by omega⟩,AP⟩
 ·have hb0:(le2 != 0)=true:=by simpa using h2
  obtain ⟨gi,hgi⟩:∃ gi,ln p=gi:=⟨_,rfl⟩
  have HR:Hid (fR ts p=gi):=by show _=_; rw [HRP.out,if_neg h2,hgi]
  have con:=qU ts p _ q2 o2 ca2 cc2 na2 nc2 w9 HPK.out.wd (HB5.out.next (ah.of D9));rw [hgi] at con;unfold cU bV at con;rw [HCL2.out] at con;clear h2 HRP hgi;obtain ⟨n0,n1,n2,n3,n4,n5,n6,n7,n8,n9,n10,n11,n12⟩:=aD QG9;go_wp2_with fail
  refine con.mono ?_;rintro e w10 ⟨q6,rfl,P10,hb10⟩;clear con n0 n1 n2 n3 n4 n5 n6 n7 n8 n9 n10 n11 n12;have A10:=chain A9 hb10;have Q110:=(hb10.block _ (ae Q19)).trans Q19;have z9:=D9.size;unfold gR;dsimp only;obtain ⟨z0,z1,z2,z3,z4,z5,z6,z7,z8,z9,z10⟩:=cw Q110;obtain ⟨zf0,zf1,zf2,zf3,zf4,zf5,zf6,zf7,zf8,zf9,zf10⟩:=nT Q110;go_wp2_with fail
  have AP:Below w.heap.size w (Jh w10 (w.heap.size+1) gi q6 gi.ks.length):=(lO (g:=w.heap.size+1) A10 (by omega) _ _ _ _ _ _ _ _ _ _ _)
  have KP:ah (fun b=>w9.heap.size≤b) w10 (Jh w10 (w.heap.size+1) gi q6 gi.ks.length):=(nF (g:=w.heap.size+1) (ah.refl _ w10) (by omega) _ _ _ _ _ _ _ _ _ _ _)
  have QE:(Jh w10 (w.heap.size+1) gi q6 gi.ks.length).heap[w.heap.size+1]? = some (.cells (mf gi q6 gi.ks.length) 31 (0,0)):=(nr (g:=w.heap.size+1) Q110 _ _ _ _ _ _ _ _ _ _ _)
  clear z0 zf0 z1 zf1 z2 zf2 z3 zf3 z4 zf4 z5 zf5 z6 zf6 z7 zf7 z8 zf8 z9 zf9 z10 zf10;unfold Jh at AP KP QE
  generalize (((((((((((w10.setCell ⟨w.heap.size+1,0,none⟩ (.int .i64 gi.k)).setCell ⟨w.heap.size+1,1,none⟩ (.int .i64 gi.n)).setCell ⟨w.heap.size+1,2,none⟩ (.int .i64 gi.x.k)).setCell ⟨w.heap.size+1,3,none⟩ (.int .i64 gi.x.v.1)).setCell ⟨w.heap.size+1,4,none⟩ (.int .i64 gi.x.v.2.1)).setCell ⟨w.heap.size+1,5,none⟩ (.string gi.x.v.2.2)).setCell ⟨w.heap.size+1,6,none⟩ (.int .i64 gi.x.c)).setCell ⟨w.heap.size+1,7,none⟩ (.slice q6.xa gi.x.ks.length q6.xc)).setCell ⟨w.heap.size+1,8,none⟩ (.slice q6.sa gi.xs.length q6.sc)).setCell ⟨w.heap.size+1,9,none⟩ (.slice q6.ga gi.gs.length q6.gc)).setCell ⟨w.heap.size+1,10,none⟩ (.slice q6.ka gi.ks.length q6.kc))=w11 at *
  obtain ⟨r0,r1,r2,r3,r4,r5,r6,r7,r8,r9,r10⟩:=cw QE;exact Me (v:=.tuple #[gR gi q6,.int .i64 0]) (by simp [results,gR,Tryz.results6,go_sem,r0,r1,r2,r3,r4,r5,r6,r7,r8,r9,r10]) rfl ⟨⟨q6,by rw [HR.out]; rfl,by rw [HR.out]; exact (P10.next KP).mono fun b h _=>by have:=A9.size; omega⟩,AP⟩
end Go.Proofs.YtjebpkhkjkjphaaGreat
namespace Go.Proofs.YtjebpkhkjkjphaaGreat
open Go.RowKit
set_option maxRecDepth 100000
set_option maxHeartbeats 16000000
def cx (x:Ex):Ex:=lW (fun c=>c) x
theorem DY {af:List Int} {k:Int} {v:Vl} {c:Int} {ts:List Int}:eA af k (if k=1 then bF v else eD) (if k=2 then c else 0) ts=eA af k v c ts:=by
 unfold eA;by_cases h1:k=1
 ·rw [if_pos h1,if_pos h1,if_pos h1];unfold mT;rw [kF];rfl
 ·rw [if_neg h1,if_neg h1];by_cases h2:k=2
  ·rw [if_pos h2,if_pos h2,if_pos h2]
  ·rw [if_neg h2,if_neg h2]
theorem sM {af:List Int}:∀ (l:List Ex),(∀ x ∈ l,∀ n d,bf af (cx x) n d=bf af x n d)→∀ (acc:List Int) (n d:Int),bE af (cQ (fun c=>c) l) acc n d=bE af l acc n d
 | [],_,acc,n,d=>by rw [cQ]
 | x :: r,h,acc,n,d=>by
  have hx:∀ n d,bf af (lW (fun c=>c) x) n d=bf af x n d:=h x (by simp)
  rw [cQ,bE,bE,hx,sM r (fun y hy=>h y (by simp [hy]))]
theorem ED {af:List Int}:∀ (x:Ex) (n d:Int),bf af (cx x) n d=bf af x n d :=
 Ex.ind fun k v c ks ih n d=>by
  unfold cx
  rw [lW,bf,bf,dK,sM ks (fun x hx=>ih x hx),DY]
theorem iS (af:List Int) (x:Ex):an af (cx x)=an af x:=by unfold an; rw [ED]
theorem sY (v:Vl):bF (bF v)=bF v:=by
 obtain ⟨k,n,s⟩:=v;unfold bF dE fN;simp only
 congr 1
 congr 1
 ·split <;> rfl
 ·split <;> rfl
theorem IQ (af:List Int) (g:Ag):tX af (mB g)=tX af g:=by
 unfold tX mB;simp only;by_cases h:g.1=4∨g.1=5
 ·rw [if_pos h,if_pos h,if_neg (by omega)];exact congrArg Prod.fst (iS af g.2)
 ·rw [if_neg h,if_neg h]
theorem AW (af:List Int) (xs:List Ex):gT af (cQ (fun c=>c) xs)=gT af xs:=by
 unfold gT;rw [fB,Nj];exact MN fun x _=>congrArg Prod.fst (iS af x)
theorem GR {k:Int} {xs:List Ex} {gs:List Ag} {af:List Int}:jY k (if k=3∨k=12∨k=13 then cQ (fun c=>c) xs else []) (if k=12 then gs.map mB else []) af=jY k xs gs af:=by
 unfold jY;by_cases h3:k=3
 ·rw [if_pos h3,if_pos h3,if_pos (.inl h3),AW]
 rw [if_neg h3,if_neg h3];by_cases h12:k=12
 ·rw [if_pos h12,if_pos h12,if_pos h12,if_pos (by omega),AW,Nj]
  congr 1
  exact MN fun g _=>IQ af g
 ·rw [if_neg h12,if_neg h12]
theorem Hv {ts:List (List Int)}:∀ p:Pl,(p.k=1∨p.ks ≠ [])→(∀ r,r ∈ p.ks→ag ts (ln r)=ag ts r)→ag ts (ln p)=ag ts p:=fun p h ih=>by
 obtain ⟨k,n,x,xs,gs,ks⟩:=p
 simp only [Pl.k,Pl.ks] at h ih
 rw [ln,ag,ag,bB,bB,fX,Nj]
 rw [show ks.map (ag ts ∘ ln)=ks.map (ag ts) from MN fun r hr=>ih r hr]
 unfold kC
 match hc:ks.map (ag ts) with
 | [] =>
  simp only
  have:ks = []:=List.map_eq_nil_iff.1 hc
  rcases h with h | h
  ·rw [if_pos (.inl h)]
  ·exact absurd this h
 | [c]=>exact GR
 | l :: r :: _=>rfl
theorem vl {ts:List (List Int)}:∀ p:Pl,fD ts p→ag ts (ln p)=ag ts p :=
 Pl.ind fun k n x xs gs ks ih hs=>by
  obtain ⟨_,hks,hsh⟩:=bM hs
  refine Hv _ ?_ fun r hr=>ih r hr (hks r hr)
  rcases hsh with ⟨e,_⟩ | ⟨_,a,b,e,_⟩ | ⟨_,_,a,e⟩
  ·exact .inl e
  ·exact .inr (by simp only [Pl.ks]; rw [e]; simp)
  ·exact .inr (by simp only [Pl.ks]; rw [e]; simp)
theorem tJ (row:List Vl):∀ x:Ex,aW row (cx x)=aW row x :=
 Ex.ind fun k v c ks ih=>by
  unfold cx
  rw [lW,aW,aW,cV,cV,fB,Nj]
  rw [show ks.map (aW row ∘ lW (fun c=>c))=ks.map (aW row) from MN fun x hx=>ih x hx]
  unfold gh
  by_cases h1:k=1
  ·rw [if_pos h1,if_pos h1,if_pos h1,sY]
  rw [if_neg h1,if_neg h1]
  by_cases h2:k=2
  ·rw [if_pos h2,if_pos h2,if_pos h2]
  ·rw [if_neg h2,if_neg h2]
theorem uK (x:Ex):ax (cx x)=ax x:=by
 funext row
 unfold ax;rw [tJ]
theorem FD (xs:List Ex):fj (cQ (fun c=>c) xs)=fj xs:=by
 funext row
 unfold fj;rw [fB,Nj];exact MN fun x _=>tJ row x
theorem AJ (af:List Int) (x:Ex):cH af (cx x)=cH af x:=by unfold cH; rw [iS]
theorem xe (af:List Int):∀ xs:List Ex,dJ af (cQ (fun c=>c) xs)=dJ af xs
 | []=>by rw [cQ]
 | x :: r=>by
  rw [cQ,dJ,dJ,xe af r]
  have:=iS af x
  unfold cx at this
  rw [this]
theorem tL (af:List Int) (xs:List Ex):bU af (cQ (fun c=>c) xs)=bU af xs:=by unfold bU; rw [dK,xe]
theorem Hi (af:List Int) (g:Ag):df af (mB g)=df af g:=by
 unfold df mB;simp only;by_cases h:g.1=1
 ·rw [if_pos h,if_pos h]
 ·rw [if_neg h,if_neg h,if_neg h];have:=iS af g.2;unfold cx at this;rw [this]
theorem Ay (af:List Int):∀ gs:List Ag,dZ af (gs.map mB)=dZ af gs
 | []=>rfl
 | g :: r=>by rw [Na,dZ,dZ,Hi,Ay af r]
theorem Eh (g:Ag):gy (mB g)=gy g:=by
 unfold gy mB;simp only;by_cases h:g.1=1
 ·rw [if_pos h,if_pos h]
 ·rw [if_neg h,if_neg h,if_neg h]
  funext row
  exact tJ row g.2
theorem Kt (g:Ag):kv (mB g)=kv g:=by
 funext rows
 unfold kv;rw [Eh];rfl
theorem nt (xs:List Ex) (z:List Zp):bj (cQ (fun c=>c) xs) z=bj xs z:=by
 unfold bj i6;rw [FD]
theorem Gh (xs:List Ex) (L:List Kp):ek (cQ (fun c=>c) xs) L=ek xs L:=by
 unfold ek;rw [dK]
theorem uF (xs:List Ex) (gs:List Ag) (L:List Kp):dC (cQ (fun c=>c) xs) (gs.map mB) L=dC xs gs L:=by
 unfold dC;rw [Gh];refine MN fun p _=>?_
 rw [Nj]
 congr 2
 exact MN fun g _=>congrFun (Kt g) p.2
theorem El (af:List Int) (x:Ex) (z:List Zp):gz af (cx x) z=gz af x z:=by unfold gz; rw [AJ]
theorem Bc (xs:List Ex) (z:List Zp):nd (cQ (fun c=>c) xs) z=nd xs z:=by unfold nd; rw [FD]
theorem Jc (af:List Int) (xs:List Ex) (z:List Zp):lq af (cQ (fun c=>c) xs) z=lq af xs z:=by unfold lq; rw [tL,Bc]
theorem CC (af:List Int) (xs:List Ex) (gs:List Ag) (z:List Zp):dM af (cQ (fun c=>c) xs) (gs.map mB) z=dM af xs gs z:=by unfold dM; rw [dK,MA,tL,Ay,nt,uF]
theorem IJ (af:List Int) (xs:List Ex) (n:Int) (z:List Zp):kX af (cQ (fun c=>c) xs) n z=kX af xs n z:=by unfold kX; rw [tL,nt]
theorem wP (what n:Nat) (x:Ex) (a b:List Zp):ft what n (cx x) a b=ft what n x a b:=by
 unfold ft rW bX cD pZ gC j4;simp only [uK]
theorem Gc (what:Nat) (l r:List Int) (x:Ex) (a b:List Zp):cL what l r (cx x) a b=cL what l r x a b:=by
 unfold cL j2;rw [AJ,wP]
theorem Ef {ts:List (List Int)} {k n:Int} {x:Ex} {xs:List Ex} {gs:List Ag} {cs:List (List Int)} (hl:cs.length=dD k) (hk:1≤k∧k≤13) :
  eI ts k (if k=1∨k=13 then n else 0) (if k=2∨4≤k∧k≤7 then lW (fun c=>c) x else AV) (if k=3∨k=12∨k=13 then cQ (fun c=>c) xs else []) (if k=12 then gs.map mB else []) cs=eI ts k n x xs gs cs:=by
 unfold dD at hl;unfold eI
 match cs,hl with
 | [],hl =>
  have h1:k=1:=by
   by_cases e:k=1
   ·exact e
   ·rw [if_neg e] at hl;by_cases e2:4≤k∧k≤9
    ·rw [if_pos e2] at hl; cases hl
    ·rw [if_neg e2] at hl; cases hl
  simp only [h1,true_or,if_true]
 | [c],hl =>
  simp only;unfold fZ;by_cases h2:k=2
  ·rw [if_pos h2,if_pos h2,if_pos (.inl h2)];exact El c x []
  rw [if_neg h2,if_neg h2];by_cases h3:k=3
  ·rw [if_pos h3,if_pos h3,if_pos (.inl h3)];exact Jc c xs []
  rw [if_neg h3,if_neg h3];by_cases h12:k=12
  ·rw [if_pos h12,if_pos h12,if_pos h12,if_pos (show k=3∨k=12∨k=13 by omega)];exact CC c xs gs []
  rw [if_neg h12,if_neg h12];by_cases h13:k=13
  ·rw [if_pos h13,if_pos h13,if_pos (show k=3∨k=12∨k=13 by omega),if_pos (show k=1∨k=13 by omega)];exact IJ c xs n []
  ·rw [if_neg h13,if_neg h13]
 | l :: r :: s,hl =>
  simp only;unfold pk;by_cases h8:k=8∨k=9
  ·rw [if_pos h8,if_pos h8]
  ·rw [if_neg h8,if_neg h8];have h4:4≤k∧k≤9:=by
    by_cases e:k=1
    ·rw [if_pos e] at hl; cases hl
    ·rw [if_neg e] at hl;by_cases e2:4≤k∧k≤9
     ·exact e2
     ·rw [if_neg e2] at hl; cases hl
   rw [if_pos (show k=2∨4≤k∧k≤7 by omega)];exact Gc 0 l r x [] []
theorem sR {ts:List (List Int)}:∀ (l:List Pl),(∀ p ∈ l,fD ts p→∀ m d,aV ts (ln p) m d=aV ts p m d)→(∀ p ∈ l,fD ts p)→∀ m d,aS ts (fV l) m d=aS ts l m d
 | [],_,_,m,d=>by rw [fV]
 | p :: r,h,hs,m,d=>by
  rw [fV,aS,aS,h p (by simp) (hs p (by simp)),sR r (fun q hq=>h q (by simp [hq])) (fun q hq=>hs q (by simp [hq]))]
theorem Gp {ts:List (List Int)}:∀ (p:Pl),fD ts p→∀ m d,aV ts (ln p) m d=aV ts p m d :=
 Pl.ind fun k n x xs gs ks ih hs m d=>by
  obtain ⟨hk,hks,_⟩:=bM hs
  have hl:ks.length=dD k:=by rw [fD] at hs; exact hs.2.1
  have hc:aQ ts (fV ks)=aQ ts ks:=by
   rw [bB,bB,fX,Nj];exact MN fun r hr=>vl r (hks r hr)
  rw [ln,aV,aV,vX,sR ks (fun p hp=>ih p hp) hks,hc,Ef (by rw [bB,MA]; exact hl) hk]
theorem FM {ts:List (List Int)} {p:Pl} (h:fD ts p):bH ts (ln p)=bH ts p:=by unfold bH; rw [Gp p h]
theorem yu {ts:List (List Int)} {p:Pl} (h:fD ts p) (hl:bH ts p=0):bH ts (fR ts p)=0:=by
 unfold fR
 split
 ·assumption
 ·rw [FM h]; exact hl
theorem Ki {af:List Int} (h16:af.length≤16):∀ (x:Ex) (t:Int),kt af x=some t→fF gn x :=
 Ex.ind fun k v c ks ih t h=>by
  rw [kt] at h
  by_cases hw:k<1∨18<k∨ks.length≠eL k
  ·rw [if_pos hw] at h; cases h
  rw [if_neg hw] at h
  have hl:ks.length=eL k:=by
   by_cases e:ks.length=eL k
   ·exact e
   ·exact absurd (.inr (.inr e)) hw
  cases hk:hZ af ks with
  | none=>simp [hk] at h
  | some us =>
   rw [fF];refine ⟨by rw [hl]; exact qF k,fun e=>?_,iI.2 fun x hx=>?_⟩
   ·subst e;simp only [hk,Option.bind_some,eA,kW] at h;by_cases hc:c<0∨(af.length:Int)≤c
    ·simp [hc] at h
    ·exact ⟨⟨by omega,by omega⟩,Mo (by rw [hl]; rfl)⟩
   ·obtain ⟨u,hu⟩:=ov hk x hx;exact ih x hx u hu
theorem yw {af:List Int} {x:Ex} (h:(an af x).2=0):fF gn x:=by
 have g:=(qS af x).1 h;exact Ki g.Lr x _ g.ty
theorem AO {af:List Int} {x:Ex} (h:cH af x=0):fF gn x:=by
 unfold cH at h;by_cases c:(an af x).2=0
 ·exact yw c
 ·rw [if_pos c] at h; exact absurd h c
theorem xp {af:List Int}:∀ {xs:List Ex},dJ af xs=0→∀ x ∈ xs,fF gn x
 | [],_,x,hx=>by cases hx
 | y :: r,h,x,hx=>by
  rw [dJ] at h
  by_cases c:(an af y).2=0
  ·rw [if_pos c] at h
   rcases List.mem_cons.1 hx with rfl | hx
   ·exact yw c
   ·exact xp h x hx
  ·rw [if_neg c] at h; exact absurd h c
theorem Ht {af:List Int} {xs:List Ex} (h:bU af xs=0):xs.length≤100000∧∀ x ∈ xs,fF gn x:=by
 unfold bU at h;by_cases c:8<xs.length
 ·rw [if_pos c] at h; cases h
 ·rw [if_neg c] at h; exact ⟨by omega,xp h⟩
theorem Af {af:List Int}:∀ {gs:List Ag},dZ af gs=0→∀ g ∈ gs,g.1≠1→fF gn g.2
 | [],_,g,hg=>by cases hg
 | y :: r,h,g,hg=>by
  rw [dZ] at h
  by_cases c:df af y=0
  ·rw [if_pos c] at h
   rcases List.mem_cons.1 hg with rfl | hg
   ·intro h1
    unfold df at c
    rw [if_neg h1] at c
    by_cases c2:g.1<2∨5<g.1
    ·rw [if_pos c2] at c; cases c
    rw [if_neg c2] at c
    by_cases c3:(an af g.2).2=0
    ·exact yw c3
    ·rw [if_pos c3] at c; exact absurd c c3
   ·exact Af h g hg
  ·rw [if_neg c] at h; exact absurd h c
theorem mU {k n:Int} {x:Ex} {xs:List Ex} {gs:List Ag} {ks:List Pl} (h1:1≤k∧k≤13) (h2:ks.length≤2) (h3:k=2∨4≤k∧k≤7→fF gn x) (h4:k=3∨k=12∨k=13→xs.length≤100000∧∀ x ∈ xs,fF gn x) (h5:k=12→gs.length≤100000∧∀ g ∈ gs,g.1≠1→fF gn g.2) (h6:∀ r ∈ ks,oK r):oK (.mk k n x xs gs ks):=by
 rw [oK];exact ⟨h1,h2,h3,h4,h5,lu.2 h6⟩
theorem zw {ts:List (List Int)}:∀ (p:Pl) (m d:Int),(aV ts p m d).1=0→oK p∧DQ p :=
 Pl.ind fun k n x xs gs ks ih m d hl=>by
  obtain ⟨h1,h2,h3,_⟩:=dR hl
  obtain ⟨hln,hk1,hk2,_,_⟩:=fJ h1
  have hkids:∀ r ∈ ks,oK r∧DQ r:=fun r hr=>by
   obtain ⟨m',hm'⟩:=fL h2 r hr
   exact ih r hr m' (d+1) hm'
  have h2':ks.length≤2:=by rw [hln]; exact kV k
  have hx:k=2∨4≤k∧k≤7→fF gn x:=fun e=>by
   unfold dD at hln
   rw [if_neg (by omega)] at hln
   rcases e with e | e
   ·rw [if_neg (by omega)] at hln
    match ks,hln,h3 with
    | [p],_,h3 =>
     simp only [aQ,eI,fZ] at h3
     rw [if_pos e] at h3
     exact AO (vf h3).1
   ·rw [if_pos (by omega)] at hln
    match ks,hln,h3 with
    | [p,q],_,h3 =>
     simp only [aQ,eI,pk] at h3
     rw [if_neg (by omega)] at h3
     exact AO (Fb h3).1.cond
  have hone:k=3∨k=12∨k=13→∃ c,fZ k n x xs gs c=0:=fun e=>by
   unfold dD at hln
   rw [if_neg (by omega),if_neg (by omega)] at hln
   match ks,hln,h3 with
   | [p],_,h3=>exact ⟨_,by simpa [aQ,eI] using h3⟩
  have hxs:k=3∨k=12∨k=13→xs.length≤100000∧∀ x ∈ xs,fF gn x:=fun e=>by
   obtain ⟨c,h⟩:=hone e
   unfold fZ at h
   rw [if_neg (by omega)] at h
   have hL:bU c xs=0:=by
    rcases e with e | e | e
    ·rw [if_pos e] at h
     unfold lq at h
     by_cases cc:bU c xs=0
     ·exact cc
     ·rw [if_pos cc] at h; exact absurd h cc
    ·rw [if_neg (by omega),if_pos e] at h
     unfold dM at h
     by_cases c8:8<xs.length+gs.length
     ·rw [if_pos c8] at h; cases h
     rw [if_neg c8] at h
     by_cases cc:bU c xs=0
     ·exact cc
     ·rw [if_pos cc] at h; exact absurd h cc
    ·rw [if_neg (by omega),if_neg (by omega),if_pos e] at h
     unfold kX at h
     by_cases cc:bU c xs=0
     ·exact cc
     ·rw [if_pos cc] at h; exact absurd h cc
   exact Ht hL
  have hgs:k=12→gs.length≤100000∧∀ g ∈ gs,g.1≠1→fF gn g.2:=fun e=>by
   obtain ⟨c,h⟩:=hone (.inr (.inl e))
   unfold fZ at h
   rw [if_neg (by omega),if_neg (by omega),if_pos e] at h
   unfold dM at h
   by_cases c8:8<xs.length+gs.length
   ·rw [if_pos c8] at h; cases h
   rw [if_neg c8] at h
   by_cases cc:bU c xs=0
   ·rw [if_neg (by simp [cc])] at h
    by_cases cg:dZ c gs=0
    ·exact ⟨by omega,Af cg⟩
    ·rw [if_pos cg] at h; exact absurd h cg
   ·rw [if_pos cc] at h; exact absurd h cc
  refine ⟨mU ⟨hk1,hk2⟩ h2' hx hxs hgs fun r hr=>(hkids r hr).1,?_⟩
  rw [DQ]
  exact ⟨fun e=>hx (.inl e),mO.2 fun r hr=>(hkids r hr).2⟩
theorem EY {x y:Ex} (hx:fF gn x) (hy:fF gn y):fF gn (tV 4 x y):=by
 unfold tV;rw [fF,wz,wz,wz];exact ⟨by simp,fun e=>absurd e (by decide),hx,hy,trivial⟩
theorem tG {x:Ex} {p:Pl} (hx:fF gn x) (hp:oK p):oK (iY x p):=by
 unfold iY;exact mU (by omega) (by simp) (fun _=>hx) (fun e=>by omega) (fun e=>by omega) fun r hr=>by rw [List.mem_singleton.1 hr]; exact hp
theorem Ha {ts:List (List Int)}:∀ (p:Pl) (x:Ex),oK p→fF gn x→oK (aT dw ts p x) :=
 Pl.ind fun k n y xs gs ks ih x hw hx=>by
  have hw0:=hw
  rw [oK] at hw
  obtain ⟨h1,h2,h3,h4,h5,h6⟩:=hw
  have h6:=lu.1 h6
  rw [aT]
  by_cases ht:eY x=true
  ·rw [if_pos ht]; exact hw0
  rw [if_neg ht]
  by_cases k2:k=2
  ·rw [if_pos k2]
   split
   ·exact mU h1 h2 (fun e=>EY (h3 e) hx) h4 h5 h6
   ·exact tG hx hw0
  rw [if_neg k2]
  by_cases k8:k=8∨k=9∨k=10∨k=11
  ·rw [if_pos k8]
   refine mU h1 (by rw [nZ,MA]; exact h2) h3 h4 h5 fun r hr=>?_
   obtain ⟨s,hs,rfl⟩:=nJ hr
   exact ih s hs x (h6 s hs) hx
  rw [if_neg k8]
  have head:oK (.mk k n y xs gs (fc dw ts ks x)):=by
   refine mU h1 (by cases ks <;> first | (simp [fc]; done) | simpa [fc] using h2) h3 h4 h5 fun r hr=>?_
   rcases lL hr with h | ⟨s,hs,rfl⟩
   ·exact h6 r h
   ·exact ih s hs x (h6 s hs) hx
  by_cases k5:k=5∨k=6
  ·rw [if_pos k5]; exact head
  rw [if_neg k5]
  by_cases k4:k=4
  ·rw [if_pos k4]
   split
   ·exact head
   split
   ·rename_i c2
    have hb:=AK (n:=((pT ts ks).length:Int)) (by omega) x hx c2
    refine mU h1 ?_ h3 h4 h5 fun r hr=>?_
    ·match ks,h2 with
     | [],_=>simp [kQ]
     | [a],_=>simp [kQ,fc]
     | [a,b],_=>simp [kQ,fc]
    ·rcases tl hr with h | ⟨s,hs,rfl⟩
     ·exact h6 r h
     ·exact ih s hs _ (h6 s hs) hb
   split
   ·exact mU h1 h2 (fun e=>EY (h3 e) hx) h4 h5 h6
   ·exact tG hx hw0
  ·rw [if_neg k4]; exact tG hx hw0
theorem KZ {ts:List (List Int)}:∀ (p:Pl),oK p→DQ p→oK (iT dw ts p) :=
 Pl.ind fun k n y xs gs ks ih hw hf=>by
  rw [oK] at hw
  obtain ⟨h1,h2,h3,h4,h5,h6⟩:=hw
  have h6:=lu.1 h6
  rw [DQ] at hf
  obtain ⟨f1,f2⟩:=hf
  have f2:=mO.1 f2
  have hks:∀ r ∈ ix dw ts ks,oK r:=fun r hr=>by
   obtain ⟨s,hs,rfl⟩:=qJ hr
   exact ih s hs (h6 s hs) (f2 s hs)
  have hlen:(ix dw ts ks).length≤2:=by rw [pL,MA]; exact h2
  rw [iT]
  generalize ix dw ts ks=l at hks hlen
  have same:oK (.mk k n y xs gs l):=mU h1 hlen h3 h4 h5 hks
  unfold nU
  split
  ·rename_i p
   have hp:=hks p (by simp)
   by_cases k2:k=2
   ·rw [if_pos k2]; exact Ha p y hp (f1 k2)
   rw [if_neg k2]
   split
   ·exact hp
   split
   ·have hq:=hp.q
    exact mU h1 hq.two h3 h4 h5 hq.ks
   ·exact same
  ·exact same
theorem GL:∀ p:Pl,dx p→dx (ln p) :=
 Pl.ind fun k n x xs gs ks ih h=>by
  cases h with
  | mk _ _ _ _ _ _ hn hx hg hk =>
   rw [ln]
   refine .mk _ _ _ _ _ _ ?_ ?_ ?_ fun p hp=>?_
   ·split
    ·exact hn
    ·omega
   ·split
    ·rw [dK]; exact hx
    ·simp
   ·split
    ·rw [MA]; exact hg
    ·simp
   ·rw [fX] at hp
    obtain ⟨q,hq,rfl⟩:=List.mem_map.1 hp
    exact ih q hq (hk q hq)
theorem tS {x:Ex} {p:Pl} (h:dx p):dx (iY x p):=.mk _ _ _ _ _ _ (by omega) (by simp) (by simp) fun r hr=>by rw [List.mem_singleton.1 hr]; exact h
theorem G0 {ts:List (List Int)}:∀ (p:Pl) (x:Ex),dx p→dx (aT dw ts p x) :=
 Pl.ind fun k n y xs gs ks ih x h=>by
  have h0:=h
  cases h with
  | mk _ _ _ _ _ _ hn hx hg hk =>
   have one:∀ {Y:Ex} {l:List Pl},(∀ r ∈ l,dx r)→dx (.mk k n Y xs gs l):=fun h=>.mk _ _ _ _ _ _ hn hx hg h
   rw [aT]
   repeat' split
   ·exact h0
   ·exact one hk
   ·exact tS h0
   ·exact one fun r hr=>by
     obtain ⟨s,hs,rfl⟩:=nJ hr
     exact ih s hs x (hk s hs)
   ·exact one fun r hr=>by
     rcases lL hr with h | ⟨s,hs,rfl⟩
     ·exact hk r h
     ·exact ih s hs x (hk s hs)
   ·exact one fun r hr=>by
     rcases lL hr with h | ⟨s,hs,rfl⟩
     ·exact hk r h
     ·exact ih s hs x (hk s hs)
   ·exact one fun r hr=>by
     rcases tl hr with h | ⟨s,hs,rfl⟩
     ·exact hk r h
     ·exact ih s hs _ (hk s hs)
   ·exact one hk
   ·exact tS h0
   ·exact tS h0
theorem Jg {ts:List (List Int)}:∀ (p:Pl),dx p→dx (iT dw ts p) :=
 Pl.ind fun k n y xs gs ks ih h=>by
  cases h with
  | mk _ _ _ _ _ _ hn hx hg hk =>
   have hks:∀ r ∈ ix dw ts ks,dx r:=fun r hr=>by
    obtain ⟨s,hs,rfl⟩:=qJ hr
    exact ih s hs (hk s hs)
   rw [iT]
   generalize ix dw ts ks=l at hks
   unfold nU
   split
   ·rename_i p
    have hp:=hks p (by simp)
    repeat' split
    ·exact G0 p y hp
    ·exact hp
    ·exact .mk _ _ _ _ _ _ hn hx hg hp.ks
    ·exact .mk _ _ _ _ _ _ hn hx hg hks
   ·exact .mk _ _ _ _ _ _ hn hx hg hks
theorem Fh {ts:List (List Int)} {p:Pl} (hok:dx p) (h:bH ts p=0):Gx ts p:=by
 obtain ⟨h1,h2⟩:=eJ h;have hw:=zw p 0 1 h2;exact ⟨Lq h1 p 0 1 (by omega) (by omega) h2,kY p 0 1 h2,hw.2,hw.1,KZ p hw.1 hw.2,GL _ (Jg p hok)⟩
theorem IP {ts:List (List Int)} {p:Pl} (hok:dx p):dx (fR ts p):=by
 unfold fR
 split
 ·exact GL _ (Jg p hok)
 ·exact GL p hok
theorem BW {row row':List Vl} {k:Int} {v:Vl} {c c':Int} {us:List Vl} (h:k=2→bF (row.getD c.toNat eD)=bF (row'.getD c'.toNat eD)):gh row k v c us=gh row' k v c' us:=by
 unfold gh;by_cases h1:k=1
 ·rw [if_pos h1,if_pos h1]
 rw [if_neg h1,if_neg h1];by_cases h2:k=2
 ·rw [if_pos h2,if_pos h2,h h2]
 rw [if_neg h2,if_neg h2]
theorem Ct {l r:List Vl} {i:Nat} (h:i<l.length):(l ++ r).getD i eD=l.getD i eD:=by
 rw [MD,MD,Mx h]
theorem xC {l r:List Vl} {i:Nat} (h:l.length≤i):(l ++ r).getD i eD=r.getD (i - l.length) eD:=by
 rw [MD,MD,My h]
theorem Gd (l r:List Vl):∀ x:Ex,bY (fun c=>decide (0≤c∧c<(l.length:Int))) x=true→aW (l ++ r) x=aW l x :=
 Ex.ind fun k v c ks ih h=>by
  rw [bY] at h
  by_cases h2:k=2
  ·rw [if_pos h2] at h
   have h:=of_decide_eq_true h
   have e:∀ row us,gh row k v c us=bF (row.getD c.toNat eD):=fun row us=>by unfold gh; rw [if_neg (by omega),if_pos h2]
   rw [aW,aW,e,e,Ct (by omega)]
  ·rw [if_neg h2] at h
   rw [aW,aW,cV,cV,MN fun x hx=>ih x hx (iE h x hx)]
   exact BW fun e=>absurd e h2
theorem C1 (l r:List Vl):∀ x:Ex,bY (fun c=>decide ((l.length:Int)≤c)) x=true→aW (l ++ r) x=aW r (jw l.length x) :=
 Ex.ind fun k v c ks ih h=>by
  unfold jw at ih ⊢
  rw [bY] at h
  rw [lW,aW,aW]
  by_cases h2:k=2
  ·rw [if_pos h2] at h
   have h:=of_decide_eq_true h
   unfold gh
   rw [if_neg (by omega),if_pos h2,if_neg (by omega),if_pos h2,if_pos h2,xC (by omega)]
   congr 2
   omega
  ·rw [if_neg h2] at h
   rw [cV,cV,fB,Nj]
   rw [show ks.map (aW (l ++ r))=ks.map (aW r ∘ lW fun c=>c - (l.length:Int)) from MN fun x hx=>ih x hx (iE h x hx)]
   unfold gh
   by_cases h1:k=1
   ·rw [if_pos h1,if_pos h1,if_pos h1,sY]
   ·rw [if_neg h1,if_neg h2,if_neg h1,if_neg h2]
theorem C9 {l r:List Vl} {x:Ex} (h:bY (fun c=>decide (0≤c∧c<(l.length:Int))) x=true):ax x (l ++ r)=ax x l:=by unfold ax; rw [Gd l r x h]
theorem yv {l r:List Vl} {x:Ex} (h:bY (fun c=>decide ((l.length:Int)≤c)) x=true):ax x (l ++ r)=ax (jw l.length x) r:=by unfold ax; rw [C1 l r x h]
def ik (n:Nat) (z:List Zp):Prop:=∀ y ∈ z,y.1.length=n
theorem ik.canon {n:Nat} {L:List Zp} (h:ik n L):ik n (canon L):=fun y hy=>by
 obtain ⟨x,hx,e⟩:=sW L y hy
 rw [e,im]
 exact h x hx
theorem ik.Eo {n:Nat} {z:List Zp} (f:Int→Int) (h:ik n z):ik n (aM f z):=fun y hy=>by
 obtain ⟨x,hx,rfl,_⟩:=gF f z y hy
 simp only [im]
 exact h x hx
theorem ik.sub {n:Nat} {z l:List Zp} (h:ik n z) (hs:∀ y ∈ l,y ∈ z):ik n l:=fun y hy=>h y (hs y hy)
theorem qf {l r:Nat} {x:Ex} {a b:List Zp} (ha:ik l a) (hb:ik r b):ik (l+r) (bX x a b):=fun y hy=>by
 unfold bX at hy
 obtain ⟨p,hp,hy⟩:=List.mem_flatMap.1 hy
 unfold cD at hy
 obtain ⟨q,hq,rfl⟩:=List.mem_map.1 hy
 simp only [Mw]
 rw [ha p hp,hb q (List.mem_filter.1 hq).1]
theorem nB {what l r:Nat} {x:Ex} {a b:List Zp} (_hw:what≤3) (ha:ik l a) (hb:ik r b):ik (if what=1∨what=2 then l else l+r) (ft what r x a b):=by
 unfold ft;by_cases h0:what=0
 ·rw [if_pos h0,if_neg (by omega)]; exact qf ha hb
 rw [if_neg h0];by_cases h1:what=1
 ·rw [if_pos h1,if_pos (by omega)]; exact ha.sub fun y hy=>(List.mem_filter.1 hy).1
 rw [if_neg h1];by_cases h2:what=2
 ·rw [if_pos h2,if_pos (by omega)]; exact ha.sub fun y hy=>(List.mem_filter.1 hy).1
 rw [if_neg h2,if_neg (by omega)];intro y hy;rcases List.mem_append.1 hy with hy | hy
 ·exact qf ha hb y hy
 ·unfold hY at hy;obtain ⟨p,hp,rfl⟩:=List.mem_map.1 hy;simp only [Mw,kN,List.length_replicate];rw [ha p (List.mem_filter.1 hp).1]
theorem Dt {xs:List Ex} {gs:List Ag} {z:List Zp}:ik (xs.length+gs.length) (dC xs gs (bj xs z)):=fun y hy=>by
 unfold dC at hy
 obtain ⟨p,hp,rfl⟩:=List.mem_map.1 hy
 simp only [Mw,MA]
 congr 1
 unfold ek at hp
 split at hp
 ·rename_i hc
  rw [List.mem_singleton.1 hp]
  simp [hc.1]
 ·obtain ⟨_,x,hx,e⟩:=sQ _ p hp
  have hm:=eO.1 hx
  rw [e,hm.2]
  simp [fj]
theorem H9 {xs:List Ex} {n:Int} {z:List Zp} {l:Nat} (hn:0≤n) (h:ik l z):ik l (jr n (bj xs z)):=fun y hy=>by
 obtain ⟨⟨x,hx,e⟩,_⟩:=qv n _ hn (fun x hx=>(eO.1 hx).1.2) y hy
 rw [e]
 exact h _ (eO.1 hx).1.1
def G5 (ts:List (List Int)) (data:List (List Zp)):Prop:=∀ i,i<ts.length→ik (ts.getD i []).length (data.getD i [])
theorem Gb {ts:List (List Int)} {data:List (List Zp)} (h:fU ts data=0):G5 ts data:=fun i hi y hy=>by
 obtain ⟨d1,d2⟩:=wN h
 have hi':i<data.length:=by omega
 have hz:=(gN _ _).1 (d2 i hi hi')
 rw [MD,Ms hi',Ny] at hy
 rw [MD,Ms hi,Ny]
 exact (hz.fit y hy).len
theorem He {ts:List (List Int)} {data:List (List Zp)} {k n:Int} {x:Ex} {xs:List Ex} {gs:List Ag}:iP ts data (.mk k n x xs gs [])=canon (data.getD n.toNat []):=by rw [iP,aQ,ou]; rfl
theorem fY {ts:List (List Int)} {data:List (List Zp)} {k n:Int} {x:Ex} {xs:List Ex} {gs:List Ag} {p:Pl}:iP ts data (.mk k n x xs gs [p])=gD data k n x xs gs [ag ts p] [iP ts data p]:=by rw [iP,aQ,ou,aQ,ou]
theorem iZ {ts:List (List Int)} {data:List (List Zp)} {k n:Int} {x:Ex} {xs:List Ex} {gs:List Ag} {p q:Pl}:iP ts data (.mk k n x xs gs [p,q])=gD data k n x xs gs [ag ts p,ag ts q] [iP ts data p,iP ts data q]:=by rw [iP,aQ,ou,aQ,ou,aQ,ou]
theorem IU {ts:List (List Int)} {data:List (List Zp)} (hD:G5 ts data):∀ (p:Pl),fD ts p→ik (ag ts p).length (iP ts data p) :=
 Pl.ind fun k n x xs gs ks ih hs=>by
  obtain ⟨⟨hk1,hk2⟩,hks,⟨e1,rfl,hn1,hn2⟩ | ⟨hk,p,q,rfl,ht⟩ | ⟨hk,hn,p,rfl⟩⟩:=bM hs
  ·rw [He,ag,aQ]
   exact (hD n.toNat (by omega)).canon
  ·have hp:=ih p (by simp) (hks p (by simp))
   have hq:=ih q (by simp) (hks q (by simp))
   rw [iZ,cO]
   unfold gD nX
   simp only
   by_cases k4:k=4
   ·rw [if_pos k4,if_neg (by omega),if_neg (by omega),Mw]
    exact (nB (what:=0) (by omega) hp hq).canon
   rw [if_neg k4]
   by_cases k5:k=5
   ·rw [if_pos k5,if_neg (by omega),if_pos (by omega)]
    exact (nB (what:=1) (by omega) hp hq).canon
   rw [if_neg k5]
   by_cases k6:k=6
   ·rw [if_pos k6,if_neg (by omega),if_pos (by omega)]
    exact (nB (what:=2) (by omega) hp hq).canon
   rw [if_neg k6]
   by_cases k7:k=7
   ·rw [if_pos k7,if_neg (by omega),if_neg (by omega),Mw]
    exact (nB (what:=3) (by omega) hp hq).canon
   rw [if_neg k7]
   have k89:k=8∨k=9:=by omega
   have ht:=ht k89
   rw [if_pos k89,lJ ht]
   have hb:∀ t,ik (ag ts p).length (iP ts data p ++ aM (bK t) (iP ts data q)):=fun t y hy=>by
    rcases List.mem_append.1 hy with hy | hy
    ·exact hp y hy
    ·rw [ht]; exact (hq.Eo _) y hy
   split <;> exact (hb _).canon
  ·have hp:=ih p (by simp) (hks p (by simp))
   rw [fY,bJ]
   unfold gD jY
   simp only
   by_cases k2:k=2
   ·rw [if_pos k2,if_neg (by omega),if_neg (by omega)]
    exact (hp.sub fun y hy=>(List.mem_filter.1 hy).1).canon
   rw [if_neg k2]
   by_cases k3:k=3
   ·rw [if_pos k3,if_pos k3]
    refine ik.canon fun y hy=>?_
    obtain ⟨r,_,rfl⟩:=List.mem_map.1 hy
    simp [fj,gT]
   rw [if_neg k3,if_neg k3]
   by_cases k10:k=10
   ·rw [if_pos k10,if_neg (by omega)]; exact hp.Eo _
   rw [if_neg k10]
   by_cases k11:k=11
   ·rw [if_pos k11,if_neg (by omega)]; exact hp.Eo _
   rw [if_neg k11]
   by_cases k12:k=12
   ·rw [if_pos k12,if_pos k12,Mw,MA]
    have:(gT (ag ts p) xs).length=xs.length:=by simp [gT]
    rw [this]
    exact Dt.canon
   rw [if_neg k12,if_neg k12]
   exact (H9 (hn (by omega)) hp).canon
theorem yn {x:Ex} (h:eY x=true) (q:List Vl):ax x q=true:=by
 obtain ⟨k,⟨vk,vn,vs⟩,c,ks⟩:=x;simp only [eY,Ex.k,Ex.v,MZ,beq_iff_eq] at h;obtain ⟨rfl,rfl,rfl⟩:=h;unfold ax;rw [aW];rfl
theorem qX {ts:List (List Int)} {data:List (List Zp)} (x:Ex) (p:Pl) (q:List Vl):wt (iP ts data (iY x p)) q=if ax x q then wt (iP ts data p) q else 0:=by
 unfold iY;rw [fY];simp only [gD,if_true];rw [cP];exact gM (ax x) (iR x) q _
theorem p7 (p:List Vl→Bool) (g:List Vl→Int):∀ z:List Zp,gS g (z.filter fun y=>p y.1)=gS (fun r=>if p r then g r else 0) z
 | []=>rfl
 | y :: r=>by
  have ih:=p7 p g r
  by_cases h:p y.1=true
  ·rw [List.filter_cons_of_pos (by simpa using h)]
   simp only [gS,h,if_true]
   rw [ih]
  ·rw [List.filter_cons_of_neg (by simpa using h)]
   simp only [gS,h]
   rw [ih]
   simp
theorem wV {a a':List Zp} {x:Ex} (h:∀ q,wt a' q=if ax x q then wt a q else 0) {g:List Vl→Int} (hg:uz g):gS g a'=gS (fun r=>if ax x r then g r else 0) a:=by
 rw [← p7];exact Ib (fun q=>by rw [h q]; exact (gM (ax x) (iR x) q a).symm) hg
theorem Fi {X x:Ex} {n:Nat} {a a' b:List Zp} (ha:ik n a) (hx:bY (fun c=>decide (0≤c∧c<(n:Int))) x=true) (h:∀ q,wt a' q=if ax x q then wt a q else 0) (q:List Vl):wt (bX X a' b) q=if ax x q then wt (bX X a b) q else 0:=by
 rw [jH,jH,wV h (yg X q b)];have key:∀ y ∈ a,(if ax x y.1 then gS (fun s=>if ax X (y.1 ++ s)=true∧aK (y.1 ++ s) q=0 then 1 else 0) b else 0)=if ax x q then gS (fun s=>if ax X (y.1 ++ s)=true∧aK (y.1 ++ s) q=0 then 1 else 0) b else (0:Int):=fun y hy=>by
  by_cases e:ax x y.1=ax x q
  ·rw [e]
  ·have z:gS (fun s=>if ax X (y.1 ++ s)=true∧aK (y.1 ++ s) q=0 then (1:Int) else 0) b=0:=by
    rw [ju (g':=fun _=>0) (fun s _=>?_),jt];rw [if_neg];rintro ⟨_,c⟩;have e1:=C9 (l:=y.1) (r:=s.1) (x:=x) (by rw [ha y hy]; exact hx);exact e (e1.symm.trans (fK c x))
   rw [z];simp
 rw [ju (g:=fun r=>if ax x r then gS (fun s=>if ax X (r ++ s)=true∧aK (r ++ s) q=0 then (1:Int) else 0) b else 0) (g':=fun r=>if ax x q then gS (fun s=>if ax X (r ++ s)=true∧aK (r ++ s) q=0 then (1:Int) else 0) b else 0) key];by_cases c:ax x q=true
 ·simp [c]
 ·simp only [c]; exact jt a
theorem Df {X x:Ex} {n:Nat} {a b b':List Zp} (ha:ik n a) (hx:bY (fun c=>decide ((n:Int)≤c)) x=true) (h:∀ q,wt b' q=if ax (jw n x) q then wt b q else 0) (q:List Vl):wt (bX X a b') q=if ax x q then wt (bX X a b) q else 0:=by
 rw [jH,jH];have key:∀ y ∈ a,gS (fun s=>if ax X (y.1 ++ s)=true∧aK (y.1 ++ s) q=0 then (1:Int) else 0) b'=if ax x q then gS (fun s=>if ax X (y.1 ++ s)=true∧aK (y.1 ++ s) q=0 then 1 else 0) b else 0:=fun y hy=>by
  rw [wV h (xT X q y.1)];have k2:∀ s ∈ b,(if ax (jw n x) s.1 then (if ax X (y.1 ++ s.1)=true∧aK (y.1 ++ s.1) q=0 then (1:Int) else 0) else 0)=if ax x q then (if ax X (y.1 ++ s.1)=true∧aK (y.1 ++ s.1) q=0 then (1:Int) else 0) else 0:=fun s _=>by
   by_cases c:ax X (y.1 ++ s.1)=true∧aK (y.1 ++ s.1) q=0
   ·have e1:=yv (l:=y.1) (r:=s.1) (x:=x) (by rw [ha y hy]; exact hx);rw [ha y hy] at e1;rw [← e1,fK c.2 x]
   ·rw [if_neg c]; simp
  rw [ju (g:=fun s=>if ax (jw n x) s then (if ax X (y.1 ++ s)=true∧aK (y.1 ++ s) q=0 then (1:Int) else 0) else 0) (g':=fun s=>if ax x q then (if ax X (y.1 ++ s)=true∧aK (y.1 ++ s) q=0 then (1:Int) else 0) else 0) k2];by_cases c:ax x q=true
  ·simp [c]
  ·simp only [c]; exact jt b
 rw [ju (g:=fun r=>gS (fun s=>if ax X (r ++ s)=true∧aK (r ++ s) q=0 then (1:Int) else 0) b') (g':=fun r=>if ax x q then gS (fun s=>if ax X (r ++ s)=true∧aK (r ++ s) q=0 then (1:Int) else 0) b else 0) key];by_cases c:ax x q=true
 ·simp [c]
 ·simp only [c]; exact jt a
theorem GG {X x:Ex} {a b:List Zp} (q:List Vl):wt (bX (tV 4 X x) a b) q=if ax x q then wt (bX X a b) q else 0:=by
 rw [jH,jH];have key:∀ r s:List Vl,(if ax (tV 4 X x) (r ++ s)=true∧aK (r ++ s) q=0 then (1:Int) else 0)=if ax x q then (if ax X (r ++ s)=true∧aK (r ++ s) q=0 then 1 else 0) else 0:=fun r s=>by
  rw [sZ];by_cases c:aK (r ++ s) q=0
  ·rw [fK c x];cases ax X (r ++ s) <;> cases ax x q <;> simp [c]
  ·simp [c]
 simp only [key];by_cases c:ax x q=true
 ·simp [c]
 ·simp only [c];have:∀ z:List Zp,gS (fun _=>if False then (1:Int) else 0) z=0:=fun z=>by simpa using jt z
  simp [jt]
theorem Jd (ok:List Int→Ex→Bool) {ts:List (List Int)} {data:List (List Zp)} (hD:G5 ts data):∀ (p:Pl) (x:Ex),fD ts p→bY (fun c=>decide (0≤c)) x=true→∀ q,wt (iP ts data (aT ok ts p x)) q=if ax x q then wt (iP ts data p) q else 0 :=
 Pl.ind fun k n y xs gs ks ih x hs hx q=>by
  obtain ⟨_,hks,hsh⟩:=bM hs
  rw [aT]
  by_cases ht:eY x=true
  ·rw [if_pos ht,yn ht]; rfl
  rw [if_neg ht]
  by_cases k2:k=2
  ·rw [if_pos k2]
   obtain ⟨e,_⟩ | ⟨e,_⟩ | ⟨_,_,p,rfl⟩:=hsh
   ·omega
   ·omega
   split
   ·subst k2
    rw [fY,fY]
    simp only [gD,if_true]
    rw [cP,cP]
    have e1:=gM (ax (tV 4 y x)) (iR _) q (iP ts data p)
    have e2:=gM (ax y) (iR _) q (iP ts data p)
    unfold kZ
    rw [e1,e2,sZ]
    cases ax y q <;> cases ax x q <;> rfl
   ·exact qX _ _ _
  rw [if_neg k2]
  by_cases k8:k=8∨k=9∨k=10∨k=11
  ·rw [if_pos k8]
   obtain ⟨e,_⟩ | ⟨hk,p,r,rfl,_⟩ | ⟨hk,_,p,rfl⟩:=hsh
   ·omega
   ·have ip:=ih p (by simp) x (hks p (by simp)) hx q
    have ir:=ih r (by simp) x (hks r (by simp)) hx q
    rw [eX,eX,eX,iZ,iZ]
    simp only [gD]
    simp only [if_neg (show ¬ k=4 by omega),if_neg (show ¬ k=5 by omega),if_neg (show ¬ k=6 by omega),if_neg (show ¬ k=7 by omega)]
    have key:∀ t,wt (canon (iP ts data (aT ok ts p x) ++ aM (bK t) (iP ts data (aT ok ts r x)))) q=if ax x q then wt (canon (iP ts data p ++ aM (bK t) (iP ts data r))) q else 0:=fun t=>by
     rw [cP,cP,eU,eU,ei (bK t) (by simp [bK]) q _ (fG _).gZ,ei (bK t) (by simp [bK]) q _ (fG _).gZ,ip,ir]
     cases ax x q <;> simp [bK]
    split <;> exact key _
   ·have ip:=ih p (by simp) x (hks p (by simp)) hx q
    rw [eX,eX,fY,fY]
    simp only [gD]
    simp only [if_neg (show ¬ k=2 by omega),if_neg (show ¬ k=3 by omega)]
    have key:∀ f:Int→Int,f 0=0→wt (aM f (iP ts data (aT ok ts p x))) q=if ax x q then wt (aM f (iP ts data p)) q else 0:=fun f f0=>by
     rw [ei f f0 q _ (fG _).gZ,ei f f0 q _ (fG _).gZ,ip]
     cases ax x q <;> simp [f0]
    by_cases k10:k=10
    ·simp only [if_pos k10]; exact key iV (by decide)
    ·simp only [if_neg k10,if_pos (show k=11 by omega)]; exact key iv (by decide)
  rw [if_neg k8]
  by_cases k5:k=5∨k=6
  ·rw [if_pos k5]
   obtain ⟨e,_⟩ | ⟨_,p,r,rfl,_⟩ | ⟨e,_⟩:=hsh
   ·omega
   ·have ip:=ih p (by simp) x (hks p (by simp)) hx q
    rw [fc,iZ,iZ]
    simp only [gD]
    simp only [if_neg (show ¬ k=4 by omega)]
    by_cases c5:k=5
    ·simp only [if_pos c5]
     rw [cP,cP]
     show wt (pZ y _ _) q=if ax x q then wt (pZ y _ _) q else 0
     rw [AY,AY,ip]
     cases ax x q <;> simp
    ·simp only [if_neg c5,if_pos (show k=6 by omega)]
     rw [cP,cP]
     show wt (gC y _ _) q=if ax x q then wt (gC y _ _) q else 0
     rw [AS,AS,ip]
     cases ax x q <;> simp
   ·omega
  rw [if_neg k5]
  by_cases k4:k=4
  ·rw [if_pos k4]
   obtain ⟨e,_⟩ | ⟨_,p,r,rfl,_⟩ | ⟨e,_⟩:=hsh
   ·omega
   ·have hlen:=IU hD p (hks p (by simp))
    rw [mi]
    have show0:∀ (X:Ex) (p r:Pl),wt (iP ts data (.mk k n X xs gs [p,r])) q=wt (bX X (iP ts data p) (iP ts data r)) q:=fun X p r=>by
     rw [iZ]
     simp only [gD]
     rw [if_pos k4,cP]
     rfl
    split
    ·rename_i hc
     have hc':=su (g:=fun c=>decide (0≤c∧c<((ag ts p).length:Int))) (fun c h=>by simpa using h) x (CJ x hx hc)
     rw [fc,show0,show0]
     exact Fi hlen hc' (fun q=>ih p (by simp) x (hks p (by simp)) hx q) q
    split
    ·rename_i _ hc
     rw [kQ,fc,show0,show0]
     exact Df hlen hc (fun q=>ih r (by simp) _ (hks r (by simp)) (Ge x hc) q) q
    split
    ·rw [show0,show0]
     exact GG q
    ·exact qX _ _ _
   ·omega
  rw [if_neg k4]
  exact qX _ _ _
theorem nu {ts:List (List Int)} {data:List (List Zp)} {n:Int} {x:Ex} {xs:List Ex} {gs:List Ag} (p:Pl) (q:List Vl):wt (iP ts data (.mk 10 n x xs gs [p])) q=iV (wt (iP ts data p) q):=by
 rw [fY];exact ei iV (by decide) q _ (fG p).gZ
theorem j5 {ts:List (List Int)} {data:List (List Zp)} {n:Int} {x:Ex} {xs:List Ex} {gs:List Ag} (p:Pl) (q:List Vl):wt (iP ts data (.mk 11 n x xs gs [p])) q=iv (wt (iP ts data p) q):=by
 rw [fY];exact ei iv (by decide) q _ (fG p).gZ
theorem GH (ok:List Int→Ex→Bool) {ts:List (List Int)} {data:List (List Zp)} (hD:G5 ts data):∀ p:Pl,fD ts p→KC p→ag ts (iT ok ts p)=ag ts p∧fD ts (iT ok ts p)∧iP ts data (iT ok ts p)=iP ts data p :=
 Pl.ind fun k n y xs gs ks ih hs hf=>by
  rw [KC] at hf
  obtain ⟨hf2,hfs⟩:=hf
  have hfs:=qT.1 hfs
  obtain ⟨_,hks,⟨_,rfl,_⟩ | ⟨_,p,q,rfl,_⟩ | ⟨hk,_,p,rfl⟩⟩:=bM hs
  ·rw [iT,ix]
   exact ⟨rfl,hs,rfl⟩
  ·obtain ⟨cp,sp,ep⟩:=ih p (by simp) (hks p (by simp)) (hfs p (by simp))
   obtain ⟨cq,sq,eq⟩:=ih q (by simp) (hks q (by simp)) (hfs q (by simp))
   rw [iT,ix,ix,ix]
   refine ⟨?_,?_,?_⟩
   ·show ag ts (.mk k n y xs gs [_,_])=_
    rw [cO,cO,cp,cq]
   ·refine gW hs rfl (by simp only [aQ,cp,cq]) fun r hr=>?_
    simp only [Mu,Np,or_false] at hr
    rcases hr with rfl | rfl
    ·exact sp
    ·exact sq
   ·show iP ts data (.mk k n y xs gs [_,_])=_
    rw [iZ,iZ,cp,cq,ep,eq]
  ·obtain ⟨cp,sp,ep⟩:=ih p (by simp) (hks p (by simp)) (hfs p (by simp))
   rw [iT,ix,ix]
   generalize iT ok ts p=p' at cp sp ep ⊢
   unfold nU
   simp only
   by_cases k2:k=2
   ·rw [if_pos k2]
    subst k2
    refine ⟨by rw [eS ok p' y sp,cp,bJ]; rfl,vy ok p' y sp,gL _ _ (fG _) (fG _) fun q=>?_⟩
    rw [Jd ok hD p' y sp (hf2 rfl) q,ep,fY]
    simp only [gD,if_true]
    rw [cP]
    exact (gM (ax y) (iR y) q _).symm
   rw [if_neg k2]
   have same:ag ts (.mk k n y xs gs [p'])=ag ts (.mk k n y xs gs [p])∧fD ts (.mk k n y xs gs [p'])∧iP ts data (.mk k n y xs gs [p'])=iP ts data (.mk k n y xs gs [p]):=by
    refine ⟨by rw [bJ,bJ,cp],gW hs rfl (by simp only [aQ,cp]) fun r hr=>?_,by rw [fY,fY,cp,ep]⟩
    rw [List.mem_singleton.1 hr]; exact sp
   have one:∀ {k' n':Int} {y':Ex} {xs':List Ex} {gs':List Ag} {ks':List Pl},fD ts (.mk k' n' y' xs' gs' ks')→k'=10∨k'=11→∃ r,ks' = [r]:=fun sp e=>by
    obtain ⟨_,_,⟨e',_⟩ | ⟨e',_⟩ | ⟨_,_,r,er⟩⟩:=bM sp
    ·omega
    ·omega
    ·exact ⟨r,er⟩
   by_cases c1:(k=10∨k=11)∧p'.k=11
   ·rw [if_pos c1]
    obtain ⟨k',n',y',xs',gs',ks'⟩:=p'
    simp only [Pl.k] at c1
    obtain ⟨c1,rfl⟩:=c1
    obtain ⟨r,rfl⟩:=one sp (by omega)
    refine ⟨?_,sp,gL _ _ (fG _) (fG _) fun q=>?_⟩
    ·rw [cp,bJ]
     unfold jY
     rw [if_neg (by omega),if_neg (by omega)]
    ·rw [← same.2.2]
     rcases c1 with rfl | rfl
     ·rw [j5,nu,j5,GX]
     ·rw [j5,j5,j5,Hg]
   rw [if_neg c1]
   by_cases c2:(k=10∨k=11)∧p'.k=10
   ·rw [if_pos c2]
    obtain ⟨k',n',y',xs',gs',ks'⟩:=p'
    simp only [Pl.k] at c2
    obtain ⟨c2,rfl⟩:=c2
    obtain ⟨r,rfl⟩:=one sp (by omega)
    have er:ag ts r=ag ts p:=by rw [← cp,bJ]; rfl
    refine ⟨?_,gW hs rfl (by simp only [Pl.ks,aQ,er]) fun t ht=>?_,gL _ _ (fG _) (fG _) fun q=>?_⟩
    ·show ag ts (.mk k n y xs gs [r])=_
     rw [bJ,bJ,er]
    ·rw [List.mem_singleton.1 ht]
     exact (bM sp).2.1 r (by simp)
    ·rw [← same.2.2]
     show wt (iP ts data (.mk k n y xs gs [r])) q=_
     rcases c2 with rfl | rfl
     ·rw [nu,nu,nu,Hb]
     ·rw [j5,j5,nu,one_pos]
   ·rw [if_neg c2]
    exact same
theorem Fl {data:List (List Zp)} {k n:Int} {x:Ex} {xs:List Ex} {gs:List Ag} {cs:List (List Int)} {zs:List (List Zp)} (hl:cs.length=dD k) (hz:zs.length=cs.length) (hk:1≤k∧k≤13) :
  gD data k (if k=1∨k=13 then n else 0) (if k=2∨4≤k∧k≤7 then lW (fun c=>c) x else AV) (if k=3∨k=12∨k=13 then cQ (fun c=>c) xs else []) (if k=12 then gs.map mB else []) cs zs=gD data k n x xs gs cs zs:=by
 unfold dD at hl;unfold gD
 match cs,zs,hl,hz with
 | [],[],hl,_ =>
  have h1:k=1:=by
   by_cases e:k=1
   ·exact e
   ·rw [if_neg e] at hl;by_cases e2:4≤k∧k≤9
    ·rw [if_pos e2] at hl; cases hl
    ·rw [if_neg e2] at hl; cases hl
  simp only [h1,true_or,if_true]
 | [c],[z],hl,_ =>
  simp only;by_cases h2:k=2
  ·rw [if_pos h2,if_pos h2,if_pos (show k=2∨4≤k∧k≤7 from .inl h2)];unfold kZ;have:=uK x;unfold cx at this;rw [this]
  rw [if_neg h2,if_neg h2];by_cases h3:k=3
  ·rw [if_pos h3,if_pos h3,if_pos (show k=3∨k=12∨k=13 from .inl h3),Bc]
  rw [if_neg h3,if_neg h3];by_cases h10:k=10
  ·rw [if_pos h10,if_pos h10]
  rw [if_neg h10,if_neg h10];by_cases h11:k=11
  ·rw [if_pos h11,if_pos h11]
  rw [if_neg h11,if_neg h11];by_cases h12:k=12
  ·rw [if_pos h12,if_pos h12,if_pos h12,if_pos (show k=3∨k=12∨k=13 by omega),nt,uF]
  rw [if_neg h12,if_neg h12];have h13:k=13:=by
   by_cases e:k=1
   ·rw [if_pos e] at hl; cases hl
   ·rw [if_neg e] at hl;by_cases e2:4≤k∧k≤9
    ·rw [if_pos e2] at hl; cases hl
    ·omega
  rw [if_pos (show k=3∨k=12∨k=13 by omega),if_pos (show k=1∨k=13 by omega),nt]
 | l :: r :: s,a :: b :: t,hl,_ =>
  simp only;have h4:4≤k∧k≤9:=by
   by_cases e:k=1
   ·rw [if_pos e] at hl; cases hl
   ·rw [if_neg e] at hl;by_cases e2:4≤k∧k≤9
    ·exact e2
    ·rw [if_neg e2] at hl; cases hl
  by_cases h8:k=8∨k=9
  ·simp only [if_neg (show ¬ k=4 by omega),if_neg (show ¬ k=5 by omega),if_neg (show ¬ k=6 by omega),if_neg (show ¬ k=7 by omega)]
  ·rw [if_pos (show k=2∨4≤k∧k≤7 by omega)];have e:=fun w=>wP w r.length x a b
   unfold cx at e;simp only [e]
theorem Fe {ts:List (List Int)} {data:List (List Zp)}:∀ p:Pl,fD ts p→iP ts data (ln p)=iP ts data p :=
 Pl.ind fun k n x xs gs ks ih hs=>by
  obtain ⟨hk,hks,_⟩:=bM hs
  have hl:ks.length=dD k:=by rw [fD] at hs; exact hs.2.1
  have hc:aQ ts (fV ks)=aQ ts ks:=by
   rw [bB,bB,fX,Nj];exact MN fun r hr=>vl r (hks r hr)
  have he:ou ts data (fV ks)=ou ts data ks:=by
   rw [jo,jo,fX,Nj];exact MN fun r hr=>ih r hr (hks r hr)
  rw [ln,iP,iP,hc,he,Fl (by rw [bB,MA]; exact hl) (by rw [jo,bB,MA,MA]) hk]
theorem Cg {ts:List (List Int)} {data:List (List Zp)} {p:Pl} (hl:bH ts p=0) (hd:fU ts data=0) (h1:(bu ts data p).1=0) (h2:(bu ts data (fR ts p)).1=0):(bu ts data (fR ts p)).2=(bu ts data p).2:=by
 obtain ⟨_,hx⟩:=eJ hl;have hs:=kY p 0 1 hx;have hf:=we p 0 1 hx;have hr:=GH dw (Gb hd) p hs hf;rw [vS _ h1,vS _ h2];unfold fR
 split
 ·rw [Fe _ hr.2.1,hr.2.2]
 ·exact Fe p hs
end Go.Proofs.YtjebpkhkjkjphaaGreat
namespace Go.Proofs.YtjebpkhkjkjphaaGreat
open Go.RowKit Go.Lib Go.Shelf
set_option maxRecDepth 100000
set_option maxHeartbeats 16000000
def Ks:Ex:=.mk 2 eD 0 []
def EP:Ex:=.mk 16 eD 0 [Ks]
def Fp:Pl:=.mk 1 0 AV [] [] []
def Kv:Pl:=.mk 11 0 AV [] [] [Fp]
def zQ:Pl:=.mk 2 0 EP [] [] [Kv]
theorem Bk:bH [[3]] zQ=0:=by rfl
theorem sS:fR [[3]] zQ = .mk 11 0 AV [] [] [.mk 2 0 EP [] [] [Fp]]:=by rfl
theorem AQ:dx zQ:=by
 refine .mk _ _ _ _ _ _ (by omega) (by simp) (by simp) fun p hp=>?_
 rw [List.mem_singleton.1 hp];refine .mk _ _ _ _ _ _ (by omega) (by simp) (by simp) fun p hp=>?_
 rw [List.mem_singleton.1 hp];exact .mk _ _ _ _ _ _ (by omega) (by simp) (by simp) fun p hp=>by cases hp
theorem CY (w:World):Calls Tryz.prog 5 #[] w fun e w'=>e = .returned (.bool true)∧Below w.heap.size w w':=by
 have aA:Below w.heap.size w (w.alloc (.cells nC 31)):=((Md w.heap.size w).alloc (Mc _) (.cells nC 31))
 have aZ:w.heap.size+1≤(w.alloc (.cells nC 31)).heap.size:=by simp only [Mf]; omega
 have aQ0:(w.alloc (.cells nC 31)).heap[w.heap.size]? = some (.cells nC 31 (0,0)):=by
  exact aB w nC 31 rfl
 go_enter Tryz.func5,Tryz.ntmps5;go_upto_region 2 with fail
 generalize (w.alloc (.cells nC 31))=w1 at *
 have bA:Below w1.heap.size w1 ((w1.alloc (.cells uy 27)).alloc (.cells (vH (some ⟨w1.heap.size,0,none⟩) 1 1) 27)):=(((Md w1.heap.size w1).alloc (Mc _) (.cells uy 27)).alloc (by simp only [Mf]; omega) (.cells (vH (some ⟨w1.heap.size,0,none⟩) 1 1) 27))
 have bZ:w1.heap.size+2≤((w1.alloc (.cells uy 27)).alloc (.cells (vH (some ⟨w1.heap.size,0,none⟩) 1 1) 27)).heap.size:=by simp only [Mf]; omega
 have bQ0:((w1.alloc (.cells uy 27)).alloc (.cells (vH (some ⟨w1.heap.size,0,none⟩) 1 1) 27)).heap[w1.heap.size]? = some (.cells uy 27 (0,0)):=by
  rw [aG _ _ (by simp only [Mf]; omega)];exact aB w1 uy 27 rfl
 have bQ1:((w1.alloc (.cells uy 27)).alloc (.cells (vH (some ⟨w1.heap.size,0,none⟩) 1 1) 27)).heap[w1.heap.size+1]? = some (.cells (vH (some ⟨w1.heap.size,0,none⟩) 1 1) 27 (0,0)):=by
  exact aB (w1.alloc (.cells uy 27)) (vH (some ⟨w1.heap.size,0,none⟩) 1 1) 27 (by simp only [Mf])
 go_upto_region 3 with fail
 have A3:=chain aA bA;have T3:=(bA.block _ (ae aQ0)).trans aQ0;generalize ((w1.alloc (.cells uy 27)).alloc (.cells (vH (some ⟨w1.heap.size,0,none⟩) 1 1) 27))=w3 at *
 have cA:Below w3.heap.size w3 ((((w3.alloc (.cells #[.int .i64 3] 3)).alloc (.cells #[.slice (some ⟨w3.heap.size,0,none⟩) 1 1] 42)).alloc (.cells nC 31)).alloc (.cells (sj (some ⟨w3.heap.size+2,0,none⟩) 1 1) 31)):=(((((Md w3.heap.size w3).alloc (Mc _) (.cells #[.int .i64 3] 3)).alloc (by simp only [Mf]; omega) (.cells #[.slice (some ⟨w3.heap.size,0,none⟩) 1 1] 42)).alloc (by simp only [Mf]; omega) (.cells nC 31)).alloc (by simp only [Mf]; omega) (.cells (sj (some ⟨w3.heap.size+2,0,none⟩) 1 1) 31))
 have cZ:w3.heap.size+4≤((((w3.alloc (.cells #[.int .i64 3] 3)).alloc (.cells #[.slice (some ⟨w3.heap.size,0,none⟩) 1 1] 42)).alloc (.cells nC 31)).alloc (.cells (sj (some ⟨w3.heap.size+2,0,none⟩) 1 1) 31)).heap.size:=by simp only [Mf]; omega
 have cQ0:((((w3.alloc (.cells #[.int .i64 3] 3)).alloc (.cells #[.slice (some ⟨w3.heap.size,0,none⟩) 1 1] 42)).alloc (.cells nC 31)).alloc (.cells (sj (some ⟨w3.heap.size+2,0,none⟩) 1 1) 31)).heap[w3.heap.size]? = some (.cells #[.int .i64 3] 3 (0,0)):=by
  rw [aG _ _ (by simp only [Mf]; omega),aG _ _ (by simp only [Mf]; omega),aG _ _ (by simp only [Mf]; omega)];exact aB w3 #[.int .i64 3] 3 rfl
 have cQ1:((((w3.alloc (.cells #[.int .i64 3] 3)).alloc (.cells #[.slice (some ⟨w3.heap.size,0,none⟩) 1 1] 42)).alloc (.cells nC 31)).alloc (.cells (sj (some ⟨w3.heap.size+2,0,none⟩) 1 1) 31)).heap[w3.heap.size+1]? = some (.cells #[.slice (some ⟨w3.heap.size,0,none⟩) 1 1] 42 (0,0)):=by
  rw [aG _ _ (by simp only [Mf]; omega),aG _ _ (by simp only [Mf]; omega)];exact aB (w3.alloc (.cells #[.int .i64 3] 3)) #[.slice (some ⟨w3.heap.size,0,none⟩) 1 1] 42 (by simp only [Mf])
 have cQ2:((((w3.alloc (.cells #[.int .i64 3] 3)).alloc (.cells #[.slice (some ⟨w3.heap.size,0,none⟩) 1 1] 42)).alloc (.cells nC 31)).alloc (.cells (sj (some ⟨w3.heap.size+2,0,none⟩) 1 1) 31)).heap[w3.heap.size+2]? = some (.cells nC 31 (0,0)):=by
  rw [aG _ _ (by simp only [Mf]; omega)];exact aB ((w3.alloc (.cells #[.int .i64 3] 3)).alloc (.cells #[.slice (some ⟨w3.heap.size,0,none⟩) 1 1] 42)) nC 31 (by simp only [Mf])
 have cQ3:((((w3.alloc (.cells #[.int .i64 3] 3)).alloc (.cells #[.slice (some ⟨w3.heap.size,0,none⟩) 1 1] 42)).alloc (.cells nC 31)).alloc (.cells (sj (some ⟨w3.heap.size+2,0,none⟩) 1 1) 31)).heap[w3.heap.size+3]? = some (.cells (sj (some ⟨w3.heap.size+2,0,none⟩) 1 1) 31 (0,0)):=by
  exact aB (((w3.alloc (.cells #[.int .i64 3] 3)).alloc (.cells #[.slice (some ⟨w3.heap.size,0,none⟩) 1 1] 42)).alloc (.cells nC 31)) (sj (some ⟨w3.heap.size+2,0,none⟩) 1 1) 31 (by simp only [Mf])
 have KX:aX w3.heap.size w3 (some ⟨w1.heap.size,0,none⟩) [Ks]:=by
  refine .some w1.heap.size 0 [Ks] (fun _=>none) (fun _=>0) (ae bQ0) (fun i hi=>?_) (fun i hi=>?_)
  ·obtain rfl:i=0:=by simp at hi; omega
   exact ⟨cell_of (i:=0) bQ0 rfl,cell_of (i:=1) bQ0 rfl,cell_of (i:=2) bQ0 rfl,cell_of (i:=3) bQ0 rfl,cell_of (i:=4) bQ0 rfl,cell_of (i:=5) bQ0 rfl⟩
  ·obtain rfl:i=0:=by simp at hi; omega
   exact .nil _
 have A7:=chain A3 cA
 have TB:iW ((((w3.alloc (.cells #[.int .i64 3] 3)).alloc (.cells #[.slice (some ⟨w3.heap.size,0,none⟩) 1 1] 42)).alloc (.cells nC 31)).alloc (.cells (sj (some ⟨w3.heap.size+2,0,none⟩) 1 1) 31)).heap.size ((((w3.alloc (.cells #[.int .i64 3] 3)).alloc (.cells #[.slice (some ⟨w3.heap.size,0,none⟩) 1 1] 42)).alloc (.cells nC 31)).alloc (.cells (sj (some ⟨w3.heap.size+2,0,none⟩) 1 1) 31)) (some ⟨w3.heap.size+1,0,none⟩) [[3]]:=by
  refine .inr ⟨w3.heap.size+1,0,fun _=>some ⟨w3.heap.size,0,none⟩,fun _=>1,rfl,ae cQ1,fun i hi=>?_⟩;obtain rfl:i=0:=by simp at hi; omega
  refine ⟨cell_of (i:=0) cQ1 rfl,by simp [maxLen],.inr ⟨w3.heap.size,0,rfl,ae cQ0,fun i hi=>?_⟩⟩;obtain rfl:i=0:=by simp at hi; omega
  exact cell_of (i:=0) cQ0 rfl
 have elv:∀ {W:World} {b:Nat} {L:List Value},W.heap[b]? = some (.cells L.toArray 31 (0,0))→At W b 0 L:=fun h=>At.of h
 have P2:jF ((((w3.alloc (.cells #[.int .i64 3] 3)).alloc (.cells #[.slice (some ⟨w3.heap.size,0,none⟩) 1 1] 42)).alloc (.cells nC 31)).alloc (.cells (sj (some ⟨w3.heap.size+2,0,none⟩) 1 1) 31)).heap.size ((((w3.alloc (.cells #[.int .i64 3] 3)).alloc (.cells #[.slice (some ⟨w3.heap.size,0,none⟩) 1 1] 42)).alloc (.cells nC 31)).alloc (.cells (sj (some ⟨w3.heap.size+2,0,none⟩) 1 1) 31)) (some ⟨w3.heap.size+2,0,none⟩) [Fp]:=by
  refine .some (w3.heap.size+2) 0 [Fp] (fun _=>⟨none,0,none,0,none,0,none,0⟩) (ae cQ2) (fun i hi=>?_) (fun i hi=>?_) (fun i hi=>?_) (fun i hi=>?_) (fun i hi=>?_)
  all_goals obtain rfl:i=0:=by simp at hi; omega
  ·exact yd (At.of cQ2)
  ·exact .nil _
  ·exact .nil _
  ·exact .inl rfl
  ·exact .nil _
 have P1:jF ((((w3.alloc (.cells #[.int .i64 3] 3)).alloc (.cells #[.slice (some ⟨w3.heap.size,0,none⟩) 1 1] 42)).alloc (.cells nC 31)).alloc (.cells (sj (some ⟨w3.heap.size+2,0,none⟩) 1 1) 31)).heap.size ((((w3.alloc (.cells #[.int .i64 3] 3)).alloc (.cells #[.slice (some ⟨w3.heap.size,0,none⟩) 1 1] 42)).alloc (.cells nC 31)).alloc (.cells (sj (some ⟨w3.heap.size+2,0,none⟩) 1 1) 31)) (some ⟨w3.heap.size+3,0,none⟩) [Kv]:=by
  refine .some (w3.heap.size+3) 0 [Kv] (fun _=>⟨none,0,none,0,none,0,some ⟨w3.heap.size+2,0,none⟩,1⟩) (ae cQ3) (fun i hi=>?_) (fun i hi=>?_) (fun i hi=>?_) (fun i hi=>?_) (fun i hi=>?_)
  all_goals obtain rfl:i=0:=by simp at hi; omega
  ·exact yd (At.of cQ3)
  ·exact .nil _
  ·exact .nil _
  ·exact .inl rfl
  ·exact P2
 have con:=Ax [[3]] zQ ⟨some ⟨w1.heap.size,0,none⟩,1,none,0,none,0,some ⟨w3.heap.size+3,0,none⟩,1⟩ (some ⟨w3.heap.size+1,0,none⟩) 1 ((((w3.alloc (.cells #[.int .i64 3] 3)).alloc (.cells #[.slice (some ⟨w3.heap.size,0,none⟩) 1 1] 42)).alloc (.cells nC 31)).alloc (.cells (sj (some ⟨w3.heap.size+2,0,none⟩) 1 1) 31)) TB ⟨(aX.next cA (Mc _) KX).up cA.size,.nil _,.inl rfl,P1⟩ AQ (Fh AQ)
 rw [Bk] at con
 have con:Calls Tryz.prog 6 #[.slice (some ⟨w3.heap.size+1,0,none⟩) 1 1,.agg #[.int .i64 2,.int .i64 0,.int .i64 16,.int .i64 0,.int .i64 0,.string ⟨#[]⟩,.int .i64 0,.slice (some ⟨w1.heap.size,0,none⟩) 1 1,.slice none 0 0,.slice none 0 0,.slice (some ⟨w3.heap.size+3,0,none⟩) 1 1]] ((((w3.alloc (.cells #[.int .i64 3] 3)).alloc (.cells #[.slice (some ⟨w3.heap.size,0,none⟩) 1 1] 42)).alloc (.cells nC 31)).alloc (.cells (sj (some ⟨w3.heap.size+2,0,none⟩) 1 1) 31)) fun e w'=>(∃ q',e = .returned (.tuple #[gR (fR [[3]] zQ) q',.int .i64 0])∧mE (fun b=>((((w3.alloc (.cells #[.int .i64 3] 3)).alloc (.cells #[.slice (some ⟨w3.heap.size,0,none⟩) 1 1] 42)).alloc (.cells nC 31)).alloc (.cells (sj (some ⟨w3.heap.size+2,0,none⟩) 1 1) 31)).heap.size≤b) w' (fR [[3]] zQ) q')∧Below ((((w3.alloc (.cells #[.int .i64 3] 3)).alloc (.cells #[.slice (some ⟨w3.heap.size,0,none⟩) 1 1] 42)).alloc (.cells nC 31)).alloc (.cells (sj (some ⟨w3.heap.size+2,0,none⟩) 1 1) 31)).heap.size ((((w3.alloc (.cells #[.int .i64 3] 3)).alloc (.cells #[.slice (some ⟨w3.heap.size,0,none⟩) 1 1] 42)).alloc (.cells nC 31)).alloc (.cells (sj (some ⟨w3.heap.size+2,0,none⟩) 1 1) 31)) w':=con.mono fun e w' h=>⟨h.2.1 rfl,h.2.2⟩
 have L1:w1.heap.size+1<w3.heap.size:=by omega
 have L0:w.heap.size<w3.heap.size:=ae T3;have L2:w1.heap.size<w3.heap.size:=by omega
 have L3:w1.heap.size<w3.heap.size+1:=by omega
 have L4:w.heap.size<w3.heap.size+1:=by omega
 have L5:w.heap.size<w3.heap.size+1+1:=by omega
 have L6:w.heap.size<w3.heap.size+2:=by omega
 have L7:w1.heap.size+1<w3.heap.size+1:=by omega
 obtain ⟨x0,x1,x2,x3,x4,x5⟩:=dV bQ1;obtain ⟨t0,t1,t2,t3,t4,t5,t6,t7,t8,t9,t10⟩:=cw T3;go_wp2_with fail
 refine con.mono ?_;rintro e w8 ⟨_,h8,hb8⟩;obtain ⟨rq,rfl,P8⟩:=h8 (by first | rfl | trivial);clear con x0 x1 x2 x3 x4 x5 t0 t1 t2 t3 t4 t5 t6 t7 t8 t9 t10 TB P1 P2 KX;have A8:=chain A7 hb8;obtain ⟨rp,hrp⟩:∃ rp,fR [[3]] zQ=rp:=⟨_,rfl⟩
 rw [hrp] at P8 ⊢;have b11:(rp.k == 11)=true:=by rw [← hrp,sS]; rfl
 have hks:rp.ks = [.mk 2 0 EP [] [] [Fp]]:=by rw [← hrp,sS]; rfl
 have HL:Hid (rp.ks.length=1):=by rw [hks]; rfl
 obtain ⟨b,off,q1,eka,hbl,hel,hrest⟩:=P8.b.ks.elem (k:=0) (by rw [hks]; simp);have k2:w8.cell? ⟨b,off,none⟩=some (.int .i64 2):=by
  have:=hel.c0;simp only [hks,Nc,Nv,Ng] at this;exact this
 unfold gR dS;rw [eka,HL.out];clear hrest hel hks hrp eka P8;have al:=aa w8 (.cells (BM rp rq (some ⟨b,off,none⟩) 1 rq.kc) 31)
 have QR:=ak w8 (BM rp rq (some ⟨b,off,none⟩) 1 rq.kc) 31;have k2':=(al.cell (p:=⟨b,off,none⟩) hbl).trans k2;dsimp only;go_upto_region 4 with fail
 have A9:=chain A8 al;generalize w8.alloc (.cells (BM rp rq (some ⟨b,off,none⟩) 1 rq.kc) 31)=w9 at *;obtain ⟨r0,r1,r2,r3,r4,r5,r6,r7,r8,r9,r10⟩:=cw QR;go_wp2_with fail
 go_ret;exact ⟨rfl,A9⟩
theorem Dn {ts:List (List Int)} {data:List (List Zp)} {p:Pl} (hl:bH ts p=0) (h1:Dk ts data p=0) (h2:Dk ts data (fR ts p)=0):CM ts data (fR ts p)=CM ts data p:=by
 obtain ⟨_,hx⟩:=eJ hl;have hs:=kY p 0 1 hx;have hr:=yu hs hl;unfold Dk at h1 h2;rw [if_neg (by simp [hl])] at h1;rw [if_neg (by simp [hr])] at h2;by_cases hd:fU ts data=0
 ·rw [if_neg (by simp [hd])] at h1 h2;unfold CM;rw [if_neg (by simp [hr,hd]),if_neg (by simp [hl,hd])];exact Cg hl hd h1 h2
 ·rw [if_pos hd] at h1; exact absurd h1 hd
theorem oz (ta:Option Addr) (tc:Nat) (ts:List (List Int)) (p:Pl) (q:Pw) (da:Option Addr) (dc:Nat) (data:List (List Zp)) (w:World) (hT:iW w.heap.size w ta ts) (hp:oh w.heap.size w p q) (hk:dx p) (hD:rk w da data) (_hn:data.length≤10000000000000) :
  Calls Tryz.prog 3 #[.slice ta ts.length tc,gR p q,.slice da data.length dc] w fun e w'=>e = .returned (.bool true)∧Below w.heap.size w w':=by
 have HT:=aw hT;have HP:=aw hp;have HK:=aw hk;have HD:=aw hD;clear hT hp hk hD;unfold gR;have A:Below w.heap.size w (w.alloc (.cells (mf p q p.ks.length) 31)):=((Md w.heap.size w).alloc (Mc _) (.cells (mf p q p.ks.length) 31))
 have Z:w.heap.size+1≤(w.alloc (.cells (mf p q p.ks.length) 31)).heap.size:=by simp only [Mf]; omega
 have Q0:(w.alloc (.cells (mf p q p.ks.length) 31)).heap[w.heap.size]? = some (.cells (mf p q p.ks.length) 31 (0,0)):=by
  exact aB w (mf p q p.ks.length) 31 rfl
 go_enter Tryz.func3,Tryz.ntmps3;go_upto_region 1 with fail
 generalize (w.alloc (.cells (mf p q p.ks.length) 31))=w1 at *;have con:=CY w1;go_wp2_with fail
 refine con.mono ?_;rintro e w2 ⟨rfl,hb2⟩;clear con;have A2:=chain A hb2;have Q2:=(hb2.block _ (ae Q0)).trans Q0;have con:=Ax ts p q ta tc w2 ((HT.out.next A2 (Mc _)).up A2.size) ((HP.out.next A2 (Mc _)).up A2.size) HK.out (Fh HK.out);obtain ⟨le,hle⟩:∃ le,bH ts p=le:=⟨_,rfl⟩
 rw [hle] at con;have HLE:=aw hle;clear hle A Q0 hb2;unfold gR at con;dsimp only;obtain ⟨n0,n1,n2,n3,n4,n5,n6,n7,n8,n9,n10⟩:=cw Q2;go_wp2_with fail
 refine con.mono ?_;rintro e w3 ⟨hbad,hgood,hb3⟩;clear con n0 n1 n2 n3 n4 n5 n6 n7 n8 n9 n10;have A3:=chain A2 hb3;have Q3:=(hb3.block _ (ae Q2)).trans Q2;by_cases h0:le=0;rotate_left
 ·have e0:=hbad h0;subst e0;have hb0:(le != 0)=true:=by simpa using h0
  have al:=aa w3 (.cells eV 31);have A4:=chain A3 al;clear hbad hgood h0;unfold Lm;dsimp only;go_wp2_with fail
  go_ret;exact ⟨rfl,A4⟩
 obtain ⟨rq,rfl,P3⟩:=hgood h0;subst h0;clear hbad hgood;obtain ⟨rp,hrp⟩:∃ rp,fR ts p=rp:=⟨_,rfl⟩
 have HRP:=aw hrp;have HKR:Hid (dx rp):=by rw [← hrp]; exact IP HK.out
 rw [hrp] at P3 ⊢;clear hrp;have al:=aa w3 (.cells (mf rp rq rp.ks.length) 31);have QR:=ak w3 (mf rp rq rp.ks.length) 31;dsimp only;go_upto_region 6 with fail
 have A4:=chain A3 al;have Q4:=(al.block _ (ae Q3)).trans Q3;have P4:=P3.next (ah.of al);generalize hw4:w3.alloc (.cells (mf rp rq rp.ks.length) 31)=w4 at *;clear hw4 Q2 Q3 A2 A3 P3 al;have con:=vz ts data p q ta tc da dc w4 ((HT.out.next A4 (Mc _)).up A4.size) (HD.out.next A4) ((HP.out.next A4 (Mc _)).up A4.size) HK.out;obtain ⟨e1,he1⟩:∃ e1,Dk ts data p=e1:=⟨_,rfl⟩
 rw [he1] at con;have HE1:=aw he1;clear he1;obtain ⟨z1,hz1⟩:∃ z1,CM ts data p=z1:=⟨_,rfl⟩
 rw [hz1] at con;have HZ1:=aw hz1;clear hz1;unfold gR at con;obtain ⟨n0,n1,n2,n3,n4,n5,n6,n7,n8,n9,n10⟩:=cw Q4;go_wp2_with fail
 refine con.mono ?_;rintro e w5 ⟨v5,rfl,O5,hb5⟩;clear con n0 n1 n2 n3 n4 n5 n6 n7 n8 n9 n10;have A5:=chain A4 hb5;have QR5:=(hb5.block _ (ae QR)).trans QR;have P5:=P4.next (ah.of hb5);clear P4 QR Q4;have con:=vz ts data rp rq ta tc da dc w5 ((HT.out.next A5 (Mc _)).up A5.size) (HD.out.next A5) P5.b HKR.out;obtain ⟨e2,he2⟩:∃ e2,Dk ts data rp=e2:=⟨_,rfl⟩
 rw [he2] at con;have HE2:=aw he2;clear he2;obtain ⟨z2,hz2⟩:∃ z2,CM ts data rp=z2:=⟨_,rfl⟩
 rw [hz2] at con;have HZ2:=aw hz2;clear hz2;unfold gR at con;dsimp only;obtain ⟨n0,n1,n2,n3,n4,n5,n6,n7,n8,n9,n10⟩:=cw QR5;go_wp2_with fail
 refine con.mono ?_;rintro e w6 ⟨v6,rfl,O6,hb6⟩;clear con n0 n1 n2 n3 n4 n5 n6 n7 n8 n9 n10 QR5 P5;have A6:=chain A5 hb6;have O56:=O5.next hb6;dsimp only;by_cases h1:e1=0;rotate_left
 ·have hb1:(e1 != 0)=true:=by simpa using h1
  clear h1;go_wp2_with fail
  go_ret;exact ⟨rfl,A6⟩
 by_cases h2:e2=0;rotate_left
 ·have hb1:(e1 != 0)=false:=by simpa using h1
  have hb2:(e2 != 0)=true:=by simpa using h2
  clear h1 h2;go_wp2_with fail
  go_ret;exact ⟨rfl,A6⟩
 have ez:z2=z1:=by
  rw [← HZ2.out,← HZ1.out,← HRP.out];exact Dn HLE.out (by rw [HE1.out,h1]) (by rw [HRP.out,HE2.out,h2])
 subst ez h1 h2;obtain ⟨x1,y1,rfl,Z1⟩:=O56.zs;obtain ⟨x2,y2,rfl,Z2⟩:=O6.zs;clear O5 O6 O56;have con:=G2 x1 x2 y1 y2 z2 w6 Z1 Z2;go_wp2_with fail
 refine con.mono ?_;rintro e w7 ⟨rfl,hb7⟩;dsimp only;go_wp2_with fail
 go_ret;exact ⟨rfl,chain A6 hb7⟩
end Go.Proofs.YtjebpkhkjkjphaaGreat
