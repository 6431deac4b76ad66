/- Together: BK, BL, BM, BN, BO, BP, BQ, BR, BS. -/
import Derived.Deep.DeepCutAuto
import Derived.Deep.CutBlock
import Derived.Test.YtoknmnngaackkaaGreatDoorST5
namespace Go.Proofs.YtoknmnngaackkaaGreatDoor
open Go.RowKit Go.Lib Go.Shelf
set_option maxRecDepth 100000
set_option maxHeartbeats 16000000
set_option maxRecDepth 100000
set_option maxHeartbeats 8000000
def eI (first:Bool) (x:Src):Int:=dY (if (if first then x.kind == 1 else decide (2≤x.kind) && decide (x.kind≤5)) then 0 else 1) (dY (ef x.name) (dY (dz x.alias) (dY (ed (!first) x.on) 0)))
theorem vQ (first:Bool) (x:Src) (a:Option Addr) (c:Nat) (S:Nat→Prop) (at_:Int) (w:World) (hks:aJ S w a x.on.ks):Calls Tryz.prog 137 #[.agg #[at_],.agg (kj x a c),first] w (gv w at_ (eI first x)):=by
 have hal1:=bR w (.cells #[at_] 86);have hal2:Below (w.alloc (.cells #[at_] 86)).heap.size (w.alloc (.cells #[at_] 86)) ((w.alloc (.cells #[at_] 86)).alloc (.cells (kj x a c) 105)):=bR ..;have QC:=(hal2.block _ (lt_of_heap (aD w #[at_] 86))).trans (aD w _ _)
 have QX:((w.alloc (.cells #[at_] 86)).alloc (.cells (kj x a c) 105)).heap[w.heap.size+1]? = some (.cells (kj x a c) 105 (0,0)):=by
  rw [show w.heap.size+1=(w.alloc (.cells #[at_] 86)).heap.size by simp];exact aD _ _ _
 have hal:=chain hal1 hal2;clear hal1 hal2;generalize hM:eI first x=M
 have HM0:=ah hM;clear hM;have HK1:=ah (cU.next (ay.of hal) (cU.mono (fun _ _ _=>trivial) ⟨a,c,rfl,hks⟩));go_enter Tryz.func137,Tryz.ntmps137;go_upto_region 1 with fail
 generalize ((w.alloc (.cells #[at_] 86)).alloc (.cells (kj x a c) 105))=w1 at *;have hm:=HM0.out;rw [eI] at hm;have HMa:=ah hm;clear hm HM0 hks;have k2:=cell_of (i:=0) QC rfl;have k3:=cell_of (i:=0) QX rfl;have hcut:Below w1 w1 w1:=I8 _ _;obtain ⟨RR,hRR⟩:∃ r,dY (ef x.name) (dY (dz x.alias) (dY (ed (!first) x.on) 0))=r:=⟨_,rfl⟩
 have hm:=HMa.out;rw [hRR] at hm;have HMx:=ah hm;clear hm HMa;have HMa:=HMx;have HRR:=ah hRR;clear hRR HMx;go_upto_if 6 with fail
 go_cut [] (fun wc=>Hid (RR=M)∧Below w1 w1 wc)
 case first =>
  cases first
  ·have hcs:(2≤x.kind∧x.kind≤5)∨(2≤x.kind∧¬ x.kind≤5)∨¬ 2≤x.kind:=by omega
   rcases hcs with ⟨g1,g2⟩ | ⟨g1,g2⟩ | g1
   ·skip
    have con:=gf 1 at_ w1;have HR:Hid (RR=M):=by show _=_; have:=HMa.out; simp only [Jd,if_false,decide_eq_true g1,decide_eq_true g2,Bool.true_and,if_true] at this; simpa [dY] using this
    clear HMa ;go_wp2_with fail
    refine con.mono ?_;rintro e w2 ⟨rfl,hb2⟩;go_wp2_with fail
    go_meet
    case rel=>exact ⟨HR,hb2⟩
   ·skip
    have con:=dW 1 at_ w1;have HR:Hid (M=1):=by show _=_; have:=HMa.out; simp only [Jd,if_false,decide_eq_true g1,decide_eq_false g2,Bool.true_and] at this; simpa [dY] using this.symm
    clear HMa ;go_wp2_with fail
    refine con.mono ?_;rintro e w2 ⟨rfl,hb2⟩;go_wp2_with fail
    exact ⟨rfl,.bad (chain hal hb2) HR.out (by decide)⟩
   ·skip
    have con:=dW 1 at_ w1;have HR:Hid (M=1):=by show _=_; have:=HMa.out; simp only [Jd,if_false,decide_eq_false g1,Bool.false_and] at this; simpa [dY] using this.symm
    clear HMa ;go_wp2_with fail
    refine con.mono ?_;rintro e w2 ⟨rfl,hb2⟩;go_wp2_with fail
    exact ⟨rfl,.bad (chain hal hb2) HR.out (by decide)⟩
  ·by_cases g1:x.kind=1
   ·have b1:(x.kind == 1)=true:=by simpa using g1
    have con:=gf 1 at_ w1;have HR:Hid (RR=M):=by show _=_; have:=HMa.out; simp only [if_true,b1] at this; simpa [dY] using this
    clear HMa g1;go_wp2_with fail
    refine con.mono ?_;rintro e w2 ⟨rfl,hb2⟩;go_wp2_with fail
    go_meet
    case rel=>exact ⟨HR,hb2⟩
   ·have b1:(x.kind == 1)=false:=by simpa using g1
    have con:=dW 1 at_ w1;have HR:Hid (M=1):=by show _=_; have:=HMa.out; simp only [if_true,b1,Jd,if_false] at this; simpa [dY] using this.symm
    clear HMa g1;go_wp2_with fail
    refine con.mono ?_;rintro e w2 ⟨rfl,hb2⟩;go_wp2_with fail
    exact ⟨rfl,.bad (chain hal hb2) HR.out (by decide)⟩
 case rest =>
  clear HMa k2 k3;obtain ⟨HMb0,hbc⟩:=hcut;have hm:=HMb0.out;rw [← HRR.out] at hm;have HMb:=ah hm;clear hm HMb0 HRR;have hx4:=chain hal hbc;have QC5:=bH hbc QC;have QX6:=bH hbc QX;have HK7:=ah (cU.next (ay.of hbc) HK1.out)
  have k8:=cell_of (i:=0) QC5 rfl;have k9:=cell_of (i:=1) QX6 rfl;have con10:=kC x.name at_ wc;have hm:=HMb.out;generalize ef x.name=rk at hm con10;have HM11:=ah hm;clear hm HMb;go_wp2_with fail
  refine con10.mono ?_;rintro e w12 ⟨hb13,hW⟩;clear con10 k8 k9;have hx14:=chain hx4 hb13;have QC15:=bH hb13 QC5;have QX16:=bH hb13 QX6;have HK17:=ah (cU.next (ay.of hb13) HK7.out);rcases hW with ⟨h,rfl⟩ | ⟨h,rfl⟩
  rotate_left
  ·have HR:Hid (rk=M):=by have:=HM11.out; rw [dN h] at this; exact this
   clear HM11;go_wp2_with fail
   exact ⟨rfl,.bad hx14 HR.out.symm h⟩
  subst h;have hm:=HM11.out;rw [cV] at hm;have HM18:=ah hm;clear hm HM11;have k19:=cell_of (i:=0) QC15 rfl;have k20:=cell_of (i:=2) QX16 rfl;have con21:=oG x.alias at_ w12;have hm:=HM18.out;generalize dz x.alias=rk at hm con21;have HM22:=ah hm;clear hm HM18;go_wp2_with fail
  refine con21.mono ?_;rintro e w23 ⟨hb24,hW⟩;clear con21 k19 k20;have hx25:=chain hx14 hb24;have QC26:=bH hb24 QC15;have QX27:=bH hb24 QX16;have HK28:=ah (cU.next (ay.of hb24) HK17.out);rcases hW with ⟨h,rfl⟩ | ⟨h,rfl⟩
  rotate_left
  ·have HR:Hid (rk=M):=by have:=HM22.out; rw [dN h] at this; exact this
   clear HM22;go_wp2_with fail
   exact ⟨rfl,.bad hx25 HR.out.symm h⟩
  subst h;have hm:=HM22.out;rw [cV] at hm;have HM29:=ah hm;clear hm HM22;have hk:=HK28.out;obtain ⟨a',c',e',hk⟩:=hk;simp only [List.cons.injEq,Value.slice.injEq] at e';obtain ⟨_,_,_,_,_,_,_,_,_,⟨rfl,_,rfl⟩,_⟩:=e';have HKO:=ah hk;clear hk;have k30:=cell_of (i:=0) QC26 rfl;have k31:=cell_of (i:=3) QX27 rfl;have k32:=cell_of (i:=4) QX27 rfl
  have k33:=cell_of (i:=5) QX27 rfl;have k34:=cell_of (i:=6) QX27 rfl;have k35:=cell_of (i:=7) QX27 rfl;have k36:=cell_of (i:=8) QX27 rfl;have k37:=cell_of (i:=9) QX27 rfl;have con38:=ke (!first) x.on at_ a c (fun _=>True) w23 HKO.out;have hm:=HM29.out
  generalize ed (!first) x.on=rk at hm con38;have HM39:=ah hm;clear hm HM29;go_wp2_with fail
  refine con38.mono ?_;rintro e w40 ⟨hb41,hW⟩;clear con38 k30 k31 k32 k33 k34 k35 k36 k37;have hx42:=chain hx25 hb41;have QC43:=bH hb41 QC26;have QX44:=bH hb41 QX27;have HK45:=ah (cU.next (ay.of hb41) HK28.out);rcases hW with ⟨h,rfl⟩ | ⟨h,rfl⟩
  rotate_left
  ·have HR:Hid (rk=M):=by have:=HM39.out; rw [dN h] at this; exact this
   clear HM39;go_wp2_with fail
   exact ⟨rfl,.bad hx42 HR.out.symm h⟩
  subst h;have hm:=HM39.out;rw [cV] at hm;have HM46:=ah hm;clear hm HM39;go_wp2_with fail
  go_end0
  exact .ok hx42 HM46.out.symm
theorem iG (a b c:Int):dY (dY a b) c=dY a (dY b c):=by unfold dY; split <;> simp_all
theorem bf.elem {α:Type} {En:jP α} {size:Nat} {S:Nat→Prop} {W:World} {a:Option Addr} {l:List α} (h:bf En size S W a l) {j:Nat} (hlt:j<l.length) :
  ∃ b off cs,a=some ⟨b,off,none⟩∧b<W.heap.size∧cs.length=size∧(∀ (i:Nat) (u:Value),cs[i]? = some u→W.cell? ⟨b,off+j*size+i,none⟩=some u)∧En S W l[j] cs:=by
 rcases h with rfl | ⟨b,off,e,_,h2,h3⟩
 ·simp at hlt
 ·obtain ⟨cs,c1,c2,c3⟩:=h3 j hlt;exact ⟨b,off,cs,e,h2,c1,c2,c3⟩
theorem dw {n least most:Int} (h:fi n least most=0):least≤n∧n≤most:=by
 unfold fi at h
 split at h
 ·rename_i hc; simpa using hc
 ·cases h
def gr:List kx→Int
 | []=>0
 | x :: r=>dY (eR x.1) (dY (dz x.2) (gr r))
theorem sz (x:kx) (r:List kx):gr (x :: r)=dY (eR x.1) (dY (dz x.2) (gr r)):=rfl
def kz (l:List kx):Int:=dY (fi l.length 1 8) (dY (gr l) 0)
theorem zf (l:List kx) (a:Option Addr) (c:Nat) (S:Nat→Prop) (at_:Int) (w:World) (hks:bf kl 8 S w a l):Calls Tryz.prog 136 #[.agg #[at_],.slice a l.length c] w (gv w at_ (kz l)):=by
 obtain ⟨hal,QC⟩:=dZ w #[at_] 86;generalize hM:kz l=M;have HM0:=ah hM;clear hM;have HK1:=ah ((br fp 8).next (ay.of hal) ((br fp 8).mono (fun _ _ _=>trivial) ⟨a,c,rfl,hks⟩));go_enter Tryz.func136,Tryz.ntmps136;go_upto_region 1 with fail
 generalize w.alloc _=w1 at *;have hm:=HM0.out;rw [kz] at hm;have HMa:=ah hm;clear hm HM0 hks;have k2:=cell_of (i:=0) QC rfl;have con3:=fT l.length 1 8 at_ w1;have hm:=HMa.out;obtain ⟨rk,hrk⟩:∃ r,fi l.length 1 8=r:=⟨_,rfl⟩
 rw [hrk] at hm con3;have HRK:=ah hrk;clear hrk;have HM4:=ah hm;clear hm HMa;go_wp2_with fail
 refine con3.mono ?_;rintro e w5 ⟨hb6,hW⟩;clear con3 k2;have hx7:=chain hal hb6;have QC8:=bH hb6 QC;have HK9:=ah ((br fp 8).next (ay.of hb6) HK1.out);rcases hW with ⟨h,rfl⟩ | ⟨h,rfl⟩
 rotate_left
 ·have HR:Hid (rk=M):=by have:=HM4.out; rw [dN h] at this; exact this
  clear HM4;go_wp2_with fail
  exact ⟨rfl,.bad hx7 HR.out.symm h⟩
 subst h;have hm:=HM4.out;rw [cV] at hm;have HM10:=ah hm;clear hm HM4;have hcn:=dw HRK.out;clear HRK;have HKL:=ah HK9.out.ls;have HM11:Hid (dY (gr (l.drop 0)) (0)=M):=by show _=_; rw [JJ]; exact HM10.out
 clear HM10;go_wp2_with fail
 go_loopw [12] (fun jv wr=>∃ j:Nat,j≤l.length∧jv = .int .i64 j∧Hid (dY (gr (l.drop j)) (0)=M)∧Below w5 w5 wr) (fun jv _=>l.length - (RowKit.intOf jv).toNat)
 case atStart=>exact ⟨0,by omega,rfl,HM11,I8 _ _⟩
 case round =>
  clear HM11;obtain ⟨j,hj,rfl,HL,hbr⟩:=hrel;have hx12:=chain hx7 hbr;have QC13:=bH hbr QC8;have HK14:=ah ((br fp 8).next (ay.of hbr) HK9.out);have hL:=HL.out;by_cases hlt:j<l.length
  ·have hjz:(j:Int)<(l.length:Int):=by omega
   rw [I9 hlt,sz] at hL;simp only [iG] at hL;obtain ⟨bl,off,cs,rfl,hbl,hcl,hce,⟨ai,ci,rfl,hkk⟩⟩:=(HKL.out.aM fp (ay.of hbr)).elem hlt;have z0:=hce 0 _ rfl;have z1:=hce 1 _ rfl;have z2:=hce 2 _ rfl;have z3:=hce 3 _ rfl;have z4:=hce 4 _ rfl;have z5:=hce 5 _ rfl;have z6:=hce 6 _ rfl;have z7:=hce 7 _ rfl;rw [JL] at z0
   obtain ⟨halY,QY⟩:=dZ wr #[.int .i64 l[j].1.k,.int .i64 l[j].1.v.1,.int .i64 l[j].1.v.2.1,.string l[j].1.v.2.2,.string l[j].1.bp,.string l[j].1.name,.slice ai l[j].1.ks.length ci,.string l[j].2] 75;have HMr:=ah hL;generalize l[j]=y at *;clear HL hL hce hcl;go_upto_region 5 with fail
   generalize wr.alloc _=wa at *;clear z0 z1 z2 z3 z4 z5 z6 z7;have hx1515:=chain hx12 halY;have QC1516:=bH halY QC13;have hB1517:=chain hbr halY;have HKE:=ah (aJ.next halY hkk);clear hkk;have k1518:=cell_of (i:=0) QC1516 rfl
   have k1519:=cell_of (i:=0) QY rfl;have k1520:=cell_of (i:=1) QY rfl;have k1521:=cell_of (i:=2) QY rfl;have k1522:=cell_of (i:=3) QY rfl;have k1523:=cell_of (i:=4) QY rfl;have k1524:=cell_of (i:=5) QY rfl
   have k1525:=cell_of (i:=6) QY rfl;have con1526:=pn y.1 at_ ai ci (fun _=>True) wa HKE.out;have hm:=HMr.out;generalize eR y.1=rk at hm con1526;have HM1527:=ah hm;clear hm HMr;go_wp2_with fail
   refine con1526.mono ?_;rintro e w1528 ⟨hb1529,hW⟩;clear con1526 k1518 k1519 k1520 k1521 k1522 k1523 k1524 k1525;have hx1530:=chain hx1515 hb1529;have QC1531:=bH hb1529 QC1516;have QY1532:=bH hb1529 QY;have hB1533:=chain hB1517 hb1529;rcases hW with ⟨h,rfl⟩ | ⟨h,rfl⟩
   rotate_left
   ·have HR:Hid (rk=M):=by have:=HM1527.out; rw [dN h] at this; exact this
    clear HM1527;go_wp2_with fail
    exact ⟨rfl,.bad hx1530 HR.out.symm h⟩
   subst h;have hm:=HM1527.out;rw [cV] at hm;have HM1534:=ah hm;clear hm HM1527;have k1535:=cell_of (i:=0) QC1531 rfl;have k1536:=cell_of (i:=7) QY1532 rfl;have con1537:=oG y.2 at_ w1528;have hm:=HM1534.out;generalize dz y.2=rk at hm con1537;have HM1538:=ah hm;clear hm HM1534;go_wp2_with fail
   refine con1537.mono ?_;rintro e w1539 ⟨hb1540,hW⟩;clear con1537 k1535 k1536;have hx1541:=chain hx1530 hb1540;have QC1542:=bH hb1540 QC1531;have QY1543:=bH hb1540 QY1532;have hB1544:=chain hB1533 hb1540;rcases hW with ⟨h,rfl⟩ | ⟨h,rfl⟩
   rotate_left
   ·have HR:Hid (rk=M):=by have:=HM1538.out; rw [dN h] at this; exact this
    clear HM1538;go_wp2_with fail
    exact ⟨rfl,.bad hx1541 HR.out.symm h⟩
   subst h;have hm:=HM1538.out;rw [cV] at hm;have HM1545:=ah hm;clear hm HM1538;go_wp2_with fail
   go_roundw
   case rel=>exact ⟨j+1,by omega,by go_num,HM1545,hB1544⟩
   case measure=>simp [RowKit.intOf]; omega
  ·have hjz:¬ (j:Int)<(l.length:Int):=by omega
   rw [Jh ak,show gr []=0 from rfl,cV] at hL;have HMr:=ah hL;clear HL hL;go_wp2_with fail
   go_end0
   exact .ok hx12 HMr.out.symm
def dc (first:Bool):List Src→Int
 | []=>0
 | x :: r=>dY (eI first x) (dc false r)
theorem qb (f:Bool) (x:Src) (r:List Src):dc f (x :: r)=dY (eI f x) (dc false r):=rfl
def lW (st:Bool) (l:List kx):Int:=if st then 0 else kz l
def uI (x:dO):Int:=dY (ed x.ax x.au) (dY (eZ x.group) (dY (ed x.aG x.az) 0))
def lL (x:dO):Int:=dY (fi x.sources.length 1 4) (dY (fi x.group.length 0 8) (dY (lW x.star x.items) (dY (dc true x.sources) (uI x))))
theorem sh (x:dO) (a1 a2 a3 a4 a5:Option Addr) (c1 c2 c3 c4 c5:Nat) (S:Nat→Prop) (at_:Int) (w:World) (h1:bf kl 8 S w a1 x.items) (h2:bf gj 10 S w a2 x.sources) (h3:aJ S w a3 x.au.ks) (h4:aJ S w a4 x.az.ks) (h5:bf fu 7 S w a5 x.group):Calls Tryz.prog 104 #[.agg #[at_],.agg #[x.distinct,x.star,.slice a1 x.items.length c1,.slice a2 x.sources.length c2,x.ax,x.aG,x.au.k,x.au.v.1,x.au.v.2.1,x.au.v.2.2,x.au.bp,x.au.name,.slice a3 x.au.ks.length c3,x.az.k,x.az.v.1,x.az.v.2.1,x.az.v.2.2,x.az.bp,x.az.name,.slice a4 x.az.ks.length c4,.slice a5 x.group.length c5]] w (gv w at_ (lL x)):=by
 have hal1:=bR w (.cells #[at_] 86)
 have hal2:Below (w.alloc (.cells #[at_] 86)).heap.size (w.alloc (.cells #[at_] 86)) ((w.alloc (.cells #[at_] 86)).alloc (.cells #[x.distinct,x.star,.slice a1 x.items.length c1,.slice a2 x.sources.length c2,x.ax,x.aG,x.au.k,x.au.v.1,x.au.v.2.1,x.au.v.2.2,x.au.bp,x.au.name,.slice a3 x.au.ks.length c3,x.az.k,x.az.v.1,x.az.v.2.1,x.az.v.2.2,x.az.bp,x.az.name,.slice a4 x.az.ks.length c4,.slice a5 x.group.length c5] 79)):=bR ..
 have QC:=(hal2.block _ (lt_of_heap (aD w #[at_] 86))).trans (aD w _ _)
 have QX:((w.alloc (.cells #[at_] 86)).alloc (.cells #[x.distinct,x.star,.slice a1 x.items.length c1,.slice a2 x.sources.length c2,x.ax,x.aG,x.au.k,x.au.v.1,x.au.v.2.1,x.au.v.2.2,x.au.bp,x.au.name,.slice a3 x.au.ks.length c3,x.az.k,x.az.v.1,x.az.v.2.1,x.az.v.2.2,x.az.bp,x.az.name,.slice a4 x.az.ks.length c4,.slice a5 x.group.length c5] 79)).heap[w.heap.size+1]? = some (.cells #[x.distinct,x.star,.slice a1 x.items.length c1,.slice a2 x.sources.length c2,x.ax,x.aG,x.au.k,x.au.v.1,x.au.v.2.1,x.au.v.2.2,x.au.bp,x.au.name,.slice a3 x.au.ks.length c3,x.az.k,x.az.v.1,x.az.v.2.1,x.az.v.2.2,x.az.bp,x.az.name,.slice a4 x.az.ks.length c4,.slice a5 x.group.length c5] 79 (0,0)):=by
  rw [show w.heap.size+1=(w.alloc (.cells #[at_] 86)).heap.size by simp];exact aD _ _ _
 have hal:=chain hal1 hal2;clear hal1 hal2;generalize hM:lL x=M;have HM0:=ah hM;clear hM
 have HK1:=ah ((br fp 8).next (ay.of hal) ((br fp 8).mono (fun _ _ _=>trivial) ⟨a1,c1,rfl,h1⟩))
 have HK2:=ah ((br cU 10).next (ay.of hal) ((br cU 10).mono (fun _ _ _=>trivial) ⟨a2,c2,rfl,h2⟩))
 have HK3:=ah (b9.next (ay.of hal) (b9.mono (fun _ _ _=>trivial) ⟨a3,c3,rfl,h3⟩))
 have HK4:=ah (b9.next (ay.of hal) (b9.mono (fun _ _ _=>trivial) ⟨a4,c4,rfl,h4⟩))
 have HK5:=ah ((br b9 7).next (ay.of hal) ((br b9 7).mono (fun _ _ _=>trivial) ⟨a5,c5,rfl,h5⟩))
 go_enter Tryz.func104,Tryz.ntmps104;go_upto_region 1 with fail
 generalize ((w.alloc (.cells #[at_] 86)).alloc (.cells #[x.distinct,x.star,.slice a1 x.items.length c1,.slice a2 x.sources.length c2,x.ax,x.aG,x.au.k,x.au.v.1,x.au.v.2.1,x.au.v.2.2,x.au.bp,x.au.name,.slice a3 x.au.ks.length c3,x.az.k,x.az.v.1,x.az.v.2.1,x.az.v.2.2,x.az.bp,x.az.name,.slice a4 x.az.ks.length c4,.slice a5 x.group.length c5] 79))=w1 at *;have hm:=HM0.out;rw [lL] at hm
 have HMa:=ah hm;clear hm HM0 h1 h2 h3 h4 h5;have k6:=cell_of (i:=0) QC rfl;have k7:=cell_of (i:=3) QX rfl;have con8:=fT x.sources.length 1 4 at_ w1;have hm:=HMa.out;obtain ⟨rk,hrk⟩:∃ r,fi x.sources.length 1 4=r:=⟨_,rfl⟩
 rw [hrk] at hm con8;have HRK:=ah hrk;clear hrk;have HM9:=ah hm;clear hm HMa;go_wp2_with fail
 refine con8.mono ?_;rintro e w10 ⟨hb11,hW⟩;clear con8 k6 k7;have hx12:=chain hal hb11;have QC13:=bH hb11 QC;have QX14:=bH hb11 QX;have HK15:=ah ((br fp 8).next (ay.of hb11) HK1.out);have HK16:=ah ((br cU 10).next (ay.of hb11) HK2.out)
 have HK17:=ah (b9.next (ay.of hb11) HK3.out);have HK18:=ah (b9.next (ay.of hb11) HK4.out)
 have HK19:=ah ((br b9 7).next (ay.of hb11) HK5.out);rcases hW with ⟨h,rfl⟩ | ⟨h,rfl⟩
 rotate_left
 ·have HR:Hid (rk=M):=by have:=HM9.out; rw [dN h] at this; exact this
  clear HM9;go_wp2_with fail
  exact ⟨rfl,.bad hx12 HR.out.symm h⟩
 subst h;have hm:=HM9.out;rw [cV] at hm;have HM20:=ah hm;clear hm HM9;have hcn1:=dw HRK.out;clear HRK;have k21:=cell_of (i:=0) QC13 rfl;have k22:=cell_of (i:=20) QX14 rfl;have con23:=fT x.group.length 0 8 at_ w10;have hm:=HM20.out;obtain ⟨rk,hrk⟩:∃ r,fi x.group.length 0 8=r:=⟨_,rfl⟩
 rw [hrk] at hm con23;have HRK:=ah hrk;clear hrk;have HM24:=ah hm;clear hm HM20;go_wp2_with fail
 refine con23.mono ?_;rintro e w25 ⟨hb26,hW⟩;clear con23 k21 k22;have hx27:=chain hx12 hb26;have QC28:=bH hb26 QC13;have QX29:=bH hb26 QX14;have HK30:=ah ((br fp 8).next (ay.of hb26) HK15.out);have HK31:=ah ((br cU 10).next (ay.of hb26) HK16.out)
 have HK32:=ah (b9.next (ay.of hb26) HK17.out);have HK33:=ah (b9.next (ay.of hb26) HK18.out)
 have HK34:=ah ((br b9 7).next (ay.of hb26) HK19.out);rcases hW with ⟨h,rfl⟩ | ⟨h,rfl⟩
 rotate_left
 ·have HR:Hid (rk=M):=by have:=HM24.out; rw [dN h] at this; exact this
  clear HM24;go_wp2_with fail
  exact ⟨rfl,.bad hx27 HR.out.symm h⟩
 subst h;have hm:=HM24.out;rw [cV] at hm;have HM35:=ah hm;clear hm HM24;have hcn2:=dw HRK.out;clear HRK;generalize x.star=st at *;have k36:=cell_of (i:=0) QC28 rfl;have k37:=cell_of (i:=1) QX29 rfl;go_upto_if 18 with fail
 clear k36 k37;go_cut [] (fun wc=>Hid (dY (dc true x.sources) (uI x)=M)∧Below w25 w25 wc)
 case first =>
  have hm:=HM35.out;rw [lW] at hm;have HMb:=ah hm;clear hm HM35;rcases st with _ | _
  ·have hm:=HMb.out;rw [if_neg (by decide)] at hm;have HMc:=ah hm;clear hm HMb;have k1538:=cell_of (i:=0) QC28 rfl;have k1539:=cell_of (i:=2) QX29 rfl;have con:=zf x.items a1 c1 (fun _=>True) at_ w25 HK30.out.ls;have hm:=HMc.out;generalize kz x.items=rk at hm con;have HMd:=ah hm;clear hm HMc;go_wp2_with fail
   refine con.mono ?_;rintro e wq ⟨hbq,⟨h,rfl⟩ | ⟨h,rfl⟩⟩
   ·subst h;have hm:=HMd.out;rw [cV] at hm;have HMe:=ah hm;clear hm HMd;go_wp2_with fail
    go_meet
    case rel=>exact ⟨HMe,hbq⟩
   ·have HR:Hid (rk=M):=by have:=HMd.out; rw [dN h] at this; exact this
    clear HMd;go_wp2_with fail
    exact ⟨rfl,.bad (chain hx27 hbq) HR.out.symm h⟩
  ·have hm:=HMb.out;rw [if_pos rfl,cV] at hm;have HMc:=ah hm;clear hm HMb;go_wp2_with fail
   go_meet
   case rel=>exact ⟨HMc,I8 _ _⟩
 case rest =>
  clear HM35;obtain ⟨HMb,hbc⟩:=hcut;have hx2038:=chain hx27 hbc;have QC2039:=bH hbc QC28;have QX2040:=bH hbc QX29;have HK2041:=ah ((br fp 8).next (ay.of hbc) HK30.out);have HK2042:=ah ((br cU 10).next (ay.of hbc) HK31.out)
  have HK2043:=ah (b9.next (ay.of hbc) HK32.out);have HK2044:=ah (b9.next (ay.of hbc) HK33.out)
  have HK2045:=ah ((br b9 7).next (ay.of hbc) HK34.out);have HKL:=ah HK2042.out.ls;have k2046:=cell_of (i:=0) QC2039 rfl;have k2047:=cell_of (i:=3) QX2040 rfl;have HM2048:Hid (dY (dc (((0:Nat):Int) == 0) (x.sources.drop 0)) (uI x)=M):=by show _=_; rw [JJ]; exact HMb.out
  clear HMb;go_wp2_with fail
  clear k2046 k2047;go_loopw [26] (fun jv wr=>∃ j:Nat,j≤x.sources.length∧jv = .int .i64 j∧Hid (dY (dc ((j:Int) == 0) (x.sources.drop j)) (uI x)=M)∧Below wc wc wr) (fun jv _=>x.sources.length - (RowKit.intOf jv).toNat)
  case atStart=>exact ⟨0,by omega,rfl,HM2048,I8 _ _⟩
  case round =>
   clear HM2048;obtain ⟨j,hj,rfl,HL,hbr⟩:=hrel;have hx2049:=chain hx2038 hbr;have QC2050:=bH hbr QC2039;have QX2051:=bH hbr QX2040;have HK2052:=ah ((br fp 8).next (ay.of hbr) HK2041.out);have HK2053:=ah ((br cU 10).next (ay.of hbr) HK2042.out)
   have HK2054:=ah (b9.next (ay.of hbr) HK2043.out);have HK2055:=ah (b9.next (ay.of hbr) HK2044.out)
   have HK2056:=ah ((br b9 7).next (ay.of hbr) HK2045.out);have hL:=HL.out;by_cases hlt:j<x.sources.length
   ·have hjz:(j:Int)<(x.sources.length:Int):=by omega
    rw [I9 hlt,qb] at hL;simp only [iG] at hL;obtain ⟨bl,off,cs,rfl,hbl,hcl,hce,⟨ai,ci,rfl,hkk⟩⟩:=(HKL.out.aM cU (ay.of hbr)).elem hlt;have z0:=hce 0 _ rfl;have z1:=hce 1 _ rfl;have z2:=hce 2 _ rfl;have z3:=hce 3 _ rfl;have z4:=hce 4 _ rfl;have z5:=hce 5 _ rfl;have z6:=hce 6 _ rfl;have z7:=hce 7 _ rfl;have z8:=hce 8 _ rfl;have z9:=hce 9 _ rfl;rw [JL] at z0
    have halY:=bR wr (.cells #[.int .i64 x.sources[j].kind,.string x.sources[j].name,.string x.sources[j].alias,.int .i64 x.sources[j].on.k,.int .i64 x.sources[j].on.v.1,.int .i64 x.sources[j].on.v.2.1,.string x.sources[j].on.v.2.2,.string x.sources[j].on.bp,.string x.sources[j].on.name,.slice ai x.sources[j].on.ks.length ci] 105)
    have QY:=aD wr #[.int .i64 x.sources[j].kind,.string x.sources[j].name,.string x.sources[j].alias,.int .i64 x.sources[j].on.k,.int .i64 x.sources[j].on.v.1,.int .i64 x.sources[j].on.v.2.1,.string x.sources[j].on.v.2.2,.string x.sources[j].on.bp,.string x.sources[j].on.name,.slice ai x.sources[j].on.ks.length ci] 105;have HMr:=ah hL;generalize x.sources[j]=y at *;clear HL hL hce hcl;go_upto_region 8 with fail
    generalize wr.alloc _=wa at *;clear z0 z1 z2 z3 z4 z5 z6 z7 z8 z9;have hx3557:=chain hx2049 halY;have QC3558:=bH halY QC2050;have QX3559:=bH halY QX2051;have hB3560:=chain hbr halY;have HKE:=ah (aJ.next halY hkk);clear hkk
    have k3561:=cell_of (i:=0) QC3558 rfl;have k3562:=cell_of (i:=0) QY rfl;have k3563:=cell_of (i:=1) QY rfl;have k3564:=cell_of (i:=2) QY rfl;have k3565:=cell_of (i:=3) QY rfl;have k3566:=cell_of (i:=4) QY rfl
    have k3567:=cell_of (i:=5) QY rfl;have k3568:=cell_of (i:=6) QY rfl;have k3569:=cell_of (i:=7) QY rfl;have k3570:=cell_of (i:=8) QY rfl;have k3571:=cell_of (i:=9) QY rfl;have con3572:=vQ ((j:Int) == 0) y ai ci (fun _=>True) at_ wa HKE.out;have hm:=HMr.out
    generalize eI ((j:Int) == 0) y=rk at hm con3572;have HM3573:=ah hm;clear hm HMr;go_wp2_with fail
    refine con3572.mono ?_;rintro e w3574 ⟨hb3575,hW⟩;clear con3572 k3561 k3562 k3563 k3564 k3565 k3566 k3567 k3568 k3569 k3570 k3571;have hx3576:=chain hx3557 hb3575;have QC3577:=bH hb3575 QC3558;have QX3578:=bH hb3575 QX3559;have QY3579:=bH hb3575 QY;have hB3580:=chain hB3560 hb3575;rcases hW with ⟨h,rfl⟩ | ⟨h,rfl⟩
    rotate_left
    ·have HR:Hid (rk=M):=by have:=HM3573.out; rw [dN h] at this; exact this
     clear HM3573;go_wp2_with fail
     exact ⟨rfl,.bad hx3576 HR.out.symm h⟩
    subst h;have hm:=HM3573.out;rw [cV] at hm;have HM3581:=ah hm;clear hm HM3573;go_wp2_with fail
    go_roundw
    case rel=>exact ⟨j+1,by omega,by go_num,(by show _=_; rw [show (((j+1:Nat):Int) == 0)=false by rw [beq_eq_false_iff_ne]; omega]; exact HM3581.out),hB3580⟩
    case measure=>simp [RowKit.intOf]; omega
   ·have hjz:¬ (j:Int)<(x.sources.length:Int):=by omega
    rw [Jh ak,show dc ((j:Int) == 0) []=0 from rfl,cV] at hL;have HMr:=ah hL;clear HL hL;have hm:=HMr.out;rw [uI] at hm;have HMs:=ah hm;clear hm HMr;have k4557:=cell_of (i:=0) QC2050 rfl;have k4558:=cell_of (i:=4) QX2051 rfl;have k4559:=cell_of (i:=6) QX2051 rfl;have k4560:=cell_of (i:=7) QX2051 rfl
    have k4561:=cell_of (i:=8) QX2051 rfl;have k4562:=cell_of (i:=9) QX2051 rfl;have k4563:=cell_of (i:=10) QX2051 rfl;have k4564:=cell_of (i:=11) QX2051 rfl;have k4565:=cell_of (i:=12) QX2051 rfl;have con4566:=ke x.ax x.au at_ a3 c3 (fun _=>True) wr HK2054.out.ks
    have hm:=HMs.out;generalize ed x.ax x.au=rk at hm con4566;have HM4567:=ah hm;clear hm HMs;go_wp2_with fail
    refine con4566.mono ?_;rintro e w4568 ⟨hb4569,hW⟩;clear con4566 k4557 k4558 k4559 k4560 k4561 k4562 k4563 k4564 k4565;have hx4570:=chain hx2049 hb4569;have QC4571:=bH hb4569 QC2050;have QX4572:=bH hb4569 QX2051;have HK4573:=ah ((br fp 8).next (ay.of hb4569) HK2052.out);have HK4574:=ah ((br cU 10).next (ay.of hb4569) HK2053.out)
    have HK4575:=ah (b9.next (ay.of hb4569) HK2054.out);have HK4576:=ah (b9.next (ay.of hb4569) HK2055.out)
    have HK4577:=ah ((br b9 7).next (ay.of hb4569) HK2056.out);rcases hW with ⟨h,rfl⟩ | ⟨h,rfl⟩
    rotate_left
    ·have HR:Hid (rk=M):=by have:=HM4567.out; rw [dN h] at this; exact this
     clear HM4567;go_wp2_with fail
     exact ⟨rfl,.bad hx4570 HR.out.symm h⟩
    subst h;have hm:=HM4567.out;rw [cV] at hm;have HM4578:=ah hm;clear hm HM4567;have k4579:=cell_of (i:=0) QC4571 rfl;have k4580:=cell_of (i:=20) QX4572 rfl;have con4581:=qx x.group ak at_ a5 c5 (fun _=>True) w4568 (bf.Da HK4577.out.ls);have hm:=HM4578.out;generalize eZ x.group=rk at hm con4581;have HM4582:=ah hm;clear hm HM4578;go_wp2_with fail
    refine con4581.mono ?_;rintro e w4583 ⟨hb4584,hW⟩;clear con4581 k4579 k4580;have hx4585:=chain hx4570 hb4584;have QC4586:=bH hb4584 QC4571;have QX4587:=bH hb4584 QX4572;have HK4588:=ah ((br fp 8).next (ay.of hb4584) HK4573.out);have HK4589:=ah ((br cU 10).next (ay.of hb4584) HK4574.out)
    have HK4590:=ah (b9.next (ay.of hb4584) HK4575.out);have HK4591:=ah (b9.next (ay.of hb4584) HK4576.out)
    have HK4592:=ah ((br b9 7).next (ay.of hb4584) HK4577.out);rcases hW with ⟨h,rfl⟩ | ⟨h,rfl⟩
    rotate_left
    ·have HR:Hid (rk=M):=by have:=HM4582.out; rw [dN h] at this; exact this
     clear HM4582;go_wp2_with fail
     exact ⟨rfl,.bad hx4585 HR.out.symm h⟩
    subst h;have hm:=HM4582.out;rw [cV] at hm;have HM4593:=ah hm;clear hm HM4582;have k4594:=cell_of (i:=0) QC4586 rfl;have k4595:=cell_of (i:=5) QX4587 rfl;have k4596:=cell_of (i:=13) QX4587 rfl;have k4597:=cell_of (i:=14) QX4587 rfl;have k4598:=cell_of (i:=15) QX4587 rfl
    have k4599:=cell_of (i:=16) QX4587 rfl;have k4600:=cell_of (i:=17) QX4587 rfl;have k4601:=cell_of (i:=18) QX4587 rfl;have k4602:=cell_of (i:=19) QX4587 rfl;have con4603:=ke x.aG x.az at_ a4 c4 (fun _=>True) w4583 HK4591.out.ks;have hm:=HM4593.out;generalize ed x.aG x.az=rk at hm con4603
    have HM4604:=ah hm;clear hm HM4593;go_wp2_with fail
    refine con4603.mono ?_;rintro e w4605 ⟨hb4606,hW⟩;clear con4603 k4594 k4595 k4596 k4597 k4598 k4599 k4600 k4601 k4602;have hx4607:=chain hx4585 hb4606;have QC4608:=bH hb4606 QC4586;have QX4609:=bH hb4606 QX4587;have HK4610:=ah ((br fp 8).next (ay.of hb4606) HK4588.out);have HK4611:=ah ((br cU 10).next (ay.of hb4606) HK4589.out)
    have HK4612:=ah (b9.next (ay.of hb4606) HK4590.out);have HK4613:=ah (b9.next (ay.of hb4606) HK4591.out)
    have HK4614:=ah ((br b9 7).next (ay.of hb4606) HK4592.out);rcases hW with ⟨h,rfl⟩ | ⟨h,rfl⟩
    rotate_left
    ·have HR:Hid (rk=M):=by have:=HM4604.out; rw [dN h] at this; exact this
     clear HM4604;go_wp2_with fail
     exact ⟨rfl,.bad hx4607 HR.out.symm h⟩
    subst h;have hm:=HM4604.out;rw [cV] at hm;have HM4615:=ah hm;clear hm HM4604;go_wp2_with fail
    go_end0
    exact .ok hx4607 HM4615.out.symm
def jo:List Vl→Int
 | []=>0
 | x :: r=>dY (gb x) (jo r)
theorem vt (x:Vl) (r:List Vl):jo (x :: r)=dY (gb x) (jo r):=rfl
def hU:List (List Vl)→Int
 | []=>0
 | x :: r=>dY (fi x.length 1 8) (dY (jo x) (hU r))
theorem vd (x:List Vl) (r:List (List Vl)):hU (x :: r)=dY (fi x.length 1 8) (dY (jo x) (hU r)):=rfl
def mZ (l:List (List Vl)):Int:=dY (fi l.length 1 400) (dY (hU l) 0)
theorem BQ (l:List (List Vl)) (a:Option Addr) (c:Nat) (S:Nat→Prop) (at_:Int) (w:World) (hks:bf (iB jQ 3) 1 S w a l):Calls Tryz.prog 71 #[.agg #[at_],.slice a l.length c] w (gv w at_ (mZ l)):=by
 obtain ⟨hal,QC⟩:=dZ w #[at_] 86;generalize hM:mZ l=M;have HM0:=ah hM;clear hM;have HK1:=ah ((br (br eU 3) 1).next (ay.of hal) ((br (br eU 3) 1).mono (fun _ _ _=>trivial) ⟨a,c,rfl,hks⟩));go_enter Tryz.func71,Tryz.ntmps71;go_upto_region 1 with fail
 generalize w.alloc _=w1 at *;have hm:=HM0.out;rw [mZ] at hm;have HMa:=ah hm;clear hm HM0 hks;have k2:=cell_of (i:=0) QC rfl;have con3:=fT l.length 1 400 at_ w1;have hm:=HMa.out;obtain ⟨rk,hrk⟩:∃ r,fi l.length 1 400=r:=⟨_,rfl⟩
 rw [hrk] at hm con3;have HRK:=ah hrk;clear hrk;have HM4:=ah hm;clear hm HMa;go_wp2_with fail
 refine con3.mono ?_;rintro e w5 ⟨hb6,hW⟩;clear con3 k2;have hx7:=chain hal hb6;have QC8:=bH hb6 QC;have HK9:=ah ((br (br eU 3) 1).next (ay.of hb6) HK1.out);rcases hW with ⟨h,rfl⟩ | ⟨h,rfl⟩
 rotate_left
 ·have HR:Hid (rk=M):=by have:=HM4.out; rw [dN h] at this; exact this
  clear HM4;go_wp2_with fail
  exact ⟨rfl,.bad hx7 HR.out.symm h⟩
 subst h;have hm:=HM4.out;rw [cV] at hm;have HM10:=ah hm;clear hm HM4;have hcn:=dw HRK.out;clear HRK;have HKL:=ah HK9.out.ls;have HM11:Hid (dY (hU (l.drop 0)) (0)=M):=by show _=_; rw [JJ]; exact HM10.out
 clear HM10;go_wp2_with fail
 go_loopw [14] (fun jv wr=>∃ j:Nat,j≤l.length∧jv = .int .i64 j∧Hid (dY (hU (l.drop j)) (0)=M)∧Below w5 w5 wr) (fun jv _=>l.length - (RowKit.intOf jv).toNat)
 case atStart=>exact ⟨0,by omega,rfl,HM11,I8 _ _⟩
 case round =>
  clear HM11;obtain ⟨j,hj,rfl,HL,hbr⟩:=hrel;have hx12:=chain hx7 hbr;have QC13:=bH hbr QC8;have HK14:=ah ((br (br eU 3) 1).next (ay.of hbr) HK9.out);have hL:=HL.out;by_cases hlt:j<l.length
  ·have hjz:(j:Int)<(l.length:Int):=by omega
   rw [I9 hlt,vd] at hL;simp only [iG] at hL;obtain ⟨bl,off,cs,rfl,hbl,hcl,hce,⟨ai,ci,rfl,hkk⟩⟩:=(HKL.out.aM (br eU 3) (ay.of hbr)).elem hlt;have z0:=hce 0 _ rfl;rw [JL,Nat.mul_one] at z0;have HMr:=ah hL;generalize l[j]=y at *;clear HL hL hce hcl;have k1515:=cell_of (i:=0) QC13 rfl;have con1516:=fT y.length 1 8 at_ wr;have hm:=HMr.out;obtain ⟨rk,hrk⟩:∃ r,fi y.length 1 8=r:=⟨_,rfl⟩
   rw [hrk] at hm con1516;have HRK:=ah hrk;clear hrk;have HM1517:=ah hm;clear hm HMr;go_wp2_with fail
   refine con1516.mono ?_;rintro e w1518 ⟨hb1519,hW⟩;clear con1516 k1515;have hx1520:=chain hx12 hb1519;have QC1521:=bH hb1519 QC13;have hB1522:=chain hbr hb1519;have hS1523:=hb1519;rcases hW with ⟨h,rfl⟩ | ⟨h,rfl⟩
   rotate_left
   ·have HR:Hid (rk=M):=by have:=HM1517.out; rw [dN h] at this; exact this
    clear HM1517;go_wp2_with fail
    exact ⟨rfl,.bad hx1520 HR.out.symm h⟩
   subst h;have hm:=HM1517.out;rw [cV] at hm;have HM1524:=ah hm;clear hm HM1517;have hcny:=dw HRK.out;clear HRK;have HKY:=ah (hkk.aM eU (ay.of hS1523));clear hkk;have HM1525:Hid (dY (jo (y.drop 0)) (dY (hU (l.drop (j+1))) 0)=M):=by show _=_; rw [JJ]; exact HM1524.out
   clear HM1524;go_wp2_with fail
   go_loopw [24] (fun jv wri=>∃ ji:Nat,ji≤y.length∧jv = .int .i64 ji∧Hid (dY (jo (y.drop ji)) (dY (hU (l.drop (j+1))) 0)=M)∧Below w1518 w1518 wri) (fun jv _=>y.length - (RowKit.intOf jv).toNat)
   case atStart=>exact ⟨0,by omega,rfl,HM1525,I8 _ _⟩
   case round =>
    clear HM1525;obtain ⟨ji,hji,rfl,HL,hbri⟩:=hrel;obtain ⟨wri,ewr⟩:∃ W,W=wr:=⟨_,rfl⟩
    subst ewr;have hx1526:=chain hx1520 hbri;have QC1527:=bH hbri QC1521;have hB1528:=chain hB1522 hbri;have hS1529:=chain hS1523 hbri;have hL:=HL.out;by_cases hlti:ji<y.length
    ·have hjzi:(ji:Int)<(y.length:Int):=by omega
     rw [I9 hlti,vt] at hL;simp only [iG] at hL;obtain ⟨bli,offi,cs,rfl,hbli,hcl,hce,rfl⟩:=(HKY.out.aM eU (ay.of hbri)).elem hlti;have zi0:=hce 0 _ rfl;have zi1:=hce 1 _ rfl;have zi2:=hce 2 _ rfl;rw [JL] at zi0;obtain ⟨halYi,QYi⟩:=dZ wri #[.int .i64 y[ji].1,.int .i64 y[ji].2.1,.string y[ji].2.2] 53;have HMr:=ah hL;generalize y[ji]=v at *;clear HL hL hce hcl
     go_upto_region 9 with fail
     generalize wri.alloc _=wai at *;clear zi0 zi1 zi2;have hx3030:=chain hx1526 halYi;have QC3031:=bH halYi QC1527;have hB3032:=chain hB1528 halYi;have hB3033:=chain hbri halYi;have hS3034:=chain hS1529 halYi;have k3035:=cell_of (i:=0) QC3031 rfl;have k3036:=cell_of (i:=0) QYi rfl
     have k3037:=cell_of (i:=1) QYi rfl;have k3038:=cell_of (i:=2) QYi rfl;have con3039:=qk v at_ wai;have hm:=HMr.out;generalize gb v=rk at hm con3039;have HM3040:=ah hm;clear hm HMr;go_wp2_with fail
     refine con3039.mono ?_;rintro e w3041 ⟨hb3042,hW⟩;clear con3039 k3035 k3036 k3037 k3038;have hx3043:=chain hx3030 hb3042;have QC3044:=bH hb3042 QC3031;have QYi3045:=bH hb3042 QYi;have hB3046:=chain hB3032 hb3042;have hB3047:=chain hB3033 hb3042;have hS3048:=chain hS3034 hb3042;rcases hW with ⟨h,rfl⟩ | ⟨h,rfl⟩
     rotate_left
     ·have HR:Hid (rk=M):=by have:=HM3040.out; rw [dN h] at this; exact this
      clear HM3040;go_wp2_with fail
      exact ⟨rfl,.bad hx3043 HR.out.symm h⟩
     subst h;have hm:=HM3040.out;rw [cV] at hm;have HM3049:=ah hm;clear hm HM3040;go_wp2_with fail
     go_roundw
     case rel=>exact ⟨ji+1,by omega,by go_num,HM3049,hB3047⟩
     case measure=>simp [RowKit.intOf]; omega
    ·have hjzi:¬ (ji:Int)<(y.length:Int):=by omega
     rw [Jh ak,show jo []=0 from rfl,cV] at hL;have HMr:=ah hL;clear HL hL;go_wp2_with fail
     go_roundw
     case rel=>exact ⟨j+1,by omega,by go_num,HMr,hB1528⟩
     case measure=>simp [RowKit.intOf]; omega
  ·have hjz:¬ (j:Int)<(l.length:Int):=by omega
   rw [Jh ak,show hU []=0 from rfl,cV] at hL;have HMr:=ah hL;clear HL hL;go_wp2_with fail
   go_end0
   exact .ok hx12 HMr.out.symm
def cW (t:Int):List (Int × ByteArray)→ByteArray
 | []=>⟨#[]⟩
 | a :: r=>if a.1=t then a.2 else cW t r
theorem yC (t:Int) {g:Nat} {w:World} (h:w.heap[g]? = some (.cells FC 168 (0,0))):Calls Tryz.prog 87 #[.slice (some (af g 0)) 3 3,t] w fun e w'=>e = .returned (.string (cW t qR))∧Below w w w':=by
 generalize hM:cW t qR=M;have HM:=ah hM;clear hM;go_enter Tryz.func87,Tryz.ntmps87;go_wp2_with fail
 go_loopw [9] (fun jv wr=>∃ k:Nat,k≤3∧jv = .int .i64 k∧Hid (cW t (qR.drop k)=M)∧Below w w wr) (fun jv _=>3 - (RowKit.intOf jv).toNat)
 case atStart=>exact ⟨0,by omega,rfl,HM,I8 _ _⟩
 case round =>
  clear HM;obtain ⟨k,hk,rfl,HL,hx⟩:=hrel;by_cases hlt:k<3
  ·have hkz:(k:Int)<3:=by omega
   have hkl:=hlt;have QA:=bH hx h;obtain ⟨c0,c1⟩:=Bv QA k hkl;have hgl:=lt_of_heap QA;have hL:=HL.out;rw [I9 hkl,cW] at hL;generalize qR[k]=y at *;have HL2:=ah hL;obtain ⟨hal,QY⟩:=dZ wr #[y.1,y.2] 168;clear HL hL QA;go_upto_region 4 with fail
   generalize wr.alloc _=wa at *;have y0:=cell_of (i:=0) QY rfl;have y1:=cell_of (i:=1) QY rfl;clear c0 c1;by_cases he:y.1=t
   ·have b1:(y.1 == t)=true:=by simpa using he
    have e:M=y.2:=by rw [← HL2.out,if_pos he]
    have E:=ah e;clear HL2 he e;go_wp2_with fail
    exact fa rfl rfl ⟨by rw [E.out]; rfl,chain hx hal⟩
   ·have b1:(y.1 == t)=false:=by simpa using he
    have HL3:Hid (cW t (qR.drop (k+1))=M):=by show _=_; rw [← HL2.out,if_neg he]
    clear HL2 he;go_wp2_with fail
    go_roundw
    case rel=>exact ⟨k+1,by omega,by go_num,HL3,chain hx hal⟩
    case measure=>simp [RowKit.intOf]; omega
  ·have hkz:¬ (k:Int)<3:=by omega
   have e:M=⟨#[]⟩:=by rw [← HL.out,Jh (by show 3≤k; omega)]; rfl
   have E:=ah e;clear HL e;go_wp2_with fail
   exact fa rfl rfl ⟨by rw [E.out]; rfl,hx⟩
def mj (t:Int):Int:=if (cW t qR).toList.isEmpty then 1 else 0
def kN:List tG→Int
 | []=>0
 | x :: r=>dY (ef x.1) (dY (mj x.2) (kN r))
theorem vS (x:tG) (r:List tG):kN (x :: r)=dY (ef x.1) (dY (mj x.2) (kN r)):=rfl
def oK (l:List tG):Int:=dY (fi l.length 1 8) (dY (kN l) 0)
theorem sy (l:List tG) (a:Option Addr) (c:Nat) (S:Nat→Prop) (at_:Int) (w:World) (hks:bf pO 2 S w a l):Calls Tryz.prog 70 #[.agg #[at_],.slice a l.length c] w (gv w at_ (oK l)):=by
 obtain ⟨hal,QC⟩:=dZ w #[at_] 86;generalize hM:oK l=M;have HM0:=ah hM;clear hM;have HK1:=ah ((br iY 2).next (ay.of hal) ((br iY 2).mono (fun _ _ _=>trivial) ⟨a,c,rfl,hks⟩));go_enter Tryz.func70,Tryz.ntmps70;go_upto_region 1 with fail
 generalize w.alloc _=w1 at *;have hm:=HM0.out;rw [oK] at hm;have HMa:=ah hm;clear hm HM0 hks;have k2:=cell_of (i:=0) QC rfl;have con3:=fT l.length 1 8 at_ w1;have hm:=HMa.out;obtain ⟨rk,hrk⟩:∃ r,fi l.length 1 8=r:=⟨_,rfl⟩
 rw [hrk] at hm con3;have HRK:=ah hrk;clear hrk;have HM4:=ah hm;clear hm HMa;go_wp2_with fail
 refine con3.mono ?_;rintro e w5 ⟨hb6,hW⟩;clear con3 k2;have hx7:=chain hal hb6;have QC8:=bH hb6 QC;have HK9:=ah ((br iY 2).next (ay.of hb6) HK1.out);rcases hW with ⟨h,rfl⟩ | ⟨h,rfl⟩
 rotate_left
 ·have HR:Hid (rk=M):=by have:=HM4.out; rw [dN h] at this; exact this
  clear HM4;go_wp2_with fail
  exact ⟨rfl,.bad hx7 HR.out.symm h⟩
 subst h;have hm:=HM4.out;rw [cV] at hm;have HM10:=ah hm;clear hm HM4;have hcn:=dw HRK.out;clear HRK;have HKL:=ah HK9.out.ls;have HM11:Hid (dY (kN (l.drop 0)) (0)=M):=by show _=_; rw [JJ]; exact HM10.out
 clear HM10;go_wp2_with fail
 go_loopw [12] (fun jv wr=>∃ j:Nat,j≤l.length∧jv = .int .i64 j∧Hid (dY (kN (l.drop j)) (0)=M)∧Below w5 w5 wr) (fun jv _=>l.length - (RowKit.intOf jv).toNat)
 case atStart=>exact ⟨0,by omega,rfl,HM11,I8 _ _⟩
 case round =>
  clear HM11;obtain ⟨j,hj,rfl,HL,hbr⟩:=hrel;have hx12:=chain hx7 hbr;have QC13:=bH hbr QC8;have HK14:=ah ((br iY 2).next (ay.of hbr) HK9.out);have hL:=HL.out;by_cases hlt:j<l.length
  ·have hjz:(j:Int)<(l.length:Int):=by omega
   rw [I9 hlt,vS] at hL;simp only [iG] at hL;obtain ⟨bl,off,cs,rfl,hbl,hcl,hce,rfl⟩:=(HKL.out.aM iY (ay.of hbr)).elem hlt;have z0:=hce 0 _ rfl;have z1:=hce 1 _ rfl;rw [JL] at z0;obtain ⟨halY,QY⟩:=dZ wr #[.string l[j].1,.int .i64 l[j].2] 69;have HMr:=ah hL;generalize l[j]=y at *;clear HL hL hce hcl;go_upto_region 5 with fail
   generalize wr.alloc _=wa at *;clear z0 z1;have hx1515:=chain hx12 halY;have QC1516:=bH halY QC13;have hB1517:=chain hbr halY;have k1518:=cell_of (i:=0) QC1516 rfl;have k1519:=cell_of (i:=0) QY rfl;have con1520:=kC y.1 at_ wa;have hm:=HMr.out;generalize ef y.1=rk at hm con1520;have HM1521:=ah hm;clear hm HMr;go_wp2_with fail
   refine con1520.mono ?_;rintro e w1522 ⟨hb1523,hW⟩;clear con1520 k1518 k1519;have hx1524:=chain hx1515 hb1523;have QC1525:=bH hb1523 QC1516;have QY1526:=bH hb1523 QY;have hB1527:=chain hB1517 hb1523;rcases hW with ⟨h,rfl⟩ | ⟨h,rfl⟩
   rotate_left
   ·have HR:Hid (rk=M):=by have:=HM1521.out; rw [dN h] at this; exact this
    clear HM1521;go_wp2_with fail
    exact ⟨rfl,.bad hx1524 HR.out.symm h⟩
   subst h;have hm:=HM1521.out;rw [cV] at hm;have HM1528:=ah hm;clear hm HM1521;go_upto_region 6 with fail
   have hCC:∀ W W':World,W.heap[w.heap.size]? = some (.cells #[at_] 86 (0,0))∧W.heap[wr.heap.size]? = some (.cells #[y.1,y.2] 69 (0,0))→Below W W W'→W'.heap[w.heap.size]? = some (.cells #[at_] 86 (0,0))∧W'.heap[wr.heap.size]? = some (.cells #[y.1,y.2] 69 (0,0)):=fun W W' h hb=>⟨(hb.block _ (lt_of_heap h.1)).trans h.1,(hb.block _ (lt_of_heap h.2)).trans h.2⟩
   have hdr:Below w1522 w1522 w1522.drew:=(I8 _ _).drew;have CW:=hCC _ _ ⟨QC1525,QY1526⟩ hdr;refine dC (fun W=>W.heap[w.heap.size]? = some (.cells #[at_] 86 (0,0))∧W.heap[wr.heap.size]? = some (.cells #[y.1,y.2] 69 (0,0))) 6 bm ?_;refine fP hCC 20 0 (.agg #[at_]) (fun n hn=>?_) (fun _=>CW) ?_
   ·have c0:=cell_of (i:=0) hn.1 rfl; go_simp
   simp only [Act.put,pA,pB,pC];refine fP hCC 22 2 (af wr 1) (fun n hn=>?_) (fun _=>CW) ?_
   ·go_simp
   simp only [Act.put,pA,pB,pC];refine fP hCC 23 3 y.2 (fun n hn=>?_) (fun _=>CW) ?_
   ·have c0:=cell_of (i:=1) hn.2 rfl; go_simp
   simp only [Act.put,pA,pB,pC];refine pJ 1 bm fun v1 hv1=>?_
   have con:=sG v1;obtain ⟨hal5,QT⟩:=dZ v1 FC 168;refine wpOp_step rfl (fun K hK=>?_);go_simp;refine con.mono ?_;rintro e v2 ⟨rfl,rfl⟩;generalize v1.alloc _=v2 at *;have C2:=hCC _ _ (hCC _ _ CW hv1) hal5;refine hK _ _ ⟨fun _=>C2,?_⟩;clear hK K con;refine pJ 4 bm fun v3 hv3=>?_
   have con:=yC y.2 (bH hv3 QT);refine wpOp_step rfl (fun K hK=>?_);go_simp;refine cR con fun v4 hv4=>?_;have C4:=hCC _ _ (hCC _ _ C2 hv3) hv4;have D4:=chain (chain hdr hv1) (chain hal5 (chain hv3 hv4));refine hK _ _ ⟨fun _=>C4,?_⟩;clear hK K con CW C2;have CW:=C4;have hm:=HM1528.out;rw [mj] at hm;generalize cW y.2 qR=wd at *;have HMt:=ah hm;clear hm HM1528;rcases hwd:wd.toList.isEmpty with _ | _
   ·have hm:=HMt.out;rw [hwd,if_neg (by decide)] at hm;refine fP hCC 25 5 true (fun n hn=>?_) (fun _=>CW) ?_
    ·go_simp
    simp only [Act.put,pA,pB,pC];refine bZ (rs:=[6]) (by kernel_rfl) (by simp) ?_;intro v5 hv5 jj hjj;obtain rfl:jj=6:=by simpa using hjj
    have con:=gf 1 at_ v5;refine wpOp_step rfl (fun K hK=>?_);go_simp;refine cR con fun v6 hv6=>?_;rw [cV] at hm;have HMu:=ah hm;clear hm HMt;refine hK _ _ ⟨fun h=>by simp at h,?_⟩;clear hK K con;refine eJ bm ?_;intro v7 hv7;have D7:=chain D4 (chain hv5 (chain hv6 hv7));have hx3029:=chain hx1524 D7;have QC3030:=bH D7 QC1525;have QY3031:=bH D7 QY1526;have hB3032:=chain hB1527 D7;go_wp2_with fail
    go_roundw
    case rel=>exact ⟨j+1,by omega,by go_num,HMu,hB3032⟩
    case measure=>simp [RowKit.intOf]; omega
   ·have hm:=HMt.out;rw [hwd,if_pos rfl] at hm;refine fP hCC 25 5 false (fun n hn=>?_) (fun _=>CW) ?_
    ·go_simp
    simp only [Act.put,pA,pB,pC];refine bZ (rs:=[6]) (by kernel_rfl) (by simp) ?_;intro v5 hv5 jj hjj;obtain rfl:jj=6:=by simpa using hjj
    clear hjj;have con:=dW 1 at_ v5;refine wpOp_step rfl (fun K hK=>?_);go_simp;refine con.mono ?_;rintro e v6 ⟨rfl,hv6⟩;rw [dN (by decide)] at hm;exact ⟨rfl,.bad (chain hx1524 (chain D4 (chain hv5 hv6))) hm.symm (by decide)⟩
  ·have hjz:¬ (j:Int)<(l.length:Int):=by omega
   rw [Jh ak,show kN []=0 from rfl,cV] at hL;have HMr:=ah hL;clear HL hL;go_wp2_with fail
   go_end0
   exact .ok hx12 HMr.out.symm
def F9 (op:Int):Int:=if decide (1≤op) && decide (op≤4) then 0 else 1
def fx (ops:List Int) (j:Nat):List dO→Int
 | []=>0
 | x :: r=>dY (if j=0 then 0 else F9 (ops.getD (j - 1) 0)) (dY (lL x) (fx ops (j+1) r))
theorem uK (ops:List Int) (j:Nat) (x:dO) (r:List dO):fx ops j (x :: r)=dY (if j=0 then 0 else F9 (ops.getD (j - 1) 0)) (dY (lL x) (fx ops (j+1) r)):=rfl
def wG (n:Int):Int:=if n≤50 then 0 else 3
def xX (x:kf):Int:=if 0≤x.aH then fi x.order.length 1 8 else 0
def qa (x:kf):Int:=if 0≤x.aH then eZ x.order else 0
def nD (x:kf):Int:=dY (fi x.parts.length 1 4) (dY (fi x.ops.length (x.parts.length - 1) (x.parts.length - 1)) (dY (xX x) (dY (wG x.aH) (dY (fx x.ops 0 x.parts) (dY (qa x) 0)))))
theorem eS.Hi {S:Nat→Prop} {W:World} {x:dO} {a1 a2 a3 a4 a5:Option Addr} {c1 c2 c3 c4 c5:Nat} (h:eS S W x [.bool x.distinct,x.star,.slice a1 x.items.length c1,.slice a2 x.sources.length c2,x.ax,x.aG,x.au.k,x.au.v.1,x.au.v.2.1,x.au.v.2.2,x.au.bp,x.au.name,.slice a3 x.au.ks.length c3,x.az.k,x.az.v.1,x.az.v.2.1,x.az.v.2.2,x.az.bp,x.az.name,.slice a4 x.az.ks.length c4,.slice a5 x.group.length c5]):bf kl 8 S W a1 x.items∧bf gj 10 S W a2 x.sources∧aJ S W a3 x.au.ks∧aJ S W a4 x.az.ks∧bf fu 7 S W a5 x.group:=by
 obtain ⟨b1,d1,b2,d2,b3,d3,b4,d4,b5,d5,e,h1,h2,h3,h4,h5⟩:=h;simp only [List.cons.injEq,Value.slice.injEq] at e;obtain ⟨_,_,⟨rfl,_⟩,⟨rfl,_⟩,_,_,_,_,_,_,_,_,⟨rfl,_⟩,_,_,_,_,_,_,⟨rfl,_⟩,⟨rfl,_⟩,_⟩:=e;exact ⟨h1,h2,h3,h4,h5⟩
theorem yp (x:kf) (p1 p2 p3:Option Addr) (d1 d2 d3:Nat) (S:Nat→Prop) (at_:Int) (w:World) (h1:bf eS 21 S w p1 x.parts) (h2:bf lD 1 S w p2 x.ops) (h3:bf fu 7 S w p3 x.order):Calls Tryz.prog 73 #[.agg #[at_],.agg #[.slice p1 x.parts.length d1,.slice p2 x.ops.length d2,.slice p3 x.order.length d3,x.aH]] w (gv w at_ (nD x)):=by
 have hal1:=bR w (.cells #[at_] 86);have hal2:Below (w.alloc (.cells #[at_] 86)).heap.size (w.alloc (.cells #[at_] 86)) ((w.alloc (.cells #[at_] 86)).alloc (.cells #[.slice p1 x.parts.length d1,.slice p2 x.ops.length d2,.slice p3 x.order.length d3,x.aH] 50)):=bR ..
 have QC:=(hal2.block _ (lt_of_heap (aD w #[at_] 86))).trans (aD w _ _)
 have QX:((w.alloc (.cells #[at_] 86)).alloc (.cells #[.slice p1 x.parts.length d1,.slice p2 x.ops.length d2,.slice p3 x.order.length d3,x.aH] 50)).heap[w.heap.size+1]? = some (.cells #[.slice p1 x.parts.length d1,.slice p2 x.ops.length d2,.slice p3 x.order.length d3,x.aH] 50 (0,0)):=by
  rw [show w.heap.size+1=(w.alloc (.cells #[at_] 86)).heap.size by simp];exact aD _ _ _
 have hal:=chain hal1 hal2;clear hal1 hal2;generalize hM:nD x=M;have HM0:=ah hM;clear hM;have HK1:=ah ((br b8 21).next (ay.of hal) ((br b8 21).mono (fun _ _ _=>trivial) ⟨p1,d1,rfl,h1⟩))
 have HK2:=ah ((br fv 1).next (ay.of hal) ((br fv 1).mono (fun _ _ _=>trivial) ⟨p2,d2,rfl,h2⟩))
 have HK3:=ah ((br b9 7).next (ay.of hal) ((br b9 7).mono (fun _ _ _=>trivial) ⟨p3,d3,rfl,h3⟩));go_enter Tryz.func73,Tryz.ntmps73;go_upto_region 1 with fail
 generalize ((w.alloc (.cells #[at_] 86)).alloc (.cells #[.slice p1 x.parts.length d1,.slice p2 x.ops.length d2,.slice p3 x.order.length d3,x.aH] 50))=w1 at *;have hm:=HM0.out;rw [nD] at hm;have HMa:=ah hm;clear hm HM0 h1 h2 h3;have k4:=cell_of (i:=0) QC rfl;have k5:=cell_of (i:=0) QX rfl;have con6:=fT x.parts.length 1 4 at_ w1;have hm:=HMa.out;obtain ⟨rk,hrk⟩:∃ r,fi x.parts.length 1 4=r:=⟨_,rfl⟩
 rw [hrk] at hm con6;have HRK:=ah hrk;clear hrk;have HM7:=ah hm;clear hm HMa;go_wp2_with fail
 refine con6.mono ?_;rintro e w8 ⟨hb9,hW⟩;clear con6 k4 k5;have hx10:=chain hal hb9;have QC11:=bH hb9 QC;have QX12:=bH hb9 QX;have HK13:=ah ((br b8 21).next (ay.of hb9) HK1.out);have HK14:=ah ((br fv 1).next (ay.of hb9) HK2.out);have HK15:=ah ((br b9 7).next (ay.of hb9) HK3.out)
 rcases hW with ⟨h,rfl⟩ | ⟨h,rfl⟩
 rotate_left
 ·have HR:Hid (rk=M):=by have:=HM7.out; rw [dN h] at this; exact this
  clear HM7;go_wp2_with fail
  exact ⟨rfl,.bad hx10 HR.out.symm h⟩
 subst h;have hm:=HM7.out;rw [cV] at hm;have HM16:=ah hm;clear hm HM7;have hcn1:=dw HRK.out;clear HRK;have k17:=cell_of (i:=0) QC11 rfl;have k18:=cell_of (i:=1) QX12 rfl;have k19:=cell_of (i:=0) QX12 rfl;have con20:=fT x.ops.length ((x.parts.length:Int) - 1) ((x.parts.length:Int) - 1) at_ w8;have hm:=HM16.out
 obtain ⟨rk,hrk⟩:∃ r,fi x.ops.length ((x.parts.length:Int) - 1) ((x.parts.length:Int) - 1)=r:=⟨_,rfl⟩
 rw [hrk] at hm con20;have HRK:=ah hrk;clear hrk;have HM21:=ah hm;clear hm HM16;go_wp2_with fail
 refine con20.mono ?_;rintro e w22 ⟨hb23,hW⟩;clear con20 k17 k18 k19;have hx24:=chain hx10 hb23;have QC25:=bH hb23 QC11;have QX26:=bH hb23 QX12;have HK27:=ah ((br b8 21).next (ay.of hb23) HK13.out);have HK28:=ah ((br fv 1).next (ay.of hb23) HK14.out)
 have HK29:=ah ((br b9 7).next (ay.of hb23) HK15.out);rcases hW with ⟨h,rfl⟩ | ⟨h,rfl⟩
 rotate_left
 ·have HR:Hid (rk=M):=by have:=HM21.out; rw [dN h] at this; exact this
  clear HM21;go_wp2_with fail
  exact ⟨rfl,.bad hx24 HR.out.symm h⟩
 subst h;have hm:=HM21.out;rw [cV] at hm;have HM30:=ah hm;clear hm HM21;have hcn2:=dw HRK.out;clear HRK;have k31:=cell_of (i:=0) QC25 rfl;have k32:=cell_of (i:=3) QX26 rfl;have k33:=cell_of (i:=2) QX26 rfl;go_upto_if 27 with fail
 go_cut [] (fun wc=>Hid (dY (wG x.aH) (dY (fx x.ops 0 x.parts) (dY (qa x) 0))=M)∧Hid (0≤x.aH→x.order.length≤8)∧Below w22 w22 wc)
 case first =>
  by_cases hl:0≤x.aH
  ·have hm:=HM30.out;rw [xX,if_pos hl] at hm;have con:=fT x.order.length 1 8 at_ w22;obtain ⟨rk,hrk⟩:∃ r,fi x.order.length 1 8=r:=⟨_,rfl⟩
   rw [hrk] at hm con;have HRK:=ah hrk;have HMb:=ah hm;clear hm hrk HM30;go_wp2_with fail
   refine con.mono ?_;rintro e wq ⟨hbq,⟨h,rfl⟩ | ⟨h,rfl⟩⟩
   ·subst h;have hm:=HMb.out;rw [cV] at hm;have HMe:=ah hm;have hle:=dw HRK.out;have HLE:Hid (0≤x.aH→x.order.length≤8):=fun _=>by omega
    clear hm HMb hle HRK;go_wp2_with fail
    go_meet
    case rel=>exact ⟨HMe,HLE,hbq⟩
   ·have HR:Hid (rk=M):=by have:=HMb.out; rw [dN h] at this; exact this
    clear HMb HRK;go_wp2_with fail
    exact ⟨rfl,.bad (chain hx24 hbq) HR.out.symm h⟩
  ·have hm:=HM30.out;rw [xX,if_neg hl,cV] at hm;have HMb:=ah hm;have HLE:Hid (0≤x.aH→x.order.length≤8):=fun h=>absurd h hl
   clear hm HM30;go_wp2_with fail
   go_meet
   case rel=>exact ⟨HMb,HLE,I8 _ _⟩
 case rest =>
  clear HM30 k31 k32 k33;obtain ⟨HMb,HLE,hbc⟩:=hcut;have hx2034:=chain hx24 hbc;have QC2035:=bH hbc QC25;have QX2036:=bH hbc QX26;have HK2037:=ah ((br b8 21).next (ay.of hbc) HK27.out);have HK2038:=ah ((br fv 1).next (ay.of hbc) HK28.out);have HK2039:=ah ((br b9 7).next (ay.of hbc) HK29.out)
  have k2040:=cell_of (i:=0) QC2035 rfl;have k2041:=cell_of (i:=3) QX2036 rfl;by_cases h50:x.aH≤50
  case neg =>
   have con:=dW 3 at_ wc;have HR:Hid (M=3):=by show _=_; have:=HMb.out; rw [wG,if_neg h50,dN (by decide)] at this; exact this.symm
   clear HMb;go_wp2_with fail
   refine con.mono ?_;rintro e wq ⟨rfl,hbq⟩;go_wp2_with fail
   exact ⟨rfl,.bad (chain hx2034 hbq) HR.out (by decide)⟩
  have con:=gf 3 at_ wc;have hm:=HMb.out;rw [wG,if_pos h50,cV] at hm;have HMc:=ah hm;clear hm HMb;go_wp2_with fail
  refine cR con fun wd hbd=>?_;clear con k2040 k2041;have hx2042:=chain hx2034 hbd;have QC2043:=bH hbd QC2035;have QX2044:=bH hbd QX2036;have HK2045:=ah ((br b8 21).next (ay.of hbd) HK2037.out);have HK2046:=ah ((br fv 1).next (ay.of hbd) HK2038.out)
  have HK2047:=ah ((br b9 7).next (ay.of hbd) HK2039.out);have HKP:=ah HK2045.out.ls;have HKO:=ah HK2046.out.ls;have k2048:=cell_of (i:=0) QC2043 rfl;have k2049:=cell_of (i:=0) QX2044 rfl;have HM2050:Hid (dY (fx x.ops (0:Nat) (x.parts.drop 0)) (dY (qa x) 0)=M):=by show _=_; rw [JJ]; exact HMc.out
  clear HMc;go_wp2_with fail
  clear k2048 k2049;go_loopw [41] (fun jv wr=>∃ j:Nat,j≤x.parts.length∧jv = .int .i64 j∧Hid (dY (fx x.ops j (x.parts.drop j)) (dY (qa x) 0)=M)∧Below wd wd wr) (fun jv _=>x.parts.length - (RowKit.intOf jv).toNat)
  case atStart=>exact ⟨0,by omega,rfl,HM2050,I8 _ _⟩
  case round =>
   clear HM2050;obtain ⟨j,hj,rfl,HL,hbr⟩:=hrel;have hx2051:=chain hx2042 hbr;have QC2052:=bH hbr QC2043;have QX2053:=bH hbr QX2044;have HK2054:=ah ((br b8 21).next (ay.of hbr) HK2045.out);have HK2055:=ah ((br fv 1).next (ay.of hbr) HK2046.out)
   have HK2056:=ah ((br b9 7).next (ay.of hbr) HK2047.out);have hL:=HL.out;by_cases hlt:j<x.parts.length
   ·have hjz:(j:Int)<(x.parts.length:Int):=by omega
    rw [I9 hlt,uK] at hL;simp only [iG] at hL;obtain ⟨bl,off,cs,rfl,hbl,hcl,hce,⟨e1,f1,e2,f2,e3,f3,e4,f4,e5,f5,rfl,k1,k2,k3,k4,k5⟩⟩:=(HKP.out.aM b8 (ay.of hbr)).elem hlt;obtain ⟨halY,QY⟩:=dZ wr (iE (x.parts[j]) e1 e2 e3 e4 e5 f1 f2 f3 f4 f5) 79
    have hrg:wr.rangeAt bl (off+j*21) [.bool x.parts[j].distinct,.bool x.parts[j].star,.slice e1 x.parts[j].items.length f1,.slice e2 x.parts[j].sources.length f2,.bool x.parts[j].ax,.bool x.parts[j].aG,.int .i64 x.parts[j].au.k,.int .i64 x.parts[j].au.v.1,.int .i64 x.parts[j].au.v.2.1,.string x.parts[j].au.v.2.2,.string x.parts[j].au.bp,.string x.parts[j].au.name,.slice e3 x.parts[j].au.ks.length f3,.int .i64 x.parts[j].az.k,.int .i64 x.parts[j].az.v.1,.int .i64 x.parts[j].az.v.2.1,.string x.parts[j].az.v.2.2,.string x.parts[j].az.bp,.string x.parts[j].az.name,.slice e4 x.parts[j].az.ks.length f4,.slice e5 x.parts[j].group.length f5]:=fun i u hu=>hce i u hu
    have HMr:=ah hL;generalize x.parts[j]=y at *;clear HL hL hce hcl;go_upto_region 9 with (first | (refine wpList_load_mid rfl 79 _ rfl bl (off+j*21) rfl (iE y e1 e2 e3 e4 e5 f1 f2 f3 f4 f5).toList _ hrg Tryz.underlying79 rfl kJ ?_) | (refine aT rfl 79 _ _ rfl sr (iE y e1 e2 e3 e4 e5 f1 f2 f3 f4 f5) rfl rfl kJ rfl (eh rfl) ?_))
    generalize wr.alloc _=wa at *
    skip
    have hx3557:=chain hx2051 halY;have QC3558:=bH halY QC2052;have QX3559:=bH halY QX2053;have hB3560:=chain hbr halY
    have HKy:=ah (b8.next (ay.of halY) ⟨e1,f1,e2,f2,e3,f3,e4,f4,e5,f5,rfl,k1,k2,k3,k4,k5⟩)
    clear k1 k2 k3 k4 k5 hrg;go_upto_if 47 with fail
    go_cut [] (fun wc=>Hid (dY (lL y) (dY (fx x.ops (j+1) (x.parts.drop (j+1))) (dY (qa x) 0))=M)∧Below wa wa wc)
    case first =>
     by_cases hj0:j=0
     ·have hm:=HMr.out;rw [if_pos hj0,cV] at hm;have HMb:=ah hm;have bj:¬ (0:Int)<(j:Int):=by omega
      clear hm HMr hj0;go_wp2_with fail
      go_meet
      case rel=>exact ⟨HMb,I8 _ _⟩
     ·have k6061:=cell_of (i:=0) QC3558 rfl;have k6062:=cell_of (i:=1) QX3559 rfl;have hm:=HMr.out;rw [if_neg hj0] at hm;obtain ⟨i,rfl⟩:∃ i,j=i+1:=⟨j - 1,by omega⟩
      have hil:i<x.ops.length:=by omega
      obtain ⟨b2,off2,cs2,ep,hb2l,_,hce2,eo⟩:=(HKO.out.aM fv (ay.of hB3560)).elem hil;subst ep eo;have zo:=hce2 0 _ rfl;rw [JL,Nat.mul_one] at zo;have hgd:x.ops.getD (i+1 - 1) 0=x.ops[i]:=by simp [List.getD,hil]
      rw [hgd,F9] at hm;generalize x.ops[i]=op at *;have bj:(0:Int)<((i+1:Nat):Int):=by omega
      have bi:(i:Int)<(x.ops.length:Int):=by omega
      have HMb:=ah hm;clear hm HMr hj0 hce2 hgd;have hcs:(1≤op∧op≤4)∨(1≤op∧¬ op≤4)∨¬ 1≤op:=by omega
      rcases hcs with ⟨g1,g2⟩ | ⟨g1,g2⟩ | g1
      ·have hm:=HMb.out;simp only [decide_eq_true g1,decide_eq_true g2,Bool.true_and,if_true] at hm;rw [cV] at hm;have HMc:=ah hm;clear hm HMb;have con:=gf 1 at_ wa;go_wp2_with fail
       refine con.mono ?_;rintro e wq ⟨rfl,hbq⟩;go_wp2_with fail
       go_meet
       case rel=>exact ⟨HMc,hbq⟩
      ·have hm:=HMb.out;simp only [decide_eq_true g1,decide_eq_false g2,Bool.true_and,Jd,if_false] at hm;rw [dN (by decide)] at hm;have HMc:=ah hm.symm;clear hm HMb;have con:=dW 1 at_ wa;go_wp2_with fail
       refine con.mono ?_;rintro e wq ⟨rfl,hbq⟩;go_wp2_with fail
       exact ⟨rfl,.bad (chain hx3557 hbq) HMc.out (by decide)⟩
      ·have hm:=HMb.out;simp only [decide_eq_false g1,Bool.false_and,Jd,if_false] at hm;rw [dN (by decide)] at hm;have HMc:=ah hm.symm;clear hm HMb;have con:=dW 1 at_ wa;go_wp2_with fail
       refine con.mono ?_;rintro e wq ⟨rfl,hbq⟩;go_wp2_with fail
       exact ⟨rfl,.bad (chain hx3557 hbq) HMc.out (by decide)⟩
    case rest =>
     clear HMr;obtain ⟨HMb,hbc2⟩:=hcut;obtain ⟨we,ewe⟩:∃ W,W=wc:=⟨_,rfl⟩
     subst ewe;have hx5561:=chain hx3557 hbc2;have QC5562:=bH hbc2 QC3558;have QX5563:=bH hbc2 QX3559;have QY5564:=bH hbc2 QY
     have HK5565:=ah (b8.next (ay.of hbc2) HKy.out)
     have hB5566:=chain hB3560 hbc2;obtain ⟨k1,k2,k3,k4,k5⟩:=eS.Hi HK5565.out;have k5567:=cell_of (i:=0) QC5562 rfl;have con5568:=sh y e1 e2 e3 e4 e5 f1 f2 f3 f4 f5 (fun _=>True) at_ we k1 k2 k3 k4 k5;have hm:=HMb.out;generalize lL y=rk at hm con5568;have HM5569:=ah hm;clear hm HMb;go_wp2_with (first | (refine wpList_load_row rfl 79 _ rfl wr rfl 79 (iE y e1 e2 e3 e4 e5 f1 f2 f3 f4 f5) (0,0) _ QY5564 Tryz.underlying79 rfl kJ ?_))
     refine con5568.mono ?_;rintro e w5570 ⟨hb5571,hW⟩;clear con5568 k5567;have hx5572:=chain hx5561 hb5571;have QC5573:=bH hb5571 QC5562;have QX5574:=bH hb5571 QX5563;have QY5575:=bH hb5571 QY5564
     have HK5576:=ah (b8.next (ay.of hb5571) HK5565.out)
     have hB5577:=chain hB5566 hb5571;rcases hW with ⟨h,rfl⟩ | ⟨h,rfl⟩
     rotate_left
     ·have HR:Hid (rk=M):=by have:=HM5569.out; rw [dN h] at this; exact this
      clear HM5569;go_wp2_with fail
      exact ⟨rfl,.bad hx5572 HR.out.symm h⟩
     subst h;have hm:=HM5569.out;rw [cV] at hm;have HM5578:=ah hm;clear hm HM5569;go_wp2_with fail
     go_roundw
     case rel=>exact ⟨j+1,by omega,by go_num,HM5578,hB5577⟩
     case measure=>simp [RowKit.intOf]; omega
   ·have hjz:¬ (j:Int)<(x.parts.length:Int):=by omega
    rw [Jh ak,show fx x.ops j []=0 from rfl,cV] at hL;have HMr:=ah hL;clear HL hL;by_cases hl:0≤x.aH
    ·have hm:=HMr.out;rw [qa,if_pos hl] at hm;have HMo:=ah hm;have hle:=HLE.out hl;clear hm HMr;have k6057:=cell_of (i:=0) QC2052 rfl;have k6058:=cell_of (i:=3) QX2053 rfl;have k6059:=cell_of (i:=2) QX2053 rfl;have con6060:=qx x.order ak at_ p3 d3 (fun _=>True) wr (bf.Da HK2056.out.ls);have hm:=HMo.out;generalize eZ x.order=rk at hm con6060;have HM6061:=ah hm;clear hm HMo;go_wp2_with fail
     refine con6060.mono ?_;rintro e w6062 ⟨hb6063,hW⟩;clear con6060 k6057 k6058 k6059;have hx6064:=chain hx2051 hb6063;have QC6065:=bH hb6063 QC2052;have QX6066:=bH hb6063 QX2053;have HK6067:=ah ((br b8 21).next (ay.of hb6063) HK2054.out);have HK6068:=ah ((br fv 1).next (ay.of hb6063) HK2055.out)
     have HK6069:=ah ((br b9 7).next (ay.of hb6063) HK2056.out);rcases hW with ⟨h,rfl⟩ | ⟨h,rfl⟩
     rotate_left
     ·have HR:Hid (rk=M):=by have:=HM6061.out; rw [dN h] at this; exact this
      clear HM6061;go_wp2_with fail
      exact ⟨rfl,.bad hx6064 HR.out.symm h⟩
     subst h;have hm:=HM6061.out;rw [cV] at hm;have HM6070:=ah hm;clear hm HM6061;go_wp2_with fail
     go_end0
     exact .ok hx6064 HM6070.out.symm
    ·have k7057:=cell_of (i:=0) QC2052 rfl;have k7058:=cell_of (i:=3) QX2053 rfl;have hm:=HMr.out;rw [qa,if_neg hl,cV] at hm;have HMo:=ah hm;clear hm HMr;go_wp2_with fail
     go_end0
     exact .ok hx2051 HMo.out.symm
def jy (x:cM):Int:=if x.kind=1 then oK x.cF else if x.kind=3 then mZ x.rows else if x.kind=4 then ed x.ax x.au else nD x.query
def ll (x:cM):Int:=if x.kind=5 then 0 else ef x.name
def Cn (k:Int):Int:=if decide (1≤k) && decide (k≤5) then 0 else 1
def iQ (x:cM):Int:=dY (Cn x.kind) (dY (ll x) (dY (jy x) 0))
theorem pZ (x:cM) (a1 p1 p2 p3 a2 a3:Option Addr) (c1 d1 d2 d3 c2 c3:Nat) (S:Nat→Prop) (at_:Int) (w:World) (h1:bf pO 2 S w a1 x.cF) (h2:bf eS 21 S w p1 x.query.parts) (h3:bf lD 1 S w p2 x.query.ops) (h4:bf fu 7 S w p3 x.query.order) (h5:bf (iB jQ 3) 1 S w a2 x.rows) (h6:aJ S w a3 x.au.ks):Calls Tryz.prog 38 #[.agg #[at_],.agg (hJ x.kind x a1 c1 p1 d1 p2 d2 p3 d3 a2 c2 a3 c3)] w (gv w at_ (iQ x)):=by
 have hal1:=bR w (.cells #[at_] 86);have hal2:Below (w.alloc (.cells #[at_] 86)).heap.size (w.alloc (.cells #[at_] 86)) ((w.alloc (.cells #[at_] 86)).alloc (.cells (hJ x.kind x a1 c1 p1 d1 p2 d2 p3 d3 a2 c2 a3 c3) 57)):=bR ..
 have QC:=(hal2.block _ (lt_of_heap (aD w #[at_] 86))).trans (aD w _ _);have QX:((w.alloc (.cells #[at_] 86)).alloc (.cells (hJ x.kind x a1 c1 p1 d1 p2 d2 p3 d3 a2 c2 a3 c3) 57)).heap[w.heap.size+1]? = some (.cells (hJ x.kind x a1 c1 p1 d1 p2 d2 p3 d3 a2 c2 a3 c3) 57 (0,0)):=by
  rw [show w.heap.size+1=(w.alloc (.cells #[at_] 86)).heap.size by simp];exact aD _ _ _
 have hal:=chain hal1 hal2;clear hal1 hal2;generalize hM:iQ x=M;have HM0:=ah hM;clear hM;have HK1:=ah ((br iY 2).next (ay.of hal) ((br iY 2).mono (fun _ _ _=>trivial) ⟨a1,c1,rfl,h1⟩))
 have HK2:=ah ((br b8 21).next (ay.of hal) ((br b8 21).mono (fun _ _ _=>trivial) ⟨p1,d1,rfl,h2⟩));have HK3:=ah ((br fv 1).next (ay.of hal) ((br fv 1).mono (fun _ _ _=>trivial) ⟨p2,d2,rfl,h3⟩))
 have HK4:=ah ((br b9 7).next (ay.of hal) ((br b9 7).mono (fun _ _ _=>trivial) ⟨p3,d3,rfl,h4⟩));have HK5:=ah ((br (br eU 3) 1).next (ay.of hal) ((br (br eU 3) 1).mono (fun _ _ _=>trivial) ⟨a2,c2,rfl,h5⟩))
 have HK6:=ah (b9.next (ay.of hal) (b9.mono (fun _ _ _=>trivial) ⟨a3,c3,rfl,h6⟩));go_enter Tryz.func38,Tryz.ntmps38;go_upto_region 1 with fail
 generalize ((w.alloc (.cells #[at_] 86)).alloc (.cells (hJ x.kind x a1 c1 p1 d1 p2 d2 p3 d3 a2 c2 a3 c3) 57))=w1 at *;have hm:=HM0.out;rw [iQ] at hm;have HMa:=ah hm;clear hm HM0 h1 h2 h3 h4 h5 h6;have k7:=cell_of (i:=0) QC rfl;have k8:=cell_of (i:=0) QX rfl;have hcs:(1≤x.kind∧x.kind≤5)∨((1≤x.kind∧¬ x.kind≤5)∨¬ 1≤x.kind):=by omega
 obtain ⟨g1,g2⟩ | hbad:=hcs
 case inr =>
  have HR:Hid (M=1):=by
   show _=_;have:=HMa.out;rw [Cn] at this;rcases hbad with ⟨g1,g2⟩ | g1
   ·rw [decide_eq_true g1,decide_eq_false g2,if_neg (by decide),dN (by decide)] at this; exact this.symm
   ·rw [decide_eq_false g1,Bool.false_and,if_neg (by decide),dN (by decide)] at this; exact this.symm
  have con:=dW 1 at_ w1;clear HMa;rcases hbad with ⟨g1,g2⟩ | g1
  all_goals
   go_wp2_with fail
   refine con.mono ?_;rintro e wq ⟨rfl,hbq⟩;go_wp2_with fail
   exact ⟨rfl,.bad (chain hal hbq) HR.out (by decide)⟩
 have hm:=HMa.out;rw [Cn,decide_eq_true g1,decide_eq_true g2,if_pos (by decide),cV] at hm;have HMb:=ah hm;have con:=gf 1 at_ w1;clear hm HMa;go_wp2_with fail
 refine cR con fun wq hbq=>?_;clear con k7 k8;have hx9:=chain hal hbq;have QC10:=bH hbq QC;have QX11:=bH hbq QX;have HK12:=ah ((br iY 2).next (ay.of hbq) HK1.out);have HK13:=ah ((br b8 21).next (ay.of hbq) HK2.out)
 have HK14:=ah ((br fv 1).next (ay.of hbq) HK3.out);have HK15:=ah ((br b9 7).next (ay.of hbq) HK4.out);have HK16:=ah ((br (br eU 3) 1).next (ay.of hbq) HK5.out)
 have HK17:=ah (b9.next (ay.of hbq) HK6.out);have k18:=cell_of (i:=0) QC10 rfl;have k19:=cell_of (i:=0) QX11 rfl;have k20:=cell_of (i:=1) QX11 rfl;go_upto_if 16 with fail
 go_cut [] (fun wc=>Hid (dY (jy x) 0=M)∧Below wq wq wc)
 case first =>
  by_cases h5:x.kind=5
  ·have b5:(x.kind != 5)=false:=by simpa using h5
   have hm:=HMb.out;rw [ll,if_pos h5,cV] at hm;have HMc:=ah hm;clear hm HMb h5;go_wp2_with fail
   go_meet
   case rel=>exact ⟨HMc,I8 _ _⟩
  ·have b5:(x.kind != 5)=true:=by simpa using h5
   have hm:=HMb.out;rw [ll,if_neg h5] at hm;have con:=kC x.name at_ wq;generalize ef x.name=rk at hm con;have HMc:=ah hm;clear hm HMb h5;go_wp2_with fail
   refine con.mono ?_;rintro e we ⟨hbe,⟨h,rfl⟩ | ⟨h,rfl⟩⟩
   ·subst h;have hm:=HMc.out;rw [cV] at hm;have HMd:=ah hm;clear hm HMc;go_wp2_with fail
    go_meet
    case rel=>exact ⟨HMd,hbe⟩
   ·have HR:Hid (rk=M):=by have:=HMc.out; rw [dN h] at this; exact this
    clear HMc;go_wp2_with fail
    exact ⟨rfl,.bad (chain hx9 hbe) HR.out.symm h⟩
 case rest =>
  clear HMb k18 k19 k20;obtain ⟨HMc,hbc⟩:=hcut;have hx2021:=chain hx9 hbc;have QC2022:=bH hbc QC10;have QX2023:=bH hbc QX11;have HK2024:=ah ((br iY 2).next (ay.of hbc) HK12.out);have HK2025:=ah ((br b8 21).next (ay.of hbc) HK13.out)
  have HK2026:=ah ((br fv 1).next (ay.of hbc) HK14.out);have HK2027:=ah ((br b9 7).next (ay.of hbc) HK15.out);have HK2028:=ah ((br (br eU 3) 1).next (ay.of hbc) HK16.out)
  have HK2029:=ah (b9.next (ay.of hbc) HK17.out);by_cases e1:x.kind=1
  ·have b1:(x.kind == 1)=true:=by simpa using e1
   have hm:=HMc.out;rw [jy,if_pos e1] at hm;have HMk:=ah hm;clear hm HMc;clear e1;have k3530:=cell_of (i:=0) QC2022 rfl;have k3531:=cell_of (i:=0) QX2023 rfl;have k3532:=cell_of (i:=2) QX2023 rfl;have con3533:=sy x.cF a1 c1 (fun _=>True) at_ wc HK2024.out.ls;have hm:=HMk.out;generalize oK x.cF=rk at hm con3533;have HM3534:=ah hm;clear hm HMk;go_wp2_with fail
   refine con3533.mono ?_;rintro e w3535 ⟨hb3536,hW⟩;clear con3533 k3530 k3531 k3532;have hx3537:=chain hx2021 hb3536;have QC3538:=bH hb3536 QC2022;have QX3539:=bH hb3536 QX2023;have HK3540:=ah ((br iY 2).next (ay.of hb3536) HK2024.out);have HK3541:=ah ((br b8 21).next (ay.of hb3536) HK2025.out)
   have HK3542:=ah ((br fv 1).next (ay.of hb3536) HK2026.out);have HK3543:=ah ((br b9 7).next (ay.of hb3536) HK2027.out);have HK3544:=ah ((br (br eU 3) 1).next (ay.of hb3536) HK2028.out)
   have HK3545:=ah (b9.next (ay.of hb3536) HK2029.out);rcases hW with ⟨h,rfl⟩ | ⟨h,rfl⟩
   rotate_left
   ·have HR:Hid (rk=M):=by have:=HM3534.out; rw [dN h] at this; exact this
    clear HM3534;go_wp2_with fail
    exact ⟨rfl,.bad hx3537 HR.out.symm h⟩
   subst h;have hm:=HM3534.out;rw [cV] at hm;have HM3546:=ah hm;clear hm HM3534;go_wp2_with fail
   go_end0
   exact .ok hx3537 HM3546.out.symm
  have b1:(x.kind == 1)=false:=by simpa using e1
  by_cases e3:x.kind=3
  ·have b3:(x.kind == 3)=true:=by simpa using e3
   have hm:=HMc.out;rw [jy,if_neg e1,if_pos e3] at hm;have HMk:=ah hm;clear hm HMc e1 e3;have k4530:=cell_of (i:=0) QC2022 rfl;have k4531:=cell_of (i:=0) QX2023 rfl;have k4532:=cell_of (i:=7) QX2023 rfl;have con4533:=BQ x.rows a2 c2 (fun _=>True) at_ wc HK2028.out.ls;have hm:=HMk.out;generalize mZ x.rows=rk at hm con4533;have HM4534:=ah hm;clear hm HMk;go_wp2_with fail
   refine con4533.mono ?_;rintro e w4535 ⟨hb4536,hW⟩;clear con4533 k4530 k4531 k4532;have hx4537:=chain hx2021 hb4536;have QC4538:=bH hb4536 QC2022;have QX4539:=bH hb4536 QX2023;have HK4540:=ah ((br iY 2).next (ay.of hb4536) HK2024.out);have HK4541:=ah ((br b8 21).next (ay.of hb4536) HK2025.out)
   have HK4542:=ah ((br fv 1).next (ay.of hb4536) HK2026.out);have HK4543:=ah ((br b9 7).next (ay.of hb4536) HK2027.out);have HK4544:=ah ((br (br eU 3) 1).next (ay.of hb4536) HK2028.out)
   have HK4545:=ah (b9.next (ay.of hb4536) HK2029.out);rcases hW with ⟨h,rfl⟩ | ⟨h,rfl⟩
   rotate_left
   ·have HR:Hid (rk=M):=by have:=HM4534.out; rw [dN h] at this; exact this
    clear HM4534;go_wp2_with fail
    exact ⟨rfl,.bad hx4537 HR.out.symm h⟩
   subst h;have hm:=HM4534.out;rw [cV] at hm;have HM4546:=ah hm;clear hm HM4534;go_wp2_with fail
   go_end0
   exact .ok hx4537 HM4546.out.symm
  have b3:(x.kind == 3)=false:=by simpa using e3
  by_cases e4:x.kind=4
  ·have b4:(x.kind == 4)=true:=by simpa using e4
   have hm:=HMc.out;rw [jy,if_neg e1,if_neg e3,if_pos e4] at hm;have HMk:=ah hm;clear hm HMc e1 e3 e4;have k5530:=cell_of (i:=0) QC2022 rfl;have k5531:=cell_of (i:=0) QX2023 rfl;have k5532:=cell_of (i:=8) QX2023 rfl;have k5533:=cell_of (i:=9) QX2023 rfl;have k5534:=cell_of (i:=10) QX2023 rfl
   have k5535:=cell_of (i:=11) QX2023 rfl;have k5536:=cell_of (i:=12) QX2023 rfl;have k5537:=cell_of (i:=13) QX2023 rfl;have k5538:=cell_of (i:=14) QX2023 rfl;have k5539:=cell_of (i:=15) QX2023 rfl;have con5540:=ke x.ax x.au at_ a3 c3 (fun _=>True) wc HK2029.out.ks
   have hm:=HMk.out;generalize ed x.ax x.au=rk at hm con5540;have HM5541:=ah hm;clear hm HMk;go_wp2_with fail
   refine con5540.mono ?_;rintro e w5542 ⟨hb5543,hW⟩;clear con5540 k5530 k5531 k5532 k5533 k5534 k5535 k5536 k5537 k5538 k5539;have hx5544:=chain hx2021 hb5543;have QC5545:=bH hb5543 QC2022;have QX5546:=bH hb5543 QX2023;have HK5547:=ah ((br iY 2).next (ay.of hb5543) HK2024.out);have HK5548:=ah ((br b8 21).next (ay.of hb5543) HK2025.out)
   have HK5549:=ah ((br fv 1).next (ay.of hb5543) HK2026.out);have HK5550:=ah ((br b9 7).next (ay.of hb5543) HK2027.out);have HK5551:=ah ((br (br eU 3) 1).next (ay.of hb5543) HK2028.out)
   have HK5552:=ah (b9.next (ay.of hb5543) HK2029.out);rcases hW with ⟨h,rfl⟩ | ⟨h,rfl⟩
   rotate_left
   ·have HR:Hid (rk=M):=by have:=HM5541.out; rw [dN h] at this; exact this
    clear HM5541;go_wp2_with fail
    exact ⟨rfl,.bad hx5544 HR.out.symm h⟩
   subst h;have hm:=HM5541.out;rw [cV] at hm;have HM5553:=ah hm;clear hm HM5541;go_wp2_with fail
   go_end0
   exact .ok hx5544 HM5553.out.symm
  have b4:(x.kind == 4)=false:=by simpa using e4
  have hm:=HMc.out;rw [jy,if_neg e1,if_neg e3,if_neg e4] at hm;have HMk:=ah hm;clear hm HMc e1 e3 e4;have k5030:=cell_of (i:=0) QC2022 rfl;have k5031:=cell_of (i:=0) QX2023 rfl;have k5032:=cell_of (i:=3) QX2023 rfl;have k5033:=cell_of (i:=4) QX2023 rfl
  have k5034:=cell_of (i:=5) QX2023 rfl;have k5035:=cell_of (i:=6) QX2023 rfl;have con5036:=yp x.query p1 p2 p3 d1 d2 d3 (fun _=>True) at_ wc HK2025.out.ls HK2026.out.ls HK2027.out.ls;have hm:=HMk.out;generalize nD x.query=rk at hm con5036;have HM5037:=ah hm;clear hm HMk;go_wp2_with fail
  refine con5036.mono ?_;rintro e w5038 ⟨hb5039,hW⟩;clear con5036 k5030 k5031 k5032 k5033 k5034 k5035;have hx5040:=chain hx2021 hb5039;have QC5041:=bH hb5039 QC2022;have QX5042:=bH hb5039 QX2023;have HK5043:=ah ((br iY 2).next (ay.of hb5039) HK2024.out);have HK5044:=ah ((br b8 21).next (ay.of hb5039) HK2025.out)
  have HK5045:=ah ((br fv 1).next (ay.of hb5039) HK2026.out);have HK5046:=ah ((br b9 7).next (ay.of hb5039) HK2027.out);have HK5047:=ah ((br (br eU 3) 1).next (ay.of hb5039) HK2028.out)
  have HK5048:=ah (b9.next (ay.of hb5039) HK2029.out);rcases hW with ⟨h,rfl⟩ | ⟨h,rfl⟩
  rotate_left
  ·have HR:Hid (rk=M):=by have:=HM5037.out; rw [dN h] at this; exact this
   clear HM5037;go_wp2_with fail
   exact ⟨rfl,.bad hx5040 HR.out.symm h⟩
  subst h;have hm:=HM5037.out;rw [cV] at hm;have HM5049:=ah hm;clear hm HM5037;go_wp2_with fail
  go_end0
  exact .ok hx5040 HM5049.out.symm
theorem cy.Hi {S:Nat→Prop} {W:World} {x:cM} {a1 p1 p2 p3 a2 a3:Option Addr} {c1 d1 d2 d3 c2 c3:Nat} (h:cy S W x [.int .i64 x.kind,x.name,.slice a1 x.cF.length c1,.slice p1 x.query.parts.length d1,.slice p2 x.query.ops.length d2,.slice p3 x.query.order.length d3,x.query.aH,.slice a2 x.rows.length c2,x.ax,x.au.k,x.au.v.1,x.au.v.2.1,x.au.v.2.2,x.au.bp,x.au.name,.slice a3 x.au.ks.length c3]):bf pO 2 S W a1 x.cF∧bf eS 21 S W p1 x.query.parts∧bf lD 1 S W p2 x.query.ops∧bf fu 7 S W p3 x.query.order∧bf (iB jQ 3) 1 S W a2 x.rows∧aJ S W a3 x.au.ks:=by
 obtain ⟨b1,e1,b2,e2,b3,e3,b4,e4,b5,e5,b6,e6,e,h1,h2,h3,h4,h5,h6⟩:=h;simp only [List.cons.injEq,Value.slice.injEq] at e;obtain ⟨_,_,⟨rfl,_⟩,⟨rfl,_⟩,⟨rfl,_⟩,⟨rfl,_⟩,_,⟨rfl,_⟩,_,_,_,_,_,_,_,⟨rfl,_⟩,_⟩:=e;exact ⟨h1,h2,h3,h4,h5,h6⟩
def kZ:List cM→Int→Er
 | [],_=>(0,0)
 | x :: r,i=>if iQ x=0 then kZ r (i+1) else (iQ x,i)
def cL (l:List cM):Er:=if fi l.length 0 60=0 then kZ l 0 else (5,0)
def FM (w:World) (r:Er) (e:Ending) (w':World):Prop:=Below w w w'∧((r.1=0∧e = .returned (.tuple #[]))∨(r.1≠0∧e = .panicked [ie r.1 r.2]))
theorem Gb {n least most:Int} (h:fi n least most≠0):fi n least most=5:=by
 unfold fi at h ⊢
 split at h
 ·exact absurd rfl h
 ·rename_i hc; rw [if_neg hc]
theorem xQ (l:List cM) (a:Option Addr) (c:Nat) (S:Nat→Prop) (w:World) (L:Nat) (QL:w.heap[L]? = some (.cells #[.slice a l.length c] 22 (0,0))) (hks:bf cy 16 S w a l):Calls Tryz.prog 36 #[af L 0] w (FM w (cL l)):=by
 have HK0:=ah (hks.mono bJ (fun _ _ _=>trivial));have con:=fT l.length 0 60 0 w;have l0:=cell_of (i:=0) QL rfl;generalize hM:cL l=M;rw [cL] at hM;obtain ⟨rk,hrk⟩:∃ r,fi l.length 0 60=r:=⟨_,rfl⟩
 have HRK:=ah hrk;rw [hrk] at con hM;have HM:=ah hM;clear hM hrk hks;go_enter Tryz.func36,Tryz.ntmps36;go_wp2_with fail
 refine con.mono ?_;rintro e w1 ⟨hb1,⟨h,rfl⟩ | ⟨h,rfl⟩⟩;rotate_left
 ·have h5:rk=5:=by rw [← HRK.out]; exact Gb (by rw [HRK.out]; exact h)
  have HR:Hid (M=(5,0)):=by show _=_; rw [← HM.out,if_neg h]
  subst h5;clear HM HRK;go_wp2_with fail
  exact ⟨rfl,hb1,.inr ⟨by rw [HR.out]; decide,by rw [HR.out]⟩⟩
 subst h;have hcn:=dw HRK.out;have hm:=HM.out;rw [if_pos rfl] at hm;have HS:=ah hm;have QL1:=bH hb1 QL;have HK1:=ah (HK0.out.aM bJ (ay.of hb1));have l1:=cell_of (i:=0) QL1 rfl;clear HM hm HRK con l0 HK0;go_wp2_with fail
 clear l1;go_loopw [9] (fun jv wr=>∃ j:Nat,j≤l.length∧jv = .int .i64 j∧Hid (kZ (l.drop j) (j:Int)=M)∧Below w1 w1 wr) (fun jv _=>l.length - (RowKit.intOf jv).toNat)
 case atStart=>exact ⟨0,by omega,rfl,HS,I8 _ _⟩
 case round =>
  clear HS;obtain ⟨j,hj,rfl,HL,hbr⟩:=hrel;have hxr:=chain hb1 hbr;have hL:=HL.out;by_cases hlt:j<l.length
  ·have hjz:(j:Int)<(l.length:Int):=by omega
   rw [I9 hlt,kZ] at hL;obtain ⟨bl,off,cs,rfl,hbl,hcl,hce,a1,c1,p1,d1,p2,d2,p3,d3,a2,c2,a3,c3,rfl,k1,k2,k3,k4,k5,k6⟩:=(HK1.out.aM bJ (ay.of hbr)).elem hlt
   have hrg:wr.rangeAt bl (off+j*16) [.int .i64 l[j].kind,.string l[j].name,.slice a1 l[j].cF.length c1,.slice p1 l[j].query.parts.length d1,.slice p2 l[j].query.ops.length d2,.slice p3 l[j].query.order.length d3,.int .i64 l[j].query.aH,.slice a2 l[j].rows.length c2,.bool l[j].ax,.int .i64 l[j].au.k,.int .i64 l[j].au.v.1,.int .i64 l[j].au.v.2.1,.string l[j].au.v.2.2,.string l[j].au.bp,.string l[j].au.name,.slice a3 l[j].au.ks.length c3]:=fun i u hu=>hce i u hu
   obtain ⟨halY,QY⟩:=dZ wr (hJ (l[j].kind) (l[j]) a1 c1 p1 d1 p2 d2 p3 d3 a2 c2 a3 c3) 57
   have HKy:=ah (bJ.next (ay.of halY) ⟨a1,c1,p1,d1,p2,d2,p3,d3,a2,c2,a3,c3,rfl,k1,k2,k3,k4,k5,k6⟩)
   have HM2:=ah hL;clear HL hL hce hcl k1 k2 k3 k4 k5 k6;generalize l[j]=y at *;go_upto_region 4 with (first | (refine wpList_load_mid rfl 57 _ rfl bl (off+j*16) rfl (hJ y.kind y a1 c1 p1 d1 p2 d2 p3 d3 a2 c2 a3 c3).toList _ hrg Tryz.underlying57 rfl dB ?_) | (refine aT rfl 57 _ _ rfl cO (hJ y.kind y a1 c1 p1 d1 p2 d2 p3 d3 a2 c2 a3 c3) rfl rfl dB rfl (eh rfl) ?_))
   generalize wr.alloc _=wa at *;obtain ⟨k1,k2,k3,k4,k5,k6⟩:=cy.Hi HKy.out;have con:=pZ y a1 p1 p2 p3 a2 a3 c1 d1 d2 d3 c2 c3 (fun _=>True) (j:Int) wa k1 k2 k3 k4 k5 k6;have hm:=HM2.out;generalize iQ y=r at hm con;have HM3:=ah hm;clear hm HM2 k1 k2 k3 k4 k5 k6 HKy hrg;go_wp2_with (first | (refine wpList_load_row rfl 57 _ rfl wr rfl 57 (hJ y.kind y a1 c1 p1 d1 p2 d2 p3 d3 a2 c2 a3 c3) (0,0) _ QY Tryz.underlying57 rfl dB ?_))
   refine con.mono ?_;rintro e wb ⟨hbb,⟨h,rfl⟩ | ⟨h,rfl⟩⟩
   ·have HL3:Hid (kZ (l.drop (j+1)) ((j+1:Nat):Int)=M):=by have:=HM3.out; rw [if_pos h] at this; exact this
    clear HM3 con;go_wp2_with fail
    go_roundw
    case rel=>exact ⟨j+1,by omega,by go_num,HL3,chain hbr (chain halY hbb)⟩
    case measure=>simp [RowKit.intOf]; omega
   ·have HR:Hid (M=(r,(j:Int))):=by have:=HM3.out; rw [if_neg h] at this; exact this.symm
    clear HM3 con;go_wp2_with fail
    exact ⟨rfl,chain hxr (chain halY hbb),.inr ⟨by rw [HR.out]; exact h,by rw [HR.out]⟩⟩
  ·have hjz:¬ (j:Int)<(l.length:Int):=by omega
   have e:M=(0,0):=by rw [← hL,Jh ak]; rfl
   have E:=ah e;clear HL hL e;go_wp2_with fail
   go_end0
   exact ⟨hxr,.inl ⟨by rw [E.out],rfl⟩⟩
theorem DN (W:World) (v:Value):(Instr.typeAssert (.iface 115 v) 20 115 true).run Tryz.prog W = .ok (.tuple #[v,true]) W:=by kernel_rfl
theorem xy (fb:Nat) (e a:Int) (w:World) (Q:w.heap[fb]? = some (.cells #[aB,aB] 27 (0,0))) :
  CallsD Tryz.prog 64 #[af fb 0] (.panicking [ie e a]) w fun x u' w'=>x = .returned (.tuple #[])∧u' = .panicking [{ v:=.iface 115 (.agg #[e,a]),recovered:=true }]∧w'=((w.alloc (.cells #[e,a] 115)).setCell (af fb 0) e).setCell (af fb 1) a:=by
 have hf:=lt_of_heap Q;have hal:=bR w (.cells #[e,a] 115);have Q1:=(hal.block _ hf).trans Q;have c0:=cell_of (i:=0) Q1 rfl;have c1:=cell_of (i:=1) Q1 rfl;have f0:=I0 _ fb 0 _ _ Q1;have f1:=I0 _ fb 1 _ _ Q1;refine callsD_of_wpS Tryz.func64 rfl fun c₀ cs hu=>?_
 apply wpS_seq;apply wpS_region;simp [wpOpsS,go_sem,recoverD,hu,ie,Tryz.ntmps64,Exit.thenS];have hta:∀ W:World,(Instr.typeAssert (.iface 115 (.agg #[e,a])) 20 115 true).run Tryz.prog W = .ok (.tuple #[.agg #[e,a],true]) W:=fun W=>DN W _
 apply wpS_seq;apply wpS_region;simp [wpOpsS,go_sem,hta,Exit.thenS];have q0:=aD w #[e,a] 115;clear hta;generalize w.alloc _=w1 at *;have d0:=cell_of (i:=0) q0 rfl;have d1:=cell_of (i:=1) q0 rfl;apply wpS_seq;apply wpS_region;simp [wpOpsS,go_sem,Exit.thenS];refine wpS_cond (t:=true) (by simp [Act.eval]) ?_;simp only [if_true];refine wpS_of_wp ?_
 refine Code.wp_mono (Q:=fun ex a' w'=>ex = .normal∧a'.defers = []∧w'=(w1.setCell (af fb 0) e).setCell (af fb 1) a) ?_ ?_
 ·rintro ex a' w' ⟨rfl,hd,rfl⟩;cases c₀
  simp_all [bodyPostS,results,Tryz.results64]
 ·clear hu;go_wp2_with fail
theorem Fh (W:World):(Instr.typeAssert .nilIface 20 115 true).run Tryz.prog W = .ok (.tuple #[.agg #[aB,aB],false]) W:=by kernel_rfl
theorem GI (W:World):(binOp BinOp.neq 20 .nilIface .nilIface).run Tryz.prog W = .ok false W:=by kernel_rfl
theorem wZ (fb:Nat) (w:World):CallsD Tryz.prog 64 #[af fb 0] .returning w fun x u' w'=>x = .returned (.tuple #[])∧u' = .returning∧w'=w.alloc (.cells #[aB,aB] 115):=by
 refine callsD_of_wpS Tryz.func64 rfl fun c₀ cs hu=>?_
 apply wpS_seq;apply wpS_region;simp [wpOpsS,go_sem,recoverD,hu,Tryz.ntmps64,Exit.thenS];apply wpS_seq;apply wpS_region;simp [wpOpsS,go_sem,Fh,Exit.thenS];apply wpS_seq;apply wpS_region;simp [wpOpsS,go_sem,Exit.thenS];refine wpS_cond (t:=false) (by simp [Act.eval]) ?_;simp only [Jd,if_false];apply wpS_seq;apply wpS_region;simp [wpOpsS,go_sem,Exit.thenS,GI];refine wpS_cond (t:=false) (by simp [Act.eval]) ?_;simp only [Jd,if_false];refine wpS_of_wp (wp_skip ?_);cases c₀
 simp_all [bodyPostS,results,Tryz.results64]
theorem yT {r:Er} {l:List cM} (h:cL l=r) (h0:r.1=0):r=(0,0):=by
 have:∀ (l:List cM) (i:Int),(kZ l i).1=0→kZ l i=(0,0):=by
  intro l
  induction l with
  | nil=>intro i _; rfl
  | cons x t ih =>
   intro i hh;rw [kZ] at hh ⊢
   split
   ·rename_i hc; rw [if_pos hc] at hh; exact ih _ hh
   ·rename_i hc; rw [if_neg hc] at hh; exact absurd hh hc
 subst h;unfold cL at h0 ⊢
 split
 ·rename_i hc; rw [if_pos hc] at h0; exact this _ _ h0
 ·rename_i hc; rw [if_neg hc] at h0; cases h0
theorem Cc (l:List cM) (a:Option Addr) (c:Nat) (S:Nat→Prop) (w:World) (L:Nat) (QL:w.heap[L]? = some (.cells #[.slice a l.length c] 22 (0,0))) (hks:bf cy 16 S w a l):Calls Tryz.prog 33 #[.func (.func 36) #[] #[af L 0]] w fun e w'=>e = .returned (.agg #[.int .i64 (cL l).1,.int .i64 (cL l).2])∧Below w w w':=by
 have hmf:∀ (fn:Fn) (first cap:Array Value) (w:World),(Instr.makeFunc fn first cap).run Tryz.prog w = .ok (.func fn first cap) w:=fun _ _ _ _=>rfl
 obtain ⟨hal,QF⟩:=dZ w #[aB,aB] 27;have con:=xQ l a c (fun _=>True) (w.alloc (.cells #[aB,aB] 27)) L (bH hal QL) ((hks.mono bJ (fun _ _ _=>trivial)).aM bJ (ay.of hal));generalize hr:cL l=r at *;have HR:=ah hr;clear hr hks QL;go_enter_defers Tryz.func33,Tryz.ntmps33
 go_upto_region 1 with fail
 generalize w.alloc _=w1 at *;go_wp2_with fail
 refine con.mono ?_;rintro e w2 ⟨hb2,⟨h,rfl⟩ | ⟨h,rfl⟩⟩
 ·have e0:r=(0,0):=yT HR.out h;have QF2:=bH hb2 QF;have c0:=cell_of (i:=0) QF2 rfl;have c1:=cell_of (i:=1) QF2 rfl;have f0:=I0 w2 w 0 _ _ QF2;have f1:=I0 w2 w 1 _ _ QF2;have E:=ah e0;clear con e0 h;go_wp2_with fail
  have QE:=dJ QF2 aB aB;have hbE:=iW (chain hal hb2) (I6 _) aB aB;generalize ((w2.setCell (af w 0) aB).setCell (af w 1) aB)=w3 at *;refine leaves_cons (f:=64) (args:=#[af w 0]) (by simp) (by simp [go_sem]) ?_;refine (wZ w w3).mono ?_;rintro e u' w4 ⟨rfl,rfl,rfl⟩;have hal4:=bR w3 (.cells #[aB,aB] 115);have QE4:=bH hal4 QE
  generalize w3.alloc _=w4 at *;have x0:=cell_of (i:=0) QE4 rfl;have x1:=cell_of (i:=1) QE4 rfl;show Leaves Tryz.prog Tryz.f33 _ _ [] _ _;refine ⟨.agg #[aB,aB],by simp [results,Tryz.results33,go_sem,x0,x1],by rw [E.out],chain hbE hal4⟩
 ·have QF2:=bH hb2 QF;have dcon:=xy w r.1 r.2 w2 QF2;clear con h;go_wp2_with fail
  refine leaves_cons (f:=64) (args:=#[af w 0]) (by simp) (by simp [go_sem]) ?_;refine dcon.mono ?_;rintro e u' w4 ⟨rfl,rfl,rfl⟩;have hal4:=bR w2 (.cells #[r.1,r.2] 115);have QE:=dJ (bH hal4 QF2) r.1 r.2;have hbE:=iW (chain hal (chain hb2 hal4)) (I6 _) r.1 r.2
  generalize ((w2.alloc (.cells #[r.1,r.2] 115)).setCell (af w 0) r.1).setCell (af w 1) r.2=w4 at *;have x0:=cell_of (i:=0) QE rfl;have x1:=cell_of (i:=1) QE rfl;simp [Leaves,settle,results,Tryz.results33,go_sem,x0,x1];exact hbE
end Go.Proofs.YtoknmnngaackkaaGreatDoor
