/- Together: BO, BP, BQ, BR, BS, BT, BU, BV, BW. -/
import Derived.Deep.DeepCutAuto
import Derived.Deep.CutBlock
import Derived.Test.YtoknmnngaackkaaGreatDoorJJ6
/- The checker: columns. -/
namespace Go.Proofs.YtoknmnngaackkaaGreatDoor
open Go.RowKit Go.Lib Go.Shelf
set_option maxRecDepth 100000
set_option maxHeartbeats 8000000

def wordL (t:Int):List (Int × ByteArray)→ByteArray
 | []=>⟨#[]⟩
 | a :: r=>if a.1=t then a.2 else wordL t r
theorem wordOf_at (t:Int) {g:Nat} {w:World} (h:w.heap[g]? = some (.cells tyC 168 (0,0))):Calls Tryz.prog 87 #[.slice (some ⟨g,0,none⟩) 3 3,.int .i64 t] w fun e w'=>e = .returned (.string (wordL t tyL))∧Below w.heap.size w w':=by
 generalize hM:wordL t tyL=M;have HM:Hid (wordL t (tyL.drop 0)=M):=hM;clear hM;go_enter Tryz.func87,Tryz.ntmps87;go_wp2_with fail
 go_loopw [9] (fun jv wr=>∃ k:Nat,k≤3∧jv = .int .i64 k∧Hid (wordL t (tyL.drop k)=M)∧Below w.heap.size w wr) (fun jv _=>3 - (RowKit.intOf jv).toNat)
 case atStart=>exact ⟨0,by omega,rfl,HM,Below.refl _ _⟩
 case round =>
  clear HM;obtain ⟨k,hk,rfl,HL,hx⟩:=hrel;by_cases hlt:k<3
  ·have hkz:(k:Int)<3:=by omega
   have hkl:k<tyL.length:=hlt;have QA:=(hx.block _ (lt_of_heap h)).trans h;obtain ⟨c0,c1⟩:=tyC_at QA k hkl;have hgl:=lt_of_heap QA;have hL:=HL.out;rw [List.drop_eq_getElem_cons hkl,wordL] at hL;generalize tyL[k]=y at *;have HL2:Hid _:=hL;have hal:Below wr.heap.size wr (wr.alloc (.cells #[.int .i64 y.1,.string y.2] 168)):=(Below.refl _ _).alloc (Nat.le_refl _) _;have QY:=heap_new wr #[.int .i64 y.1,.string y.2] 168;clear HL hL QA;go_upto_region 4 with fail
   generalize wr.alloc (.cells #[.int .i64 y.1,.string y.2] 168)=wa at *;have y0:wa.cell? ⟨wr.heap.size,0,none⟩=some (.int .i64 y.1):=cell_of (i:=0) QY rfl;have y1:wa.cell? ⟨wr.heap.size,1,none⟩=some (.string y.2):=cell_of (i:=1) QY rfl;clear c0 c1;by_cases he:y.1=t
   ·have b1:(y.1 == t)=true:=by simpa using he
    have e:M=y.2:=by rw [← HL2.out,if_pos he]
    have E:Hid (M=y.2):=e;clear HL2 he e;go_wp2_with fail
    exact bodyPost_ret (results_tmp rfl _ _ _) rfl ⟨by rw [E.out]; rfl,chain hx hal⟩
   ·have b1:(y.1 == t)=false:=by simpa using he
    have HL3:Hid (wordL t (tyL.drop (k+1))=M):=by show _=_; rw [← HL2.out,if_neg he]
    clear HL2 he;go_wp2_with fail
    go_roundw
    case rel=>exact ⟨k+1,by omega,by go_num,HL3,chain hx hal⟩
    case measure=>simp [RowKit.intOf]; omega
  ·have hkz:¬ (k:Int)<3:=by omega
   have e:M=⟨#[]⟩:=by rw [← HL.out,List.drop_eq_nil_of_le (by show 3≤k; omega)]; rfl
   have E:Hid (M=⟨#[]⟩):=e;clear HL e;go_wp2_with fail
   exact bodyPost_ret (results_tmp rfl _ _ _) rfl ⟨by rw [E.out]; rfl,hx⟩
def typeC (t:Int):Int:=if (wordL t tyL).toList.isEmpty then 1 else 0
def colsL:List Col→Int
 | []=>0
 | x :: r=>sqE (nameC x.1) (sqE (typeC x.2) (colsL r))
theorem colsL_cons (x:Col) (r:List Col):colsL (x :: r)=sqE (nameC x.1) (sqE (typeC x.2) (colsL r)):=rfl
def colsC (l:List Col):Int:=sqE (cntC l.length 1 8) (sqE (colsL l) 0)
theorem ccolumns_at (l:List Col) (a:Option Addr) (c:Nat) (S:Nat→Prop) (at_:Int) (w:World) (hks:LsE En2 2 S w a l):Calls Tryz.prog 70 #[.agg #[.int .i64 at_],.slice a l.length c] w (CEnds w at_ (colsC l)):=by
 have hal:Below w.heap.size w (w.alloc (.cells #[.int .i64 at_] 86)):=(Below.refl _ _).alloc (Nat.le_refl _) _;have QC:=heap_new w #[.int .i64 at_] 86;generalize hM:colsC l=M;have HM0:Hid _:=hM;clear hM;have HK1:Hid ((EnL En2 2) (fun _=>True) (w.alloc (.cells #[.int .i64 at_] 86)) l [.slice a l.length c]):=(enL en2 2).next (Keeps'.of hal) ((enL en2 2).mono (fun _ _ _=>trivial) ⟨a,c,rfl,hks⟩);go_enter Tryz.func70,Tryz.ntmps70;go_upto_region 1 with fail
 generalize (w.alloc (.cells #[.int .i64 at_] 86))=w1 at *;have hm:=HM0.out;rw [colsC] at hm;have HMa:Hid _:=hm;clear hm HM0 hks;have k2:w1.cell? ⟨w.heap.size,0,none⟩=some (.int .i64 at_):=cell_of (i:=0) QC rfl;have con3:=count_at l.length 1 8 at_ w1;have hm:=HMa.out;obtain ⟨rk,hrk⟩:∃ r,cntC l.length 1 8=r:=⟨_,rfl⟩
 rw [hrk] at hm con3;have HRK:Hid _:=hrk;clear hrk;have HM4:Hid _:=hm;clear hm HMa;go_wp2_with fail
 refine con3.mono ?_;rintro e w5 ⟨hb6,hW⟩;clear con3 k2;have hx7:Below w.heap.size w w5:=chain hal hb6;have QC8:=(hb6.block _ (lt_of_heap QC)).trans QC;have HK9:Hid ((EnL En2 2) (fun _=>True) w5 l [.slice a l.length c]):=(enL en2 2).next (Keeps'.of hb6) HK1.out;rcases hW with ⟨h,rfl⟩ | ⟨h,rfl⟩
 rotate_left
 ·have HR:Hid (rk=M):=by have:=HM4.out; rw [sqE_n h] at this; exact this
  clear HM4;go_wp2_with fail
  exact ⟨rfl,.bad hx7 HR.out.symm h⟩
 subst h;have hm:=HM4.out;rw [sqE_0] at hm;have HM10:Hid _:=hm;clear hm HM4;have hcn:=cnt_le HRK.out;clear HRK;have HKL:Hid (LsE En2 2 (fun _=>True) w5 a l):=HK9.out.ls;have HM11:Hid (sqE (colsL (l.drop 0)) (0)=M):=by show _=_; rw [List.drop_zero]; exact HM10.out
 clear HM10;go_wp2_with fail
 go_loopw [12] (fun jv wr=>∃ j:Nat,j≤l.length∧jv = .int .i64 j∧Hid (sqE (colsL (l.drop j)) (0)=M)∧Below w5.heap.size w5 wr) (fun jv _=>l.length - (RowKit.intOf jv).toNat)
 case atStart=>exact ⟨0,by omega,rfl,HM11,Below.refl _ _⟩
 case round =>
  clear HM11;obtain ⟨j,hj,rfl,HL,hbr⟩:=hrel;have hx12:Below w.heap.size w wr:=chain hx7 hbr;have QC13:=(hbr.block _ (lt_of_heap QC8)).trans QC8;have HK14:Hid ((EnL En2 2) (fun _=>True) wr l [.slice a l.length c]):=(enL en2 2).next (Keeps'.of hbr) HK9.out;have hL:=HL.out;by_cases hlt:j<l.length
  ·have hjz:(j:Int)<(l.length:Int):=by omega
   rw [List.drop_eq_getElem_cons hlt,colsL_cons] at hL;simp only [sqE_assoc] at hL;obtain ⟨bl,off,cs,rfl,hbl,hcl,hce,rfl⟩:=(HKL.out.keep en2 (Keeps'.of hbr)).elem hlt;have z0:=hce 0 _ rfl;have z1:=hce 1 _ rfl;rw [Nat.add_zero] at z0;have halY:Below wr.heap.size wr (wr.alloc (.cells #[.string l[j].1,.int .i64 l[j].2] 69)):=(Below.refl _ _).alloc (Nat.le_refl _) _;have QY:=heap_new wr #[.string l[j].1,.int .i64 l[j].2] 69;have HMr:Hid _:=hL;generalize l[j]=y at *;clear HL hL hce hcl;go_upto_region 5 with fail
   generalize wr.alloc (.cells #[.string y.1,.int .i64 y.2] 69)=wa at *;clear z0 z1;have hx1515:Below w.heap.size w wa:=chain hx12 halY;have QC1516:=(halY.block _ (lt_of_heap QC13)).trans QC13;have hB1517:Below w5.heap.size w5 wa:=chain hbr halY;have k1518:wa.cell? ⟨w.heap.size,0,none⟩=some (.int .i64 at_):=cell_of (i:=0) QC1516 rfl;have k1519:wa.cell? ⟨wr.heap.size,0,none⟩=some (.string y.1):=cell_of (i:=0) QY rfl;have con1520:=cname_at y.1 at_ wa;have hm:=HMr.out;generalize nameC y.1=rk at hm con1520;have HM1521:Hid _:=hm;clear hm HMr;go_wp2_with fail
   refine con1520.mono ?_;rintro e w1522 ⟨hb1523,hW⟩;clear con1520 k1518 k1519;have hx1524:Below w.heap.size w w1522:=chain hx1515 hb1523;have QC1525:=(hb1523.block _ (lt_of_heap QC1516)).trans QC1516;have QY1526:=(hb1523.block _ (lt_of_heap QY)).trans QY;have hB1527:Below w5.heap.size w5 w1522:=chain hB1517 hb1523;rcases hW with ⟨h,rfl⟩ | ⟨h,rfl⟩
   rotate_left
   ·have HR:Hid (rk=M):=by have:=HM1521.out; rw [sqE_n h] at this; exact this
    clear HM1521;go_wp2_with fail
    exact ⟨rfl,.bad hx1524 HR.out.symm h⟩
   subst h;have hm:=HM1521.out;rw [sqE_0] at hm;have HM1528:Hid _:=hm;clear hm HM1521;go_upto_region 6 with fail
   have hCC:∀ W W':World,W.heap[w.heap.size]? = some (.cells #[.int .i64 at_] 86 (0,0))∧W.heap[wr.heap.size]? = some (.cells #[.string y.1,.int .i64 y.2] 69 (0,0))→Below W.heap.size W W'→W'.heap[w.heap.size]? = some (.cells #[.int .i64 at_] 86 (0,0))∧W'.heap[wr.heap.size]? = some (.cells #[.string y.1,.int .i64 y.2] 69 (0,0)):=fun W W' h hb=>⟨(hb.block _ (lt_of_heap h.1)).trans h.1,(hb.block _ (lt_of_heap h.2)).trans h.2⟩
   have hdr:Below w1522.heap.size w1522 w1522.drew:=(Below.refl _ _).drew;have CW:=hCC _ _ ⟨QC1525,QY1526⟩ hdr;refine wp_region_z (fun W=>W.heap[w.heap.size]? = some (.cells #[.int .i64 at_] 86 (0,0))∧W.heap[wr.heap.size]? = some (.cells #[.string y.1,.int .i64 y.2] 69 (0,0))) 6 (by kernel_rfl) ?_;refine wpZ_take hCC (some 20) (i:=0) (v:=.agg #[.int .i64 at_]) rfl rfl (by kernel_rfl) (by kernel_rfl) (by kernel_rfl) (by kernel_rfl) (by kernel_rfl) rfl (fun _ _ _ h=>h) (Or.inl ⟨rfl,fun n hn=>?_⟩) (fun _=>CW) ?_
   ·have c0:=cell_of (i:=0) hn.1 rfl; go_simp
   simp only [Act.put,pA,pB,pC];refine wpZ_take hCC (some 22) (i:=2) (v:=.pointer (some ⟨wr.heap.size,1,none⟩)) rfl rfl (by kernel_rfl) (by kernel_rfl) (by kernel_rfl) (by kernel_rfl) (by kernel_rfl) rfl (fun _ _ _ h=>h) (Or.inl ⟨rfl,fun n hn=>?_⟩) (fun _=>CW) ?_
   ·go_simp
   simp only [Act.put,pA,pB,pC];refine wpZ_take hCC (some 23) (i:=3) (v:=.int .i64 y.2) rfl rfl (by kernel_rfl) (by kernel_rfl) (by kernel_rfl) (by kernel_rfl) (by kernel_rfl) rfl (fun _ _ _ h=>h) (Or.inl ⟨rfl,fun n hn=>?_⟩) (fun _=>CW) ?_
   ·have c0:=cell_of (i:=1) hn.2 rfl; go_simp
   simp only [Act.put,pA,pB,pC];refine wpZ_step (rs:=[1]) (by kernel_rfl) (by simp) ?_;intro v1 hv1 jj hjj;obtain rfl:jj=1:=by simpa using hjj
   clear hjj;have con:=types_at v1;have hal5:Below v1.heap.size v1 (v1.alloc (.cells tyC 168)):=(Below.refl _ _).alloc (Nat.le_refl _) _;have QT:=heap_new v1 tyC 168;refine wpOp_step rfl (fun K hK=>?_);go_simp;refine con.mono ?_;rintro e v2 ⟨rfl,rfl⟩;generalize v1.alloc (.cells tyC 168)=v2 at *;have C2:=hCC _ _ (hCC _ _ CW hv1) hal5;refine hK _ _ ⟨fun _=>C2,?_⟩;clear hK K con;refine wpZ_step (rs:=[4]) (by kernel_rfl) (by simp) ?_;intro v3 hv3 jj hjj;obtain rfl:jj=4:=by simpa using hjj
   clear hjj;have con:=wordOf_at y.2 ((hv3.block _ (lt_of_heap QT)).trans QT);refine wpOp_step rfl (fun K hK=>?_);go_simp;refine con.mono ?_;rintro e v4 ⟨rfl,hv4⟩;have C4:=hCC _ _ (hCC _ _ C2 hv3) hv4;have D4:=chain (chain hdr hv1) (chain hal5 (chain hv3 hv4));refine hK _ _ ⟨fun _=>C4,?_⟩;clear hK K con CW C2;have CW:=C4;have hm:=HM1528.out;rw [typeC] at hm;generalize wordL y.2 tyL=wd at *;have HMt:Hid _:=hm;clear hm HM1528;rcases hwd:wd.toList.isEmpty with _ | _
   ·have hm:=HMt.out;rw [hwd,if_neg (by decide)] at hm;refine wpZ_take hCC (some 25) (i:=5) (v:=.bool true) rfl rfl (by kernel_rfl) (by kernel_rfl) (by kernel_rfl) (by kernel_rfl) (by kernel_rfl) rfl (fun _ _ _ h=>h) (Or.inl ⟨rfl,fun n hn=>?_⟩) (fun _=>CW) ?_
    ·go_simp
    simp only [Act.put,pA,pB,pC];refine wpZ_step (rs:=[6]) (by kernel_rfl) (by simp) ?_;intro v5 hv5 jj hjj;obtain rfl:jj=6:=by simpa using hjj
    clear hjj;have con:=need_ok 1 at_ v5;refine wpOp_step rfl (fun K hK=>?_);go_simp;refine con.mono ?_;rintro e v6 ⟨rfl,hv6⟩;rw [sqE_0] at hm;have HMu:Hid _:=hm;clear hm HMt;refine hK _ _ ⟨fun h=>by simp at h,?_⟩;clear hK K con;refine wpZ_done (by kernel_rfl) ?_;intro v7 hv7;have D7:=chain D4 (chain hv5 (chain hv6 hv7));have hx3029:Below w.heap.size w v7:=chain hx1524 D7;have QC3030:=(D7.block _ (lt_of_heap QC1525)).trans QC1525;have QY3031:=(D7.block _ (lt_of_heap QY1526)).trans QY1526;have hB3032:Below w5.heap.size w5 v7:=chain hB1527 D7;go_wp2_with fail
    go_roundw
    case rel=>exact ⟨j+1,by omega,by go_num,HMu,hB3032⟩
    case measure=>simp [RowKit.intOf]; omega
   ·have hm:=HMt.out;rw [hwd,if_pos rfl] at hm;refine wpZ_take hCC (some 25) (i:=5) (v:=.bool false) rfl rfl (by kernel_rfl) (by kernel_rfl) (by kernel_rfl) (by kernel_rfl) (by kernel_rfl) rfl (fun _ _ _ h=>h) (Or.inl ⟨rfl,fun n hn=>?_⟩) (fun _=>CW) ?_
    ·go_simp
    simp only [Act.put,pA,pB,pC];refine wpZ_step (rs:=[6]) (by kernel_rfl) (by simp) ?_;intro v5 hv5 jj hjj;obtain rfl:jj=6:=by simpa using hjj
    clear hjj;have con:=need_bad 1 at_ v5;refine wpOp_step rfl (fun K hK=>?_);go_simp;refine con.mono ?_;rintro e v6 ⟨rfl,hv6⟩;rw [sqE_n (by decide)] at hm;exact ⟨rfl,.bad (chain hx1524 (chain D4 (chain hv5 hv6))) hm.symm (by decide)⟩
  ·have hjz:¬ (j:Int)<(l.length:Int):=by omega
   rw [List.drop_eq_nil_of_le (by omega),show colsL []=0 from rfl,sqE_0] at hL;have HMr:Hid _:=hL;clear HL hL;go_wp2_with fail
   go_end0
   exact .ok hx12 HMr.out.symm

def opC (op:Int):Int:=if decide (1≤op) && decide (op≤4) then 0 else 1
def partsL (ops:List Int) (j:Nat):List Sel→Int
 | []=>0
 | x :: r=>sqE (if j=0 then 0 else opC (ops.getD (j - 1) 0)) (sqE (selC x) (partsL ops (j+1) r))
theorem partsL_cons (ops:List Int) (j:Nat) (x:Sel) (r:List Sel):partsL ops j (x :: r)=sqE (if j=0 then 0 else opC (ops.getD (j - 1) 0)) (sqE (selC x) (partsL ops (j+1) r)):=rfl
def limC (n:Int):Int:=if n≤50 then 0 else 3
def ordC (x:Qry):Int:=if 0≤x.limit then cntC x.order.length 1 8 else 0
def ordE (x:Qry):Int:=if 0≤x.limit then exprsC x.order else 0
def qryC (x:Qry):Int:=sqE (cntC x.parts.length 1 4) (sqE (cntC x.ops.length (x.parts.length - 1) (x.parts.length - 1)) (sqE (ordC x) (sqE (limC x.limit) (sqE (partsL x.ops 0 x.parts) (sqE (ordE x) 0)))))
theorem En21.kst {S:Nat→Prop} {W:World} {x:Sel} {a1 a2 a3 a4 a5:Option Addr} {c1 c2 c3 c4 c5:Nat} (h:En21 S W x [.bool x.distinct,.bool x.star,.slice a1 x.items.length c1,.slice a2 x.sources.length c2,.bool x.hasWhere,.bool x.hasHaving,.int .i64 x.wher.k,.int .i64 x.wher.v.1,.int .i64 x.wher.v.2.1,.string x.wher.v.2.2,.string x.wher.tab,.string x.wher.name,.slice a3 x.wher.ks.length c3,.int .i64 x.having.k,.int .i64 x.having.v.1,.int .i64 x.having.v.2.1,.string x.having.v.2.2,.string x.having.tab,.string x.having.name,.slice a4 x.having.ks.length c4,.slice a5 x.group.length c5]):LsE En8 8 S W a1 x.items∧LsE En10 10 S W a2 x.sources∧SsS S W a3 x.wher.ks∧SsS S W a4 x.having.ks∧LsE En7 7 S W a5 x.group:=by
 obtain ⟨b1,d1,b2,d2,b3,d3,b4,d4,b5,d5,e,h1,h2,h3,h4,h5⟩:=h;simp only [List.cons.injEq,Value.slice.injEq] at e;obtain ⟨_,_,⟨rfl,_⟩,⟨rfl,_⟩,_,_,_,_,_,_,_,_,⟨rfl,_⟩,_,_,_,_,_,_,⟨rfl,_⟩,⟨rfl,_⟩,_⟩:=e;exact ⟨h1,h2,h3,h4,h5⟩
theorem cquery_at (x:Qry) (p1 p2 p3:Option Addr) (d1 d2 d3:Nat) (S:Nat→Prop) (at_:Int) (w:World) (h1:LsE En21 21 S w p1 x.parts) (h2:LsE EnI 1 S w p2 x.ops) (h3:LsE En7 7 S w p3 x.order):Calls Tryz.prog 73 #[.agg #[.int .i64 at_],.agg #[.slice p1 x.parts.length d1,.slice p2 x.ops.length d2,.slice p3 x.order.length d3,.int .i64 x.limit]] w (CEnds w at_ (qryC x)):=by
 have hal1:Below w.heap.size w (w.alloc (.cells #[.int .i64 at_] 86)):=(Below.refl _ _).alloc (Nat.le_refl _) _;have hal2:Below (w.alloc (.cells #[.int .i64 at_] 86)).heap.size (w.alloc (.cells #[.int .i64 at_] 86)) ((w.alloc (.cells #[.int .i64 at_] 86)).alloc (.cells #[.slice p1 x.parts.length d1,.slice p2 x.ops.length d2,.slice p3 x.order.length d3,.int .i64 x.limit] 50)):=(Below.refl _ _).alloc (Nat.le_refl _) _
 have QC:((w.alloc (.cells #[.int .i64 at_] 86)).alloc (.cells #[.slice p1 x.parts.length d1,.slice p2 x.ops.length d2,.slice p3 x.order.length d3,.int .i64 x.limit] 50)).heap[w.heap.size]? = some (.cells #[.int .i64 at_] 86 (0,0)):=(hal2.block _ (lt_of_heap (heap_new w #[.int .i64 at_] 86))).trans (heap_new w _ _)
 have QX:((w.alloc (.cells #[.int .i64 at_] 86)).alloc (.cells #[.slice p1 x.parts.length d1,.slice p2 x.ops.length d2,.slice p3 x.order.length d3,.int .i64 x.limit] 50)).heap[w.heap.size+1]? = some (.cells #[.slice p1 x.parts.length d1,.slice p2 x.ops.length d2,.slice p3 x.order.length d3,.int .i64 x.limit] 50 (0,0)):=by
  rw [show w.heap.size+1=(w.alloc (.cells #[.int .i64 at_] 86)).heap.size by simp];exact heap_new _ _ _
 have hal:=chain hal1 hal2;clear hal1 hal2;generalize hM:qryC x=M;have HM0:Hid _:=hM;clear hM;have HK1:Hid ((EnL En21 21) (fun _=>True) ((w.alloc (.cells #[.int .i64 at_] 86)).alloc (.cells #[.slice p1 x.parts.length d1,.slice p2 x.ops.length d2,.slice p3 x.order.length d3,.int .i64 x.limit] 50)) x.parts [.slice p1 x.parts.length d1]):=(enL en21 21).next (Keeps'.of hal) ((enL en21 21).mono (fun _ _ _=>trivial) ⟨p1,d1,rfl,h1⟩)
 have HK2:Hid ((EnL EnI 1) (fun _=>True) ((w.alloc (.cells #[.int .i64 at_] 86)).alloc (.cells #[.slice p1 x.parts.length d1,.slice p2 x.ops.length d2,.slice p3 x.order.length d3,.int .i64 x.limit] 50)) x.ops [.slice p2 x.ops.length d2]):=(enL enI 1).next (Keeps'.of hal) ((enL enI 1).mono (fun _ _ _=>trivial) ⟨p2,d2,rfl,h2⟩)
 have HK3:Hid ((EnL En7 7) (fun _=>True) ((w.alloc (.cells #[.int .i64 at_] 86)).alloc (.cells #[.slice p1 x.parts.length d1,.slice p2 x.ops.length d2,.slice p3 x.order.length d3,.int .i64 x.limit] 50)) x.order [.slice p3 x.order.length d3]):=(enL en7 7).next (Keeps'.of hal) ((enL en7 7).mono (fun _ _ _=>trivial) ⟨p3,d3,rfl,h3⟩);go_enter Tryz.func73,Tryz.ntmps73;go_upto_region 1 with fail
 generalize ((w.alloc (.cells #[.int .i64 at_] 86)).alloc (.cells #[.slice p1 x.parts.length d1,.slice p2 x.ops.length d2,.slice p3 x.order.length d3,.int .i64 x.limit] 50))=w1 at *;have hm:=HM0.out;rw [qryC] at hm;have HMa:Hid _:=hm;clear hm HM0 h1 h2 h3;have k4:w1.cell? ⟨w.heap.size,0,none⟩=some (.int .i64 at_):=cell_of (i:=0) QC rfl;have k5:w1.cell? ⟨w.heap.size+1,0,none⟩=some (.slice p1 x.parts.length d1):=cell_of (i:=0) QX rfl;have con6:=count_at x.parts.length 1 4 at_ w1;have hm:=HMa.out;obtain ⟨rk,hrk⟩:∃ r,cntC x.parts.length 1 4=r:=⟨_,rfl⟩
 rw [hrk] at hm con6;have HRK:Hid _:=hrk;clear hrk;have HM7:Hid _:=hm;clear hm HMa;go_wp2_with fail
 refine con6.mono ?_;rintro e w8 ⟨hb9,hW⟩;clear con6 k4 k5;have hx10:Below w.heap.size w w8:=chain hal hb9;have QC11:=(hb9.block _ (lt_of_heap QC)).trans QC;have QX12:=(hb9.block _ (lt_of_heap QX)).trans QX;have HK13:Hid ((EnL En21 21) (fun _=>True) w8 x.parts [.slice p1 x.parts.length d1]):=(enL en21 21).next (Keeps'.of hb9) HK1.out;have HK14:Hid ((EnL EnI 1) (fun _=>True) w8 x.ops [.slice p2 x.ops.length d2]):=(enL enI 1).next (Keeps'.of hb9) HK2.out;have HK15:Hid ((EnL En7 7) (fun _=>True) w8 x.order [.slice p3 x.order.length d3]):=(enL en7 7).next (Keeps'.of hb9) HK3.out
 rcases hW with ⟨h,rfl⟩ | ⟨h,rfl⟩
 rotate_left
 ·have HR:Hid (rk=M):=by have:=HM7.out; rw [sqE_n h] at this; exact this
  clear HM7;go_wp2_with fail
  exact ⟨rfl,.bad hx10 HR.out.symm h⟩
 subst h;have hm:=HM7.out;rw [sqE_0] at hm;have HM16:Hid _:=hm;clear hm HM7;have hcn1:=cnt_le HRK.out;clear HRK;have k17:w8.cell? ⟨w.heap.size,0,none⟩=some (.int .i64 at_):=cell_of (i:=0) QC11 rfl;have k18:w8.cell? ⟨w.heap.size+1,1,none⟩=some (.slice p2 x.ops.length d2):=cell_of (i:=1) QX12 rfl;have k19:w8.cell? ⟨w.heap.size+1,0,none⟩=some (.slice p1 x.parts.length d1):=cell_of (i:=0) QX12 rfl;have con20:=count_at x.ops.length ((x.parts.length:Int) - 1) ((x.parts.length:Int) - 1) at_ w8;have hm:=HM16.out
 obtain ⟨rk,hrk⟩:∃ r,cntC x.ops.length ((x.parts.length:Int) - 1) ((x.parts.length:Int) - 1)=r:=⟨_,rfl⟩
 rw [hrk] at hm con20;have HRK:Hid _:=hrk;clear hrk;have HM21:Hid _:=hm;clear hm HM16;go_wp2_with fail
 refine con20.mono ?_;rintro e w22 ⟨hb23,hW⟩;clear con20 k17 k18 k19;have hx24:Below w.heap.size w w22:=chain hx10 hb23;have QC25:=(hb23.block _ (lt_of_heap QC11)).trans QC11;have QX26:=(hb23.block _ (lt_of_heap QX12)).trans QX12;have HK27:Hid ((EnL En21 21) (fun _=>True) w22 x.parts [.slice p1 x.parts.length d1]):=(enL en21 21).next (Keeps'.of hb23) HK13.out;have HK28:Hid ((EnL EnI 1) (fun _=>True) w22 x.ops [.slice p2 x.ops.length d2]):=(enL enI 1).next (Keeps'.of hb23) HK14.out
 have HK29:Hid ((EnL En7 7) (fun _=>True) w22 x.order [.slice p3 x.order.length d3]):=(enL en7 7).next (Keeps'.of hb23) HK15.out;rcases hW with ⟨h,rfl⟩ | ⟨h,rfl⟩
 rotate_left
 ·have HR:Hid (rk=M):=by have:=HM21.out; rw [sqE_n h] at this; exact this
  clear HM21;go_wp2_with fail
  exact ⟨rfl,.bad hx24 HR.out.symm h⟩
 subst h;have hm:=HM21.out;rw [sqE_0] at hm;have HM30:Hid _:=hm;clear hm HM21;have hcn2:=cnt_le HRK.out;clear HRK;have k31:w22.cell? ⟨w.heap.size,0,none⟩=some (.int .i64 at_):=cell_of (i:=0) QC25 rfl;have k32:w22.cell? ⟨w.heap.size+1,3,none⟩=some (.int .i64 x.limit):=cell_of (i:=3) QX26 rfl;have k33:w22.cell? ⟨w.heap.size+1,2,none⟩=some (.slice p3 x.order.length d3):=cell_of (i:=2) QX26 rfl;go_upto_if 27 with fail
 go_cut [] (fun wc=>Hid (sqE (limC x.limit) (sqE (partsL x.ops 0 x.parts) (sqE (ordE x) 0))=M)∧Hid (0≤x.limit→x.order.length≤8)∧Below w22.heap.size w22 wc)
 case first =>
  by_cases hl:0≤x.limit
  ·have hm:=HM30.out;rw [ordC,if_pos hl] at hm;have con:=count_at x.order.length 1 8 at_ w22;obtain ⟨rk,hrk⟩:∃ r,cntC x.order.length 1 8=r:=⟨_,rfl⟩
   rw [hrk] at hm con;have HRK:Hid _:=hrk;have HMb:Hid _:=hm;clear hm hrk HM30;go_wp2_with fail
   refine con.mono ?_;rintro e wq ⟨hbq,⟨h,rfl⟩ | ⟨h,rfl⟩⟩
   ·subst h;have hm:=HMb.out;rw [sqE_0] at hm;have HMe:Hid _:=hm;have hle:=cnt_le HRK.out;have HLE:Hid (0≤x.limit→x.order.length≤8):=fun _=>by omega
    clear hm HMb hle HRK;go_wp2_with fail
    go_meet
    case rel=>exact ⟨HMe,HLE,hbq⟩
   ·have HR:Hid (rk=M):=by have:=HMb.out; rw [sqE_n h] at this; exact this
    clear HMb HRK;go_wp2_with fail
    exact ⟨rfl,.bad (chain hx24 hbq) HR.out.symm h⟩
  ·have hm:=HM30.out;rw [ordC,if_neg hl,sqE_0] at hm;have HMb:Hid _:=hm;have HLE:Hid (0≤x.limit→x.order.length≤8):=fun h=>absurd h hl
   clear hm HM30;go_wp2_with fail
   go_meet
   case rel=>exact ⟨HMb,HLE,Below.refl _ _⟩
 case rest =>
  clear HM30 k31 k32 k33;obtain ⟨HMb,HLE,hbc⟩:=hcut;have hx2034:Below w.heap.size w wc:=chain hx24 hbc;have QC2035:=(hbc.block _ (lt_of_heap QC25)).trans QC25;have QX2036:=(hbc.block _ (lt_of_heap QX26)).trans QX26;have HK2037:Hid ((EnL En21 21) (fun _=>True) wc x.parts [.slice p1 x.parts.length d1]):=(enL en21 21).next (Keeps'.of hbc) HK27.out;have HK2038:Hid ((EnL EnI 1) (fun _=>True) wc x.ops [.slice p2 x.ops.length d2]):=(enL enI 1).next (Keeps'.of hbc) HK28.out;have HK2039:Hid ((EnL En7 7) (fun _=>True) wc x.order [.slice p3 x.order.length d3]):=(enL en7 7).next (Keeps'.of hbc) HK29.out
  have k2040:wc.cell? ⟨w.heap.size,0,none⟩=some (.int .i64 at_):=cell_of (i:=0) QC2035 rfl;have k2041:wc.cell? ⟨w.heap.size+1,3,none⟩=some (.int .i64 x.limit):=cell_of (i:=3) QX2036 rfl;by_cases h50:x.limit≤50
  case neg =>
   have con:=need_bad 3 at_ wc;have HR:Hid (M=3):=by show _=_; have:=HMb.out; rw [limC,if_neg h50,sqE_n (by decide)] at this; exact this.symm
   clear HMb;go_wp2_with fail
   refine con.mono ?_;rintro e wq ⟨rfl,hbq⟩;go_wp2_with fail
   exact ⟨rfl,.bad (chain hx2034 hbq) HR.out (by decide)⟩
  have con:=need_ok 3 at_ wc;have hm:=HMb.out;rw [limC,if_pos h50,sqE_0] at hm;have HMc:Hid _:=hm;clear hm HMb;go_wp2_with fail
  refine con.mono ?_;rintro e wd ⟨rfl,hbd⟩;clear con k2040 k2041;have hx2042:Below w.heap.size w wd:=chain hx2034 hbd;have QC2043:=(hbd.block _ (lt_of_heap QC2035)).trans QC2035;have QX2044:=(hbd.block _ (lt_of_heap QX2036)).trans QX2036;have HK2045:Hid ((EnL En21 21) (fun _=>True) wd x.parts [.slice p1 x.parts.length d1]):=(enL en21 21).next (Keeps'.of hbd) HK2037.out;have HK2046:Hid ((EnL EnI 1) (fun _=>True) wd x.ops [.slice p2 x.ops.length d2]):=(enL enI 1).next (Keeps'.of hbd) HK2038.out
  have HK2047:Hid ((EnL En7 7) (fun _=>True) wd x.order [.slice p3 x.order.length d3]):=(enL en7 7).next (Keeps'.of hbd) HK2039.out;have HKP:Hid (LsE En21 21 (fun _=>True) wd p1 x.parts):=HK2045.out.ls;have HKO:Hid (LsE EnI 1 (fun _=>True) wd p2 x.ops):=HK2046.out.ls;have k2048:wd.cell? ⟨w.heap.size,0,none⟩=some (.int .i64 at_):=cell_of (i:=0) QC2043 rfl;have k2049:wd.cell? ⟨w.heap.size+1,0,none⟩=some (.slice p1 x.parts.length d1):=cell_of (i:=0) QX2044 rfl;have HM2050:Hid (sqE (partsL x.ops (0:Nat) (x.parts.drop 0)) (sqE (ordE x) 0)=M):=by show _=_; rw [List.drop_zero]; exact HMc.out
  clear HMc;go_wp2_with fail
  clear k2048 k2049;go_loopw [41] (fun jv wr=>∃ j:Nat,j≤x.parts.length∧jv = .int .i64 j∧Hid (sqE (partsL x.ops j (x.parts.drop j)) (sqE (ordE x) 0)=M)∧Below wd.heap.size wd wr) (fun jv _=>x.parts.length - (RowKit.intOf jv).toNat)
  case atStart=>exact ⟨0,by omega,rfl,HM2050,Below.refl _ _⟩
  case round =>
   clear HM2050;obtain ⟨j,hj,rfl,HL,hbr⟩:=hrel;have hx2051:Below w.heap.size w wr:=chain hx2042 hbr;have QC2052:=(hbr.block _ (lt_of_heap QC2043)).trans QC2043;have QX2053:=(hbr.block _ (lt_of_heap QX2044)).trans QX2044;have HK2054:Hid ((EnL En21 21) (fun _=>True) wr x.parts [.slice p1 x.parts.length d1]):=(enL en21 21).next (Keeps'.of hbr) HK2045.out;have HK2055:Hid ((EnL EnI 1) (fun _=>True) wr x.ops [.slice p2 x.ops.length d2]):=(enL enI 1).next (Keeps'.of hbr) HK2046.out
   have HK2056:Hid ((EnL En7 7) (fun _=>True) wr x.order [.slice p3 x.order.length d3]):=(enL en7 7).next (Keeps'.of hbr) HK2047.out;have hL:=HL.out;by_cases hlt:j<x.parts.length
   ·have hjz:(j:Int)<(x.parts.length:Int):=by omega
    rw [List.drop_eq_getElem_cons hlt,partsL_cons] at hL;simp only [sqE_assoc] at hL;obtain ⟨bl,off,cs,rfl,hbl,hcl,hce,⟨e1,f1,e2,f2,e3,f3,e4,f4,e5,f5,rfl,k1,k2,k3,k4,k5⟩⟩:=(HKP.out.keep en21 (Keeps'.of hbr)).elem hlt
    have halY:Below wr.heap.size wr (wr.alloc (.cells #[.bool x.parts[j].distinct,.bool x.parts[j].star,.slice e1 x.parts[j].items.length f1,.slice e2 x.parts[j].sources.length f2,.bool x.parts[j].hasWhere,.bool x.parts[j].hasHaving,.int .i64 x.parts[j].wher.k,.int .i64 x.parts[j].wher.v.1,.int .i64 x.parts[j].wher.v.2.1,.string x.parts[j].wher.v.2.2,.string x.parts[j].wher.tab,.string x.parts[j].wher.name,.slice e3 x.parts[j].wher.ks.length f3,.int .i64 x.parts[j].having.k,.int .i64 x.parts[j].having.v.1,.int .i64 x.parts[j].having.v.2.1,.string x.parts[j].having.v.2.2,.string x.parts[j].having.tab,.string x.parts[j].having.name,.slice e4 x.parts[j].having.ks.length f4,.slice e5 x.parts[j].group.length f5] 79)):=(Below.refl _ _).alloc (Nat.le_refl _) _
    have QY:=heap_new wr #[.bool x.parts[j].distinct,.bool x.parts[j].star,.slice e1 x.parts[j].items.length f1,.slice e2 x.parts[j].sources.length f2,.bool x.parts[j].hasWhere,.bool x.parts[j].hasHaving,.int .i64 x.parts[j].wher.k,.int .i64 x.parts[j].wher.v.1,.int .i64 x.parts[j].wher.v.2.1,.string x.parts[j].wher.v.2.2,.string x.parts[j].wher.tab,.string x.parts[j].wher.name,.slice e3 x.parts[j].wher.ks.length f3,.int .i64 x.parts[j].having.k,.int .i64 x.parts[j].having.v.1,.int .i64 x.parts[j].having.v.2.1,.string x.parts[j].having.v.2.2,.string x.parts[j].having.tab,.string x.parts[j].having.name,.slice e4 x.parts[j].having.ks.length f4,.slice e5 x.parts[j].group.length f5] 79
    have hrg:wr.rangeAt bl (off+j*21) [.bool x.parts[j].distinct,.bool x.parts[j].star,.slice e1 x.parts[j].items.length f1,.slice e2 x.parts[j].sources.length f2,.bool x.parts[j].hasWhere,.bool x.parts[j].hasHaving,.int .i64 x.parts[j].wher.k,.int .i64 x.parts[j].wher.v.1,.int .i64 x.parts[j].wher.v.2.1,.string x.parts[j].wher.v.2.2,.string x.parts[j].wher.tab,.string x.parts[j].wher.name,.slice e3 x.parts[j].wher.ks.length f3,.int .i64 x.parts[j].having.k,.int .i64 x.parts[j].having.v.1,.int .i64 x.parts[j].having.v.2.1,.string x.parts[j].having.v.2.2,.string x.parts[j].having.tab,.string x.parts[j].having.name,.slice e4 x.parts[j].having.ks.length f4,.slice e5 x.parts[j].group.length f5]:=fun i u hu=>hce i u hu
    have HMr:Hid _:=hL;generalize x.parts[j]=y at *;clear HL hL hce hcl
    go_upto_region 9 with (first | (refine wpList_load_mid rfl 79 _ rfl bl (off+j*21) rfl #[.bool y.distinct,.bool y.star,.slice e1 y.items.length f1,.slice e2 y.sources.length f2,.bool y.hasWhere,.bool y.hasHaving,.int .i64 y.wher.k,.int .i64 y.wher.v.1,.int .i64 y.wher.v.2.1,.string y.wher.v.2.2,.string y.wher.tab,.string y.wher.name,.slice e3 y.wher.ks.length f3,.int .i64 y.having.k,.int .i64 y.having.v.1,.int .i64 y.having.v.2.1,.string y.having.v.2.2,.string y.having.tab,.string y.having.name,.slice e4 y.having.ks.length f4,.slice e5 y.group.length f5].toList _ hrg Tryz.underlying79 rfl sz21 ?_) | (refine wpList_store_new rfl 79 _ _ rfl z21A #[.bool y.distinct,.bool y.star,.slice e1 y.items.length f1,.slice e2 y.sources.length f2,.bool y.hasWhere,.bool y.hasHaving,.int .i64 y.wher.k,.int .i64 y.wher.v.1,.int .i64 y.wher.v.2.1,.string y.wher.v.2.2,.string y.wher.tab,.string y.wher.name,.slice e3 y.wher.ks.length f3,.int .i64 y.having.k,.int .i64 y.having.v.1,.int .i64 y.having.v.2.1,.string y.having.v.2.2,.string y.having.tab,.string y.having.name,.slice e4 y.having.ks.length f4,.slice e5 y.group.length f5] rfl rfl sz21 rfl (all1 rfl) ?_))
    generalize wr.alloc (.cells #[.bool y.distinct,.bool y.star,.slice e1 y.items.length f1,.slice e2 y.sources.length f2,.bool y.hasWhere,.bool y.hasHaving,.int .i64 y.wher.k,.int .i64 y.wher.v.1,.int .i64 y.wher.v.2.1,.string y.wher.v.2.2,.string y.wher.tab,.string y.wher.name,.slice e3 y.wher.ks.length f3,.int .i64 y.having.k,.int .i64 y.having.v.1,.int .i64 y.having.v.2.1,.string y.having.v.2.2,.string y.having.tab,.string y.having.name,.slice e4 y.having.ks.length f4,.slice e5 y.group.length f5] 79)=wa at *
    skip
    have hx3557:Below w.heap.size w wa:=chain hx2051 halY;have QC3558:=(halY.block _ (lt_of_heap QC2052)).trans QC2052;have QX3559:=(halY.block _ (lt_of_heap QX2053)).trans QX2053;have hB3560:Below wd.heap.size wd wa:=chain hbr halY
    have HKy:Hid (En21 (fun _=>True) wa y [.bool y.distinct,.bool y.star,.slice e1 y.items.length f1,.slice e2 y.sources.length f2,.bool y.hasWhere,.bool y.hasHaving,.int .i64 y.wher.k,.int .i64 y.wher.v.1,.int .i64 y.wher.v.2.1,.string y.wher.v.2.2,.string y.wher.tab,.string y.wher.name,.slice e3 y.wher.ks.length f3,.int .i64 y.having.k,.int .i64 y.having.v.1,.int .i64 y.having.v.2.1,.string y.having.v.2.2,.string y.having.tab,.string y.having.name,.slice e4 y.having.ks.length f4,.slice e5 y.group.length f5]):=en21.next (Keeps'.of halY) ⟨e1,f1,e2,f2,e3,f3,e4,f4,e5,f5,rfl,k1,k2,k3,k4,k5⟩
    clear k1 k2 k3 k4 k5 hrg;go_upto_if 47 with fail
    go_cut [] (fun wc=>Hid (sqE (selC y) (sqE (partsL x.ops (j+1) (x.parts.drop (j+1))) (sqE (ordE x) 0))=M)∧Below wa.heap.size wa wc)
    case first =>
     by_cases hj0:j=0
     ·have hm:=HMr.out;rw [if_pos hj0,sqE_0] at hm;have HMb:Hid _:=hm;have bj:¬ (0:Int)<(j:Int):=by omega
      clear hm HMr hj0;go_wp2_with fail
      go_meet
      case rel=>exact ⟨HMb,Below.refl _ _⟩
     ·have k6061:wa.cell? ⟨w.heap.size,0,none⟩=some (.int .i64 at_):=cell_of (i:=0) QC3558 rfl;have k6062:wa.cell? ⟨w.heap.size+1,1,none⟩=some (.slice p2 x.ops.length d2):=cell_of (i:=1) QX3559 rfl;have hm:=HMr.out;rw [if_neg hj0] at hm;obtain ⟨i,rfl⟩:∃ i,j=i+1:=⟨j - 1,by omega⟩
      have hil:i<x.ops.length:=by omega
      obtain ⟨b2,off2,cs2,ep,hb2l,_,hce2,eo⟩:=(HKO.out.keep enI (Keeps'.of hB3560)).elem hil;subst ep eo;have zo:=hce2 0 _ rfl;rw [Nat.add_zero,Nat.mul_one] at zo;have hgd:x.ops.getD (i+1 - 1) 0=x.ops[i]:=by simp [List.getD,hil]
      rw [hgd,opC] at hm;generalize x.ops[i]=op at *;have bj:(0:Int)<((i+1:Nat):Int):=by omega
      have bi:(i:Int)<(x.ops.length:Int):=by omega
      have HMb:Hid _:=hm;clear hm HMr hj0 hce2 hgd;have hcs:(1≤op∧op≤4)∨(1≤op∧¬ op≤4)∨¬ 1≤op:=by omega
      rcases hcs with ⟨g1,g2⟩ | ⟨g1,g2⟩ | g1
      ·have hm:=HMb.out;simp only [decide_eq_true g1,decide_eq_true g2,Bool.true_and,if_true] at hm;rw [sqE_0] at hm;have HMc:Hid _:=hm;clear hm HMb;have con:=need_ok 1 at_ wa;go_wp2_with fail
       refine con.mono ?_;rintro e wq ⟨rfl,hbq⟩;go_wp2_with fail
       go_meet
       case rel=>exact ⟨HMc,hbq⟩
      ·have hm:=HMb.out;simp only [decide_eq_true g1,decide_eq_false g2,Bool.true_and,Bool.false_eq_true,if_false] at hm;rw [sqE_n (by decide)] at hm;have HMc:Hid (M=1):=hm.symm;clear hm HMb;have con:=need_bad 1 at_ wa;go_wp2_with fail
       refine con.mono ?_;rintro e wq ⟨rfl,hbq⟩;go_wp2_with fail
       exact ⟨rfl,.bad (chain hx3557 hbq) HMc.out (by decide)⟩
      ·have hm:=HMb.out;simp only [decide_eq_false g1,Bool.false_and,Bool.false_eq_true,if_false] at hm;rw [sqE_n (by decide)] at hm;have HMc:Hid (M=1):=hm.symm;clear hm HMb;have con:=need_bad 1 at_ wa;go_wp2_with fail
       refine con.mono ?_;rintro e wq ⟨rfl,hbq⟩;go_wp2_with fail
       exact ⟨rfl,.bad (chain hx3557 hbq) HMc.out (by decide)⟩
    case rest =>
     clear HMr;obtain ⟨HMb,hbc2⟩:=hcut;obtain ⟨we,ewe⟩:∃ W,W=wc:=⟨_,rfl⟩
     subst ewe;have hx5561:Below w.heap.size w we:=chain hx3557 hbc2;have QC5562:=(hbc2.block _ (lt_of_heap QC3558)).trans QC3558;have QX5563:=(hbc2.block _ (lt_of_heap QX3559)).trans QX3559;have QY5564:=(hbc2.block _ (lt_of_heap QY)).trans QY
     have HK5565:Hid (En21 (fun _=>True) we y [.bool y.distinct,.bool y.star,.slice e1 y.items.length f1,.slice e2 y.sources.length f2,.bool y.hasWhere,.bool y.hasHaving,.int .i64 y.wher.k,.int .i64 y.wher.v.1,.int .i64 y.wher.v.2.1,.string y.wher.v.2.2,.string y.wher.tab,.string y.wher.name,.slice e3 y.wher.ks.length f3,.int .i64 y.having.k,.int .i64 y.having.v.1,.int .i64 y.having.v.2.1,.string y.having.v.2.2,.string y.having.tab,.string y.having.name,.slice e4 y.having.ks.length f4,.slice e5 y.group.length f5]):=en21.next (Keeps'.of hbc2) HKy.out
     have hB5566:Below wd.heap.size wd we:=chain hB3560 hbc2;obtain ⟨k1,k2,k3,k4,k5⟩:=En21.kst HK5565.out;have k5567:we.cell? ⟨w.heap.size,0,none⟩=some (.int .i64 at_):=cell_of (i:=0) QC5562 rfl;have con5568:=cselected_at y e1 e2 e3 e4 e5 f1 f2 f3 f4 f5 (fun _=>True) at_ we k1 k2 k3 k4 k5;have hm:=HMb.out;generalize selC y=rk at hm con5568;have HM5569:Hid _:=hm;clear hm HMb
     go_wp2_with (first | (refine wpList_load_row rfl 79 _ rfl wr.heap.size rfl 79 #[.bool y.distinct,.bool y.star,.slice e1 y.items.length f1,.slice e2 y.sources.length f2,.bool y.hasWhere,.bool y.hasHaving,.int .i64 y.wher.k,.int .i64 y.wher.v.1,.int .i64 y.wher.v.2.1,.string y.wher.v.2.2,.string y.wher.tab,.string y.wher.name,.slice e3 y.wher.ks.length f3,.int .i64 y.having.k,.int .i64 y.having.v.1,.int .i64 y.having.v.2.1,.string y.having.v.2.2,.string y.having.tab,.string y.having.name,.slice e4 y.having.ks.length f4,.slice e5 y.group.length f5] (0,0) _ QY5564 Tryz.underlying79 rfl sz21 ?_))
     refine con5568.mono ?_;rintro e w5570 ⟨hb5571,hW⟩;clear con5568 k5567;have hx5572:Below w.heap.size w w5570:=chain hx5561 hb5571;have QC5573:=(hb5571.block _ (lt_of_heap QC5562)).trans QC5562;have QX5574:=(hb5571.block _ (lt_of_heap QX5563)).trans QX5563;have QY5575:=(hb5571.block _ (lt_of_heap QY5564)).trans QY5564
     have HK5576:Hid (En21 (fun _=>True) w5570 y [.bool y.distinct,.bool y.star,.slice e1 y.items.length f1,.slice e2 y.sources.length f2,.bool y.hasWhere,.bool y.hasHaving,.int .i64 y.wher.k,.int .i64 y.wher.v.1,.int .i64 y.wher.v.2.1,.string y.wher.v.2.2,.string y.wher.tab,.string y.wher.name,.slice e3 y.wher.ks.length f3,.int .i64 y.having.k,.int .i64 y.having.v.1,.int .i64 y.having.v.2.1,.string y.having.v.2.2,.string y.having.tab,.string y.having.name,.slice e4 y.having.ks.length f4,.slice e5 y.group.length f5]):=en21.next (Keeps'.of hb5571) HK5565.out
     have hB5577:Below wd.heap.size wd w5570:=chain hB5566 hb5571;rcases hW with ⟨h,rfl⟩ | ⟨h,rfl⟩
     rotate_left
     ·have HR:Hid (rk=M):=by have:=HM5569.out; rw [sqE_n h] at this; exact this
      clear HM5569;go_wp2_with fail
      exact ⟨rfl,.bad hx5572 HR.out.symm h⟩
     subst h;have hm:=HM5569.out;rw [sqE_0] at hm;have HM5578:Hid _:=hm;clear hm HM5569;go_wp2_with fail
     go_roundw
     case rel=>exact ⟨j+1,by omega,by go_num,HM5578,hB5577⟩
     case measure=>simp [RowKit.intOf]; omega
   ·have hjz:¬ (j:Int)<(x.parts.length:Int):=by omega
    rw [List.drop_eq_nil_of_le (by omega),show partsL x.ops j []=0 from rfl,sqE_0] at hL;have HMr:Hid _:=hL;clear HL hL;by_cases hl:0≤x.limit
    ·have hm:=HMr.out;rw [ordE,if_pos hl] at hm;have HMo:Hid _:=hm;have hle:=HLE.out hl;clear hm HMr;have k6057:wr.cell? ⟨w.heap.size,0,none⟩=some (.int .i64 at_):=cell_of (i:=0) QC2052 rfl;have k6058:wr.cell? ⟨w.heap.size+1,3,none⟩=some (.int .i64 x.limit):=cell_of (i:=3) QX2053 rfl;have k6059:wr.cell? ⟨w.heap.size+1,2,none⟩=some (.slice p3 x.order.length d3):=cell_of (i:=2) QX2053 rfl;have con6060:=cexprs_at x.order (by omega) at_ p3 d3 (fun _=>True) wr (LsE.sxs HK2056.out.ls);have hm:=HMo.out;generalize exprsC x.order=rk at hm con6060;have HM6061:Hid _:=hm;clear hm HMo;go_wp2_with fail
     refine con6060.mono ?_;rintro e w6062 ⟨hb6063,hW⟩;clear con6060 k6057 k6058 k6059;have hx6064:Below w.heap.size w w6062:=chain hx2051 hb6063;have QC6065:=(hb6063.block _ (lt_of_heap QC2052)).trans QC2052;have QX6066:=(hb6063.block _ (lt_of_heap QX2053)).trans QX2053;have HK6067:Hid ((EnL En21 21) (fun _=>True) w6062 x.parts [.slice p1 x.parts.length d1]):=(enL en21 21).next (Keeps'.of hb6063) HK2054.out;have HK6068:Hid ((EnL EnI 1) (fun _=>True) w6062 x.ops [.slice p2 x.ops.length d2]):=(enL enI 1).next (Keeps'.of hb6063) HK2055.out
     have HK6069:Hid ((EnL En7 7) (fun _=>True) w6062 x.order [.slice p3 x.order.length d3]):=(enL en7 7).next (Keeps'.of hb6063) HK2056.out;rcases hW with ⟨h,rfl⟩ | ⟨h,rfl⟩
     rotate_left
     ·have HR:Hid (rk=M):=by have:=HM6061.out; rw [sqE_n h] at this; exact this
      clear HM6061;go_wp2_with fail
      exact ⟨rfl,.bad hx6064 HR.out.symm h⟩
     subst h;have hm:=HM6061.out;rw [sqE_0] at hm;have HM6070:Hid _:=hm;clear hm HM6061;go_wp2_with fail
     go_end0
     exact .ok hx6064 HM6070.out.symm
    ·have k7057:wr.cell? ⟨w.heap.size,0,none⟩=some (.int .i64 at_):=cell_of (i:=0) QC2052 rfl;have k7058:wr.cell? ⟨w.heap.size+1,3,none⟩=some (.int .i64 x.limit):=cell_of (i:=3) QX2053 rfl;have hm:=HMr.out;rw [ordE,if_neg hl,sqE_0] at hm;have HMo:Hid _:=hm;clear hm HMr;go_wp2_with fail
     go_end0
     exact .ok hx2051 HMo.out.symm

def kindS (x:Stm):Int:=if x.kind=1 then colsC x.cols else if x.kind=3 then rowsC x.rows else if x.kind=4 then exprIfC x.hasWhere x.wher else qryC x.query
def nameS (x:Stm):Int:=if x.kind=5 then 0 else nameC x.name
def kdS (k:Int):Int:=if decide (1≤k) && decide (k≤5) then 0 else 1
def stmC (x:Stm):Int:=sqE (kdS x.kind) (sqE (nameS x) (sqE (kindS x) 0))
theorem cstatement_at (x:Stm) (a1 p1 p2 p3 a2 a3:Option Addr) (c1 d1 d2 d3 c2 c3:Nat) (S:Nat→Prop) (at_:Int) (w:World) (h1:LsE En2 2 S w a1 x.cols) (h2:LsE En21 21 S w p1 x.query.parts) (h3:LsE EnI 1 S w p2 x.query.ops) (h4:LsE En7 7 S w p3 x.query.order) (h5:LsE (EnL En3 3) 1 S w a2 x.rows) (h6:SsS S w a3 x.wher.ks):Calls Tryz.prog 38 #[.agg #[.int .i64 at_],.agg #[.int .i64 x.kind,.string x.name,.slice a1 x.cols.length c1,.slice p1 x.query.parts.length d1,.slice p2 x.query.ops.length d2,.slice p3 x.query.order.length d3,.int .i64 x.query.limit,.slice a2 x.rows.length c2,.bool x.hasWhere,.int .i64 x.wher.k,.int .i64 x.wher.v.1,.int .i64 x.wher.v.2.1,.string x.wher.v.2.2,.string x.wher.tab,.string x.wher.name,.slice a3 x.wher.ks.length c3]] w (CEnds w at_ (stmC x)):=by
 have hal1:Below w.heap.size w (w.alloc (.cells #[.int .i64 at_] 86)):=(Below.refl _ _).alloc (Nat.le_refl _) _
 have hal2:Below (w.alloc (.cells #[.int .i64 at_] 86)).heap.size (w.alloc (.cells #[.int .i64 at_] 86)) ((w.alloc (.cells #[.int .i64 at_] 86)).alloc (.cells #[.int .i64 x.kind,.string x.name,.slice a1 x.cols.length c1,.slice p1 x.query.parts.length d1,.slice p2 x.query.ops.length d2,.slice p3 x.query.order.length d3,.int .i64 x.query.limit,.slice a2 x.rows.length c2,.bool x.hasWhere,.int .i64 x.wher.k,.int .i64 x.wher.v.1,.int .i64 x.wher.v.2.1,.string x.wher.v.2.2,.string x.wher.tab,.string x.wher.name,.slice a3 x.wher.ks.length c3] 57)):=(Below.refl _ _).alloc (Nat.le_refl _) _
 have QC:((w.alloc (.cells #[.int .i64 at_] 86)).alloc (.cells #[.int .i64 x.kind,.string x.name,.slice a1 x.cols.length c1,.slice p1 x.query.parts.length d1,.slice p2 x.query.ops.length d2,.slice p3 x.query.order.length d3,.int .i64 x.query.limit,.slice a2 x.rows.length c2,.bool x.hasWhere,.int .i64 x.wher.k,.int .i64 x.wher.v.1,.int .i64 x.wher.v.2.1,.string x.wher.v.2.2,.string x.wher.tab,.string x.wher.name,.slice a3 x.wher.ks.length c3] 57)).heap[w.heap.size]? = some (.cells #[.int .i64 at_] 86 (0,0)):=(hal2.block _ (lt_of_heap (heap_new w #[.int .i64 at_] 86))).trans (heap_new w _ _)
 have QX:((w.alloc (.cells #[.int .i64 at_] 86)).alloc (.cells #[.int .i64 x.kind,.string x.name,.slice a1 x.cols.length c1,.slice p1 x.query.parts.length d1,.slice p2 x.query.ops.length d2,.slice p3 x.query.order.length d3,.int .i64 x.query.limit,.slice a2 x.rows.length c2,.bool x.hasWhere,.int .i64 x.wher.k,.int .i64 x.wher.v.1,.int .i64 x.wher.v.2.1,.string x.wher.v.2.2,.string x.wher.tab,.string x.wher.name,.slice a3 x.wher.ks.length c3] 57)).heap[w.heap.size+1]? = some (.cells #[.int .i64 x.kind,.string x.name,.slice a1 x.cols.length c1,.slice p1 x.query.parts.length d1,.slice p2 x.query.ops.length d2,.slice p3 x.query.order.length d3,.int .i64 x.query.limit,.slice a2 x.rows.length c2,.bool x.hasWhere,.int .i64 x.wher.k,.int .i64 x.wher.v.1,.int .i64 x.wher.v.2.1,.string x.wher.v.2.2,.string x.wher.tab,.string x.wher.name,.slice a3 x.wher.ks.length c3] 57 (0,0)):=by
  rw [show w.heap.size+1=(w.alloc (.cells #[.int .i64 at_] 86)).heap.size by simp];exact heap_new _ _ _
 have hal:=chain hal1 hal2;clear hal1 hal2;generalize hM:stmC x=M;have HM0:Hid _:=hM;clear hM
 have HK1:Hid ((EnL En2 2) (fun _=>True) ((w.alloc (.cells #[.int .i64 at_] 86)).alloc (.cells #[.int .i64 x.kind,.string x.name,.slice a1 x.cols.length c1,.slice p1 x.query.parts.length d1,.slice p2 x.query.ops.length d2,.slice p3 x.query.order.length d3,.int .i64 x.query.limit,.slice a2 x.rows.length c2,.bool x.hasWhere,.int .i64 x.wher.k,.int .i64 x.wher.v.1,.int .i64 x.wher.v.2.1,.string x.wher.v.2.2,.string x.wher.tab,.string x.wher.name,.slice a3 x.wher.ks.length c3] 57)) x.cols [.slice a1 x.cols.length c1]):=(enL en2 2).next (Keeps'.of hal) ((enL en2 2).mono (fun _ _ _=>trivial) ⟨a1,c1,rfl,h1⟩)
 have HK2:Hid ((EnL En21 21) (fun _=>True) ((w.alloc (.cells #[.int .i64 at_] 86)).alloc (.cells #[.int .i64 x.kind,.string x.name,.slice a1 x.cols.length c1,.slice p1 x.query.parts.length d1,.slice p2 x.query.ops.length d2,.slice p3 x.query.order.length d3,.int .i64 x.query.limit,.slice a2 x.rows.length c2,.bool x.hasWhere,.int .i64 x.wher.k,.int .i64 x.wher.v.1,.int .i64 x.wher.v.2.1,.string x.wher.v.2.2,.string x.wher.tab,.string x.wher.name,.slice a3 x.wher.ks.length c3] 57)) x.query.parts [.slice p1 x.query.parts.length d1]):=(enL en21 21).next (Keeps'.of hal) ((enL en21 21).mono (fun _ _ _=>trivial) ⟨p1,d1,rfl,h2⟩)
 have HK3:Hid ((EnL EnI 1) (fun _=>True) ((w.alloc (.cells #[.int .i64 at_] 86)).alloc (.cells #[.int .i64 x.kind,.string x.name,.slice a1 x.cols.length c1,.slice p1 x.query.parts.length d1,.slice p2 x.query.ops.length d2,.slice p3 x.query.order.length d3,.int .i64 x.query.limit,.slice a2 x.rows.length c2,.bool x.hasWhere,.int .i64 x.wher.k,.int .i64 x.wher.v.1,.int .i64 x.wher.v.2.1,.string x.wher.v.2.2,.string x.wher.tab,.string x.wher.name,.slice a3 x.wher.ks.length c3] 57)) x.query.ops [.slice p2 x.query.ops.length d2]):=(enL enI 1).next (Keeps'.of hal) ((enL enI 1).mono (fun _ _ _=>trivial) ⟨p2,d2,rfl,h3⟩)
 have HK4:Hid ((EnL En7 7) (fun _=>True) ((w.alloc (.cells #[.int .i64 at_] 86)).alloc (.cells #[.int .i64 x.kind,.string x.name,.slice a1 x.cols.length c1,.slice p1 x.query.parts.length d1,.slice p2 x.query.ops.length d2,.slice p3 x.query.order.length d3,.int .i64 x.query.limit,.slice a2 x.rows.length c2,.bool x.hasWhere,.int .i64 x.wher.k,.int .i64 x.wher.v.1,.int .i64 x.wher.v.2.1,.string x.wher.v.2.2,.string x.wher.tab,.string x.wher.name,.slice a3 x.wher.ks.length c3] 57)) x.query.order [.slice p3 x.query.order.length d3]):=(enL en7 7).next (Keeps'.of hal) ((enL en7 7).mono (fun _ _ _=>trivial) ⟨p3,d3,rfl,h4⟩)
 have HK5:Hid ((EnL (EnL En3 3) 1) (fun _=>True) ((w.alloc (.cells #[.int .i64 at_] 86)).alloc (.cells #[.int .i64 x.kind,.string x.name,.slice a1 x.cols.length c1,.slice p1 x.query.parts.length d1,.slice p2 x.query.ops.length d2,.slice p3 x.query.order.length d3,.int .i64 x.query.limit,.slice a2 x.rows.length c2,.bool x.hasWhere,.int .i64 x.wher.k,.int .i64 x.wher.v.1,.int .i64 x.wher.v.2.1,.string x.wher.v.2.2,.string x.wher.tab,.string x.wher.name,.slice a3 x.wher.ks.length c3] 57)) x.rows [.slice a2 x.rows.length c2]):=(enL (enL en3 3) 1).next (Keeps'.of hal) ((enL (enL en3 3) 1).mono (fun _ _ _=>trivial) ⟨a2,c2,rfl,h5⟩)
 have HK6:Hid (En7 (fun _=>True) ((w.alloc (.cells #[.int .i64 at_] 86)).alloc (.cells #[.int .i64 x.kind,.string x.name,.slice a1 x.cols.length c1,.slice p1 x.query.parts.length d1,.slice p2 x.query.ops.length d2,.slice p3 x.query.order.length d3,.int .i64 x.query.limit,.slice a2 x.rows.length c2,.bool x.hasWhere,.int .i64 x.wher.k,.int .i64 x.wher.v.1,.int .i64 x.wher.v.2.1,.string x.wher.v.2.2,.string x.wher.tab,.string x.wher.name,.slice a3 x.wher.ks.length c3] 57)) x.wher [.int .i64 x.wher.k,.int .i64 x.wher.v.1,.int .i64 x.wher.v.2.1,.string x.wher.v.2.2,.string x.wher.tab,.string x.wher.name,.slice a3 x.wher.ks.length c3]):=en7.next (Keeps'.of hal) (en7.mono (fun _ _ _=>trivial) ⟨a3,c3,rfl,h6⟩)
 go_enter Tryz.func38,Tryz.ntmps38;go_upto_region 1 with fail
 generalize ((w.alloc (.cells #[.int .i64 at_] 86)).alloc (.cells #[.int .i64 x.kind,.string x.name,.slice a1 x.cols.length c1,.slice p1 x.query.parts.length d1,.slice p2 x.query.ops.length d2,.slice p3 x.query.order.length d3,.int .i64 x.query.limit,.slice a2 x.rows.length c2,.bool x.hasWhere,.int .i64 x.wher.k,.int .i64 x.wher.v.1,.int .i64 x.wher.v.2.1,.string x.wher.v.2.2,.string x.wher.tab,.string x.wher.name,.slice a3 x.wher.ks.length c3] 57))=w1 at *;have hm:=HM0.out;rw [stmC] at hm;have HMa:Hid _:=hm;clear hm HM0 h1 h2 h3 h4 h5 h6
 have k7:w1.cell? ⟨w.heap.size,0,none⟩=some (.int .i64 at_):=cell_of (i:=0) QC rfl;have k8:w1.cell? ⟨w.heap.size+1,0,none⟩=some (.int .i64 x.kind):=cell_of (i:=0) QX rfl;have hcs:(1≤x.kind∧x.kind≤5)∨((1≤x.kind∧¬ x.kind≤5)∨¬ 1≤x.kind):=by omega
 obtain ⟨g1,g2⟩ | hbad:=hcs
 case inr =>
  have HR:Hid (M=1):=by
   show _=_;have:=HMa.out;rw [kdS] at this;rcases hbad with ⟨g1,g2⟩ | g1
   ·rw [decide_eq_true g1,decide_eq_false g2,if_neg (by decide),sqE_n (by decide)] at this; exact this.symm
   ·rw [decide_eq_false g1,Bool.false_and,if_neg (by decide),sqE_n (by decide)] at this; exact this.symm
  have con:=need_bad 1 at_ w1;clear HMa;rcases hbad with ⟨g1,g2⟩ | g1
  all_goals
   go_wp2_with fail
   refine con.mono ?_;rintro e wq ⟨rfl,hbq⟩;go_wp2_with fail
   exact ⟨rfl,.bad (chain hal hbq) HR.out (by decide)⟩
 have hm:=HMa.out;rw [kdS,decide_eq_true g1,decide_eq_true g2,if_pos (by decide),sqE_0] at hm;have HMb:Hid _:=hm;have con:=need_ok 1 at_ w1;clear hm HMa;go_wp2_with fail
 refine con.mono ?_;rintro e wq ⟨rfl,hbq⟩;clear con k7 k8;have hx9:Below w.heap.size w wq:=chain hal hbq;have QC10:=(hbq.block _ (lt_of_heap QC)).trans QC;have QX11:=(hbq.block _ (lt_of_heap QX)).trans QX;have HK12:Hid ((EnL En2 2) (fun _=>True) wq x.cols [.slice a1 x.cols.length c1]):=(enL en2 2).next (Keeps'.of hbq) HK1.out;have HK13:Hid ((EnL En21 21) (fun _=>True) wq x.query.parts [.slice p1 x.query.parts.length d1]):=(enL en21 21).next (Keeps'.of hbq) HK2.out
 have HK14:Hid ((EnL EnI 1) (fun _=>True) wq x.query.ops [.slice p2 x.query.ops.length d2]):=(enL enI 1).next (Keeps'.of hbq) HK3.out;have HK15:Hid ((EnL En7 7) (fun _=>True) wq x.query.order [.slice p3 x.query.order.length d3]):=(enL en7 7).next (Keeps'.of hbq) HK4.out;have HK16:Hid ((EnL (EnL En3 3) 1) (fun _=>True) wq x.rows [.slice a2 x.rows.length c2]):=(enL (enL en3 3) 1).next (Keeps'.of hbq) HK5.out
 have HK17:Hid (En7 (fun _=>True) wq x.wher [.int .i64 x.wher.k,.int .i64 x.wher.v.1,.int .i64 x.wher.v.2.1,.string x.wher.v.2.2,.string x.wher.tab,.string x.wher.name,.slice a3 x.wher.ks.length c3]):=en7.next (Keeps'.of hbq) HK6.out;have k18:wq.cell? ⟨w.heap.size,0,none⟩=some (.int .i64 at_):=cell_of (i:=0) QC10 rfl;have k19:wq.cell? ⟨w.heap.size+1,0,none⟩=some (.int .i64 x.kind):=cell_of (i:=0) QX11 rfl;have k20:wq.cell? ⟨w.heap.size+1,1,none⟩=some (.string x.name):=cell_of (i:=1) QX11 rfl;go_upto_if 16 with fail
 go_cut [] (fun wc=>Hid (sqE (kindS x) 0=M)∧Below wq.heap.size wq wc)
 case first =>
  by_cases h5:x.kind=5
  ·have b5:(x.kind != 5)=false:=by simpa using h5
   have hm:=HMb.out;rw [nameS,if_pos h5,sqE_0] at hm;have HMc:Hid _:=hm;clear hm HMb h5;go_wp2_with fail
   go_meet
   case rel=>exact ⟨HMc,Below.refl _ _⟩
  ·have b5:(x.kind != 5)=true:=by simpa using h5
   have hm:=HMb.out;rw [nameS,if_neg h5] at hm;have con:=cname_at x.name at_ wq;generalize nameC x.name=rk at hm con;have HMc:Hid _:=hm;clear hm HMb h5;go_wp2_with fail
   refine con.mono ?_;rintro e we ⟨hbe,⟨h,rfl⟩ | ⟨h,rfl⟩⟩
   ·subst h;have hm:=HMc.out;rw [sqE_0] at hm;have HMd:Hid _:=hm;clear hm HMc;go_wp2_with fail
    go_meet
    case rel=>exact ⟨HMd,hbe⟩
   ·have HR:Hid (rk=M):=by have:=HMc.out; rw [sqE_n h] at this; exact this
    clear HMc;go_wp2_with fail
    exact ⟨rfl,.bad (chain hx9 hbe) HR.out.symm h⟩
 case rest =>
  clear HMb k18 k19 k20;obtain ⟨HMc,hbc⟩:=hcut;have hx2021:Below w.heap.size w wc:=chain hx9 hbc;have QC2022:=(hbc.block _ (lt_of_heap QC10)).trans QC10;have QX2023:=(hbc.block _ (lt_of_heap QX11)).trans QX11;have HK2024:Hid ((EnL En2 2) (fun _=>True) wc x.cols [.slice a1 x.cols.length c1]):=(enL en2 2).next (Keeps'.of hbc) HK12.out;have HK2025:Hid ((EnL En21 21) (fun _=>True) wc x.query.parts [.slice p1 x.query.parts.length d1]):=(enL en21 21).next (Keeps'.of hbc) HK13.out
  have HK2026:Hid ((EnL EnI 1) (fun _=>True) wc x.query.ops [.slice p2 x.query.ops.length d2]):=(enL enI 1).next (Keeps'.of hbc) HK14.out;have HK2027:Hid ((EnL En7 7) (fun _=>True) wc x.query.order [.slice p3 x.query.order.length d3]):=(enL en7 7).next (Keeps'.of hbc) HK15.out;have HK2028:Hid ((EnL (EnL En3 3) 1) (fun _=>True) wc x.rows [.slice a2 x.rows.length c2]):=(enL (enL en3 3) 1).next (Keeps'.of hbc) HK16.out
  have HK2029:Hid (En7 (fun _=>True) wc x.wher [.int .i64 x.wher.k,.int .i64 x.wher.v.1,.int .i64 x.wher.v.2.1,.string x.wher.v.2.2,.string x.wher.tab,.string x.wher.name,.slice a3 x.wher.ks.length c3]):=en7.next (Keeps'.of hbc) HK17.out;by_cases e1:x.kind=1
  ·have b1:(x.kind == 1)=true:=by simpa using e1
   have hm:=HMc.out;rw [kindS,if_pos e1] at hm;have HMk:Hid _:=hm;clear hm HMc;clear e1;have k3530:wc.cell? ⟨w.heap.size,0,none⟩=some (.int .i64 at_):=cell_of (i:=0) QC2022 rfl;have k3531:wc.cell? ⟨w.heap.size+1,0,none⟩=some (.int .i64 x.kind):=cell_of (i:=0) QX2023 rfl;have k3532:wc.cell? ⟨w.heap.size+1,2,none⟩=some (.slice a1 x.cols.length c1):=cell_of (i:=2) QX2023 rfl;have con3533:=ccolumns_at x.cols a1 c1 (fun _=>True) at_ wc HK2024.out.ls;have hm:=HMk.out;generalize colsC x.cols=rk at hm con3533;have HM3534:Hid _:=hm;clear hm HMk;go_wp2_with fail
   refine con3533.mono ?_;rintro e w3535 ⟨hb3536,hW⟩;clear con3533 k3530 k3531 k3532;have hx3537:Below w.heap.size w w3535:=chain hx2021 hb3536;have QC3538:=(hb3536.block _ (lt_of_heap QC2022)).trans QC2022;have QX3539:=(hb3536.block _ (lt_of_heap QX2023)).trans QX2023;have HK3540:Hid ((EnL En2 2) (fun _=>True) w3535 x.cols [.slice a1 x.cols.length c1]):=(enL en2 2).next (Keeps'.of hb3536) HK2024.out;have HK3541:Hid ((EnL En21 21) (fun _=>True) w3535 x.query.parts [.slice p1 x.query.parts.length d1]):=(enL en21 21).next (Keeps'.of hb3536) HK2025.out
   have HK3542:Hid ((EnL EnI 1) (fun _=>True) w3535 x.query.ops [.slice p2 x.query.ops.length d2]):=(enL enI 1).next (Keeps'.of hb3536) HK2026.out;have HK3543:Hid ((EnL En7 7) (fun _=>True) w3535 x.query.order [.slice p3 x.query.order.length d3]):=(enL en7 7).next (Keeps'.of hb3536) HK2027.out;have HK3544:Hid ((EnL (EnL En3 3) 1) (fun _=>True) w3535 x.rows [.slice a2 x.rows.length c2]):=(enL (enL en3 3) 1).next (Keeps'.of hb3536) HK2028.out
   have HK3545:Hid (En7 (fun _=>True) w3535 x.wher [.int .i64 x.wher.k,.int .i64 x.wher.v.1,.int .i64 x.wher.v.2.1,.string x.wher.v.2.2,.string x.wher.tab,.string x.wher.name,.slice a3 x.wher.ks.length c3]):=en7.next (Keeps'.of hb3536) HK2029.out;rcases hW with ⟨h,rfl⟩ | ⟨h,rfl⟩
   rotate_left
   ·have HR:Hid (rk=M):=by have:=HM3534.out; rw [sqE_n h] at this; exact this
    clear HM3534;go_wp2_with fail
    exact ⟨rfl,.bad hx3537 HR.out.symm h⟩
   subst h;have hm:=HM3534.out;rw [sqE_0] at hm;have HM3546:Hid _:=hm;clear hm HM3534;go_wp2_with fail
   go_end0
   exact .ok hx3537 HM3546.out.symm
  have b1:(x.kind == 1)=false:=by simpa using e1
  by_cases e3:x.kind=3
  ·have b3:(x.kind == 3)=true:=by simpa using e3
   have hm:=HMc.out;rw [kindS,if_neg e1,if_pos e3] at hm;have HMk:Hid _:=hm;clear hm HMc e1 e3;have k4530:wc.cell? ⟨w.heap.size,0,none⟩=some (.int .i64 at_):=cell_of (i:=0) QC2022 rfl;have k4531:wc.cell? ⟨w.heap.size+1,0,none⟩=some (.int .i64 x.kind):=cell_of (i:=0) QX2023 rfl;have k4532:wc.cell? ⟨w.heap.size+1,7,none⟩=some (.slice a2 x.rows.length c2):=cell_of (i:=7) QX2023 rfl;have con4533:=crows_at x.rows a2 c2 (fun _=>True) at_ wc HK2028.out.ls;have hm:=HMk.out;generalize rowsC x.rows=rk at hm con4533;have HM4534:Hid _:=hm;clear hm HMk;go_wp2_with fail
   refine con4533.mono ?_;rintro e w4535 ⟨hb4536,hW⟩;clear con4533 k4530 k4531 k4532;have hx4537:Below w.heap.size w w4535:=chain hx2021 hb4536;have QC4538:=(hb4536.block _ (lt_of_heap QC2022)).trans QC2022;have QX4539:=(hb4536.block _ (lt_of_heap QX2023)).trans QX2023;have HK4540:Hid ((EnL En2 2) (fun _=>True) w4535 x.cols [.slice a1 x.cols.length c1]):=(enL en2 2).next (Keeps'.of hb4536) HK2024.out;have HK4541:Hid ((EnL En21 21) (fun _=>True) w4535 x.query.parts [.slice p1 x.query.parts.length d1]):=(enL en21 21).next (Keeps'.of hb4536) HK2025.out
   have HK4542:Hid ((EnL EnI 1) (fun _=>True) w4535 x.query.ops [.slice p2 x.query.ops.length d2]):=(enL enI 1).next (Keeps'.of hb4536) HK2026.out;have HK4543:Hid ((EnL En7 7) (fun _=>True) w4535 x.query.order [.slice p3 x.query.order.length d3]):=(enL en7 7).next (Keeps'.of hb4536) HK2027.out;have HK4544:Hid ((EnL (EnL En3 3) 1) (fun _=>True) w4535 x.rows [.slice a2 x.rows.length c2]):=(enL (enL en3 3) 1).next (Keeps'.of hb4536) HK2028.out
   have HK4545:Hid (En7 (fun _=>True) w4535 x.wher [.int .i64 x.wher.k,.int .i64 x.wher.v.1,.int .i64 x.wher.v.2.1,.string x.wher.v.2.2,.string x.wher.tab,.string x.wher.name,.slice a3 x.wher.ks.length c3]):=en7.next (Keeps'.of hb4536) HK2029.out;rcases hW with ⟨h,rfl⟩ | ⟨h,rfl⟩
   rotate_left
   ·have HR:Hid (rk=M):=by have:=HM4534.out; rw [sqE_n h] at this; exact this
    clear HM4534;go_wp2_with fail
    exact ⟨rfl,.bad hx4537 HR.out.symm h⟩
   subst h;have hm:=HM4534.out;rw [sqE_0] at hm;have HM4546:Hid _:=hm;clear hm HM4534;go_wp2_with fail
   go_end0
   exact .ok hx4537 HM4546.out.symm
  have b3:(x.kind == 3)=false:=by simpa using e3
  by_cases e4:x.kind=4
  ·have b4:(x.kind == 4)=true:=by simpa using e4
   have hm:=HMc.out;rw [kindS,if_neg e1,if_neg e3,if_pos e4] at hm;have HMk:Hid _:=hm;clear hm HMc e1 e3 e4;have k5530:wc.cell? ⟨w.heap.size,0,none⟩=some (.int .i64 at_):=cell_of (i:=0) QC2022 rfl;have k5531:wc.cell? ⟨w.heap.size+1,0,none⟩=some (.int .i64 x.kind):=cell_of (i:=0) QX2023 rfl;have k5532:wc.cell? ⟨w.heap.size+1,8,none⟩=some (.bool x.hasWhere):=cell_of (i:=8) QX2023 rfl;have k5533:wc.cell? ⟨w.heap.size+1,9,none⟩=some (.int .i64 x.wher.k):=cell_of (i:=9) QX2023 rfl;have k5534:wc.cell? ⟨w.heap.size+1,10,none⟩=some (.int .i64 x.wher.v.1):=cell_of (i:=10) QX2023 rfl
   have k5535:wc.cell? ⟨w.heap.size+1,11,none⟩=some (.int .i64 x.wher.v.2.1):=cell_of (i:=11) QX2023 rfl;have k5536:wc.cell? ⟨w.heap.size+1,12,none⟩=some (.string x.wher.v.2.2):=cell_of (i:=12) QX2023 rfl;have k5537:wc.cell? ⟨w.heap.size+1,13,none⟩=some (.string x.wher.tab):=cell_of (i:=13) QX2023 rfl;have k5538:wc.cell? ⟨w.heap.size+1,14,none⟩=some (.string x.wher.name):=cell_of (i:=14) QX2023 rfl;have k5539:wc.cell? ⟨w.heap.size+1,15,none⟩=some (.slice a3 x.wher.ks.length c3):=cell_of (i:=15) QX2023 rfl;have con5540:=cexprIf_at x.hasWhere x.wher at_ a3 c3 (fun _=>True) wc HK2029.out.ks
   have hm:=HMk.out;generalize exprIfC x.hasWhere x.wher=rk at hm con5540;have HM5541:Hid _:=hm;clear hm HMk;go_wp2_with fail
   refine con5540.mono ?_;rintro e w5542 ⟨hb5543,hW⟩;clear con5540 k5530 k5531 k5532 k5533 k5534 k5535 k5536 k5537 k5538 k5539;have hx5544:Below w.heap.size w w5542:=chain hx2021 hb5543;have QC5545:=(hb5543.block _ (lt_of_heap QC2022)).trans QC2022;have QX5546:=(hb5543.block _ (lt_of_heap QX2023)).trans QX2023;have HK5547:Hid ((EnL En2 2) (fun _=>True) w5542 x.cols [.slice a1 x.cols.length c1]):=(enL en2 2).next (Keeps'.of hb5543) HK2024.out;have HK5548:Hid ((EnL En21 21) (fun _=>True) w5542 x.query.parts [.slice p1 x.query.parts.length d1]):=(enL en21 21).next (Keeps'.of hb5543) HK2025.out
   have HK5549:Hid ((EnL EnI 1) (fun _=>True) w5542 x.query.ops [.slice p2 x.query.ops.length d2]):=(enL enI 1).next (Keeps'.of hb5543) HK2026.out;have HK5550:Hid ((EnL En7 7) (fun _=>True) w5542 x.query.order [.slice p3 x.query.order.length d3]):=(enL en7 7).next (Keeps'.of hb5543) HK2027.out;have HK5551:Hid ((EnL (EnL En3 3) 1) (fun _=>True) w5542 x.rows [.slice a2 x.rows.length c2]):=(enL (enL en3 3) 1).next (Keeps'.of hb5543) HK2028.out
   have HK5552:Hid (En7 (fun _=>True) w5542 x.wher [.int .i64 x.wher.k,.int .i64 x.wher.v.1,.int .i64 x.wher.v.2.1,.string x.wher.v.2.2,.string x.wher.tab,.string x.wher.name,.slice a3 x.wher.ks.length c3]):=en7.next (Keeps'.of hb5543) HK2029.out;rcases hW with ⟨h,rfl⟩ | ⟨h,rfl⟩
   rotate_left
   ·have HR:Hid (rk=M):=by have:=HM5541.out; rw [sqE_n h] at this; exact this
    clear HM5541;go_wp2_with fail
    exact ⟨rfl,.bad hx5544 HR.out.symm h⟩
   subst h;have hm:=HM5541.out;rw [sqE_0] at hm;have HM5553:Hid _:=hm;clear hm HM5541;go_wp2_with fail
   go_end0
   exact .ok hx5544 HM5553.out.symm
  have b4:(x.kind == 4)=false:=by simpa using e4
  have hm:=HMc.out;rw [kindS,if_neg e1,if_neg e3,if_neg e4] at hm;have HMk:Hid _:=hm;clear hm HMc e1 e3 e4;have k5030:wc.cell? ⟨w.heap.size,0,none⟩=some (.int .i64 at_):=cell_of (i:=0) QC2022 rfl;have k5031:wc.cell? ⟨w.heap.size+1,0,none⟩=some (.int .i64 x.kind):=cell_of (i:=0) QX2023 rfl;have k5032:wc.cell? ⟨w.heap.size+1,3,none⟩=some (.slice p1 x.query.parts.length d1):=cell_of (i:=3) QX2023 rfl;have k5033:wc.cell? ⟨w.heap.size+1,4,none⟩=some (.slice p2 x.query.ops.length d2):=cell_of (i:=4) QX2023 rfl
  have k5034:wc.cell? ⟨w.heap.size+1,5,none⟩=some (.slice p3 x.query.order.length d3):=cell_of (i:=5) QX2023 rfl;have k5035:wc.cell? ⟨w.heap.size+1,6,none⟩=some (.int .i64 x.query.limit):=cell_of (i:=6) QX2023 rfl;have con5036:=cquery_at x.query p1 p2 p3 d1 d2 d3 (fun _=>True) at_ wc HK2025.out.ls HK2026.out.ls HK2027.out.ls;have hm:=HMk.out;generalize qryC x.query=rk at hm con5036;have HM5037:Hid _:=hm;clear hm HMk;go_wp2_with fail
  refine con5036.mono ?_;rintro e w5038 ⟨hb5039,hW⟩;clear con5036 k5030 k5031 k5032 k5033 k5034 k5035;have hx5040:Below w.heap.size w w5038:=chain hx2021 hb5039;have QC5041:=(hb5039.block _ (lt_of_heap QC2022)).trans QC2022;have QX5042:=(hb5039.block _ (lt_of_heap QX2023)).trans QX2023;have HK5043:Hid ((EnL En2 2) (fun _=>True) w5038 x.cols [.slice a1 x.cols.length c1]):=(enL en2 2).next (Keeps'.of hb5039) HK2024.out;have HK5044:Hid ((EnL En21 21) (fun _=>True) w5038 x.query.parts [.slice p1 x.query.parts.length d1]):=(enL en21 21).next (Keeps'.of hb5039) HK2025.out
  have HK5045:Hid ((EnL EnI 1) (fun _=>True) w5038 x.query.ops [.slice p2 x.query.ops.length d2]):=(enL enI 1).next (Keeps'.of hb5039) HK2026.out;have HK5046:Hid ((EnL En7 7) (fun _=>True) w5038 x.query.order [.slice p3 x.query.order.length d3]):=(enL en7 7).next (Keeps'.of hb5039) HK2027.out;have HK5047:Hid ((EnL (EnL En3 3) 1) (fun _=>True) w5038 x.rows [.slice a2 x.rows.length c2]):=(enL (enL en3 3) 1).next (Keeps'.of hb5039) HK2028.out
  have HK5048:Hid (En7 (fun _=>True) w5038 x.wher [.int .i64 x.wher.k,.int .i64 x.wher.v.1,.int .i64 x.wher.v.2.1,.string x.wher.v.2.2,.string x.wher.tab,.string x.wher.name,.slice a3 x.wher.ks.length c3]):=en7.next (Keeps'.of hb5039) HK2029.out;rcases hW with ⟨h,rfl⟩ | ⟨h,rfl⟩
  rotate_left
  ·have HR:Hid (rk=M):=by have:=HM5037.out; rw [sqE_n h] at this; exact this
   clear HM5037;go_wp2_with fail
   exact ⟨rfl,.bad hx5040 HR.out.symm h⟩
  subst h;have hm:=HM5037.out;rw [sqE_0] at hm;have HM5049:Hid _:=hm;clear hm HM5037;go_wp2_with fail
  go_end0
  exact .ok hx5040 HM5049.out.symm

theorem En16.kst {S:Nat→Prop} {W:World} {x:Stm} {a1 p1 p2 p3 a2 a3:Option Addr} {c1 d1 d2 d3 c2 c3:Nat} (h:En16 S W x [.int .i64 x.kind,.string x.name,.slice a1 x.cols.length c1,.slice p1 x.query.parts.length d1,.slice p2 x.query.ops.length d2,.slice p3 x.query.order.length d3,.int .i64 x.query.limit,.slice a2 x.rows.length c2,.bool x.hasWhere,.int .i64 x.wher.k,.int .i64 x.wher.v.1,.int .i64 x.wher.v.2.1,.string x.wher.v.2.2,.string x.wher.tab,.string x.wher.name,.slice a3 x.wher.ks.length c3]):LsE En2 2 S W a1 x.cols∧LsE En21 21 S W p1 x.query.parts∧LsE EnI 1 S W p2 x.query.ops∧LsE En7 7 S W p3 x.query.order∧LsE (EnL En3 3) 1 S W a2 x.rows∧SsS S W a3 x.wher.ks:=by
 obtain ⟨b1,e1,b2,e2,b3,e3,b4,e4,b5,e5,b6,e6,e,h1,h2,h3,h4,h5,h6⟩:=h;simp only [List.cons.injEq,Value.slice.injEq] at e;obtain ⟨_,_,⟨rfl,_⟩,⟨rfl,_⟩,⟨rfl,_⟩,⟨rfl,_⟩,_,⟨rfl,_⟩,_,_,_,_,_,_,_,⟨rfl,_⟩,_⟩:=e;exact ⟨h1,h2,h3,h4,h5,h6⟩
def allC:List Stm→Int→Er
 | [],_=>(0,0)
 | x :: r,i=>if stmC x=0 then allC r (i+1) else (stmC x,i)
def wrongC (l:List Stm):Er:=if cntC l.length 0 60=0 then allC l 0 else (5,0)
def WEnds (w:World) (r:Er) (e:Ending) (w':World):Prop:=Below w.heap.size w w'∧((r.1=0∧e = .returned (.tuple #[]))∨(r.1≠0∧e = .panicked [thrV r.1 r.2]))
theorem cnt_5 {n least most:Int} (h:cntC n least most≠0):cntC n least most=5:=by
 unfold cntC at h ⊢
 split at h
 ·exact absurd rfl h
 ·rename_i hc; rw [if_neg hc]
theorem wrong1_at (l:List Stm) (a:Option Addr) (c:Nat) (S:Nat→Prop) (w:World) (L:Nat) (QL:w.heap[L]? = some (.cells #[.slice a l.length c] 22 (0,0))) (hks:LsE En16 16 S w a l):Calls Tryz.prog 36 #[.pointer (some ⟨L,0,none⟩)] w (WEnds w (wrongC l)):=by
 have HK0:Hid (LsE En16 16 (fun _=>True) w a l):=hks.mono en16 (fun _ _ _=>trivial);have con:=count_at l.length 0 60 0 w;have l0:w.cell? ⟨L,0,none⟩=some (.slice a l.length c):=cell_of (i:=0) QL rfl;generalize hM:wrongC l=M;rw [wrongC] at hM;obtain ⟨rk,hrk⟩:∃ r,cntC l.length 0 60=r:=⟨_,rfl⟩
 have HRK:Hid (cntC l.length 0 60=rk):=hrk;rw [hrk] at con hM;have HM:Hid _:=hM;clear hM hrk hks;go_enter Tryz.func36,Tryz.ntmps36;go_wp2_with fail
 refine con.mono ?_;rintro e w1 ⟨hb1,⟨h,rfl⟩ | ⟨h,rfl⟩⟩;rotate_left
 ·have h5:rk=5:=by rw [← HRK.out]; exact cnt_5 (by rw [HRK.out]; exact h)
  have HR:Hid (M=(5,0)):=by show _=_; rw [← HM.out,if_neg h]
  subst h5;clear HM HRK;go_wp2_with fail
  exact ⟨rfl,hb1,.inr ⟨by rw [HR.out]; decide,by rw [HR.out]⟩⟩
 subst h;have hcn:=cnt_le HRK.out;have hm:=HM.out;rw [if_pos rfl] at hm;have HS:Hid (allC (l.drop 0) ((0:Nat):Int)=M):=hm;have QL1:=(hb1.block _ (lt_of_heap QL)).trans QL;have HK1:Hid (LsE En16 16 (fun _=>True) w1 a l):=HK0.out.keep en16 (Keeps'.of hb1);have l1:w1.cell? ⟨L,0,none⟩=some (.slice a l.length c):=cell_of (i:=0) QL1 rfl;clear HM hm HRK con l0 HK0;go_wp2_with fail
 clear l1;go_loopw [9] (fun jv wr=>∃ j:Nat,j≤l.length∧jv = .int .i64 j∧Hid (allC (l.drop j) (j:Int)=M)∧Below w1.heap.size w1 wr) (fun jv _=>l.length - (RowKit.intOf jv).toNat)
 case atStart=>exact ⟨0,by omega,rfl,HS,Below.refl _ _⟩
 case round =>
  clear HS;obtain ⟨j,hj,rfl,HL,hbr⟩:=hrel;have hxr:=chain hb1 hbr;have hL:=HL.out;by_cases hlt:j<l.length
  ·have hjz:(j:Int)<(l.length:Int):=by omega
   rw [List.drop_eq_getElem_cons hlt,allC] at hL;obtain ⟨bl,off,cs,rfl,hbl,hcl,hce,a1,c1,p1,d1,p2,d2,p3,d3,a2,c2,a3,c3,rfl,k1,k2,k3,k4,k5,k6⟩:=(HK1.out.keep en16 (Keeps'.of hbr)).elem hlt
   have hrg:wr.rangeAt bl (off+j*16) [.int .i64 l[j].kind,.string l[j].name,.slice a1 l[j].cols.length c1,.slice p1 l[j].query.parts.length d1,.slice p2 l[j].query.ops.length d2,.slice p3 l[j].query.order.length d3,.int .i64 l[j].query.limit,.slice a2 l[j].rows.length c2,.bool l[j].hasWhere,.int .i64 l[j].wher.k,.int .i64 l[j].wher.v.1,.int .i64 l[j].wher.v.2.1,.string l[j].wher.v.2.2,.string l[j].wher.tab,.string l[j].wher.name,.slice a3 l[j].wher.ks.length c3]:=fun i u hu=>hce i u hu
   have halY:Below wr.heap.size wr (wr.alloc (.cells #[.int .i64 l[j].kind,.string l[j].name,.slice a1 l[j].cols.length c1,.slice p1 l[j].query.parts.length d1,.slice p2 l[j].query.ops.length d2,.slice p3 l[j].query.order.length d3,.int .i64 l[j].query.limit,.slice a2 l[j].rows.length c2,.bool l[j].hasWhere,.int .i64 l[j].wher.k,.int .i64 l[j].wher.v.1,.int .i64 l[j].wher.v.2.1,.string l[j].wher.v.2.2,.string l[j].wher.tab,.string l[j].wher.name,.slice a3 l[j].wher.ks.length c3] 57)):=(Below.refl _ _).alloc (Nat.le_refl _) _
   have QY:=heap_new wr #[.int .i64 l[j].kind,.string l[j].name,.slice a1 l[j].cols.length c1,.slice p1 l[j].query.parts.length d1,.slice p2 l[j].query.ops.length d2,.slice p3 l[j].query.order.length d3,.int .i64 l[j].query.limit,.slice a2 l[j].rows.length c2,.bool l[j].hasWhere,.int .i64 l[j].wher.k,.int .i64 l[j].wher.v.1,.int .i64 l[j].wher.v.2.1,.string l[j].wher.v.2.2,.string l[j].wher.tab,.string l[j].wher.name,.slice a3 l[j].wher.ks.length c3] 57
   have HKy:Hid (En16 (fun _=>True) (wr.alloc (.cells #[.int .i64 l[j].kind,.string l[j].name,.slice a1 l[j].cols.length c1,.slice p1 l[j].query.parts.length d1,.slice p2 l[j].query.ops.length d2,.slice p3 l[j].query.order.length d3,.int .i64 l[j].query.limit,.slice a2 l[j].rows.length c2,.bool l[j].hasWhere,.int .i64 l[j].wher.k,.int .i64 l[j].wher.v.1,.int .i64 l[j].wher.v.2.1,.string l[j].wher.v.2.2,.string l[j].wher.tab,.string l[j].wher.name,.slice a3 l[j].wher.ks.length c3] 57)) l[j] [.int .i64 l[j].kind,.string l[j].name,.slice a1 l[j].cols.length c1,.slice p1 l[j].query.parts.length d1,.slice p2 l[j].query.ops.length d2,.slice p3 l[j].query.order.length d3,.int .i64 l[j].query.limit,.slice a2 l[j].rows.length c2,.bool l[j].hasWhere,.int .i64 l[j].wher.k,.int .i64 l[j].wher.v.1,.int .i64 l[j].wher.v.2.1,.string l[j].wher.v.2.2,.string l[j].wher.tab,.string l[j].wher.name,.slice a3 l[j].wher.ks.length c3]):=en16.next (Keeps'.of halY) ⟨a1,c1,p1,d1,p2,d2,p3,d3,a2,c2,a3,c3,rfl,k1,k2,k3,k4,k5,k6⟩
   have HM2:Hid _:=hL;clear HL hL hce hcl k1 k2 k3 k4 k5 k6;generalize l[j]=y at *
   go_upto_region 4 with (first | (refine wpList_load_mid rfl 57 _ rfl bl (off+j*16) rfl #[.int .i64 y.kind,.string y.name,.slice a1 y.cols.length c1,.slice p1 y.query.parts.length d1,.slice p2 y.query.ops.length d2,.slice p3 y.query.order.length d3,.int .i64 y.query.limit,.slice a2 y.rows.length c2,.bool y.hasWhere,.int .i64 y.wher.k,.int .i64 y.wher.v.1,.int .i64 y.wher.v.2.1,.string y.wher.v.2.2,.string y.wher.tab,.string y.wher.name,.slice a3 y.wher.ks.length c3].toList _ hrg Tryz.underlying57 rfl sz16 ?_) | (refine wpList_store_new rfl 57 _ _ rfl z16A #[.int .i64 y.kind,.string y.name,.slice a1 y.cols.length c1,.slice p1 y.query.parts.length d1,.slice p2 y.query.ops.length d2,.slice p3 y.query.order.length d3,.int .i64 y.query.limit,.slice a2 y.rows.length c2,.bool y.hasWhere,.int .i64 y.wher.k,.int .i64 y.wher.v.1,.int .i64 y.wher.v.2.1,.string y.wher.v.2.2,.string y.wher.tab,.string y.wher.name,.slice a3 y.wher.ks.length c3] rfl rfl sz16 rfl (all1 rfl) ?_))
   generalize wr.alloc (.cells #[.int .i64 y.kind,.string y.name,.slice a1 y.cols.length c1,.slice p1 y.query.parts.length d1,.slice p2 y.query.ops.length d2,.slice p3 y.query.order.length d3,.int .i64 y.query.limit,.slice a2 y.rows.length c2,.bool y.hasWhere,.int .i64 y.wher.k,.int .i64 y.wher.v.1,.int .i64 y.wher.v.2.1,.string y.wher.v.2.2,.string y.wher.tab,.string y.wher.name,.slice a3 y.wher.ks.length c3] 57)=wa at *;obtain ⟨k1,k2,k3,k4,k5,k6⟩:=En16.kst HKy.out;have con:=cstatement_at y a1 p1 p2 p3 a2 a3 c1 d1 d2 d3 c2 c3 (fun _=>True) (j:Int) wa k1 k2 k3 k4 k5 k6;have hm:=HM2.out
   generalize stmC y=r at hm con;have HM3:Hid _:=hm;clear hm HM2 k1 k2 k3 k4 k5 k6 HKy hrg;go_wp2_with (first | (refine wpList_load_row rfl 57 _ rfl wr.heap.size rfl 57 #[.int .i64 y.kind,.string y.name,.slice a1 y.cols.length c1,.slice p1 y.query.parts.length d1,.slice p2 y.query.ops.length d2,.slice p3 y.query.order.length d3,.int .i64 y.query.limit,.slice a2 y.rows.length c2,.bool y.hasWhere,.int .i64 y.wher.k,.int .i64 y.wher.v.1,.int .i64 y.wher.v.2.1,.string y.wher.v.2.2,.string y.wher.tab,.string y.wher.name,.slice a3 y.wher.ks.length c3] (0,0) _ QY Tryz.underlying57 rfl sz16 ?_))
   refine con.mono ?_;rintro e wb ⟨hbb,⟨h,rfl⟩ | ⟨h,rfl⟩⟩
   ·have HL3:Hid (allC (l.drop (j+1)) ((j+1:Nat):Int)=M):=by have:=HM3.out; rw [if_pos h] at this; exact this
    clear HM3 con;go_wp2_with fail
    go_roundw
    case rel=>exact ⟨j+1,by omega,by go_num,HL3,chain hbr (chain halY hbb)⟩
    case measure=>simp [RowKit.intOf]; omega
   ·have HR:Hid (M=(r,(j:Int))):=by have:=HM3.out; rw [if_neg h] at this; exact this.symm
    clear HM3 con;go_wp2_with fail
    exact ⟨rfl,chain hxr (chain halY hbb),.inr ⟨by rw [HR.out]; exact h,by rw [HR.out]⟩⟩
  ·have hjz:¬ (j:Int)<(l.length:Int):=by omega
   have e:M=(0,0):=by rw [← hL,List.drop_eq_nil_of_le (by omega)]; rfl
   have E:Hid (M=(0,0)):=e;clear HL hL e;go_wp2_with fail
   go_end0
   exact ⟨hxr,.inl ⟨by rw [E.out],rfl⟩⟩

theorem thr_yes (W:World) (v:Value):(Instr.typeAssert (.iface 115 v) 20 115 true).run Tryz.prog W = .ok (.tuple #[v,.bool true]) W:=by kernel_rfl
theorem catch_p (fb:Nat) (e a:Int) (w:World) (Q:w.heap[fb]? = some (.cells #[.int .i64 0,.int .i64 0] 27 (0,0))) :
  CallsD Tryz.prog 64 #[.pointer (some ⟨fb,0,none⟩)] (.panicking [thrV e a]) w fun x u' w'=>x = .returned (.tuple #[])∧u' = .panicking [{ v:=.iface 115 (.agg #[.int .i64 e,.int .i64 a]),recovered:=true }]∧w'=((w.alloc (.cells #[.int .i64 e,.int .i64 a] 115)).setCell ⟨fb,0,none⟩ (.int .i64 e)).setCell ⟨fb,1,none⟩ (.int .i64 a):=by
 have hf:=lt_of_heap Q;have hal:Below w.heap.size w (w.alloc (.cells #[.int .i64 e,.int .i64 a] 115)):=(Below.refl _ _).alloc (Nat.le_refl _) _;have Q1:=(hal.block _ hf).trans Q;have c0:(w.alloc (.cells #[.int .i64 e,.int .i64 a] 115)).cell? ⟨fb,0,none⟩=some (.int .i64 0):=cell_of (i:=0) Q1 rfl;have c1:(w.alloc (.cells #[.int .i64 e,.int .i64 a] 115)).cell? ⟨fb,1,none⟩=some (.int .i64 0):=cell_of (i:=1) Q1 rfl;have f0:=frozen_of_row _ fb 0 _ _ Q1;have f1:=frozen_of_row _ fb 1 _ _ Q1;refine callsD_of_wpS Tryz.func64 rfl fun c₀ cs hu=>?_
 apply wpS_seq;apply wpS_region;simp [wpOpsS,go_sem,recoverD,hu,thrV,Tryz.ntmps64,Exit.thenS];have hta:∀ W:World,(Instr.typeAssert (.iface 115 (.agg #[.int .i64 e,.int .i64 a])) 20 115 true).run Tryz.prog W = .ok (.tuple #[.agg #[.int .i64 e,.int .i64 a],.bool true]) W:=fun W=>thr_yes W _
 apply wpS_seq;apply wpS_region;simp [wpOpsS,go_sem,hta,Exit.thenS];have q0:=heap_new w #[.int .i64 e,.int .i64 a] 115;clear hta;generalize w.alloc (.cells #[.int .i64 e,.int .i64 a] 115)=w1 at *;have d0:w1.cell? ⟨w.heap.size,0,none⟩=some (.int .i64 e):=cell_of (i:=0) q0 rfl;have d1:w1.cell? ⟨w.heap.size,1,none⟩=some (.int .i64 a):=cell_of (i:=1) q0 rfl;apply wpS_seq;apply wpS_region;simp [wpOpsS,go_sem,Exit.thenS];refine wpS_cond (t:=true) (by simp [Act.eval]) ?_;simp only [if_true];refine wpS_of_wp ?_
 refine Code.wp_mono (Q:=fun ex a' w'=>ex = .normal∧a'.defers = []∧w'=(w1.setCell ⟨fb,0,none⟩ (.int .i64 e)).setCell ⟨fb,1,none⟩ (.int .i64 a)) ?_ ?_
 ·rintro ex a' w' ⟨rfl,hd,rfl⟩;cases c₀
  simp_all [bodyPostS,results,Tryz.results64]
 ·clear hu;go_wp2_with fail
theorem no_yes (W:World):(Instr.typeAssert .nilIface 20 115 true).run Tryz.prog W = .ok (.tuple #[.agg #[.int .i64 0,.int .i64 0],.bool false]) W:=by kernel_rfl
theorem no_if (W:World):(binOp BinOp.neq 20 .nilIface .nilIface).run Tryz.prog W = .ok (.bool false) W:=by kernel_rfl
theorem catch_i (fb:Nat) (w:World):CallsD Tryz.prog 64 #[.pointer (some ⟨fb,0,none⟩)] .returning w fun x u' w'=>x = .returned (.tuple #[])∧u' = .returning∧w'=w.alloc (.cells #[.int .i64 0,.int .i64 0] 115):=by
 refine callsD_of_wpS Tryz.func64 rfl fun c₀ cs hu=>?_
 apply wpS_seq;apply wpS_region;simp [wpOpsS,go_sem,recoverD,hu,Tryz.ntmps64,Exit.thenS];apply wpS_seq;apply wpS_region;simp [wpOpsS,go_sem,no_yes,Exit.thenS];apply wpS_seq;apply wpS_region;simp [wpOpsS,go_sem,Exit.thenS];refine wpS_cond (t:=false) (by simp [Act.eval]) ?_;simp only [Bool.false_eq_true,if_false];apply wpS_seq;apply wpS_region;simp [wpOpsS,go_sem,Exit.thenS,no_if];refine wpS_cond (t:=false) (by simp [Act.eval]) ?_;simp only [Bool.false_eq_true,if_false];refine wpS_of_wp (wp_skip ?_);cases c₀
 simp_all [bodyPostS,results,Tryz.results64]
theorem wrong_fix {r:Er} {l:List Stm} (h:wrongC l=r) (h0:r.1=0):r=(0,0):=by
 have:∀ (l:List Stm) (i:Int),(allC l i).1=0→allC l i=(0,0):=by
  intro l
  induction l with
  | nil=>intro i _; rfl
  | cons x t ih =>
   intro i hh;rw [allC] at hh ⊢
   split
   ·rename_i hc; rw [if_pos hc] at hh; exact ih _ hh
   ·rename_i hc; rw [if_neg hc] at hh; exact absurd hh hc
 subst h;unfold wrongC at h0 ⊢
 split
 ·rename_i hc; rw [if_pos hc] at h0; exact this _ _ h0
 ·rename_i hc; rw [if_neg hc] at h0; cases h0
theorem caught_w (l:List Stm) (a:Option Addr) (c:Nat) (S:Nat→Prop) (w:World) (L:Nat) (QL:w.heap[L]? = some (.cells #[.slice a l.length c] 22 (0,0))) (hks:LsE En16 16 S w a l):Calls Tryz.prog 33 #[.func (.func 36) #[] #[.pointer (some ⟨L,0,none⟩)]] w fun e w'=>e = .returned (.agg #[.int .i64 (wrongC l).1,.int .i64 (wrongC l).2])∧Below w.heap.size w w':=by
 have hmf:∀ (fn:Fn) (first cap:Array Value) (w:World),(Instr.makeFunc fn first cap).run Tryz.prog w = .ok (.func fn first cap) w:=fun _ _ _ _=>rfl
 have hal:Below w.heap.size w (w.alloc (.cells #[.int .i64 0,.int .i64 0] 27)):=(Below.refl _ _).alloc (Nat.le_refl _) _;have QF:=heap_new w #[.int .i64 0,.int .i64 0] 27;have con:=wrong1_at l a c (fun _=>True) (w.alloc (.cells #[.int .i64 0,.int .i64 0] 27)) L ((hal.block _ (lt_of_heap QL)).trans QL) ((hks.mono en16 (fun _ _ _=>trivial)).keep en16 (Keeps'.of hal));generalize hr:wrongC l=r at *;have HR:Hid (wrongC l=r):=hr;clear hr hks QL;go_enter_defers Tryz.func33,Tryz.ntmps33
 go_upto_region 1 with fail
 generalize w.alloc (.cells #[.int .i64 0,.int .i64 0] 27)=w1 at *;go_wp2_with fail
 refine con.mono ?_;rintro e w2 ⟨hb2,⟨h,rfl⟩ | ⟨h,rfl⟩⟩
 ·have e0:r=(0,0):=wrong_fix HR.out h;have QF2:=(hb2.block _ (lt_of_heap QF)).trans QF;have c0:w2.cell? ⟨w.heap.size,0,none⟩=some (.int .i64 0):=cell_of (i:=0) QF2 rfl;have c1:w2.cell? ⟨w.heap.size,1,none⟩=some (.int .i64 0):=cell_of (i:=1) QF2 rfl;have f0:=frozen_of_row w2 w.heap.size 0 _ _ QF2;have f1:=frozen_of_row w2 w.heap.size 1 _ _ QF2;have E:Hid (r=(0,0)):=e0;clear con e0 h;go_wp2_with fail
  have QE:=st2_heap QF2 (.int .i64 0) (.int .i64 0);have hbE:=st2_b (chain hal hb2) (Nat.le_refl _) (.int .i64 0) (.int .i64 0);generalize ((w2.setCell ⟨w.heap.size,0,none⟩ (.int .i64 0)).setCell ⟨w.heap.size,1,none⟩ (.int .i64 0))=w3 at *;refine leaves_cons (f:=64) (args:=#[.pointer (some ⟨w.heap.size,0,none⟩)]) (by simp) (by simp [go_sem]) ?_;refine (catch_i w.heap.size w3).mono ?_;rintro e u' w4 ⟨rfl,rfl,rfl⟩;have hal4:Below w3.heap.size w3 (w3.alloc (.cells #[.int .i64 0,.int .i64 0] 115)):=(Below.refl _ _).alloc (Nat.le_refl _) _;have QE4:=(hal4.block _ (lt_of_heap QE)).trans QE
  generalize w3.alloc (.cells #[.int .i64 0,.int .i64 0] 115)=w4 at *;have x0:w4.cell? ⟨w.heap.size,0,none⟩=some (.int .i64 0):=cell_of (i:=0) QE4 rfl;have x1:w4.cell? ⟨w.heap.size,1,none⟩=some (.int .i64 0):=cell_of (i:=1) QE4 rfl;show Leaves Tryz.prog Tryz.f33 _ _ [] _ _;refine ⟨.agg #[.int .i64 0,.int .i64 0],by simp [results,Tryz.results33,go_sem,x0,x1],by rw [E.out],chain hbE hal4⟩
 ·have QF2:=(hb2.block _ (lt_of_heap QF)).trans QF;have dcon:=catch_p w.heap.size r.1 r.2 w2 QF2;clear con h;go_wp2_with fail
  refine leaves_cons (f:=64) (args:=#[.pointer (some ⟨w.heap.size,0,none⟩)]) (by simp) (by simp [go_sem]) ?_;refine dcon.mono ?_;rintro e u' w4 ⟨rfl,rfl,rfl⟩;have hal4:Below w2.heap.size w2 (w2.alloc (.cells #[.int .i64 r.1,.int .i64 r.2] 115)):=(Below.refl _ _).alloc (Nat.le_refl _) _;have QE:=st2_heap ((hal4.block _ (lt_of_heap QF2)).trans QF2) (.int .i64 r.1) (.int .i64 r.2);have hbE:=st2_b (chain hal (chain hb2 hal4)) (Nat.le_refl _) (.int .i64 r.1) (.int .i64 r.2)
  generalize ((w2.alloc (.cells #[.int .i64 r.1,.int .i64 r.2] 115)).setCell ⟨w.heap.size,0,none⟩ (.int .i64 r.1)).setCell ⟨w.heap.size,1,none⟩ (.int .i64 r.2)=w4 at *;have x0:w4.cell? ⟨w.heap.size,0,none⟩=some (.int .i64 r.1):=cell_of (i:=0) QE rfl;have x1:w4.cell? ⟨w.heap.size,1,none⟩=some (.int .i64 r.2):=cell_of (i:=1) QE rfl;simp [Leaves,settle,results,Tryz.results33,go_sem,x0,x1];exact hbE

theorem wrongL_at (l:List Stm) (a:Option Addr) (c:Nat) (S:Nat→Prop) (w:World) (hks:LsE En16 16 S w a l):Calls Tryz.prog 18 #[.slice a l.length c] w fun e w'=>e = .returned (.agg #[.int .i64 (wrongC l).1,.int .i64 (wrongC l).2])∧Below w.heap.size w w':=by
 have hmf:∀ (fn:Fn) (first cap:Array Value) (w:World),(Instr.makeFunc fn first cap).run Tryz.prog w = .ok (.func fn first cap) w:=fun _ _ _ _=>rfl
 have hal1:Below w.heap.size w (w.alloc (.cells #[.slice a l.length c] 22)):=(Below.refl _ _).alloc (Nat.le_refl _) _;have hal2:Below (w.alloc (.cells #[.slice a l.length c] 22)).heap.size (w.alloc (.cells #[.slice a l.length c] 22)) ((w.alloc (.cells #[.slice a l.length c] 22)).alloc (.cells #[.int .i64 0,.int .i64 0] 27)):=(Below.refl _ _).alloc (Nat.le_refl _) _;have QL:=(hal2.block _ (lt_of_heap (heap_new w #[.slice a l.length c] 22))).trans (heap_new w #[.slice a l.length c] 22)
 have QF:((w.alloc (.cells #[.slice a l.length c] 22)).alloc (.cells #[.int .i64 0,.int .i64 0] 27)).heap[w.heap.size+1]? = some (.cells #[.int .i64 0,.int .i64 0] 27 (0,0)):=by
  rw [show w.heap.size+1=(w.alloc (.cells #[.slice a l.length c] 22)).heap.size by simp];exact heap_new _ _ _
 have hal:=chain hal1 hal2;have con:=caught_w l a c (fun _=>True) _ w.heap.size QL ((hks.mono en16 (fun _ _ _=>trivial)).keep en16 (Keeps'.of hal));generalize wrongC l=r at *;clear hal1 hal2 hks;go_enter Tryz.func18,Tryz.ntmps18;go_upto_region 1 with fail
 generalize (w.alloc (.cells #[.slice a l.length c] 22)).alloc (.cells #[.int .i64 0,.int .i64 0] 27)=w1 at *;go_wp2_with fail
 refine con.mono ?_;rintro e w2 ⟨rfl,hb2⟩;have QF2:=(hb2.block _ (lt_of_heap QF)).trans QF;have c0:w2.cell? ⟨w.heap.size+1,0,none⟩=some (.int .i64 0):=cell_of (i:=0) QF2 rfl;have c1:w2.cell? ⟨w.heap.size+1,1,none⟩=some (.int .i64 0):=cell_of (i:=1) QF2 rfl;have f0:=frozen_of_row w2 (w.heap.size+1) 0 _ _ QF2;have f1:=frozen_of_row w2 (w.heap.size+1) 1 _ _ QF2;clear con;go_wp2_with fail
 have QE:=st2_heap QF2 (.int .i64 r.1) (.int .i64 r.2);have hbE:=st2_b (g:=w.heap.size+1) (chain hal hb2) (by omega) (.int .i64 r.1) (.int .i64 r.2);generalize ((w2.setCell ⟨w.heap.size+1,0,none⟩ (.int .i64 r.1)).setCell ⟨w.heap.size+1,1,none⟩ (.int .i64 r.2))=wE at *;obtain ⟨x0,x1⟩:=cells2 QE;exact bodyPost_ret (v:=.agg #[.int .i64 r.1,.int .i64 r.2]) (by simp [results,Tryz.results18,go_sem,x0,x1]) rfl ⟨rfl,hbE⟩
set_option maxHeartbeats 4000000

theorem span_all (f:Int→Bool):∀ (l:List UInt8),∀ c ∈ l.take (clsN f l),f ((c.toNat:Nat):Int)=true
 | [],c,h=>by simp at h
 | x :: r,c,h=>by
  unfold clsN at h
  rw [List.map_cons,spanL] at h
  split at h
  ·rename_i hx
   rw [List.take_succ_cons] at h
   rcases List.mem_cons.1 h with rfl | h
   ·exact hx
   ·exact span_all f r c h
  ·simp at h
theorem textL_tok {p:Int}:∀ (l:List UInt8) (k:Nat) (out:List UInt8) {t:Tk} {j:Nat},textL p l k out = .ok (t,j)→t.1=3∧t.2.1.size≤60
 | [],k,out,t,j,h=>by rw [textL] at h; cases h
 | [c],k,out,t,j,h=>by
  rw [textL] at h
  split at h
  ·unfold textF at h
   split at h
   ·cases h
   ·injection h with h; injection h with h _; subst h; exact ⟨rfl,by show (subB out).size≤60; rw [subB_size]; omega⟩
  ·cases h
 | c :: d :: r,k,out,t,j,h=>by
  rw [textL] at h
  split at h
  ·split at h
   ·exact textL_tok r (k+2) _ h
   ·unfold textF at h
    split at h
    ·cases h
    ·injection h with h; injection h with h _; subst h; exact ⟨rfl,by show (subB out).size≤60; rw [subB_size]; omega⟩
  ·exact textL_tok (d :: r) (k+1) _ h
theorem signL_tok {l:List UInt8} {p:Int}:∀ (gs:List (List UInt8)),(∀ g ∈ gs,g.length≤2)→∀ {t:Tk} {j:Nat},signL l p gs = .ok (t,j)→t.1=4∧t.2.1.size≤2
 | [],_,t,j,h=>by rw [signL] at h; cases h
 | g :: gs,hg,t,j,h=>by
  rw [signL] at h
  split at h
  ·injection h with h; injection h with h _
   subst h
   exact ⟨rfl,by show (subB g).size≤2; rw [subB_size]; exact hg g (by simp)⟩
  ·exact signL_tok gs (fun g h=>hg g (by simp [h])) h
theorem tok_ok {l:List UInt8} {p:Int} (hl:l ≠ []) (h4:l.length≤4000) {t:Tk} {j:Nat} (h:tokAtL l p = .ok (t,j)):t.1≠5∧TkOk t:=by
 unfold tokAtL at h
 split at h
 ·injection h with h; injection h with h _
  subst h;exact ⟨by show (1:Int)≠5; decide,by show (subB _).size≤4000; rw [subB_size,List.length_take]; omega,fun h=>absurd (show (1:Int)=2 from h) (by decide)⟩
 ·split at h
  ·rename_i hc
   unfold numberL at h
   split at h
   ·cases h
   ·rename_i h16
    injection h with h; injection h with h _
    subst h;have hp:=clsN_pos hl hc;have hle:=clsN_le digB l;refine ⟨by show (2:Int)≠5; decide,by show (subB _).size≤4000; rw [subB_size,List.length_take]; omega,fun _=>⟨by show 1≤(subB _).size; rw [subB_size,List.length_take]; omega,by show (subB _).size≤16; rw [subB_size,List.length_take]; omega,fun c hc=>?_⟩⟩;have hc2:c ∈ l.take (clsN digB l):=by simpa [subB] using hc
    have:=span_all digB l c hc2;simp only [digB,Bool.and_eq_true,decide_eq_true_eq] at this;omega
  ·split at h
   ·obtain ⟨h1,h2⟩:=textL_tok _ _ _ h;exact ⟨by rw [h1]; decide,by omega,fun h=>by rw [h1] at h; cases h⟩
   ·obtain ⟨h1,h2⟩:=signL_tok sigL (by decide) h;exact ⟨by rw [h1]; decide,by omega,fun h=>by rw [h1] at h; cases h⟩
theorem tokG_ok:∀ (n:Nat) (l:List UInt8) (p:Int) {ts:List Tk},l.length≤4000→tokG n l p = .ok ts→Toks ts∧ts.length≤l.length+1
 | 0,l,p,ts,_,h=>by rw [tokG] at h; cases h
 | n+1,l,p,ts,h4,h=>by
  by_cases hl:l = []
  ·subst hl
   rw [tokG_nil] at h
   injection h with h
   subst h
   exact ⟨.last p,by simp⟩
  ·rw [tokG_cons n l p hl] at h
   rcases ht:tokAtL l p with e | ⟨t,j⟩
   ·rw [ht] at h; cases h
   ·rw [ht] at h
    simp only at h
    have hj:=tokAtL_len hl ht
    obtain ⟨h5,hk⟩:=tok_ok hl h4 ht
    rcases hg:tokG n ((l.drop j).drop (clsN blaB (l.drop j))) (p+j+clsN blaB (l.drop j)) with e | rs
    ·rw [hg] at h; cases h
    ·rw [hg] at h
     have e:t :: rs=ts:=Except.ok.inj h
     subst e
     have hlen:((l.drop j).drop (clsN blaB (l.drop j))).length≤l.length - j:=by simp; omega
     obtain ⟨r1,r2⟩:=tokG_ok n _ _ (by omega) hg
     exact ⟨.cons t rs h5 hk r1,by simp; omega⟩
theorem tokens_ok {s:ByteArray} (hs:s.size≤4000) {ts:List Tk} (h:tokensP s = .ok ts):Toks ts∧ts.length≤4001:=by
 have hz:s.data.toList.length=s.size:=Array.length_toList;have hlen:(s.data.toList.drop (clsN blaB s.data.toList)).length≤s.data.toList.length:=by simp
 obtain ⟨h1,h2⟩:=tokG_ok _ _ _ (by omega) h;exact ⟨h1,by omega⟩

/-- The statements of a text, or what is wrong with it. -/
def readP (s:ByteArray):Except Er (List Stm) :=
 if s.size > 4000 then .error (4,0) else
 match tokensP s with
 | .error e=>.error e
 | .ok ts=>match statementsP 61 [] ts with
  | .error e=>.error e
  | .ok (l,_)=>if (wrongC l).1=0 then .ok l else .error ((wrongC l).1,0)
def REnds (w:World) (r:Except Er (List Stm)) (e:Ending) (w':World):Prop :=
 Below w.heap.size w w'∧match r with
  | .ok x=>∃ a cap,e = .returned (.slice a x.length cap)∧LsE En16 16 (fun b=>w.heap.size≤b) w' a x
  | .error c=>e = .panicked [thrV c.1 c.2]
theorem REnds.err {w w':World} {r:Except Er (List Stm)} {c:Er} (hr:r = .error c) (hb:Below w.heap.size w w'):REnds w r (.panicked [thrV c.1 c.2]) w':=by subst hr; exact ⟨hb,rfl⟩
theorem tk_of {W:World} {S:Nat→Prop} {a:Option Addr} {ts:List Tk} (h:LsE EnK 3 S W a ts) (hne:ts ≠ []):∃ b off,a=some ⟨b,off,none⟩∧S b∧TkAt W b off ts:=by
 rcases h with rfl | ⟨b,off,e,h1,h2,h3⟩
 ·exact absurd rfl hne
 ·refine ⟨b,off,e,h1,h2,fun i hi=>?_,fun i hi=>?_,fun i hi=>?_⟩
  all_goals obtain ⟨cs,_,c2,rfl⟩:=h3 i hi
  ·exact c2 0 _ rfl
  ·exact c2 1 _ rfl
  ·exact c2 2 _ rfl
theorem read_at (s:ByteArray) {w:World} (hg:Gl w):Calls Tryz.prog 35 #[.string s] w (REnds w (readP s)):=by
 have hw1:=hg.lt;generalize hM:readP s=M;rw [readP] at hM;by_cases hbig:s.size > 4000
 ·rw [if_pos hbig] at hM;subst hM;have hz:(4000:Int)<(s.size:Int):=by omega
  have con:=fault_at 4 0 w;clear hbig hg;go_enter Tryz.func35,Tryz.ntmps35;go_wp2_with fail
  refine con.mono ?_;rintro e w2 ⟨rfl,hb2⟩;go_wp2_with fail
  exact ⟨rfl,REnds.err (c:=(4,0)) rfl hb2⟩
 rw [if_neg hbig] at hM;have hz:¬ (4000:Int)<(s.size:Int):=by omega
 have con:=tokens_at s (by omega) hg;have hok:=fun ts=>tokens_ok (s:=s) (by omega) (ts:=ts)
 generalize tokensP s=L at *;have HG:Hid (Gl w):=hg;have HM:Hid _:=hM;have HO:Hid _:=hok;clear hM hbig hg hok;go_enter Tryz.func35,Tryz.ntmps35;go_wp2_with fail
 refine con.mono ?_;rintro e w2 ⟨hb2,hW⟩;clear con;rcases L with ce | ts
 ·obtain rfl:=hW;have e:M = .error ce:=HM.out.symm;subst e;clear HM HO;go_wp2_with fail
  exact ⟨rfl,REnds.err rfl hb2⟩
 obtain ⟨a,cap,rfl,hcp,hls⟩:=hW;obtain ⟨htk,hsm⟩:=HO.out ts rfl;obtain ⟨tb,off,rfl,htb,htat⟩:=tk_of hls (by obtain ⟨_,_,rfl⟩:=htk.ne; simp);have hal:Below w2.heap.size w2 (w2.alloc (.cells #[.slice (some ⟨tb,off,none⟩) ts.length cap,.int .i64 0] 121)):=(Below.refl _ _).alloc (Nat.le_refl _) _;have QR:=heap_new w2 #[.slice (some ⟨tb,off,none⟩) ts.length cap,.int .i64 0] 121;have hz2:=hb2.size
 have hR:RdAt (w2.alloc (.cells #[.slice (some ⟨tb,off,none⟩) ts.length cap,.int .i64 0] 121)) w2.heap.size tb ts 0:=⟨⟨off,cap,QR,hcp,htat.next hal⟩,by have:=htat.lt; omega,htk,hsm,(HG.out.next hb2).next hal,by omega⟩
 have con:=statements_at hR;have hm:=HM.out;simp only at hm;generalize statementsP 61 [] ts=L at hm con;have HM2:Hid _:=hm;clear hm HM HO hls htat htk hsm hR hcp HG;go_upto_region 4 with fail
 generalize w2.alloc (.cells #[.slice (some ⟨tb,off,none⟩) ts.length cap,.int .i64 0] 121)=w3 at *;go_wp2_with fail
 refine con.mono ?_;rintro e w4 ⟨hb4,hW⟩;have hb:Below w.heap.size w w4:=(chain hb2 hal).trans (hb4.1.mono (by omega));clear con;rcases L with ce | ⟨l,rr⟩
 ·obtain ⟨rfl,_⟩:=hW;have e:M = .error ce:=HM2.out.symm;subst e;clear HM2;go_wp2_with fail
  exact ⟨rfl,REnds.err rfl hb⟩
 obtain ⟨v,rfl,⟨al,cl,rfl,hls⟩,_⟩:=hW;have con:=wrongL_at l al cl _ w4 hls;have HL:Hid (LsE En16 16 (fun b=>w3.heap.size≤b) w4 al l):=hls;have hm:=HM2.out;simp only at hm;generalize wrongC l=wr at hm con;have HM3:Hid _:=hm;clear hm HM2 hls;go_wp2_with fail
 refine con.mono ?_;rintro e w5 ⟨rfl,hb5⟩;clear con;have hal5:Below w5.heap.size w5 (w5.alloc (.cells #[.int .i64 wr.1,.int .i64 wr.2] 27)):=(Below.refl _ _).alloc (Nat.le_refl _) _;have QF:=heap_new w5 #[.int .i64 wr.1,.int .i64 wr.2] 27;have hbb:=chain hb (chain hb5 hal5);have HL5:Hid (LsE En16 16 (fun b=>w.heap.size≤b) (w5.alloc (.cells #[.int .i64 wr.1,.int .i64 wr.2] 27)) al l):=(HL.out.mono en16 (fun b h _=>by have:w3.heap.size≤b:=h; show w.heap.size≤b; have:=hal.size; omega)).keep en16 (Keeps'.of (chain hb5 hal5));go_upto_region 6 with fail
 generalize w5.alloc (.cells #[.int .i64 wr.1,.int .i64 wr.2] 27)=w6 at *;have c0:w6.cell? ⟨w5.heap.size,0,none⟩=some (.int .i64 wr.1):=cell_of (i:=0) QF rfl;by_cases h0:wr.1=0
 ·have b0:(wr.1 != 0)=false:=by simpa using h0
  have e:M = .ok l:=by rw [← HM3.out,if_pos h0]
  subst e;clear HM3 h0;go_wp2_with fail
  exact bodyPost_ret (results_tmp rfl _ _ _) rfl ⟨hbb,al,cl,by first | rfl | trivial,HL5.out⟩
 ·have b0:(wr.1 != 0)=true:=by simpa using h0
  have e:M = .error (wr.1,0):=by rw [← HM3.out,if_neg h0]
  have E:Hid (M = .error (wr.1,0)):=e;have con:=fault_at wr.1 0 w6;clear HM3 h0 e;go_wp2_with fail
  refine con.mono ?_;rintro e w7 ⟨rfl,hb7⟩;go_wp2_with fail
  exact ⟨rfl,REnds.err (c:=(wr.1,0)) E.out (chain hbb hb7)⟩

/-- How Read's closure ends: what is read lies in block OB. -/
def OEnds (w:World) (OB:Nat) (r:Except Er (List Stm)) (e:Ending) (w':World):Prop :=
 BelowX OB w w'∧match r with
  | .ok x=>e = .returned (.tuple #[])∧∃ a cap,w'.heap[OB]? = some (.cells #[.slice a x.length cap] 22 (0,0))∧LsE En16 16 (fun b=>w.heap.size≤b) w' a x
  | .error c=>e = .panicked [thrV c.1 c.2]∧w'.heap[OB]? = some (.cells #[.slice none 0 0] 22 (0,0))
theorem read1_at (s:ByteArray) {w:World} (hg:Gl w) {SB OB:Nat} (QS:w.heap[SB]? = some (.cells #[.string s] 9 (0,0))) (QO:w.heap[OB]? = some (.cells #[.slice none 0 0] 22 (0,0))):Calls Tryz.prog 34 #[.pointer (some ⟨SB,0,none⟩),.pointer (some ⟨OB,0,none⟩)] w (OEnds w OB (readP s)):=by
 have con:=read_at s hg;have s0:w.cell? ⟨SB,0,none⟩=some (.string s):=cell_of (i:=0) QS rfl;have hO:=lt_of_heap QO;generalize readP s=M at *;clear hg;go_enter Tryz.func34,Tryz.ntmps34;go_wp2_with fail
 refine con.mono ?_;rintro e w2 ⟨hb2,hW⟩;have QO2:=(hb2.block _ hO).trans QO;clear con s0;rcases M with ce | l
 ·obtain rfl:=hW;go_wp2_with fail
  exact ⟨rfl,.of hb2 (by omega),rfl,QO2⟩
 obtain ⟨a,cap,rfl,hls⟩:=hW;have HL:Hid (LsE En16 16 (fun b=>w.heap.size≤b) w2 a l):=hls;have c0:w2.cell? ⟨OB,0,none⟩=some (.slice none 0 0):=cell_of (i:=0) QO2 rfl;have f0:=frozen_of_row w2 OB 0 _ _ QO2;clear hls;go_wp2_with fail
 go_end0
 exact ⟨(BelowX.of hb2 (by omega)).set 0 _,rfl,a,cap,heap_setCell_same w2 OB 0 _ _ _ QO2,HL.out.keep en16 (((Keeps1.refl _ _).set 0 _).k (by show ¬ _≤OB; omega))⟩
def errOf (r:Except Er (List Stm)):Er:=match r with | .ok _=>(0,0) | .error c=>c
def CEnds2 (w:World) (OB:Nat) (r:Except Er (List Stm)) (w':World):Prop :=
 BelowX OB w w'∧match r with
  | .ok x=>∃ a cap,w'.heap[OB]? = some (.cells #[.slice a x.length cap] 22 (0,0))∧LsE En16 16 (fun b=>w.heap.size≤b) w' a x
  | .error _=>w'.heap[OB]? = some (.cells #[.slice none 0 0] 22 (0,0))
theorem caught_r (s:ByteArray) {w:World} (hg:Gl w) {SB OB:Nat} (QS:w.heap[SB]? = some (.cells #[.string s] 9 (0,0))) (QO:w.heap[OB]? = some (.cells #[.slice none 0 0] 22 (0,0))):Calls Tryz.prog 33 #[.func (.func 34) #[] #[.pointer (some ⟨SB,0,none⟩),.pointer (some ⟨OB,0,none⟩)]] w fun e w'=>e = .returned (.agg #[.int .i64 (errOf (readP s)).1,.int .i64 (errOf (readP s)).2])∧CEnds2 w OB (readP s) w':=by
 have hmf:∀ (fn:Fn) (first cap:Array Value) (w:World),(Instr.makeFunc fn first cap).run Tryz.prog w = .ok (.func fn first cap) w:=fun _ _ _ _=>rfl
 have hal:Below w.heap.size w (w.alloc (.cells #[.int .i64 0,.int .i64 0] 27)):=(Below.refl _ _).alloc (Nat.le_refl _) _;have QF:=heap_new w #[.int .i64 0,.int .i64 0] 27;have hO:=lt_of_heap QO;have con:=read1_at s (hg.next hal) ((hal.block _ (lt_of_heap QS)).trans QS) ((hal.block _ hO).trans QO);generalize readP s=M at *;clear hg QS QO;go_enter_defers Tryz.func33,Tryz.ntmps33
 go_upto_region 1 with fail
 generalize w.alloc (.cells #[.int .i64 0,.int .i64 0] 27)=w1 at *;have hx1:BelowX OB w w1:=.of hal (by omega);have hz1:=hal.size;go_wp2_with fail
 refine con.mono ?_;rintro e w2 ⟨hb2,hW⟩;have QF2:=(hb2.2 _ (lt_of_heap QF) (by omega)).trans QF;have hx2:=hx1.trans hb2;clear con;rcases M with ce | l
 ·obtain ⟨rfl,QO2⟩:=hW;have dcon:=catch_p w.heap.size ce.1 ce.2 w2 QF2;go_wp2_with fail
  refine leaves_cons (f:=64) (args:=#[.pointer (some ⟨w.heap.size,0,none⟩)]) (by simp) (by simp [go_sem]) ?_;refine dcon.mono ?_;rintro e u' w4 ⟨rfl,rfl,rfl⟩;have hal4:Below w2.heap.size w2 (w2.alloc (.cells #[.int .i64 ce.1,.int .i64 ce.2] 115)):=(Below.refl _ _).alloc (Nat.le_refl _) _;have QE:=st2_heap ((hal4.block _ (lt_of_heap QF2)).trans QF2) (.int .i64 ce.1) (.int .i64 ce.2);have hz2:=hx2.size;have hbE:=st2_x (hx2.trans (.of hal4 (by omega))) (Nat.le_refl _) (by omega) (.int .i64 ce.1) (.int .i64 ce.2)
  have hkE:Keeps1 w.heap.size (w2.alloc (.cells #[.int .i64 ce.1,.int .i64 ce.2] 115)) (((w2.alloc (.cells #[.int .i64 ce.1,.int .i64 ce.2] 115)).setCell ⟨w.heap.size,0,none⟩ (.int .i64 ce.1)).setCell ⟨w.heap.size,1,none⟩ (.int .i64 ce.2)):=((Keeps1.refl _ _).set 0 _).set 1 _;have QO4:=(hal4.block _ (lt_of_heap QO2)).trans QO2;have QOE:=(hkE.2 _ (lt_of_heap QO4) (by omega)).trans QO4;generalize ((w2.alloc (.cells #[.int .i64 ce.1,.int .i64 ce.2] 115)).setCell ⟨w.heap.size,0,none⟩ (.int .i64 ce.1)).setCell ⟨w.heap.size,1,none⟩ (.int .i64 ce.2)=w4 at *
  have x0:w4.cell? ⟨w.heap.size,0,none⟩=some (.int .i64 ce.1):=cell_of (i:=0) QE rfl;have x1:w4.cell? ⟨w.heap.size,1,none⟩=some (.int .i64 ce.2):=cell_of (i:=1) QE rfl;have HE:Hid (CEnds2 w OB (.error ce) w4):=⟨hbE,QOE⟩
  simp [Leaves,settle,results,Tryz.results33,go_sem,x0,x1];exact ⟨⟨rfl,rfl⟩,HE.out⟩
 ·obtain ⟨rfl,a,cap,QO2,hls⟩:=hW;have HL:Hid (LsE En16 16 (fun b=>w1.heap.size≤b) w2 a l):=hls;have c0:w2.cell? ⟨w.heap.size,0,none⟩=some (.int .i64 0):=cell_of (i:=0) QF2 rfl;have c1:w2.cell? ⟨w.heap.size,1,none⟩=some (.int .i64 0):=cell_of (i:=1) QF2 rfl;have f0:=frozen_of_row w2 w.heap.size 0 _ _ QF2;have f1:=frozen_of_row w2 w.heap.size 1 _ _ QF2;have hl1:=lt_of_heap QF;clear hls;go_wp2_with fail
  have QE:=st2_heap QF2 (.int .i64 0) (.int .i64 0);have hbE:=st2_x hx2 (Nat.le_refl _) (by omega) (.int .i64 0) (.int .i64 0);have hkE:Keeps1 w.heap.size w2 ((w2.setCell ⟨w.heap.size,0,none⟩ (.int .i64 0)).setCell ⟨w.heap.size,1,none⟩ (.int .i64 0)):=((Keeps1.refl _ _).set 0 _).set 1 _;have QOE:=(hkE.2 _ (lt_of_heap QO2) (by omega)).trans QO2;have HLE:Hid (LsE En16 16 (fun b=>w1.heap.size≤b) ((w2.setCell ⟨w.heap.size,0,none⟩ (.int .i64 0)).setCell ⟨w.heap.size,1,none⟩ (.int .i64 0)) a l):=HL.out.keep en16 (hkE.k (by show ¬ _≤w.heap.size; omega))
  generalize ((w2.setCell ⟨w.heap.size,0,none⟩ (.int .i64 0)).setCell ⟨w.heap.size,1,none⟩ (.int .i64 0))=w3 at *;refine leaves_cons (f:=64) (args:=#[.pointer (some ⟨w.heap.size,0,none⟩)]) (by simp) (by simp [go_sem]) ?_;refine (catch_i w.heap.size w3).mono ?_;rintro e u' w4 ⟨rfl,rfl,rfl⟩;have hal4:Below w3.heap.size w3 (w3.alloc (.cells #[.int .i64 0,.int .i64 0] 115)):=(Below.refl _ _).alloc (Nat.le_refl _) _;have QE4:=(hal4.block _ (lt_of_heap QE)).trans QE;have QO4:=(hal4.block _ (lt_of_heap QOE)).trans QOE;have hz3:=hbE.size
  have hx4:BelowX OB w (w3.alloc (.cells #[.int .i64 0,.int .i64 0] 115)):=hbE.trans (.of hal4 (by omega));have hl4:=(HLE.out.keep en16 (Keeps'.of hal4)).mono en16 (S':=fun b=>w.heap.size≤b) (fun b h _=>by have:w1.heap.size≤b:=h; show w.heap.size≤b; omega);generalize w3.alloc (.cells #[.int .i64 0,.int .i64 0] 115)=w4 at *;have x0:w4.cell? ⟨w.heap.size,0,none⟩=some (.int .i64 0):=cell_of (i:=0) QE4 rfl;have x1:w4.cell? ⟨w.heap.size,1,none⟩=some (.int .i64 0):=cell_of (i:=1) QE4 rfl;show Leaves Tryz.prog Tryz.f33 _ _ [] _ _
  exact ⟨.agg #[.int .i64 0,.int .i64 0],by simp [results,Tryz.results33,go_sem,x0,x1],rfl,hx4,a,cap,QO4,hl4⟩
end Go.Proofs.YtoknmnngaackkaaGreatDoor
