/- Together: DF, DG, DH, CA, CB, CJ, CL, DI, DJ. -/
import Derived.Shelf.Lay
import Derived.Ground.NamesProg
import Derived.Lib.SmallJoins
import Derived.Lib.AppendIntMem
import Derived.Lib.SplitLaws
import Derived.Lib.LaidTab
import Derived.OpenShut
import Derived.Deep.Strs
import Derived.Stop.LaidErr
import Derived.LaidHandle
import Derived.Test.YtoknmnngaackkaaGreatDoorJJ8
import Derived.Test.YtoknmnngaackkaaGreatDoorJJ0
import Derived.Test.YtoknmnngaackkaaGreatDoorJJ7
/- The printer: infix. -/
namespace Go.Proofs.YtoknmnngaackkaaGreatDoor
open Go.RowKit Go.Lib Go.Shelf
set_option maxRecDepth 100000
set_option maxHeartbeats 8000000

theorem SsS.atk {S:Nat→Prop} {W:World} {b o:Nat} {l:List SX} (h:SsS S W (Option.some ⟨b,o,none⟩) l) {k:Nat} (hk:k<l.length):b<W.heap.size∧∃ ai cap,Sev W b (o+k*7) l[k] ai cap∧SsS S W ai l[k].ks:=by
 obtain ⟨b',o',ai,cap,e,_,h2,h3,h4⟩:=h.elem hk;have e:=Option.some.inj e;injection e with e1 e2
 subst e1 e2;exact ⟨h2,ai,cap,h3,h4⟩
theorem Sev.atL {W:World} {b off:Nat} {x:SX} {a:Option Addr} {cap:Nat} (h:Sev W b off x a cap) (hb:b<W.heap.size):AtL W b off (sxL x a cap):=⟨hb,fun j u hj=>by
 match j,hj with
 | 0,hj=>cases hj; exact h.c0
 | 1,hj=>cases hj; exact h.c1
 | 2,hj=>cases hj; exact h.c2
 | 3,hj=>cases hj; exact h.c3
 | 4,hj=>cases hj; exact h.c4
 | 5,hj=>cases hj; exact h.c5
 | 6,hj=>cases hj; exact h.c6
 | n+7,hj=>simp [sxL] at hj⟩
theorem infF_lev (k:Int):∀ l:List (Int × ByteArray × Int),(∀ i ∈ l,0≤i.2.2∧i.2.2≤7)→0≤(infF k l).2.2∧(infF k l).2.2≤7
 | [],_=>by simp [infF]
 | i :: l,h=>by
  rw [infF]
  split
  ·exact h i (by simp)
  ·exact infF_lev k l fun i hi=>h i (by simp [hi])
theorem infO_lev (k:Int):0≤(infO k).2.2∧(infO k).2.2≤7:=infF_lev k infL (by intro i hi; simp only [infL,List.mem_cons,List.not_mem_nil,or_false] at hi; rcases hi with rfl | rfl | rfl | rfl | rfl | rfl | rfl | rfl | rfl | rfl | rfl | rfl <;> decide)
def lefL (l:Int):Int:=if l=4 then 5 else l
def infW (k:Int) (p q:Int × List ByteArray):List ByteArray:=exW (lefL (infO k).2.2) p ++ [(infO k).2.1] ++ exW ((infO k).2.2+1) q
theorem infix_of (x:SX) (u0 u1:List ByteArray) (hn2:x.ks.length=2) (hB0:BareAt u0 (x.ks[0]'(by omega))) (hB1:BareAt u1 (x.ks[1]'(by omega))) (a:Option Addr) (c:Nat) {PB:Nat} {v:Value} {bs:List UInt8} {w:World} (hG:GP w PB) (hP:PrAt w PB v bs) (hk:SsS (fun b=>b<PB) w a x.ks) (hb:(sayL bs (infW x.k (levC (x.ks[0]'(by omega)).k,u0) (levC (x.ks[1]'(by omega)).k,u1))).length≤Lim):Calls Tryz.prog 176 #[.pointer (some ⟨PB,0,none⟩),.agg (sxA x a c)] w (PEnds w PB v (sayL bs (infW x.k (levC (x.ks[0]'(by omega)).k,u0) (levC (x.ks[1]'(by omega)).k,u1)))):=by
 have HB0:Hid (BareAt u0 (x.ks[0]'(by omega))):=hB0;have HB1:Hid (BareAt u1 (x.ks[1]'(by omega))):=hB1;clear hB0 hB1;obtain ⟨b1,o1,_,_,rfl,hbp,_,_,_⟩:=hk.elem (k:=0) (by omega);have HC:Hid (∀ W,Gl W→_):=fun W hg=>infixOf_at x.k (w:=W) hg
 obtain ⟨lo,hi⟩:=infO_lev x.k;unfold infW at hb ⊢;generalize infO x.k=i at *;obtain ⟨ik,is,il⟩:=i;simp only [infAg] at HC hb lo hi ⊢;by_cases h4:il=4
 ·have hlf:lefL il=5:=by rw [lefL,if_pos h4]
  rw [hlf] at hb ⊢;subst h4;have Hb:Hid _:=hb;clear hb;have hal:Below w.heap.size w (w.alloc (.cells #[.int .i64 x.k,.int .i64 x.v.1,.int .i64 x.v.2.1,.string x.v.2.2,.string x.tab,.string x.name,.slice (some ⟨b1,o1,none⟩) x.ks.length c] 55)):=(Below.refl _ _).alloc (Nat.le_refl _) _
  have B0:Hid (Bx (w.alloc (.cells #[.int .i64 x.k,.int .i64 x.v.1,.int .i64 x.v.2.1,.string x.v.2.2,.string x.tab,.string x.name,.slice (some ⟨b1,o1,none⟩) x.ks.length c] 55)) PB v w.heap.size #[.int .i64 x.k,.int .i64 x.v.1,.int .i64 x.v.2.1,.string x.v.2.2,.string x.tab,.string x.name,.slice (some ⟨b1,o1,none⟩) x.ks.length c] 55):=Bx.new hP #[.int .i64 x.k,.int .i64 x.v.1,.int .i64 x.v.2.1,.string x.v.2.2,.string x.tab,.string x.name,.slice (some ⟨b1,o1,none⟩) x.ks.length c] 55
  have P0:Hid (PrAt (w.alloc (.cells #[.int .i64 x.k,.int .i64 x.v.1,.int .i64 x.v.2.1,.string x.v.2.2,.string x.tab,.string x.name,.slice (some ⟨b1,o1,none⟩) x.ks.length c] 55)) PB v bs):=hP.next hal;have S0:Hid (St PB v w v (w.alloc (.cells #[.int .i64 x.k,.int .i64 x.v.1,.int .i64 x.v.2.1,.string x.v.2.2,.string x.tab,.string x.name,.slice (some ⟨b1,o1,none⟩) x.ks.length c] 55))):=St.of hal hP.lt;have G0:Hid (GP (w.alloc (.cells #[.int .i64 x.k,.int .i64 x.v.1,.int .i64 x.v.2.1,.string x.v.2.2,.string x.tab,.string x.name,.slice (some ⟨b1,o1,none⟩) x.ks.length c] 55)) PB):=hG.nx hal hP.lt
  have L00:Hid (SsS (fun b=>b<PB) (w.alloc (.cells #[.int .i64 x.k,.int .i64 x.v.1,.int .i64 x.v.2.1,.string x.v.2.2,.string x.tab,.string x.name,.slice (some ⟨b1,o1,none⟩) x.ks.length c] 55)) (some ⟨b1,o1,none⟩) x.ks):=SsS.next hal hk;clear hP hG hal hk;go_enter Tryz.func176,Tryz.ntmps176;go_upto_region 1 with fail
  generalize (w.alloc (.cells #[.int .i64 x.k,.int .i64 x.v.1,.int .i64 x.v.2.1,.string x.v.2.2,.string x.tab,.string x.name,.slice (some ⟨b1,o1,none⟩) x.ks.length c] 55))=w0 at *;have f1:w0.cell? ⟨w.heap.size,0,none⟩=some (.int .i64 x.k):=B0.out.c 0 rfl;have con2:=HC.out w0 G0.out.gl;go_wp2_with fail
  refine con2.mono ?_;rintro e w3 ⟨rfl,hb4⟩;have hal2:Below w3.heap.size w3 (w3.alloc (.cells #[.int .i64 ik,.string is,.int .i64 4] 201)):=(Below.refl _ _).alloc (Nat.le_refl _) _;have hbb:=chain hb4 hal2;clear con2 f1;go_upto_region 2 with fail
  have S_:St PB v w0 v (w3.alloc (.cells #[.int .i64 ik,.string is,.int .i64 4] 201)):=St.of hbb P0.out.lt;have PA:Hid (PrAt (w3.alloc (.cells #[.int .i64 ik,.string is,.int .i64 4] 201)) PB v bs):=P0.out.next hbb;have SA:Hid (St PB v w v (w3.alloc (.cells #[.int .i64 ik,.string is,.int .i64 4] 201))):=S0.out.trans S_;have GA:Hid (GP (w3.alloc (.cells #[.int .i64 ik,.string is,.int .i64 4] 201)) PB):=G0.out.st S_
  have BA:Hid (Bx (w3.alloc (.cells #[.int .i64 ik,.string is,.int .i64 4] 201)) PB v (w.heap.size) #[.int .i64 x.k,.int .i64 x.v.1,.int .i64 x.v.2.1,.string x.v.2.2,.string x.tab,.string x.name,.slice (some ⟨b1,o1,none⟩) x.ks.length c] 55):=B0.out.st S_;have BI:Hid (Bx (w3.alloc (.cells #[.int .i64 ik,.string is,.int .i64 4] 201)) PB v w3.heap.size #[.int .i64 ik,.string is,.int .i64 4] 201):=Bx.new (P0.out.next hb4) _ _;have LA:Hid (SsS (fun b=>b<PB) (w3.alloc (.cells #[.int .i64 ik,.string is,.int .i64 4] 201)) (some ⟨b1,o1,none⟩) x.ks):=SsS.stp L00.out S_
  clear S_ hb4 hal2 hbb P0 S0 G0 B0 L00;generalize (w3.alloc (.cells #[.int .i64 ik,.string is,.int .i64 4] 201))=wA at *;obtain ⟨hl0,a0,c0,sv0,kk0⟩:=LA.out.atk (k:=0) (show 0<x.ks.length by omega);have y0:wA.cell? ⟨b1,o1,none⟩=some (.int .i64 x.ks[0].k):=by simpa using sv0.c0
  have y1:wA.cell? ⟨b1,o1+1,none⟩=some (.int .i64 x.ks[0].v.1):=by simpa using sv0.c1
  have y2:wA.cell? ⟨b1,o1+2,none⟩=some (.int .i64 x.ks[0].v.2.1):=by simpa using sv0.c2
  have y3:wA.cell? ⟨b1,o1+3,none⟩=some (.string x.ks[0].v.2.2):=by simpa using sv0.c3
  have y4:wA.cell? ⟨b1,o1+4,none⟩=some (.string x.ks[0].tab):=by simpa using sv0.c4
  have y5:wA.cell? ⟨b1,o1+5,none⟩=some (.string x.ks[0].name):=by simpa using sv0.c5
  have y6:wA.cell? ⟨b1,o1+6,none⟩=some (.slice a0 x.ks[0].ks.length c0):=by simpa using sv0.c6
  clear sv0 hl0;have f5:wA.cell? ⟨w3.heap.size,2,none⟩=some (.int .i64 4):=BI.out.c 2 rfl;have f6:wA.cell? ⟨w.heap.size,6,none⟩=some (.slice (some ⟨b1,o1,none⟩) x.ks.length c):=BA.out.c 6 rfl;have con7:Calls Tryz.prog 120 #[.pointer (some ⟨PB,0,none⟩),.int .i64 5,.agg (sxA x.ks[0] a0 c0)] wA (PEnds wA PB v (sayL bs (exW 5 (levC x.ks[0].k,u0)))):=exprAt_of 5 x.ks[0] u0 HB0.out a0 c0 (GA.out) (PA.out) kk0 (lea (lea (Hb.out)));go_wp2_with fail
  refine con7.mono ?_;rintro e w8 ⟨rfl,v9,P_,S_⟩;have P10:Hid (PrAt w8 PB v9 (sayL bs (exW 5 (levC x.ks[0].k,u0)))):=P_;have S11:Hid (St PB v w v9 w8):=SA.out.trans S_;have G12:Hid (GP w8 PB):=GA.out.st S_;have B13:Hid (Bx w8 PB v9 (w.heap.size) #[.int .i64 x.k,.int .i64 x.v.1,.int .i64 x.v.2.1,.string x.v.2.2,.string x.tab,.string x.name,.slice (some ⟨b1,o1,none⟩) x.ks.length c] 55):=BA.out.st S_;have B14:Hid (Bx w8 PB v9 (w3.heap.size) #[.int .i64 ik,.string is,.int .i64 4] 201):=BI.out.st S_;have L15:Hid (SsS (fun b=>b<PB) w8 (some ⟨b1,o1,none⟩) x.ks):=SsS.stp LA.out S_
  clear con7 P_ S_ f5 f6 y0 y1 y2 y3 y4 y5 y6 PA SA GA BA BI LA;have f16:w8.cell? ⟨w3.heap.size,1,none⟩=some (.string is):=B14.out.c 1 rfl;have con17:Calls Tryz.prog 57 #[.pointer (some ⟨PB,0,none⟩),.slice (some ⟨w8.heap.size,0,none⟩) 1 1] (w8.alloc (.cells #[.string is] 9)) (PEnds w8 PB v9 (sayL (sayL bs (exW 5 (levC x.ks[0].k,u0))) ([is]))):=say_new [is] P10.out (by rw [← sayL_app]; exact lea (Hb.out)) (by simp);go_wp2_with fail
  refine con17.mono ?_;rintro e w18 ⟨rfl,v19,P_,S_⟩;have P20:Hid (PrAt w18 PB v19 (sayL bs (exW 5 (levC x.ks[0].k,u0) ++ [is]))):=by show PrAt _ _ _ _; rw [sayL_app]; exact P_
  have S21:Hid (St PB v w v19 w18):=S11.out.trans S_;have G22:Hid (GP w18 PB):=G12.out.st S_;have B23:Hid (Bx w18 PB v19 (w.heap.size) #[.int .i64 x.k,.int .i64 x.v.1,.int .i64 x.v.2.1,.string x.v.2.2,.string x.tab,.string x.name,.slice (some ⟨b1,o1,none⟩) x.ks.length c] 55):=B13.out.st S_;have B24:Hid (Bx w18 PB v19 (w3.heap.size) #[.int .i64 ik,.string is,.int .i64 4] 201):=B14.out.st S_;have L25:Hid (SsS (fun b=>b<PB) w18 (some ⟨b1,o1,none⟩) x.ks):=SsS.stp L15.out S_;clear con17 P_ S_ f16 P10 S11 G12 B13 B14 L15;obtain ⟨hl1,a1,c1,sv1,kk1⟩:=L25.out.atk (k:=1) (show 1<x.ks.length by omega)
  go_upto_region 7 with fail
  obtain ⟨C,hCC,hCP,hC0⟩:∃ C:World→Prop,(∀ W W':World,C W→Below W.heap.size W W'→C W')∧(∀ W,C W↔Blk W (w.heap.size) (sxA x (some ⟨b1,o1,none⟩) c) 55∧Blk W (w3.heap.size) #[.int .i64 ik,.string is,.int .i64 4] 201∧AtL W b1 (o1+7) (sxL x.ks[1] a1 c1))∧C w18:=⟨fun W=>Blk W (w.heap.size) (sxA x (some ⟨b1,o1,none⟩) c) 55∧Blk W (w3.heap.size) #[.int .i64 ik,.string is,.int .i64 4] 201∧AtL W b1 (o1+7) (sxL x.ks[1] a1 c1),fun W W' h hb=>⟨h.1.nx hb,h.2.1.nx hb,h.2.2.nx hb⟩,fun _=>Iff.rfl,B23.out.q,B24.out.q,by have:=sv1.atL hl1; simpa using this⟩
  have hdr:Below w18.heap.size w18 w18.drew:=(Below.refl _ _).drew;have CW:=hCC _ _ hC0 hdr;clear hC0 sv1;refine wp_region_cls C (by kernel_rfl) ?_;refine wpY_take hCC (some 28) (i:=0) (v:=.pointer (some ⟨PB,0,none⟩)) rfl rfl (by kernel_rfl) (by kernel_rfl) (by kernel_rfl) (fun _ _ _ h=>h) (Or.inl ⟨rfl,fun n hn=>?_⟩) CW ?_
  ·go_simp
  simp only [Act.put,pA,pB,pC];refine wpY_take hCC (some 29) (i:=1) (v:=.pointer (some ⟨w3.heap.size,2,none⟩)) rfl rfl (by kernel_rfl) (by kernel_rfl) (by kernel_rfl) (fun _ _ _ h=>h) (Or.inl ⟨rfl,fun n hn=>?_⟩) CW ?_
  ·go_simp
  simp only [Act.put,pA,pB,pC];refine wpY_take hCC (some 30) (i:=2) (v:=.int .i64 4) rfl rfl (by kernel_rfl) (by kernel_rfl) (by kernel_rfl) (fun _ _ _ h=>h) (Or.inl ⟨rfl,fun n hn=>?_⟩) CW ?_
  ·have z0:n.cell? ⟨w3.heap.size,2,none⟩=some (.int .i64 4):=((hCP n).1 hn).2.1.c 2 rfl;go_simp
  simp only [Act.put,pA,pB,pC];refine wpY_take hCC (some 31) (i:=3) (v:=.int .i64 (4+1)) rfl rfl (by kernel_rfl) (by kernel_rfl) (by kernel_rfl) (fun _ _ _ h=>h) (Or.inl ⟨rfl,fun n hn=>?_⟩) CW ?_
  ·go_simp;rfl
  simp only [Act.put,pA,pB,pC];refine wpY_take hCC (some 32) (i:=4) (v:=.pointer (some ⟨w.heap.size,6,none⟩)) rfl rfl (by kernel_rfl) (by kernel_rfl) (by kernel_rfl) (fun _ _ _ h=>h) (Or.inl ⟨rfl,fun n hn=>?_⟩) CW ?_
  ·go_simp
  simp only [Act.put,pA,pB,pC];refine wpY_take hCC (some 33) (i:=5) (v:=.slice (some ⟨b1,o1,none⟩) x.ks.length c) rfl rfl (by kernel_rfl) (by kernel_rfl) (by kernel_rfl) (fun _ _ _ h=>h) (Or.inl ⟨rfl,fun n hn=>?_⟩) CW ?_
  ·have z0:n.cell? ⟨w.heap.size,6,none⟩=some (.slice (some ⟨b1,o1,none⟩) x.ks.length c):=((hCP n).1 hn).1.c 6 rfl;go_simp
  simp only [Act.put,pA,pB,pC];refine wpY_take hCC (some 34) (i:=6) (v:=.pointer (some ⟨b1,o1+7,none⟩)) rfl rfl (by kernel_rfl) (by kernel_rfl) (by kernel_rfl) (fun _ _ _ h=>h) (Or.inl ⟨rfl,fun n hn=>?_⟩) CW ?_
  ·go_simp
  simp only [Act.put,pA,pB,pC];refine wpY_take hCC (some 35) (i:=7) (v:=.agg (sxA x.ks[1] a1 c1)) rfl rfl (by kernel_rfl) (by kernel_rfl) (by kernel_rfl) (fun _ _ _ h=>h) (grows_load rfl 55 _ rfl b1 (o1+7) (sxL x.ks[1] a1 c1) rfl Tryz.underlying55 rfl (by kernel_rfl) (fun n hn=>((hCP n).1 hn).2.2)) CW ?_;simp only [Act.put,pA,pB,pC];refine wpY_step (rs:=[8]) (by kernel_rfl) (by simp) ?_;intro w5 hb5 jj hj;obtain rfl:jj=8:=by simpa using hj
  clear hj;have D5:=chain hdr hb5;have S5:St PB v19 w18 v19 w5:=St.of D5 P20.out.lt;have con:=exprAt_of (4+1) x.ks[1] u1 HB1.out a1 c1 (G22.out.st S5) (P20.out.next D5) (SsS.next D5 kk1) (by rw [← sayL_app]; exact Hb.out);refine wpOp_step rfl (fun K hK=>?_);go_simp;refine con.mono ?_;rintro e w6 ⟨rfl,v6,P6,S6⟩;refine hK _ _ ⟨(hCP _).2 ⟨((B23.out.st S5).st S6).q,((B24.out.st S5).st S6).q,by have h0:=((hCP _).1 (hCC _ _ CW hb5)).2.2; exact ⟨Nat.lt_of_lt_of_le h0.1 S6.bel.size,fun j u hj=>(World.cell?_of_block (a:=⟨b1,o1+7+j,none⟩) (S6.bel.block b1 hbp)).trans (h0.2 j u hj)⟩⟩,?_⟩
  refine wpY_done (by kernel_rfl) ?_;intro w7 hb7;have PE:PrAt w7 PB v6 (sayL bs (exW 5 (levC x.ks[0].k,u0) ++ [is] ++ exW (4+1) (levC x.ks[1].k,u1))):=by rw [sayL_app]; exact P6.next hb7
  have SE:St PB v w v6 w7:=S21.out.trans (S5.trans (S6.trans (St.of hb7 P6.lt)));clear con hK CW hCC hCP;go_wp2_with fail
  go_end0
  exact ⟨rfl,v6,PE,SE⟩
 ·have hlf:lefL il=il:=by rw [lefL,if_neg h4]
  rw [hlf] at hb ⊢;have b4:(il == 4)=false:=by simpa using h4
  have Hb:Hid _:=hb;clear hb;have hal:Below w.heap.size w (w.alloc (.cells #[.int .i64 x.k,.int .i64 x.v.1,.int .i64 x.v.2.1,.string x.v.2.2,.string x.tab,.string x.name,.slice (some ⟨b1,o1,none⟩) x.ks.length c] 55)):=(Below.refl _ _).alloc (Nat.le_refl _) _
  have B0:Hid (Bx (w.alloc (.cells #[.int .i64 x.k,.int .i64 x.v.1,.int .i64 x.v.2.1,.string x.v.2.2,.string x.tab,.string x.name,.slice (some ⟨b1,o1,none⟩) x.ks.length c] 55)) PB v w.heap.size #[.int .i64 x.k,.int .i64 x.v.1,.int .i64 x.v.2.1,.string x.v.2.2,.string x.tab,.string x.name,.slice (some ⟨b1,o1,none⟩) x.ks.length c] 55):=Bx.new hP #[.int .i64 x.k,.int .i64 x.v.1,.int .i64 x.v.2.1,.string x.v.2.2,.string x.tab,.string x.name,.slice (some ⟨b1,o1,none⟩) x.ks.length c] 55
  have P0:Hid (PrAt (w.alloc (.cells #[.int .i64 x.k,.int .i64 x.v.1,.int .i64 x.v.2.1,.string x.v.2.2,.string x.tab,.string x.name,.slice (some ⟨b1,o1,none⟩) x.ks.length c] 55)) PB v bs):=hP.next hal;have S0:Hid (St PB v w v (w.alloc (.cells #[.int .i64 x.k,.int .i64 x.v.1,.int .i64 x.v.2.1,.string x.v.2.2,.string x.tab,.string x.name,.slice (some ⟨b1,o1,none⟩) x.ks.length c] 55))):=St.of hal hP.lt;have G0:Hid (GP (w.alloc (.cells #[.int .i64 x.k,.int .i64 x.v.1,.int .i64 x.v.2.1,.string x.v.2.2,.string x.tab,.string x.name,.slice (some ⟨b1,o1,none⟩) x.ks.length c] 55)) PB):=hG.nx hal hP.lt
  have L00:Hid (SsS (fun b=>b<PB) (w.alloc (.cells #[.int .i64 x.k,.int .i64 x.v.1,.int .i64 x.v.2.1,.string x.v.2.2,.string x.tab,.string x.name,.slice (some ⟨b1,o1,none⟩) x.ks.length c] 55)) (some ⟨b1,o1,none⟩) x.ks):=SsS.next hal hk;clear hP hG hal hk;go_enter Tryz.func176,Tryz.ntmps176;go_upto_region 1 with fail
  generalize (w.alloc (.cells #[.int .i64 x.k,.int .i64 x.v.1,.int .i64 x.v.2.1,.string x.v.2.2,.string x.tab,.string x.name,.slice (some ⟨b1,o1,none⟩) x.ks.length c] 55))=w0 at *;have f26:w0.cell? ⟨w.heap.size,0,none⟩=some (.int .i64 x.k):=B0.out.c 0 rfl;have con27:=HC.out w0 G0.out.gl;go_wp2_with fail
  refine con27.mono ?_;rintro e w28 ⟨rfl,hb29⟩;have hal2:Below w28.heap.size w28 (w28.alloc (.cells #[.int .i64 ik,.string is,.int .i64 il] 201)):=(Below.refl _ _).alloc (Nat.le_refl _) _;have hbb:=chain hb29 hal2;clear con27 f26;go_upto_region 2 with fail
  have S_:St PB v w0 v (w28.alloc (.cells #[.int .i64 ik,.string is,.int .i64 il] 201)):=St.of hbb P0.out.lt;have PA:Hid (PrAt (w28.alloc (.cells #[.int .i64 ik,.string is,.int .i64 il] 201)) PB v bs):=P0.out.next hbb;have SA:Hid (St PB v w v (w28.alloc (.cells #[.int .i64 ik,.string is,.int .i64 il] 201))):=S0.out.trans S_;have GA:Hid (GP (w28.alloc (.cells #[.int .i64 ik,.string is,.int .i64 il] 201)) PB):=G0.out.st S_
  have BA:Hid (Bx (w28.alloc (.cells #[.int .i64 ik,.string is,.int .i64 il] 201)) PB v (w.heap.size) #[.int .i64 x.k,.int .i64 x.v.1,.int .i64 x.v.2.1,.string x.v.2.2,.string x.tab,.string x.name,.slice (some ⟨b1,o1,none⟩) x.ks.length c] 55):=B0.out.st S_;have BI:Hid (Bx (w28.alloc (.cells #[.int .i64 ik,.string is,.int .i64 il] 201)) PB v w28.heap.size #[.int .i64 ik,.string is,.int .i64 il] 201):=Bx.new (P0.out.next hb29) _ _;have LA:Hid (SsS (fun b=>b<PB) (w28.alloc (.cells #[.int .i64 ik,.string is,.int .i64 il] 201)) (some ⟨b1,o1,none⟩) x.ks):=SsS.stp L00.out S_
  clear S_ hb29 hal2 hbb P0 S0 G0 B0 L00;generalize (w28.alloc (.cells #[.int .i64 ik,.string is,.int .i64 il] 201))=wA at *;obtain ⟨hl0,a0,c0,sv0,kk0⟩:=LA.out.atk (k:=0) (show 0<x.ks.length by omega);have y0:wA.cell? ⟨b1,o1,none⟩=some (.int .i64 x.ks[0].k):=by simpa using sv0.c0
  have y1:wA.cell? ⟨b1,o1+1,none⟩=some (.int .i64 x.ks[0].v.1):=by simpa using sv0.c1
  have y2:wA.cell? ⟨b1,o1+2,none⟩=some (.int .i64 x.ks[0].v.2.1):=by simpa using sv0.c2
  have y3:wA.cell? ⟨b1,o1+3,none⟩=some (.string x.ks[0].v.2.2):=by simpa using sv0.c3
  have y4:wA.cell? ⟨b1,o1+4,none⟩=some (.string x.ks[0].tab):=by simpa using sv0.c4
  have y5:wA.cell? ⟨b1,o1+5,none⟩=some (.string x.ks[0].name):=by simpa using sv0.c5
  have y6:wA.cell? ⟨b1,o1+6,none⟩=some (.slice a0 x.ks[0].ks.length c0):=by simpa using sv0.c6
  clear sv0 hl0;have f30:wA.cell? ⟨w28.heap.size,2,none⟩=some (.int .i64 il):=BI.out.c 2 rfl;have f31:wA.cell? ⟨w.heap.size,6,none⟩=some (.slice (some ⟨b1,o1,none⟩) x.ks.length c):=BA.out.c 6 rfl;have con32:Calls Tryz.prog 120 #[.pointer (some ⟨PB,0,none⟩),.int .i64 il,.agg (sxA x.ks[0] a0 c0)] wA (PEnds wA PB v (sayL bs (exW il (levC x.ks[0].k,u0)))):=exprAt_of il x.ks[0] u0 HB0.out a0 c0 (GA.out) (PA.out) kk0 (lea (lea (Hb.out)));go_wp2_with fail
  refine con32.mono ?_;rintro e w33 ⟨rfl,v34,P_,S_⟩;have P35:Hid (PrAt w33 PB v34 (sayL bs (exW il (levC x.ks[0].k,u0)))):=P_;have S36:Hid (St PB v w v34 w33):=SA.out.trans S_;have G37:Hid (GP w33 PB):=GA.out.st S_;have B38:Hid (Bx w33 PB v34 (w.heap.size) #[.int .i64 x.k,.int .i64 x.v.1,.int .i64 x.v.2.1,.string x.v.2.2,.string x.tab,.string x.name,.slice (some ⟨b1,o1,none⟩) x.ks.length c] 55):=BA.out.st S_;have B39:Hid (Bx w33 PB v34 (w28.heap.size) #[.int .i64 ik,.string is,.int .i64 il] 201):=BI.out.st S_;have L40:Hid (SsS (fun b=>b<PB) w33 (some ⟨b1,o1,none⟩) x.ks):=SsS.stp LA.out S_
  clear con32 P_ S_ f30 f31 y0 y1 y2 y3 y4 y5 y6 PA SA GA BA BI LA;have f41:w33.cell? ⟨w28.heap.size,1,none⟩=some (.string is):=B39.out.c 1 rfl;have con42:Calls Tryz.prog 57 #[.pointer (some ⟨PB,0,none⟩),.slice (some ⟨w33.heap.size,0,none⟩) 1 1] (w33.alloc (.cells #[.string is] 9)) (PEnds w33 PB v34 (sayL (sayL bs (exW il (levC x.ks[0].k,u0))) ([is]))):=say_new [is] P35.out (by rw [← sayL_app]; exact lea (Hb.out)) (by simp);go_wp2_with fail
  refine con42.mono ?_;rintro e w43 ⟨rfl,v44,P_,S_⟩;have P45:Hid (PrAt w43 PB v44 (sayL bs (exW il (levC x.ks[0].k,u0) ++ [is]))):=by show PrAt _ _ _ _; rw [sayL_app]; exact P_
  have S46:Hid (St PB v w v44 w43):=S36.out.trans S_;have G47:Hid (GP w43 PB):=G37.out.st S_;have B48:Hid (Bx w43 PB v44 (w.heap.size) #[.int .i64 x.k,.int .i64 x.v.1,.int .i64 x.v.2.1,.string x.v.2.2,.string x.tab,.string x.name,.slice (some ⟨b1,o1,none⟩) x.ks.length c] 55):=B38.out.st S_;have B49:Hid (Bx w43 PB v44 (w28.heap.size) #[.int .i64 ik,.string is,.int .i64 il] 201):=B39.out.st S_;have L50:Hid (SsS (fun b=>b<PB) w43 (some ⟨b1,o1,none⟩) x.ks):=SsS.stp L40.out S_;clear con42 P_ S_ f41 P35 S36 G37 B38 B39 L40;obtain ⟨hl1,a1,c1,sv1,kk1⟩:=L50.out.atk (k:=1) (show 1<x.ks.length by omega)
  go_upto_region 7 with fail
  obtain ⟨C,hCC,hCP,hC0⟩:∃ C:World→Prop,(∀ W W':World,C W→Below W.heap.size W W'→C W')∧(∀ W,C W↔Blk W (w.heap.size) (sxA x (some ⟨b1,o1,none⟩) c) 55∧Blk W (w28.heap.size) #[.int .i64 ik,.string is,.int .i64 il] 201∧AtL W b1 (o1+7) (sxL x.ks[1] a1 c1))∧C w43:=⟨fun W=>Blk W (w.heap.size) (sxA x (some ⟨b1,o1,none⟩) c) 55∧Blk W (w28.heap.size) #[.int .i64 ik,.string is,.int .i64 il] 201∧AtL W b1 (o1+7) (sxL x.ks[1] a1 c1),fun W W' h hb=>⟨h.1.nx hb,h.2.1.nx hb,h.2.2.nx hb⟩,fun _=>Iff.rfl,B48.out.q,B49.out.q,by have:=sv1.atL hl1; simpa using this⟩
  have hdr:Below w43.heap.size w43 w43.drew:=(Below.refl _ _).drew;have CW:=hCC _ _ hC0 hdr;clear hC0 sv1;refine wp_region_cls C (by kernel_rfl) ?_;refine wpY_take hCC (some 28) (i:=0) (v:=.pointer (some ⟨PB,0,none⟩)) rfl rfl (by kernel_rfl) (by kernel_rfl) (by kernel_rfl) (fun _ _ _ h=>h) (Or.inl ⟨rfl,fun n hn=>?_⟩) CW ?_
  ·go_simp
  simp only [Act.put,pA,pB,pC];refine wpY_take hCC (some 29) (i:=1) (v:=.pointer (some ⟨w28.heap.size,2,none⟩)) rfl rfl (by kernel_rfl) (by kernel_rfl) (by kernel_rfl) (fun _ _ _ h=>h) (Or.inl ⟨rfl,fun n hn=>?_⟩) CW ?_
  ·go_simp
  simp only [Act.put,pA,pB,pC];refine wpY_take hCC (some 30) (i:=2) (v:=.int .i64 il) rfl rfl (by kernel_rfl) (by kernel_rfl) (by kernel_rfl) (fun _ _ _ h=>h) (Or.inl ⟨rfl,fun n hn=>?_⟩) CW ?_
  ·have z0:n.cell? ⟨w28.heap.size,2,none⟩=some (.int .i64 il):=((hCP n).1 hn).2.1.c 2 rfl;go_simp
  simp only [Act.put,pA,pB,pC];refine wpY_take hCC (some 31) (i:=3) (v:=.int .i64 (il+1)) rfl rfl (by kernel_rfl) (by kernel_rfl) (by kernel_rfl) (fun _ _ _ h=>h) (Or.inl ⟨rfl,fun n hn=>?_⟩) CW ?_
  ·go_simp;simp [IntKind.wrap,IntKind.signed,IntKind.bits]; omega
  simp only [Act.put,pA,pB,pC];refine wpY_take hCC (some 32) (i:=4) (v:=.pointer (some ⟨w.heap.size,6,none⟩)) rfl rfl (by kernel_rfl) (by kernel_rfl) (by kernel_rfl) (fun _ _ _ h=>h) (Or.inl ⟨rfl,fun n hn=>?_⟩) CW ?_
  ·go_simp
  simp only [Act.put,pA,pB,pC];refine wpY_take hCC (some 33) (i:=5) (v:=.slice (some ⟨b1,o1,none⟩) x.ks.length c) rfl rfl (by kernel_rfl) (by kernel_rfl) (by kernel_rfl) (fun _ _ _ h=>h) (Or.inl ⟨rfl,fun n hn=>?_⟩) CW ?_
  ·have z0:n.cell? ⟨w.heap.size,6,none⟩=some (.slice (some ⟨b1,o1,none⟩) x.ks.length c):=((hCP n).1 hn).1.c 6 rfl;go_simp
  simp only [Act.put,pA,pB,pC];refine wpY_take hCC (some 34) (i:=6) (v:=.pointer (some ⟨b1,o1+7,none⟩)) rfl rfl (by kernel_rfl) (by kernel_rfl) (by kernel_rfl) (fun _ _ _ h=>h) (Or.inl ⟨rfl,fun n hn=>?_⟩) CW ?_
  ·go_simp
  simp only [Act.put,pA,pB,pC];refine wpY_take hCC (some 35) (i:=7) (v:=.agg (sxA x.ks[1] a1 c1)) rfl rfl (by kernel_rfl) (by kernel_rfl) (by kernel_rfl) (fun _ _ _ h=>h) (grows_load rfl 55 _ rfl b1 (o1+7) (sxL x.ks[1] a1 c1) rfl Tryz.underlying55 rfl (by kernel_rfl) (fun n hn=>((hCP n).1 hn).2.2)) CW ?_;simp only [Act.put,pA,pB,pC];refine wpY_step (rs:=[8]) (by kernel_rfl) (by simp) ?_;intro w5 hb5 jj hj;obtain rfl:jj=8:=by simpa using hj
  clear hj;have D5:=chain hdr hb5;have S5:St PB v44 w43 v44 w5:=St.of D5 P45.out.lt;have con:=exprAt_of (il+1) x.ks[1] u1 HB1.out a1 c1 (G47.out.st S5) (P45.out.next D5) (SsS.next D5 kk1) (by rw [← sayL_app]; exact Hb.out);refine wpOp_step rfl (fun K hK=>?_);go_simp;refine con.mono ?_;rintro e w6 ⟨rfl,v6,P6,S6⟩;refine hK _ _ ⟨(hCP _).2 ⟨((B48.out.st S5).st S6).q,((B49.out.st S5).st S6).q,by have h0:=((hCP _).1 (hCC _ _ CW hb5)).2.2; exact ⟨Nat.lt_of_lt_of_le h0.1 S6.bel.size,fun j u hj=>(World.cell?_of_block (a:=⟨b1,o1+7+j,none⟩) (S6.bel.block b1 hbp)).trans (h0.2 j u hj)⟩⟩,?_⟩
  refine wpY_done (by kernel_rfl) ?_;intro w7 hb7;have PE:PrAt w7 PB v6 (sayL bs (exW il (levC x.ks[0].k,u0) ++ [is] ++ exW (il+1) (levC x.ks[1].k,u1))):=by rw [sayL_app]; exact P6.next hb7
  have SE:St PB v w v6 w7:=S46.out.trans (S5.trans (S6.trans (St.of hb7 P6.lt)));clear con hK CW hCC hCP;go_wp2_with fail
  go_end0
  exact ⟨rfl,v6,PE,SE⟩
end Go.Proofs.YtoknmnngaackkaaGreatDoor
namespace Go.Proofs
open Go.Shelf
shelf_lay LaysM.n173 Nm 173 at Tryz as Tryz.fmtI
shelf_lay Lays.n155 Nm 155 at Tryz as Tryz.repA
theorem Tryz.repX:Builder.Extra Tryz.prog Tryz.repA_ren where
 sizeBuilder:=by kernel_rfl
 liesBuilder:=by kernel_rfl
 t5:=Tryz.repA.t5
 a5:=Tryz.repA.a5
 z5:=Tryz.repA.z5
 v5:=Tryz.repA.v5
 infoByte:=by kernel_rfl
 cellsByte:=by kernel_rfl
 sizeByte:=by kernel_rfl
 neB5:=by decide
end Go.Proofs
namespace Go.Proofs.YtoknmnngaackkaaGreatDoor
open Go.RowKit Go.Lib Go.Shelf
set_option maxRecDepth 100000
set_option maxHeartbeats 8000000

theorem fmtI_at (n:Int) (h0:-9223372036854775808≤n) (h1:n≤9223372036854775807) {w:World} {PB:Nat} (hG:GP w PB):Calls Tryz.prog 121 #[.int .i64 n,.int .i64 10] w fun e w'=>e = .returned (.string ⟨(Lib.itoa n).toArray⟩)∧Below w.heap.size w w':=by
 refine (Any.strconv_FormatInt_10 Tryz.fmtI n h0 h1 w hG.tab).mono ?_;rintro e w' ⟨rfl,k,os,rfl⟩;exact ⟨rfl,below_grow _ w (Nat.le_refl _) k os⟩
theorem repA_at (s:ByteArray) (hs:s.size≤4000) {w:World} {PB:Nat} (hG:GP w PB):Calls Tryz.prog 123 #[.string s,.string ⟨#[39]⟩,.string ⟨#[39,39]⟩] w fun e w'=>e = .returned (.string ⟨(Lib.replaceAll s.data.toList [39] [39,39]).toArray⟩)∧Below w.heap.size w w':=by
 obtain ⟨m,hm⟩:=hG.mx;have:=Any.strings_ReplaceAll Tryz.repA Tryz.repX s ⟨#[39]⟩ ⟨#[39,39]⟩ m w (by omega) hm (by decide) (by have:=countB_le ⟨#[39]⟩ (by decide) s.size s (Nat.le_refl _); show s.size+countB s ⟨#[39]⟩*2≤_; omega);exact this
theorem fmtB_at (b:Bool) (w:World):Calls Tryz.prog 122 #[.bool b] w fun e w'=>e = .returned (.string (if b then ⟨#[116,114,117,101]⟩ else ⟨#[102,97,108,115,101]⟩))∧Below w.heap.size w w':=by
 cases b
 all_goals go_enter Tryz.func122,Tryz.ntmps122
 all_goals go_wp2
 all_goals exact bodyPost_ret (results_tmp rfl _ _ _) rfl ⟨by first | rfl | trivial,Below.refl _ _⟩

def itoB (n:Int):ByteArray:=⟨(Lib.itoa n).toArray⟩
def numW (n:Int):List ByteArray:=if n<0 then [⟨#[45]⟩] ++ [itoB (-n)] else [itoB n]
def quoB (s:ByteArray):ByteArray:=⟨#[39]⟩ ++ ⟨(Lib.replaceAll s.data.toList [39] [39,39]).toArray⟩ ++ ⟨#[39]⟩
theorem repK_len (old new:List UInt8):∀ (k:Nat) (s:List UInt8),(Lib.replaceK old new k s).length≤s.length+k*new.length
 | 0,s=>by simp [Lib.replaceK]
 | k+1,s=>by
  rw [Lib.replaceK]
  split
  ·omega
  ·rw [List.length_append,List.length_append,Nat.add_mul,Nat.one_mul]
   have:=repK_len old new k (s.drop ((Lib.index s old).toNat+old.length))
   rw [List.length_drop] at this
   have h2:(s.take (Lib.index s old).toNat).length≤(Lib.index s old).toNat:=by rw [List.length_take]; omega
   have h3:(s.take (Lib.index s old).toNat).length≤s.length:=by rw [List.length_take]; omega
   omega
theorem rep_len (s:ByteArray):(⟨(Lib.replaceAll s.data.toList [39] [39,39]).toArray⟩:ByteArray).size≤3*s.size:=by
 show (Lib.replaceAll s.data.toList [39] [39,39]).toArray.size≤_;rw [List.size_toArray,Lib.replaceAll,Lib.replace,if_neg (by decide)];have h1:Lib.count s.data.toList [39]≤s.size:=Lib.countB_le ⟨#[39]⟩ (by decide) s.size s (Nat.le_refl _);have h2:=repK_len [39] [39,39] (Lib.replaceNum s.data.toList [39] (-1)) s.data.toList;have h3:Lib.replaceNum s.data.toList [39] (-1)=Lib.count s.data.toList [39]:=by rw [Lib.replaceNum,if_pos (.inl (by decide))]
 rw [h3] at h2 ⊢;rw [show s.data.toList.length=s.size from Array.length_toList] at h2;simp only [List.length_cons,List.length_nil] at h2;omega
def valW (x:Vl):List ByteArray:=if x.1=1 then [⟨#[110,117,108,108]⟩] else if x.1=2 then [if x.2.1 == 1 then ⟨#[116,114,117,101]⟩ else ⟨#[102,97,108,115,101]⟩] else if x.1=3 then numW x.2.1 else if x.1=4 then [quoB x.2.2] else []
theorem number2_at (n:Int) {PB:Nat} {v:Value} {bs:List UInt8} {w:World} (hG:GP w PB) (hP:PrAt w PB v bs) (hlo:-1000000000000000≤n) (hhi:n≤1000000000000000) (hb:(sayL bs (numW n)).length≤Lim):Calls Tryz.prog 93 #[.pointer (some ⟨PB,0,none⟩),.int .i64 n] w (PEnds w PB v (sayL bs (numW n))):=by
 by_cases hn:n<0
 ·rw [numW,if_pos hn] at hb ⊢;have Hb:Hid _:=hb;clear hb;have P0:Hid (PrAt w PB v bs):=hP;have S0:Hid (St PB v w v w):=St.refl _ _ _;have G0:Hid (GP w PB):=hG;clear hP hG;go_enter Tryz.func93,Tryz.ntmps93;have con1:Calls Tryz.prog 57 #[.pointer (some ⟨PB,0,none⟩),.slice (some ⟨w.heap.size,0,none⟩) 1 1] (w.alloc (.cells #[.string ⟨#[45]⟩] 9)) (PEnds w PB v (sayL bs ([⟨#[45]⟩]))):=say_new [⟨#[45]⟩] P0.out (lea (Hb.out)) (by simp);go_wp2_with fail
  refine con1.mono ?_;rintro e w2 ⟨rfl,v3,P_,S_⟩;have P4:Hid (PrAt w2 PB v3 (sayL bs ([⟨#[45]⟩]))):=P_;have S5:Hid (St PB v w v3 w2):=S0.out.trans S_;have G6:Hid (GP w2 PB):=G0.out.st S_;clear con1 P_ S_  P0 S0 G0;have con7:=fmtI_at (-n) (by omega) (by omega) (G6.out);go_wp2_with fail
  refine con7.mono ?_;rintro e w8 ⟨rfl,hb9⟩;have P10:Hid (PrAt w8 PB v3 (sayL bs ([⟨#[45]⟩]))):=P4.out.next hb9;have S_:St PB v3 w2 v3 w8:=St.of hb9 P4.out.lt;have S11:Hid (St PB v w v3 w8):=S5.out.trans S_;have G12:Hid (GP w8 PB):=G6.out.st S_;clear con7 S_ hb9  P4 S5 G6;have con13:Calls Tryz.prog 57 #[.pointer (some ⟨PB,0,none⟩),.slice (some ⟨w8.heap.size,0,none⟩) 1 1] (w8.alloc (.cells #[.string (itoB (-n))] 9)) (PEnds w8 PB v3 (sayL (sayL bs ([⟨#[45]⟩])) ([itoB (-n)]))):=say_new [itoB (-n)] P10.out (by rw [← sayL_app]; exact Hb.out) (by simp);go_wp2_with fail
  refine con13.mono ?_;rintro e w14 ⟨rfl,v15,P_,S_⟩;have P16:Hid (PrAt w14 PB v15 (sayL bs ([⟨#[45]⟩] ++ [itoB (-n)]))):=by show PrAt _ _ _ _; rw [sayL_app]; exact P_
  have S17:Hid (St PB v w v15 w14):=S11.out.trans S_;have G18:Hid (GP w14 PB):=G12.out.st S_;clear con13 P_ S_  P10 S11 G12;go_wp2_with fail
  go_end0
  exact ⟨rfl,v15,P16.out,S17.out⟩
 ·rw [numW,if_neg hn] at hb ⊢;have Hb:Hid _:=hb;clear hb;have P0:Hid (PrAt w PB v bs):=hP;have S0:Hid (St PB v w v w):=St.refl _ _ _;have G0:Hid (GP w PB):=hG;clear hP hG;go_enter Tryz.func93,Tryz.ntmps93;have con19:=fmtI_at n (by omega) (by omega) (G0.out);go_wp2_with fail
  refine con19.mono ?_;rintro e w20 ⟨rfl,hb21⟩;have P22:Hid (PrAt w20 PB v bs):=P0.out.next hb21;have S_:St PB v w v w20:=St.of hb21 P0.out.lt;have S23:Hid (St PB v w v w20):=S0.out.trans S_;have G24:Hid (GP w20 PB):=G0.out.st S_;clear con19 S_ hb21  P0 S0 G0;have con25:Calls Tryz.prog 57 #[.pointer (some ⟨PB,0,none⟩),.slice (some ⟨w20.heap.size,0,none⟩) 1 1] (w20.alloc (.cells #[.string (itoB n)] 9)) (PEnds w20 PB v (sayL bs ([itoB n]))):=say_new [itoB n] P22.out (Hb.out) (by simp);go_wp2_with fail
  refine con25.mono ?_;rintro e w26 ⟨rfl,v27,P_,S_⟩;have P28:Hid (PrAt w26 PB v27 (sayL bs ([itoB n]))):=P_;have S29:Hid (St PB v w v27 w26):=S23.out.trans S_;have G30:Hid (GP w26 PB):=G24.out.st S_;clear con25 P_ S_  P22 S23 G24;go_wp2_with fail
  go_end0
  exact ⟨rfl,v27,P28.out,S29.out⟩
theorem value2_at (x:Vl) {PB:Nat} {v:Value} {bs:List UInt8} {w:World} (hG:GP w PB) (hP:PrAt w PB v bs) (hk1:1≤x.1) (hk4:x.1≤4) (h3:x.1=3 → -1000000000000000≤x.2.1∧x.2.1≤1000000000000000) (h4:x.1=4→x.2.2.size≤60) (hb:(sayL bs (valW x)).length≤Lim):Calls Tryz.prog 95 #[.pointer (some ⟨PB,0,none⟩),.agg #[.int .i64 x.1,.int .i64 x.2.1,.string x.2.2]] w (PEnds w PB v (sayL bs (valW x))):=by
 obtain ⟨k,n,s⟩:=x;simp only at hk1 hk4 h3 h4 hb ⊢;rcases (show k=1∨(k=2∧n=1)∨(k=2∧¬ n=1)∨k=3∨k=4 by omega) with hk | ⟨hk,hn1⟩ | ⟨hk,hn1⟩ | hk | hk
 ·subst hk;have ev:valW (1,n,s) = [⟨#[110,117,108,108]⟩]:=rfl;rw [ev] at hb ⊢;clear ev;have Hb:Hid _:=hb;clear hb;have hal:Below w.heap.size w (w.alloc (.cells #[.int .i64 1,.int .i64 n,.string s] 53)):=(Below.refl _ _).alloc (Nat.le_refl _) _;have B0:Hid (Bx (w.alloc (.cells #[.int .i64 1,.int .i64 n,.string s] 53)) PB v w.heap.size #[.int .i64 1,.int .i64 n,.string s] 53):=Bx.new hP #[.int .i64 1,.int .i64 n,.string s] 53;have P0:Hid (PrAt (w.alloc (.cells #[.int .i64 1,.int .i64 n,.string s] 53)) PB v bs):=hP.next hal
  have S0:Hid (St PB v w v (w.alloc (.cells #[.int .i64 1,.int .i64 n,.string s] 53))):=St.of hal hP.lt;have G0:Hid (GP (w.alloc (.cells #[.int .i64 1,.int .i64 n,.string s] 53)) PB):=hG.nx hal hP.lt;clear hP hG hal;go_enter Tryz.func95,Tryz.ntmps95;go_upto_region 1 with fail
  generalize (w.alloc (.cells #[.int .i64 1,.int .i64 n,.string s] 53))=w0 at *;have f1:w0.cell? ⟨w.heap.size,0,none⟩=some (.int .i64 1):=B0.out.c 0 rfl;have con2:Calls Tryz.prog 57 #[.pointer (some ⟨PB,0,none⟩),.slice (some ⟨w0.heap.size,0,none⟩) 1 1] (w0.alloc (.cells #[.string ⟨#[110,117,108,108]⟩] 9)) (PEnds w0 PB v (sayL bs ([⟨#[110,117,108,108]⟩]))):=say_new [⟨#[110,117,108,108]⟩] P0.out (Hb.out) (by simp);go_wp2_with fail
  refine con2.mono ?_;rintro e w3 ⟨rfl,v4,P_,S_⟩;have P5:Hid (PrAt w3 PB v4 (sayL bs ([⟨#[110,117,108,108]⟩]))):=P_;have S6:Hid (St PB v w v4 w3):=S0.out.trans S_;have G7:Hid (GP w3 PB):=G0.out.st S_;have B8:Hid (Bx w3 PB v4 (w.heap.size) #[.int .i64 1,.int .i64 n,.string s] 53):=B0.out.st S_;clear con2 P_ S_ f1 P0 S0 G0 B0;go_wp2_with fail
  go_end0
  exact ⟨rfl,v4,P5.out,S6.out⟩
 ·subst hk;obtain rfl:n=1:=hn1;have ev:valW (2,1,s) = [⟨#[116,114,117,101]⟩]:=rfl;rw [ev] at hb ⊢;clear ev;have Hb:Hid _:=hb;clear hb;have hal:Below w.heap.size w (w.alloc (.cells #[.int .i64 2,.int .i64 1,.string s] 53)):=(Below.refl _ _).alloc (Nat.le_refl _) _;have B0:Hid (Bx (w.alloc (.cells #[.int .i64 2,.int .i64 1,.string s] 53)) PB v w.heap.size #[.int .i64 2,.int .i64 1,.string s] 53):=Bx.new hP #[.int .i64 2,.int .i64 1,.string s] 53;have P0:Hid (PrAt (w.alloc (.cells #[.int .i64 2,.int .i64 1,.string s] 53)) PB v bs):=hP.next hal
  have S0:Hid (St PB v w v (w.alloc (.cells #[.int .i64 2,.int .i64 1,.string s] 53))):=St.of hal hP.lt;have G0:Hid (GP (w.alloc (.cells #[.int .i64 2,.int .i64 1,.string s] 53)) PB):=hG.nx hal hP.lt;clear hP hG hal;go_enter Tryz.func95,Tryz.ntmps95;go_upto_region 1 with fail
  generalize (w.alloc (.cells #[.int .i64 2,.int .i64 1,.string s] 53))=w0 at *;have f9:w0.cell? ⟨w.heap.size,0,none⟩=some (.int .i64 2):=B0.out.c 0 rfl;have f10:w0.cell? ⟨w.heap.size,1,none⟩=some (.int .i64 1):=B0.out.c 1 rfl;have con11:=fmtB_at true w0;go_wp2_with fail
  refine con11.mono ?_;rintro e w12 ⟨rfl,hb13⟩;have P14:Hid (PrAt w12 PB v bs):=P0.out.next hb13;have S_:St PB v w0 v w12:=St.of hb13 P0.out.lt;have S15:Hid (St PB v w v w12):=S0.out.trans S_;have G16:Hid (GP w12 PB):=G0.out.st S_;have B17:Hid (Bx w12 PB v (w.heap.size) #[.int .i64 2,.int .i64 1,.string s] 53):=B0.out.st S_;clear con11 S_ hb13 f9 f10 P0 S0 G0 B0
  have con18:Calls Tryz.prog 57 #[.pointer (some ⟨PB,0,none⟩),.slice (some ⟨w12.heap.size,0,none⟩) 1 1] (w12.alloc (.cells #[.string ⟨#[116,114,117,101]⟩] 9)) (PEnds w12 PB v (sayL bs ([⟨#[116,114,117,101]⟩]))):=say_new [⟨#[116,114,117,101]⟩] P14.out (Hb.out) (by simp);go_wp2_with fail
  refine con18.mono ?_;rintro e w19 ⟨rfl,v20,P_,S_⟩;have P21:Hid (PrAt w19 PB v20 (sayL bs ([⟨#[116,114,117,101]⟩]))):=P_;have S22:Hid (St PB v w v20 w19):=S15.out.trans S_;have G23:Hid (GP w19 PB):=G16.out.st S_;have B24:Hid (Bx w19 PB v20 (w.heap.size) #[.int .i64 2,.int .i64 1,.string s] 53):=B17.out.st S_;clear con18 P_ S_  P14 S15 G16 B17;go_wp2_with fail
  go_end0
  exact ⟨rfl,v20,P21.out,S22.out⟩
 ·subst hk;have bn:(n == 1)=false:=by simpa using hn1
  have ev:valW (2,n,s) = [⟨#[102,97,108,115,101]⟩]:=by unfold valW; simp [hn1]
  rw [ev] at hb ⊢;clear ev;have Hb:Hid _:=hb;clear hb;have hal:Below w.heap.size w (w.alloc (.cells #[.int .i64 2,.int .i64 n,.string s] 53)):=(Below.refl _ _).alloc (Nat.le_refl _) _;have B0:Hid (Bx (w.alloc (.cells #[.int .i64 2,.int .i64 n,.string s] 53)) PB v w.heap.size #[.int .i64 2,.int .i64 n,.string s] 53):=Bx.new hP #[.int .i64 2,.int .i64 n,.string s] 53;have P0:Hid (PrAt (w.alloc (.cells #[.int .i64 2,.int .i64 n,.string s] 53)) PB v bs):=hP.next hal;have S0:Hid (St PB v w v (w.alloc (.cells #[.int .i64 2,.int .i64 n,.string s] 53))):=St.of hal hP.lt
  have G0:Hid (GP (w.alloc (.cells #[.int .i64 2,.int .i64 n,.string s] 53)) PB):=hG.nx hal hP.lt;clear hP hG hal;go_enter Tryz.func95,Tryz.ntmps95;go_upto_region 1 with fail
  generalize (w.alloc (.cells #[.int .i64 2,.int .i64 n,.string s] 53))=w0 at *;have f25:w0.cell? ⟨w.heap.size,0,none⟩=some (.int .i64 2):=B0.out.c 0 rfl;have f26:w0.cell? ⟨w.heap.size,1,none⟩=some (.int .i64 n):=B0.out.c 1 rfl;have con27:=fmtB_at false w0;go_wp2_with fail
  refine con27.mono ?_;rintro e w28 ⟨rfl,hb29⟩;have P30:Hid (PrAt w28 PB v bs):=P0.out.next hb29;have S_:St PB v w0 v w28:=St.of hb29 P0.out.lt;have S31:Hid (St PB v w v w28):=S0.out.trans S_;have G32:Hid (GP w28 PB):=G0.out.st S_;have B33:Hid (Bx w28 PB v (w.heap.size) #[.int .i64 2,.int .i64 n,.string s] 53):=B0.out.st S_;clear con27 S_ hb29 f25 f26 P0 S0 G0 B0
  have con34:Calls Tryz.prog 57 #[.pointer (some ⟨PB,0,none⟩),.slice (some ⟨w28.heap.size,0,none⟩) 1 1] (w28.alloc (.cells #[.string ⟨#[102,97,108,115,101]⟩] 9)) (PEnds w28 PB v (sayL bs ([⟨#[102,97,108,115,101]⟩]))):=say_new [⟨#[102,97,108,115,101]⟩] P30.out (Hb.out) (by simp);go_wp2_with fail
  refine con34.mono ?_;rintro e w35 ⟨rfl,v36,P_,S_⟩;have P37:Hid (PrAt w35 PB v36 (sayL bs ([⟨#[102,97,108,115,101]⟩]))):=P_;have S38:Hid (St PB v w v36 w35):=S31.out.trans S_;have G39:Hid (GP w35 PB):=G32.out.st S_;have B40:Hid (Bx w35 PB v36 (w.heap.size) #[.int .i64 2,.int .i64 n,.string s] 53):=B33.out.st S_;clear con34 P_ S_  P30 S31 G32 B33;go_wp2_with fail
  go_end0
  exact ⟨rfl,v36,P37.out,S38.out⟩
 ·subst hk;have ev:valW (3,n,s)=numW n:=rfl;rw [ev] at hb ⊢;clear ev;have Hb:Hid _:=hb;clear hb;have hal:Below w.heap.size w (w.alloc (.cells #[.int .i64 3,.int .i64 n,.string s] 53)):=(Below.refl _ _).alloc (Nat.le_refl _) _;have B0:Hid (Bx (w.alloc (.cells #[.int .i64 3,.int .i64 n,.string s] 53)) PB v w.heap.size #[.int .i64 3,.int .i64 n,.string s] 53):=Bx.new hP #[.int .i64 3,.int .i64 n,.string s] 53;have P0:Hid (PrAt (w.alloc (.cells #[.int .i64 3,.int .i64 n,.string s] 53)) PB v bs):=hP.next hal
  have S0:Hid (St PB v w v (w.alloc (.cells #[.int .i64 3,.int .i64 n,.string s] 53))):=St.of hal hP.lt;have G0:Hid (GP (w.alloc (.cells #[.int .i64 3,.int .i64 n,.string s] 53)) PB):=hG.nx hal hP.lt;clear hP hG hal;go_enter Tryz.func95,Tryz.ntmps95;go_upto_region 1 with fail
  generalize (w.alloc (.cells #[.int .i64 3,.int .i64 n,.string s] 53))=w0 at *;have f41:w0.cell? ⟨w.heap.size,0,none⟩=some (.int .i64 3):=B0.out.c 0 rfl;have f42:w0.cell? ⟨w.heap.size,1,none⟩=some (.int .i64 n):=B0.out.c 1 rfl;have con43:Calls Tryz.prog 93 #[.pointer (some ⟨PB,0,none⟩),.int .i64 n] w0 (PEnds w0 PB v (sayL bs (numW n))):=number2_at n (G0.out) (P0.out) (h3 rfl).1 (h3 rfl).2 (Hb.out);go_wp2_with fail
  refine con43.mono ?_;rintro e w44 ⟨rfl,v45,P_,S_⟩;have P46:Hid (PrAt w44 PB v45 (sayL bs (numW n))):=P_;have S47:Hid (St PB v w v45 w44):=S0.out.trans S_;have G48:Hid (GP w44 PB):=G0.out.st S_;have B49:Hid (Bx w44 PB v45 (w.heap.size) #[.int .i64 3,.int .i64 n,.string s] 53):=B0.out.st S_;clear con43 P_ S_ f41 f42 P0 S0 G0 B0;go_wp2_with fail
  go_end0
  exact ⟨rfl,v45,P46.out,S47.out⟩
 ·subst hk;have ev:valW (4,n,s) = [quoB s]:=rfl;rw [ev] at hb ⊢;clear ev;have Hb:Hid _:=hb;clear hb;have hal:Below w.heap.size w (w.alloc (.cells #[.int .i64 4,.int .i64 n,.string s] 53)):=(Below.refl _ _).alloc (Nat.le_refl _) _;have B0:Hid (Bx (w.alloc (.cells #[.int .i64 4,.int .i64 n,.string s] 53)) PB v w.heap.size #[.int .i64 4,.int .i64 n,.string s] 53):=Bx.new hP #[.int .i64 4,.int .i64 n,.string s] 53;have P0:Hid (PrAt (w.alloc (.cells #[.int .i64 4,.int .i64 n,.string s] 53)) PB v bs):=hP.next hal
  have S0:Hid (St PB v w v (w.alloc (.cells #[.int .i64 4,.int .i64 n,.string s] 53))):=St.of hal hP.lt;have G0:Hid (GP (w.alloc (.cells #[.int .i64 4,.int .i64 n,.string s] 53)) PB):=hG.nx hal hP.lt;clear hP hG hal;go_enter Tryz.func95,Tryz.ntmps95;go_upto_region 1 with fail
  generalize (w.alloc (.cells #[.int .i64 4,.int .i64 n,.string s] 53))=w0 at *;have hsz:=h4 rfl;have f50:w0.cell? ⟨w.heap.size,0,none⟩=some (.int .i64 4):=B0.out.c 0 rfl;have f51:w0.cell? ⟨w.heap.size,2,none⟩=some (.string s):=B0.out.c 2 rfl;have con52:=repA_at s (by omega) (G0.out);go_wp2_with fail
  refine con52.mono ?_;rintro e w53 ⟨rfl,hb54⟩;have P55:Hid (PrAt w53 PB v bs):=P0.out.next hb54;have S_:St PB v w0 v w53:=St.of hb54 P0.out.lt;have S56:Hid (St PB v w v w53):=S0.out.trans S_;have G57:Hid (GP w53 PB):=G0.out.st S_;have B58:Hid (Bx w53 PB v (w.heap.size) #[.int .i64 4,.int .i64 n,.string s] 53):=B0.out.st S_;clear con52 S_ hb54 f50 f51 P0 S0 G0 B0;have hrl:=rep_len s;obtain ⟨tx,htx⟩:∃ tx,(⟨(Lib.replaceAll s.data.toList [39] [39,39]).toArray⟩:ByteArray)=tx:=⟨_,rfl⟩
  have HQ:Hid (quoB s=⟨#[39]⟩ ++ tx ++ ⟨#[39]⟩):=by show _=_; rw [quoB,htx]
  rw [htx] at hrl ⊢;have hrz:(tx.size:Int)≤180:=by omega
  clear htx;rw [HQ.out] at Hb;have con59:Calls Tryz.prog 57 #[.pointer (some ⟨PB,0,none⟩),.slice (some ⟨w53.heap.size,0,none⟩) 1 1] (w53.alloc (.cells #[.string ((⟨#[39]⟩:ByteArray) ++ tx ++ (⟨#[39]⟩:ByteArray))] 9)) (PEnds w53 PB v (sayL bs ([(⟨#[39]⟩:ByteArray) ++ tx ++ (⟨#[39]⟩:ByteArray)]))):=say_new [(⟨#[39]⟩:ByteArray) ++ tx ++ (⟨#[39]⟩:ByteArray)] P55.out (Hb.out) (by simp);go_wp2_with fail
  refine con59.mono ?_;rintro e w60 ⟨rfl,v61,P_,S_⟩;have P62:Hid (PrAt w60 PB v61 (sayL bs ([(⟨#[39]⟩:ByteArray) ++ tx ++ (⟨#[39]⟩:ByteArray)]))):=P_;have S63:Hid (St PB v w v61 w60):=S56.out.trans S_;have G64:Hid (GP w60 PB):=G57.out.st S_;have B65:Hid (Bx w60 PB v61 (w.heap.size) #[.int .i64 4,.int .i64 n,.string s] 53):=B58.out.st S_;clear con59 P_ S_  P55 S56 G57 B58;go_wp2_with fail
  go_end0
  exact ⟨rfl,v61,by rw [HQ.out]; exact P62.out,S63.out⟩
end Go.Proofs.YtoknmnngaackkaaGreatDoor
namespace Go.Proofs.YtoknmnngaackkaaGreatDoor
set_option maxRecDepth 100000
set_option maxHeartbeats 1000000

def SimT (t u:Tk):Prop:=t.1=u.1∧t.2.1=u.2.1
def EndL (ts:List Tk):Prop:=∃ e:Tk,e.1=5∧ts = [e]
/-- The same tokens, one at least; behind them the end, or q. -/
inductive Al (q:List Tk):List Tk→List Tk→Prop
 | one {t u e:Tk}:SimT t u→t.1≠5→e.1=5→Al q [t,e] (u :: q)
 | cons {t u:Tk} {ts us:List Tk}:SimT t u→t.1≠5→Al q ts us→Al q (t :: ts) (u :: us)
theorem Al.now {q ts us:List Tk} (h:Al q ts us):SimT (nowP ts) (nowP us)∧(nowP ts).1≠5:=by
 cases h with
 | one h1 h2 h3=>exact ⟨h1,h2⟩
 | cons h1 h2 h3=>exact ⟨h1,h2⟩
theorem Al.is {q ts us:List Tk} (h:Al q ts us) (s:ByteArray):isP s ts=isP s us:=by
 obtain ⟨⟨h1,h2⟩,_⟩:=h.now;unfold isP;rw [h1,h2]
theorem Al.pass {q ts us:List Tk} (h:Al q ts us):(EndL (passP ts)∧passP us=q)∨Al q (passP ts) (passP us):=by
 cases h with
 | @one t u e h1 h2 h3 =>
  have h4:u.1≠5:=h1.1 ▸ h2;rw [passP,if_neg h2,passP,if_neg h4];exact .inl ⟨⟨e,h3,rfl⟩,rfl⟩
 | @cons t u ts us h1 h2 h3 =>
  have h4:u.1≠5:=h1.1 ▸ h2;rw [passP,if_neg h2,passP,if_neg h4];exact .inr h3
theorem EndL.pass {ts:List Tk} (h:EndL ts):EndL (passP ts):=by
 obtain ⟨e,h1,rfl⟩:=h;rw [passP,if_pos h1];exact ⟨e,h1,rfl⟩
structure Loc (q:List Tk) {α:Type} (f:List Tk→PR α):Prop where
 e:∀ {ts x r},EndL ts→f ts = .ok (x,r)→EndL r
 a:∀ {ts us x r},Al q ts us→f ts = .ok (x,r)→EndL r∨∃ us',Al q r us'∧f us = .ok (x,us')
 n:∀ {ts c},f ts = .error c→c.1≠0
section
variable {q:List Tk} {α β:Type}
theorem Loc.val {g:List Tk→α} (hg:∀ {ts us},Al q ts us→g ts=g us):Loc q (fun ts=>.ok (g ts,ts)) where
 e h H:=by cases H; exact h
 a h H:=by cases H; exact .inr ⟨_,h,by rw [hg h]⟩
 n H:=by cases H
theorem Loc.ok (x:α):Loc q (fun ts=>.ok (x,ts)):=.val fun _=>rfl
theorem Loc.err {g:List Tk→Er} (hg:∀ ts,(g ts).1≠0:=by intro _; simp):Loc q (α:=α) (fun ts=>.error (g ts)) where
 e _ H:=by cases H
 a _ H:=by cases H
 n H:=by cases H; exact hg _
theorem Loc.pass {f:List Tk→PR α} (h:Loc q f):Loc q (fun ts=>f (passP ts)) where
 e h1 H:=h.e h1.pass H
 a h1 H:=by
  rcases h1.pass with hp | hp
  ·exact .inl (h.e hp.1 H)
  ·exact h.a hp H
 n H:=h.n H
theorem Loc.bnd {f:List Tk→PR α} {k:α→List Tk→PR β} (h:Loc q f) (hk:∀ x,Loc q (k x)):Loc q (fun ts=>Go.Proofs.YtoknmnngaackkaaGreatDoor.bnd (f ts) k) where
 e {ts x r} h1 H:=by
  rcases hf:f ts with e | ⟨y,r1⟩
  ·rw [hf] at H; cases H
  ·rw [hf] at H; exact (hk y).e (h.e h1 hf) H
 a {ts us x r} h1 H:=by
  rcases hf:f ts with e | ⟨y,r1⟩
  ·rw [hf] at H; cases H
  ·rw [hf] at H;rcases h.a h1 hf with hp | ⟨us1,hp,hu⟩
   ·exact .inl ((hk y).e hp H)
   ·rcases (hk y).a hp H with hp2 | ⟨us2,hp2,hu2⟩
    ·exact .inl hp2
    ·exact .inr ⟨us2,hp2,by simp only [hu]; exact hu2⟩
 n {ts c} H:=by
  rcases hf:f ts with e | ⟨y,r1⟩
  ·rw [hf] at H; cases H; exact h.n hf
  ·rw [hf] at H; exact (hk y).n H
theorem Loc.ifc {c:List Tk→Prop} [DecidablePred c] {f g:List Tk→PR α} (hc:∀ {ts us},Al q ts us→(c ts↔c us)) (hf:Loc q f) (hg:Loc q g):Loc q (fun ts=>if c ts then f ts else g ts) where
 e {ts x r} h1 H:=by
  split at H
  ·exact hf.e h1 H
  ·exact hg.e h1 H
 a {ts us x r} h1 H:=by
  split at H
  ·rename_i hh; rw [if_pos ((hc h1).1 hh)]; exact hf.a h1 H
  ·rename_i hh; rw [if_neg (fun h=>hh ((hc h1).2 h))]; exact hg.a h1 H
 n {ts c} H:=by
  split at H
  ·exact hf.n H
  ·exact hg.n H
theorem Loc.is {s:ByteArray} {f g:List Tk→PR α} (hf:Loc q f) (hg:Loc q g):Loc q (fun ts=>if isP s ts then f ts else g ts):=.ifc (fun h=>by rw [h.is s]) hf hg
theorem Loc.ite {c:Prop} [Decidable c] {f g:List Tk→PR α} (hf:Loc q f) (hg:Loc q g):Loc q (fun ts=>if c then f ts else g ts):=.ifc (c:=fun _=>c) (fun _=>Iff.rfl) hf hg
theorem Loc.congr {f g:List Tk→PR α} (h:∀ ts x r,f ts = .ok (x,r)↔g ts = .ok (x,r)) (hn:∀ ts c,f ts = .error c→c.1≠0) (hg:Loc q g):Loc q f where
 e h1 H:=hg.e h1 ((h ..).1 H)
 a h1 H:=by
  rcases hg.a h1 ((h ..).1 H) with hp | ⟨us,hp,hu⟩
  ·exact .inl hp
  ·exact .inr ⟨us,hp,(h ..).2 hu⟩
 n H:=hn _ _ H
theorem Loc.of {f g:List Tk→PR α} (h:∀ ts,f ts=g ts) (hg:Loc q g):Loc q f:=(funext h:f=g) ▸ hg
theorem Al.k {ts us:List Tk} (h:Al q ts us):(nowP ts).1=(nowP us).1:=h.now.1.1
theorem Al.t {ts us:List Tk} (h:Al q ts us):(nowP ts).2.1=(nowP us).2.1:=h.now.1.2
theorem sign_end {lvl:Int} {ts:List Tk} (h:EndL ts):∀ l,signF lvl ts l=(0,ts)
 | []=>rfl
 | i :: l=>by
  obtain ⟨e,h1,rfl⟩:=h
  rw [signF,if_neg,sign_end ⟨e,h1,rfl⟩ l]
  rintro ⟨_,h2⟩
  simp [isP,nowP,h1] at h2
theorem sign_al {lvl:Int} {ts us:List Tk} (h:Al q ts us):∀ l,(signF lvl ts l).1=(signF lvl us l).1∧(((signF lvl ts l).2=ts∧(signF lvl us l).2=us)∨((signF lvl ts l).2=passP ts∧(signF lvl us l).2=passP us))
 | []=>⟨rfl,.inl ⟨rfl,rfl⟩⟩
 | i :: l=>by
  rw [signF,signF,h.is i.2.1]
  split
  ·exact ⟨rfl,.inr ⟨rfl,rfl⟩⟩
  ·exact sign_al h l
theorem loc_sign (lvl:Int):Loc q (fun ts=>.ok (signP lvl ts)) where
 e {ts x r} h H:=by
  have:signP lvl ts=(x,r):=by injection H
  rw [signP,sign_end h] at this;cases this;exact h
 a {ts us x r} h H:=by
  have h0:signP lvl ts=(x,r):=by injection H
  rw [signP] at h0;obtain ⟨h1,h2⟩:=sign_al (lvl:=lvl) h infL;rw [h0] at h1 h2;have e1:signP lvl us=(x,(signF lvl us infL).2):=by rw [signP]; exact Prod.ext h1.symm rfl
  rcases h2 with ⟨h2,h3⟩ | ⟨h2,h3⟩
  ·simp only at h2;subst h2;exact .inr ⟨us,h,by rw [e1,h3]⟩
  ·simp only at h2;subst h2;rcases h.pass with hp | hp
   ·exact .inl hp.1
   ·exact .inr ⟨_,hp,by rw [e1,h3]⟩
 n H:=by cases H
theorem sign_zero {lvl:Int} {ts:List Tk}:∀ {l:List (Int × ByteArray × Int)},(∀ i ∈ l,i.1≠0)→(signF lvl ts l).1=0→(signF lvl ts l).2=ts
 | [],_,_=>rfl
 | i :: l,h,h0=>by
  rw [signF] at h0 ⊢
  split at h0
  ·exact absurd h0 (h i (by simp))
  ·rename_i hc
   rw [if_neg hc]
   exact sign_zero (fun i hi=>h i (by simp [hi])) h0
theorem sgnP_zero {lvl:Int} {ts:List Tk} (h:(signP lvl ts).1=0):(signP lvl ts).2=ts:=sign_zero (by intro i hi; simp only [infL,List.mem_cons,List.not_mem_nil,or_false] at hi; rcases hi with rfl | rfl | rfl | rfl | rfl | rfl | rfl | rfl | rfl | rfl | rfl | rfl <;> decide) h
theorem Loc.signed {lvl:Int} {x:α} {k:Int→List Tk→PR α} (hk:∀ y,Loc q (k y)):Loc q (fun ts=>if (signP lvl ts).1=0 then .ok (x,ts) else k (signP lvl ts).1 (signP lvl ts).2):=by
 refine .of (fun ts=>?_) (Loc.bnd (loc_sign lvl) (k:=fun y r=>if y=0 then .ok (x,r) else k y r) fun y=>Loc.ite (Loc.ok x) (hk y));show _=if (signP lvl ts).1=0 then Except.ok (x,(signP lvl ts).2) else k (signP lvl ts).1 (signP lvl ts).2
 split
 ·rename_i h; rw [sgnP_zero h]
 ·rfl
/-- All readings of expressions, with so much fuel. -/
structure LocE (q:List Tk) (n:Nat):Prop where
 expr:∀ o,Loc q (exprP n o)
 level:∀ l o,Loc q (levelP n l o)
 chain:∀ l o,Loc q (chainP n l o)
 loop:∀ l o x,Loc q (loopP n l o x)
 denied:∀ o,Loc q (deniedP n o)
 compared:∀ o,Loc q (comparedP n o)
 piece:∀ o,Loc q (pieceP n o)
 behind:∀ o l,Loc q (behindP n o l)
 exprs:∀ o l acc,Loc q (exprsP n o l acc)
 agg:∀ k o,Loc q (aggP n k o)
theorem Loc.fuel:Loc q (α:=α) (fun _=>fuelE):=.err
end
end Go.Proofs.YtoknmnngaackkaaGreatDoor
namespace Go.Proofs.YtoknmnngaackkaaGreatDoor
open Go.RowKit Go.Lib Go.Shelf
set_option maxRecDepth 100000
set_option maxHeartbeats 1000000

def stp (l:List UInt8):List UInt8:=l.drop (clsN blaB l)
def Go2 (q ts us:List Tk):Prop:=(EndL ts∧us=q)∨Al q ts us
theorem Go2.cons {q ts us:List Tk} {t u:Tk} (h1:SimT t u) (h2:t.1≠5) (h:Go2 q ts us):Go2 q (t :: ts) (u :: us):=by
 rcases h with ⟨⟨e,he,rfl⟩,rfl⟩ | h
 ·exact .inr (.one h1 h2 he)
 ·exact .inr (.cons h1 h2 h)
theorem LsE.one {α:Type} {En:EnT α} {size:Nat} {S:Nat→Prop} {W:World} {a:Option Addr} {x:α} (h:LsE En size S W a [x]):∃ b off cs,a=some ⟨b,off,none⟩∧AtL W b off cs∧En S W x cs:=by
 obtain ⟨b,off,cs,h1,h2,h3⟩:=h.get (i:=0) (by simp);refine ⟨b,off,cs,h1,?_,h3⟩
 simpa using h2
set_option maxHeartbeats 4000000

theorem chunk {α:Type} (l:List α) {c:Nat} (hc:0<c) (j:Nat):l[j]? = ((l.drop (j / c*c)).take c)[j % c]?:=by
 have hm:=Nat.mod_lt j hc;rw [List.getElem?_take_of_lt hm,List.getElem?_drop]
 congr 1
 rw [Nat.mul_comm];exact (Nat.div_add_mod j c).symm
theorem flat_chunk {α β:Type} {g:α→List β} {c:Nat} (hg:∀ x,(g x).length=c):∀ (l:List α) (i:Nat),((l.flatMap g).drop (i*c)).take c=match l[i]? with | some x=>g x | none=>[]
 | [],i=>by simp
 | x :: l,0=>by
  simp only [Nat.zero_mul,List.drop_zero,List.flatMap_cons,List.getElem?_cons_zero]
  rw [List.take_append_of_le_length (by rw [hg]; exact Nat.le_refl _),List.take_of_length_le (by rw [hg]; exact Nat.le_refl _)]
 | x :: l,i+1=>by
  rw [List.flatMap_cons,List.drop_append,List.getElem?_cons_succ,← flat_chunk hg l i]
  congr 1
  rw [hg,Nat.add_mul,Nat.one_mul,Nat.add_sub_cancel,List.drop_of_length_le (by rw [hg]; omega),List.nil_append]
abbrev strD (b:List UInt8):DataW Unit:=.lit (.string b)
abbrev strV (b:List UInt8):Value:=.string ⟨b.toArray⟩
theorem str_eq {s:ByteArray} {b:List UInt8} (h:s.data.toList=b):s=⟨b.toArray⟩:=by
 apply ByteArray.ext;apply Array.ext'
 simpa using h
theorem cells_of_strs {P:Program} {w:World} {base:Nat} {sp:Nat→Bool} {held:Bool} {fuel:Nat} {t e:TypeId} {n:Nat} {cs:List Value} {bs:List (List UInt8)} {p:List MemPlace} {enc:TypeId × Value→Unit}
  (ht:P.underlying t=some (.array n e)) (he:P.underlying e=some .string) (hce:P.cellsOf e=1) (hct:P.cellsOf t=n) (h:DataW.trod enc P w base sp held fuel t cs=some (.agg (bs.map strD),p)):∀ i,i<n→cs[i]? = (bs.map strV)[i]?:=by
 obtain ⟨xs,m,_,hx,hl,hn,hf⟩:=DataW.trod_array ht h;intro i hi;have h1:=hf i hi;rw [hce,List.getElem?_eq_getElem (by omega)] at h1;obtain ⟨s,hc,h2,_⟩:=DataW.trod_string he h1;have h3:cs[i]? = some (.string s):=by
  have:=congrArg (·[0]?) hc
  simpa [List.getElem?_take,List.getElem?_drop] using this
 have h4:(bs.map strD)[i]? = some (.lit (.string s.data.toList)):=by
  have e:=congrArg Prod.fst hx;have e:(DataW.agg (bs.map strD):DataW Unit) = .agg (xs.map (·.1)):=e;injection e with e
  rw [e,List.getElem?_map,List.getElem?_eq_getElem (by omega),h2];rfl
 rw [List.getElem?_map] at h4 ⊢;obtain ⟨b,hb,h5⟩:=Option.map_eq_some_iff.1 h4;rw [hb,h3];injection h5 with h5
 injection h5 with h5
 show some (Value.string s)=some (strV b);rw [str_eq h5.symm]
abbrev InfD (r:Int × List UInt8 × Int):DataW Unit:=.agg [.lit (.int .i64 r.1),.lit (.string r.2.1),.lit (.int .i64 r.2.2)]
abbrev InfV (r:Int × List UInt8 × Int):List Value:=[.int .i64 r.1,strV r.2.1,.int .i64 r.2.2]
theorem cells_of_infs {P:Program} {w:World} {base:Nat} {sp:Nat→Bool} {held:Bool} {fuel:Nat} {t e ti ts:TypeId} {f0 f1 f2:Field} {n:Nat} {cs:List Value} {rs:List (Int × List UInt8 × Int)} {p:List MemPlace} {enc:TypeId × Value→Unit}
  (ht:P.underlying t=some (.array n e)) (he:P.underlying e=some (.struct #[f0,f1,f2])) (hf0:f0.type=ti∧f0.offset=0) (hf1:f1.type=ts∧f1.offset=1) (hf2:f2.type=ti∧f2.offset=2) (hti:P.underlying ti=some (.int .i64)) (hts:P.underlying ts=some .string) (hce:P.cellsOf e=3) (hci:P.cellsOf ti=1) (hcs:P.cellsOf ts=1) (h:DataW.trod enc P w base sp held fuel t cs=some (.agg (rs.map InfD),p)):∀ j,j<n*3→cs[j]? = (rs.flatMap InfV)[j]?:=by
 obtain ⟨xs,m,_,hx,hl,hn,hf⟩:=DataW.trod_array ht h;have key:∀ i,i<n→(cs.drop (i*3)).take 3=((rs.flatMap InfV).drop (i*3)).take 3:=by
  intro i hi;have h1:=hf i hi;rw [hce,List.getElem?_eq_getElem (by omega)] at h1;obtain ⟨y0,y1,y2,m2,h2,h3,k0,k1,k2⟩:=Deep.trod_struct3 he h1;rw [hf0.1,hf0.2,hci] at k0;rw [hf1.1,hf1.2,hcs] at k1;rw [hf2.1,hf2.2,hci] at k2;obtain ⟨z0,c0,rfl,_⟩:=DataW.trod_int hti k0;obtain ⟨s,c1,rfl,_⟩:=DataW.trod_string hts k1;obtain ⟨z2,c2,rfl,_⟩:=DataW.trod_int hti k2;rw [hce] at h3;have h4:(cs.drop (i*3)).take 3 = [.int .i64 z0,.string s,.int .i64 z2]:=by
   generalize (cs.drop (i*3)).take 3=l at *
   match l,h3 with
   | [a,b,c],_ =>
    simp only [List.drop_zero,List.take_succ_cons,List.take_zero,List.drop_succ_cons,List.cons.injEq,and_true] at c0 c1 c2;rw [c0,c1,c2]
  have h5:(rs.map InfD)[i]? = some (.agg [.lit (.int .i64 z0),.lit (.string s.data.toList),.lit (.int .i64 z2)]):=by
   have e:=congrArg Prod.fst hx;have e:(DataW.agg (rs.map InfD):DataW Unit) = .agg (xs.map (·.1)):=e;injection e with e
   rw [e,List.getElem?_map,List.getElem?_eq_getElem (by omega),h2];rfl
  rw [List.getElem?_map] at h5;obtain ⟨r,hr,h6⟩:=Option.map_eq_some_iff.1 h5;rw [h4,flat_chunk (g:=InfV) (c:=3) (fun _=>rfl),hr];simp only [InfD,DataW.agg.injEq,List.cons.injEq,DataW.lit.injEq,Lit.int.injEq,Lit.string.injEq,true_and,and_true] at h6;obtain ⟨h7,h8,h9⟩:=h6;show _=InfV r;rw [str_eq h8.symm,← h7,← h9]
 intro j hj;rw [chunk cs (by decide:0<3),chunk (rs.flatMap InfV) (by decide:0<3),key (j / 3) (by omega)]
def sigBs:List (List UInt8):=[[60,62],[60,61],[62,61],[124,124],[60],[62],[61],[43],[45],[42],[40],[41],[44],[46],[59]]
def infRs:List (Int × List UInt8 × Int):=[(5,[111,114],1),(4,[97,110,100],2),(6,[61],4),(7,[60,62],4),(8,[60],4),(9,[60,61],4),(10,[62],4),(11,[62,61],4),(12,[43],5),(13,[45],5),(14,[42],6),(15,[124,124],7)]
set_option maxHeartbeats 8000000

def EnC:EnT (Int × ByteArray):=fun _ _ x cs=>cs = [.int .i64 x.1,.string x.2]
theorem enC:EnOk EnC:=⟨fun _ h=>h,fun _ h=>h⟩
theorem wordOf2_at (t:Int) (l:List (Int × ByteArray)) (hl:l.length≤1000) (a:Option Addr) (c:Nat) (S:Nat→Prop) {w:World} (h:LsE EnC 2 S w a l):Calls Tryz.prog 87 #[.slice a l.length c,.int .i64 t] w fun e w'=>e = .returned (.string (wordL t l))∧Below w.heap.size w w':=by
 generalize hM:wordL t l=M;have HM:Hid (wordL t (l.drop 0)=M):=hM;have HK:Hid (LsE EnC 2 S w a l):=h;clear hM h;go_enter Tryz.func87,Tryz.ntmps87;go_wp2_with fail
 go_loopw [9] (fun jv wr=>∃ k:Nat,k≤l.length∧jv = .int .i64 k∧Hid (wordL t (l.drop k)=M)∧Below w.heap.size w wr) (fun jv _=>l.length - (RowKit.intOf jv).toNat)
 case atStart=>exact ⟨0,by omega,rfl,HM,Below.refl _ _⟩
 case round =>
  clear HM;obtain ⟨k,hk,rfl,HL,hx⟩:=hrel;by_cases hlt:k<l.length
  ·have hkz:(k:Int)<(l.length:Int):=by omega
   obtain ⟨b,off,_,rfl,t1,rfl⟩:=(HK.out.nx enC hx).get hlt;have c0:wr.cell? ⟨b,off+k*2,none⟩=some (.int .i64 l[k].1):=t1.2 0 _ rfl;have c1:wr.cell? ⟨b,off+k*2+1,none⟩=some (.string l[k].2):=t1.2 1 _ rfl;have hL:=HL.out;rw [List.drop_eq_getElem_cons hlt,wordL] at hL;generalize l[k]=y at *;have HL2:Hid _:=hL;have hal:Below wr.heap.size wr (wr.alloc (.cells #[.int .i64 y.1,.string y.2] 168)):=(Below.refl _ _).alloc (Nat.le_refl _) _;have QY:=heap_new wr #[.int .i64 y.1,.string y.2] 168;clear HL hL t1;go_upto_region 4 with fail
   generalize wr.alloc (.cells #[.int .i64 y.1,.string y.2] 168)=wa at *;have y0:wa.cell? ⟨wr.heap.size,0,none⟩=some (.int .i64 y.1):=cell_of (i:=0) QY rfl;have y1:wa.cell? ⟨wr.heap.size,1,none⟩=some (.string y.2):=cell_of (i:=1) QY rfl;clear c0 c1;by_cases he:y.1=t
   ·have b1:(y.1 == t)=true:=by simpa using he
    have e:M=y.2:=by rw [← HL2.out,if_pos he]
    have E:Hid (M=y.2):=e;clear HL2 he e;go_wp2_with fail
    exact bodyPost_ret (results_tmp rfl _ _ _) rfl ⟨by rw [E.out]; rfl,chain hx hal⟩
   ·have b1:(y.1 == t)=false:=by simpa using he
    have HL3:Hid (wordL t (l.drop (k+1))=M):=by show _=_; rw [← HL2.out,if_neg he]
    clear HL2 he;go_wp2_with fail
    go_roundw
    case rel=>exact ⟨k+1,by omega,by go_num,HL3,chain hx hal⟩
    case measure=>simp [RowKit.intOf]; omega
  ·have hkz:¬ (k:Int)<(l.length:Int):=by omega
   have e:M=⟨#[]⟩:=by rw [← HL.out,List.drop_eq_nil_of_le (by omega)]; rfl
   have E:Hid (M=⟨#[]⟩):=e;clear HL e;go_wp2_with fail
   exact bodyPost_ret (results_tmp rfl _ _ _) rfl ⟨by rw [E.out]; rfl,hx⟩
def calC (l:List (Int × ByteArray)):List Value:=l.flatMap fun x=>[.int .i64 x.1,.string x.2]
theorem calC_at {w:World} {g:Nat} {l:List (Int × ByteArray)} (h:w.heap[g]? = some (.cells (calC l).toArray 168 (0,0))):LsE EnC 2 (fun b=>b=g) w (some ⟨g,0,none⟩) l:=by
 refine .inr ⟨g,0,rfl,rfl,lt_of_heap h,fun i hi=>⟨_,rfl,fun j u hu=>?_,rfl⟩⟩;have hj:j<2:=by
  rcases Nat.lt_or_ge j 2 with h | h
  ·exact h
  ·rw [List.getElem?_eq_none (by simpa using h)] at hu; cases hu
 refine cell_of (i:=0+i*2+j) h ?_;have:=flat_chunk (g:=fun x:Int × ByteArray=>[Value.int .i64 x.1,Value.string x.2]) (c:=2) (fun _=>rfl) l i;rw [List.getElem?_eq_getElem hi] at this;simp only at this;rw [Nat.zero_add,List.getElem?_toArray,← hu,← this,List.getElem?_take_of_lt hj,List.getElem?_drop];rfl
def ag2L:List (Int × ByteArray):=[(20,⟨#[99,111,117,110,116]⟩),(21,⟨#[115,117,109]⟩),(22,⟨#[109,105,110]⟩),(23,⟨#[109,97,120]⟩)]
def tpL:List (Int × ByteArray):=[(2,⟨#[98,111,111,108]⟩),(3,⟨#[105,110,116]⟩),(4,⟨#[116,101,120,116]⟩)]
def joL:List (Int × ByteArray):=[(3,⟨#[115,101,109,105]⟩),(4,⟨#[97,110,116,105]⟩),(5,⟨#[108,101,102,116]⟩)]
def CEndT (l:List (Int × ByteArray)) (w:World) (e:Ending) (w':World):Prop:=∃ g,e = .returned (.slice (some ⟨g,0,none⟩) l.length l.length)∧w'.heap[g]? = some (.cells (calC l).toArray 168 (0,0))∧w.heap.size≤g∧Below w.heap.size w w'
theorem aggs2_at (w:World):Calls Tryz.prog 175 #[] w (CEndT ag2L w):=by
 go_enter Tryz.func175,Tryz.ntmps175;go_wp2_with fail
 exact bodyPost_ret (results_tmp rfl _ _ _) rfl ⟨w.heap.size,by first | rfl | trivial,heap_new w _ _,Nat.le_refl _,(Below.refl _ _).alloc (Nat.le_refl _) _⟩
theorem types2_at (w:World):Calls Tryz.prog 88 #[] w (CEndT tpL w):=by
 go_enter Tryz.func88,Tryz.ntmps88;go_wp2_with fail
 exact bodyPost_ret (results_tmp rfl _ _ _) rfl ⟨w.heap.size,by first | rfl | trivial,heap_new w _ _,Nat.le_refl _,(Below.refl _ _).alloc (Nat.le_refl _) _⟩
theorem joins2_at (w:World):Calls Tryz.prog 144 #[] w (CEndT joL w):=by
 go_enter Tryz.func144,Tryz.ntmps144;go_wp2_with fail
 exact bodyPost_ret (results_tmp rfl _ _ _) rfl ⟨w.heap.size,by first | rfl | trivial,heap_new w _ _,Nat.le_refl _,(Below.refl _ _).alloc (Nat.le_refl _) _⟩

theorem ws_at {W:World} {PB:Nat} {v:Value} {g:Nat} {ws:List ByteArray} (h:W.heap[g]? = some (.cells (ws.map Value.string).toArray 9 (0,0))) (hn:g≠PB) (ho:v.ownBlock≠some g):LsE EnS 1 (fun b=>b≠PB∧v.ownBlock≠some b) W (some ⟨g,0,none⟩) ws:=by
 refine .inr ⟨g,0,rfl,⟨hn,ho⟩,lt_of_heap h,fun i hi=>⟨[.string ws[i]],rfl,fun j u hu=>?_,rfl⟩⟩
 match j,hu with
 | 0,hu =>
  cases hu;have:(0+i*1+0)=i:=by omega
  rw [this];exact cell_of (i:=i) h (by simp [hi])
 | j+1,hu=>simp at hu
def colmW (x:Col):List ByteArray:=[x.1,wordL x.2 tpL]
theorem column2_at (x:Col) {PB:Nat} {v:Value} {bs:List UInt8} {w:World} (hG:GP w PB) (hP:PrAt w PB v bs) (hb:(sayL bs (colmW x)).length≤Lim):Calls Tryz.prog 59 #[.pointer (some ⟨PB,0,none⟩),.agg #[.string x.1,.int .i64 x.2]] w (PEnds w PB v (sayL bs (colmW x))):=by
 rw [colmW] at hb ⊢;have Hb:Hid _:=hb;clear hb;have hal:Below w.heap.size w (w.alloc (.cells #[.string x.1,.int .i64 x.2] 69)):=(Below.refl _ _).alloc (Nat.le_refl _) _;have B0:Hid (Bx (w.alloc (.cells #[.string x.1,.int .i64 x.2] 69)) PB v w.heap.size #[.string x.1,.int .i64 x.2] 69):=Bx.new hP #[.string x.1,.int .i64 x.2] 69;have P0:Hid (PrAt (w.alloc (.cells #[.string x.1,.int .i64 x.2] 69)) PB v bs):=hP.next hal;have S0:Hid (St PB v w v (w.alloc (.cells #[.string x.1,.int .i64 x.2] 69))):=St.of hal hP.lt
 have G0:Hid (GP (w.alloc (.cells #[.string x.1,.int .i64 x.2] 69)) PB):=hG.nx hal hP.lt;clear hP hG hal;go_enter Tryz.func59,Tryz.ntmps59;go_upto_region 1 with fail
 generalize (w.alloc (.cells #[.string x.1,.int .i64 x.2] 69))=w0 at *;obtain ⟨C,hCC,hCP,hC0⟩:∃ C:World→Prop,(∀ W W':World,C W→Below W.heap.size W W'→C W')∧(∀ W,C W↔Blk W (w.heap.size) #[.string x.1,.int .i64 x.2] 69)∧C w0:=⟨fun W=>Blk W (w.heap.size) #[.string x.1,.int .i64 x.2] 69,fun W W' h hb=>h.nx hb,fun _=>Iff.rfl,B0.out.q⟩
 have hdr:Below w0.heap.size w0 w0.drew:=(Below.refl _ _).drew;have CW:=hCC _ _ hC0 hdr;clear hC0;refine wp_region_cls C (by kernel_rfl) ?_;refine wpY_take hCC (some 4) (i:=0) (v:=.pointer (some ⟨PB,0,none⟩)) rfl rfl (by kernel_rfl) (by kernel_rfl) (by kernel_rfl) (fun _ _ _ h=>h) (Or.inl ⟨rfl,fun n hn=>?_⟩) CW ?_
 ·go_simp
 simp only [Act.put,pA,pB,pC];refine wpY_take hCC (some 5) (i:=1) (v:=.pointer (some ⟨w.heap.size,0,none⟩)) rfl rfl (by kernel_rfl) (by kernel_rfl) (by kernel_rfl) (fun _ _ _ h=>h) (Or.inl ⟨rfl,fun n hn=>?_⟩) CW ?_
 ·go_simp
 simp only [Act.put,pA,pB,pC];refine wpY_take hCC (some 6) (i:=2) (v:=.string x.1) rfl rfl (by kernel_rfl) (by kernel_rfl) (by kernel_rfl) (fun _ _ _ h=>h) (Or.inl ⟨rfl,fun n hn=>?_⟩) CW ?_
 ·have z0:n.cell? ⟨w.heap.size,0,none⟩=some (.string x.1):=((hCP n).1 hn).c 0 rfl;go_simp
 simp only [Act.put,pA,pB,pC];refine wpY_take hCC (some 8) (i:=4) (v:=.pointer (some ⟨w.heap.size,1,none⟩)) rfl rfl (by kernel_rfl) (by kernel_rfl) (by kernel_rfl) (fun _ _ _ h=>h) (Or.inl ⟨rfl,fun n hn=>?_⟩) CW ?_
 ·go_simp
 simp only [Act.put,pA,pB,pC];refine wpY_take hCC (some 9) (i:=5) (v:=.int .i64 x.2) rfl rfl (by kernel_rfl) (by kernel_rfl) (by kernel_rfl) (fun _ _ _ h=>h) (Or.inl ⟨rfl,fun n hn=>?_⟩) CW ?_
 ·have z0:n.cell? ⟨w.heap.size,1,none⟩=some (.int .i64 x.2):=((hCP n).1 hn).c 1 rfl;go_simp
 simp only [Act.put,pA,pB,pC];refine wpY_step (rs:=[3]) (by kernel_rfl) (by simp) ?_;intro w5 hb5 jj hj;obtain rfl:jj=3:=by simpa using hj
 clear hj;have D5:=chain hdr hb5;have con:=types2_at w5;refine wpOp_step rfl (fun K hK=>?_);go_simp;refine con.mono ?_;rintro e w6 ⟨g6,rfl,q6,_,hb6⟩;have CW6:=hCC _ _ (hCC _ _ CW hb5) hb6;refine hK _ _ ⟨CW6,?_⟩;clear hK K con CW;have D6:=chain D5 hb6;clear hb6 D5 hb5;try simp only [Act.put,pA,pB,pC]
 refine wpY_step (rs:=[6]) (by kernel_rfl) (by simp) ?_;intro w7 hb7 jj hj;obtain rfl:jj=6:=by simpa using hj
 clear hj;have q7:=(hb7.block _ (lt_of_heap q6)).trans q6;have con:=wordOf2_at (x.2) tpL (by decide) (some ⟨g6,0,none⟩) tpL.length _ (calC_at q7);refine wpOp_step rfl (fun K hK=>?_);go_simp;refine con.mono ?_;rintro e w8 ⟨rfl,hb8⟩;have CW8:=hCC _ _ (hCC _ _ CW6 hb7) hb8;refine hK _ _ ⟨CW8,?_⟩;have D8:=chain D6 (chain hb7 hb8);clear hK K con CW6 hb7 hb8 D6 q6 q7;generalize (wordL x.2 tpL)=wd at *;try simp only [Act.put,pA,pB,pC]
 refine wpY_step (rs:=[7]) (by kernel_rfl) (by simp) ?_;intro w9 hb9 jj hj;obtain rfl:jj=7:=by simpa using hj
 clear hj;refine wpOp_step rfl (fun K hK=>?_);go_simp;have hal:Below w9.heap.size w9 (w9.alloc (.cells #[.string x.1,.string wd] 9)):=(Below.refl _ _).alloc (Nat.le_refl _) _;have q9:=heap_new w9 #[.string x.1,.string wd] 9;have CW9:=hCC _ _ (hCC _ _ CW8 hb9) hal;have D9a:=chain D8 hb9;have D9:=chain D9a hal;refine hK _ _ ⟨CW9,?_⟩;have n9:w9.heap.size≠PB:=by have:=(P0.out.next D9a).lt; omega
 have o9:v.ownBlock≠some w9.heap.size:=(P0.out.next D9a).nown (Nat.le_refl _);generalize w9.alloc (.cells #[.string x.1,.string wd] 9)=wA at *;clear hK K CW8 hb9 D8 D9a hal;try simp only [Act.put,pA,pB,pC]
 refine wpY_step (rs:=[8]) (by kernel_rfl) (by simp) ?_;intro wB hbB jj hj;obtain rfl:jj=8:=by simpa using hj
 clear hj;have DB:=chain D9 hbB;have qB:=(hbB.block _ (lt_of_heap q9)).trans q9;have con:Calls Tryz.prog 57 #[.pointer (some ⟨PB,0,none⟩),.slice (some ⟨w9.heap.size,0,none⟩) 2 2] wB (PEnds wB PB v (sayL bs [x.1,wd])):=say_at [x.1,wd] (P0.out.next DB) (ws_at (ws:=[x.1,wd]) qB n9 o9) (Hb.out) (by simp);refine wpOp_step rfl (fun K hK=>?_);go_simp;refine con.mono ?_;rintro e wC ⟨rfl,vC,PC,SC⟩;have SB:St PB v w0 v wB:=St.of DB P0.out.lt;refine hK _ _ ⟨(hCP _).2 ((B0.out.st SB).st SC).q,?_⟩;refine wpY_done (by kernel_rfl) ?_;intro wD hbD
 have S_:St PB v w0 vC wD:=SB.trans (SC.trans (St.of hbD PC.lt));have P2:Hid (PrAt wD PB vC (sayL bs ([x.1,wd]))):=by show PrAt _ _ _ _; exact PC.next hbD
 have S3:Hid (St PB v w vC wD):=S0.out.trans S_;have G4:Hid (GP wD PB):=G0.out.st S_;have B5:Hid (Bx wD PB vC (w.heap.size) #[.string x.1,.int .i64 x.2] 69):=B0.out.st S_;clear con hK K CW9 hCC hCP q9 qB n9 o9 SB SC PC S_ DB D9 hdr hbB hbD P0 S0 G0 B0;go_wp2_with fail
 go_end0
 exact ⟨rfl,vC,P2.out,S3.out⟩
end Go.Proofs.YtoknmnngaackkaaGreatDoor
