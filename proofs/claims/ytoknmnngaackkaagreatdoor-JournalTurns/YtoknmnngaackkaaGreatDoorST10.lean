/- Together: DO, DP, DQ, DR, DS, DT, DU, RT0, DV. -/
import Derived.Deep.LoopGhost
import Derived.Lib.ItoaLen
import Derived.Laws.IdiomStrings
import Derived.Lib.BufferRead
import Derived.Test.YtoknmnngaackkaaGreatDoorST9
import Derived.Test.YtoknmnngaackkaaGreatDoorST0
namespace Go.Proofs.YtoknmnngaackkaaGreatDoor
open Go.RowKit Go.Lib Go.Shelf
set_option maxRecDepth 100000
set_option maxHeartbeats 16000000
set_option maxRecDepth 100000
set_option maxHeartbeats 8000000
theorem vP (x:Src) (hx:qm x.on) (a:Option Addr) (c:Nat) {PB:Nat} {v:Value} {bs:List UInt8} {w:World} (hG:GP w PB) (hP:aF w PB v bs) (hk:aJ (fun b=>b<PB) w a x.on.ks) (hb:(aE bs (iD false x)).length≤gZ):Calls Tryz.prog 119 #[af PB 0,.agg (kj x a c),false] w (bU w PB v (aE bs (iD false x))):=by
 have HO:=ah hx;clear hx;by_cases h2:x.kind=2
 ·have ev:iD false x = [] ++ [⟨#[106,111,105,110]⟩] ++ [x.name] ++ kR x.alias ++ ([⟨#[111,110]⟩] ++ bY x.on):=by unfold iD; simp only [Jd,if_false,if_pos h2]
  rw [ev] at hb ⊢;clear ev;have b2:(x.kind != 2)=false:=by simpa using h2
  clear h2;have Hb:=ah hb;clear hb;have hal:=bR w (.cells (kj x a c) 105);have B0:=ah (Bx.new hP (kj x a c) 105);have P0:=ah (hP.next hal);have S0:Hid (St PB v w v (w.alloc (.cells (kj x a c) 105))):=St.of hal hP.lt;have G0:=ah (hG.nx hal hP.lt);have L00:=ah (aJ.next hal hk);clear hP hG hal hk
  go_enter Tryz.func119,Tryz.ntmps119;go_upto_region 1 with fail
  generalize w.alloc _=w0 at *;go_upto_region 2 with fail
  obtain ⟨C,hCC,hCP,hC0⟩:∃ C:World→Prop,(∀ W W':World,C W→Below W W W'→C W')∧(∀ W,C W↔gB W (w.heap.size) (kj x a c) 105)∧C w0:=⟨fun W=>gB W (w.heap.size) (kj x a c) 105,fun W W' h hb=>h.nx hb,fun _=>Iff.rfl,B0.out.q⟩
  have hdr:Below w0 w0 w0.drew:=(I8 _ _).drew;have CW:=hCC _ _ hC0 hdr;clear hC0;refine bX C bm ?_;refine cT hCC 8 0 (af PB 0) (fun n hn=>?_) CW ?_
  ·go_simp
  simp only [Act.put,pA,pB,pC];refine cT hCC 9 1 (af w 0) (fun n hn=>?_) CW ?_
  ·go_simp
  simp only [Act.put,pA,pB,pC];refine cT hCC 10 2 x.kind (fun n hn=>?_) CW ?_
  ·have z0:=((hCP n).1 hn).c 0 rfl;go_simp
  simp only [Act.put,pA,pB,pC];refine cT hCC 11 3 false (fun n hn=>?_) CW ?_
  ·go_simp
  simp only [Act.put,pA,pB,pC];refine cT hCC 13 5 (af w 0) (fun n hn=>?_) CW ?_
  ·go_simp
  simp only [Act.put,pA,pB,pC];refine cT hCC 14 6 x.kind (fun n hn=>?_) CW ?_
  ·have z0:=((hCP n).1 hn).c 0 rfl;go_simp
  simp only [Act.put,pA,pB,pC];refine pN 4 bm fun w5 hb5=>?_
  have D5:=chain hdr hb5;have con:=ql w5;refine wpOp_step rfl (fun K hK=>?_);go_simp;refine con.mono ?_;rintro e w6 ⟨g6,rfl,q6,_,hb6⟩;have CW6:=hCC _ _ (hCC _ _ CW hb5) hb6;refine hK _ _ ⟨CW6,?_⟩;clear hK K con CW;have D6:=chain D5 hb6;clear hb6 D5 hb5;try simp only [Act.put,pA,pB,pC]
  refine pN 7 bm fun w7 hb7=>?_
  have q7:=bH hb7 q6;have con:=jZ (x.kind) zl (by decide) (some (af g6 0)) zl.length _ (nL q7);refine wpOp_step rfl (fun K hK=>?_);go_simp;refine cR con fun w8 hb8=>?_;have CW8:=hCC _ _ (hCC _ _ CW6 hb7) hb8;refine hK _ _ ⟨CW8,?_⟩;have D8:=chain D6 (chain hb7 hb8);clear hK K con CW6 hb7 hb8 D6 q6 q7;generalize (cW x.kind zl)=wd at *;try simp only [Act.put,pA,pB,pC]
  refine pN 8 bm fun wB hbB=>?_
  have DB:=chain D8 hbB;have con:=dU false wd (P0.out.next DB) (dx (dx (dx (dx (Hb.out)))));refine wpOp_step rfl (fun K hK=>?_);go_simp;refine con.mono ?_;rintro e wC ⟨rfl,vC,PC,SC⟩;have SB:St PB v w0 v wB:=St.of DB P0.out.lt;refine hK _ _ ⟨(hCP _).2 ((B0.out.st SB).st SC).q,?_⟩;refine eK bm ?_;intro wD hbD;have S_:=SB.trans (SC.trans (St.of hbD PC.lt))
  have P1:Hid (aF wD PB vC (aE bs ([]))):=by show aF _ _ _ _; exact PC.next hbD
  have S2:=ah (S0.out.trans S_);have G3:=ah (G0.out.st S_);have B4:=ah (B0.out.st S_);have L5:=ah (aJ.cE L00.out S_);clear con hK K CW8 hCC hCP SB SC PC S_ DB D8 hdr hbB hbD P0 S0 G0 B0 L00
  have con6:=bq [⟨#[106,111,105,110]⟩] P1.out (by rw [← an]; exact dx (dx (dx (Hb.out)))) (by simp);go_wp2_with fail
  refine con6.mono ?_;rintro e w7 ⟨rfl,v8,P_,S_⟩;have P9:Hid (aF w7 PB v8 (aE bs ([] ++ [⟨#[106,111,105,110]⟩]))):=by show aF _ _ _ _; rw [an]; exact P_
  have S10:=ah (S2.out.trans S_);have G11:=ah (G3.out.st S_);have B12:=ah (B4.out.st S_);have L13:=ah (aJ.cE L5.out S_);clear con6 P_ S_  P1 S2 G3 B4 L5;have f14:=B12.out.c 1 rfl
  have con15:=bq [x.name] P9.out (by rw [← an]; exact dx (dx (Hb.out))) (by simp);go_wp2_with fail
  refine con15.mono ?_;rintro e w16 ⟨rfl,v17,P_,S_⟩;have P18:Hid (aF w16 PB v17 (aE bs ([] ++ [⟨#[106,111,105,110]⟩] ++ [x.name]))):=by show aF _ _ _ _; rw [an]; exact P_
  have S19:=ah (S10.out.trans S_);have G20:=ah (G11.out.st S_);have B21:=ah (B12.out.st S_);have L22:=ah (aJ.cE L13.out S_);clear con15 P_ S_ f14 P9 S10 G11 B12 L13;have f23:=B21.out.c 2 rfl
  have con24:=jU x.alias (P18.out) (by rw [← an]; exact dx (Hb.out));go_wp2_with fail
  refine con24.mono ?_;rintro e w25 ⟨rfl,v26,P_,S_⟩;have P27:Hid (aF w25 PB v26 (aE bs ([] ++ [⟨#[106,111,105,110]⟩] ++ [x.name] ++ kR x.alias))):=by show aF _ _ _ _; rw [an]; exact P_
  have S28:=ah (S19.out.trans S_);have G29:=ah (G20.out.st S_);have B30:=ah (B21.out.st S_);have L31:=ah (aJ.cE L22.out S_);clear con24 P_ S_ f23 P18 S19 G20 B21 L22;have f32:=B30.out.c 3 rfl;have f33:=B30.out.c 4 rfl;have f34:=B30.out.c 5 rfl
  have f35:=B30.out.c 6 rfl;have f36:=B30.out.c 7 rfl;have f37:=B30.out.c 8 rfl;have f38:=B30.out.c 9 rfl
  have con39:=ey ⟨#[111,110]⟩ true x.on (fun _=>HO.out) a c (G29.out) (P27.out) L31.out (by rw [← an]; exact Hb.out);go_wp2_with fail
  refine con39.mono ?_;rintro e w40 ⟨rfl,v41,P_,S_⟩;have P42:Hid (aF w40 PB v41 (aE bs ([] ++ [⟨#[106,111,105,110]⟩] ++ [x.name] ++ kR x.alias ++ ([⟨#[111,110]⟩] ++ bY x.on)))):=by show aF _ _ _ _; rw [an]; exact P_
  have S43:=ah (S28.out.trans S_);have G44:=ah (G29.out.st S_);have B45:=ah (B30.out.st S_);have L46:=ah (aJ.cE L31.out S_);clear con39 P_ S_ f32 f33 f34 f35 f36 f37 f38 P27 S28 G29 B30 L31;go_wp2_with fail
  go_end0
  exact ⟨rfl,v41,P42.out,S43.out⟩
 ·have ev:iD false x = [cW x.kind zl] ++ [⟨#[106,111,105,110]⟩] ++ [x.name] ++ kR x.alias ++ ([⟨#[111,110]⟩] ++ bY x.on):=by unfold iD; simp only [Jd,if_false,if_neg h2]
  rw [ev] at hb ⊢;clear ev;have b2:(x.kind != 2)=true:=by simpa using h2
  clear h2;have Hb:=ah hb;clear hb;have hal:=bR w (.cells (kj x a c) 105);have B0:=ah (Bx.new hP (kj x a c) 105);have P0:=ah (hP.next hal);have S0:Hid (St PB v w v (w.alloc (.cells (kj x a c) 105))):=St.of hal hP.lt;have G0:=ah (hG.nx hal hP.lt);have L00:=ah (aJ.next hal hk);clear hP hG hal hk
  go_enter Tryz.func119,Tryz.ntmps119;go_upto_region 1 with fail
  generalize w.alloc _=w0 at *;go_upto_region 2 with fail
  obtain ⟨C,hCC,hCP,hC0⟩:∃ C:World→Prop,(∀ W W':World,C W→Below W W W'→C W')∧(∀ W,C W↔gB W (w.heap.size) (kj x a c) 105)∧C w0:=⟨fun W=>gB W (w.heap.size) (kj x a c) 105,fun W W' h hb=>h.nx hb,fun _=>Iff.rfl,B0.out.q⟩
  have hdr:Below w0 w0 w0.drew:=(I8 _ _).drew;have CW:=hCC _ _ hC0 hdr;clear hC0;refine bX C bm ?_;refine cT hCC 8 0 (af PB 0) (fun n hn=>?_) CW ?_
  ·go_simp
  simp only [Act.put,pA,pB,pC];refine cT hCC 9 1 (af w 0) (fun n hn=>?_) CW ?_
  ·go_simp
  simp only [Act.put,pA,pB,pC];refine cT hCC 10 2 x.kind (fun n hn=>?_) CW ?_
  ·have z0:=((hCP n).1 hn).c 0 rfl;go_simp
  simp only [Act.put,pA,pB,pC];refine cT hCC 11 3 true (fun n hn=>?_) CW ?_
  ·go_simp
  simp only [Act.put,pA,pB,pC];refine cT hCC 13 5 (af w 0) (fun n hn=>?_) CW ?_
  ·go_simp
  simp only [Act.put,pA,pB,pC];refine cT hCC 14 6 x.kind (fun n hn=>?_) CW ?_
  ·have z0:=((hCP n).1 hn).c 0 rfl;go_simp
  simp only [Act.put,pA,pB,pC];refine pN 4 bm fun w5 hb5=>?_
  have D5:=chain hdr hb5;have con:=ql w5;refine wpOp_step rfl (fun K hK=>?_);go_simp;refine con.mono ?_;rintro e w6 ⟨g6,rfl,q6,_,hb6⟩;have CW6:=hCC _ _ (hCC _ _ CW hb5) hb6;refine hK _ _ ⟨CW6,?_⟩;clear hK K con CW;have D6:=chain D5 hb6;clear hb6 D5 hb5;try simp only [Act.put,pA,pB,pC]
  refine pN 7 bm fun w7 hb7=>?_
  have q7:=bH hb7 q6;have con:=jZ (x.kind) zl (by decide) (some (af g6 0)) zl.length _ (nL q7);refine wpOp_step rfl (fun K hK=>?_);go_simp;refine cR con fun w8 hb8=>?_;have CW8:=hCC _ _ (hCC _ _ CW6 hb7) hb8;refine hK _ _ ⟨CW8,?_⟩;have D8:=chain D6 (chain hb7 hb8);clear hK K con CW6 hb7 hb8 D6 q6 q7;generalize (cW x.kind zl)=wd at *;try simp only [Act.put,pA,pB,pC]
  refine pN 8 bm fun wB hbB=>?_
  have DB:=chain D8 hbB;have con:=dU true wd (P0.out.next DB) (dx (dx (dx (dx (Hb.out)))));refine wpOp_step rfl (fun K hK=>?_);go_simp;refine con.mono ?_;rintro e wC ⟨rfl,vC,PC,SC⟩;have SB:St PB v w0 v wB:=St.of DB P0.out.lt;refine hK _ _ ⟨(hCP _).2 ((B0.out.st SB).st SC).q,?_⟩;refine eK bm ?_;intro wD hbD;have S_:=SB.trans (SC.trans (St.of hbD PC.lt))
  have P47:Hid (aF wD PB vC (aE bs ([wd]))):=by show aF _ _ _ _; exact PC.next hbD
  have S48:=ah (S0.out.trans S_);have G49:=ah (G0.out.st S_);have B50:=ah (B0.out.st S_);have L51:=ah (aJ.cE L00.out S_);clear con hK K CW8 hCC hCP SB SC PC S_ DB D8 hdr hbB hbD P0 S0 G0 B0 L00
  have con52:=bq [⟨#[106,111,105,110]⟩] P47.out (by rw [← an]; exact dx (dx (dx (Hb.out)))) (by simp);go_wp2_with fail
  refine con52.mono ?_;rintro e w53 ⟨rfl,v54,P_,S_⟩;have P55:Hid (aF w53 PB v54 (aE bs ([wd] ++ [⟨#[106,111,105,110]⟩]))):=by show aF _ _ _ _; rw [an]; exact P_
  have S56:=ah (S48.out.trans S_);have G57:=ah (G49.out.st S_);have B58:=ah (B50.out.st S_);have L59:=ah (aJ.cE L51.out S_);clear con52 P_ S_  P47 S48 G49 B50 L51;have f60:=B58.out.c 1 rfl
  have con61:=bq [x.name] P55.out (by rw [← an]; exact dx (dx (Hb.out))) (by simp);go_wp2_with fail
  refine con61.mono ?_;rintro e w62 ⟨rfl,v63,P_,S_⟩;have P64:Hid (aF w62 PB v63 (aE bs ([wd] ++ [⟨#[106,111,105,110]⟩] ++ [x.name]))):=by show aF _ _ _ _; rw [an]; exact P_
  have S65:=ah (S56.out.trans S_);have G66:=ah (G57.out.st S_);have B67:=ah (B58.out.st S_);have L68:=ah (aJ.cE L59.out S_);clear con61 P_ S_ f60 P55 S56 G57 B58 L59;have f69:=B67.out.c 2 rfl
  have con70:=jU x.alias (P64.out) (by rw [← an]; exact dx (Hb.out));go_wp2_with fail
  refine con70.mono ?_;rintro e w71 ⟨rfl,v72,P_,S_⟩;have P73:Hid (aF w71 PB v72 (aE bs ([wd] ++ [⟨#[106,111,105,110]⟩] ++ [x.name] ++ kR x.alias))):=by show aF _ _ _ _; rw [an]; exact P_
  have S74:=ah (S65.out.trans S_);have G75:=ah (G66.out.st S_);have B76:=ah (B67.out.st S_);have L77:=ah (aJ.cE L68.out S_);clear con70 P_ S_ f69 P64 S65 G66 B67 L68;have f78:=B76.out.c 3 rfl;have f79:=B76.out.c 4 rfl;have f80:=B76.out.c 5 rfl
  have f81:=B76.out.c 6 rfl;have f82:=B76.out.c 7 rfl;have f83:=B76.out.c 8 rfl;have f84:=B76.out.c 9 rfl
  have con85:=ey ⟨#[111,110]⟩ true x.on (fun _=>HO.out) a c (G75.out) (P73.out) L77.out (by rw [← an]; exact Hb.out);go_wp2_with fail
  refine con85.mono ?_;rintro e w86 ⟨rfl,v87,P_,S_⟩;have P88:Hid (aF w86 PB v87 (aE bs ([wd] ++ [⟨#[106,111,105,110]⟩] ++ [x.name] ++ kR x.alias ++ ([⟨#[111,110]⟩] ++ bY x.on)))):=by show aF _ _ _ _; rw [an]; exact P_
  have S89:=ah (S74.out.trans S_);have G90:=ah (G75.out.st S_);have B91:=ah (B76.out.st S_);have L92:=ah (aJ.cE L77.out S_);clear con85 P_ S_ f78 f79 f80 f81 f82 f83 f84 P73 S74 G75 B76 L77;go_wp2_with fail
  go_end0
  exact ⟨rfl,v87,P88.out,S89.out⟩
def lJ (b:Bool) (s:ByteArray):List ByteArray:=if b then [s] else []
theorem yf (has:Bool) (s:ByteArray) {PB:Nat} {v:Value} {bs:List UInt8} {w:World} (hP:aF w PB v bs) (hb:(aE bs (lJ has s)).length≤gZ):Calls Tryz.prog 86 #[af PB 0,has,s] w (bU w PB v (aE bs (lJ has s))):=dU has s hP hb
def ft (l:List Src):Nat→List ByteArray
 | 0=>[]
 | i+1=>ft l i ++ (match l[i]? with | some x=>iD (i == 0) x | none=>[])
theorem xn (bs:List UInt8) (l:List Src) (i:Nat):∀ n,i≤n→(aE bs (ft l i)).length≤(aE bs (ft l n)).length
 | 0,h=>by rw [Nat.le_zero.1 h]; exact I6 _
 | n+1,h=>by
  by_cases e:i=n+1
  ·rw [e]; exact I6 _
  ·refine Jj (xn bs l i n ak) ?_
   rw [ft,an]
   exact fX _ _
theorem Dr (l:List Src) (j:Nat) (h:j<l.length):ft l (j+1)=ft l j ++ iD (j == 0) l[j]:=by rw [ft,Je h]
def j5 (l:List SX):List ByteArray:=if l.length=0 then [] else [⟨#[103,114,111,117,112]⟩,⟨#[98,121]⟩] ++ dS bY l
def gu (x:dO):List ByteArray:=if x.star then [⟨#[42]⟩] else dS fw x.items
def gR (x:dO):List ByteArray:=[⟨#[115,101,108,101,99,116]⟩] ++ lJ x.distinct ⟨#[100,105,115,116,105,110,99,116]⟩ ++ gu x ++ [⟨#[102,114,111,109]⟩] ++ ft x.sources x.sources.length ++ fH ⟨#[119,104,101,114,101]⟩ x.ax x.au ++ j5 x.group ++ fH ⟨#[104,97,118,105,110,103]⟩ x.aG x.az
structure Ce (x:dO):Prop where
 items:x.star=false→x.items.length≤1000∧∀ y ∈ x.items,qm y.1
 sources:x.sources.length≤1000∧∀ (i:Nat) (h:i<x.sources.length),0<i→qm x.sources[i].on
 au:x.ax=true→qm x.au
 az:x.aG=true→qm x.az
 group:x.group.length≤1000∧∀ y ∈ x.group,qm y
theorem mh (x:dO) (ok:Ce x) (a1 a2 a3 a4 a5:Option Addr) (c1 c2 c3 c4 c5:Nat) {PB:Nat} {v:Value} {bs:List UInt8} {w:World} (hG:GP w PB) (hP:aF w PB v bs) (k1:bf kl 8 (fun b=>b<PB) w a1 x.items) (k2:bf gj 10 (fun b=>b<PB) w a2 x.sources) (k3:aJ (fun b=>b<PB) w a3 x.au.ks) (k4:aJ (fun b=>b<PB) w a4 x.az.ks) (k5:bf fu 7 (fun b=>b<PB) w a5 x.group) (hb:(aE bs (gR x)).length≤gZ):Calls Tryz.prog 90 #[af PB 0,.agg (iE x a1 a2 a3 a4 a5 c1 c2 c3 c4 c5)] w (bU w PB v (aE bs (gR x))):=by
 rw [gR] at hb ⊢;have hmf:∀ (fn:Fn) (first cap:Array Value) (w:World),(Instr.makeFunc fn first cap).run Tryz.prog w = .ok (.func fn first cap) w:=fun _ _ _ _=>rfl
 have HO:=ah ok;have ns:=ok.sources.1;clear ok;have Hb:=ah hb;clear hb;have hal:=bR w (.cells (iE x a1 a2 a3 a4 a5 c1 c2 c3 c4 c5) 79);have B0:=ah (Bx.new hP (iE x a1 a2 a3 a4 a5 c1 c2 c3 c4 c5) 79);have P0:=ah (hP.next hal)
 have S0:Hid (St PB v w v (w.alloc (.cells (iE x a1 a2 a3 a4 a5 c1 c2 c3 c4 c5) 79))):=St.of hal hP.lt;have G0:=ah (hG.nx hal hP.lt);have L00:=ah ((k1).nx fp hal);have L01:=ah ((k2).nx cU hal);have L02:=ah (aJ.next hal k3)
 have L03:=ah (aJ.next hal k4);have L04:=ah ((k5).nx b9 hal);clear hP hG hal k1 k2 k3 k4 k5;go_enter Tryz.func90,Tryz.ntmps90;go_upto_region 1 with fail
 generalize w.alloc _=w0 at *;have con1:=bq [⟨#[115,101,108,101,99,116]⟩] P0.out (dx (dx (dx (dx (dx (dx (dx (Hb.out)))))))) (by simp);go_wp2_with fail
 refine con1.mono ?_;rintro e w2 ⟨rfl,v3,P_,S_⟩;have P4:Hid (aF w2 PB v3 (aE bs ([⟨#[115,101,108,101,99,116]⟩]))):=P_;have S5:Hid (St PB v w v3 w2):=S0.out.trans S_;have G6:Hid (GP w2 PB):=G0.out.st S_;have B7:Hid (Bx w2 PB v3 (w.heap.size) (iE x a1 a2 a3 a4 a5 c1 c2 c3 c4 c5) 79):=B0.out.st S_;have L8:Hid (bf kl 8 (fun b=>b<PB) w2 a1 x.items):=(L00.out).cE fp S_;have L9:Hid (bf gj 10 (fun b=>b<PB) w2 a2 x.sources):=(L01.out).cE cU S_;have L10:Hid (aJ (fun b=>b<PB) w2 a3 x.au.ks):=aJ.cE L02.out S_;have L11:Hid (aJ (fun b=>b<PB) w2 a4 x.az.ks):=aJ.cE L03.out S_
 have L12:Hid (bf fu 7 (fun b=>b<PB) w2 a5 x.group):=(L04.out).cE b9 S_;clear con1 P_ S_  P0 S0 G0 B0 L00 L01 L02 L03 L04;have f13:w2.cell? (af w 0)=some (.bool x.distinct):=B7.out.c 0 rfl;have con14:Calls Tryz.prog 86 #[af PB 0,x.distinct,.string ⟨#[100,105,115,116,105,110,99,116]⟩] w2 (bU w2 PB v3 (aE (aE bs ([⟨#[115,101,108,101,99,116]⟩])) (lJ x.distinct ⟨#[100,105,115,116,105,110,99,116]⟩))):=yf x.distinct ⟨#[100,105,115,116,105,110,99,116]⟩ P4.out (by rw [← an]; exact dx (dx (dx (dx (dx (dx (Hb.out)))))))
 go_wp2_with fail
 refine con14.mono ?_;rintro e w15 ⟨rfl,v16,P_,S_⟩;have P17:Hid (aF w15 PB v16 (aE bs ([⟨#[115,101,108,101,99,116]⟩] ++ lJ x.distinct ⟨#[100,105,115,116,105,110,99,116]⟩))):=by show aF _ _ _ _; rw [an]; exact P_
 have S18:Hid (St PB v w v16 w15):=S5.out.trans S_;have G19:Hid (GP w15 PB):=G6.out.st S_;have B20:Hid (Bx w15 PB v16 (w.heap.size) (iE x a1 a2 a3 a4 a5 c1 c2 c3 c4 c5) 79):=B7.out.st S_;have L21:Hid (bf kl 8 (fun b=>b<PB) w15 a1 x.items):=(L8.out).cE fp S_;have L22:Hid (bf gj 10 (fun b=>b<PB) w15 a2 x.sources):=(L9.out).cE cU S_;have L23:Hid (aJ (fun b=>b<PB) w15 a3 x.au.ks):=aJ.cE L10.out S_;have L24:Hid (aJ (fun b=>b<PB) w15 a4 x.az.ks):=aJ.cE L11.out S_;have L25:Hid (bf fu 7 (fun b=>b<PB) w15 a5 x.group):=(L12.out).cE b9 S_
 clear con14 P_ S_ f13 P4 S5 G6 B7 L8 L9 L10 L11 L12;have f26:w15.cell? (af w 1)=some (.bool x.star):=B20.out.c 1 rfl;go_upto_if 14 with fail
 clear f26;go_cut [1,14] (fun _ _ wc=>∃ vc,Hid (aF wc PB vc (aE bs ([⟨#[115,101,108,101,99,116]⟩] ++ lJ x.distinct ⟨#[100,105,115,116,105,110,99,116]⟩ ++ gu x)))∧Hid (St PB v w vc wc)∧Hid (GP wc PB)∧Hid (Bx wc PB vc (w.heap.size) (iE x a1 a2 a3 a4 a5 c1 c2 c3 c4 c5) 79)∧Hid (bf kl 8 (fun b=>b<PB) wc a1 x.items)∧Hid (bf gj 10 (fun b=>b<PB) wc a2 x.sources)∧Hid (aJ (fun b=>b<PB) wc a3 x.au.ks)∧Hid (aJ (fun b=>b<PB) wc a4 x.az.ks)∧Hid (bf fu 7 (fun b=>b<PB) wc a5 x.group))
 case first=>as_aux_lemma =>
  cases hs:x.star
  ·have ei:gu x=dS fw x.items:=by unfold gu; rw [hs]; rfl
   rw [ei] at Hb;have f27:w15.cell? (af w 2)=some (.slice a1 x.items.length c1):=B20.out.c 2 rfl;have con28:Calls Tryz.prog 117 #[af PB 0,.slice a1 x.items.length c1,.func (.func 118) #[af PB 0] #[]] w15 (bU w15 PB v16 (aE (aE bs ([⟨#[115,101,108,101,99,116]⟩] ++ lJ x.distinct ⟨#[100,105,115,116,105,110,99,116]⟩)) (dS fw x.items))):=wy x.items (HO.out.items hs).1 (HO.out.items hs).2 a1 c1 (G19.out) (P17.out) L21.out (by rw [← an]; exact dx (dx (dx (dx (dx (Hb.out))))));go_wp2_with fail
   refine con28.mono ?_;rintro e w29 ⟨rfl,v30,P_,S_⟩;have P31:Hid (aF w29 PB v30 (aE bs ([⟨#[115,101,108,101,99,116]⟩] ++ lJ x.distinct ⟨#[100,105,115,116,105,110,99,116]⟩ ++ dS fw x.items))):=by show aF _ _ _ _; rw [an]; exact P_
   have S32:Hid (St PB v w v30 w29):=S18.out.trans S_;have G33:Hid (GP w29 PB):=G19.out.st S_;have B34:Hid (Bx w29 PB v30 (w.heap.size) (iE x a1 a2 a3 a4 a5 c1 c2 c3 c4 c5) 79):=B20.out.st S_;have L35:Hid (bf kl 8 (fun b=>b<PB) w29 a1 x.items):=(L21.out).cE fp S_;have L36:Hid (bf gj 10 (fun b=>b<PB) w29 a2 x.sources):=(L22.out).cE cU S_;have L37:Hid (aJ (fun b=>b<PB) w29 a3 x.au.ks):=aJ.cE L23.out S_;have L38:Hid (aJ (fun b=>b<PB) w29 a4 x.az.ks):=aJ.cE L24.out S_;have L39:Hid (bf fu 7 (fun b=>b<PB) w29 a5 x.group):=(L25.out).cE b9 S_
   clear con28 P_ S_ f27 P17 S18 G19 B20 L21 L22 L23 L24 L25;go_wp2_with fail
   go_meet
   case rel=>exact ⟨v30,by show aF _ _ _ _; rw [ei]; exact P31.out,S32,G33,B34,L35,L36,L37,L38,L39⟩
  ·have ei:gu x = [⟨#[42]⟩]:=by unfold gu; rw [hs]; rfl
   rw [ei] at Hb
   skip
   have con40:Calls Tryz.prog 57 #[af PB 0,.slice (some (af w15 0)) 1 1] (w15.alloc (.cells #[.string ⟨#[42]⟩] 9)) (bU w15 PB v16 (aE (aE bs ([⟨#[115,101,108,101,99,116]⟩] ++ lJ x.distinct ⟨#[100,105,115,116,105,110,99,116]⟩)) ([⟨#[42]⟩]))):=bq [⟨#[42]⟩] P17.out (by rw [← an]; exact dx (dx (dx (dx (dx (Hb.out)))))) (by simp);go_wp2_with fail
   refine con40.mono ?_;rintro e w41 ⟨rfl,v42,P_,S_⟩;have P43:Hid (aF w41 PB v42 (aE bs ([⟨#[115,101,108,101,99,116]⟩] ++ lJ x.distinct ⟨#[100,105,115,116,105,110,99,116]⟩ ++ [⟨#[42]⟩]))):=by show aF _ _ _ _; rw [an]; exact P_
   have S44:Hid (St PB v w v42 w41):=S18.out.trans S_;have G45:Hid (GP w41 PB):=G19.out.st S_;have B46:Hid (Bx w41 PB v42 (w.heap.size) (iE x a1 a2 a3 a4 a5 c1 c2 c3 c4 c5) 79):=B20.out.st S_;have L47:Hid (bf kl 8 (fun b=>b<PB) w41 a1 x.items):=(L21.out).cE fp S_;have L48:Hid (bf gj 10 (fun b=>b<PB) w41 a2 x.sources):=(L22.out).cE cU S_;have L49:Hid (aJ (fun b=>b<PB) w41 a3 x.au.ks):=aJ.cE L23.out S_;have L50:Hid (aJ (fun b=>b<PB) w41 a4 x.az.ks):=aJ.cE L24.out S_;have L51:Hid (bf fu 7 (fun b=>b<PB) w41 a5 x.group):=(L25.out).cE b9 S_
   clear con40 P_ S_  P17 S18 G19 B20 L21 L22 L23 L24 L25;go_wp2_with fail
   go_meet
   case rel=>exact ⟨v42,by show aF _ _ _ _; rw [ei]; exact P43.out,S44,G45,B46,L47,L48,L49,L50,L51⟩
 case rest=>as_aux_lemma =>
  obtain ⟨vc,Pc,Sc,Gc,Bc,Lc0,Lc1,Lc2,Lc3,Lc4⟩:=hcut;clear P17 S18 G19 B20 L21 L22 L23 L24 L25;have con52:Calls Tryz.prog 57 #[af PB 0,.slice (some (af wc 0)) 1 1] (wc.alloc (.cells #[.string ⟨#[102,114,111,109]⟩] 9)) (bU wc PB vc (aE (aE bs ([⟨#[115,101,108,101,99,116]⟩] ++ lJ x.distinct ⟨#[100,105,115,116,105,110,99,116]⟩ ++ gu x)) ([⟨#[102,114,111,109]⟩]))):=bq [⟨#[102,114,111,109]⟩] Pc.out (by rw [← an]; exact dx (dx (dx (dx (Hb.out))))) (by simp);go_wp2_with fail
  refine con52.mono ?_;rintro e w53 ⟨rfl,v54,P_,S_⟩;have P55:Hid (aF w53 PB v54 (aE bs ([⟨#[115,101,108,101,99,116]⟩] ++ lJ x.distinct ⟨#[100,105,115,116,105,110,99,116]⟩ ++ gu x ++ [⟨#[102,114,111,109]⟩]))):=by show aF _ _ _ _; rw [an]; exact P_
  have S56:Hid (St PB v w v54 w53):=Sc.out.trans S_;have G57:Hid (GP w53 PB):=Gc.out.st S_;have B58:Hid (Bx w53 PB v54 (w.heap.size) (iE x a1 a2 a3 a4 a5 c1 c2 c3 c4 c5) 79):=Bc.out.st S_;have L59:Hid (bf kl 8 (fun b=>b<PB) w53 a1 x.items):=(Lc0.out).cE fp S_;have L60:Hid (bf gj 10 (fun b=>b<PB) w53 a2 x.sources):=(Lc1.out).cE cU S_;have L61:Hid (aJ (fun b=>b<PB) w53 a3 x.au.ks):=aJ.cE Lc2.out S_;have L62:Hid (aJ (fun b=>b<PB) w53 a4 x.az.ks):=aJ.cE Lc3.out S_;have L63:Hid (bf fu 7 (fun b=>b<PB) w53 a5 x.group):=(Lc4.out).cE b9 S_
  clear con52 P_ S_  Pc Sc Gc Bc Lc0 Lc1 Lc2 Lc3 Lc4;have f64:w53.cell? (af w 3)=some (.slice a2 x.sources.length c2):=B58.out.c 3 rfl;have HB:Hid (∀ j,j<x.sources.length→(aE bs ([⟨#[115,101,108,101,99,116]⟩] ++ lJ x.distinct ⟨#[100,105,115,116,105,110,99,116]⟩ ++ gu x ++ [⟨#[102,114,111,109]⟩] ++ ft x.sources (j+1))).length≤gZ):=fun j hj=>by
   have h:=dx (dx (dx Hb.out));rw [an] at h ⊢;exact Jj (xn _ x.sources (j+1) x.sources.length hj) h
  go_wp2_with fail
  clear f64;go_loopw [30] (fun i wr=>∃ (j:Nat) (v':Value),j≤x.sources.length∧i = .int .i64 j∧Hid (aF wr PB v' (aE bs ([⟨#[115,101,108,101,99,116]⟩] ++ lJ x.distinct ⟨#[100,105,115,116,105,110,99,116]⟩ ++ gu x ++ [⟨#[102,114,111,109]⟩] ++ ft x.sources j)))∧Hid (St PB v54 w53 v' wr)) (fun i _=>x.sources.length - (RowKit.intOf i).toNat)
  case atStart=>exact ⟨0,v54,Jc _,rfl,by show aF _ _ _ _; rw [ft,List.append_nil]; exact P55.out,St.refl _ _ _⟩
  case round =>
   obtain ⟨j,v1,hj,rfl,hP1,hS1⟩:=hrel;have hG1:Hid (GP wr PB):=G57.out.st hS1.out;by_cases hlt:j<x.sources.length
   ·as_aux_lemma =>
     have hBj:=HB.out j hlt;have hoj:=fun h=>HO.out.sources.2 j hlt h
     obtain ⟨b1,o1,_,rfl,t1,ai,ci,rfl,kk⟩:=(L60.out.cE cU hS1.out).get hlt;have hsj:=Dr x.sources j hlt;rw [hsj,← Jg] at hBj;have hjz:(j:Int)<(x.sources.length:Int):=by omega
     generalize x.sources[j]=y at *;have Hb2:Hid _:=hBj;have HSJ:Hid (ft x.sources (j+1)=_):=hsj;have HOJ:Hid (0<j→qm y.on):=hoj;have KK:Hid (aJ (fun b=>b<PB) wr ai y.on.ks):=kk;clear hBj hsj hoj kk Hb;have z0:wr.cell? ⟨b1,o1+j*10,none⟩=some (.int .i64 y.kind):=t1.2 0 _ rfl;have z1:wr.cell? ⟨b1,o1+j*10+1,none⟩=some (.string y.name):=t1.2 1 _ rfl;have z2:wr.cell? ⟨b1,o1+j*10+2,none⟩=some (.string y.alias):=t1.2 2 _ rfl;have z3:wr.cell? ⟨b1,o1+j*10+3,none⟩=some (.int .i64 y.on.k):=t1.2 3 _ rfl;have z4:wr.cell? ⟨b1,o1+j*10+4,none⟩=some (.int .i64 y.on.v.1):=t1.2 4 _ rfl
     have z5:wr.cell? ⟨b1,o1+j*10+5,none⟩=some (.int .i64 y.on.v.2.1):=t1.2 5 _ rfl;have z6:wr.cell? ⟨b1,o1+j*10+6,none⟩=some (.string y.on.v.2.2):=t1.2 6 _ rfl;have z7:wr.cell? ⟨b1,o1+j*10+7,none⟩=some (.string y.on.bp):=t1.2 7 _ rfl;have z8:wr.cell? ⟨b1,o1+j*10+8,none⟩=some (.string y.on.name):=t1.2 8 _ rfl;have z9:wr.cell? ⟨b1,o1+j*10+9,none⟩=some (.slice ai y.on.ks.length ci):=t1.2 9 _ rfl;clear t1;have hal:=bR wr (.cells (kj y ai ci) 105);go_upto_region 10 with fail
     have B0:Hid (Bx (wr.alloc (.cells (kj y ai ci) 105)) PB v1 wr (kj y ai ci) 105):=Bx.new hP1.out (kj y ai ci) 105;have P0:Hid (aF (wr.alloc (.cells (kj y ai ci) 105)) PB v1 (aE bs ([⟨#[115,101,108,101,99,116]⟩] ++ lJ x.distinct ⟨#[100,105,115,116,105,110,99,116]⟩ ++ gu x ++ [⟨#[102,114,111,109]⟩] ++ ft x.sources j))):=hP1.out.next hal;have S0:Hid (St PB v54 w53 v1 (wr.alloc (.cells (kj y ai ci) 105))):=hS1.out.trans (St.of hal hP1.out.lt);have G0:Hid (GP (wr.alloc (.cells (kj y ai ci) 105)) PB):=hG1.out.nx hal hP1.out.lt
     have L00:Hid (aJ (fun b=>b<PB) (wr.alloc (.cells (kj y ai ci) 105)) ai y.on.ks):=aJ.next hal KK.out;clear hP1 hS1 hG1 hal KK z0 z1 z2 z3 z4 z5 z6 z7 z8 z9;generalize (wr.alloc (.cells (kj y ai ci) 105))=w00 at *;by_cases hj0:j=0
     ·subst hj0;rw [show ((0:Nat) == 0)=true from rfl] at Hb2 HSJ;have q0:w00.cell? (af wr 0)=some (.int .i64 y.kind):=B0.out.c 0 rfl;have q1:w00.cell? (af wr 1)=some (.string y.name):=B0.out.c 1 rfl;have q2:w00.cell? (af wr 2)=some (.string y.alias):=B0.out.c 2 rfl;have q3:w00.cell? (af wr 3)=some (.int .i64 y.on.k):=B0.out.c 3 rfl;have q4:w00.cell? (af wr 4)=some (.int .i64 y.on.v.1):=B0.out.c 4 rfl;have q5:w00.cell? (af wr 5)=some (.int .i64 y.on.v.2.1):=B0.out.c 5 rfl
      have q6:w00.cell? (af wr 6)=some (.string y.on.v.2.2):=B0.out.c 6 rfl;have q7:w00.cell? (af wr 7)=some (.string y.on.bp):=B0.out.c 7 rfl;have q8:w00.cell? (af wr 8)=some (.string y.on.name):=B0.out.c 8 rfl;have q9:w00.cell? (af wr 9)=some (.slice ai y.on.ks.length ci):=B0.out.c 9 rfl
      have con:Calls Tryz.prog 119 #[af PB 0,.agg (kj y ai ci),true] w00 (bU w00 PB v1 (aE (aE bs ([⟨#[115,101,108,101,99,116]⟩] ++ lJ x.distinct ⟨#[100,105,115,116,105,110,99,116]⟩ ++ gu x ++ [⟨#[102,114,111,109]⟩] ++ ft x.sources 0)) (iD true y))):=vz y ai ci G0.out P0.out L00.out (by rw [← an]; exact Hb2.out);go_wp2_with fail
      refine con.mono ?_;rintro e wX ⟨rfl,vX,PX,SX_⟩;have PZ:Hid (aF wX PB vX (aE bs ([⟨#[115,101,108,101,99,116]⟩] ++ lJ x.distinct ⟨#[100,105,115,116,105,110,99,116]⟩ ++ gu x ++ [⟨#[102,114,111,109]⟩] ++ ft x.sources (0+1)))):=by show aF _ _ _ _; rw [HSJ.out,← Jg,an]; exact PX
      have SZ:Hid (St PB v54 w53 vX wX):=S0.out.trans SX_;clear con PX SX_ P0 S0 q0 q1 q2 q3 q4 q5 q6 q7 q8 q9;go_wp2_with fail
      go_roundw
      case rel=>exact ⟨0+1,vX,by omega,by go_num,PZ,SZ⟩
      case measure=>simp [RowKit.intOf]; omega
     ·have hz1:((j:Int) == 0)=false:=by rw [beq_eq_false_iff_ne]; omega
      have hz2:(j == 0)=false:=by rw [beq_eq_false_iff_ne]; omega
      have HO2:=HOJ.out ak;rw [hz2] at Hb2 HSJ;have q0:w00.cell? (af wr 0)=some (.int .i64 y.kind):=B0.out.c 0 rfl;have q1:w00.cell? (af wr 1)=some (.string y.name):=B0.out.c 1 rfl;have q2:w00.cell? (af wr 2)=some (.string y.alias):=B0.out.c 2 rfl;have q3:w00.cell? (af wr 3)=some (.int .i64 y.on.k):=B0.out.c 3 rfl;have q4:w00.cell? (af wr 4)=some (.int .i64 y.on.v.1):=B0.out.c 4 rfl;have q5:w00.cell? (af wr 5)=some (.int .i64 y.on.v.2.1):=B0.out.c 5 rfl
      have q6:w00.cell? (af wr 6)=some (.string y.on.v.2.2):=B0.out.c 6 rfl;have q7:w00.cell? (af wr 7)=some (.string y.on.bp):=B0.out.c 7 rfl;have q8:w00.cell? (af wr 8)=some (.string y.on.name):=B0.out.c 8 rfl;have q9:w00.cell? (af wr 9)=some (.slice ai y.on.ks.length ci):=B0.out.c 9 rfl
      have con:Calls Tryz.prog 119 #[af PB 0,.agg (kj y ai ci),false] w00 (bU w00 PB v1 (aE (aE bs ([⟨#[115,101,108,101,99,116]⟩] ++ lJ x.distinct ⟨#[100,105,115,116,105,110,99,116]⟩ ++ gu x ++ [⟨#[102,114,111,109]⟩] ++ ft x.sources j)) (iD false y))):=vP y HO2 ai ci G0.out P0.out L00.out (by rw [← an]; exact Hb2.out);go_wp2_with fail
      refine con.mono ?_;rintro e wX ⟨rfl,vX,PX,SX_⟩;have PZ:Hid (aF wX PB vX (aE bs ([⟨#[115,101,108,101,99,116]⟩] ++ lJ x.distinct ⟨#[100,105,115,116,105,110,99,116]⟩ ++ gu x ++ [⟨#[102,114,111,109]⟩] ++ ft x.sources (j+1)))):=by show aF _ _ _ _; rw [HSJ.out,← Jg,an]; exact PX
      have SZ:=ah (S0.out.trans SX_);clear con PX SX_ P0 S0 q0 q1 q2 q3 q4 q5 q6 q7 q8 q9;go_wp2_with fail
      go_roundw
      case rel=>exact ⟨j+1,vX,by omega,by go_num,PZ,SZ⟩
      case measure=>simp [RowKit.intOf]; omega
   ·as_aux_lemma =>
     have ej:j=x.sources.length:=by omega
     subst ej;have Se:=ah (S56.out.trans hS1.out);have Be:=ah (B58.out.st hS1.out);have Le2:=ah (aJ.cE L61.out hS1.out);have Le3:=ah (aJ.cE L62.out hS1.out);have Le4:=ah ((L63.out).cE b9 hS1.out);clear hS1 HB P55 S56 G57 B58 L59 L60 L61 L62 L63;have f65:=Be.out.c 4 rfl
     have f66:=Be.out.c 6 rfl;have f67:=Be.out.c 7 rfl;have f68:=Be.out.c 8 rfl;have f69:=Be.out.c 9 rfl;have f70:=Be.out.c 10 rfl;have f71:=Be.out.c 11 rfl
     have f72:=Be.out.c 12 rfl
     have con73:=ey ⟨#[119,104,101,114,101]⟩ x.ax x.au HO.out.au a3 c3 (hG1.out) (hP1.out) Le2.out (by rw [← an]; exact dx (dx (Hb.out)));go_wp2_with fail
     refine con73.mono ?_;rintro e w74 ⟨rfl,v75,P_,S_⟩;have P76:Hid (aF w74 PB v75 (aE bs ([⟨#[115,101,108,101,99,116]⟩] ++ lJ x.distinct ⟨#[100,105,115,116,105,110,99,116]⟩ ++ gu x ++ [⟨#[102,114,111,109]⟩] ++ ft x.sources x.sources.length ++ fH ⟨#[119,104,101,114,101]⟩ x.ax x.au))):=by show aF _ _ _ _; rw [an]; exact P_
     have S77:=ah (Se.out.trans S_);have G78:=ah (hG1.out.st S_);have B79:=ah (Be.out.st S_);have L80:=ah (aJ.cE Le2.out S_);have L81:=ah (aJ.cE Le3.out S_);have L82:=ah ((Le4.out).cE b9 S_);clear con73 P_ S_ f65 f66 f67 f68 f69 f70 f71 f72 hP1 Se hG1 Be Le2 Le3 Le4;by_cases hg:x.group.length=0
     ·have eg:j5 x.group = []:=by unfold j5; rw [if_pos hg]
      have HEG:=ah eg;rw [eg] at Hb;clear eg;have hz:¬ (0:Int)<(x.group.length:Int):=by omega
      have P76x:Hid (aF w74 PB v75 (aE bs ([⟨#[115,101,108,101,99,116]⟩] ++ lJ x.distinct ⟨#[100,105,115,116,105,110,99,116]⟩ ++ gu x ++ [⟨#[102,114,111,109]⟩] ++ ft x.sources x.sources.length ++ fH ⟨#[119,104,101,114,101]⟩ x.ax x.au ++ []))):=by show aF _ _ _ _; rw [List.append_nil]; exact P76.out
      have f83:=B79.out.c 20 rfl;clear hg;have f84:=B79.out.c 5 rfl;have f85:=B79.out.c 13 rfl;have f86:=B79.out.c 14 rfl;have f87:=B79.out.c 15 rfl;have f88:=B79.out.c 16 rfl
      have f89:=B79.out.c 17 rfl;have f90:=B79.out.c 18 rfl;have f91:=B79.out.c 19 rfl
      have con92:=ey ⟨#[104,97,118,105,110,103]⟩ x.aG x.az HO.out.az a4 c4 (G78.out) (P76x.out) L81.out (by rw [← an]; exact Hb.out)
      go_wp2_with fail
      refine con92.mono ?_;rintro e w93 ⟨rfl,v94,P_,S_⟩;have P95:Hid (aF w93 PB v94 (aE bs ([⟨#[115,101,108,101,99,116]⟩] ++ lJ x.distinct ⟨#[100,105,115,116,105,110,99,116]⟩ ++ gu x ++ [⟨#[102,114,111,109]⟩] ++ ft x.sources x.sources.length ++ fH ⟨#[119,104,101,114,101]⟩ x.ax x.au ++ [] ++ fH ⟨#[104,97,118,105,110,103]⟩ x.aG x.az))):=by show aF _ _ _ _; rw [an]; exact P_
      have S96:=ah (S77.out.trans S_);have G97:=ah (G78.out.st S_);have B98:=ah (B79.out.st S_);have L99:=ah (aJ.cE L80.out S_);have L100:=ah (aJ.cE L81.out S_);have L101:=ah ((L82.out).cE b9 S_);clear con92 P_ S_ f84 f85 f86 f87 f88 f89 f90 f91 f83 P76x S77 G78 B79 L80 L81 L82;go_wp2_with fail
      go_end0
      exact ⟨rfl,v94,by rw [HEG.out]; exact P95.out,S96.out⟩
     ·have eg:j5 x.group = [⟨#[103,114,111,117,112]⟩,⟨#[98,121]⟩] ++ dS bY x.group:=by unfold j5; rw [if_neg hg]
      have HEG:=ah eg;rw [eg,← Jg] at Hb;clear eg;have hz:(0:Int)<(x.group.length:Int):=by omega
      clear hg;have f102:=B79.out.c 20 rfl
      have con103:=bq [⟨#[103,114,111,117,112]⟩,⟨#[98,121]⟩] P76.out (by rw [← an]; exact dx (dx (Hb.out))) (by simp)
      go_wp2_with fail
      refine con103.mono ?_;rintro e w104 ⟨rfl,v105,P_,S_⟩;have P106:Hid (aF w104 PB v105 (aE bs ([⟨#[115,101,108,101,99,116]⟩] ++ lJ x.distinct ⟨#[100,105,115,116,105,110,99,116]⟩ ++ gu x ++ [⟨#[102,114,111,109]⟩] ++ ft x.sources x.sources.length ++ fH ⟨#[119,104,101,114,101]⟩ x.ax x.au ++ [⟨#[103,114,111,117,112]⟩,⟨#[98,121]⟩]))):=by show aF _ _ _ _; rw [an]; exact P_
      have S107:=ah (S77.out.trans S_);have G108:=ah (G78.out.st S_);have B109:=ah (B79.out.st S_);have L110:=ah (aJ.cE L80.out S_);have L111:=ah (aJ.cE L81.out S_);have L112:=ah ((L82.out).cE b9 S_);clear con103 P_ S_ f102 P76 S77 G78 B79 L80 L81 L82;have f113:=B109.out.c 20 rfl
      have con114:=pt x.group HO.out.group.1 HO.out.group.2 a5 c5 (G108.out) (P106.out) L112.out (by rw [← an]; exact dx (Hb.out))
      go_wp2_with fail
      refine con114.mono ?_;rintro e w115 ⟨rfl,v116,P_,S_⟩;have P117:Hid (aF w115 PB v116 (aE bs ([⟨#[115,101,108,101,99,116]⟩] ++ lJ x.distinct ⟨#[100,105,115,116,105,110,99,116]⟩ ++ gu x ++ [⟨#[102,114,111,109]⟩] ++ ft x.sources x.sources.length ++ fH ⟨#[119,104,101,114,101]⟩ x.ax x.au ++ [⟨#[103,114,111,117,112]⟩,⟨#[98,121]⟩] ++ dS bY x.group))):=by show aF _ _ _ _; rw [an]; exact P_
      have S118:=ah (S107.out.trans S_);have G119:=ah (G108.out.st S_);have B120:=ah (B109.out.st S_);have L121:=ah (aJ.cE L110.out S_);have L122:=ah (aJ.cE L111.out S_);have L123:=ah ((L112.out).cE b9 S_);clear con114 P_ S_ f113 P106 S107 G108 B109 L110 L111 L112;have f124:=B120.out.c 5 rfl
      have f125:=B120.out.c 13 rfl;have f126:=B120.out.c 14 rfl;have f127:=B120.out.c 15 rfl;have f128:=B120.out.c 16 rfl;have f129:=B120.out.c 17 rfl;have f130:=B120.out.c 18 rfl
      have f131:=B120.out.c 19 rfl
      have con132:=ey ⟨#[104,97,118,105,110,103]⟩ x.aG x.az HO.out.az a4 c4 (G119.out) (P117.out) L122.out (by rw [← an]; exact Hb.out)
      go_wp2_with fail
      refine con132.mono ?_;rintro e w133 ⟨rfl,v134,P_,S_⟩;have P135:Hid (aF w133 PB v134 (aE bs ([⟨#[115,101,108,101,99,116]⟩] ++ lJ x.distinct ⟨#[100,105,115,116,105,110,99,116]⟩ ++ gu x ++ [⟨#[102,114,111,109]⟩] ++ ft x.sources x.sources.length ++ fH ⟨#[119,104,101,114,101]⟩ x.ax x.au ++ [⟨#[103,114,111,117,112]⟩,⟨#[98,121]⟩] ++ dS bY x.group ++ fH ⟨#[104,97,118,105,110,103]⟩ x.aG x.az))):=by show aF _ _ _ _; rw [an]; exact P_
      have S136:=ah (S118.out.trans S_);have G137:=ah (G119.out.st S_);have B138:=ah (B120.out.st S_);have L139:=ah (aJ.cE L121.out S_);have L140:=ah (aJ.cE L122.out S_);have L141:=ah ((L123.out).cE b9 S_);clear con132 P_ S_ f124 f125 f126 f127 f128 f129 f130 f131 P117 S118 G119 B120 L121 L122 L123;go_wp2_with fail
      go_end0
      exact ⟨rfl,v134,by rw [HEG.out,← Jg]; exact P135.out,S136.out⟩
def gP (l:List dO) (ops:List Int):Nat→List ByteArray
 | 0=>[]
 | i+1=>gP l ops i ++ (if i=0 then [] else j9 (ops.getD (i - 1) 0)) ++ (match l[i]? with | some x=>gR x | none=>[])
theorem xf (bs:List UInt8) (l:List dO) (ops:List Int) (i:Nat):∀ n,i≤n→(aE bs (gP l ops i)).length≤(aE bs (gP l ops n)).length
 | 0,h=>by rw [Nat.le_zero.1 h]; exact I6 _
 | n+1,h=>by
  by_cases e:i=n+1
  ·rw [e]; exact I6 _
  ·refine Jj (xf bs l ops i n ak) ?_
   rw [gP,an,an]
   exact Jj (fX _ _) (fX _ _)
theorem Cx (l:List dO) (ops:List Int) (j:Nat) (h:j<l.length):gP l ops (j+1)=gP l ops j ++ (if j=0 then [] else j9 (ops.getD (j - 1) 0)) ++ gR l[j]:=by rw [gP,Je h]
def lA (q:kf):List ByteArray:=if 0≤q.aH then [⟨#[111,114,100,101,114]⟩,⟨#[98,121]⟩] ++ dS bY q.order ++ [⟨#[108,105,109,105,116]⟩] ++ j3 q.aH else []
def gO (q:kf):List ByteArray:=gP q.parts q.ops q.parts.length ++ lA q
structure FE (q:kf):Prop where
 parts:q.parts.length≤1000∧∀ y ∈ q.parts,Ce y
 ops:q.parts.length≤q.ops.length+1∧∀ y ∈ q.ops,1≤y∧y≤4
 order:0≤q.aH→q.order.length≤1000∧∀ y ∈ q.order,qm y
 aH:q.aH≤1000000000000000
theorem rh (q:kf) (ok:FE q) (p1 p2 p3:Option Addr) (d1 d2 d3:Nat) {PB:Nat} {v:Value} {bs:List UInt8} {w:World} (hG:GP w PB) (hP:aF w PB v bs) (k1:bf eS 21 (fun b=>b<PB) w p1 q.parts) (k2:bf lD 1 (fun b=>b<PB) w p2 q.ops) (k3:bf fu 7 (fun b=>b<PB) w p3 q.order) (hb:(aE bs (gO q)).length≤gZ):Calls Tryz.prog 60 #[af PB 0,.agg #[.slice p1 q.parts.length d1,.slice p2 q.ops.length d2,.slice p3 q.order.length d3,q.aH]] w (bU w PB v (aE bs (gO q))):=by
 rw [gO] at hb ⊢;have hmf:∀ (fn:Fn) (first cap:Array Value) (w:World),(Instr.makeFunc fn first cap).run Tryz.prog w = .ok (.func fn first cap) w:=fun _ _ _ _=>rfl
 have HO:=ah ok;have np:=ok.parts.1;clear ok;have Hb:=ah hb;clear hb;have hal:=bR w (.cells #[.slice p1 q.parts.length d1,.slice p2 q.ops.length d2,.slice p3 q.order.length d3,q.aH] 50)
 have B0:=ah (Bx.new hP #[.slice p1 q.parts.length d1,.slice p2 q.ops.length d2,.slice p3 q.order.length d3,q.aH] 50);have P0:=ah (hP.next hal)
 have S0:Hid (St PB v w v (w.alloc (.cells #[.slice p1 q.parts.length d1,.slice p2 q.ops.length d2,.slice p3 q.order.length d3,q.aH] 50))):=St.of hal hP.lt;have G0:=ah (hG.nx hal hP.lt);have L00:=ah ((k1).nx b8 hal)
 have L01:=ah ((k2).nx fv hal);have L02:=ah ((k3).nx b9 hal);clear hP hG hal k1 k2 k3;go_enter Tryz.func60,Tryz.ntmps60;go_upto_region 1 with fail
 generalize w.alloc _=w0 at *;have HB:Hid (∀ j,j<q.parts.length→(aE bs (gP q.parts q.ops (j+1))).length≤gZ):=fun j hj=>Jj (xf bs q.parts q.ops (j+1) q.parts.length hj) (dx Hb.out)
 have f1:=B0.out.c 0 rfl;go_wp2_with fail
 clear f1;go_loopw [9] (fun i wr=>∃ (j:Nat) (v':Value),j≤q.parts.length∧i = .int .i64 j∧Hid (aF wr PB v' (aE bs (gP q.parts q.ops j)))∧Hid (St PB v w v' wr)∧Hid (GP wr PB)∧Hid (Bx wr PB v' (w.heap.size) #[.slice p1 q.parts.length d1,.slice p2 q.ops.length d2,.slice p3 q.order.length d3,q.aH] 50)∧Hid (bf eS 21 (fun b=>b<PB) wr p1 q.parts)∧Hid (bf lD 1 (fun b=>b<PB) wr p2 q.ops)∧Hid (bf fu 7 (fun b=>b<PB) wr p3 q.order)) (fun i _=>q.parts.length - (RowKit.intOf i).toNat)
 case atStart=>exact ⟨0,v,Jc _,rfl,P0,S0,G0,B0,L00,L01,L02⟩
 case round =>
  clear P0 S0 G0 B0 L00 L01 L02;obtain ⟨j,v1,hj,rfl,hP1,hS1,hG1,hB1,K1,K2,K3⟩:=hrel;by_cases hlt:j<q.parts.length
  ·as_aux_lemma =>
    have hBj:=HB.out j hlt;have hoj:=HO.out.parts.2 _ (Jk hlt);obtain ⟨b1,o1,_,rfl,t1,e1,kf1,e2,kf2,e3,kf3,e4,kf4,e5,kf5,rfl,m1,m2,m3,m4,m5⟩:=K1.out.get hlt;have hsj:=Cx q.parts q.ops j hlt;rw [hsj] at hBj;have hjz:(j:Int)<(q.parts.length:Int):=by omega
    generalize q.parts[j]=y at *;have HSJ:=ah hsj;have HBJ:=ah hBj;have HOJ:=ah hoj;have M1:=ah m1;have M2:=ah m2;have M3:=ah m3;have M4:=ah m4;have M5:=ah m5;clear hBj hsj hoj Hb m1 m2 m3 m4 m5
    have hrg:wr.rangeAt b1 (o1+j*21) [.bool y.distinct,y.star,.slice e1 y.items.length kf1,.slice e2 y.sources.length kf2,y.ax,y.aG,y.au.k,y.au.v.1,y.au.v.2.1,y.au.v.2.2,y.au.bp,y.au.name,.slice e3 y.au.ks.length kf3,y.az.k,y.az.v.1,y.az.v.2.1,y.az.v.2.2,y.az.bp,y.az.name,.slice e4 y.az.ks.length kf4,.slice e5 y.group.length kf5]:=fun i u hu=>t1.2 i u hu
    clear t1;have hal:=bR wr (.cells (iE y e1 e2 e3 e4 e5 kf1 kf2 kf3 kf4 kf5) 79);go_upto_region 4 with (first | (refine wpList_load_mid rfl 79 _ rfl b1 (o1+j*21) rfl (iE y e1 e2 e3 e4 e5 kf1 kf2 kf3 kf4 kf5).toList _ hrg Tryz.underlying79 rfl kJ ?_) | (refine aT rfl 79 _ _ rfl sr (iE y e1 e2 e3 e4 e5 kf1 kf2 kf3 kf4 kf5) rfl rfl kJ rfl (eh rfl) ?_))
    have B0:=ah (Bx.new hP1.out (iE y e1 e2 e3 e4 e5 kf1 kf2 kf3 kf4 kf5) 79);have B1:=ah (hB1.out.nx hal);have P0:=ah (hP1.out.next hal)
    have S0:=ah (hS1.out.trans (St.of hal hP1.out.lt));have G0:=ah (hG1.out.nx hal hP1.out.lt);have H0:=ah (K1.out.nx b8 hal);have H1:=ah (K2.out.nx fv hal)
    have H2:=ah (K3.out.nx b9 hal);have N0:=ah ((M1.out).nx fp hal);have N1:=ah ((M2.out).nx cU hal);have N2:=ah (aJ.next hal M3.out)
    have N3:=ah (aJ.next hal M4.out);have N4:=ah ((M5.out).nx b9 hal);clear hP1 hS1 hG1 hB1 K1 K2 K3 hal M1 M2 M3 M4 M5 hrg;generalize wr.alloc _=w00 at *;by_cases hj0:j=0
    ·as_aux_lemma =>
      subst hj0;rw [if_pos rfl,List.append_nil] at HBJ HSJ;have Hb:=ah HBJ.out;have con2:=mh y HOJ.out e1 e2 e3 e4 e5 kf1 kf2 kf3 kf4 kf5 (G0.out) (P0.out) N0.out N1.out N2.out N3.out N4.out (by rw [← an]; exact Hb.out);go_wp2_with (first | (refine wpList_load_row rfl 79 _ rfl wr rfl 79 (iE y e1 e2 e3 e4 e5 kf1 kf2 kf3 kf4 kf5) (0,0) _ B0.out.q Tryz.underlying79 rfl kJ ?_))
      refine con2.mono ?_;rintro e w3 ⟨rfl,v4,P_,S_⟩;have P5:Hid (aF w3 PB v4 (aE bs (gP q.parts q.ops 0 ++ gR y))):=by show aF _ _ _ _; rw [an]; exact P_
      have S6:=ah (S0.out.trans S_);have G7:=ah (G0.out.st S_);have B8:=ah (B1.out.st S_);have B9:=ah (B0.out.st S_);have L10:=ah ((N0.out).cE fp S_);have L11:=ah ((N1.out).cE cU S_);have L12:=ah (aJ.cE N2.out S_)
      have L13:=ah (aJ.cE N3.out S_);have L14:=ah ((N4.out).cE b9 S_);have L15:=ah ((H0.out).cE b8 S_);have L16:=ah ((H1.out).cE fv S_);have L17:=ah ((H2.out).cE b9 S_);clear con2 P_ S_  P0 S0 G0 B1 B0 N0 N1 N2 N3 N4 H0 H1 H2;have PZ:Hid (aF w3 PB v4 (aE bs (gP q.parts q.ops (0+1)))):=by show aF _ _ _ _; rw [HSJ.out]; exact P5.out
      clear P5;go_wp2_with fail
      go_roundw
      case rel=>exact ⟨0+1,v4,by omega,by go_num,PZ,S6,G7,B8,L15,L16,L17⟩
      case measure=>simp [RowKit.intOf]; omega
    ·as_aux_lemma =>
      obtain ⟨i,rfl⟩:∃ i,j=i+1:=⟨j - 1,by omega⟩
      have hop:i<q.ops.length:=by have:=HO.out.ops.1; omega
      obtain ⟨b2,o2,_,rfl,t2,rfl⟩:=H1.out.get hop;have e2x:q.ops.getD (i+1 - 1) 0=q.ops[i]:=by simp [List.getD,hop]
      have hob:=HO.out.ops.2 _ (Jk hop);rw [if_neg ak,e2x] at HBJ HSJ;have y0:w00.cell? ⟨b2,o2+i,none⟩=some (.int .i64 q.ops[i]):=by have:=t2.2 0 _ rfl; simpa using this
      generalize q.ops[i]=op at *;have Hb:=ah HBJ.out;have hiz:(i:Int)<(q.ops.length:Int):=by omega
      clear t2 e2x;have f18:=B1.out.c 1 rfl;have con19:=sK op hob.1 hob.2 (G0.out) (P0.out) (by rw [← an]; exact dx (Hb.out));go_wp2_with fail
      refine con19.mono ?_;rintro e w20 ⟨rfl,v21,P_,S_⟩;have P22:Hid (aF w20 PB v21 (aE bs (gP q.parts q.ops (i+1) ++ j9 op))):=by show aF _ _ _ _; rw [an]; exact P_
      have S23:=ah (S0.out.trans S_);have G24:=ah (G0.out.st S_);have B25:=ah (B1.out.st S_);have B26:=ah (B0.out.st S_);have L27:=ah ((N0.out).cE fp S_);have L28:=ah ((N1.out).cE cU S_)
      have L29:=ah (aJ.cE N2.out S_);have L30:=ah (aJ.cE N3.out S_);have L31:=ah ((N4.out).cE b9 S_);have L32:=ah ((H0.out).cE b8 S_);have L33:=ah ((H1.out).cE fv S_);have L34:=ah ((H2.out).cE b9 S_);clear con19 P_ S_ f18 y0 P0 S0 G0 B1 B0 N0 N1 N2 N3 N4 H0 H1 H2
      have con35:=mh y HOJ.out e1 e2 e3 e4 e5 kf1 kf2 kf3 kf4 kf5 (G24.out) (P22.out) L27.out L28.out L29.out L30.out L31.out (by rw [← an]; exact Hb.out);go_wp2_with (first | (refine wpList_load_row rfl 79 _ rfl wr rfl 79 (iE y e1 e2 e3 e4 e5 kf1 kf2 kf3 kf4 kf5) (0,0) _ B26.out.q Tryz.underlying79 rfl kJ ?_))
      refine con35.mono ?_;rintro e w36 ⟨rfl,v37,P_,S_⟩;have P38:Hid (aF w36 PB v37 (aE bs (gP q.parts q.ops (i+1) ++ j9 op ++ gR y))):=by show aF _ _ _ _; rw [an]; exact P_
      have S39:=ah (S23.out.trans S_);have G40:=ah (G24.out.st S_);have B41:=ah (B25.out.st S_);have B42:=ah (B26.out.st S_);have L43:=ah ((L27.out).cE fp S_);have L44:=ah ((L28.out).cE cU S_)
      have L45:=ah (aJ.cE L29.out S_);have L46:=ah (aJ.cE L30.out S_);have L47:=ah ((L31.out).cE b9 S_);have L48:=ah ((L32.out).cE b8 S_);have L49:=ah ((L33.out).cE fv S_);have L50:=ah ((L34.out).cE b9 S_);clear con35 P_ S_  P22 S23 G24 B25 B26 L27 L28 L29 L30 L31 L32 L33 L34
      have PZ:Hid (aF w36 PB v37 (aE bs (gP q.parts q.ops ((i+1)+1)))):=by show aF _ _ _ _; rw [HSJ.out]; exact P38.out
      clear P38;go_wp2_with fail
      go_roundw
      case rel=>exact ⟨(i+1)+1,v37,by omega,by go_num,PZ,S39,G40,B41,L48,L49,L50⟩
      case measure=>simp [RowKit.intOf]; omega
  ·as_aux_lemma =>
    have ej:j=q.parts.length:=by omega
    subst ej;clear HB K1 K2;by_cases hl0:0≤q.aH
    ·have eo:lA q = [⟨#[111,114,100,101,114]⟩,⟨#[98,121]⟩] ++ dS bY q.order ++ [⟨#[108,105,109,105,116]⟩] ++ j3 q.aH:=by unfold lA; rw [if_pos hl0]
     have HEO:=ah eo;rw [eo] at Hb;clear eo;rw [← Jg,← Jg,← Jg] at Hb;have f51:=hB1.out.c 3 rfl
     have con52:=bq [⟨#[111,114,100,101,114]⟩,⟨#[98,121]⟩] hP1.out (by rw [← an]; exact dx (dx (dx (Hb.out)))) (by simp);go_wp2_with fail
     refine con52.mono ?_;rintro e w53 ⟨rfl,v54,P_,S_⟩;have P55:Hid (aF w53 PB v54 (aE bs (gP q.parts q.ops q.parts.length ++ [⟨#[111,114,100,101,114]⟩,⟨#[98,121]⟩]))):=by show aF _ _ _ _; rw [an]; exact P_
     have S56:=ah (hS1.out.trans S_);have G57:=ah (hG1.out.st S_);have B58:=ah (hB1.out.st S_);have L59:=ah ((K3.out).cE b9 S_);clear con52 P_ S_ f51 hP1 hS1 hG1 hB1 K3;have f60:=B58.out.c 2 rfl
     have con61:=pt q.order (HO.out.order hl0).1 (HO.out.order hl0).2 p3 d3 (G57.out) (P55.out) L59.out (by rw [← an]; exact dx (dx (Hb.out)));go_wp2_with fail
     refine con61.mono ?_;rintro e w62 ⟨rfl,v63,P_,S_⟩;have P64:Hid (aF w62 PB v63 (aE bs (gP q.parts q.ops q.parts.length ++ [⟨#[111,114,100,101,114]⟩,⟨#[98,121]⟩] ++ dS bY q.order))):=by show aF _ _ _ _; rw [an]; exact P_
     have S65:=ah (S56.out.trans S_);have G66:=ah (G57.out.st S_);have B67:=ah (B58.out.st S_);have L68:=ah ((L59.out).cE b9 S_);clear con61 P_ S_ f60 P55 S56 G57 B58 L59
     have con69:=bq [⟨#[108,105,109,105,116]⟩] P64.out (by rw [← an]; exact dx (Hb.out)) (by simp);go_wp2_with fail
     refine con69.mono ?_;rintro e w70 ⟨rfl,v71,P_,S_⟩;have P72:Hid (aF w70 PB v71 (aE bs (gP q.parts q.ops q.parts.length ++ [⟨#[111,114,100,101,114]⟩,⟨#[98,121]⟩] ++ dS bY q.order ++ [⟨#[108,105,109,105,116]⟩]))):=by show aF _ _ _ _; rw [an]; exact P_
     have S73:=ah (S65.out.trans S_);have G74:=ah (G66.out.st S_);have B75:=ah (B67.out.st S_);have L76:=ah ((L68.out).cE b9 S_);clear con69 P_ S_  P64 S65 G66 B67 L68;have f77:=B75.out.c 3 rfl
     have con78:=nQ q.aH (G74.out) (P72.out) ak HO.out.aH (by rw [← an]; exact Hb.out);go_wp2_with fail
     refine con78.mono ?_;rintro e w79 ⟨rfl,v80,P_,S_⟩;have P81:Hid (aF w79 PB v80 (aE bs (gP q.parts q.ops q.parts.length ++ [⟨#[111,114,100,101,114]⟩,⟨#[98,121]⟩] ++ dS bY q.order ++ [⟨#[108,105,109,105,116]⟩] ++ j3 q.aH))):=by show aF _ _ _ _; rw [an]; exact P_
     have S82:=ah (S73.out.trans S_);have G83:=ah (G74.out.st S_);have B84:=ah (B75.out.st S_);have L85:=ah ((L76.out).cE b9 S_);clear con78 P_ S_ f77 P72 S73 G74 B75 L76;go_wp2_with fail
     go_end0
     exact ⟨rfl,v80,by rw [HEO.out,← Jg,← Jg,← Jg]; exact P81.out,S82.out⟩
    ·have eo:lA q = []:=by unfold lA; rw [if_neg hl0]
     have HEO:=ah eo;rw [eo] at Hb;clear eo;have f86:=hB1.out.c 3 rfl;go_wp2_with fail
     go_end0
     exact ⟨rfl,v1,by rw [HEO.out,List.append_nil]; exact hP1.out,hS1.out⟩
def dr (x:cM):List ByteArray:=if x.kind=1 then [⟨#[99,114,101,97,116,101]⟩,⟨#[116,97,98,108,101]⟩,x.name,⟨#[40]⟩] ++ dS dH x.cF ++ [⟨#[41]⟩] ++ [⟨#[59]⟩] else if x.kind=2 then [⟨#[99,114,101,97,116,101]⟩,⟨#[118,105,101,119]⟩,x.name,⟨#[97,115]⟩] ++ gO x.query ++ [⟨#[59]⟩] else if x.kind=3 then [⟨#[105,110,115,101,114,116]⟩,⟨#[105,110,116,111]⟩,x.name,⟨#[118,97,108,117,101,115]⟩] ++ dS gd x.rows ++ [⟨#[59]⟩] else if x.kind=4 then [⟨#[100,101,108,101,116,101]⟩,⟨#[102,114,111,109]⟩,x.name] ++ fH ⟨#[119,104,101,114,101]⟩ x.ax x.au ++ [⟨#[59]⟩] else if x.kind=5 then [⟨#[115,104,111,119]⟩] ++ gO x.query ++ [⟨#[59]⟩] else []
structure FL (x:cM):Prop where
 kind:1≤x.kind∧x.kind≤5
 cF:x.kind=1→x.cF.length≤1000
 query:x.kind=2∨x.kind=5→FE x.query
 rows:x.kind=3→x.rows.length≤1000∧∀ l ∈ x.rows,l.length≤1000∧∀ y ∈ l,nf y
 au:x.kind=4→x.ax=true→qm x.au
theorem GK (x:cM) (ok:x.cF.length≤1000) (a1 p1 p2 p3 a2 a3:Option Addr) (c1 d1 d2 d3 c2 c3:Nat) {PB:Nat} {v:Value} {bs:List UInt8} {w:World} (hG:GP w PB) (hP:aF w PB v bs) (k1:bf pO 2 (fun b=>b<PB) w a1 x.cF) (hb:(aE bs ([⟨#[99,114,101,97,116,101]⟩,⟨#[116,97,98,108,101]⟩,x.name,⟨#[40]⟩] ++ dS dH x.cF ++ [⟨#[41]⟩] ++ [⟨#[59]⟩])).length≤gZ):Calls Tryz.prog 32 #[af PB 0,.agg (hJ (1) x a1 c1 p1 d1 p2 d2 p3 d3 a2 c2 a3 c3)] w (bU w PB v (aE bs ([⟨#[99,114,101,97,116,101]⟩,⟨#[116,97,98,108,101]⟩,x.name,⟨#[40]⟩] ++ dS dH x.cF ++ [⟨#[41]⟩] ++ [⟨#[59]⟩]))):=by
 have hmf:∀ (fn:Fn) (first cap:Array Value) (w:World),(Instr.makeFunc fn first cap).run Tryz.prog w = .ok (.func fn first cap) w:=fun _ _ _ _=>rfl
 have HO:=ah ok;clear ok;have Hb:=ah hb;clear hb;have hal:=bR w (.cells (hJ (1) x a1 c1 p1 d1 p2 d2 p3 d3 a2 c2 a3 c3) 57);have B0:=ah (Bx.new hP (hJ (1) x a1 c1 p1 d1 p2 d2 p3 d3 a2 c2 a3 c3) 57);have P0:=ah (hP.next hal)
 have S0:Hid (St PB v w v (w.alloc (.cells (hJ (1) x a1 c1 p1 d1 p2 d2 p3 d3 a2 c2 a3 c3) 57))):=St.of hal hP.lt;have G0:=ah (hG.nx hal hP.lt);have L00:=ah ((k1).nx iY hal);clear hP hG hal k1;go_enter Tryz.func32,Tryz.ntmps32;go_upto_region 1 with fail
 generalize w.alloc _=w0 at *;have f1:=B0.out.c 0 rfl;have f2:=B0.out.c 1 rfl
 have con3:=bq [⟨#[99,114,101,97,116,101]⟩,⟨#[116,97,98,108,101]⟩,x.name,⟨#[40]⟩] P0.out (dx (dx (dx (Hb.out)))) (by simp);go_wp2_with fail
 refine con3.mono ?_;rintro e w4 ⟨rfl,v5,P_,S_⟩;have P6:=ah P_;have S7:=ah (S0.out.trans S_);have G8:=ah (G0.out.st S_);have B9:=ah (B0.out.st S_);have L10:=ah ((L00.out).cE iY S_);clear con3 P_ S_ f1 f2 P0 S0 G0 B0 L00;have f11:=B9.out.c 2 rfl
 have con12:=wo x.cF HO.out (fun _ _=>trivial) a1 c1 (G8.out) (P6.out) L10.out (by rw [← an]; exact dx (dx (Hb.out)));go_wp2_with fail
 refine con12.mono ?_;rintro e w13 ⟨rfl,v14,P_,S_⟩;have P15:Hid (aF w13 PB v14 (aE bs ([⟨#[99,114,101,97,116,101]⟩,⟨#[116,97,98,108,101]⟩,x.name,⟨#[40]⟩] ++ dS dH x.cF))):=by show aF _ _ _ _; rw [an]; exact P_
 have S16:=ah (S7.out.trans S_);have G17:=ah (G8.out.st S_);have B18:=ah (B9.out.st S_);have L19:=ah ((L10.out).cE iY S_);clear con12 P_ S_ f11 P6 S7 G8 B9 L10
 have con20:=bq [⟨#[41]⟩] P15.out (by rw [← an]; exact dx (Hb.out)) (by simp);go_wp2_with fail
 refine con20.mono ?_;rintro e w21 ⟨rfl,v22,P_,S_⟩;have P23:Hid (aF w21 PB v22 (aE bs ([⟨#[99,114,101,97,116,101]⟩,⟨#[116,97,98,108,101]⟩,x.name,⟨#[40]⟩] ++ dS dH x.cF ++ [⟨#[41]⟩]))):=by show aF _ _ _ _; rw [an]; exact P_
 have S24:=ah (S16.out.trans S_);have G25:=ah (G17.out.st S_);have B26:=ah (B18.out.st S_);have L27:=ah ((L19.out).cE iY S_);clear con20 P_ S_  P15 S16 G17 B18 L19
 have con28:=bq [⟨#[59]⟩] P23.out (by rw [← an]; exact Hb.out) (by simp);go_wp2_with fail
 refine con28.mono ?_;rintro e w29 ⟨rfl,v30,P_,S_⟩;have P31:Hid (aF w29 PB v30 (aE bs ([⟨#[99,114,101,97,116,101]⟩,⟨#[116,97,98,108,101]⟩,x.name,⟨#[40]⟩] ++ dS dH x.cF ++ [⟨#[41]⟩] ++ [⟨#[59]⟩]))):=by show aF _ _ _ _; rw [an]; exact P_
 have S32:=ah (S24.out.trans S_);have G33:=ah (G25.out.st S_);have B34:=ah (B26.out.st S_);have L35:=ah ((L27.out).cE iY S_);clear con28 P_ S_  P23 S24 G25 B26 L27;go_wp2_with fail
 go_end0
 exact ⟨rfl,v30,P31.out,S32.out⟩
theorem FW (x:cM) (ok:FE x.query) (a1 p1 p2 p3 a2 a3:Option Addr) (c1 d1 d2 d3 c2 c3:Nat) {PB:Nat} {v:Value} {bs:List UInt8} {w:World} (hG:GP w PB) (hP:aF w PB v bs) (k2:bf eS 21 (fun b=>b<PB) w p1 x.query.parts) (k3:bf lD 1 (fun b=>b<PB) w p2 x.query.ops) (k4:bf fu 7 (fun b=>b<PB) w p3 x.query.order) (hb:(aE bs ([⟨#[99,114,101,97,116,101]⟩,⟨#[118,105,101,119]⟩,x.name,⟨#[97,115]⟩] ++ gO x.query ++ [⟨#[59]⟩])).length≤gZ):Calls Tryz.prog 32 #[af PB 0,.agg (hJ (2) x a1 c1 p1 d1 p2 d2 p3 d3 a2 c2 a3 c3)] w (bU w PB v (aE bs ([⟨#[99,114,101,97,116,101]⟩,⟨#[118,105,101,119]⟩,x.name,⟨#[97,115]⟩] ++ gO x.query ++ [⟨#[59]⟩]))):=by
 have hmf:∀ (fn:Fn) (first cap:Array Value) (w:World),(Instr.makeFunc fn first cap).run Tryz.prog w = .ok (.func fn first cap) w:=fun _ _ _ _=>rfl
 have HO:=ah ok;clear ok;have Hb:=ah hb;clear hb;have hal:=bR w (.cells (hJ (2) x a1 c1 p1 d1 p2 d2 p3 d3 a2 c2 a3 c3) 57);have B0:=ah (Bx.new hP (hJ (2) x a1 c1 p1 d1 p2 d2 p3 d3 a2 c2 a3 c3) 57);have P0:=ah (hP.next hal)
 have S0:Hid (St PB v w v (w.alloc (.cells (hJ (2) x a1 c1 p1 d1 p2 d2 p3 d3 a2 c2 a3 c3) 57))):=St.of hal hP.lt;have G0:=ah (hG.nx hal hP.lt);have L00:=ah ((k2).nx b8 hal);have L01:=ah ((k3).nx fv hal)
 have L02:=ah ((k4).nx b9 hal);clear hP hG hal k2 k3 k4;go_enter Tryz.func32,Tryz.ntmps32;go_upto_region 1 with fail
 generalize w.alloc _=w0 at *;have f1:=B0.out.c 0 rfl;have f2:=B0.out.c 1 rfl
 have con3:=bq [⟨#[99,114,101,97,116,101]⟩,⟨#[118,105,101,119]⟩,x.name,⟨#[97,115]⟩] P0.out (dx (dx (Hb.out))) (by simp);go_wp2_with fail
 refine con3.mono ?_;rintro e w4 ⟨rfl,v5,P_,S_⟩;have P6:=ah P_;have S7:=ah (S0.out.trans S_);have G8:=ah (G0.out.st S_);have B9:=ah (B0.out.st S_);have L10:=ah ((L00.out).cE b8 S_);have L11:=ah ((L01.out).cE fv S_);have L12:=ah ((L02.out).cE b9 S_)
 clear con3 P_ S_ f1 f2 P0 S0 G0 B0 L00 L01 L02;have f13:=B9.out.c 3 rfl;have f14:=B9.out.c 4 rfl;have f15:=B9.out.c 5 rfl;have f16:=B9.out.c 6 rfl
 have con17:=rh x.query HO.out p1 p2 p3 d1 d2 d3 (G8.out) (P6.out) L10.out L11.out L12.out (by rw [← an]; exact dx (Hb.out));go_wp2_with fail
 refine con17.mono ?_;rintro e w18 ⟨rfl,v19,P_,S_⟩;have P20:Hid (aF w18 PB v19 (aE bs ([⟨#[99,114,101,97,116,101]⟩,⟨#[118,105,101,119]⟩,x.name,⟨#[97,115]⟩] ++ gO x.query))):=by show aF _ _ _ _; rw [an]; exact P_
 have S21:=ah (S7.out.trans S_);have G22:=ah (G8.out.st S_);have B23:=ah (B9.out.st S_);have L24:=ah ((L10.out).cE b8 S_);have L25:=ah ((L11.out).cE fv S_);have L26:=ah ((L12.out).cE b9 S_);clear con17 P_ S_ f13 f14 f15 f16 P6 S7 G8 B9 L10 L11 L12
 have con27:=bq [⟨#[59]⟩] P20.out (by rw [← an]; exact Hb.out) (by simp);go_wp2_with fail
 refine con27.mono ?_;rintro e w28 ⟨rfl,v29,P_,S_⟩;have P30:Hid (aF w28 PB v29 (aE bs ([⟨#[99,114,101,97,116,101]⟩,⟨#[118,105,101,119]⟩,x.name,⟨#[97,115]⟩] ++ gO x.query ++ [⟨#[59]⟩]))):=by show aF _ _ _ _; rw [an]; exact P_
 have S31:=ah (S21.out.trans S_);have G32:=ah (G22.out.st S_);have B33:=ah (B23.out.st S_);have L34:=ah ((L24.out).cE b8 S_);have L35:=ah ((L25.out).cE fv S_);have L36:=ah ((L26.out).cE b9 S_);clear con27 P_ S_  P20 S21 G22 B23 L24 L25 L26;go_wp2_with fail
 go_end0
 exact ⟨rfl,v29,P30.out,S31.out⟩
theorem Gq (x:cM) (ok:x.rows.length≤1000∧∀ l ∈ x.rows,l.length≤1000∧∀ y ∈ l,nf y) (a1 p1 p2 p3 a2 a3:Option Addr) (c1 d1 d2 d3 c2 c3:Nat) {PB:Nat} {v:Value} {bs:List UInt8} {w:World} (hG:GP w PB) (hP:aF w PB v bs) (k5:bf (iB jQ 3) 1 (fun b=>b<PB) w a2 x.rows) (hb:(aE bs ([⟨#[105,110,115,101,114,116]⟩,⟨#[105,110,116,111]⟩,x.name,⟨#[118,97,108,117,101,115]⟩] ++ dS gd x.rows ++ [⟨#[59]⟩])).length≤gZ):Calls Tryz.prog 32 #[af PB 0,.agg (hJ (3) x a1 c1 p1 d1 p2 d2 p3 d3 a2 c2 a3 c3)] w (bU w PB v (aE bs ([⟨#[105,110,115,101,114,116]⟩,⟨#[105,110,116,111]⟩,x.name,⟨#[118,97,108,117,101,115]⟩] ++ dS gd x.rows ++ [⟨#[59]⟩]))):=by
 have hmf:∀ (fn:Fn) (first cap:Array Value) (w:World),(Instr.makeFunc fn first cap).run Tryz.prog w = .ok (.func fn first cap) w:=fun _ _ _ _=>rfl
 have HO:=ah ok;clear ok;have Hb:=ah hb;clear hb;have hal:=bR w (.cells (hJ (3) x a1 c1 p1 d1 p2 d2 p3 d3 a2 c2 a3 c3) 57);have B0:=ah (Bx.new hP (hJ (3) x a1 c1 p1 d1 p2 d2 p3 d3 a2 c2 a3 c3) 57);have P0:=ah (hP.next hal)
 have S0:Hid (St PB v w v (w.alloc (.cells (hJ (3) x a1 c1 p1 d1 p2 d2 p3 d3 a2 c2 a3 c3) 57))):=St.of hal hP.lt;have G0:=ah (hG.nx hal hP.lt);have L00:=ah ((k5).nx (br eU 3) hal);clear hP hG hal k5;go_enter Tryz.func32,Tryz.ntmps32;go_upto_region 1 with fail
 generalize w.alloc _=w0 at *;have f1:=B0.out.c 0 rfl;have f2:=B0.out.c 1 rfl
 have con3:=bq [⟨#[105,110,115,101,114,116]⟩,⟨#[105,110,116,111]⟩,x.name,⟨#[118,97,108,117,101,115]⟩] P0.out (dx (dx (Hb.out))) (by simp);go_wp2_with fail
 refine con3.mono ?_;rintro e w4 ⟨rfl,v5,P_,S_⟩;have P6:=ah P_;have S7:=ah (S0.out.trans S_);have G8:=ah (G0.out.st S_);have B9:=ah (B0.out.st S_);have L10:=ah ((L00.out).cE (br eU 3) S_);clear con3 P_ S_ f1 f2 P0 S0 G0 B0 L00;have f11:=B9.out.c 7 rfl
 have con12:=vb x.rows HO.out.1 HO.out.2 a2 c2 (G8.out) (P6.out) L10.out (by rw [← an]; exact dx (Hb.out));go_wp2_with fail
 refine con12.mono ?_;rintro e w13 ⟨rfl,v14,P_,S_⟩;have P15:Hid (aF w13 PB v14 (aE bs ([⟨#[105,110,115,101,114,116]⟩,⟨#[105,110,116,111]⟩,x.name,⟨#[118,97,108,117,101,115]⟩] ++ dS gd x.rows))):=by show aF _ _ _ _; rw [an]; exact P_
 have S16:=ah (S7.out.trans S_);have G17:=ah (G8.out.st S_);have B18:=ah (B9.out.st S_);have L19:=ah ((L10.out).cE (br eU 3) S_);clear con12 P_ S_ f11 P6 S7 G8 B9 L10
 have con20:=bq [⟨#[59]⟩] P15.out (by rw [← an]; exact Hb.out) (by simp);go_wp2_with fail
 refine con20.mono ?_;rintro e w21 ⟨rfl,v22,P_,S_⟩;have P23:Hid (aF w21 PB v22 (aE bs ([⟨#[105,110,115,101,114,116]⟩,⟨#[105,110,116,111]⟩,x.name,⟨#[118,97,108,117,101,115]⟩] ++ dS gd x.rows ++ [⟨#[59]⟩]))):=by show aF _ _ _ _; rw [an]; exact P_
 have S24:=ah (S16.out.trans S_);have G25:=ah (G17.out.st S_);have B26:=ah (B18.out.st S_);have L27:=ah ((L19.out).cE (br eU 3) S_);clear con20 P_ S_  P15 S16 G17 B18 L19;go_wp2_with fail
 go_end0
 exact ⟨rfl,v22,P23.out,S24.out⟩
theorem FK (x:cM) (ok:x.ax=true→qm x.au) (a1 p1 p2 p3 a2 a3:Option Addr) (c1 d1 d2 d3 c2 c3:Nat) {PB:Nat} {v:Value} {bs:List UInt8} {w:World} (hG:GP w PB) (hP:aF w PB v bs) (k6:aJ (fun b=>b<PB) w a3 x.au.ks) (hb:(aE bs ([⟨#[100,101,108,101,116,101]⟩,⟨#[102,114,111,109]⟩,x.name] ++ fH ⟨#[119,104,101,114,101]⟩ x.ax x.au ++ [⟨#[59]⟩])).length≤gZ):Calls Tryz.prog 32 #[af PB 0,.agg (hJ (4) x a1 c1 p1 d1 p2 d2 p3 d3 a2 c2 a3 c3)] w (bU w PB v (aE bs ([⟨#[100,101,108,101,116,101]⟩,⟨#[102,114,111,109]⟩,x.name] ++ fH ⟨#[119,104,101,114,101]⟩ x.ax x.au ++ [⟨#[59]⟩]))):=by
 have hmf:∀ (fn:Fn) (first cap:Array Value) (w:World),(Instr.makeFunc fn first cap).run Tryz.prog w = .ok (.func fn first cap) w:=fun _ _ _ _=>rfl
 have HO:=ah ok;clear ok;have Hb:=ah hb;clear hb;have hal:=bR w (.cells (hJ (4) x a1 c1 p1 d1 p2 d2 p3 d3 a2 c2 a3 c3) 57);have B0:=ah (Bx.new hP (hJ (4) x a1 c1 p1 d1 p2 d2 p3 d3 a2 c2 a3 c3) 57);have P0:=ah (hP.next hal)
 have S0:Hid (St PB v w v (w.alloc (.cells (hJ (4) x a1 c1 p1 d1 p2 d2 p3 d3 a2 c2 a3 c3) 57))):=St.of hal hP.lt;have G0:=ah (hG.nx hal hP.lt);have L00:=ah (aJ.next hal k6);clear hP hG hal k6;go_enter Tryz.func32,Tryz.ntmps32;go_upto_region 1 with fail
 generalize w.alloc _=w0 at *;have f1:=B0.out.c 0 rfl;have f2:=B0.out.c 1 rfl
 have con3:=bq [⟨#[100,101,108,101,116,101]⟩,⟨#[102,114,111,109]⟩,x.name] P0.out (dx (dx (Hb.out))) (by simp);go_wp2_with fail
 refine con3.mono ?_;rintro e w4 ⟨rfl,v5,P_,S_⟩;have P6:=ah P_;have S7:=ah (S0.out.trans S_);have G8:=ah (G0.out.st S_);have B9:=ah (B0.out.st S_);have L10:=ah (aJ.cE L00.out S_);clear con3 P_ S_ f1 f2 P0 S0 G0 B0 L00;have f11:=B9.out.c 8 rfl
 have f12:=B9.out.c 9 rfl;have f13:=B9.out.c 10 rfl;have f14:=B9.out.c 11 rfl;have f15:=B9.out.c 12 rfl;have f16:=B9.out.c 13 rfl;have f17:=B9.out.c 14 rfl;have f18:=B9.out.c 15 rfl
 have con19:=ey ⟨#[119,104,101,114,101]⟩ x.ax x.au HO.out a3 c3 (G8.out) (P6.out) L10.out (by rw [← an]; exact dx (Hb.out));go_wp2_with fail
 refine con19.mono ?_;rintro e w20 ⟨rfl,v21,P_,S_⟩;have P22:Hid (aF w20 PB v21 (aE bs ([⟨#[100,101,108,101,116,101]⟩,⟨#[102,114,111,109]⟩,x.name] ++ fH ⟨#[119,104,101,114,101]⟩ x.ax x.au))):=by show aF _ _ _ _; rw [an]; exact P_
 have S23:=ah (S7.out.trans S_);have G24:=ah (G8.out.st S_);have B25:=ah (B9.out.st S_);have L26:=ah (aJ.cE L10.out S_);clear con19 P_ S_ f11 f12 f13 f14 f15 f16 f17 f18 P6 S7 G8 B9 L10
 have con27:=bq [⟨#[59]⟩] P22.out (by rw [← an]; exact Hb.out) (by simp);go_wp2_with fail
 refine con27.mono ?_;rintro e w28 ⟨rfl,v29,P_,S_⟩;have P30:Hid (aF w28 PB v29 (aE bs ([⟨#[100,101,108,101,116,101]⟩,⟨#[102,114,111,109]⟩,x.name] ++ fH ⟨#[119,104,101,114,101]⟩ x.ax x.au ++ [⟨#[59]⟩]))):=by show aF _ _ _ _; rw [an]; exact P_
 have S31:=ah (S23.out.trans S_);have G32:=ah (G24.out.st S_);have B33:=ah (B25.out.st S_);have L34:=ah (aJ.cE L26.out S_);clear con27 P_ S_  P22 S23 G24 B25 L26;go_wp2_with fail
 go_end0
 exact ⟨rfl,v29,P30.out,S31.out⟩
theorem Gm (x:cM) (ok:FE x.query) (a1 p1 p2 p3 a2 a3:Option Addr) (c1 d1 d2 d3 c2 c3:Nat) {PB:Nat} {v:Value} {bs:List UInt8} {w:World} (hG:GP w PB) (hP:aF w PB v bs) (k2:bf eS 21 (fun b=>b<PB) w p1 x.query.parts) (k3:bf lD 1 (fun b=>b<PB) w p2 x.query.ops) (k4:bf fu 7 (fun b=>b<PB) w p3 x.query.order) (hb:(aE bs ([⟨#[115,104,111,119]⟩] ++ gO x.query ++ [⟨#[59]⟩])).length≤gZ):Calls Tryz.prog 32 #[af PB 0,.agg (hJ (5) x a1 c1 p1 d1 p2 d2 p3 d3 a2 c2 a3 c3)] w (bU w PB v (aE bs ([⟨#[115,104,111,119]⟩] ++ gO x.query ++ [⟨#[59]⟩]))):=by
 have hmf:∀ (fn:Fn) (first cap:Array Value) (w:World),(Instr.makeFunc fn first cap).run Tryz.prog w = .ok (.func fn first cap) w:=fun _ _ _ _=>rfl
 have HO:=ah ok;clear ok;have Hb:=ah hb;clear hb;have hal:=bR w (.cells (hJ (5) x a1 c1 p1 d1 p2 d2 p3 d3 a2 c2 a3 c3) 57);have B0:=ah (Bx.new hP (hJ (5) x a1 c1 p1 d1 p2 d2 p3 d3 a2 c2 a3 c3) 57);have P0:=ah (hP.next hal)
 have S0:Hid (St PB v w v (w.alloc (.cells (hJ (5) x a1 c1 p1 d1 p2 d2 p3 d3 a2 c2 a3 c3) 57))):=St.of hal hP.lt;have G0:=ah (hG.nx hal hP.lt);have L00:=ah ((k2).nx b8 hal);have L01:=ah ((k3).nx fv hal)
 have L02:=ah ((k4).nx b9 hal);clear hP hG hal k2 k3 k4;go_enter Tryz.func32,Tryz.ntmps32;go_upto_region 1 with fail
 generalize w.alloc _=w0 at *;have f1:=B0.out.c 0 rfl;have con2:=bq [⟨#[115,104,111,119]⟩] P0.out (dx (dx (Hb.out))) (by simp);go_wp2_with fail
 refine con2.mono ?_;rintro e w3 ⟨rfl,v4,P_,S_⟩;have P5:=ah P_;have S6:=ah (S0.out.trans S_);have G7:=ah (G0.out.st S_);have B8:=ah (B0.out.st S_);have L9:=ah ((L00.out).cE b8 S_);have L10:=ah ((L01.out).cE fv S_);have L11:=ah ((L02.out).cE b9 S_);clear con2 P_ S_ f1 P0 S0 G0 B0 L00 L01 L02
 have f12:=B8.out.c 3 rfl;have f13:=B8.out.c 4 rfl;have f14:=B8.out.c 5 rfl;have f15:=B8.out.c 6 rfl
 have con16:=rh x.query HO.out p1 p2 p3 d1 d2 d3 (G7.out) (P5.out) L9.out L10.out L11.out (by rw [← an]; exact dx (Hb.out));go_wp2_with fail
 refine con16.mono ?_;rintro e w17 ⟨rfl,v18,P_,S_⟩;have P19:Hid (aF w17 PB v18 (aE bs ([⟨#[115,104,111,119]⟩] ++ gO x.query))):=by show aF _ _ _ _; rw [an]; exact P_
 have S20:=ah (S6.out.trans S_);have G21:=ah (G7.out.st S_);have B22:=ah (B8.out.st S_);have L23:=ah ((L9.out).cE b8 S_);have L24:=ah ((L10.out).cE fv S_);have L25:=ah ((L11.out).cE b9 S_);clear con16 P_ S_ f12 f13 f14 f15 P5 S6 G7 B8 L9 L10 L11
 have con26:=bq [⟨#[59]⟩] P19.out (by rw [← an]; exact Hb.out) (by simp);go_wp2_with fail
 refine con26.mono ?_;rintro e w27 ⟨rfl,v28,P_,S_⟩;have P29:Hid (aF w27 PB v28 (aE bs ([⟨#[115,104,111,119]⟩] ++ gO x.query ++ [⟨#[59]⟩]))):=by show aF _ _ _ _; rw [an]; exact P_
 have S30:=ah (S20.out.trans S_);have G31:=ah (G21.out.st S_);have B32:=ah (B22.out.st S_);have L33:=ah ((L23.out).cE b8 S_);have L34:=ah ((L24.out).cE fv S_);have L35:=ah ((L25.out).cE b9 S_);clear con26 P_ S_  P19 S20 G21 B22 L23 L24 L25;go_wp2_with fail
 go_end0
 exact ⟨rfl,v28,P29.out,S30.out⟩
theorem pX (x:cM) (ok:FL x) (a1 p1 p2 p3 a2 a3:Option Addr) (c1 d1 d2 d3 c2 c3:Nat) {PB:Nat} {v:Value} {bs:List UInt8} {w:World} (hG:GP w PB) (hP:aF w PB v bs) (k1:bf pO 2 (fun b=>b<PB) w a1 x.cF) (k2:bf eS 21 (fun b=>b<PB) w p1 x.query.parts) (k3:bf lD 1 (fun b=>b<PB) w p2 x.query.ops) (k4:bf fu 7 (fun b=>b<PB) w p3 x.query.order) (k5:bf (iB jQ 3) 1 (fun b=>b<PB) w a2 x.rows) (k6:aJ (fun b=>b<PB) w a3 x.au.ks) (hb:(aE bs (dr x)).length≤gZ):Calls Tryz.prog 32 #[af PB 0,.agg (hJ x.kind x a1 c1 p1 d1 p2 d2 p3 d3 a2 c2 a3 c3)] w (bU w PB v (aE bs (dr x))):=by
 have hk:=ok.kind;have hc:x.kind=1∨x.kind=2∨x.kind=3∨x.kind=4∨x.kind=5:=by omega
 rcases hc with e | e | e | e | e
 ·have es:dr x = [⟨#[99,114,101,97,116,101]⟩,⟨#[116,97,98,108,101]⟩,x.name,⟨#[40]⟩] ++ dS dH x.cF ++ [⟨#[41]⟩] ++ [⟨#[59]⟩]:=by unfold dr; rw [if_pos e]
  rw [es] at hb ⊢;rw [e];exact GK x (ok.cF e) a1 p1 p2 p3 a2 a3 c1 d1 d2 d3 c2 c3 hG hP k1 hb
 ·have es:dr x = [⟨#[99,114,101,97,116,101]⟩,⟨#[118,105,101,119]⟩,x.name,⟨#[97,115]⟩] ++ gO x.query ++ [⟨#[59]⟩]:=by unfold dr; rw [if_neg ak,if_pos e]
  rw [es] at hb ⊢;rw [e];exact FW x (ok.query (.inl e)) a1 p1 p2 p3 a2 a3 c1 d1 d2 d3 c2 c3 hG hP k2 k3 k4 hb
 ·have es:dr x = [⟨#[105,110,115,101,114,116]⟩,⟨#[105,110,116,111]⟩,x.name,⟨#[118,97,108,117,101,115]⟩] ++ dS gd x.rows ++ [⟨#[59]⟩]:=by unfold dr; rw [if_neg ak,if_neg ak,if_pos e]
  rw [es] at hb ⊢;rw [e];exact Gq x (ok.rows e) a1 p1 p2 p3 a2 a3 c1 d1 d2 d3 c2 c3 hG hP k5 hb
 ·have es:dr x = [⟨#[100,101,108,101,116,101]⟩,⟨#[102,114,111,109]⟩,x.name] ++ fH ⟨#[119,104,101,114,101]⟩ x.ax x.au ++ [⟨#[59]⟩]:=by unfold dr; rw [if_neg ak,if_neg ak,if_neg ak,if_pos e]
  rw [es] at hb ⊢;rw [e];exact FK x (ok.au e) a1 p1 p2 p3 a2 a3 c1 d1 d2 d3 c2 c3 hG hP k6 hb
 ·have es:dr x = [⟨#[115,104,111,119]⟩] ++ gO x.query ++ [⟨#[59]⟩]:=by unfold dr; rw [if_neg ak,if_neg ak,if_neg ak,if_neg ak,if_pos e]
  rw [es] at hb ⊢;rw [e];exact Gm x (ok.query (.inr e)) a1 p1 p2 p3 a2 a3 c1 d1 d2 d3 c2 c3 hG hP k2 k3 k4 hb
theorem eY {a b:Int} (h:dY a b=0):a=0∧b=0:=by
 unfold dY at h;by_cases e:a=0
 ·rw [if_pos e] at h; exact ⟨e,h⟩
 ·rw [if_neg e] at h; exact absurd h e
theorem om {v:Vl} (h:gb v=0):nf v:=by
 unfold gb at h;by_cases h1:v.1=1
 ·exact ⟨by omega,by omega,fun _=>by omega,fun _=>by omega⟩
 rw [if_neg h1] at h;by_cases h2:v.1=2
 ·exact ⟨by omega,by omega,fun _=>by omega,fun _=>by omega⟩
 rw [if_neg h2] at h;by_cases h3:v.1=3
 ·rw [if_pos h3] at h;by_cases hi:rG v.2.1=true
  ·have hi':=hi;simp only [rG,Jv,decide_eq_true_eq] at hi';exact ⟨by omega,by omega,fun _=>hi',fun _=>by omega⟩
  ·rw [if_neg hi] at h; exact absurd h (by decide)
 rw [if_neg h3] at h;by_cases h4:v.1=4
 ·rw [if_pos h4] at h;by_cases hs:v.2.2.size > 60
  ·rw [if_pos hs] at h; exact absurd h (by decide)
  ·exact ⟨by omega,by omega,fun _=>by omega,fun _=>by omega⟩
 ·rw [if_neg h4] at h; exact absurd h (by decide)
mutual
def nX:SX→Nat
 | .mk _ _ _ _ ks=>1+rM ks
def rM:List SX→Nat
 | []=>0
 | x :: r=>nX x+rM r
end
inductive pM:SX→Prop
 | mk {k:Int} {v:Vl} {t n:ByteArray} {ks:List SX}:1≤k→k≤23→ks.length=eX k→ij (.mk k v t n ks)=0→(∀ y ∈ ks,pM y)→pM (.mk k v t n ks)
theorem pM.ok {x:SX} (h:pM x):qm x:=by
 induction h with
 | @mk k v t n ks h1 h2 h3 h4 _ ih =>
  refine .mk h1 h2 h3 (fun e=>om ?_) ih;unfold ij at h4;rw [if_pos (show (SX.mk k v t n ks).k=1 from e)] at h4;exact h4
theorem xb {g:SX→Int→Int × Int} {P:SX→Prop} (hg:∀ y n,(g y n).1=0→P y∧(g y n).2=n+nX y∧(g y n).2≤200):∀ (ks:List SX) (n:Int),n≤200→(gS g ks n).1=0→(∀ y ∈ ks,P y)∧(gS g ks n).2=n+rM ks∧(gS g ks n).2≤200
 | [],n,hn,_=>⟨by simp,by rw [rM]; simp [gS],hn⟩
 | y :: r,n,hn,h=>by
  rw [gS] at h ⊢
  by_cases e:(g y n).1=0
  ·rw [if_pos e] at h ⊢
   obtain ⟨p1,p2,p3⟩:=hg y n e
   obtain ⟨q1,q2,q3⟩:=xb hg r _ p3 h
   refine ⟨?_,by rw [q2,p2,rM]; push_cast; omega,q3⟩
   intro z hz
   rcases List.mem_cons.1 hz with rfl | hz
   ·exact p1
   ·exact q1 z hz
  ·rw [if_neg e] at h; exact absurd h e
theorem xx:∀ (f:Nat) (x:SX) (d n:Int),(fe f x d n).1=0→pM x∧(fe f x d n).2=n+nX x∧(fe f x d n).2≤200
 | 0,x,d,n,h=>by rw [fe] at h; exact absurd h (by simp)
 | f+1,.mk k v t nm ks,d,n,h=>by
  rw [fe] at h ⊢
  by_cases h1:n+1≤200∧d≤20
  ·rw [if_neg (by simpa using h1)] at h ⊢
   by_cases h2:1≤(SX.mk k v t nm ks).k∧(SX.mk k v t nm ks).k≤23
   ·rw [if_neg (by simpa using h2)] at h ⊢
    by_cases h3:(SX.mk k v t nm ks).ks.length=eX (SX.mk k v t nm ks).k
    ·rw [if_neg (by simpa using h3)] at h ⊢
     by_cases h4:ij (SX.mk k v t nm ks)=0
     ·rw [if_neg (by simpa using h4)] at h ⊢
      obtain ⟨q1,q2,q3⟩:=xb (fun y m=>xx f y (d+1) m) _ _ h1.1 h
      exact ⟨.mk h2.1 h2.2 h3 h4 q1,by rw [q2,nX]; show _=n+((1+rM ks:Nat):Int); push_cast; show n+1+(rM ks:Int)=_; omega,q3⟩
     ·rw [if_pos h4] at h; exact absurd h h4
    ·rw [if_pos h3] at h; exact absurd h (by simp)
   ·rw [if_pos h2] at h; exact absurd h (by simp)
  ·rw [if_pos h1] at h; exact absurd h (by simp)
theorem kQ {x:SX} (h:eR x=0):pM x∧nX x≤200:=by
 obtain ⟨h1,h2,h3⟩:=xx 21 x 1 0 h;exact ⟨h1,by omega⟩
theorem oI:∀ {l:List SX},eZ l=0→∀ x ∈ l,pM x∧nX x≤200
 | [],_=>by simp
 | y :: r,h=>by
  rw [eZ] at h
  obtain ⟨h1,h2⟩:=eY h
  intro x hx
  rcases List.mem_cons.1 hx with rfl | hx
  ·exact kQ h1
  ·exact oI h2 x hx
theorem kP {b:Bool} {x:SX} (h:ed b x=0) (e:b=true):pM x∧nX x≤200:=by subst e; exact kQ h
theorem sX:∀ {l:List kx},gr l=0→∀ x ∈ l,(pM x.1∧nX x.1≤200)∧dz x.2=0
 | [],_=>by simp
 | y :: r,h=>by
  rw [gr] at h
  obtain ⟨h1,h2⟩:=eY h
  obtain ⟨h2,h3⟩:=eY h2
  intro x hx
  rcases List.mem_cons.1 hx with rfl | hx
  ·exact ⟨kQ h1,h2⟩
  ·exact sX h3 x hx
structure tM (first:Bool) (x:Src):Prop where
 name:ef x.name=0
 alias:dz x.alias=0
 on:first=false→pM x.on∧nX x.on≤200
theorem yr {first:Bool} {x:Src} (h:eI first x=0):tM first x:=by
 unfold eI at h;obtain ⟨_,h⟩:=eY h;obtain ⟨h1,h⟩:=eY h;obtain ⟨h2,h⟩:=eY h;obtain ⟨h3,_⟩:=eY h;exact ⟨h1,h2,fun e=>kP h3 (by subst e; rfl)⟩
theorem oF:∀ {l:List Src} {first:Bool},dc first l=0→∀ (i:Nat) (h:i<l.length),tM (first && i == 0) l[i]
 | [],_,_=>by simp
 | y :: r,first,h=>by
  rw [dc] at h
  obtain ⟨h1,h2⟩:=eY h
  intro i hi
  match i,hi with
  | 0,_=>simpa using yr h1
  | i+1,hi =>
   have:=oF h2 i (by simpa using hi)
   simpa using this
structure oY (x:dO):Prop where
 items:x.star=false→x.items.length≤8∧∀ y ∈ x.items,(pM y.1∧nX y.1≤200)∧dz y.2=0
 sources:x.sources.length≤4∧∀ (i:Nat) (h:i<x.sources.length),tM (i == 0) x.sources[i]
 au:x.ax=true→pM x.au∧nX x.au≤200
 az:x.aG=true→pM x.az∧nX x.az≤200
 group:x.group.length≤8∧∀ y ∈ x.group,pM y∧nX y≤200
theorem ET {x:dO} (h:lL x=0):oY x:=by
 unfold lL at h;obtain ⟨h1,h⟩:=eY h;obtain ⟨h2,h⟩:=eY h;obtain ⟨h3,h⟩:=eY h;obtain ⟨h4,h⟩:=eY h;unfold uI at h;obtain ⟨h5,h⟩:=eY h;obtain ⟨h6,h⟩:=eY h;obtain ⟨h7,_⟩:=eY h;refine ⟨fun e=>?_,⟨by have:=dw h1; omega,fun i hi=>by have:=oF h4 i hi; simpa using this⟩,kP h5,kP h7,by have:=dw h2; omega,oI h6⟩;unfold lW at h3;rw [e] at h3;rw [if_neg (by decide)] at h3;unfold kz at h3;obtain ⟨g1,g2⟩:=eY h3;obtain ⟨g2,_⟩:=eY g2;exact ⟨by have:=dw g1; omega,sX g2⟩
theorem oY.ok {x:dO} (h:oY x):Ce x :=
 ⟨fun e=>⟨by have:=(h.items e).1; omega,fun y hy=>((h.items e).2 y hy).1.1.ok⟩,⟨by have:=h.sources.1; omega,fun i hi h0=>(((h.sources.2 i hi).on (by rw [beq_eq_false_iff_ne]; omega)).1).ok⟩,fun e=>(h.au e).1.ok,fun e=>(h.az e).1.ok,by have:=h.group.1; omega,fun y hy=>(h.group.2 y hy).1.ok⟩
theorem uv {ops:List Int}:∀ {l:List dO} {j:Nat},fx ops j l=0→(∀ x ∈ l,oY x)∧∀ i,i<l.length→j+i≠0→1≤ops.getD (j+i - 1) 0∧ops.getD (j+i - 1) 0≤4
 | [],_,_=>by simp
 | y :: r,j,h=>by
  rw [fx] at h
  obtain ⟨h1,h⟩:=eY h
  obtain ⟨h2,h3⟩:=eY h
  obtain ⟨q1,q2⟩:=uv h3
  refine ⟨?_,?_⟩
  ·intro x hx
   rcases List.mem_cons.1 hx with rfl | hx
   ·exact ET h2
   ·exact q1 x hx
  ·intro i hi h0
   match i,hi with
   | 0,_ =>
    rw [if_neg ak] at h1
    unfold F9 at h1
    simp only [JL]
    by_cases hc:(decide (1≤ops.getD (j - 1) 0) && decide (ops.getD (j - 1) 0≤4))=true
    ·simpa using hc
    ·rw [if_neg hc] at h1; exact absurd h1 (by decide)
   | i+1,hi =>
    have:=q2 i (by simpa using hi) ak
    rw [show j+(i+1) - 1=j+1+i - 1 by omega]
    exact this
structure FU (q:kf):Prop where
 parts:q.parts.length≤4∧∀ y ∈ q.parts,oY y
 ops:q.parts.length=q.ops.length+1∧∀ i,i<q.ops.length→1≤q.ops.getD i 0∧q.ops.getD i 0≤4
 order:0≤q.aH→q.order.length≤8∧∀ y ∈ q.order,pM y∧nX y≤200
 aH:q.aH≤50
theorem Ff {q:kf} (h:nD q=0):FU q:=by
 unfold nD at h;obtain ⟨h1,h⟩:=eY h;obtain ⟨h2,h⟩:=eY h;obtain ⟨h3,h⟩:=eY h;obtain ⟨h4,h⟩:=eY h;obtain ⟨h5,h⟩:=eY h;obtain ⟨h6,_⟩:=eY h;have g1:=dw h1;have g2:=dw h2;obtain ⟨p1,p2⟩:=uv h5;refine ⟨⟨by omega,p1⟩,⟨by omega,fun i hi=>?_⟩,fun hl=>⟨?_,?_⟩,?_⟩
 ·have:=p2 (i+1) ak ak
  simpa using this
 ·unfold xX at h3;rw [if_pos hl] at h3;have:=dw h3;omega
 ·unfold qa at h6;rw [if_pos hl] at h6;exact oI h6
 ·unfold wG at h4;by_cases e:q.aH≤50
  ·exact e
  ·rw [if_neg e] at h4; exact absurd h4 (by decide)
theorem FU.ok {q:kf} (h:FU q):FE q :=
 ⟨⟨by have:=h.parts.1; omega,fun y hy=>(h.parts.2 y hy).ok⟩,⟨by have:=h.ops.1; omega,fun y hy=>by
  obtain ⟨i,hi,rfl⟩:=List.mem_iff_getElem.1 hy
  have:=h.ops.2 i hi
  simpa [List.getD,hi] using this⟩,fun hl=>⟨by have:=(h.order hl).1; omega,fun y hy=>((h.order hl).2 y hy).1.ok⟩,by have:=h.aH; omega⟩
theorem sc:∀ {l:List Vl},jo l=0→∀ x ∈ l,gb x=0
 | [],_=>by simp
 | y :: r,h=>by
  rw [jo] at h
  obtain ⟨h1,h2⟩:=eY h
  intro x hx
  rcases List.mem_cons.1 hx with rfl | hx
  ·exact h1
  ·exact sc h2 x hx
theorem xe:∀ {l:List (List Vl)},hU l=0→∀ x ∈ l,x.length≤8∧∀ y ∈ x,gb y=0
 | [],_=>by simp
 | y :: r,h=>by
  rw [hU] at h
  obtain ⟨h1,h⟩:=eY h
  obtain ⟨h2,h3⟩:=eY h
  intro x hx
  rcases List.mem_cons.1 hx with rfl | hx
  ·exact ⟨by have:=dw h1; omega,sc h2⟩
  ·exact xe h3 x hx
theorem xi:∀ {l:List tG},kN l=0→∀ x ∈ l,ef x.1=0
 | [],_=>by simp
 | y :: r,h=>by
  rw [kN] at h
  obtain ⟨h1,h⟩:=eY h
  obtain ⟨_,h3⟩:=eY h
  intro x hx
  rcases List.mem_cons.1 hx with rfl | hx
  ·exact h1
  ·exact xi h3 x hx
structure vx (x:cM):Prop where
 kind:1≤x.kind∧x.kind≤5
 name:x.kind≠5→ef x.name=0
 cF:x.kind=1→x.cF.length≤8∧∀ y ∈ x.cF,ef y.1=0
 query:x.kind=2∨x.kind=5→FU x.query
 rows:x.kind=3→x.rows.length≤400∧∀ l ∈ x.rows,l.length≤8∧∀ y ∈ l,gb y=0
 au:x.kind=4→x.ax=true→pM x.au∧nX x.au≤200
theorem Ex {x:cM} (h:iQ x=0):vx x:=by
 unfold iQ at h;obtain ⟨h1,h⟩:=eY h;obtain ⟨h2,h⟩:=eY h;obtain ⟨h3,_⟩:=eY h;have hk:1≤x.kind∧x.kind≤5:=by
  unfold Cn at h1;by_cases hc:(decide (1≤x.kind) && decide (x.kind≤5))=true
  ·simpa using hc
  ·rw [if_neg hc] at h1; exact absurd h1 (by decide)
 unfold jy at h3;refine ⟨hk,fun e=>?_,fun e=>?_,fun e=>?_,fun e=>?_,fun e=>?_⟩
 ·unfold ll at h2; rw [if_neg e] at h2; exact h2
 ·rw [if_pos e] at h3;unfold oK at h3;obtain ⟨g1,g2⟩:=eY h3;exact ⟨by have:=dw g1; omega,xi (eY g2).1⟩
 ·rw [if_neg ak,if_neg ak,if_neg ak] at h3;exact Ff h3
 ·rw [if_neg ak,if_pos e] at h3;unfold mZ at h3;obtain ⟨g1,g2⟩:=eY h3;exact ⟨by have:=dw g1; omega,xe (eY g2).1⟩
 ·rw [if_neg ak,if_neg ak,if_pos e] at h3;exact kP h3
theorem vx.ok {x:cM} (h:vx x):FL x :=
 ⟨h.kind,fun e=>by have:=(h.cF e).1; omega,fun e=>(h.query e).ok,fun e=>⟨by have:=(h.rows e).1; omega,fun l hl=>⟨by have:=((h.rows e).2 l hl).1; omega,fun y hy=>om (((h.rows e).2 l hl).2 y hy)⟩⟩,fun e b=>(h.au e b).1.ok⟩
def du:List ByteArray→Nat
 | []=>0
 | s :: r=>s.size+1+du r
theorem cf:∀ (a b:List ByteArray),du (a ++ b)=du a+du b
 | [],b=>by simp [du]
 | s :: r,b=>by rw [Ju,du,du,cf r b]; omega
theorem xp:∀ (ws:List ByteArray) (bs:List UInt8),(aE bs ws).length≤bs.length+du ws
 | [],bs=>by simp [aE,du]
 | s :: r,bs=>by
  have h:=xp r (jX bs s)
  have h2:(jX bs s).length≤bs.length+(s.size+1):=by
   unfold jX;rw [Jf,Jf,show s.data.toList.length=s.size from Ji]
   split <;> simp <;> omega
  rw [du];show (aE (jX bs s) r).length≤_;omega
theorem jk {s:ByteArray} (h:ef s=0):s.size≤12:=by
 unfold ef at h;by_cases e:dF s=true
 ·unfold dF at e;simp only [Jv,decide_eq_true_eq] at e;omega
 ·rw [if_neg e] at h; exact absurd h (by decide)
theorem s9 {s:ByteArray} (h:dz s=0):s.size≤12:=by
 unfold dz at h;by_cases e:s.toList.isEmpty=true
 ·by_cases z:s.size=0
  ·omega
  ·exact absurd e (by rw [DX z]; decide)
 ·rw [if_neg e] at h; exact jk h
theorem zO {n:Int} (h:-1000000000000000≤n) (h2:n≤1000000000000000):du (j3 n)≤40:=by
 unfold j3
 split
 ·have:=Lib.itoa_length_le (-n) ak ak;show du [⟨#[45]⟩,gK (-n)]≤_;simp only [du];have e:(gK (-n)).size=(Lib.itoa (-n)).length:=by show (Lib.itoa (-n)).toArray.size=_; simp
  have e2:(⟨#[45]⟩:ByteArray).size=1:=rfl;omega
 ·have:=Lib.itoa_length_le n ak ak;simp only [du];have e:(gK n).size=(Lib.itoa n).length:=by show (Lib.itoa n).toArray.size=_; simp
  omega
theorem BR {v:Vl} (h:gb v=0):du (dK v)≤200:=by
 have ok:=om h;unfold dK
 split
 ·exact (by decide:du [⟨#[110,117,108,108]⟩]≤200)
 ·split
  ·split
   ·exact (by decide:du [⟨#[116,114,117,101]⟩]≤200)
   ·exact (by decide:du [⟨#[102,97,108,115,101]⟩]≤200)
  ·split
   ·rename_i e
    have:=zO (ok.2.2.1 e).1 (ok.2.2.1 e).2;omega
   ·split
    ·rename_i e
     have h4:=ok.2.2.2 e;have h5:=xM v.2.2;simp only [du,vK,ByteArray.size_append];have e2:(⟨#[39]⟩:ByteArray).size=1:=rfl;omega
    ·exact Jc _
theorem nO (t:Int) (m:Nat):∀ (l:List (Int × ByteArray)),(∀ a ∈ l,a.2.size≤m)→(cW t l).size≤m
 | [],_=>Jc _
 | a :: r,h=>by
  rw [cW]
  split
  ·exact h a (List.mem_cons_self ..)
  ·exact nO t m r fun b hb=>h b (JM _ hb)
theorem Bd (k:Int) (m:Nat):∀ (l:List (Int × ByteArray × Int)),(∀ a ∈ l,a.2.1.size≤m)→(kn k l).2.1.size≤m
 | [],_=>Jc _
 | a :: r,h=>by
  rw [kn]
  split
  ·exact h a (List.mem_cons_self ..)
  ·exact Bd k m r fun b hb=>h b (JM _ hb)
theorem kE (l:Int) (p:Int × List ByteArray):du (fJ l p)≤du p.2+4:=by
 unfold fJ
 split
 ·omega
 ·rw [cf,cf];have e:du [⟨#[40]⟩]=2:=rfl;have e2:du [⟨#[41]⟩]=2:=rfl;omega
def GM:List (Int × List ByteArray)→Nat
 | []=>0
 | p :: r=>du p.2+GM r
theorem BK {k:Int} {v:Vl} {t n:ByteArray} {ps:List (Int × List ByteArray)} (hv:k=1→du (dK v)≤200) (hc:k=2→t.size≤12∧n.size≤12) (h1:1≤k) (h23:k≤23) (hl:ps.length=eX k):du (ic k v t n ps)≤200+GM ps:=by
 unfold ic;by_cases e1:k=1
 ·rw [if_pos e1]; have:=hv e1; omega
 rw [if_neg e1];by_cases e2:k=2
 ·rw [if_pos e2];have:=hc e2;unfold mP
  split
  ·simp only [du]; omega
  ·rw [cf];have e:(⟨#[46]⟩:ByteArray).size=1:=rfl;simp only [du]; omega
 rw [if_neg e2];have L0:du [⟨#[110,111,116]⟩]=4:=rfl;have L1:du [⟨#[105,115]⟩,⟨#[110,117,108,108]⟩]=8:=rfl;have L2:du [⟨#[99,97,115,101]⟩]=5:=rfl;have L3:du [⟨#[99,111,97,108,101,115,99,101]⟩]=9:=rfl;have L4:du [⟨#[99,111,117,110,116]⟩,⟨#[40]⟩,⟨#[42]⟩,⟨#[41]⟩]=12:=rfl;by_cases e3:k=3
 ·rw [if_pos e3];rw [e3] at hl
  match ps,hl with
  | [p],_=>have:=kE 3 p; rw [cf,L0]; show 4+du (fJ 3 p)≤200+(du p.2+0); omega
 rw [if_neg e3];by_cases e16:k=16
 ·rw [if_pos e16];rw [e16] at hl
  match ps,hl with
  | [p],_=>have:=kE 5 p; rw [cf,L1]; show du (fJ 5 p)+8≤200+(du p.2+0); omega
 rw [if_neg e16];by_cases e17:k=17
 ·rw [if_pos e17];rw [e17] at hl
  match ps,hl with
  | [p,q,r],_ =>
   have a:=kE 1 p;have b:=kE 1 q;have c:=kE 1 r;rw [cf,L2];show 5+du ((([] ++ [⟨#[119,104,101,110]⟩] ++ fJ 1 p) ++ [⟨#[116,104,101,110]⟩] ++ fJ 1 q) ++ [⟨#[101,108,115,101]⟩] ++ fJ 1 r ++ [⟨#[101,110,100]⟩])≤200+(du p.2+(du q.2+(du r.2+0)));simp only [cf];have f1:du [⟨#[119,104,101,110]⟩]=5:=rfl;have f2:du [⟨#[116,104,101,110]⟩]=5:=rfl;have f3:du [⟨#[101,108,115,101]⟩]=5:=rfl;have f4:du [⟨#[101,110,100]⟩]=4:=rfl;have f5:du []=0:=rfl;omega
 rw [if_neg e17];by_cases e18:k=18
 ·rw [if_pos e18];rw [e18] at hl
  match ps,hl with
  | [p,q],_ =>
   have a:=kE 1 p;have b:=kE 1 q;rw [cf,L3];show 9+du (([] ++ [⟨#[40]⟩] ++ fJ 1 p) ++ [⟨#[44]⟩] ++ fJ 1 q ++ [⟨#[41]⟩])≤200+(du p.2+(du q.2+0));simp only [cf];have f1:du [⟨#[40]⟩]=2:=rfl;have f2:du [⟨#[44]⟩]=2:=rfl;have f3:du [⟨#[41]⟩]=2:=rfl;have f5:du []=0:=rfl;omega
 rw [if_neg e18];by_cases e19:k=19
 ·rw [if_pos e19,L4]; omega
 rw [if_neg e19];by_cases e20:20≤k∧k≤23
 ·rw [if_pos e20];have hk1:eX k=1:=by unfold eX; rw [if_neg ak,if_pos ak]
  rw [hk1] at hl
  match ps,hl with
  | [p],_ =>
   have a:=kE 1 p;have hw:=nO k 8 jA (by decide);rw [cf];show du [cW k jA]+du (([] ++ [⟨#[40]⟩] ++ fJ 1 p) ++ [⟨#[41]⟩])≤200+(du p.2+0);simp only [cf];have f1:du [⟨#[40]⟩]=2:=rfl;have f3:du [⟨#[41]⟩]=2:=rfl;have f5:du []=0:=rfl;have f6:du [cW k jA]=(cW k jA).size+1:=rfl;omega
 rw [if_neg e20];have hk2:eX k=2:=by unfold eX; rw [if_neg ak,if_neg ak,if_neg ak]
 rw [hk2] at hl
 match ps,hl with
 | [p,q],_ =>
  unfold mR;rw [cf,cf];have a:=kE (uZ (eO k).2.2) p;have b:=kE ((eO k).2.2+1) q;have hw:(eO k).2.1.size≤8:=Bd k 8 dV (by decide);have f6:du [(eO k).2.1]=(eO k).2.1.size+1:=rfl;show du (fJ _ p)+du [(eO k).2.1]+du (fJ _ q)≤200+(du p.2+(du q.2+0));omega
mutual
theorem xm:∀ (x:SX),pM x→du (bg x)≤200*nX x
 | .mk k v t n ks,h=>by
  rw [bg,nX]
  cases h with
  | mk h1 h2 h3 h4 h5 =>
   have hp:=qQ ks h5
   unfold ij at h4
   have:=BK (k:=k) (v:=v) (t:=t) (n:=n) (ps:=eM ks) (fun e=>by rw [if_pos (show (SX.mk k v t n ks).k=1 from e)] at h4; exact BR h4) (fun e=>by
    rw [if_neg (show ¬ (SX.mk k v t n ks).k=1 by show ¬ k=1; omega),if_pos (show (SX.mk k v t n ks).k=2 from e)] at h4
    have:=eY h4
    exact ⟨s9 this.2,jk this.1⟩) h1 h2 (by rw [lB]; exact h3)
   rw [Nat.mul_add]
   omega
theorem qQ:∀ (l:List SX),(∀ y ∈ l,pM y)→GM (eM l)≤200*rM l
 | [],_=>by rw [eM]; exact Jc _
 | x :: r,h=>by
  rw [eM,GM,rM,Nat.mul_add]
  have a:=xm x (h x (List.mem_cons_self ..))
  have b:=qQ r fun y hy=>h y (JM _ hy)
  exact Nat.add_le_add a b
end
theorem ma {x:SX} (h:pM x∧nX x≤200):du (bY x)≤40004:=by
 have a:=xm x h.1;have b:=kE 1 (bN x.k,bg x);have c:du (bY x)≤du (bg x)+4:=b;have:=h.2;omega
theorem mQ {α:Type} (ew:α→List ByteArray) (l:List α) (m:Nat) (h:∀ x ∈ l,du (ew x)≤m):du (dS ew l)≤l.length*(m+2):=by
 have:∀ i,du (cQ ew l i)≤i*(m+2):=by
  intro i
  induction i with
  | zero=>exact Jc _
  | succ i ih =>
   rw [cQ,cf,cf,Nat.add_mul,Nat.one_mul];have a:du (if i=0 then [] else [⟨#[44]⟩])≤2:=by split <;> decide
   refine Jj (Nat.add_le_add (Nat.add_le_add ih a) (?_:_≤m)) ak;cases hi:l[i]? with
   | none=>exact Jc _
   | some x=>exact h x (List.mem_of_getElem? hi)
 exact this l.length
theorem Eb {s:ByteArray} (h:dz s=0):du (kR s)≤16:=by
 unfold kR;have:=s9 h
 split
 ·exact Jc _
 ·simp only [du];have e:(⟨#[97,115]⟩:ByteArray).size=2:=rfl;omega
theorem Fb {x:kx} (h:(pM x.1∧nX x.1≤200)∧dz x.2=0):du (fw x)≤40020:=by
 unfold fw;rw [cf];have a:=ma h.1;have b:=Eb h.2;omega
theorem EM {first:Bool} {x:Src} (h:tM first x):du (iD first x)≤40100:=by
 unfold iD;have a:=Eb h.alias;have b:=jk h.name;have c:du [x.name]=x.name.size+1:=rfl;have z:du []=0:=rfl;cases first
 ·have e:=ma (h.on rfl);rw [if_neg (by decide)];simp only [cf];have f1:du [⟨#[106,111,105,110]⟩]=5:=rfl;have f2:du [⟨#[111,110]⟩]=3:=rfl;have f3:du (if x.kind=2 then [] else [cW x.kind zl])≤9:=by
   split
   ·exact Jc _
   ·have:=nO x.kind 8 zl (by decide);simp only [du]; omega
  omega
 ·rw [if_pos rfl];simp only [cf];omega
theorem xt {l:List Src} (h:∀ (i:Nat) (h:i<l.length),tM (i == 0) l[i]):∀ i,du (ft l i)≤i*40100
 | 0=>Jc _
 | i+1=>by
  rw [ft,cf,Nat.add_mul,Nat.one_mul]
  refine Nat.add_le_add (xt h i) ?_
  cases hi:l[i]? with
  | none=>exact Jc _
  | some x =>
   obtain ⟨hl,rfl⟩:=List.getElem?_eq_some_iff.1 hi
   exact EM (h i hl)
theorem vG {wd:ByteArray} {has:Bool} {x:SX} (hw:wd.size≤10) (h:has=true→pM x∧nX x≤200):du (fH wd has x)≤40020:=by
 unfold fH;cases has
 ·exact Jc _
 ·rw [if_pos rfl,cf];have:=ma (h rfl);have e:du [wd]=wd.size+1:=rfl;omega
theorem EK {x:dO} (h:oY x):du (gR x)≤1000000:=by
 unfold gR;simp only [cf];have a1:du [⟨#[115,101,108,101,99,116]⟩]=7:=rfl;have a2:du (lJ x.distinct ⟨#[100,105,115,116,105,110,99,116]⟩)≤9:=by unfold lJ; split <;> decide
 have a3:du (gu x)≤400000:=by
  unfold gu;cases hs:x.star
  ·rw [if_neg (by decide)];have h1:=h.items hs;have:=mQ fw x.items 40020 fun y hy=>Fb (h1.2 y hy)
   have h2:x.items.length*(40020+2)≤8*(40020+2):=JH _ h1.1;omega
  ·exact (by decide:du [⟨#[42]⟩]≤400000)
 have a4:du [⟨#[102,114,111,109]⟩]=5:=rfl;have a5:=xt h.sources.2 x.sources.length;have a6:=vG (wd:=⟨#[119,104,101,114,101]⟩) (by decide) h.au;have a7:=vG (wd:=⟨#[104,97,118,105,110,103]⟩) (by decide) h.az;have a8:du (j5 x.group)≤330000:=by
  unfold j5
  split
  ·exact Jc _
  ·rw [cf];have e:du [⟨#[103,114,111,117,112]⟩,⟨#[98,121]⟩]=9:=rfl;have:=mQ bY x.group 40004 fun y hy=>ma (h.group.2 y hy)
   have h2:x.group.length*(40004+2)≤8*(40004+2):=JH _ h.group.1;omega
 have:=h.sources.1;omega
theorem ES (op:Int):du (j9 op)≤20:=by
 unfold j9;rw [cf];have a:du (if op=1∨op=2 then [⟨#[117,110,105,111,110]⟩] else [⟨#[101,120,99,101,112,116]⟩])≤8:=by split <;> decide
 have b:du (if op=1∨op=3 then [⟨#[97,108,108]⟩] else [])≤8:=by split <;> decide
 omega
theorem BV {l:List dO} {ops:List Int} (h:∀ y ∈ l,oY y):∀ i,du (gP l ops i)≤i*1000020
 | 0=>Jc _
 | i+1=>by
  rw [gP,cf,cf,Nat.add_mul,Nat.one_mul]
  have a:du (if i=0 then [] else j9 (ops.getD (i - 1) 0))≤20:=by
   split
   ·exact Jc _
   ·exact ES _
  refine Jj (Nat.add_le_add (Nat.add_le_add (BV h i) a) (?_:_≤1000000)) ak;cases hi:l[i]? with
  | none=>exact Jc _
  | some x=>exact EK (h x (List.mem_of_getElem? hi))
theorem zs {q:kf} (h:FU q):du (gO q)≤10000000:=by
 unfold gO;rw [cf];have a:=BV (ops:=q.ops) h.parts.2 q.parts.length;have b:du (lA q)≤400000:=by
  unfold lA;by_cases hl:0≤q.aH
  ·rw [if_pos hl];simp only [cf];have h1:=h.order hl;have:=mQ bY q.order 40004 fun y hy=>ma (h1.2 y hy)
   have h2:q.order.length*(40004+2)≤8*(40004+2):=JH _ h1.1;have h3:=h.aH;have h4:=zO (n:=q.aH) ak ak;have e1:du [⟨#[111,114,100,101,114]⟩,⟨#[98,121]⟩]=9:=rfl;have e2:du [⟨#[108,105,109,105,116]⟩]=6:=rfl;omega
  ·rw [if_neg hl]; exact Jc _
 have:=h.parts.1;omega
theorem EN {l:List Vl} (h:l.length≤8∧∀ y ∈ l,gb y=0):du (gd l)≤2000:=by
 unfold gd;rw [cf,cf];have e1:du [⟨#[40]⟩]=2:=rfl;have e2:du [⟨#[41]⟩]=2:=rfl;have:=mQ dK l 200 fun y hy=>BR (h.2 y hy)
 have h2:l.length*(200+2)≤8*(200+2):=JH _ h.1;omega
theorem CN {x:tG} (h:ef x.1=0):du (dH x)≤30:=by
 unfold dH;have a:=jk h;have b:=nO x.2 8 BO (by decide);simp only [du];omega
theorem EV {x:cM} (h:vx x):du (dr x)≤20000000:=by
 have hk:=h.kind;have hc:x.kind=1∨x.kind=2∨x.kind=3∨x.kind=4∨x.kind=5:=by omega
 rcases hc with e | e | e | e | e
 ·have es:dr x = [⟨#[99,114,101,97,116,101]⟩,⟨#[116,97,98,108,101]⟩,x.name,⟨#[40]⟩] ++ dS dH x.cF ++ [⟨#[41]⟩] ++ [⟨#[59]⟩]:=by unfold dr; rw [if_pos e]
  rw [es];simp only [cf];have hn:=jk (h.name ak);have w0:du [⟨#[99,114,101,97,116,101]⟩,⟨#[116,97,98,108,101]⟩,x.name,⟨#[40]⟩]≤x.name.size+30:=by
   simp only [du];have u0:(⟨#[99,114,101,97,116,101]⟩:ByteArray).size=6:=rfl;have u1:(⟨#[116,97,98,108,101]⟩:ByteArray).size=5:=rfl;have u3:(⟨#[40]⟩:ByteArray).size=1:=rfl;omega
  have w9:du [⟨#[59]⟩]=2:=rfl;have w8:du [⟨#[41]⟩]=2:=rfl;have h1:=h.cF e;have:=mQ dH x.cF 30 fun y hy=>CN (h1.2 y hy)
  have h2:x.cF.length*(30+2)≤8*(30+2):=JH _ h1.1;omega
 ·have es:dr x = [⟨#[99,114,101,97,116,101]⟩,⟨#[118,105,101,119]⟩,x.name,⟨#[97,115]⟩] ++ gO x.query ++ [⟨#[59]⟩]:=by unfold dr; rw [if_neg ak,if_pos e]
  rw [es];simp only [cf];have hn:=jk (h.name ak);have w0:du [⟨#[99,114,101,97,116,101]⟩,⟨#[118,105,101,119]⟩,x.name,⟨#[97,115]⟩]≤x.name.size+30:=by
   simp only [du];have u0:(⟨#[99,114,101,97,116,101]⟩:ByteArray).size=6:=rfl;have u1:(⟨#[118,105,101,119]⟩:ByteArray).size=4:=rfl;have u3:(⟨#[97,115]⟩:ByteArray).size=2:=rfl;omega
  have w9:du [⟨#[59]⟩]=2:=rfl;have:=zs (h.query (.inl e));omega
 ·have es:dr x = [⟨#[105,110,115,101,114,116]⟩,⟨#[105,110,116,111]⟩,x.name,⟨#[118,97,108,117,101,115]⟩] ++ dS gd x.rows ++ [⟨#[59]⟩]:=by unfold dr; rw [if_neg ak,if_neg ak,if_pos e]
  rw [es];simp only [cf];have hn:=jk (h.name ak);have w0:du [⟨#[105,110,115,101,114,116]⟩,⟨#[105,110,116,111]⟩,x.name,⟨#[118,97,108,117,101,115]⟩]≤x.name.size+30:=by
   simp only [du];have u0:(⟨#[105,110,115,101,114,116]⟩:ByteArray).size=6:=rfl;have u1:(⟨#[105,110,116,111]⟩:ByteArray).size=4:=rfl;have u3:(⟨#[118,97,108,117,101,115]⟩:ByteArray).size=6:=rfl;omega
  have w9:du [⟨#[59]⟩]=2:=rfl;have h1:=h.rows e;have:=mQ gd x.rows 2000 fun y hy=>EN (h1.2 y hy)
  have h2:x.rows.length*(2000+2)≤400*(2000+2):=JH _ h1.1;omega
 ·have es:dr x = [⟨#[100,101,108,101,116,101]⟩,⟨#[102,114,111,109]⟩,x.name] ++ fH ⟨#[119,104,101,114,101]⟩ x.ax x.au ++ [⟨#[59]⟩]:=by unfold dr; rw [if_neg ak,if_neg ak,if_neg ak,if_pos e]
  rw [es];simp only [cf];have hn:=jk (h.name ak);have w0:du [⟨#[100,101,108,101,116,101]⟩,⟨#[102,114,111,109]⟩,x.name]≤x.name.size+30:=by
   simp only [du];have u0:(⟨#[100,101,108,101,116,101]⟩:ByteArray).size=6:=rfl;have u1:(⟨#[102,114,111,109]⟩:ByteArray).size=4:=rfl;omega
  have w9:du [⟨#[59]⟩]=2:=rfl;have:=vG (wd:=⟨#[119,104,101,114,101]⟩) (by decide) (h.au e);omega
 ·have es:dr x = [⟨#[115,104,111,119]⟩] ++ gO x.query ++ [⟨#[59]⟩]:=by unfold dr; rw [if_neg ak,if_neg ak,if_neg ak,if_neg ak,if_pos e]
  rw [es];simp only [cf];have w0:du [⟨#[115,104,111,119]⟩]≤30:=by decide
  have w9:du [⟨#[59]⟩]=2:=rfl;have:=zs (h.query (.inr e));omega
theorem AP {x:cM} {bs:List UInt8} (h:vx x) (hb:bs.length≤4000):(aE bs (dr x)).length≤gZ:=by
 have a:=xp (dr x) bs;have b:=EV h;show _≤1099511627776;omega
def iZ:List UInt8→List cM→Option (List UInt8)
 | bs,[]=>some bs
 | bs,x :: r=>if 4000<(aE bs (dr x)).length then none else iZ (aE bs (dr x)) r
def bW (l:List cM):ByteArray × Er:=if (cL l).1≠0 then (eB,cL l) else match iZ [] l with | none=>(eB,(4,0)) | some bs=>(⟨bs.toArray⟩,(0,0))
theorem GP.up {W W':World} {PB PB':Nat} (h:GP W PB) (hb:Below W W W') (hp:PB≤W.heap.size) (hpp:PB≤PB'):GP W' PB':=by
 have:=h.p;exact ⟨h.gl.next hb,oL h.bp (hb.block 2 ak),by obtain ⟨m,hm⟩:=h.mx; exact ⟨m,(Jp (a:=⟨3,0,none⟩) (hb.block 3 ak)).trans hm⟩,by omega⟩
theorem AO:∀ {l:List cM} {i:Int},(kZ l i).1=0→∀ x ∈ l,vx x
 | [],_,_=>by simp
 | y :: r,i,h=>by
  rw [kZ] at h
  by_cases e:iQ y=0
  ·rw [if_pos e] at h
   intro x hx
   rcases List.mem_cons.1 hx with rfl | hx
   ·exact Ex e
   ·exact AO h x hx
  ·rw [if_neg e] at h; exact absurd h e
theorem Ae {l:List cM} (h:(cL l).1=0):l.length≤60∧∀ x ∈ l,vx x:=by
 unfold cL at h;by_cases e:fi l.length 0 60=0
 ·rw [if_pos e] at h;exact ⟨by have:=dw e; omega,AO h⟩
 ·rw [if_neg e] at h; exact absurd h (by simp)
theorem CS {W:World} {PB:Nat} {v:Value} {bs:List UInt8} (h:aF W PB v bs):(convert 24 9 v).run Tryz.prog W = .ok (.string ⟨bs.toArray⟩) W:=by
 obtain ⟨h0,⟨h1,h2⟩ | ⟨g,cap,cur,rfl,hb,hq,hr⟩⟩:=h.own
 ·subst h1;have e:bs = []:=List.length_eq_zero_iff.1 h2;subst e;exact run_convert_nil_bytes W _ _ 5 0 bm bm bm
 ·refine run_convert_bytes_back W _ _ 5 (af g 0) cap bs bm bm bm (fun j hj=>?_);exact h.own.cells (g:=g) rfl j _ (by simp [jC,hj])
theorem pG (l:List cM) (a:Option Addr) (c:Nat) {w:World} (hG:GP w w) (hks:bf cy 16 (fun b=>b<w.heap.size) w a l):Calls Tryz.prog 16 #[.slice a l.length c] w fun e w'=>Below w w w'∧e = .returned (.tuple #[.string (bW l).1,.agg #[.int .i64 (bW l).2.1,.int .i64 (bW l).2.2]]):=by
 obtain ⟨hal1,QF1⟩:=dZ w #[aB,aB] 27;have HK1:=ah (hks.nx bJ hal1);have HG1:=ah (hG.up hal1 (I6 _) (I6 _));generalize hM:bW l=M;have HM:=ah hM;clear hM hks hG;go_enter Tryz.func16,Tryz.ntmps16;go_upto_region 1 with fail
 generalize w.alloc _=w1 at *;have con:=mE l a c _ w1 HK1.out;have HR:Hid (∃ r,cL l=r):=⟨_,rfl⟩
 obtain ⟨r,hr⟩:=HR.out;rw [hr] at con;have HRR:=ah hr;clear HR hr;go_wp2_with fail
 refine cR con fun w2 hb2=>?_;obtain ⟨hal2,QR2⟩:=dZ w2 #[r.1,r.2] 27;have hl1:=lt_of_heap QF1;have hs2:=hb2.size;have hb3:=chain hb2 hal2;have QF3:=(hb3.block _ hl1).trans QF1;have HK3:=ah (HK1.out.nx bJ hb3);have HG3:=ah (HG1.out.up hb3 ak (I6 _))
 have hbw:=chain hal1 hb3;have hs3:=hb3.size;clear con HK1 HG1 hal1 hal2 hb2 QF1;go_upto_region 2 with fail
 generalize w2.alloc _=w3 at *;obtain ⟨r0,r1⟩:=dp QR2;by_cases hz:r.1=0
 case neg =>
  have HE:Hid (M=(eB,r)):=by show M=_; rw [← HM.out,bW,HRR.out,if_pos hz]
  have hzb:(r.1 == 0)=false:=by rw [beq_eq_false_iff_ne]; exact hz
  obtain ⟨c0,c1⟩:=dp QF3;obtain ⟨f0,f1⟩:=kL QF3;go_upto_region 3 with fail
  go_region
  have QE:=dJ QF3 r.1 r.2;have hbE:=iW (g:=w.heap.size) hbw ak r.1 r.2;go_wp2_with fail
  generalize ((w3.setCell (af w 0) r.1).setCell (af w 1) r.2)=wE at *;obtain ⟨x0,x1⟩:=dp QE;exact I7 (v:=.tuple #[eB,.agg #[r.1,r.2]]) (by simp [results,Tryz.results16,go_sem,x0,x1]) rfl ⟨hbE.drew,by rw [HE.out]⟩
 case pos =>
  obtain ⟨hl60,hrt⟩:=Ae (by rw [HRR.out]; exact hz);have HRT:=ah hrt;have hm:(match iZ [] l with | none=>(eB,((4,0):Er)) | some bs=>(⟨bs.toArray⟩,(0,0)))=M:=by rw [← HM.out,bW,HRR.out,if_neg (by simpa using hz)]
  have HM2:=ah hm;clear hm hrt HM HRR;have hzb:(r.1 == 0)=true:=by rw [beq_iff_eq]; exact hz
  rw [hz] at r0;clear hz hzb;go_upto_region 4 with fail
  clear r0 r1 QR2;have hal3:=bR w3 (.cells #[aL] 81);have P0:Hid (aF (w3.alloc (.cells #[aL] 81)) w3 aL []):=⟨aD w3 _ _,⟨rfl,.inl ⟨rfl,rfl⟩⟩⟩
  have HG4:Hid (GP (w3.alloc (.cells #[aL] 81)) w3):=HG3.out.up hal3 ak ak;have HK4:=ah ((HK3.out.nx bJ hal3).mono bJ (fun b h _=>by have:b<w.heap.size:=h; show b<w3.heap.size; omega));have QF4:=(hal3.block _ ak).trans QF3;have hbw4:=chain hbw hal3;have hPB:w.heap.size<w3.heap.size:=by omega
  clear HG3 HK3 QF3 hal3 hb3;go_upto_region 5 with fail
  generalize w3.alloc _=w4 at *;generalize w3.heap.size=PB at *;go_wp2_with fail
  go_loopw [16] (fun jv wr=>∃ (j:Nat) (v':Value) (bs:List UInt8),j≤l.length∧jv = .int .i64 j∧bs.length≤4000∧Hid (aF wr PB v' bs)∧Hid (St PB aL w4 v' wr)∧Hid (iZ [] l=iZ bs (l.drop j))) (fun jv _=>l.length - (RowKit.intOf jv).toNat)
  case atStart=>exact ⟨0,aL,[],Jc _,rfl,by simp,P0,St.refl _ _ _,rfl⟩
  case round =>
   obtain ⟨j,v1,bs,hj,rfl,hbs,hP1,hS1,HL1⟩:=hrel;by_cases hlt:j<l.length
   ·have hjz:(j:Int)<(l.length:Int):=by omega
    have hL:=HL1.out;rw [I9 hlt,iZ] at hL;have hoj:=HRT.out _ (Jk hlt);obtain ⟨b1,o1,_,rfl,t1,a1,c1,p1,d1,p2,d2,p3,d3,a2,c2,a3,c3,rfl,k1,k2,k3,k4,k5,k6⟩:=(HK4.out.cE bJ hS1.out).get hlt;generalize l[j]=y at *;have HL2:=ah hL;have HOJ:=ah hoj
    have hrg:wr.rangeAt b1 (o1+j*16) [.int .i64 y.kind,y.name,.slice a1 y.cF.length c1,.slice p1 y.query.parts.length d1,.slice p2 y.query.ops.length d2,.slice p3 y.query.order.length d3,y.query.aH,.slice a2 y.rows.length c2,y.ax,y.au.k,y.au.v.1,y.au.v.2.1,y.au.v.2.2,y.au.bp,y.au.name,.slice a3 y.au.ks.length c3]:=fun i u hu=>t1.2 i u hu
    obtain ⟨halY,QY⟩:=dZ wr (hJ y.kind y a1 c1 p1 d1 p2 d2 p3 d3 a2 c2 a3 c3) 57;have P1:=ah (hP1.out.next halY);have G1:=ah ((HG4.out.st hS1.out).nx halY hP1.out.lt)
    have S1:=ah (hS1.out.trans (St.of halY hP1.out.lt));have K1:Hid _:=k1.nx iY halY;have K2:Hid _:=k2.nx b8 halY;have K3:Hid _:=k3.nx fv halY;have K4:Hid _:=k4.nx b9 halY;have K5:Hid _:=k5.nx (br eU 3) halY;have K6:Hid _:=aJ.next halY k6;clear HL1 hL hoj t1 k1 k2 k3 k4 k5 k6 hP1 hS1 P0
    go_upto_region 8 with (first | (refine wpList_load_mid rfl 57 _ rfl b1 (o1+j*16) rfl (hJ y.kind y a1 c1 p1 d1 p2 d2 p3 d3 a2 c2 a3 c3).toList _ hrg Tryz.underlying57 rfl dB ?_) | (refine aT rfl 57 _ _ rfl cO (hJ y.kind y a1 c1 p1 d1 p2 d2 p3 d3 a2 c2 a3 c3) rfl rfl dB rfl (eh rfl) ?_))
    generalize wr.alloc _=wa at *;have con:=pX y HOJ.out.ok a1 p1 p2 p3 a2 a3 c1 d1 d2 d3 c2 c3 G1.out P1.out K1.out K2.out K3.out K4.out K5.out K6.out (AP HOJ.out hbs);clear K1 K2 K3 K4 K5 K6 hrg;go_upto_region 9 with (first | (refine wpList_load_row rfl 57 _ rfl wr rfl 57 (hJ y.kind y a1 c1 p1 d1 p2 d2 p3 d3 a2 c2 a3 c3) (0,0) _ QY Tryz.underlying57 rfl dB ?_))
    refine con.mono ?_;rintro e wb ⟨rfl,v2,P2,S2⟩;have HP2:=ah P2;have HS2:Hid _:=S1.out.trans S2;generalize aE bs (dr y)=bs2 at *;obtain ⟨a9,cap9,e9⟩:=P2.val;have q0:=cell_of (i:=0) P2.q rfl;rw [e9] at q0;clear con P2 S2 S1 P1 G1 QY;have hbb:=hbw4.trans (HS2.out.jS.mono ak);by_cases h4:4000<bs2.length
    ·have hq:(4000:Int)<(bs2.length:Int):=by omega
     have QFb:=(HS2.out.jS.block _ hPB).trans QF4;obtain ⟨c0,c1⟩:=dp QFb;obtain ⟨f0,f1⟩:=kL QFb;have QE:=dJ QFb (4:Int) aB;have hbE:=iW (g:=w.heap.size) hbb ak (4:Int) aB;have HE:Hid (M=(eB,(4,0))):=by show M=_; rw [← HM2.out,HL2.out,if_pos h4]
     go_wp2_with fail
     generalize ((wb.setCell (af w 0) (4:Int)).setCell (af w 1) aB)=wE at *;obtain ⟨x0,x1⟩:=dp QE;exact I7 (v:=.tuple #[eB,.agg #[(4:Int),aB]]) (by simp [results,Tryz.results16,go_sem,x0,x1]) rfl ⟨hbE,by rw [HE.out]⟩
    ·have hq:¬ (4000:Int)<(bs2.length:Int):=by omega
     have HL3:Hid (iZ [] l=iZ bs2 (l.drop (j+1))):=by show iZ [] l=_; rw [HL2.out,if_neg h4]
     go_wp2_with fail
     go_roundw
     case rel=>exact ⟨j+1,v2,bs2,by omega,by go_num,by omega,HP2,HS2,HL3⟩
     case measure=>simp [RowKit.intOf]; omega
   ·have hjz:¬ (j:Int)<(l.length:Int):=by omega
    have hL:=HL1.out;rw [Jh ak,iZ] at hL;have HE:Hid (M=(⟨bs.toArray⟩,(0,0))):=by show M=_; rw [← HM2.out,hL]
    have hcv:=CS hP1.out;obtain ⟨a9,cap9,e9⟩:=hP1.out.val;have q0:=cell_of (i:=0) hP1.out.q rfl;rw [e9] at q0 hcv;have hbb:=hbw4.trans (hS1.out.jS.mono ak);have QFb:=(hS1.out.jS.block _ hPB).trans QF4;obtain ⟨c0,c1⟩:=dp QFb;obtain ⟨f0,f1⟩:=kL QFb;have QE:=dJ QFb aB aB;have hbE:=iW (g:=w.heap.size) hbb ak aB aB;clear hL HL1 HM2;go_wp2_with fail
    generalize ((wr.setCell (af w 0) aB).setCell (af w 1) aB)=wE at *;obtain ⟨x0,x1⟩:=dp QE;exact I7 (v:=.tuple #[.string ⟨bs.toArray⟩,.agg #[aB,aB]]) (by simp [results,Tryz.results16,go_sem,x0,x1]) rfl ⟨hbE,by rw [HE.out]⟩
end Go.Proofs.YtoknmnngaackkaaGreatDoor
namespace Go.Proofs.YtoknmnngaackkaaGreatDoor
set_option maxRecDepth 100000
set_option maxHeartbeats 16000000
def eQ (v:Vl):Vl:=(v.1,if v.1=2∨v.1=3 then v.2.1 else 0,if v.1=4 then v.2.2 else eB)
mutual
def aO:SX→SX
 | .mk k v t n ks=>.mk k (if k=1 then eQ v else (0,0,eB)) (if k=2 then t else eB) (if k=2 then n else eB) (kh ks)
def kh:List SX→List SX
 | []=>[]
 | x :: r=>aO x :: kh r
end
theorem jF:∀ l,kh l=l.map aO
 | []=>by rw [kh]; rfl
 | x :: r=>by rw [kh,jF r]; rfl
end Go.Proofs.YtoknmnngaackkaaGreatDoor
namespace Go.Proofs.YtoknmnngaackkaaGreatDoor
open Go.RowKit Go.Lib Go.Shelf
set_option maxRecDepth 100000
set_option maxHeartbeats 16000000
set_option maxRecDepth 100000
set_option maxHeartbeats 8000000
theorem Hc (n:Int) (t:ByteArray) (w:World):Calls Tryz.prog 29 #[.agg #[(4:Int),n,t]] w fun e w'=>e = .returned (.agg #[(4:Int),aB,t])∧Below w w w':=by
 obtain ⟨hal1,Q1⟩:=dZ w #[(4:Int),n,t] 53;have hal2:Below (w.alloc (.cells #[(4:Int),n,t] 53)).heap.size (w.alloc (.cells #[(4:Int),n,t] 53)) ((w.alloc (.cells #[(4:Int),n,t] 53)).alloc (.cells #[aB,aB,()] 53)):=bR ..
 have Q2:=aD (w.alloc (.cells #[(4:Int),n,t] 53)) #[aB,aB,()] 53;have e1:(w.alloc (.cells #[(4:Int),n,t] 53)).heap.size=w.heap.size+1:=by simp
 have hal3:Below ((w.alloc (.cells #[(4:Int),n,t] 53)).alloc (.cells #[aB,aB,()] 53)).heap.size ((w.alloc (.cells #[(4:Int),n,t] 53)).alloc (.cells #[aB,aB,()] 53)) (((w.alloc (.cells #[(4:Int),n,t] 53)).alloc (.cells #[aB,aB,()] 53)).alloc (.cells #[(4:Int),aB,()] 53)):=bR ..
 have Q3:=aD ((w.alloc (.cells #[(4:Int),n,t] 53)).alloc (.cells #[aB,aB,()] 53)) #[(4:Int),aB,()] 53;have e2:((w.alloc (.cells #[(4:Int),n,t] 53)).alloc (.cells #[aB,aB,()] 53)).heap.size=w.heap.size+2:=by simp
 have QA:=(hal3.block _ (by rw [e2]; omega)).trans (bH hal2 Q1);have QB:=bH hal3 Q2;rw [e1] at QB;have QC:=Q3;rw [e2] at QC;obtain ⟨i0,_,_⟩:=bD (bH hal2 Q1);have hal:=chain hal1 (chain hal2 hal3);clear hal1 hal2 hal3 Q1 Q2 Q3 e1 e2;go_enter Tryz.func29,Tryz.ntmps29;go_upto_region 2 with fail
 clear i0;generalize (((w.alloc (.cells #[(4:Int),n,t] 53)).alloc (.cells #[aB,aB,()] 53)).alloc (.cells #[(4:Int),aB,()] 53))=w1 at *;obtain ⟨a0,a1,a2⟩:=bD QA;have f3:=I0 w1 (w+2) 2 _ _ QC;have QD:=I5 w1 (w+2) 2 _ _ t QC;have k6:aI (w+2) w1 (w1.setCell (af (w+2) 2) t):=(aI.refl _ _).set 2 _;have QA2:=(k6.2 _ (lt_of_heap QA) ak).trans QA;have QB2:=(k6.2 _ (lt_of_heap QB) ak).trans QB
 have hal2:Below w w (w1.setCell (af (w+2) 2) t):=hal.setCell (p:=af (w+2) 2) (by show _≤w.heap.size+2; omega) _;obtain ⟨d0,d1,d2⟩:=bD QC;go_upto_region 4 with fail
 clear a0 a1 a2 d0 d1 d2 f3;generalize w1.setCell (af (w+2) 2) t=w2 at *;obtain ⟨a0,a1,a2⟩:=bD QA2;go_upto_region 6 with fail
 have QD':=QD;obtain ⟨d0,d1,d2⟩:=bD QD';obtain ⟨b0,b1,b2⟩:=bD QB2;have g0:=I0 w2 (w+1) 0 _ _ QB2;have g1:=I0 w2 (w+1) 1 _ _ QB2;have g2:=I0 w2 (w+1) 2 _ _ QB2;have E0:=I5 w2 (w+1) 0 _ _ (4:Int) QB2;have E1:=I5 _ (w+1) 1 _ _ aB E0;have E2:=I5 _ (w+1) 2 _ _ t E1
 have hE:Below w w (((w2.setCell (af (w+1) 0) (4:Int)).setCell (af (w+1) 1) aB).setCell (af (w+1) 2) t):=((hal2.setCell (p:=af (w+1) 0) (by show _≤w.heap.size+1; omega) _).setCell (p:=af (w+1) 1) (by show _≤w.heap.size+1; omega) _).setCell (p:=af (w+1) 2) (by show _≤w.heap.size+1; omega) _;go_wp2_with fail
 generalize (((w2.setCell (af (w+1) 0) (4:Int)).setCell (af (w+1) 1) aB).setCell (af (w+1) 2) t)=wE at *;have E':=E2;obtain ⟨x0,x1,x2⟩:=bD E';exact I7 (v:=.agg #[(4:Int),aB,t]) (by simp [results,Tryz.results29,go_sem,x0,x1,x2]) rfl ⟨rfl,hE⟩
theorem Hp (n:Int) (t:ByteArray) (w:World):Calls Tryz.prog 29 #[.agg #[(2:Int),n,t]] w fun e w'=>e = .returned (.agg #[(2:Int),n,()])∧Below w w w':=by
 obtain ⟨hal1,Q1⟩:=dZ w #[(2:Int),n,t] 53;have hal2:Below (w.alloc (.cells #[(2:Int),n,t] 53)).heap.size (w.alloc (.cells #[(2:Int),n,t] 53)) ((w.alloc (.cells #[(2:Int),n,t] 53)).alloc (.cells #[aB,aB,()] 53)):=bR ..
 have Q2:=aD (w.alloc (.cells #[(2:Int),n,t] 53)) #[aB,aB,()] 53;have e1:(w.alloc (.cells #[(2:Int),n,t] 53)).heap.size=w.heap.size+1:=by simp
 have hal3:Below ((w.alloc (.cells #[(2:Int),n,t] 53)).alloc (.cells #[aB,aB,()] 53)).heap.size ((w.alloc (.cells #[(2:Int),n,t] 53)).alloc (.cells #[aB,aB,()] 53)) (((w.alloc (.cells #[(2:Int),n,t] 53)).alloc (.cells #[aB,aB,()] 53)).alloc (.cells #[(2:Int),aB,()] 53)):=bR ..
 have Q3:=aD ((w.alloc (.cells #[(2:Int),n,t] 53)).alloc (.cells #[aB,aB,()] 53)) #[(2:Int),aB,()] 53;have e2:((w.alloc (.cells #[(2:Int),n,t] 53)).alloc (.cells #[aB,aB,()] 53)).heap.size=w.heap.size+2:=by simp
 have QA:=(hal3.block _ (by rw [e2]; omega)).trans (bH hal2 Q1);have QB:=bH hal3 Q2;rw [e1] at QB;have QC:=Q3;rw [e2] at QC;obtain ⟨i0,_,_⟩:=bD (bH hal2 Q1);have hal:=chain hal1 (chain hal2 hal3);clear hal1 hal2 hal3 Q1 Q2 Q3 e1 e2;go_enter Tryz.func29,Tryz.ntmps29;go_upto_region 2 with fail
 clear i0;generalize (((w.alloc (.cells #[(2:Int),n,t] 53)).alloc (.cells #[aB,aB,()] 53)).alloc (.cells #[(2:Int),aB,()] 53))=w1 at *;obtain ⟨a0,a1,a2⟩:=bD QA;have f3:=I0 w1 (w+2) 1 _ _ QC;have QD:=I5 w1 (w+2) 1 _ _ n QC;have k6:aI (w+2) w1 (w1.setCell (af (w+2) 1) n):=(aI.refl _ _).set 1 _;have QA2:=(k6.2 _ (lt_of_heap QA) ak).trans QA;have QB2:=(k6.2 _ (lt_of_heap QB) ak).trans QB
 have hal2:Below w w (w1.setCell (af (w+2) 1) n):=hal.setCell (p:=af (w+2) 1) (by show _≤w.heap.size+2; omega) _;obtain ⟨d0,d1,d2⟩:=bD QC;go_upto_region 6 with fail
 clear a0 a1 a2 d0 d1 d2 f3;generalize w1.setCell (af (w+2) 1) n=w2 at *;obtain ⟨a0,a1,a2⟩:=bD QA2;have QD':=QD;obtain ⟨d0,d1,d2⟩:=bD QD';obtain ⟨b0,b1,b2⟩:=bD QB2;have g0:=I0 w2 (w+1) 0 _ _ QB2;have g1:=I0 w2 (w+1) 1 _ _ QB2;have g2:=I0 w2 (w+1) 2 _ _ QB2;have E0:=I5 w2 (w+1) 0 _ _ (2:Int) QB2;have E1:=I5 _ (w+1) 1 _ _ n E0
 have E2:=I5 _ (w+1) 2 _ _ () E1;have hE:Below w w (((w2.setCell (af (w+1) 0) (2:Int)).setCell (af (w+1) 1) n).setCell (af (w+1) 2) ()):=((hal2.setCell (p:=af (w+1) 0) (by show _≤w.heap.size+1; omega) _).setCell (p:=af (w+1) 1) (by show _≤w.heap.size+1; omega) _).setCell (p:=af (w+1) 2) (by show _≤w.heap.size+1; omega) _;go_wp2_with fail
 generalize (((w2.setCell (af (w+1) 0) (2:Int)).setCell (af (w+1) 1) n).setCell (af (w+1) 2) ())=wE at *;have E':=E2;obtain ⟨x0,x1,x2⟩:=bD E';exact I7 (v:=.agg #[(2:Int),n,()]) (by simp [results,Tryz.results29,go_sem,x0,x1,x2]) rfl ⟨rfl,hE⟩
theorem Hv (n:Int) (t:ByteArray) (w:World):Calls Tryz.prog 29 #[.agg #[(3:Int),n,t]] w fun e w'=>e = .returned (.agg #[(3:Int),n,()])∧Below w w w':=by
 obtain ⟨hal1,Q1⟩:=dZ w #[(3:Int),n,t] 53;have hal2:Below (w.alloc (.cells #[(3:Int),n,t] 53)).heap.size (w.alloc (.cells #[(3:Int),n,t] 53)) ((w.alloc (.cells #[(3:Int),n,t] 53)).alloc (.cells #[aB,aB,()] 53)):=bR ..
 have Q2:=aD (w.alloc (.cells #[(3:Int),n,t] 53)) #[aB,aB,()] 53;have e1:(w.alloc (.cells #[(3:Int),n,t] 53)).heap.size=w.heap.size+1:=by simp
 have hal3:Below ((w.alloc (.cells #[(3:Int),n,t] 53)).alloc (.cells #[aB,aB,()] 53)).heap.size ((w.alloc (.cells #[(3:Int),n,t] 53)).alloc (.cells #[aB,aB,()] 53)) (((w.alloc (.cells #[(3:Int),n,t] 53)).alloc (.cells #[aB,aB,()] 53)).alloc (.cells #[(3:Int),aB,()] 53)):=bR ..
 have Q3:=aD ((w.alloc (.cells #[(3:Int),n,t] 53)).alloc (.cells #[aB,aB,()] 53)) #[(3:Int),aB,()] 53;have e2:((w.alloc (.cells #[(3:Int),n,t] 53)).alloc (.cells #[aB,aB,()] 53)).heap.size=w.heap.size+2:=by simp
 have QA:=(hal3.block _ (by rw [e2]; omega)).trans (bH hal2 Q1);have QB:=bH hal3 Q2;rw [e1] at QB;have QC:=Q3;rw [e2] at QC;obtain ⟨i0,_,_⟩:=bD (bH hal2 Q1);have hal:=chain hal1 (chain hal2 hal3);clear hal1 hal2 hal3 Q1 Q2 Q3 e1 e2;go_enter Tryz.func29,Tryz.ntmps29;go_upto_region 2 with fail
 clear i0;generalize (((w.alloc (.cells #[(3:Int),n,t] 53)).alloc (.cells #[aB,aB,()] 53)).alloc (.cells #[(3:Int),aB,()] 53))=w1 at *;obtain ⟨a0,a1,a2⟩:=bD QA;have f3:=I0 w1 (w+2) 1 _ _ QC;have QD:=I5 w1 (w+2) 1 _ _ n QC;have k6:aI (w+2) w1 (w1.setCell (af (w+2) 1) n):=(aI.refl _ _).set 1 _;have QA2:=(k6.2 _ (lt_of_heap QA) ak).trans QA;have QB2:=(k6.2 _ (lt_of_heap QB) ak).trans QB
 have hal2:Below w w (w1.setCell (af (w+2) 1) n):=hal.setCell (p:=af (w+2) 1) (by show _≤w.heap.size+2; omega) _;obtain ⟨d0,d1,d2⟩:=bD QC;go_upto_region 6 with fail
 clear a0 a1 a2 d0 d1 d2 f3;generalize w1.setCell (af (w+2) 1) n=w2 at *;obtain ⟨a0,a1,a2⟩:=bD QA2;have QD':=QD;obtain ⟨d0,d1,d2⟩:=bD QD';obtain ⟨b0,b1,b2⟩:=bD QB2;have g0:=I0 w2 (w+1) 0 _ _ QB2;have g1:=I0 w2 (w+1) 1 _ _ QB2;have g2:=I0 w2 (w+1) 2 _ _ QB2;have E0:=I5 w2 (w+1) 0 _ _ (3:Int) QB2;have E1:=I5 _ (w+1) 1 _ _ n E0
 have E2:=I5 _ (w+1) 2 _ _ () E1;have hE:Below w w (((w2.setCell (af (w+1) 0) (3:Int)).setCell (af (w+1) 1) n).setCell (af (w+1) 2) ()):=((hal2.setCell (p:=af (w+1) 0) (by show _≤w.heap.size+1; omega) _).setCell (p:=af (w+1) 1) (by show _≤w.heap.size+1; omega) _).setCell (p:=af (w+1) 2) (by show _≤w.heap.size+1; omega) _;go_wp2_with fail
 generalize (((w2.setCell (af (w+1) 0) (3:Int)).setCell (af (w+1) 1) n).setCell (af (w+1) 2) ())=wE at *;have E':=E2;obtain ⟨x0,x1,x2⟩:=bD E';exact I7 (v:=.agg #[(3:Int),n,()]) (by simp [results,Tryz.results29,go_sem,x0,x1,x2]) rfl ⟨rfl,hE⟩
theorem Ih (k:Int) (h2:(k == 2)=false) (h3:(k == 3)=false) (h4:(k == 4)=false) (n:Int) (t:ByteArray) (w:World):Calls Tryz.prog 29 #[.agg #[k,n,t]] w fun e w'=>e = .returned (.agg #[k,aB,()])∧Below w w w':=by
 obtain ⟨hal1,Q1⟩:=dZ w #[k,n,t] 53;have hal2:Below (w.alloc (.cells #[k,n,t] 53)).heap.size (w.alloc (.cells #[k,n,t] 53)) ((w.alloc (.cells #[k,n,t] 53)).alloc (.cells #[aB,aB,()] 53)):=bR ..
 have Q2:=aD (w.alloc (.cells #[k,n,t] 53)) #[aB,aB,()] 53;have e1:(w.alloc (.cells #[k,n,t] 53)).heap.size=w.heap.size+1:=by simp
 have hal3:Below ((w.alloc (.cells #[k,n,t] 53)).alloc (.cells #[aB,aB,()] 53)).heap.size ((w.alloc (.cells #[k,n,t] 53)).alloc (.cells #[aB,aB,()] 53)) (((w.alloc (.cells #[k,n,t] 53)).alloc (.cells #[aB,aB,()] 53)).alloc (.cells #[k,aB,()] 53)):=bR ..
 have Q3:=aD ((w.alloc (.cells #[k,n,t] 53)).alloc (.cells #[aB,aB,()] 53)) #[k,aB,()] 53;have e2:((w.alloc (.cells #[k,n,t] 53)).alloc (.cells #[aB,aB,()] 53)).heap.size=w.heap.size+2:=by simp
 have QA:=(hal3.block _ (by rw [e2]; omega)).trans (bH hal2 Q1);have QB:=bH hal3 Q2;rw [e1] at QB;have QC:=Q3;rw [e2] at QC;obtain ⟨i0,_,_⟩:=bD (bH hal2 Q1);have hal:=chain hal1 (chain hal2 hal3);clear hal1 hal2 hal3 Q1 Q2 Q3 e1 e2;go_enter Tryz.func29,Tryz.ntmps29;go_upto_region 2 with fail
 clear i0;generalize (((w.alloc (.cells #[k,n,t] 53)).alloc (.cells #[aB,aB,()] 53)).alloc (.cells #[k,aB,()] 53))=w1 at *;obtain ⟨a0,a1,a2⟩:=bD QA;go_upto_region 6 with fail
 have QD':=QC;obtain ⟨d0,d1,d2⟩:=bD QD';obtain ⟨b0,b1,b2⟩:=bD QB;have g0:=I0 w1 (w+1) 0 _ _ QB;have g1:=I0 w1 (w+1) 1 _ _ QB;have g2:=I0 w1 (w+1) 2 _ _ QB;have E0:=I5 w1 (w+1) 0 _ _ k QB;have E1:=I5 _ (w+1) 1 _ _ aB E0;have E2:=I5 _ (w+1) 2 _ _ () E1
 have hE:Below w w (((w1.setCell (af (w+1) 0) k).setCell (af (w+1) 1) aB).setCell (af (w+1) 2) ()):=((hal.setCell (p:=af (w+1) 0) (by show _≤w.heap.size+1; omega) _).setCell (p:=af (w+1) 1) (by show _≤w.heap.size+1; omega) _).setCell (p:=af (w+1) 2) (by show _≤w.heap.size+1; omega) _;go_wp2_with fail
 generalize (((w1.setCell (af (w+1) 0) k).setCell (af (w+1) 1) aB).setCell (af (w+1) 2) ())=wE at *;have E':=E2;obtain ⟨x0,x1,x2⟩:=bD E';exact I7 (v:=.agg #[k,aB,()]) (by simp [results,Tryz.results29,go_sem,x0,x1,x2]) rfl ⟨rfl,hE⟩
theorem tH (v:Vl) (w:World):Calls Tryz.prog 29 #[.agg #[v.1,v.2.1,v.2.2]] w fun e w'=>e = .returned (.agg #[.int .i64 (eQ v).1,.int .i64 (eQ v).2.1,.string (eQ v).2.2])∧Below w w w':=by
 obtain ⟨k,n,t⟩:=v;by_cases h4:k=4
 ·subst h4; exact Hc n t w
 by_cases h2:k=2
 ·subst h2; exact Hp n t w
 by_cases h3:k=3
 ·subst h3; exact Hv n t w
 have e:eQ (k,n,t)=(k,0,eB):=by
  unfold eQ;rw [if_neg (by show ¬ (k=2∨k=3); omega),if_neg (show ¬ k=4 from h4)]
 rw [e];exact Ih k (by rw [beq_eq_false_iff_ne]; exact h2) (by rw [beq_eq_false_iff_ne]; exact h3) (by rw [beq_eq_false_iff_ne]; exact h4) n t w
end Go.Proofs.YtoknmnngaackkaaGreatDoor
