/- Together: DO, DP, DQ, DR, DS. -/
import Derived.Deep.LoopGhost
import Derived.Test.YtoknmnngaackkaaGreatDoorJJ10
/- The printer: sources, selects. -/
namespace Go.Proofs.YtoknmnngaackkaaGreatDoor
open Go.RowKit Go.Lib Go.Shelf
set_option maxRecDepth 100000
set_option maxHeartbeats 8000000

theorem source2_at (x:Src) (hx:OkX x.on) (a:Option Addr) (c:Nat) {PB:Nat} {v:Value} {bs:List UInt8} {w:World} (hG:GP w PB) (hP:PrAt w PB v bs) (hk:SsS (fun b=>b<PB) w a x.on.ks) (hb:(sayL bs (srcW false x)).length≤Lim):Calls Tryz.prog 119 #[.pointer (some ⟨PB,0,none⟩),.agg #[.int .i64 x.kind,.string x.name,.string x.alias,.int .i64 x.on.k,.int .i64 x.on.v.1,.int .i64 x.on.v.2.1,.string x.on.v.2.2,.string x.on.tab,.string x.on.name,.slice a x.on.ks.length c],.bool false] w (PEnds w PB v (sayL bs (srcW false x))):=by
 have HO:Hid (OkX x.on):=hx;clear hx;by_cases h2:x.kind=2
 ·have ev:srcW false x = [] ++ [⟨#[106,111,105,110]⟩] ++ [x.name] ++ byW x.alias ++ ([⟨#[111,110]⟩] ++ exprW x.on):=by unfold srcW; simp only [Bool.false_eq_true,if_false,if_pos h2]
  rw [ev] at hb ⊢;clear ev;have b2:(x.kind != 2)=false:=by simpa using h2
  clear h2;have Hb:Hid _:=hb;clear hb;have hal:Below w.heap.size w (w.alloc (.cells #[.int .i64 x.kind,.string x.name,.string x.alias,.int .i64 x.on.k,.int .i64 x.on.v.1,.int .i64 x.on.v.2.1,.string x.on.v.2.2,.string x.on.tab,.string x.on.name,.slice a x.on.ks.length c] 105)):=(Below.refl _ _).alloc (Nat.le_refl _) _
  have B0:Hid (Bx (w.alloc (.cells #[.int .i64 x.kind,.string x.name,.string x.alias,.int .i64 x.on.k,.int .i64 x.on.v.1,.int .i64 x.on.v.2.1,.string x.on.v.2.2,.string x.on.tab,.string x.on.name,.slice a x.on.ks.length c] 105)) PB v w.heap.size #[.int .i64 x.kind,.string x.name,.string x.alias,.int .i64 x.on.k,.int .i64 x.on.v.1,.int .i64 x.on.v.2.1,.string x.on.v.2.2,.string x.on.tab,.string x.on.name,.slice a x.on.ks.length c] 105):=Bx.new hP #[.int .i64 x.kind,.string x.name,.string x.alias,.int .i64 x.on.k,.int .i64 x.on.v.1,.int .i64 x.on.v.2.1,.string x.on.v.2.2,.string x.on.tab,.string x.on.name,.slice a x.on.ks.length c] 105
  have P0:Hid (PrAt (w.alloc (.cells #[.int .i64 x.kind,.string x.name,.string x.alias,.int .i64 x.on.k,.int .i64 x.on.v.1,.int .i64 x.on.v.2.1,.string x.on.v.2.2,.string x.on.tab,.string x.on.name,.slice a x.on.ks.length c] 105)) PB v bs):=hP.next hal;have S0:Hid (St PB v w v (w.alloc (.cells #[.int .i64 x.kind,.string x.name,.string x.alias,.int .i64 x.on.k,.int .i64 x.on.v.1,.int .i64 x.on.v.2.1,.string x.on.v.2.2,.string x.on.tab,.string x.on.name,.slice a x.on.ks.length c] 105))):=St.of hal hP.lt
  have G0:Hid (GP (w.alloc (.cells #[.int .i64 x.kind,.string x.name,.string x.alias,.int .i64 x.on.k,.int .i64 x.on.v.1,.int .i64 x.on.v.2.1,.string x.on.v.2.2,.string x.on.tab,.string x.on.name,.slice a x.on.ks.length c] 105)) PB):=hG.nx hal hP.lt;have L00:Hid (SsS (fun b=>b<PB) (w.alloc (.cells #[.int .i64 x.kind,.string x.name,.string x.alias,.int .i64 x.on.k,.int .i64 x.on.v.1,.int .i64 x.on.v.2.1,.string x.on.v.2.2,.string x.on.tab,.string x.on.name,.slice a x.on.ks.length c] 105)) a x.on.ks):=SsS.next hal hk;clear hP hG hal hk;go_enter Tryz.func119,Tryz.ntmps119
  go_upto_region 1 with fail
  generalize (w.alloc (.cells #[.int .i64 x.kind,.string x.name,.string x.alias,.int .i64 x.on.k,.int .i64 x.on.v.1,.int .i64 x.on.v.2.1,.string x.on.v.2.2,.string x.on.tab,.string x.on.name,.slice a x.on.ks.length c] 105))=w0 at *;go_upto_region 2 with fail
  obtain ⟨C,hCC,hCP,hC0⟩:∃ C:World→Prop,(∀ W W':World,C W→Below W.heap.size W W'→C W')∧(∀ W,C W↔Blk W (w.heap.size) #[.int .i64 x.kind,.string x.name,.string x.alias,.int .i64 x.on.k,.int .i64 x.on.v.1,.int .i64 x.on.v.2.1,.string x.on.v.2.2,.string x.on.tab,.string x.on.name,.slice a x.on.ks.length c] 105)∧C w0:=⟨fun W=>Blk W (w.heap.size) #[.int .i64 x.kind,.string x.name,.string x.alias,.int .i64 x.on.k,.int .i64 x.on.v.1,.int .i64 x.on.v.2.1,.string x.on.v.2.2,.string x.on.tab,.string x.on.name,.slice a x.on.ks.length c] 105,fun W W' h hb=>h.nx hb,fun _=>Iff.rfl,B0.out.q⟩
  have hdr:Below w0.heap.size w0 w0.drew:=(Below.refl _ _).drew;have CW:=hCC _ _ hC0 hdr;clear hC0;refine wp_region_cls C (by kernel_rfl) ?_;refine wpY_take hCC (some 8) (i:=0) (v:=.pointer (some ⟨PB,0,none⟩)) rfl rfl (by kernel_rfl) (by kernel_rfl) (by kernel_rfl) (fun _ _ _ h=>h) (Or.inl ⟨rfl,fun n hn=>?_⟩) CW ?_
  ·go_simp
  simp only [Act.put,pA,pB,pC];refine wpY_take hCC (some 9) (i:=1) (v:=.pointer (some ⟨w.heap.size,0,none⟩)) rfl rfl (by kernel_rfl) (by kernel_rfl) (by kernel_rfl) (fun _ _ _ h=>h) (Or.inl ⟨rfl,fun n hn=>?_⟩) CW ?_
  ·go_simp
  simp only [Act.put,pA,pB,pC];refine wpY_take hCC (some 10) (i:=2) (v:=.int .i64 x.kind) rfl rfl (by kernel_rfl) (by kernel_rfl) (by kernel_rfl) (fun _ _ _ h=>h) (Or.inl ⟨rfl,fun n hn=>?_⟩) CW ?_
  ·have z0:n.cell? ⟨w.heap.size,0,none⟩=some (.int .i64 x.kind):=((hCP n).1 hn).c 0 rfl;go_simp
  simp only [Act.put,pA,pB,pC];refine wpY_take hCC (some 11) (i:=3) (v:=.bool false) rfl rfl (by kernel_rfl) (by kernel_rfl) (by kernel_rfl) (fun _ _ _ h=>h) (Or.inl ⟨rfl,fun n hn=>?_⟩) CW ?_
  ·go_simp
  simp only [Act.put,pA,pB,pC];refine wpY_take hCC (some 13) (i:=5) (v:=.pointer (some ⟨w.heap.size,0,none⟩)) rfl rfl (by kernel_rfl) (by kernel_rfl) (by kernel_rfl) (fun _ _ _ h=>h) (Or.inl ⟨rfl,fun n hn=>?_⟩) CW ?_
  ·go_simp
  simp only [Act.put,pA,pB,pC];refine wpY_take hCC (some 14) (i:=6) (v:=.int .i64 x.kind) rfl rfl (by kernel_rfl) (by kernel_rfl) (by kernel_rfl) (fun _ _ _ h=>h) (Or.inl ⟨rfl,fun n hn=>?_⟩) CW ?_
  ·have z0:n.cell? ⟨w.heap.size,0,none⟩=some (.int .i64 x.kind):=((hCP n).1 hn).c 0 rfl;go_simp
  simp only [Act.put,pA,pB,pC];refine wpY_step (rs:=[4]) (by kernel_rfl) (by simp) ?_;intro w5 hb5 jj hj;obtain rfl:jj=4:=by simpa using hj
  clear hj;have D5:=chain hdr hb5;have con:=joins2_at w5;refine wpOp_step rfl (fun K hK=>?_);go_simp;refine con.mono ?_;rintro e w6 ⟨g6,rfl,q6,_,hb6⟩;have CW6:=hCC _ _ (hCC _ _ CW hb5) hb6;refine hK _ _ ⟨CW6,?_⟩;clear hK K con CW;have D6:=chain D5 hb6;clear hb6 D5 hb5;try simp only [Act.put,pA,pB,pC]
  refine wpY_step (rs:=[7]) (by kernel_rfl) (by simp) ?_;intro w7 hb7 jj hj;obtain rfl:jj=7:=by simpa using hj
  clear hj;have q7:=(hb7.block _ (lt_of_heap q6)).trans q6;have con:=wordOf2_at (x.kind) joL (by decide) (some ⟨g6,0,none⟩) joL.length _ (calC_at q7);refine wpOp_step rfl (fun K hK=>?_);go_simp;refine con.mono ?_;rintro e w8 ⟨rfl,hb8⟩;have CW8:=hCC _ _ (hCC _ _ CW6 hb7) hb8;refine hK _ _ ⟨CW8,?_⟩;have D8:=chain D6 (chain hb7 hb8);clear hK K con CW6 hb7 hb8 D6 q6 q7;generalize (wordL x.kind joL)=wd at *;try simp only [Act.put,pA,pB,pC]
  refine wpY_step (rs:=[8]) (by kernel_rfl) (by simp) ?_;intro wB hbB jj hj;obtain rfl:jj=8:=by simpa using hj
  clear hj;have DB:=chain D8 hbB;have con:Calls Tryz.prog 86 #[.pointer (some ⟨PB,0,none⟩),.bool false,.string wd] wB (PEnds wB PB v (sayL bs ([]))):=sayIf_at false wd (P0.out.next DB) (lea (lea (lea (lea (Hb.out)))));refine wpOp_step rfl (fun K hK=>?_);go_simp;refine con.mono ?_;rintro e wC ⟨rfl,vC,PC,SC⟩;have SB:St PB v w0 v wB:=St.of DB P0.out.lt;refine hK _ _ ⟨(hCP _).2 ((B0.out.st SB).st SC).q,?_⟩;refine wpY_done (by kernel_rfl) ?_;intro wD hbD;have S_:St PB v w0 vC wD:=SB.trans (SC.trans (St.of hbD PC.lt))
  have P1:Hid (PrAt wD PB vC (sayL bs ([]))):=by show PrAt _ _ _ _; exact PC.next hbD
  have S2:Hid (St PB v w vC wD):=S0.out.trans S_;have G3:Hid (GP wD PB):=G0.out.st S_;have B4:Hid (Bx wD PB vC (w.heap.size) #[.int .i64 x.kind,.string x.name,.string x.alias,.int .i64 x.on.k,.int .i64 x.on.v.1,.int .i64 x.on.v.2.1,.string x.on.v.2.2,.string x.on.tab,.string x.on.name,.slice a x.on.ks.length c] 105):=B0.out.st S_;have L5:Hid (SsS (fun b=>b<PB) wD a x.on.ks):=SsS.stp L00.out S_;clear con hK K CW8 hCC hCP SB SC PC S_ DB D8 hdr hbB hbD P0 S0 G0 B0 L00
  have con6:Calls Tryz.prog 57 #[.pointer (some ⟨PB,0,none⟩),.slice (some ⟨wD.heap.size,0,none⟩) 1 1] (wD.alloc (.cells #[.string ⟨#[106,111,105,110]⟩] 9)) (PEnds wD PB vC (sayL (sayL bs ([])) ([⟨#[106,111,105,110]⟩]))):=say_new [⟨#[106,111,105,110]⟩] P1.out (by rw [← sayL_app]; exact lea (lea (lea (Hb.out)))) (by simp);go_wp2_with fail
  refine con6.mono ?_;rintro e w7 ⟨rfl,v8,P_,S_⟩;have P9:Hid (PrAt w7 PB v8 (sayL bs ([] ++ [⟨#[106,111,105,110]⟩]))):=by show PrAt _ _ _ _; rw [sayL_app]; exact P_
  have S10:Hid (St PB v w v8 w7):=S2.out.trans S_;have G11:Hid (GP w7 PB):=G3.out.st S_;have B12:Hid (Bx w7 PB v8 (w.heap.size) #[.int .i64 x.kind,.string x.name,.string x.alias,.int .i64 x.on.k,.int .i64 x.on.v.1,.int .i64 x.on.v.2.1,.string x.on.v.2.2,.string x.on.tab,.string x.on.name,.slice a x.on.ks.length c] 105):=B4.out.st S_;have L13:Hid (SsS (fun b=>b<PB) w7 a x.on.ks):=SsS.stp L5.out S_;clear con6 P_ S_  P1 S2 G3 B4 L5;have f14:w7.cell? ⟨w.heap.size,1,none⟩=some (.string x.name):=B12.out.c 1 rfl
  have con15:Calls Tryz.prog 57 #[.pointer (some ⟨PB,0,none⟩),.slice (some ⟨w7.heap.size,0,none⟩) 1 1] (w7.alloc (.cells #[.string x.name] 9)) (PEnds w7 PB v8 (sayL (sayL bs ([] ++ [⟨#[106,111,105,110]⟩])) ([x.name]))):=say_new [x.name] P9.out (by rw [← sayL_app]; exact lea (lea (Hb.out))) (by simp);go_wp2_with fail
  refine con15.mono ?_;rintro e w16 ⟨rfl,v17,P_,S_⟩;have P18:Hid (PrAt w16 PB v17 (sayL bs ([] ++ [⟨#[106,111,105,110]⟩] ++ [x.name]))):=by show PrAt _ _ _ _; rw [sayL_app]; exact P_
  have S19:Hid (St PB v w v17 w16):=S10.out.trans S_;have G20:Hid (GP w16 PB):=G11.out.st S_;have B21:Hid (Bx w16 PB v17 (w.heap.size) #[.int .i64 x.kind,.string x.name,.string x.alias,.int .i64 x.on.k,.int .i64 x.on.v.1,.int .i64 x.on.v.2.1,.string x.on.v.2.2,.string x.on.tab,.string x.on.name,.slice a x.on.ks.length c] 105):=B12.out.st S_;have L22:Hid (SsS (fun b=>b<PB) w16 a x.on.ks):=SsS.stp L13.out S_;clear con15 P_ S_ f14 P9 S10 G11 B12 L13;have f23:w16.cell? ⟨w.heap.size,2,none⟩=some (.string x.alias):=B21.out.c 2 rfl
  have con24:Calls Tryz.prog 143 #[.pointer (some ⟨PB,0,none⟩),.string x.alias] w16 (PEnds w16 PB v17 (sayL (sayL bs ([] ++ [⟨#[106,111,105,110]⟩] ++ [x.name])) (byW x.alias))):=byName2_at x.alias (P18.out) (by rw [← sayL_app]; exact lea (Hb.out));go_wp2_with fail
  refine con24.mono ?_;rintro e w25 ⟨rfl,v26,P_,S_⟩;have P27:Hid (PrAt w25 PB v26 (sayL bs ([] ++ [⟨#[106,111,105,110]⟩] ++ [x.name] ++ byW x.alias))):=by show PrAt _ _ _ _; rw [sayL_app]; exact P_
  have S28:Hid (St PB v w v26 w25):=S19.out.trans S_;have G29:Hid (GP w25 PB):=G20.out.st S_;have B30:Hid (Bx w25 PB v26 (w.heap.size) #[.int .i64 x.kind,.string x.name,.string x.alias,.int .i64 x.on.k,.int .i64 x.on.v.1,.int .i64 x.on.v.2.1,.string x.on.v.2.2,.string x.on.tab,.string x.on.name,.slice a x.on.ks.length c] 105):=B21.out.st S_;have L31:Hid (SsS (fun b=>b<PB) w25 a x.on.ks):=SsS.stp L22.out S_;clear con24 P_ S_ f23 P18 S19 G20 B21 L22;have f32:w25.cell? ⟨w.heap.size,3,none⟩=some (.int .i64 x.on.k):=B30.out.c 3 rfl
  have f33:w25.cell? ⟨w.heap.size,4,none⟩=some (.int .i64 x.on.v.1):=B30.out.c 4 rfl;have f34:w25.cell? ⟨w.heap.size,5,none⟩=some (.int .i64 x.on.v.2.1):=B30.out.c 5 rfl;have f35:w25.cell? ⟨w.heap.size,6,none⟩=some (.string x.on.v.2.2):=B30.out.c 6 rfl;have f36:w25.cell? ⟨w.heap.size,7,none⟩=some (.string x.on.tab):=B30.out.c 7 rfl;have f37:w25.cell? ⟨w.heap.size,8,none⟩=some (.string x.on.name):=B30.out.c 8 rfl;have f38:w25.cell? ⟨w.heap.size,9,none⟩=some (.slice a x.on.ks.length c):=B30.out.c 9 rfl
  have con39:Calls Tryz.prog 63 #[.pointer (some ⟨PB,0,none⟩),.string ⟨#[111,110]⟩,.bool true,.agg (sxA x.on a c)] w25 (PEnds w25 PB v26 (sayL (sayL bs ([] ++ [⟨#[106,111,105,110]⟩] ++ [x.name] ++ byW x.alias)) (([⟨#[111,110]⟩] ++ exprW x.on)))):=exprBehind2_at ⟨#[111,110]⟩ true x.on (fun _=>HO.out) a c (G29.out) (P27.out) L31.out (by rw [← sayL_app]; exact Hb.out);go_wp2_with fail
  refine con39.mono ?_;rintro e w40 ⟨rfl,v41,P_,S_⟩;have P42:Hid (PrAt w40 PB v41 (sayL bs ([] ++ [⟨#[106,111,105,110]⟩] ++ [x.name] ++ byW x.alias ++ ([⟨#[111,110]⟩] ++ exprW x.on)))):=by show PrAt _ _ _ _; rw [sayL_app]; exact P_
  have S43:Hid (St PB v w v41 w40):=S28.out.trans S_;have G44:Hid (GP w40 PB):=G29.out.st S_;have B45:Hid (Bx w40 PB v41 (w.heap.size) #[.int .i64 x.kind,.string x.name,.string x.alias,.int .i64 x.on.k,.int .i64 x.on.v.1,.int .i64 x.on.v.2.1,.string x.on.v.2.2,.string x.on.tab,.string x.on.name,.slice a x.on.ks.length c] 105):=B30.out.st S_;have L46:Hid (SsS (fun b=>b<PB) w40 a x.on.ks):=SsS.stp L31.out S_;clear con39 P_ S_ f32 f33 f34 f35 f36 f37 f38 P27 S28 G29 B30 L31;go_wp2_with fail
  go_end0
  exact ⟨rfl,v41,P42.out,S43.out⟩
 ·have ev:srcW false x = [wordL x.kind joL] ++ [⟨#[106,111,105,110]⟩] ++ [x.name] ++ byW x.alias ++ ([⟨#[111,110]⟩] ++ exprW x.on):=by unfold srcW; simp only [Bool.false_eq_true,if_false,if_neg h2]
  rw [ev] at hb ⊢;clear ev;have b2:(x.kind != 2)=true:=by simpa using h2
  clear h2;have Hb:Hid _:=hb;clear hb;have hal:Below w.heap.size w (w.alloc (.cells #[.int .i64 x.kind,.string x.name,.string x.alias,.int .i64 x.on.k,.int .i64 x.on.v.1,.int .i64 x.on.v.2.1,.string x.on.v.2.2,.string x.on.tab,.string x.on.name,.slice a x.on.ks.length c] 105)):=(Below.refl _ _).alloc (Nat.le_refl _) _
  have B0:Hid (Bx (w.alloc (.cells #[.int .i64 x.kind,.string x.name,.string x.alias,.int .i64 x.on.k,.int .i64 x.on.v.1,.int .i64 x.on.v.2.1,.string x.on.v.2.2,.string x.on.tab,.string x.on.name,.slice a x.on.ks.length c] 105)) PB v w.heap.size #[.int .i64 x.kind,.string x.name,.string x.alias,.int .i64 x.on.k,.int .i64 x.on.v.1,.int .i64 x.on.v.2.1,.string x.on.v.2.2,.string x.on.tab,.string x.on.name,.slice a x.on.ks.length c] 105):=Bx.new hP #[.int .i64 x.kind,.string x.name,.string x.alias,.int .i64 x.on.k,.int .i64 x.on.v.1,.int .i64 x.on.v.2.1,.string x.on.v.2.2,.string x.on.tab,.string x.on.name,.slice a x.on.ks.length c] 105
  have P0:Hid (PrAt (w.alloc (.cells #[.int .i64 x.kind,.string x.name,.string x.alias,.int .i64 x.on.k,.int .i64 x.on.v.1,.int .i64 x.on.v.2.1,.string x.on.v.2.2,.string x.on.tab,.string x.on.name,.slice a x.on.ks.length c] 105)) PB v bs):=hP.next hal;have S0:Hid (St PB v w v (w.alloc (.cells #[.int .i64 x.kind,.string x.name,.string x.alias,.int .i64 x.on.k,.int .i64 x.on.v.1,.int .i64 x.on.v.2.1,.string x.on.v.2.2,.string x.on.tab,.string x.on.name,.slice a x.on.ks.length c] 105))):=St.of hal hP.lt
  have G0:Hid (GP (w.alloc (.cells #[.int .i64 x.kind,.string x.name,.string x.alias,.int .i64 x.on.k,.int .i64 x.on.v.1,.int .i64 x.on.v.2.1,.string x.on.v.2.2,.string x.on.tab,.string x.on.name,.slice a x.on.ks.length c] 105)) PB):=hG.nx hal hP.lt;have L00:Hid (SsS (fun b=>b<PB) (w.alloc (.cells #[.int .i64 x.kind,.string x.name,.string x.alias,.int .i64 x.on.k,.int .i64 x.on.v.1,.int .i64 x.on.v.2.1,.string x.on.v.2.2,.string x.on.tab,.string x.on.name,.slice a x.on.ks.length c] 105)) a x.on.ks):=SsS.next hal hk;clear hP hG hal hk;go_enter Tryz.func119,Tryz.ntmps119
  go_upto_region 1 with fail
  generalize (w.alloc (.cells #[.int .i64 x.kind,.string x.name,.string x.alias,.int .i64 x.on.k,.int .i64 x.on.v.1,.int .i64 x.on.v.2.1,.string x.on.v.2.2,.string x.on.tab,.string x.on.name,.slice a x.on.ks.length c] 105))=w0 at *;go_upto_region 2 with fail
  obtain ⟨C,hCC,hCP,hC0⟩:∃ C:World→Prop,(∀ W W':World,C W→Below W.heap.size W W'→C W')∧(∀ W,C W↔Blk W (w.heap.size) #[.int .i64 x.kind,.string x.name,.string x.alias,.int .i64 x.on.k,.int .i64 x.on.v.1,.int .i64 x.on.v.2.1,.string x.on.v.2.2,.string x.on.tab,.string x.on.name,.slice a x.on.ks.length c] 105)∧C w0:=⟨fun W=>Blk W (w.heap.size) #[.int .i64 x.kind,.string x.name,.string x.alias,.int .i64 x.on.k,.int .i64 x.on.v.1,.int .i64 x.on.v.2.1,.string x.on.v.2.2,.string x.on.tab,.string x.on.name,.slice a x.on.ks.length c] 105,fun W W' h hb=>h.nx hb,fun _=>Iff.rfl,B0.out.q⟩
  have hdr:Below w0.heap.size w0 w0.drew:=(Below.refl _ _).drew;have CW:=hCC _ _ hC0 hdr;clear hC0;refine wp_region_cls C (by kernel_rfl) ?_;refine wpY_take hCC (some 8) (i:=0) (v:=.pointer (some ⟨PB,0,none⟩)) rfl rfl (by kernel_rfl) (by kernel_rfl) (by kernel_rfl) (fun _ _ _ h=>h) (Or.inl ⟨rfl,fun n hn=>?_⟩) CW ?_
  ·go_simp
  simp only [Act.put,pA,pB,pC];refine wpY_take hCC (some 9) (i:=1) (v:=.pointer (some ⟨w.heap.size,0,none⟩)) rfl rfl (by kernel_rfl) (by kernel_rfl) (by kernel_rfl) (fun _ _ _ h=>h) (Or.inl ⟨rfl,fun n hn=>?_⟩) CW ?_
  ·go_simp
  simp only [Act.put,pA,pB,pC];refine wpY_take hCC (some 10) (i:=2) (v:=.int .i64 x.kind) rfl rfl (by kernel_rfl) (by kernel_rfl) (by kernel_rfl) (fun _ _ _ h=>h) (Or.inl ⟨rfl,fun n hn=>?_⟩) CW ?_
  ·have z0:n.cell? ⟨w.heap.size,0,none⟩=some (.int .i64 x.kind):=((hCP n).1 hn).c 0 rfl;go_simp
  simp only [Act.put,pA,pB,pC];refine wpY_take hCC (some 11) (i:=3) (v:=.bool true) rfl rfl (by kernel_rfl) (by kernel_rfl) (by kernel_rfl) (fun _ _ _ h=>h) (Or.inl ⟨rfl,fun n hn=>?_⟩) CW ?_
  ·go_simp
  simp only [Act.put,pA,pB,pC];refine wpY_take hCC (some 13) (i:=5) (v:=.pointer (some ⟨w.heap.size,0,none⟩)) rfl rfl (by kernel_rfl) (by kernel_rfl) (by kernel_rfl) (fun _ _ _ h=>h) (Or.inl ⟨rfl,fun n hn=>?_⟩) CW ?_
  ·go_simp
  simp only [Act.put,pA,pB,pC];refine wpY_take hCC (some 14) (i:=6) (v:=.int .i64 x.kind) rfl rfl (by kernel_rfl) (by kernel_rfl) (by kernel_rfl) (fun _ _ _ h=>h) (Or.inl ⟨rfl,fun n hn=>?_⟩) CW ?_
  ·have z0:n.cell? ⟨w.heap.size,0,none⟩=some (.int .i64 x.kind):=((hCP n).1 hn).c 0 rfl;go_simp
  simp only [Act.put,pA,pB,pC];refine wpY_step (rs:=[4]) (by kernel_rfl) (by simp) ?_;intro w5 hb5 jj hj;obtain rfl:jj=4:=by simpa using hj
  clear hj;have D5:=chain hdr hb5;have con:=joins2_at w5;refine wpOp_step rfl (fun K hK=>?_);go_simp;refine con.mono ?_;rintro e w6 ⟨g6,rfl,q6,_,hb6⟩;have CW6:=hCC _ _ (hCC _ _ CW hb5) hb6;refine hK _ _ ⟨CW6,?_⟩;clear hK K con CW;have D6:=chain D5 hb6;clear hb6 D5 hb5;try simp only [Act.put,pA,pB,pC]
  refine wpY_step (rs:=[7]) (by kernel_rfl) (by simp) ?_;intro w7 hb7 jj hj;obtain rfl:jj=7:=by simpa using hj
  clear hj;have q7:=(hb7.block _ (lt_of_heap q6)).trans q6;have con:=wordOf2_at (x.kind) joL (by decide) (some ⟨g6,0,none⟩) joL.length _ (calC_at q7);refine wpOp_step rfl (fun K hK=>?_);go_simp;refine con.mono ?_;rintro e w8 ⟨rfl,hb8⟩;have CW8:=hCC _ _ (hCC _ _ CW6 hb7) hb8;refine hK _ _ ⟨CW8,?_⟩;have D8:=chain D6 (chain hb7 hb8);clear hK K con CW6 hb7 hb8 D6 q6 q7;generalize (wordL x.kind joL)=wd at *;try simp only [Act.put,pA,pB,pC]
  refine wpY_step (rs:=[8]) (by kernel_rfl) (by simp) ?_;intro wB hbB jj hj;obtain rfl:jj=8:=by simpa using hj
  clear hj;have DB:=chain D8 hbB;have con:Calls Tryz.prog 86 #[.pointer (some ⟨PB,0,none⟩),.bool true,.string wd] wB (PEnds wB PB v (sayL bs ([wd]))):=sayIf_at true wd (P0.out.next DB) (lea (lea (lea (lea (Hb.out)))));refine wpOp_step rfl (fun K hK=>?_);go_simp;refine con.mono ?_;rintro e wC ⟨rfl,vC,PC,SC⟩;have SB:St PB v w0 v wB:=St.of DB P0.out.lt;refine hK _ _ ⟨(hCP _).2 ((B0.out.st SB).st SC).q,?_⟩;refine wpY_done (by kernel_rfl) ?_;intro wD hbD;have S_:St PB v w0 vC wD:=SB.trans (SC.trans (St.of hbD PC.lt))
  have P47:Hid (PrAt wD PB vC (sayL bs ([wd]))):=by show PrAt _ _ _ _; exact PC.next hbD
  have S48:Hid (St PB v w vC wD):=S0.out.trans S_;have G49:Hid (GP wD PB):=G0.out.st S_;have B50:Hid (Bx wD PB vC (w.heap.size) #[.int .i64 x.kind,.string x.name,.string x.alias,.int .i64 x.on.k,.int .i64 x.on.v.1,.int .i64 x.on.v.2.1,.string x.on.v.2.2,.string x.on.tab,.string x.on.name,.slice a x.on.ks.length c] 105):=B0.out.st S_;have L51:Hid (SsS (fun b=>b<PB) wD a x.on.ks):=SsS.stp L00.out S_;clear con hK K CW8 hCC hCP SB SC PC S_ DB D8 hdr hbB hbD P0 S0 G0 B0 L00
  have con52:Calls Tryz.prog 57 #[.pointer (some ⟨PB,0,none⟩),.slice (some ⟨wD.heap.size,0,none⟩) 1 1] (wD.alloc (.cells #[.string ⟨#[106,111,105,110]⟩] 9)) (PEnds wD PB vC (sayL (sayL bs ([wd])) ([⟨#[106,111,105,110]⟩]))):=say_new [⟨#[106,111,105,110]⟩] P47.out (by rw [← sayL_app]; exact lea (lea (lea (Hb.out)))) (by simp);go_wp2_with fail
  refine con52.mono ?_;rintro e w53 ⟨rfl,v54,P_,S_⟩;have P55:Hid (PrAt w53 PB v54 (sayL bs ([wd] ++ [⟨#[106,111,105,110]⟩]))):=by show PrAt _ _ _ _; rw [sayL_app]; exact P_
  have S56:Hid (St PB v w v54 w53):=S48.out.trans S_;have G57:Hid (GP w53 PB):=G49.out.st S_;have B58:Hid (Bx w53 PB v54 (w.heap.size) #[.int .i64 x.kind,.string x.name,.string x.alias,.int .i64 x.on.k,.int .i64 x.on.v.1,.int .i64 x.on.v.2.1,.string x.on.v.2.2,.string x.on.tab,.string x.on.name,.slice a x.on.ks.length c] 105):=B50.out.st S_;have L59:Hid (SsS (fun b=>b<PB) w53 a x.on.ks):=SsS.stp L51.out S_;clear con52 P_ S_  P47 S48 G49 B50 L51;have f60:w53.cell? ⟨w.heap.size,1,none⟩=some (.string x.name):=B58.out.c 1 rfl
  have con61:Calls Tryz.prog 57 #[.pointer (some ⟨PB,0,none⟩),.slice (some ⟨w53.heap.size,0,none⟩) 1 1] (w53.alloc (.cells #[.string x.name] 9)) (PEnds w53 PB v54 (sayL (sayL bs ([wd] ++ [⟨#[106,111,105,110]⟩])) ([x.name]))):=say_new [x.name] P55.out (by rw [← sayL_app]; exact lea (lea (Hb.out))) (by simp);go_wp2_with fail
  refine con61.mono ?_;rintro e w62 ⟨rfl,v63,P_,S_⟩;have P64:Hid (PrAt w62 PB v63 (sayL bs ([wd] ++ [⟨#[106,111,105,110]⟩] ++ [x.name]))):=by show PrAt _ _ _ _; rw [sayL_app]; exact P_
  have S65:Hid (St PB v w v63 w62):=S56.out.trans S_;have G66:Hid (GP w62 PB):=G57.out.st S_;have B67:Hid (Bx w62 PB v63 (w.heap.size) #[.int .i64 x.kind,.string x.name,.string x.alias,.int .i64 x.on.k,.int .i64 x.on.v.1,.int .i64 x.on.v.2.1,.string x.on.v.2.2,.string x.on.tab,.string x.on.name,.slice a x.on.ks.length c] 105):=B58.out.st S_;have L68:Hid (SsS (fun b=>b<PB) w62 a x.on.ks):=SsS.stp L59.out S_;clear con61 P_ S_ f60 P55 S56 G57 B58 L59;have f69:w62.cell? ⟨w.heap.size,2,none⟩=some (.string x.alias):=B67.out.c 2 rfl
  have con70:Calls Tryz.prog 143 #[.pointer (some ⟨PB,0,none⟩),.string x.alias] w62 (PEnds w62 PB v63 (sayL (sayL bs ([wd] ++ [⟨#[106,111,105,110]⟩] ++ [x.name])) (byW x.alias))):=byName2_at x.alias (P64.out) (by rw [← sayL_app]; exact lea (Hb.out));go_wp2_with fail
  refine con70.mono ?_;rintro e w71 ⟨rfl,v72,P_,S_⟩;have P73:Hid (PrAt w71 PB v72 (sayL bs ([wd] ++ [⟨#[106,111,105,110]⟩] ++ [x.name] ++ byW x.alias))):=by show PrAt _ _ _ _; rw [sayL_app]; exact P_
  have S74:Hid (St PB v w v72 w71):=S65.out.trans S_;have G75:Hid (GP w71 PB):=G66.out.st S_;have B76:Hid (Bx w71 PB v72 (w.heap.size) #[.int .i64 x.kind,.string x.name,.string x.alias,.int .i64 x.on.k,.int .i64 x.on.v.1,.int .i64 x.on.v.2.1,.string x.on.v.2.2,.string x.on.tab,.string x.on.name,.slice a x.on.ks.length c] 105):=B67.out.st S_;have L77:Hid (SsS (fun b=>b<PB) w71 a x.on.ks):=SsS.stp L68.out S_;clear con70 P_ S_ f69 P64 S65 G66 B67 L68;have f78:w71.cell? ⟨w.heap.size,3,none⟩=some (.int .i64 x.on.k):=B76.out.c 3 rfl
  have f79:w71.cell? ⟨w.heap.size,4,none⟩=some (.int .i64 x.on.v.1):=B76.out.c 4 rfl;have f80:w71.cell? ⟨w.heap.size,5,none⟩=some (.int .i64 x.on.v.2.1):=B76.out.c 5 rfl;have f81:w71.cell? ⟨w.heap.size,6,none⟩=some (.string x.on.v.2.2):=B76.out.c 6 rfl;have f82:w71.cell? ⟨w.heap.size,7,none⟩=some (.string x.on.tab):=B76.out.c 7 rfl;have f83:w71.cell? ⟨w.heap.size,8,none⟩=some (.string x.on.name):=B76.out.c 8 rfl;have f84:w71.cell? ⟨w.heap.size,9,none⟩=some (.slice a x.on.ks.length c):=B76.out.c 9 rfl
  have con85:Calls Tryz.prog 63 #[.pointer (some ⟨PB,0,none⟩),.string ⟨#[111,110]⟩,.bool true,.agg (sxA x.on a c)] w71 (PEnds w71 PB v72 (sayL (sayL bs ([wd] ++ [⟨#[106,111,105,110]⟩] ++ [x.name] ++ byW x.alias)) (([⟨#[111,110]⟩] ++ exprW x.on)))):=exprBehind2_at ⟨#[111,110]⟩ true x.on (fun _=>HO.out) a c (G75.out) (P73.out) L77.out (by rw [← sayL_app]; exact Hb.out);go_wp2_with fail
  refine con85.mono ?_;rintro e w86 ⟨rfl,v87,P_,S_⟩;have P88:Hid (PrAt w86 PB v87 (sayL bs ([wd] ++ [⟨#[106,111,105,110]⟩] ++ [x.name] ++ byW x.alias ++ ([⟨#[111,110]⟩] ++ exprW x.on)))):=by show PrAt _ _ _ _; rw [sayL_app]; exact P_
  have S89:Hid (St PB v w v87 w86):=S74.out.trans S_;have G90:Hid (GP w86 PB):=G75.out.st S_;have B91:Hid (Bx w86 PB v87 (w.heap.size) #[.int .i64 x.kind,.string x.name,.string x.alias,.int .i64 x.on.k,.int .i64 x.on.v.1,.int .i64 x.on.v.2.1,.string x.on.v.2.2,.string x.on.tab,.string x.on.name,.slice a x.on.ks.length c] 105):=B76.out.st S_;have L92:Hid (SsS (fun b=>b<PB) w86 a x.on.ks):=SsS.stp L77.out S_;clear con85 P_ S_ f78 f79 f80 f81 f82 f83 f84 P73 S74 G75 B76 L77;go_wp2_with fail
  go_end0
  exact ⟨rfl,v87,P88.out,S89.out⟩
set_option maxHeartbeats 16000000
abbrev slA (x:Sel) (a1 a2 a3 a4 a5:Option Addr) (c1 c2 c3 c4 c5:Nat):Array Value:=#[.bool x.distinct,.bool x.star,.slice a1 x.items.length c1,.slice a2 x.sources.length c2,.bool x.hasWhere,.bool x.hasHaving,.int .i64 x.wher.k,.int .i64 x.wher.v.1,.int .i64 x.wher.v.2.1,.string x.wher.v.2.2,.string x.wher.tab,.string x.wher.name,.slice a3 x.wher.ks.length c3,.int .i64 x.having.k,.int .i64 x.having.v.1,.int .i64 x.having.v.2.1,.string x.having.v.2.2,.string x.having.tab,.string x.having.name,.slice a4 x.having.ks.length c4,.slice a5 x.group.length c5]

def ifW (b:Bool) (s:ByteArray):List ByteArray:=if b then [s] else []
theorem sayIf2_at (has:Bool) (s:ByteArray) {PB:Nat} {v:Value} {bs:List UInt8} {w:World} (hP:PrAt w PB v bs) (hb:(sayL bs (ifW has s)).length≤Lim):Calls Tryz.prog 86 #[.pointer (some ⟨PB,0,none⟩),.bool has,.string s] w (PEnds w PB v (sayL bs (ifW has s))):=sayIf_at has s hP hb
def srcA (l:List Src):Nat→List ByteArray
 | 0=>[]
 | i+1=>srcA l i ++ (match l[i]? with | some x=>srcW (i == 0) x | none=>[])
theorem srcA_le (bs:List UInt8) (l:List Src) (i:Nat):∀ n,i≤n→(sayL bs (srcA l i)).length≤(sayL bs (srcA l n)).length
 | 0,h=>by rw [Nat.le_zero.1 h]; exact Nat.le_refl _
 | n+1,h=>by
  by_cases e:i=n+1
  ·rw [e]; exact Nat.le_refl _
  ·refine Nat.le_trans (srcA_le bs l i n (by omega)) ?_
   rw [srcA,sayL_app]
   exact sayL_len _ _
theorem srcA_at (l:List Src) (j:Nat) (h:j<l.length):srcA l (j+1)=srcA l j ++ srcW (j == 0) l[j]:=by rw [srcA,List.getElem?_eq_getElem h]
def grpW (l:List SX):List ByteArray:=if l.length=0 then [] else [⟨#[103,114,111,117,112]⟩,⟨#[98,121]⟩] ++ lisW exprW l
def itsW (x:Sel):List ByteArray:=if x.star then [⟨#[42]⟩] else lisW itmW x.items
def selW (x:Sel):List ByteArray:=[⟨#[115,101,108,101,99,116]⟩] ++ ifW x.distinct ⟨#[100,105,115,116,105,110,99,116]⟩ ++ itsW x ++ [⟨#[102,114,111,109]⟩] ++ srcA x.sources x.sources.length ++ behX ⟨#[119,104,101,114,101]⟩ x.hasWhere x.wher ++ grpW x.group ++ behX ⟨#[104,97,118,105,110,103]⟩ x.hasHaving x.having
structure OkSel (x:Sel):Prop where
 items:x.star=false→x.items.length≤1000∧∀ y ∈ x.items,OkX y.1
 sources:x.sources.length≤1000∧∀ (i:Nat) (h:i<x.sources.length),0<i→OkX x.sources[i].on
 wher:x.hasWhere=true→OkX x.wher
 having:x.hasHaving=true→OkX x.having
 group:x.group.length≤1000∧∀ y ∈ x.group,OkX y
theorem selected2_at (x:Sel) (ok:OkSel x) (a1 a2 a3 a4 a5:Option Addr) (c1 c2 c3 c4 c5:Nat) {PB:Nat} {v:Value} {bs:List UInt8} {w:World} (hG:GP w PB) (hP:PrAt w PB v bs) (k1:LsE En8 8 (fun b=>b<PB) w a1 x.items) (k2:LsE En10 10 (fun b=>b<PB) w a2 x.sources) (k3:SsS (fun b=>b<PB) w a3 x.wher.ks) (k4:SsS (fun b=>b<PB) w a4 x.having.ks) (k5:LsE En7 7 (fun b=>b<PB) w a5 x.group) (hb:(sayL bs (selW x)).length≤Lim):Calls Tryz.prog 90 #[.pointer (some ⟨PB,0,none⟩),.agg (slA x a1 a2 a3 a4 a5 c1 c2 c3 c4 c5)] w (PEnds w PB v (sayL bs (selW x))):=by
 rw [selW] at hb ⊢;have hmf:∀ (fn:Fn) (first cap:Array Value) (w:World),(Instr.makeFunc fn first cap).run Tryz.prog w = .ok (.func fn first cap) w:=fun _ _ _ _=>rfl
 have HO:Hid (OkSel x):=ok;have ns:=ok.sources.1;clear ok;have Hb:Hid _:=hb;clear hb
 have hal:Below w.heap.size w (w.alloc (.cells (slA x a1 a2 a3 a4 a5 c1 c2 c3 c4 c5) 79)):=(Below.refl _ _).alloc (Nat.le_refl _) _
 have B0:Hid (Bx (w.alloc (.cells (slA x a1 a2 a3 a4 a5 c1 c2 c3 c4 c5) 79)) PB v w.heap.size (slA x a1 a2 a3 a4 a5 c1 c2 c3 c4 c5) 79):=Bx.new hP (slA x a1 a2 a3 a4 a5 c1 c2 c3 c4 c5) 79
 have P0:Hid (PrAt (w.alloc (.cells (slA x a1 a2 a3 a4 a5 c1 c2 c3 c4 c5) 79)) PB v bs):=hP.next hal
 have S0:Hid (St PB v w v (w.alloc (.cells (slA x a1 a2 a3 a4 a5 c1 c2 c3 c4 c5) 79))):=St.of hal hP.lt
 have G0:Hid (GP (w.alloc (.cells (slA x a1 a2 a3 a4 a5 c1 c2 c3 c4 c5) 79)) PB):=hG.nx hal hP.lt
 have L00:Hid (LsE En8 8 (fun b=>b<PB) (w.alloc (.cells (slA x a1 a2 a3 a4 a5 c1 c2 c3 c4 c5) 79)) a1 x.items):=(k1).nx en8 hal
 have L01:Hid (LsE En10 10 (fun b=>b<PB) (w.alloc (.cells (slA x a1 a2 a3 a4 a5 c1 c2 c3 c4 c5) 79)) a2 x.sources):=(k2).nx en10 hal
 have L02:Hid (SsS (fun b=>b<PB) (w.alloc (.cells (slA x a1 a2 a3 a4 a5 c1 c2 c3 c4 c5) 79)) a3 x.wher.ks):=SsS.next hal k3
 have L03:Hid (SsS (fun b=>b<PB) (w.alloc (.cells (slA x a1 a2 a3 a4 a5 c1 c2 c3 c4 c5) 79)) a4 x.having.ks):=SsS.next hal k4
 have L04:Hid (LsE En7 7 (fun b=>b<PB) (w.alloc (.cells (slA x a1 a2 a3 a4 a5 c1 c2 c3 c4 c5) 79)) a5 x.group):=(k5).nx en7 hal;clear hP hG hal k1 k2 k3 k4 k5
 go_enter Tryz.func90,Tryz.ntmps90;go_upto_region 1 with fail
 generalize (w.alloc (.cells (slA x a1 a2 a3 a4 a5 c1 c2 c3 c4 c5) 79))=w0 at *
 have con1:Calls Tryz.prog 57 #[.pointer (some ⟨PB,0,none⟩),.slice (some ⟨w0.heap.size,0,none⟩) 1 1] (w0.alloc (.cells #[.string ⟨#[115,101,108,101,99,116]⟩] 9)) (PEnds w0 PB v (sayL bs ([⟨#[115,101,108,101,99,116]⟩]))):=say_new [⟨#[115,101,108,101,99,116]⟩] P0.out (lea (lea (lea (lea (lea (lea (lea (Hb.out)))))))) (by simp);go_wp2_with fail
 refine con1.mono ?_;rintro e w2 ⟨rfl,v3,P_,S_⟩;have P4:Hid (PrAt w2 PB v3 (sayL bs ([⟨#[115,101,108,101,99,116]⟩]))):=P_;have S5:Hid (St PB v w v3 w2):=S0.out.trans S_;have G6:Hid (GP w2 PB):=G0.out.st S_
 have B7:Hid (Bx w2 PB v3 (w.heap.size) (slA x a1 a2 a3 a4 a5 c1 c2 c3 c4 c5) 79):=B0.out.st S_
 have L8:Hid (LsE En8 8 (fun b=>b<PB) w2 a1 x.items):=(L00.out).stp en8 S_;have L9:Hid (LsE En10 10 (fun b=>b<PB) w2 a2 x.sources):=(L01.out).stp en10 S_;have L10:Hid (SsS (fun b=>b<PB) w2 a3 x.wher.ks):=SsS.stp L02.out S_;have L11:Hid (SsS (fun b=>b<PB) w2 a4 x.having.ks):=SsS.stp L03.out S_;have L12:Hid (LsE En7 7 (fun b=>b<PB) w2 a5 x.group):=(L04.out).stp en7 S_;clear con1 P_ S_  P0 S0 G0 B0 L00 L01 L02 L03 L04;have f13:w2.cell? ⟨w.heap.size,0,none⟩=some (.bool x.distinct):=B7.out.c 0 rfl
 have con14:Calls Tryz.prog 86 #[.pointer (some ⟨PB,0,none⟩),.bool x.distinct,.string ⟨#[100,105,115,116,105,110,99,116]⟩] w2 (PEnds w2 PB v3 (sayL (sayL bs ([⟨#[115,101,108,101,99,116]⟩])) (ifW x.distinct ⟨#[100,105,115,116,105,110,99,116]⟩))):=sayIf2_at x.distinct ⟨#[100,105,115,116,105,110,99,116]⟩ P4.out (by rw [← sayL_app]; exact lea (lea (lea (lea (lea (lea (Hb.out)))))));go_wp2_with fail
 refine con14.mono ?_;rintro e w15 ⟨rfl,v16,P_,S_⟩;have P17:Hid (PrAt w15 PB v16 (sayL bs ([⟨#[115,101,108,101,99,116]⟩] ++ ifW x.distinct ⟨#[100,105,115,116,105,110,99,116]⟩))):=by show PrAt _ _ _ _; rw [sayL_app]; exact P_
 have S18:Hid (St PB v w v16 w15):=S5.out.trans S_;have G19:Hid (GP w15 PB):=G6.out.st S_
 have B20:Hid (Bx w15 PB v16 (w.heap.size) (slA x a1 a2 a3 a4 a5 c1 c2 c3 c4 c5) 79):=B7.out.st S_
 have L21:Hid (LsE En8 8 (fun b=>b<PB) w15 a1 x.items):=(L8.out).stp en8 S_;have L22:Hid (LsE En10 10 (fun b=>b<PB) w15 a2 x.sources):=(L9.out).stp en10 S_;have L23:Hid (SsS (fun b=>b<PB) w15 a3 x.wher.ks):=SsS.stp L10.out S_;have L24:Hid (SsS (fun b=>b<PB) w15 a4 x.having.ks):=SsS.stp L11.out S_;have L25:Hid (LsE En7 7 (fun b=>b<PB) w15 a5 x.group):=(L12.out).stp en7 S_;clear con14 P_ S_ f13 P4 S5 G6 B7 L8 L9 L10 L11 L12;have f26:w15.cell? ⟨w.heap.size,1,none⟩=some (.bool x.star):=B20.out.c 1 rfl;go_upto_if 14 with fail
 clear f26
 go_cut [1,14] (fun _ _ wc=>∃ vc,Hid (PrAt wc PB vc (sayL bs ([⟨#[115,101,108,101,99,116]⟩] ++ ifW x.distinct ⟨#[100,105,115,116,105,110,99,116]⟩ ++ itsW x)))∧Hid (St PB v w vc wc)∧Hid (GP wc PB)∧Hid (Bx wc PB vc (w.heap.size) (slA x a1 a2 a3 a4 a5 c1 c2 c3 c4 c5) 79)∧Hid (LsE En8 8 (fun b=>b<PB) wc a1 x.items)∧Hid (LsE En10 10 (fun b=>b<PB) wc a2 x.sources)∧Hid (SsS (fun b=>b<PB) wc a3 x.wher.ks)∧Hid (SsS (fun b=>b<PB) wc a4 x.having.ks)∧Hid (LsE En7 7 (fun b=>b<PB) wc a5 x.group))
 case first=>as_aux_lemma =>
  cases hs:x.star
  ·have ei:itsW x=lisW itmW x.items:=by unfold itsW; rw [hs]; rfl
   rw [ei] at Hb;have f27:w15.cell? ⟨w.heap.size,2,none⟩=some (.slice a1 x.items.length c1):=B20.out.c 2 rfl;have con28:Calls Tryz.prog 117 #[.pointer (some ⟨PB,0,none⟩),.slice a1 x.items.length c1,.func (.func 118) #[.pointer (some ⟨PB,0,none⟩)] #[]] w15 (PEnds w15 PB v16 (sayL (sayL bs ([⟨#[115,101,108,101,99,116]⟩] ++ ifW x.distinct ⟨#[100,105,115,116,105,110,99,116]⟩)) (lisW itmW x.items))):=listedI_at x.items (HO.out.items hs).1 (HO.out.items hs).2 a1 c1 (G19.out) (P17.out) L21.out (by rw [← sayL_app]; exact lea (lea (lea (lea (lea (Hb.out))))));go_wp2_with fail
   refine con28.mono ?_;rintro e w29 ⟨rfl,v30,P_,S_⟩;have P31:Hid (PrAt w29 PB v30 (sayL bs ([⟨#[115,101,108,101,99,116]⟩] ++ ifW x.distinct ⟨#[100,105,115,116,105,110,99,116]⟩ ++ lisW itmW x.items))):=by show PrAt _ _ _ _; rw [sayL_app]; exact P_
   have S32:Hid (St PB v w v30 w29):=S18.out.trans S_;have G33:Hid (GP w29 PB):=G19.out.st S_
   have B34:Hid (Bx w29 PB v30 (w.heap.size) (slA x a1 a2 a3 a4 a5 c1 c2 c3 c4 c5) 79):=B20.out.st S_
   have L35:Hid (LsE En8 8 (fun b=>b<PB) w29 a1 x.items):=(L21.out).stp en8 S_;have L36:Hid (LsE En10 10 (fun b=>b<PB) w29 a2 x.sources):=(L22.out).stp en10 S_;have L37:Hid (SsS (fun b=>b<PB) w29 a3 x.wher.ks):=SsS.stp L23.out S_;have L38:Hid (SsS (fun b=>b<PB) w29 a4 x.having.ks):=SsS.stp L24.out S_;have L39:Hid (LsE En7 7 (fun b=>b<PB) w29 a5 x.group):=(L25.out).stp en7 S_;clear con28 P_ S_ f27 P17 S18 G19 B20 L21 L22 L23 L24 L25;go_wp2_with fail
   go_meet
   case rel=>exact ⟨v30,by show PrAt _ _ _ _; rw [ei]; exact P31.out,S32,G33,B34,L35,L36,L37,L38,L39⟩
  ·have ei:itsW x = [⟨#[42]⟩]:=by unfold itsW; rw [hs]; rfl
   rw [ei] at Hb
   skip
   have con40:Calls Tryz.prog 57 #[.pointer (some ⟨PB,0,none⟩),.slice (some ⟨w15.heap.size,0,none⟩) 1 1] (w15.alloc (.cells #[.string ⟨#[42]⟩] 9)) (PEnds w15 PB v16 (sayL (sayL bs ([⟨#[115,101,108,101,99,116]⟩] ++ ifW x.distinct ⟨#[100,105,115,116,105,110,99,116]⟩)) ([⟨#[42]⟩]))):=say_new [⟨#[42]⟩] P17.out (by rw [← sayL_app]; exact lea (lea (lea (lea (lea (Hb.out)))))) (by simp);go_wp2_with fail
   refine con40.mono ?_;rintro e w41 ⟨rfl,v42,P_,S_⟩;have P43:Hid (PrAt w41 PB v42 (sayL bs ([⟨#[115,101,108,101,99,116]⟩] ++ ifW x.distinct ⟨#[100,105,115,116,105,110,99,116]⟩ ++ [⟨#[42]⟩]))):=by show PrAt _ _ _ _; rw [sayL_app]; exact P_
   have S44:Hid (St PB v w v42 w41):=S18.out.trans S_;have G45:Hid (GP w41 PB):=G19.out.st S_
   have B46:Hid (Bx w41 PB v42 (w.heap.size) (slA x a1 a2 a3 a4 a5 c1 c2 c3 c4 c5) 79):=B20.out.st S_
   have L47:Hid (LsE En8 8 (fun b=>b<PB) w41 a1 x.items):=(L21.out).stp en8 S_;have L48:Hid (LsE En10 10 (fun b=>b<PB) w41 a2 x.sources):=(L22.out).stp en10 S_;have L49:Hid (SsS (fun b=>b<PB) w41 a3 x.wher.ks):=SsS.stp L23.out S_;have L50:Hid (SsS (fun b=>b<PB) w41 a4 x.having.ks):=SsS.stp L24.out S_;have L51:Hid (LsE En7 7 (fun b=>b<PB) w41 a5 x.group):=(L25.out).stp en7 S_;clear con40 P_ S_  P17 S18 G19 B20 L21 L22 L23 L24 L25;go_wp2_with fail
   go_meet
   case rel=>exact ⟨v42,by show PrAt _ _ _ _; rw [ei]; exact P43.out,S44,G45,B46,L47,L48,L49,L50,L51⟩
 case rest=>as_aux_lemma =>
  obtain ⟨vc,Pc,Sc,Gc,Bc,Lc0,Lc1,Lc2,Lc3,Lc4⟩:=hcut;clear P17 S18 G19 B20 L21 L22 L23 L24 L25;have con52:Calls Tryz.prog 57 #[.pointer (some ⟨PB,0,none⟩),.slice (some ⟨wc.heap.size,0,none⟩) 1 1] (wc.alloc (.cells #[.string ⟨#[102,114,111,109]⟩] 9)) (PEnds wc PB vc (sayL (sayL bs ([⟨#[115,101,108,101,99,116]⟩] ++ ifW x.distinct ⟨#[100,105,115,116,105,110,99,116]⟩ ++ itsW x)) ([⟨#[102,114,111,109]⟩]))):=say_new [⟨#[102,114,111,109]⟩] Pc.out (by rw [← sayL_app]; exact lea (lea (lea (lea (Hb.out))))) (by simp);go_wp2_with fail
  refine con52.mono ?_;rintro e w53 ⟨rfl,v54,P_,S_⟩;have P55:Hid (PrAt w53 PB v54 (sayL bs ([⟨#[115,101,108,101,99,116]⟩] ++ ifW x.distinct ⟨#[100,105,115,116,105,110,99,116]⟩ ++ itsW x ++ [⟨#[102,114,111,109]⟩]))):=by show PrAt _ _ _ _; rw [sayL_app]; exact P_
  have S56:Hid (St PB v w v54 w53):=Sc.out.trans S_;have G57:Hid (GP w53 PB):=Gc.out.st S_
  have B58:Hid (Bx w53 PB v54 (w.heap.size) (slA x a1 a2 a3 a4 a5 c1 c2 c3 c4 c5) 79):=Bc.out.st S_
  have L59:Hid (LsE En8 8 (fun b=>b<PB) w53 a1 x.items):=(Lc0.out).stp en8 S_;have L60:Hid (LsE En10 10 (fun b=>b<PB) w53 a2 x.sources):=(Lc1.out).stp en10 S_;have L61:Hid (SsS (fun b=>b<PB) w53 a3 x.wher.ks):=SsS.stp Lc2.out S_;have L62:Hid (SsS (fun b=>b<PB) w53 a4 x.having.ks):=SsS.stp Lc3.out S_;have L63:Hid (LsE En7 7 (fun b=>b<PB) w53 a5 x.group):=(Lc4.out).stp en7 S_;clear con52 P_ S_  Pc Sc Gc Bc Lc0 Lc1 Lc2 Lc3 Lc4;have f64:w53.cell? ⟨w.heap.size,3,none⟩=some (.slice a2 x.sources.length c2):=B58.out.c 3 rfl
  have HB:Hid (∀ j,j<x.sources.length→(sayL bs ([⟨#[115,101,108,101,99,116]⟩] ++ ifW x.distinct ⟨#[100,105,115,116,105,110,99,116]⟩ ++ itsW x ++ [⟨#[102,114,111,109]⟩] ++ srcA x.sources (j+1))).length≤Lim):=fun j hj=>by
   have h:=lea (lea (lea Hb.out));rw [sayL_app] at h ⊢;exact Nat.le_trans (srcA_le _ x.sources (j+1) x.sources.length hj) h
  go_wp2_with fail
  clear f64;go_loopw [30] (fun i wr=>∃ (j:Nat) (v':Value),j≤x.sources.length∧i = .int .i64 j∧Hid (PrAt wr PB v' (sayL bs ([⟨#[115,101,108,101,99,116]⟩] ++ ifW x.distinct ⟨#[100,105,115,116,105,110,99,116]⟩ ++ itsW x ++ [⟨#[102,114,111,109]⟩] ++ srcA x.sources j)))∧Hid (St PB v54 w53 v' wr)) (fun i _=>x.sources.length - (RowKit.intOf i).toNat)
  case atStart=>exact ⟨0,v54,Nat.zero_le _,rfl,by show PrAt _ _ _ _; rw [srcA,List.append_nil]; exact P55.out,St.refl _ _ _⟩
  case round =>
   obtain ⟨j,v1,hj,rfl,hP1,hS1⟩:=hrel;have hG1:Hid (GP wr PB):=G57.out.st hS1.out;by_cases hlt:j<x.sources.length
   ·as_aux_lemma =>
     have hBj:=HB.out j hlt;have hoj:=fun h=>HO.out.sources.2 j hlt h
     obtain ⟨b1,o1,_,rfl,t1,ai,ci,rfl,kk⟩:=(L60.out.stp en10 hS1.out).get hlt;have hsj:=srcA_at x.sources j hlt;rw [hsj,← List.append_assoc] at hBj;have hjz:(j:Int)<(x.sources.length:Int):=by omega
     generalize x.sources[j]=y at *;have Hb2:Hid _:=hBj;have HSJ:Hid (srcA x.sources (j+1)=_):=hsj;have HOJ:Hid (0<j→OkX y.on):=hoj;have KK:Hid (SsS (fun b=>b<PB) wr ai y.on.ks):=kk;clear hBj hsj hoj kk Hb;have z0:wr.cell? ⟨b1,o1+j*10,none⟩=some (.int .i64 y.kind):=t1.2 0 _ rfl;have z1:wr.cell? ⟨b1,o1+j*10+1,none⟩=some (.string y.name):=t1.2 1 _ rfl;have z2:wr.cell? ⟨b1,o1+j*10+2,none⟩=some (.string y.alias):=t1.2 2 _ rfl;have z3:wr.cell? ⟨b1,o1+j*10+3,none⟩=some (.int .i64 y.on.k):=t1.2 3 _ rfl;have z4:wr.cell? ⟨b1,o1+j*10+4,none⟩=some (.int .i64 y.on.v.1):=t1.2 4 _ rfl
     have z5:wr.cell? ⟨b1,o1+j*10+5,none⟩=some (.int .i64 y.on.v.2.1):=t1.2 5 _ rfl;have z6:wr.cell? ⟨b1,o1+j*10+6,none⟩=some (.string y.on.v.2.2):=t1.2 6 _ rfl;have z7:wr.cell? ⟨b1,o1+j*10+7,none⟩=some (.string y.on.tab):=t1.2 7 _ rfl;have z8:wr.cell? ⟨b1,o1+j*10+8,none⟩=some (.string y.on.name):=t1.2 8 _ rfl;have z9:wr.cell? ⟨b1,o1+j*10+9,none⟩=some (.slice ai y.on.ks.length ci):=t1.2 9 _ rfl;clear t1
     have hal:Below wr.heap.size wr (wr.alloc (.cells #[.int .i64 y.kind,.string y.name,.string y.alias,.int .i64 y.on.k,.int .i64 y.on.v.1,.int .i64 y.on.v.2.1,.string y.on.v.2.2,.string y.on.tab,.string y.on.name,.slice ai y.on.ks.length ci] 105)):=(Below.refl _ _).alloc (Nat.le_refl _) _;go_upto_region 10 with fail
     have B0:Hid (Bx (wr.alloc (.cells #[.int .i64 y.kind,.string y.name,.string y.alias,.int .i64 y.on.k,.int .i64 y.on.v.1,.int .i64 y.on.v.2.1,.string y.on.v.2.2,.string y.on.tab,.string y.on.name,.slice ai y.on.ks.length ci] 105)) PB v1 wr.heap.size #[.int .i64 y.kind,.string y.name,.string y.alias,.int .i64 y.on.k,.int .i64 y.on.v.1,.int .i64 y.on.v.2.1,.string y.on.v.2.2,.string y.on.tab,.string y.on.name,.slice ai y.on.ks.length ci] 105):=Bx.new hP1.out #[.int .i64 y.kind,.string y.name,.string y.alias,.int .i64 y.on.k,.int .i64 y.on.v.1,.int .i64 y.on.v.2.1,.string y.on.v.2.2,.string y.on.tab,.string y.on.name,.slice ai y.on.ks.length ci] 105
     have P0:Hid (PrAt (wr.alloc (.cells #[.int .i64 y.kind,.string y.name,.string y.alias,.int .i64 y.on.k,.int .i64 y.on.v.1,.int .i64 y.on.v.2.1,.string y.on.v.2.2,.string y.on.tab,.string y.on.name,.slice ai y.on.ks.length ci] 105)) PB v1 (sayL bs ([⟨#[115,101,108,101,99,116]⟩] ++ ifW x.distinct ⟨#[100,105,115,116,105,110,99,116]⟩ ++ itsW x ++ [⟨#[102,114,111,109]⟩] ++ srcA x.sources j))):=hP1.out.next hal
     have S0:Hid (St PB v54 w53 v1 (wr.alloc (.cells #[.int .i64 y.kind,.string y.name,.string y.alias,.int .i64 y.on.k,.int .i64 y.on.v.1,.int .i64 y.on.v.2.1,.string y.on.v.2.2,.string y.on.tab,.string y.on.name,.slice ai y.on.ks.length ci] 105))):=hS1.out.trans (St.of hal hP1.out.lt);have G0:Hid (GP (wr.alloc (.cells #[.int .i64 y.kind,.string y.name,.string y.alias,.int .i64 y.on.k,.int .i64 y.on.v.1,.int .i64 y.on.v.2.1,.string y.on.v.2.2,.string y.on.tab,.string y.on.name,.slice ai y.on.ks.length ci] 105)) PB):=hG1.out.nx hal hP1.out.lt
     have L00:Hid (SsS (fun b=>b<PB) (wr.alloc (.cells #[.int .i64 y.kind,.string y.name,.string y.alias,.int .i64 y.on.k,.int .i64 y.on.v.1,.int .i64 y.on.v.2.1,.string y.on.v.2.2,.string y.on.tab,.string y.on.name,.slice ai y.on.ks.length ci] 105)) ai y.on.ks):=SsS.next hal KK.out;clear hP1 hS1 hG1 hal KK z0 z1 z2 z3 z4 z5 z6 z7 z8 z9;generalize (wr.alloc (.cells #[.int .i64 y.kind,.string y.name,.string y.alias,.int .i64 y.on.k,.int .i64 y.on.v.1,.int .i64 y.on.v.2.1,.string y.on.v.2.2,.string y.on.tab,.string y.on.name,.slice ai y.on.ks.length ci] 105))=w00 at *;by_cases hj0:j=0
     ·subst hj0;rw [show ((0:Nat) == 0)=true from rfl] at Hb2 HSJ;have q0:w00.cell? ⟨wr.heap.size,0,none⟩=some (.int .i64 y.kind):=B0.out.c 0 rfl;have q1:w00.cell? ⟨wr.heap.size,1,none⟩=some (.string y.name):=B0.out.c 1 rfl;have q2:w00.cell? ⟨wr.heap.size,2,none⟩=some (.string y.alias):=B0.out.c 2 rfl;have q3:w00.cell? ⟨wr.heap.size,3,none⟩=some (.int .i64 y.on.k):=B0.out.c 3 rfl;have q4:w00.cell? ⟨wr.heap.size,4,none⟩=some (.int .i64 y.on.v.1):=B0.out.c 4 rfl;have q5:w00.cell? ⟨wr.heap.size,5,none⟩=some (.int .i64 y.on.v.2.1):=B0.out.c 5 rfl
      have q6:w00.cell? ⟨wr.heap.size,6,none⟩=some (.string y.on.v.2.2):=B0.out.c 6 rfl;have q7:w00.cell? ⟨wr.heap.size,7,none⟩=some (.string y.on.tab):=B0.out.c 7 rfl;have q8:w00.cell? ⟨wr.heap.size,8,none⟩=some (.string y.on.name):=B0.out.c 8 rfl;have q9:w00.cell? ⟨wr.heap.size,9,none⟩=some (.slice ai y.on.ks.length ci):=B0.out.c 9 rfl
      have con:Calls Tryz.prog 119 #[.pointer (some ⟨PB,0,none⟩),.agg #[.int .i64 y.kind,.string y.name,.string y.alias,.int .i64 y.on.k,.int .i64 y.on.v.1,.int .i64 y.on.v.2.1,.string y.on.v.2.2,.string y.on.tab,.string y.on.name,.slice ai y.on.ks.length ci],.bool true] w00 (PEnds w00 PB v1 (sayL (sayL bs ([⟨#[115,101,108,101,99,116]⟩] ++ ifW x.distinct ⟨#[100,105,115,116,105,110,99,116]⟩ ++ itsW x ++ [⟨#[102,114,111,109]⟩] ++ srcA x.sources 0)) (srcW true y))):=source1_at y ai ci G0.out P0.out L00.out (by rw [← sayL_app]; exact Hb2.out);go_wp2_with fail
      refine con.mono ?_;rintro e wX ⟨rfl,vX,PX,SX_⟩;have PZ:Hid (PrAt wX PB vX (sayL bs ([⟨#[115,101,108,101,99,116]⟩] ++ ifW x.distinct ⟨#[100,105,115,116,105,110,99,116]⟩ ++ itsW x ++ [⟨#[102,114,111,109]⟩] ++ srcA x.sources (0+1)))):=by show PrAt _ _ _ _; rw [HSJ.out,← List.append_assoc,sayL_app]; exact PX
      have SZ:Hid (St PB v54 w53 vX wX):=S0.out.trans SX_;clear con PX SX_ P0 S0 q0 q1 q2 q3 q4 q5 q6 q7 q8 q9;go_wp2_with fail
      go_roundw
      case rel=>exact ⟨0+1,vX,by omega,by go_num,PZ,SZ⟩
      case measure=>simp [RowKit.intOf]; omega
     ·have hz1:((j:Int) == 0)=false:=by rw [beq_eq_false_iff_ne]; omega
      have hz2:(j == 0)=false:=by rw [beq_eq_false_iff_ne]; omega
      have HO2:=HOJ.out (by omega);rw [hz2] at Hb2 HSJ;have q0:w00.cell? ⟨wr.heap.size,0,none⟩=some (.int .i64 y.kind):=B0.out.c 0 rfl;have q1:w00.cell? ⟨wr.heap.size,1,none⟩=some (.string y.name):=B0.out.c 1 rfl;have q2:w00.cell? ⟨wr.heap.size,2,none⟩=some (.string y.alias):=B0.out.c 2 rfl;have q3:w00.cell? ⟨wr.heap.size,3,none⟩=some (.int .i64 y.on.k):=B0.out.c 3 rfl;have q4:w00.cell? ⟨wr.heap.size,4,none⟩=some (.int .i64 y.on.v.1):=B0.out.c 4 rfl;have q5:w00.cell? ⟨wr.heap.size,5,none⟩=some (.int .i64 y.on.v.2.1):=B0.out.c 5 rfl
      have q6:w00.cell? ⟨wr.heap.size,6,none⟩=some (.string y.on.v.2.2):=B0.out.c 6 rfl;have q7:w00.cell? ⟨wr.heap.size,7,none⟩=some (.string y.on.tab):=B0.out.c 7 rfl;have q8:w00.cell? ⟨wr.heap.size,8,none⟩=some (.string y.on.name):=B0.out.c 8 rfl;have q9:w00.cell? ⟨wr.heap.size,9,none⟩=some (.slice ai y.on.ks.length ci):=B0.out.c 9 rfl
      have con:Calls Tryz.prog 119 #[.pointer (some ⟨PB,0,none⟩),.agg #[.int .i64 y.kind,.string y.name,.string y.alias,.int .i64 y.on.k,.int .i64 y.on.v.1,.int .i64 y.on.v.2.1,.string y.on.v.2.2,.string y.on.tab,.string y.on.name,.slice ai y.on.ks.length ci],.bool false] w00 (PEnds w00 PB v1 (sayL (sayL bs ([⟨#[115,101,108,101,99,116]⟩] ++ ifW x.distinct ⟨#[100,105,115,116,105,110,99,116]⟩ ++ itsW x ++ [⟨#[102,114,111,109]⟩] ++ srcA x.sources j)) (srcW false y))):=source2_at y HO2 ai ci G0.out P0.out L00.out (by rw [← sayL_app]; exact Hb2.out);go_wp2_with fail
      refine con.mono ?_;rintro e wX ⟨rfl,vX,PX,SX_⟩;have PZ:Hid (PrAt wX PB vX (sayL bs ([⟨#[115,101,108,101,99,116]⟩] ++ ifW x.distinct ⟨#[100,105,115,116,105,110,99,116]⟩ ++ itsW x ++ [⟨#[102,114,111,109]⟩] ++ srcA x.sources (j+1)))):=by show PrAt _ _ _ _; rw [HSJ.out,← List.append_assoc,sayL_app]; exact PX
      have SZ:Hid (St PB v54 w53 vX wX):=S0.out.trans SX_;clear con PX SX_ P0 S0 q0 q1 q2 q3 q4 q5 q6 q7 q8 q9;go_wp2_with fail
      go_roundw
      case rel=>exact ⟨j+1,vX,by omega,by go_num,PZ,SZ⟩
      case measure=>simp [RowKit.intOf]; omega
   ·as_aux_lemma =>
     have ej:j=x.sources.length:=by omega
     subst ej;have Se:Hid (St PB v w v1 wr):=S56.out.trans hS1.out
     have Be:Hid (Bx wr PB v1 (w.heap.size) (slA x a1 a2 a3 a4 a5 c1 c2 c3 c4 c5) 79):=B58.out.st hS1.out
     have Le2:Hid (SsS (fun b=>b<PB) wr a3 x.wher.ks):=SsS.stp L61.out hS1.out;have Le3:Hid (SsS (fun b=>b<PB) wr a4 x.having.ks):=SsS.stp L62.out hS1.out;have Le4:Hid (LsE En7 7 (fun b=>b<PB) wr a5 x.group):=(L63.out).stp en7 hS1.out;clear hS1 HB P55 S56 G57 B58 L59 L60 L61 L62 L63;have f65:wr.cell? ⟨w.heap.size,4,none⟩=some (.bool x.hasWhere):=Be.out.c 4 rfl;have f66:wr.cell? ⟨w.heap.size,6,none⟩=some (.int .i64 x.wher.k):=Be.out.c 6 rfl;have f67:wr.cell? ⟨w.heap.size,7,none⟩=some (.int .i64 x.wher.v.1):=Be.out.c 7 rfl
     have f68:wr.cell? ⟨w.heap.size,8,none⟩=some (.int .i64 x.wher.v.2.1):=Be.out.c 8 rfl;have f69:wr.cell? ⟨w.heap.size,9,none⟩=some (.string x.wher.v.2.2):=Be.out.c 9 rfl;have f70:wr.cell? ⟨w.heap.size,10,none⟩=some (.string x.wher.tab):=Be.out.c 10 rfl;have f71:wr.cell? ⟨w.heap.size,11,none⟩=some (.string x.wher.name):=Be.out.c 11 rfl;have f72:wr.cell? ⟨w.heap.size,12,none⟩=some (.slice a3 x.wher.ks.length c3):=Be.out.c 12 rfl
     have con73:Calls Tryz.prog 63 #[.pointer (some ⟨PB,0,none⟩),.string ⟨#[119,104,101,114,101]⟩,.bool x.hasWhere,.agg (sxA x.wher a3 c3)] wr (PEnds wr PB v1 (sayL (sayL bs ([⟨#[115,101,108,101,99,116]⟩] ++ ifW x.distinct ⟨#[100,105,115,116,105,110,99,116]⟩ ++ itsW x ++ [⟨#[102,114,111,109]⟩] ++ srcA x.sources x.sources.length)) (behX ⟨#[119,104,101,114,101]⟩ x.hasWhere x.wher))):=exprBehind2_at ⟨#[119,104,101,114,101]⟩ x.hasWhere x.wher HO.out.wher a3 c3 (hG1.out) (hP1.out) Le2.out (by rw [← sayL_app]; exact lea (lea (Hb.out)));go_wp2_with fail
     refine con73.mono ?_;rintro e w74 ⟨rfl,v75,P_,S_⟩;have P76:Hid (PrAt w74 PB v75 (sayL bs ([⟨#[115,101,108,101,99,116]⟩] ++ ifW x.distinct ⟨#[100,105,115,116,105,110,99,116]⟩ ++ itsW x ++ [⟨#[102,114,111,109]⟩] ++ srcA x.sources x.sources.length ++ behX ⟨#[119,104,101,114,101]⟩ x.hasWhere x.wher))):=by show PrAt _ _ _ _; rw [sayL_app]; exact P_
     have S77:Hid (St PB v w v75 w74):=Se.out.trans S_;have G78:Hid (GP w74 PB):=hG1.out.st S_
     have B79:Hid (Bx w74 PB v75 (w.heap.size) (slA x a1 a2 a3 a4 a5 c1 c2 c3 c4 c5) 79):=Be.out.st S_
     have L80:Hid (SsS (fun b=>b<PB) w74 a3 x.wher.ks):=SsS.stp Le2.out S_;have L81:Hid (SsS (fun b=>b<PB) w74 a4 x.having.ks):=SsS.stp Le3.out S_;have L82:Hid (LsE En7 7 (fun b=>b<PB) w74 a5 x.group):=(Le4.out).stp en7 S_;clear con73 P_ S_ f65 f66 f67 f68 f69 f70 f71 f72 hP1 Se hG1 Be Le2 Le3 Le4;by_cases hg:x.group.length=0
     ·have eg:grpW x.group = []:=by unfold grpW; rw [if_pos hg]
      have HEG:Hid _:=eg;rw [eg] at Hb;clear eg;have hz:¬ (0:Int)<(x.group.length:Int):=by omega
      have P76x:Hid (PrAt w74 PB v75 (sayL bs ([⟨#[115,101,108,101,99,116]⟩] ++ ifW x.distinct ⟨#[100,105,115,116,105,110,99,116]⟩ ++ itsW x ++ [⟨#[102,114,111,109]⟩] ++ srcA x.sources x.sources.length ++ behX ⟨#[119,104,101,114,101]⟩ x.hasWhere x.wher ++ []))):=by show PrAt _ _ _ _; rw [List.append_nil]; exact P76.out
      have f83:w74.cell? ⟨w.heap.size,20,none⟩=some (.slice a5 x.group.length c5):=B79.out.c 20 rfl;clear hg;have f84:w74.cell? ⟨w.heap.size,5,none⟩=some (.bool x.hasHaving):=B79.out.c 5 rfl;have f85:w74.cell? ⟨w.heap.size,13,none⟩=some (.int .i64 x.having.k):=B79.out.c 13 rfl;have f86:w74.cell? ⟨w.heap.size,14,none⟩=some (.int .i64 x.having.v.1):=B79.out.c 14 rfl;have f87:w74.cell? ⟨w.heap.size,15,none⟩=some (.int .i64 x.having.v.2.1):=B79.out.c 15 rfl;have f88:w74.cell? ⟨w.heap.size,16,none⟩=some (.string x.having.v.2.2):=B79.out.c 16 rfl
      have f89:w74.cell? ⟨w.heap.size,17,none⟩=some (.string x.having.tab):=B79.out.c 17 rfl;have f90:w74.cell? ⟨w.heap.size,18,none⟩=some (.string x.having.name):=B79.out.c 18 rfl;have f91:w74.cell? ⟨w.heap.size,19,none⟩=some (.slice a4 x.having.ks.length c4):=B79.out.c 19 rfl
      have con92:Calls Tryz.prog 63 #[.pointer (some ⟨PB,0,none⟩),.string ⟨#[104,97,118,105,110,103]⟩,.bool x.hasHaving,.agg (sxA x.having a4 c4)] w74 (PEnds w74 PB v75 (sayL (sayL bs ([⟨#[115,101,108,101,99,116]⟩] ++ ifW x.distinct ⟨#[100,105,115,116,105,110,99,116]⟩ ++ itsW x ++ [⟨#[102,114,111,109]⟩] ++ srcA x.sources x.sources.length ++ behX ⟨#[119,104,101,114,101]⟩ x.hasWhere x.wher ++ [])) (behX ⟨#[104,97,118,105,110,103]⟩ x.hasHaving x.having))):=exprBehind2_at ⟨#[104,97,118,105,110,103]⟩ x.hasHaving x.having HO.out.having a4 c4 (G78.out) (P76x.out) L81.out (by rw [← sayL_app]; exact Hb.out)
      go_wp2_with fail
      refine con92.mono ?_;rintro e w93 ⟨rfl,v94,P_,S_⟩;have P95:Hid (PrAt w93 PB v94 (sayL bs ([⟨#[115,101,108,101,99,116]⟩] ++ ifW x.distinct ⟨#[100,105,115,116,105,110,99,116]⟩ ++ itsW x ++ [⟨#[102,114,111,109]⟩] ++ srcA x.sources x.sources.length ++ behX ⟨#[119,104,101,114,101]⟩ x.hasWhere x.wher ++ [] ++ behX ⟨#[104,97,118,105,110,103]⟩ x.hasHaving x.having))):=by show PrAt _ _ _ _; rw [sayL_app]; exact P_
      have S96:Hid (St PB v w v94 w93):=S77.out.trans S_;have G97:Hid (GP w93 PB):=G78.out.st S_
      have B98:Hid (Bx w93 PB v94 (w.heap.size) (slA x a1 a2 a3 a4 a5 c1 c2 c3 c4 c5) 79):=B79.out.st S_
      have L99:Hid (SsS (fun b=>b<PB) w93 a3 x.wher.ks):=SsS.stp L80.out S_;have L100:Hid (SsS (fun b=>b<PB) w93 a4 x.having.ks):=SsS.stp L81.out S_;have L101:Hid (LsE En7 7 (fun b=>b<PB) w93 a5 x.group):=(L82.out).stp en7 S_;clear con92 P_ S_ f84 f85 f86 f87 f88 f89 f90 f91 f83 P76x S77 G78 B79 L80 L81 L82;go_wp2_with fail
      go_end0
      exact ⟨rfl,v94,by rw [HEG.out]; exact P95.out,S96.out⟩
     ·have eg:grpW x.group = [⟨#[103,114,111,117,112]⟩,⟨#[98,121]⟩] ++ lisW exprW x.group:=by unfold grpW; rw [if_neg hg]
      have HEG:Hid _:=eg;rw [eg,← List.append_assoc] at Hb;clear eg;have hz:(0:Int)<(x.group.length:Int):=by omega
      clear hg;have f102:w74.cell? ⟨w.heap.size,20,none⟩=some (.slice a5 x.group.length c5):=B79.out.c 20 rfl
      have con103:Calls Tryz.prog 57 #[.pointer (some ⟨PB,0,none⟩),.slice (some ⟨w74.heap.size,0,none⟩) 2 2] (w74.alloc (.cells #[.string ⟨#[103,114,111,117,112]⟩,.string ⟨#[98,121]⟩] 9)) (PEnds w74 PB v75 (sayL (sayL bs ([⟨#[115,101,108,101,99,116]⟩] ++ ifW x.distinct ⟨#[100,105,115,116,105,110,99,116]⟩ ++ itsW x ++ [⟨#[102,114,111,109]⟩] ++ srcA x.sources x.sources.length ++ behX ⟨#[119,104,101,114,101]⟩ x.hasWhere x.wher)) ([⟨#[103,114,111,117,112]⟩,⟨#[98,121]⟩]))):=say_new [⟨#[103,114,111,117,112]⟩,⟨#[98,121]⟩] P76.out (by rw [← sayL_app]; exact lea (lea (Hb.out))) (by simp)
      go_wp2_with fail
      refine con103.mono ?_;rintro e w104 ⟨rfl,v105,P_,S_⟩;have P106:Hid (PrAt w104 PB v105 (sayL bs ([⟨#[115,101,108,101,99,116]⟩] ++ ifW x.distinct ⟨#[100,105,115,116,105,110,99,116]⟩ ++ itsW x ++ [⟨#[102,114,111,109]⟩] ++ srcA x.sources x.sources.length ++ behX ⟨#[119,104,101,114,101]⟩ x.hasWhere x.wher ++ [⟨#[103,114,111,117,112]⟩,⟨#[98,121]⟩]))):=by show PrAt _ _ _ _; rw [sayL_app]; exact P_
      have S107:Hid (St PB v w v105 w104):=S77.out.trans S_;have G108:Hid (GP w104 PB):=G78.out.st S_
      have B109:Hid (Bx w104 PB v105 (w.heap.size) (slA x a1 a2 a3 a4 a5 c1 c2 c3 c4 c5) 79):=B79.out.st S_
      have L110:Hid (SsS (fun b=>b<PB) w104 a3 x.wher.ks):=SsS.stp L80.out S_;have L111:Hid (SsS (fun b=>b<PB) w104 a4 x.having.ks):=SsS.stp L81.out S_;have L112:Hid (LsE En7 7 (fun b=>b<PB) w104 a5 x.group):=(L82.out).stp en7 S_;clear con103 P_ S_ f102 P76 S77 G78 B79 L80 L81 L82;have f113:w104.cell? ⟨w.heap.size,20,none⟩=some (.slice a5 x.group.length c5):=B109.out.c 20 rfl
      have con114:Calls Tryz.prog 91 #[.pointer (some ⟨PB,0,none⟩),.slice a5 x.group.length c5,.func (.func 92) #[.pointer (some ⟨PB,0,none⟩)] #[]] w104 (PEnds w104 PB v105 (sayL (sayL bs ([⟨#[115,101,108,101,99,116]⟩] ++ ifW x.distinct ⟨#[100,105,115,116,105,110,99,116]⟩ ++ itsW x ++ [⟨#[102,114,111,109]⟩] ++ srcA x.sources x.sources.length ++ behX ⟨#[119,104,101,114,101]⟩ x.hasWhere x.wher ++ [⟨#[103,114,111,117,112]⟩,⟨#[98,121]⟩])) (lisW exprW x.group))):=listedX_at x.group HO.out.group.1 HO.out.group.2 a5 c5 (G108.out) (P106.out) L112.out (by rw [← sayL_app]; exact lea (Hb.out))
      go_wp2_with fail
      refine con114.mono ?_;rintro e w115 ⟨rfl,v116,P_,S_⟩;have P117:Hid (PrAt w115 PB v116 (sayL bs ([⟨#[115,101,108,101,99,116]⟩] ++ ifW x.distinct ⟨#[100,105,115,116,105,110,99,116]⟩ ++ itsW x ++ [⟨#[102,114,111,109]⟩] ++ srcA x.sources x.sources.length ++ behX ⟨#[119,104,101,114,101]⟩ x.hasWhere x.wher ++ [⟨#[103,114,111,117,112]⟩,⟨#[98,121]⟩] ++ lisW exprW x.group))):=by show PrAt _ _ _ _; rw [sayL_app]; exact P_
      have S118:Hid (St PB v w v116 w115):=S107.out.trans S_;have G119:Hid (GP w115 PB):=G108.out.st S_
      have B120:Hid (Bx w115 PB v116 (w.heap.size) (slA x a1 a2 a3 a4 a5 c1 c2 c3 c4 c5) 79):=B109.out.st S_
      have L121:Hid (SsS (fun b=>b<PB) w115 a3 x.wher.ks):=SsS.stp L110.out S_;have L122:Hid (SsS (fun b=>b<PB) w115 a4 x.having.ks):=SsS.stp L111.out S_;have L123:Hid (LsE En7 7 (fun b=>b<PB) w115 a5 x.group):=(L112.out).stp en7 S_;clear con114 P_ S_ f113 P106 S107 G108 B109 L110 L111 L112;have f124:w115.cell? ⟨w.heap.size,5,none⟩=some (.bool x.hasHaving):=B120.out.c 5 rfl;have f125:w115.cell? ⟨w.heap.size,13,none⟩=some (.int .i64 x.having.k):=B120.out.c 13 rfl;have f126:w115.cell? ⟨w.heap.size,14,none⟩=some (.int .i64 x.having.v.1):=B120.out.c 14 rfl
      have f127:w115.cell? ⟨w.heap.size,15,none⟩=some (.int .i64 x.having.v.2.1):=B120.out.c 15 rfl;have f128:w115.cell? ⟨w.heap.size,16,none⟩=some (.string x.having.v.2.2):=B120.out.c 16 rfl;have f129:w115.cell? ⟨w.heap.size,17,none⟩=some (.string x.having.tab):=B120.out.c 17 rfl;have f130:w115.cell? ⟨w.heap.size,18,none⟩=some (.string x.having.name):=B120.out.c 18 rfl;have f131:w115.cell? ⟨w.heap.size,19,none⟩=some (.slice a4 x.having.ks.length c4):=B120.out.c 19 rfl
      have con132:Calls Tryz.prog 63 #[.pointer (some ⟨PB,0,none⟩),.string ⟨#[104,97,118,105,110,103]⟩,.bool x.hasHaving,.agg (sxA x.having a4 c4)] w115 (PEnds w115 PB v116 (sayL (sayL bs ([⟨#[115,101,108,101,99,116]⟩] ++ ifW x.distinct ⟨#[100,105,115,116,105,110,99,116]⟩ ++ itsW x ++ [⟨#[102,114,111,109]⟩] ++ srcA x.sources x.sources.length ++ behX ⟨#[119,104,101,114,101]⟩ x.hasWhere x.wher ++ [⟨#[103,114,111,117,112]⟩,⟨#[98,121]⟩] ++ lisW exprW x.group)) (behX ⟨#[104,97,118,105,110,103]⟩ x.hasHaving x.having))):=exprBehind2_at ⟨#[104,97,118,105,110,103]⟩ x.hasHaving x.having HO.out.having a4 c4 (G119.out) (P117.out) L122.out (by rw [← sayL_app]; exact Hb.out)
      go_wp2_with fail
      refine con132.mono ?_;rintro e w133 ⟨rfl,v134,P_,S_⟩;have P135:Hid (PrAt w133 PB v134 (sayL bs ([⟨#[115,101,108,101,99,116]⟩] ++ ifW x.distinct ⟨#[100,105,115,116,105,110,99,116]⟩ ++ itsW x ++ [⟨#[102,114,111,109]⟩] ++ srcA x.sources x.sources.length ++ behX ⟨#[119,104,101,114,101]⟩ x.hasWhere x.wher ++ [⟨#[103,114,111,117,112]⟩,⟨#[98,121]⟩] ++ lisW exprW x.group ++ behX ⟨#[104,97,118,105,110,103]⟩ x.hasHaving x.having))):=by show PrAt _ _ _ _; rw [sayL_app]; exact P_
      have S136:Hid (St PB v w v134 w133):=S118.out.trans S_;have G137:Hid (GP w133 PB):=G119.out.st S_
      have B138:Hid (Bx w133 PB v134 (w.heap.size) (slA x a1 a2 a3 a4 a5 c1 c2 c3 c4 c5) 79):=B120.out.st S_
      have L139:Hid (SsS (fun b=>b<PB) w133 a3 x.wher.ks):=SsS.stp L121.out S_;have L140:Hid (SsS (fun b=>b<PB) w133 a4 x.having.ks):=SsS.stp L122.out S_;have L141:Hid (LsE En7 7 (fun b=>b<PB) w133 a5 x.group):=(L123.out).stp en7 S_;clear con132 P_ S_ f124 f125 f126 f127 f128 f129 f130 f131 P117 S118 G119 B120 L121 L122 L123;go_wp2_with fail
      go_end0
      exact ⟨rfl,v134,by rw [HEG.out,← List.append_assoc]; exact P135.out,S136.out⟩

def prtA (l:List Sel) (ops:List Int):Nat→List ByteArray
 | 0=>[]
 | i+1=>prtA l ops i ++ (if i=0 then [] else betW (ops.getD (i - 1) 0)) ++ (match l[i]? with | some x=>selW x | none=>[])
theorem prtA_le (bs:List UInt8) (l:List Sel) (ops:List Int) (i:Nat):∀ n,i≤n→(sayL bs (prtA l ops i)).length≤(sayL bs (prtA l ops n)).length
 | 0,h=>by rw [Nat.le_zero.1 h]; exact Nat.le_refl _
 | n+1,h=>by
  by_cases e:i=n+1
  ·rw [e]; exact Nat.le_refl _
  ·refine Nat.le_trans (prtA_le bs l ops i n (by omega)) ?_
   rw [prtA,sayL_app,sayL_app]
   exact Nat.le_trans (sayL_len _ _) (sayL_len _ _)
theorem prtA_at (l:List Sel) (ops:List Int) (j:Nat) (h:j<l.length):prtA l ops (j+1)=prtA l ops j ++ (if j=0 then [] else betW (ops.getD (j - 1) 0)) ++ selW l[j]:=by rw [prtA,List.getElem?_eq_getElem h]
def ordW (q:Qry):List ByteArray:=if 0≤q.limit then [⟨#[111,114,100,101,114]⟩,⟨#[98,121]⟩] ++ lisW exprW q.order ++ [⟨#[108,105,109,105,116]⟩] ++ numW q.limit else []
def qryW (q:Qry):List ByteArray:=prtA q.parts q.ops q.parts.length ++ ordW q
structure OkQ (q:Qry):Prop where
 parts:q.parts.length≤1000∧∀ y ∈ q.parts,OkSel y
 ops:q.parts.length≤q.ops.length+1∧∀ y ∈ q.ops,1≤y∧y≤4
 order:0≤q.limit→q.order.length≤1000∧∀ y ∈ q.order,OkX y
 limit:q.limit≤1000000000000000
theorem query2_at (q:Qry) (ok:OkQ q) (p1 p2 p3:Option Addr) (d1 d2 d3:Nat) {PB:Nat} {v:Value} {bs:List UInt8} {w:World} (hG:GP w PB) (hP:PrAt w PB v bs) (k1:LsE En21 21 (fun b=>b<PB) w p1 q.parts) (k2:LsE EnI 1 (fun b=>b<PB) w p2 q.ops) (k3:LsE En7 7 (fun b=>b<PB) w p3 q.order) (hb:(sayL bs (qryW q)).length≤Lim):Calls Tryz.prog 60 #[.pointer (some ⟨PB,0,none⟩),.agg #[.slice p1 q.parts.length d1,.slice p2 q.ops.length d2,.slice p3 q.order.length d3,.int .i64 q.limit]] w (PEnds w PB v (sayL bs (qryW q))):=by
 rw [qryW] at hb ⊢;have hmf:∀ (fn:Fn) (first cap:Array Value) (w:World),(Instr.makeFunc fn first cap).run Tryz.prog w = .ok (.func fn first cap) w:=fun _ _ _ _=>rfl
 have HO:Hid (OkQ q):=ok;have np:=ok.parts.1;clear ok;have Hb:Hid _:=hb;clear hb;have hal:Below w.heap.size w (w.alloc (.cells #[.slice p1 q.parts.length d1,.slice p2 q.ops.length d2,.slice p3 q.order.length d3,.int .i64 q.limit] 50)):=(Below.refl _ _).alloc (Nat.le_refl _) _
 have B0:Hid (Bx (w.alloc (.cells #[.slice p1 q.parts.length d1,.slice p2 q.ops.length d2,.slice p3 q.order.length d3,.int .i64 q.limit] 50)) PB v w.heap.size #[.slice p1 q.parts.length d1,.slice p2 q.ops.length d2,.slice p3 q.order.length d3,.int .i64 q.limit] 50):=Bx.new hP #[.slice p1 q.parts.length d1,.slice p2 q.ops.length d2,.slice p3 q.order.length d3,.int .i64 q.limit] 50;have P0:Hid (PrAt (w.alloc (.cells #[.slice p1 q.parts.length d1,.slice p2 q.ops.length d2,.slice p3 q.order.length d3,.int .i64 q.limit] 50)) PB v bs):=hP.next hal
 have S0:Hid (St PB v w v (w.alloc (.cells #[.slice p1 q.parts.length d1,.slice p2 q.ops.length d2,.slice p3 q.order.length d3,.int .i64 q.limit] 50))):=St.of hal hP.lt;have G0:Hid (GP (w.alloc (.cells #[.slice p1 q.parts.length d1,.slice p2 q.ops.length d2,.slice p3 q.order.length d3,.int .i64 q.limit] 50)) PB):=hG.nx hal hP.lt;have L00:Hid (LsE En21 21 (fun b=>b<PB) (w.alloc (.cells #[.slice p1 q.parts.length d1,.slice p2 q.ops.length d2,.slice p3 q.order.length d3,.int .i64 q.limit] 50)) p1 q.parts):=(k1).nx en21 hal
 have L01:Hid (LsE EnI 1 (fun b=>b<PB) (w.alloc (.cells #[.slice p1 q.parts.length d1,.slice p2 q.ops.length d2,.slice p3 q.order.length d3,.int .i64 q.limit] 50)) p2 q.ops):=(k2).nx enI hal;have L02:Hid (LsE En7 7 (fun b=>b<PB) (w.alloc (.cells #[.slice p1 q.parts.length d1,.slice p2 q.ops.length d2,.slice p3 q.order.length d3,.int .i64 q.limit] 50)) p3 q.order):=(k3).nx en7 hal;clear hP hG hal k1 k2 k3;go_enter Tryz.func60,Tryz.ntmps60;go_upto_region 1 with fail
 generalize (w.alloc (.cells #[.slice p1 q.parts.length d1,.slice p2 q.ops.length d2,.slice p3 q.order.length d3,.int .i64 q.limit] 50))=w0 at *;have HB:Hid (∀ j,j<q.parts.length→(sayL bs (prtA q.parts q.ops (j+1))).length≤Lim):=fun j hj=>Nat.le_trans (prtA_le bs q.parts q.ops (j+1) q.parts.length hj) (lea Hb.out)
 have f1:w0.cell? ⟨w.heap.size,0,none⟩=some (.slice p1 q.parts.length d1):=B0.out.c 0 rfl;go_wp2_with fail
 clear f1;go_loopw [9] (fun i wr=>∃ (j:Nat) (v':Value),j≤q.parts.length∧i = .int .i64 j∧Hid (PrAt wr PB v' (sayL bs (prtA q.parts q.ops j)))∧Hid (St PB v w v' wr)∧Hid (GP wr PB)∧Hid (Bx wr PB v' (w.heap.size) #[.slice p1 q.parts.length d1,.slice p2 q.ops.length d2,.slice p3 q.order.length d3,.int .i64 q.limit] 50)∧Hid (LsE En21 21 (fun b=>b<PB) wr p1 q.parts)∧Hid (LsE EnI 1 (fun b=>b<PB) wr p2 q.ops)∧Hid (LsE En7 7 (fun b=>b<PB) wr p3 q.order)) (fun i _=>q.parts.length - (RowKit.intOf i).toNat)
 case atStart=>exact ⟨0,v,Nat.zero_le _,rfl,P0,S0,G0,B0,L00,L01,L02⟩
 case round =>
  clear P0 S0 G0 B0 L00 L01 L02;obtain ⟨j,v1,hj,rfl,hP1,hS1,hG1,hB1,K1,K2,K3⟩:=hrel;by_cases hlt:j<q.parts.length
  ·as_aux_lemma =>
    have hBj:=HB.out j hlt;have hoj:=HO.out.parts.2 _ (List.getElem_mem hlt);obtain ⟨b1,o1,_,rfl,t1,e1,kf1,e2,kf2,e3,kf3,e4,kf4,e5,kf5,rfl,m1,m2,m3,m4,m5⟩:=K1.out.get hlt;have hsj:=prtA_at q.parts q.ops j hlt;rw [hsj] at hBj;have hjz:(j:Int)<(q.parts.length:Int):=by omega
    generalize q.parts[j]=y at *;have HSJ:Hid (prtA q.parts q.ops (j+1)=_):=hsj;have HBJ:Hid _:=hBj;have HOJ:Hid (OkSel y):=hoj;have M1:Hid (LsE En8 8 (fun b=>b<PB) wr e1 y.items):=m1;have M2:Hid (LsE En10 10 (fun b=>b<PB) wr e2 y.sources):=m2;have M3:Hid (SsS (fun b=>b<PB) wr e3 y.wher.ks):=m3;have M4:Hid (SsS (fun b=>b<PB) wr e4 y.having.ks):=m4;have M5:Hid (LsE En7 7 (fun b=>b<PB) wr e5 y.group):=m5;clear hBj hsj hoj Hb m1 m2 m3 m4 m5
    have hrg:wr.rangeAt b1 (o1+j*21) [.bool y.distinct,.bool y.star,.slice e1 y.items.length kf1,.slice e2 y.sources.length kf2,.bool y.hasWhere,.bool y.hasHaving,.int .i64 y.wher.k,.int .i64 y.wher.v.1,.int .i64 y.wher.v.2.1,.string y.wher.v.2.2,.string y.wher.tab,.string y.wher.name,.slice e3 y.wher.ks.length kf3,.int .i64 y.having.k,.int .i64 y.having.v.1,.int .i64 y.having.v.2.1,.string y.having.v.2.2,.string y.having.tab,.string y.having.name,.slice e4 y.having.ks.length kf4,.slice e5 y.group.length kf5]:=fun i u hu=>t1.2 i u hu
    clear t1;have hal:Below wr.heap.size wr (wr.alloc (.cells (slA y e1 e2 e3 e4 e5 kf1 kf2 kf3 kf4 kf5) 79)):=(Below.refl _ _).alloc (Nat.le_refl _) _
    go_upto_region 4 with (first | (refine wpList_load_mid rfl 79 _ rfl b1 (o1+j*21) rfl (slA y e1 e2 e3 e4 e5 kf1 kf2 kf3 kf4 kf5).toList _ hrg Tryz.underlying79 rfl sz21 ?_) | (refine wpList_store_new rfl 79 _ _ rfl z21A (slA y e1 e2 e3 e4 e5 kf1 kf2 kf3 kf4 kf5) rfl rfl sz21 rfl (all1 rfl) ?_))
    have B0:Hid (Bx (wr.alloc (.cells (slA y e1 e2 e3 e4 e5 kf1 kf2 kf3 kf4 kf5) 79)) PB v1 wr.heap.size (slA y e1 e2 e3 e4 e5 kf1 kf2 kf3 kf4 kf5) 79):=Bx.new hP1.out (slA y e1 e2 e3 e4 e5 kf1 kf2 kf3 kf4 kf5) 79
    have B1:Hid (Bx (wr.alloc (.cells (slA y e1 e2 e3 e4 e5 kf1 kf2 kf3 kf4 kf5) 79)) PB v1 (w.heap.size) #[.slice (some ⟨b1,o1,none⟩) q.parts.length d1,.slice p2 q.ops.length d2,.slice p3 q.order.length d3,.int .i64 q.limit] 50):=hB1.out.nx hal
    have P0:Hid (PrAt (wr.alloc (.cells (slA y e1 e2 e3 e4 e5 kf1 kf2 kf3 kf4 kf5) 79)) PB v1 (sayL bs (prtA q.parts q.ops j))):=hP1.out.next hal
    have S0:Hid (St PB v w v1 (wr.alloc (.cells (slA y e1 e2 e3 e4 e5 kf1 kf2 kf3 kf4 kf5) 79))):=hS1.out.trans (St.of hal hP1.out.lt)
    have G0:Hid (GP (wr.alloc (.cells (slA y e1 e2 e3 e4 e5 kf1 kf2 kf3 kf4 kf5) 79)) PB):=hG1.out.nx hal hP1.out.lt
    have H0:Hid (LsE En21 21 (fun b=>b<PB) (wr.alloc (.cells (slA y e1 e2 e3 e4 e5 kf1 kf2 kf3 kf4 kf5) 79)) (some ⟨b1,o1,none⟩) q.parts):=K1.out.nx en21 hal
    have H1:Hid (LsE EnI 1 (fun b=>b<PB) (wr.alloc (.cells (slA y e1 e2 e3 e4 e5 kf1 kf2 kf3 kf4 kf5) 79)) p2 q.ops):=K2.out.nx enI hal
    have H2:Hid (LsE En7 7 (fun b=>b<PB) (wr.alloc (.cells (slA y e1 e2 e3 e4 e5 kf1 kf2 kf3 kf4 kf5) 79)) p3 q.order):=K3.out.nx en7 hal
    have N0:Hid (LsE En8 8 (fun b=>b<PB) (wr.alloc (.cells (slA y e1 e2 e3 e4 e5 kf1 kf2 kf3 kf4 kf5) 79)) e1 y.items):=(M1.out).nx en8 hal
    have N1:Hid (LsE En10 10 (fun b=>b<PB) (wr.alloc (.cells (slA y e1 e2 e3 e4 e5 kf1 kf2 kf3 kf4 kf5) 79)) e2 y.sources):=(M2.out).nx en10 hal
    have N2:Hid (SsS (fun b=>b<PB) (wr.alloc (.cells (slA y e1 e2 e3 e4 e5 kf1 kf2 kf3 kf4 kf5) 79)) e3 y.wher.ks):=SsS.next hal M3.out
    have N3:Hid (SsS (fun b=>b<PB) (wr.alloc (.cells (slA y e1 e2 e3 e4 e5 kf1 kf2 kf3 kf4 kf5) 79)) e4 y.having.ks):=SsS.next hal M4.out
    have N4:Hid (LsE En7 7 (fun b=>b<PB) (wr.alloc (.cells (slA y e1 e2 e3 e4 e5 kf1 kf2 kf3 kf4 kf5) 79)) e5 y.group):=(M5.out).nx en7 hal
    clear hP1 hS1 hG1 hB1 K1 K2 K3 hal M1 M2 M3 M4 M5 hrg;generalize (wr.alloc (.cells (slA y e1 e2 e3 e4 e5 kf1 kf2 kf3 kf4 kf5) 79))=w00 at *;by_cases hj0:j=0
    ·as_aux_lemma =>
      subst hj0;rw [if_pos rfl,List.append_nil] at HBJ HSJ;have Hb:Hid _:=HBJ.out
      have con2:Calls Tryz.prog 90 #[.pointer (some ⟨PB,0,none⟩),.agg (slA y e1 e2 e3 e4 e5 kf1 kf2 kf3 kf4 kf5)] w00 (PEnds w00 PB v1 (sayL (sayL bs (prtA q.parts q.ops 0)) (selW y))):=selected2_at y HOJ.out e1 e2 e3 e4 e5 kf1 kf2 kf3 kf4 kf5 (G0.out) (P0.out) N0.out N1.out N2.out N3.out N4.out (by rw [← sayL_app]; exact Hb.out)
      go_wp2_with (first | (refine wpList_load_row rfl 79 _ rfl wr.heap.size rfl 79 (slA y e1 e2 e3 e4 e5 kf1 kf2 kf3 kf4 kf5) (0,0) _ B0.out.q Tryz.underlying79 rfl sz21 ?_))
      refine con2.mono ?_;rintro e w3 ⟨rfl,v4,P_,S_⟩;have P5:Hid (PrAt w3 PB v4 (sayL bs (prtA q.parts q.ops 0 ++ selW y))):=by show PrAt _ _ _ _; rw [sayL_app]; exact P_
      have S6:Hid (St PB v w v4 w3):=S0.out.trans S_;have G7:Hid (GP w3 PB):=G0.out.st S_;have B8:Hid (Bx w3 PB v4 (w.heap.size) #[.slice (some ⟨b1,o1,none⟩) q.parts.length d1,.slice p2 q.ops.length d2,.slice p3 q.order.length d3,.int .i64 q.limit] 50):=B1.out.st S_
      have B9:Hid (Bx w3 PB v4 (wr.heap.size) (slA y e1 e2 e3 e4 e5 kf1 kf2 kf3 kf4 kf5) 79):=B0.out.st S_
      have L10:Hid (LsE En8 8 (fun b=>b<PB) w3 e1 y.items):=(N0.out).stp en8 S_;have L11:Hid (LsE En10 10 (fun b=>b<PB) w3 e2 y.sources):=(N1.out).stp en10 S_;have L12:Hid (SsS (fun b=>b<PB) w3 e3 y.wher.ks):=SsS.stp N2.out S_;have L13:Hid (SsS (fun b=>b<PB) w3 e4 y.having.ks):=SsS.stp N3.out S_;have L14:Hid (LsE En7 7 (fun b=>b<PB) w3 e5 y.group):=(N4.out).stp en7 S_;have L15:Hid (LsE En21 21 (fun b=>b<PB) w3 (some ⟨b1,o1,none⟩) q.parts):=(H0.out).stp en21 S_;have L16:Hid (LsE EnI 1 (fun b=>b<PB) w3 p2 q.ops):=(H1.out).stp enI S_
      have L17:Hid (LsE En7 7 (fun b=>b<PB) w3 p3 q.order):=(H2.out).stp en7 S_;clear con2 P_ S_  P0 S0 G0 B1 B0 N0 N1 N2 N3 N4 H0 H1 H2;have PZ:Hid (PrAt w3 PB v4 (sayL bs (prtA q.parts q.ops (0+1)))):=by show PrAt _ _ _ _; rw [HSJ.out]; exact P5.out
      clear P5;go_wp2_with fail
      go_roundw
      case rel=>exact ⟨0+1,v4,by omega,by go_num,PZ,S6,G7,B8,L15,L16,L17⟩
      case measure=>simp [RowKit.intOf]; omega
    ·as_aux_lemma =>
      obtain ⟨i,rfl⟩:∃ i,j=i+1:=⟨j - 1,by omega⟩
      have hop:i<q.ops.length:=by have:=HO.out.ops.1; omega
      obtain ⟨b2,o2,_,rfl,t2,rfl⟩:=H1.out.get hop;have e2x:q.ops.getD (i+1 - 1) 0=q.ops[i]:=by simp [List.getD,hop]
      have hob:=HO.out.ops.2 _ (List.getElem_mem hop);rw [if_neg (by omega),e2x] at HBJ HSJ;have y0:w00.cell? ⟨b2,o2+i,none⟩=some (.int .i64 q.ops[i]):=by have:=t2.2 0 _ rfl; simpa using this
      generalize q.ops[i]=op at *;have Hb:Hid _:=HBJ.out;have hiz:(i:Int)<(q.ops.length:Int):=by omega
      clear t2 e2x;have f18:w00.cell? ⟨w.heap.size,1,none⟩=some (.slice (some ⟨b2,o2,none⟩) q.ops.length d2):=B1.out.c 1 rfl;have con19:Calls Tryz.prog 89 #[.pointer (some ⟨PB,0,none⟩),.int .i64 op] w00 (PEnds w00 PB v1 (sayL (sayL bs (prtA q.parts q.ops (i+1))) (betW op))):=between2_at op hob.1 hob.2 (G0.out) (P0.out) (by rw [← sayL_app]; exact lea (Hb.out));go_wp2_with fail
      refine con19.mono ?_;rintro e w20 ⟨rfl,v21,P_,S_⟩;have P22:Hid (PrAt w20 PB v21 (sayL bs (prtA q.parts q.ops (i+1) ++ betW op))):=by show PrAt _ _ _ _; rw [sayL_app]; exact P_
      have S23:Hid (St PB v w v21 w20):=S0.out.trans S_;have G24:Hid (GP w20 PB):=G0.out.st S_;have B25:Hid (Bx w20 PB v21 (w.heap.size) #[.slice (some ⟨b1,o1,none⟩) q.parts.length d1,.slice (some ⟨b2,o2,none⟩) q.ops.length d2,.slice p3 q.order.length d3,.int .i64 q.limit] 50):=B1.out.st S_
      have B26:Hid (Bx w20 PB v21 (wr.heap.size) (slA y e1 e2 e3 e4 e5 kf1 kf2 kf3 kf4 kf5) 79):=B0.out.st S_
      have L27:Hid (LsE En8 8 (fun b=>b<PB) w20 e1 y.items):=(N0.out).stp en8 S_;have L28:Hid (LsE En10 10 (fun b=>b<PB) w20 e2 y.sources):=(N1.out).stp en10 S_;have L29:Hid (SsS (fun b=>b<PB) w20 e3 y.wher.ks):=SsS.stp N2.out S_;have L30:Hid (SsS (fun b=>b<PB) w20 e4 y.having.ks):=SsS.stp N3.out S_;have L31:Hid (LsE En7 7 (fun b=>b<PB) w20 e5 y.group):=(N4.out).stp en7 S_;have L32:Hid (LsE En21 21 (fun b=>b<PB) w20 (some ⟨b1,o1,none⟩) q.parts):=(H0.out).stp en21 S_;have L33:Hid (LsE EnI 1 (fun b=>b<PB) w20 (some ⟨b2,o2,none⟩) q.ops):=(H1.out).stp enI S_
      have L34:Hid (LsE En7 7 (fun b=>b<PB) w20 p3 q.order):=(H2.out).stp en7 S_;clear con19 P_ S_ f18 y0 P0 S0 G0 B1 B0 N0 N1 N2 N3 N4 H0 H1 H2
      have con35:Calls Tryz.prog 90 #[.pointer (some ⟨PB,0,none⟩),.agg (slA y e1 e2 e3 e4 e5 kf1 kf2 kf3 kf4 kf5)] w20 (PEnds w20 PB v21 (sayL (sayL bs (prtA q.parts q.ops (i+1) ++ betW op)) (selW y))):=selected2_at y HOJ.out e1 e2 e3 e4 e5 kf1 kf2 kf3 kf4 kf5 (G24.out) (P22.out) L27.out L28.out L29.out L30.out L31.out (by rw [← sayL_app]; exact Hb.out)
      go_wp2_with (first | (refine wpList_load_row rfl 79 _ rfl wr.heap.size rfl 79 (slA y e1 e2 e3 e4 e5 kf1 kf2 kf3 kf4 kf5) (0,0) _ B26.out.q Tryz.underlying79 rfl sz21 ?_))
      refine con35.mono ?_;rintro e w36 ⟨rfl,v37,P_,S_⟩;have P38:Hid (PrAt w36 PB v37 (sayL bs (prtA q.parts q.ops (i+1) ++ betW op ++ selW y))):=by show PrAt _ _ _ _; rw [sayL_app]; exact P_
      have S39:Hid (St PB v w v37 w36):=S23.out.trans S_;have G40:Hid (GP w36 PB):=G24.out.st S_;have B41:Hid (Bx w36 PB v37 (w.heap.size) #[.slice (some ⟨b1,o1,none⟩) q.parts.length d1,.slice (some ⟨b2,o2,none⟩) q.ops.length d2,.slice p3 q.order.length d3,.int .i64 q.limit] 50):=B25.out.st S_
      have B42:Hid (Bx w36 PB v37 (wr.heap.size) (slA y e1 e2 e3 e4 e5 kf1 kf2 kf3 kf4 kf5) 79):=B26.out.st S_
      have L43:Hid (LsE En8 8 (fun b=>b<PB) w36 e1 y.items):=(L27.out).stp en8 S_;have L44:Hid (LsE En10 10 (fun b=>b<PB) w36 e2 y.sources):=(L28.out).stp en10 S_;have L45:Hid (SsS (fun b=>b<PB) w36 e3 y.wher.ks):=SsS.stp L29.out S_;have L46:Hid (SsS (fun b=>b<PB) w36 e4 y.having.ks):=SsS.stp L30.out S_;have L47:Hid (LsE En7 7 (fun b=>b<PB) w36 e5 y.group):=(L31.out).stp en7 S_;have L48:Hid (LsE En21 21 (fun b=>b<PB) w36 (some ⟨b1,o1,none⟩) q.parts):=(L32.out).stp en21 S_;have L49:Hid (LsE EnI 1 (fun b=>b<PB) w36 (some ⟨b2,o2,none⟩) q.ops):=(L33.out).stp enI S_
      have L50:Hid (LsE En7 7 (fun b=>b<PB) w36 p3 q.order):=(L34.out).stp en7 S_;clear con35 P_ S_  P22 S23 G24 B25 B26 L27 L28 L29 L30 L31 L32 L33 L34;have PZ:Hid (PrAt w36 PB v37 (sayL bs (prtA q.parts q.ops ((i+1)+1)))):=by show PrAt _ _ _ _; rw [HSJ.out]; exact P38.out
      clear P38;go_wp2_with fail
      go_roundw
      case rel=>exact ⟨(i+1)+1,v37,by omega,by go_num,PZ,S39,G40,B41,L48,L49,L50⟩
      case measure=>simp [RowKit.intOf]; omega
  ·as_aux_lemma =>
    have ej:j=q.parts.length:=by omega
    subst ej;clear HB K1 K2;by_cases hl0:0≤q.limit
    ·have eo:ordW q = [⟨#[111,114,100,101,114]⟩,⟨#[98,121]⟩] ++ lisW exprW q.order ++ [⟨#[108,105,109,105,116]⟩] ++ numW q.limit:=by unfold ordW; rw [if_pos hl0]
     have HEO:Hid _:=eo;rw [eo] at Hb;clear eo;rw [← List.append_assoc,← List.append_assoc,← List.append_assoc] at Hb;have f51:wr.cell? ⟨w.heap.size,3,none⟩=some (.int .i64 q.limit):=hB1.out.c 3 rfl
     have con52:Calls Tryz.prog 57 #[.pointer (some ⟨PB,0,none⟩),.slice (some ⟨wr.heap.size,0,none⟩) 2 2] (wr.alloc (.cells #[.string ⟨#[111,114,100,101,114]⟩,.string ⟨#[98,121]⟩] 9)) (PEnds wr PB v1 (sayL (sayL bs (prtA q.parts q.ops q.parts.length)) ([⟨#[111,114,100,101,114]⟩,⟨#[98,121]⟩]))):=say_new [⟨#[111,114,100,101,114]⟩,⟨#[98,121]⟩] hP1.out (by rw [← sayL_app]; exact lea (lea (lea (Hb.out)))) (by simp);go_wp2_with fail
     refine con52.mono ?_;rintro e w53 ⟨rfl,v54,P_,S_⟩;have P55:Hid (PrAt w53 PB v54 (sayL bs (prtA q.parts q.ops q.parts.length ++ [⟨#[111,114,100,101,114]⟩,⟨#[98,121]⟩]))):=by show PrAt _ _ _ _; rw [sayL_app]; exact P_
     have S56:Hid (St PB v w v54 w53):=hS1.out.trans S_;have G57:Hid (GP w53 PB):=hG1.out.st S_;have B58:Hid (Bx w53 PB v54 (w.heap.size) #[.slice p1 q.parts.length d1,.slice p2 q.ops.length d2,.slice p3 q.order.length d3,.int .i64 q.limit] 50):=hB1.out.st S_;have L59:Hid (LsE En7 7 (fun b=>b<PB) w53 p3 q.order):=(K3.out).stp en7 S_;clear con52 P_ S_ f51 hP1 hS1 hG1 hB1 K3;have f60:w53.cell? ⟨w.heap.size,2,none⟩=some (.slice p3 q.order.length d3):=B58.out.c 2 rfl
     have con61:Calls Tryz.prog 91 #[.pointer (some ⟨PB,0,none⟩),.slice p3 q.order.length d3,.func (.func 92) #[.pointer (some ⟨PB,0,none⟩)] #[]] w53 (PEnds w53 PB v54 (sayL (sayL bs (prtA q.parts q.ops q.parts.length ++ [⟨#[111,114,100,101,114]⟩,⟨#[98,121]⟩])) (lisW exprW q.order))):=listedX_at q.order (HO.out.order hl0).1 (HO.out.order hl0).2 p3 d3 (G57.out) (P55.out) L59.out (by rw [← sayL_app]; exact lea (lea (Hb.out)));go_wp2_with fail
     refine con61.mono ?_;rintro e w62 ⟨rfl,v63,P_,S_⟩;have P64:Hid (PrAt w62 PB v63 (sayL bs (prtA q.parts q.ops q.parts.length ++ [⟨#[111,114,100,101,114]⟩,⟨#[98,121]⟩] ++ lisW exprW q.order))):=by show PrAt _ _ _ _; rw [sayL_app]; exact P_
     have S65:Hid (St PB v w v63 w62):=S56.out.trans S_;have G66:Hid (GP w62 PB):=G57.out.st S_;have B67:Hid (Bx w62 PB v63 (w.heap.size) #[.slice p1 q.parts.length d1,.slice p2 q.ops.length d2,.slice p3 q.order.length d3,.int .i64 q.limit] 50):=B58.out.st S_;have L68:Hid (LsE En7 7 (fun b=>b<PB) w62 p3 q.order):=(L59.out).stp en7 S_;clear con61 P_ S_ f60 P55 S56 G57 B58 L59
     have con69:Calls Tryz.prog 57 #[.pointer (some ⟨PB,0,none⟩),.slice (some ⟨w62.heap.size,0,none⟩) 1 1] (w62.alloc (.cells #[.string ⟨#[108,105,109,105,116]⟩] 9)) (PEnds w62 PB v63 (sayL (sayL bs (prtA q.parts q.ops q.parts.length ++ [⟨#[111,114,100,101,114]⟩,⟨#[98,121]⟩] ++ lisW exprW q.order)) ([⟨#[108,105,109,105,116]⟩]))):=say_new [⟨#[108,105,109,105,116]⟩] P64.out (by rw [← sayL_app]; exact lea (Hb.out)) (by simp);go_wp2_with fail
     refine con69.mono ?_;rintro e w70 ⟨rfl,v71,P_,S_⟩;have P72:Hid (PrAt w70 PB v71 (sayL bs (prtA q.parts q.ops q.parts.length ++ [⟨#[111,114,100,101,114]⟩,⟨#[98,121]⟩] ++ lisW exprW q.order ++ [⟨#[108,105,109,105,116]⟩]))):=by show PrAt _ _ _ _; rw [sayL_app]; exact P_
     have S73:Hid (St PB v w v71 w70):=S65.out.trans S_;have G74:Hid (GP w70 PB):=G66.out.st S_;have B75:Hid (Bx w70 PB v71 (w.heap.size) #[.slice p1 q.parts.length d1,.slice p2 q.ops.length d2,.slice p3 q.order.length d3,.int .i64 q.limit] 50):=B67.out.st S_;have L76:Hid (LsE En7 7 (fun b=>b<PB) w70 p3 q.order):=(L68.out).stp en7 S_;clear con69 P_ S_  P64 S65 G66 B67 L68;have f77:w70.cell? ⟨w.heap.size,3,none⟩=some (.int .i64 q.limit):=B75.out.c 3 rfl
     have con78:Calls Tryz.prog 93 #[.pointer (some ⟨PB,0,none⟩),.int .i64 q.limit] w70 (PEnds w70 PB v71 (sayL (sayL bs (prtA q.parts q.ops q.parts.length ++ [⟨#[111,114,100,101,114]⟩,⟨#[98,121]⟩] ++ lisW exprW q.order ++ [⟨#[108,105,109,105,116]⟩])) (numW q.limit))):=number2_at q.limit (G74.out) (P72.out) (by omega) HO.out.limit (by rw [← sayL_app]; exact Hb.out);go_wp2_with fail
     refine con78.mono ?_;rintro e w79 ⟨rfl,v80,P_,S_⟩;have P81:Hid (PrAt w79 PB v80 (sayL bs (prtA q.parts q.ops q.parts.length ++ [⟨#[111,114,100,101,114]⟩,⟨#[98,121]⟩] ++ lisW exprW q.order ++ [⟨#[108,105,109,105,116]⟩] ++ numW q.limit))):=by show PrAt _ _ _ _; rw [sayL_app]; exact P_
     have S82:Hid (St PB v w v80 w79):=S73.out.trans S_;have G83:Hid (GP w79 PB):=G74.out.st S_;have B84:Hid (Bx w79 PB v80 (w.heap.size) #[.slice p1 q.parts.length d1,.slice p2 q.ops.length d2,.slice p3 q.order.length d3,.int .i64 q.limit] 50):=B75.out.st S_;have L85:Hid (LsE En7 7 (fun b=>b<PB) w79 p3 q.order):=(L76.out).stp en7 S_;clear con78 P_ S_ f77 P72 S73 G74 B75 L76;go_wp2_with fail
     go_end0
     exact ⟨rfl,v80,by rw [HEO.out,← List.append_assoc,← List.append_assoc,← List.append_assoc]; exact P81.out,S82.out⟩
    ·have eo:ordW q = []:=by unfold ordW; rw [if_neg hl0]
     have HEO:Hid _:=eo;rw [eo] at Hb;clear eo;have f86:wr.cell? ⟨w.heap.size,3,none⟩=some (.int .i64 q.limit):=hB1.out.c 3 rfl;go_wp2_with fail
     go_end0
     exact ⟨rfl,v1,by rw [HEO.out,List.append_nil]; exact hP1.out,hS1.out⟩

def stmW (x:Stm):List ByteArray:=if x.kind=1 then [⟨#[99,114,101,97,116,101]⟩,⟨#[116,97,98,108,101]⟩,x.name,⟨#[40]⟩] ++ lisW colmW x.cols ++ [⟨#[41]⟩] ++ [⟨#[59]⟩] else if x.kind=2 then [⟨#[99,114,101,97,116,101]⟩,⟨#[118,105,101,119]⟩,x.name,⟨#[97,115]⟩] ++ qryW x.query ++ [⟨#[59]⟩] else if x.kind=3 then [⟨#[105,110,115,101,114,116]⟩,⟨#[105,110,116,111]⟩,x.name,⟨#[118,97,108,117,101,115]⟩] ++ lisW rowW x.rows ++ [⟨#[59]⟩] else if x.kind=4 then [⟨#[100,101,108,101,116,101]⟩,⟨#[102,114,111,109]⟩,x.name] ++ behX ⟨#[119,104,101,114,101]⟩ x.hasWhere x.wher ++ [⟨#[59]⟩] else if x.kind=5 then [⟨#[115,104,111,119]⟩] ++ qryW x.query ++ [⟨#[59]⟩] else []
structure OkSt (x:Stm):Prop where
 kind:1≤x.kind∧x.kind≤5
 cols:x.kind=1→x.cols.length≤1000
 query:x.kind=2∨x.kind=5→OkQ x.query
 rows:x.kind=3→x.rows.length≤1000∧∀ l ∈ x.rows,l.length≤1000∧∀ y ∈ l,ValOk y
 wher:x.kind=4→x.hasWhere=true→OkX x.wher
theorem stm_1 (x:Stm) (ok:x.cols.length≤1000) (a1 p1 p2 p3 a2 a3:Option Addr) (c1 d1 d2 d3 c2 c3:Nat) {PB:Nat} {v:Value} {bs:List UInt8} {w:World} (hG:GP w PB) (hP:PrAt w PB v bs) (k1:LsE En2 2 (fun b=>b<PB) w a1 x.cols) (hb:(sayL bs ([⟨#[99,114,101,97,116,101]⟩,⟨#[116,97,98,108,101]⟩,x.name,⟨#[40]⟩] ++ lisW colmW x.cols ++ [⟨#[41]⟩] ++ [⟨#[59]⟩])).length≤Lim):Calls Tryz.prog 32 #[.pointer (some ⟨PB,0,none⟩),.agg #[.int .i64 1,.string x.name,.slice a1 x.cols.length c1,.slice p1 x.query.parts.length d1,.slice p2 x.query.ops.length d2,.slice p3 x.query.order.length d3,.int .i64 x.query.limit,.slice a2 x.rows.length c2,.bool x.hasWhere,.int .i64 x.wher.k,.int .i64 x.wher.v.1,.int .i64 x.wher.v.2.1,.string x.wher.v.2.2,.string x.wher.tab,.string x.wher.name,.slice a3 x.wher.ks.length c3]] w (PEnds w PB v (sayL bs ([⟨#[99,114,101,97,116,101]⟩,⟨#[116,97,98,108,101]⟩,x.name,⟨#[40]⟩] ++ lisW colmW x.cols ++ [⟨#[41]⟩] ++ [⟨#[59]⟩]))):=by
 have hmf:∀ (fn:Fn) (first cap:Array Value) (w:World),(Instr.makeFunc fn first cap).run Tryz.prog w = .ok (.func fn first cap) w:=fun _ _ _ _=>rfl
 have HO:Hid (x.cols.length≤1000):=ok;clear ok;have Hb:Hid _:=hb;clear hb;have hal:Below w.heap.size w (w.alloc (.cells #[.int .i64 1,.string x.name,.slice a1 x.cols.length c1,.slice p1 x.query.parts.length d1,.slice p2 x.query.ops.length d2,.slice p3 x.query.order.length d3,.int .i64 x.query.limit,.slice a2 x.rows.length c2,.bool x.hasWhere,.int .i64 x.wher.k,.int .i64 x.wher.v.1,.int .i64 x.wher.v.2.1,.string x.wher.v.2.2,.string x.wher.tab,.string x.wher.name,.slice a3 x.wher.ks.length c3] 57)):=(Below.refl _ _).alloc (Nat.le_refl _) _
 have B0:Hid (Bx (w.alloc (.cells #[.int .i64 1,.string x.name,.slice a1 x.cols.length c1,.slice p1 x.query.parts.length d1,.slice p2 x.query.ops.length d2,.slice p3 x.query.order.length d3,.int .i64 x.query.limit,.slice a2 x.rows.length c2,.bool x.hasWhere,.int .i64 x.wher.k,.int .i64 x.wher.v.1,.int .i64 x.wher.v.2.1,.string x.wher.v.2.2,.string x.wher.tab,.string x.wher.name,.slice a3 x.wher.ks.length c3] 57)) PB v w.heap.size #[.int .i64 1,.string x.name,.slice a1 x.cols.length c1,.slice p1 x.query.parts.length d1,.slice p2 x.query.ops.length d2,.slice p3 x.query.order.length d3,.int .i64 x.query.limit,.slice a2 x.rows.length c2,.bool x.hasWhere,.int .i64 x.wher.k,.int .i64 x.wher.v.1,.int .i64 x.wher.v.2.1,.string x.wher.v.2.2,.string x.wher.tab,.string x.wher.name,.slice a3 x.wher.ks.length c3] 57):=Bx.new hP #[.int .i64 1,.string x.name,.slice a1 x.cols.length c1,.slice p1 x.query.parts.length d1,.slice p2 x.query.ops.length d2,.slice p3 x.query.order.length d3,.int .i64 x.query.limit,.slice a2 x.rows.length c2,.bool x.hasWhere,.int .i64 x.wher.k,.int .i64 x.wher.v.1,.int .i64 x.wher.v.2.1,.string x.wher.v.2.2,.string x.wher.tab,.string x.wher.name,.slice a3 x.wher.ks.length c3] 57
 have P0:Hid (PrAt (w.alloc (.cells #[.int .i64 1,.string x.name,.slice a1 x.cols.length c1,.slice p1 x.query.parts.length d1,.slice p2 x.query.ops.length d2,.slice p3 x.query.order.length d3,.int .i64 x.query.limit,.slice a2 x.rows.length c2,.bool x.hasWhere,.int .i64 x.wher.k,.int .i64 x.wher.v.1,.int .i64 x.wher.v.2.1,.string x.wher.v.2.2,.string x.wher.tab,.string x.wher.name,.slice a3 x.wher.ks.length c3] 57)) PB v bs):=hP.next hal
 have S0:Hid (St PB v w v (w.alloc (.cells #[.int .i64 1,.string x.name,.slice a1 x.cols.length c1,.slice p1 x.query.parts.length d1,.slice p2 x.query.ops.length d2,.slice p3 x.query.order.length d3,.int .i64 x.query.limit,.slice a2 x.rows.length c2,.bool x.hasWhere,.int .i64 x.wher.k,.int .i64 x.wher.v.1,.int .i64 x.wher.v.2.1,.string x.wher.v.2.2,.string x.wher.tab,.string x.wher.name,.slice a3 x.wher.ks.length c3] 57))):=St.of hal hP.lt
 have G0:Hid (GP (w.alloc (.cells #[.int .i64 1,.string x.name,.slice a1 x.cols.length c1,.slice p1 x.query.parts.length d1,.slice p2 x.query.ops.length d2,.slice p3 x.query.order.length d3,.int .i64 x.query.limit,.slice a2 x.rows.length c2,.bool x.hasWhere,.int .i64 x.wher.k,.int .i64 x.wher.v.1,.int .i64 x.wher.v.2.1,.string x.wher.v.2.2,.string x.wher.tab,.string x.wher.name,.slice a3 x.wher.ks.length c3] 57)) PB):=hG.nx hal hP.lt
 have L00:Hid (LsE En2 2 (fun b=>b<PB) (w.alloc (.cells #[.int .i64 1,.string x.name,.slice a1 x.cols.length c1,.slice p1 x.query.parts.length d1,.slice p2 x.query.ops.length d2,.slice p3 x.query.order.length d3,.int .i64 x.query.limit,.slice a2 x.rows.length c2,.bool x.hasWhere,.int .i64 x.wher.k,.int .i64 x.wher.v.1,.int .i64 x.wher.v.2.1,.string x.wher.v.2.2,.string x.wher.tab,.string x.wher.name,.slice a3 x.wher.ks.length c3] 57)) a1 x.cols):=(k1).nx en2 hal;clear hP hG hal k1;go_enter Tryz.func32,Tryz.ntmps32;go_upto_region 1 with fail
 generalize (w.alloc (.cells #[.int .i64 1,.string x.name,.slice a1 x.cols.length c1,.slice p1 x.query.parts.length d1,.slice p2 x.query.ops.length d2,.slice p3 x.query.order.length d3,.int .i64 x.query.limit,.slice a2 x.rows.length c2,.bool x.hasWhere,.int .i64 x.wher.k,.int .i64 x.wher.v.1,.int .i64 x.wher.v.2.1,.string x.wher.v.2.2,.string x.wher.tab,.string x.wher.name,.slice a3 x.wher.ks.length c3] 57))=w0 at *;have f1:w0.cell? ⟨w.heap.size,0,none⟩=some (.int .i64 1):=B0.out.c 0 rfl;have f2:w0.cell? ⟨w.heap.size,1,none⟩=some (.string x.name):=B0.out.c 1 rfl
 have con3:Calls Tryz.prog 57 #[.pointer (some ⟨PB,0,none⟩),.slice (some ⟨w0.heap.size,0,none⟩) 4 4] (w0.alloc (.cells #[.string ⟨#[99,114,101,97,116,101]⟩,.string ⟨#[116,97,98,108,101]⟩,.string x.name,.string ⟨#[40]⟩] 9)) (PEnds w0 PB v (sayL bs ([⟨#[99,114,101,97,116,101]⟩,⟨#[116,97,98,108,101]⟩,x.name,⟨#[40]⟩]))):=say_new [⟨#[99,114,101,97,116,101]⟩,⟨#[116,97,98,108,101]⟩,x.name,⟨#[40]⟩] P0.out (lea (lea (lea (Hb.out)))) (by simp);go_wp2_with fail
 refine con3.mono ?_;rintro e w4 ⟨rfl,v5,P_,S_⟩;have P6:Hid (PrAt w4 PB v5 (sayL bs ([⟨#[99,114,101,97,116,101]⟩,⟨#[116,97,98,108,101]⟩,x.name,⟨#[40]⟩]))):=P_;have S7:Hid (St PB v w v5 w4):=S0.out.trans S_;have G8:Hid (GP w4 PB):=G0.out.st S_
 have B9:Hid (Bx w4 PB v5 (w.heap.size) #[.int .i64 1,.string x.name,.slice a1 x.cols.length c1,.slice p1 x.query.parts.length d1,.slice p2 x.query.ops.length d2,.slice p3 x.query.order.length d3,.int .i64 x.query.limit,.slice a2 x.rows.length c2,.bool x.hasWhere,.int .i64 x.wher.k,.int .i64 x.wher.v.1,.int .i64 x.wher.v.2.1,.string x.wher.v.2.2,.string x.wher.tab,.string x.wher.name,.slice a3 x.wher.ks.length c3] 57):=B0.out.st S_;have L10:Hid (LsE En2 2 (fun b=>b<PB) w4 a1 x.cols):=(L00.out).stp en2 S_;clear con3 P_ S_ f1 f2 P0 S0 G0 B0 L00
 have f11:w4.cell? ⟨w.heap.size,2,none⟩=some (.slice a1 x.cols.length c1):=B9.out.c 2 rfl;have con12:Calls Tryz.prog 58 #[.pointer (some ⟨PB,0,none⟩),.slice a1 x.cols.length c1,.func (.func 59) #[.pointer (some ⟨PB,0,none⟩)] #[]] w4 (PEnds w4 PB v5 (sayL (sayL bs ([⟨#[99,114,101,97,116,101]⟩,⟨#[116,97,98,108,101]⟩,x.name,⟨#[40]⟩])) (lisW colmW x.cols))):=listedC_at x.cols HO.out (fun _ _=>trivial) a1 c1 (G8.out) (P6.out) L10.out (by rw [← sayL_app]; exact lea (lea (Hb.out)));go_wp2_with fail
 refine con12.mono ?_;rintro e w13 ⟨rfl,v14,P_,S_⟩;have P15:Hid (PrAt w13 PB v14 (sayL bs ([⟨#[99,114,101,97,116,101]⟩,⟨#[116,97,98,108,101]⟩,x.name,⟨#[40]⟩] ++ lisW colmW x.cols))):=by show PrAt _ _ _ _; rw [sayL_app]; exact P_
 have S16:Hid (St PB v w v14 w13):=S7.out.trans S_;have G17:Hid (GP w13 PB):=G8.out.st S_;have B18:Hid (Bx w13 PB v14 (w.heap.size) #[.int .i64 1,.string x.name,.slice a1 x.cols.length c1,.slice p1 x.query.parts.length d1,.slice p2 x.query.ops.length d2,.slice p3 x.query.order.length d3,.int .i64 x.query.limit,.slice a2 x.rows.length c2,.bool x.hasWhere,.int .i64 x.wher.k,.int .i64 x.wher.v.1,.int .i64 x.wher.v.2.1,.string x.wher.v.2.2,.string x.wher.tab,.string x.wher.name,.slice a3 x.wher.ks.length c3] 57):=B9.out.st S_
 have L19:Hid (LsE En2 2 (fun b=>b<PB) w13 a1 x.cols):=(L10.out).stp en2 S_;clear con12 P_ S_ f11 P6 S7 G8 B9 L10;have con20:Calls Tryz.prog 57 #[.pointer (some ⟨PB,0,none⟩),.slice (some ⟨w13.heap.size,0,none⟩) 1 1] (w13.alloc (.cells #[.string ⟨#[41]⟩] 9)) (PEnds w13 PB v14 (sayL (sayL bs ([⟨#[99,114,101,97,116,101]⟩,⟨#[116,97,98,108,101]⟩,x.name,⟨#[40]⟩] ++ lisW colmW x.cols)) ([⟨#[41]⟩]))):=say_new [⟨#[41]⟩] P15.out (by rw [← sayL_app]; exact lea (Hb.out)) (by simp);go_wp2_with fail
 refine con20.mono ?_;rintro e w21 ⟨rfl,v22,P_,S_⟩;have P23:Hid (PrAt w21 PB v22 (sayL bs ([⟨#[99,114,101,97,116,101]⟩,⟨#[116,97,98,108,101]⟩,x.name,⟨#[40]⟩] ++ lisW colmW x.cols ++ [⟨#[41]⟩]))):=by show PrAt _ _ _ _; rw [sayL_app]; exact P_
 have S24:Hid (St PB v w v22 w21):=S16.out.trans S_;have G25:Hid (GP w21 PB):=G17.out.st S_;have B26:Hid (Bx w21 PB v22 (w.heap.size) #[.int .i64 1,.string x.name,.slice a1 x.cols.length c1,.slice p1 x.query.parts.length d1,.slice p2 x.query.ops.length d2,.slice p3 x.query.order.length d3,.int .i64 x.query.limit,.slice a2 x.rows.length c2,.bool x.hasWhere,.int .i64 x.wher.k,.int .i64 x.wher.v.1,.int .i64 x.wher.v.2.1,.string x.wher.v.2.2,.string x.wher.tab,.string x.wher.name,.slice a3 x.wher.ks.length c3] 57):=B18.out.st S_
 have L27:Hid (LsE En2 2 (fun b=>b<PB) w21 a1 x.cols):=(L19.out).stp en2 S_;clear con20 P_ S_  P15 S16 G17 B18 L19;have con28:Calls Tryz.prog 57 #[.pointer (some ⟨PB,0,none⟩),.slice (some ⟨w21.heap.size,0,none⟩) 1 1] (w21.alloc (.cells #[.string ⟨#[59]⟩] 9)) (PEnds w21 PB v22 (sayL (sayL bs ([⟨#[99,114,101,97,116,101]⟩,⟨#[116,97,98,108,101]⟩,x.name,⟨#[40]⟩] ++ lisW colmW x.cols ++ [⟨#[41]⟩])) ([⟨#[59]⟩]))):=say_new [⟨#[59]⟩] P23.out (by rw [← sayL_app]; exact Hb.out) (by simp);go_wp2_with fail
 refine con28.mono ?_;rintro e w29 ⟨rfl,v30,P_,S_⟩;have P31:Hid (PrAt w29 PB v30 (sayL bs ([⟨#[99,114,101,97,116,101]⟩,⟨#[116,97,98,108,101]⟩,x.name,⟨#[40]⟩] ++ lisW colmW x.cols ++ [⟨#[41]⟩] ++ [⟨#[59]⟩]))):=by show PrAt _ _ _ _; rw [sayL_app]; exact P_
 have S32:Hid (St PB v w v30 w29):=S24.out.trans S_;have G33:Hid (GP w29 PB):=G25.out.st S_;have B34:Hid (Bx w29 PB v30 (w.heap.size) #[.int .i64 1,.string x.name,.slice a1 x.cols.length c1,.slice p1 x.query.parts.length d1,.slice p2 x.query.ops.length d2,.slice p3 x.query.order.length d3,.int .i64 x.query.limit,.slice a2 x.rows.length c2,.bool x.hasWhere,.int .i64 x.wher.k,.int .i64 x.wher.v.1,.int .i64 x.wher.v.2.1,.string x.wher.v.2.2,.string x.wher.tab,.string x.wher.name,.slice a3 x.wher.ks.length c3] 57):=B26.out.st S_
 have L35:Hid (LsE En2 2 (fun b=>b<PB) w29 a1 x.cols):=(L27.out).stp en2 S_;clear con28 P_ S_  P23 S24 G25 B26 L27;go_wp2_with fail
 go_end0
 exact ⟨rfl,v30,P31.out,S32.out⟩
theorem stm_2 (x:Stm) (ok:OkQ x.query) (a1 p1 p2 p3 a2 a3:Option Addr) (c1 d1 d2 d3 c2 c3:Nat) {PB:Nat} {v:Value} {bs:List UInt8} {w:World} (hG:GP w PB) (hP:PrAt w PB v bs) (k2:LsE En21 21 (fun b=>b<PB) w p1 x.query.parts) (k3:LsE EnI 1 (fun b=>b<PB) w p2 x.query.ops) (k4:LsE En7 7 (fun b=>b<PB) w p3 x.query.order) (hb:(sayL bs ([⟨#[99,114,101,97,116,101]⟩,⟨#[118,105,101,119]⟩,x.name,⟨#[97,115]⟩] ++ qryW x.query ++ [⟨#[59]⟩])).length≤Lim):Calls Tryz.prog 32 #[.pointer (some ⟨PB,0,none⟩),.agg #[.int .i64 2,.string x.name,.slice a1 x.cols.length c1,.slice p1 x.query.parts.length d1,.slice p2 x.query.ops.length d2,.slice p3 x.query.order.length d3,.int .i64 x.query.limit,.slice a2 x.rows.length c2,.bool x.hasWhere,.int .i64 x.wher.k,.int .i64 x.wher.v.1,.int .i64 x.wher.v.2.1,.string x.wher.v.2.2,.string x.wher.tab,.string x.wher.name,.slice a3 x.wher.ks.length c3]] w (PEnds w PB v (sayL bs ([⟨#[99,114,101,97,116,101]⟩,⟨#[118,105,101,119]⟩,x.name,⟨#[97,115]⟩] ++ qryW x.query ++ [⟨#[59]⟩]))):=by
 have hmf:∀ (fn:Fn) (first cap:Array Value) (w:World),(Instr.makeFunc fn first cap).run Tryz.prog w = .ok (.func fn first cap) w:=fun _ _ _ _=>rfl
 have HO:Hid (OkQ x.query):=ok;clear ok;have Hb:Hid _:=hb;clear hb;have hal:Below w.heap.size w (w.alloc (.cells #[.int .i64 2,.string x.name,.slice a1 x.cols.length c1,.slice p1 x.query.parts.length d1,.slice p2 x.query.ops.length d2,.slice p3 x.query.order.length d3,.int .i64 x.query.limit,.slice a2 x.rows.length c2,.bool x.hasWhere,.int .i64 x.wher.k,.int .i64 x.wher.v.1,.int .i64 x.wher.v.2.1,.string x.wher.v.2.2,.string x.wher.tab,.string x.wher.name,.slice a3 x.wher.ks.length c3] 57)):=(Below.refl _ _).alloc (Nat.le_refl _) _
 have B0:Hid (Bx (w.alloc (.cells #[.int .i64 2,.string x.name,.slice a1 x.cols.length c1,.slice p1 x.query.parts.length d1,.slice p2 x.query.ops.length d2,.slice p3 x.query.order.length d3,.int .i64 x.query.limit,.slice a2 x.rows.length c2,.bool x.hasWhere,.int .i64 x.wher.k,.int .i64 x.wher.v.1,.int .i64 x.wher.v.2.1,.string x.wher.v.2.2,.string x.wher.tab,.string x.wher.name,.slice a3 x.wher.ks.length c3] 57)) PB v w.heap.size #[.int .i64 2,.string x.name,.slice a1 x.cols.length c1,.slice p1 x.query.parts.length d1,.slice p2 x.query.ops.length d2,.slice p3 x.query.order.length d3,.int .i64 x.query.limit,.slice a2 x.rows.length c2,.bool x.hasWhere,.int .i64 x.wher.k,.int .i64 x.wher.v.1,.int .i64 x.wher.v.2.1,.string x.wher.v.2.2,.string x.wher.tab,.string x.wher.name,.slice a3 x.wher.ks.length c3] 57):=Bx.new hP #[.int .i64 2,.string x.name,.slice a1 x.cols.length c1,.slice p1 x.query.parts.length d1,.slice p2 x.query.ops.length d2,.slice p3 x.query.order.length d3,.int .i64 x.query.limit,.slice a2 x.rows.length c2,.bool x.hasWhere,.int .i64 x.wher.k,.int .i64 x.wher.v.1,.int .i64 x.wher.v.2.1,.string x.wher.v.2.2,.string x.wher.tab,.string x.wher.name,.slice a3 x.wher.ks.length c3] 57
 have P0:Hid (PrAt (w.alloc (.cells #[.int .i64 2,.string x.name,.slice a1 x.cols.length c1,.slice p1 x.query.parts.length d1,.slice p2 x.query.ops.length d2,.slice p3 x.query.order.length d3,.int .i64 x.query.limit,.slice a2 x.rows.length c2,.bool x.hasWhere,.int .i64 x.wher.k,.int .i64 x.wher.v.1,.int .i64 x.wher.v.2.1,.string x.wher.v.2.2,.string x.wher.tab,.string x.wher.name,.slice a3 x.wher.ks.length c3] 57)) PB v bs):=hP.next hal
 have S0:Hid (St PB v w v (w.alloc (.cells #[.int .i64 2,.string x.name,.slice a1 x.cols.length c1,.slice p1 x.query.parts.length d1,.slice p2 x.query.ops.length d2,.slice p3 x.query.order.length d3,.int .i64 x.query.limit,.slice a2 x.rows.length c2,.bool x.hasWhere,.int .i64 x.wher.k,.int .i64 x.wher.v.1,.int .i64 x.wher.v.2.1,.string x.wher.v.2.2,.string x.wher.tab,.string x.wher.name,.slice a3 x.wher.ks.length c3] 57))):=St.of hal hP.lt
 have G0:Hid (GP (w.alloc (.cells #[.int .i64 2,.string x.name,.slice a1 x.cols.length c1,.slice p1 x.query.parts.length d1,.slice p2 x.query.ops.length d2,.slice p3 x.query.order.length d3,.int .i64 x.query.limit,.slice a2 x.rows.length c2,.bool x.hasWhere,.int .i64 x.wher.k,.int .i64 x.wher.v.1,.int .i64 x.wher.v.2.1,.string x.wher.v.2.2,.string x.wher.tab,.string x.wher.name,.slice a3 x.wher.ks.length c3] 57)) PB):=hG.nx hal hP.lt
 have L00:Hid (LsE En21 21 (fun b=>b<PB) (w.alloc (.cells #[.int .i64 2,.string x.name,.slice a1 x.cols.length c1,.slice p1 x.query.parts.length d1,.slice p2 x.query.ops.length d2,.slice p3 x.query.order.length d3,.int .i64 x.query.limit,.slice a2 x.rows.length c2,.bool x.hasWhere,.int .i64 x.wher.k,.int .i64 x.wher.v.1,.int .i64 x.wher.v.2.1,.string x.wher.v.2.2,.string x.wher.tab,.string x.wher.name,.slice a3 x.wher.ks.length c3] 57)) p1 x.query.parts):=(k2).nx en21 hal
 have L01:Hid (LsE EnI 1 (fun b=>b<PB) (w.alloc (.cells #[.int .i64 2,.string x.name,.slice a1 x.cols.length c1,.slice p1 x.query.parts.length d1,.slice p2 x.query.ops.length d2,.slice p3 x.query.order.length d3,.int .i64 x.query.limit,.slice a2 x.rows.length c2,.bool x.hasWhere,.int .i64 x.wher.k,.int .i64 x.wher.v.1,.int .i64 x.wher.v.2.1,.string x.wher.v.2.2,.string x.wher.tab,.string x.wher.name,.slice a3 x.wher.ks.length c3] 57)) p2 x.query.ops):=(k3).nx enI hal
 have L02:Hid (LsE En7 7 (fun b=>b<PB) (w.alloc (.cells #[.int .i64 2,.string x.name,.slice a1 x.cols.length c1,.slice p1 x.query.parts.length d1,.slice p2 x.query.ops.length d2,.slice p3 x.query.order.length d3,.int .i64 x.query.limit,.slice a2 x.rows.length c2,.bool x.hasWhere,.int .i64 x.wher.k,.int .i64 x.wher.v.1,.int .i64 x.wher.v.2.1,.string x.wher.v.2.2,.string x.wher.tab,.string x.wher.name,.slice a3 x.wher.ks.length c3] 57)) p3 x.query.order):=(k4).nx en7 hal;clear hP hG hal k2 k3 k4;go_enter Tryz.func32,Tryz.ntmps32;go_upto_region 1 with fail
 generalize (w.alloc (.cells #[.int .i64 2,.string x.name,.slice a1 x.cols.length c1,.slice p1 x.query.parts.length d1,.slice p2 x.query.ops.length d2,.slice p3 x.query.order.length d3,.int .i64 x.query.limit,.slice a2 x.rows.length c2,.bool x.hasWhere,.int .i64 x.wher.k,.int .i64 x.wher.v.1,.int .i64 x.wher.v.2.1,.string x.wher.v.2.2,.string x.wher.tab,.string x.wher.name,.slice a3 x.wher.ks.length c3] 57))=w0 at *;have f1:w0.cell? ⟨w.heap.size,0,none⟩=some (.int .i64 2):=B0.out.c 0 rfl;have f2:w0.cell? ⟨w.heap.size,1,none⟩=some (.string x.name):=B0.out.c 1 rfl
 have con3:Calls Tryz.prog 57 #[.pointer (some ⟨PB,0,none⟩),.slice (some ⟨w0.heap.size,0,none⟩) 4 4] (w0.alloc (.cells #[.string ⟨#[99,114,101,97,116,101]⟩,.string ⟨#[118,105,101,119]⟩,.string x.name,.string ⟨#[97,115]⟩] 9)) (PEnds w0 PB v (sayL bs ([⟨#[99,114,101,97,116,101]⟩,⟨#[118,105,101,119]⟩,x.name,⟨#[97,115]⟩]))):=say_new [⟨#[99,114,101,97,116,101]⟩,⟨#[118,105,101,119]⟩,x.name,⟨#[97,115]⟩] P0.out (lea (lea (Hb.out))) (by simp);go_wp2_with fail
 refine con3.mono ?_;rintro e w4 ⟨rfl,v5,P_,S_⟩;have P6:Hid (PrAt w4 PB v5 (sayL bs ([⟨#[99,114,101,97,116,101]⟩,⟨#[118,105,101,119]⟩,x.name,⟨#[97,115]⟩]))):=P_;have S7:Hid (St PB v w v5 w4):=S0.out.trans S_;have G8:Hid (GP w4 PB):=G0.out.st S_
 have B9:Hid (Bx w4 PB v5 (w.heap.size) #[.int .i64 2,.string x.name,.slice a1 x.cols.length c1,.slice p1 x.query.parts.length d1,.slice p2 x.query.ops.length d2,.slice p3 x.query.order.length d3,.int .i64 x.query.limit,.slice a2 x.rows.length c2,.bool x.hasWhere,.int .i64 x.wher.k,.int .i64 x.wher.v.1,.int .i64 x.wher.v.2.1,.string x.wher.v.2.2,.string x.wher.tab,.string x.wher.name,.slice a3 x.wher.ks.length c3] 57):=B0.out.st S_;have L10:Hid (LsE En21 21 (fun b=>b<PB) w4 p1 x.query.parts):=(L00.out).stp en21 S_;have L11:Hid (LsE EnI 1 (fun b=>b<PB) w4 p2 x.query.ops):=(L01.out).stp enI S_
 have L12:Hid (LsE En7 7 (fun b=>b<PB) w4 p3 x.query.order):=(L02.out).stp en7 S_;clear con3 P_ S_ f1 f2 P0 S0 G0 B0 L00 L01 L02;have f13:w4.cell? ⟨w.heap.size,3,none⟩=some (.slice p1 x.query.parts.length d1):=B9.out.c 3 rfl;have f14:w4.cell? ⟨w.heap.size,4,none⟩=some (.slice p2 x.query.ops.length d2):=B9.out.c 4 rfl;have f15:w4.cell? ⟨w.heap.size,5,none⟩=some (.slice p3 x.query.order.length d3):=B9.out.c 5 rfl;have f16:w4.cell? ⟨w.heap.size,6,none⟩=some (.int .i64 x.query.limit):=B9.out.c 6 rfl
 have con17:Calls Tryz.prog 60 #[.pointer (some ⟨PB,0,none⟩),.agg #[.slice p1 x.query.parts.length d1,.slice p2 x.query.ops.length d2,.slice p3 x.query.order.length d3,.int .i64 x.query.limit]] w4 (PEnds w4 PB v5 (sayL (sayL bs ([⟨#[99,114,101,97,116,101]⟩,⟨#[118,105,101,119]⟩,x.name,⟨#[97,115]⟩])) (qryW x.query))):=query2_at x.query HO.out p1 p2 p3 d1 d2 d3 (G8.out) (P6.out) L10.out L11.out L12.out (by rw [← sayL_app]; exact lea (Hb.out));go_wp2_with fail
 refine con17.mono ?_;rintro e w18 ⟨rfl,v19,P_,S_⟩;have P20:Hid (PrAt w18 PB v19 (sayL bs ([⟨#[99,114,101,97,116,101]⟩,⟨#[118,105,101,119]⟩,x.name,⟨#[97,115]⟩] ++ qryW x.query))):=by show PrAt _ _ _ _; rw [sayL_app]; exact P_
 have S21:Hid (St PB v w v19 w18):=S7.out.trans S_;have G22:Hid (GP w18 PB):=G8.out.st S_;have B23:Hid (Bx w18 PB v19 (w.heap.size) #[.int .i64 2,.string x.name,.slice a1 x.cols.length c1,.slice p1 x.query.parts.length d1,.slice p2 x.query.ops.length d2,.slice p3 x.query.order.length d3,.int .i64 x.query.limit,.slice a2 x.rows.length c2,.bool x.hasWhere,.int .i64 x.wher.k,.int .i64 x.wher.v.1,.int .i64 x.wher.v.2.1,.string x.wher.v.2.2,.string x.wher.tab,.string x.wher.name,.slice a3 x.wher.ks.length c3] 57):=B9.out.st S_
 have L24:Hid (LsE En21 21 (fun b=>b<PB) w18 p1 x.query.parts):=(L10.out).stp en21 S_;have L25:Hid (LsE EnI 1 (fun b=>b<PB) w18 p2 x.query.ops):=(L11.out).stp enI S_;have L26:Hid (LsE En7 7 (fun b=>b<PB) w18 p3 x.query.order):=(L12.out).stp en7 S_;clear con17 P_ S_ f13 f14 f15 f16 P6 S7 G8 B9 L10 L11 L12
 have con27:Calls Tryz.prog 57 #[.pointer (some ⟨PB,0,none⟩),.slice (some ⟨w18.heap.size,0,none⟩) 1 1] (w18.alloc (.cells #[.string ⟨#[59]⟩] 9)) (PEnds w18 PB v19 (sayL (sayL bs ([⟨#[99,114,101,97,116,101]⟩,⟨#[118,105,101,119]⟩,x.name,⟨#[97,115]⟩] ++ qryW x.query)) ([⟨#[59]⟩]))):=say_new [⟨#[59]⟩] P20.out (by rw [← sayL_app]; exact Hb.out) (by simp);go_wp2_with fail
 refine con27.mono ?_;rintro e w28 ⟨rfl,v29,P_,S_⟩;have P30:Hid (PrAt w28 PB v29 (sayL bs ([⟨#[99,114,101,97,116,101]⟩,⟨#[118,105,101,119]⟩,x.name,⟨#[97,115]⟩] ++ qryW x.query ++ [⟨#[59]⟩]))):=by show PrAt _ _ _ _; rw [sayL_app]; exact P_
 have S31:Hid (St PB v w v29 w28):=S21.out.trans S_;have G32:Hid (GP w28 PB):=G22.out.st S_;have B33:Hid (Bx w28 PB v29 (w.heap.size) #[.int .i64 2,.string x.name,.slice a1 x.cols.length c1,.slice p1 x.query.parts.length d1,.slice p2 x.query.ops.length d2,.slice p3 x.query.order.length d3,.int .i64 x.query.limit,.slice a2 x.rows.length c2,.bool x.hasWhere,.int .i64 x.wher.k,.int .i64 x.wher.v.1,.int .i64 x.wher.v.2.1,.string x.wher.v.2.2,.string x.wher.tab,.string x.wher.name,.slice a3 x.wher.ks.length c3] 57):=B23.out.st S_
 have L34:Hid (LsE En21 21 (fun b=>b<PB) w28 p1 x.query.parts):=(L24.out).stp en21 S_;have L35:Hid (LsE EnI 1 (fun b=>b<PB) w28 p2 x.query.ops):=(L25.out).stp enI S_;have L36:Hid (LsE En7 7 (fun b=>b<PB) w28 p3 x.query.order):=(L26.out).stp en7 S_;clear con27 P_ S_  P20 S21 G22 B23 L24 L25 L26;go_wp2_with fail
 go_end0
 exact ⟨rfl,v29,P30.out,S31.out⟩
theorem stm_3 (x:Stm) (ok:x.rows.length≤1000∧∀ l ∈ x.rows,l.length≤1000∧∀ y ∈ l,ValOk y) (a1 p1 p2 p3 a2 a3:Option Addr) (c1 d1 d2 d3 c2 c3:Nat) {PB:Nat} {v:Value} {bs:List UInt8} {w:World} (hG:GP w PB) (hP:PrAt w PB v bs) (k5:LsE (EnL En3 3) 1 (fun b=>b<PB) w a2 x.rows) (hb:(sayL bs ([⟨#[105,110,115,101,114,116]⟩,⟨#[105,110,116,111]⟩,x.name,⟨#[118,97,108,117,101,115]⟩] ++ lisW rowW x.rows ++ [⟨#[59]⟩])).length≤Lim):Calls Tryz.prog 32 #[.pointer (some ⟨PB,0,none⟩),.agg #[.int .i64 3,.string x.name,.slice a1 x.cols.length c1,.slice p1 x.query.parts.length d1,.slice p2 x.query.ops.length d2,.slice p3 x.query.order.length d3,.int .i64 x.query.limit,.slice a2 x.rows.length c2,.bool x.hasWhere,.int .i64 x.wher.k,.int .i64 x.wher.v.1,.int .i64 x.wher.v.2.1,.string x.wher.v.2.2,.string x.wher.tab,.string x.wher.name,.slice a3 x.wher.ks.length c3]] w (PEnds w PB v (sayL bs ([⟨#[105,110,115,101,114,116]⟩,⟨#[105,110,116,111]⟩,x.name,⟨#[118,97,108,117,101,115]⟩] ++ lisW rowW x.rows ++ [⟨#[59]⟩]))):=by
 have hmf:∀ (fn:Fn) (first cap:Array Value) (w:World),(Instr.makeFunc fn first cap).run Tryz.prog w = .ok (.func fn first cap) w:=fun _ _ _ _=>rfl
 have HO:Hid (x.rows.length≤1000∧∀ l ∈ x.rows,l.length≤1000∧∀ y ∈ l,ValOk y):=ok;clear ok;have Hb:Hid _:=hb;clear hb;have hal:Below w.heap.size w (w.alloc (.cells #[.int .i64 3,.string x.name,.slice a1 x.cols.length c1,.slice p1 x.query.parts.length d1,.slice p2 x.query.ops.length d2,.slice p3 x.query.order.length d3,.int .i64 x.query.limit,.slice a2 x.rows.length c2,.bool x.hasWhere,.int .i64 x.wher.k,.int .i64 x.wher.v.1,.int .i64 x.wher.v.2.1,.string x.wher.v.2.2,.string x.wher.tab,.string x.wher.name,.slice a3 x.wher.ks.length c3] 57)):=(Below.refl _ _).alloc (Nat.le_refl _) _
 have B0:Hid (Bx (w.alloc (.cells #[.int .i64 3,.string x.name,.slice a1 x.cols.length c1,.slice p1 x.query.parts.length d1,.slice p2 x.query.ops.length d2,.slice p3 x.query.order.length d3,.int .i64 x.query.limit,.slice a2 x.rows.length c2,.bool x.hasWhere,.int .i64 x.wher.k,.int .i64 x.wher.v.1,.int .i64 x.wher.v.2.1,.string x.wher.v.2.2,.string x.wher.tab,.string x.wher.name,.slice a3 x.wher.ks.length c3] 57)) PB v w.heap.size #[.int .i64 3,.string x.name,.slice a1 x.cols.length c1,.slice p1 x.query.parts.length d1,.slice p2 x.query.ops.length d2,.slice p3 x.query.order.length d3,.int .i64 x.query.limit,.slice a2 x.rows.length c2,.bool x.hasWhere,.int .i64 x.wher.k,.int .i64 x.wher.v.1,.int .i64 x.wher.v.2.1,.string x.wher.v.2.2,.string x.wher.tab,.string x.wher.name,.slice a3 x.wher.ks.length c3] 57):=Bx.new hP #[.int .i64 3,.string x.name,.slice a1 x.cols.length c1,.slice p1 x.query.parts.length d1,.slice p2 x.query.ops.length d2,.slice p3 x.query.order.length d3,.int .i64 x.query.limit,.slice a2 x.rows.length c2,.bool x.hasWhere,.int .i64 x.wher.k,.int .i64 x.wher.v.1,.int .i64 x.wher.v.2.1,.string x.wher.v.2.2,.string x.wher.tab,.string x.wher.name,.slice a3 x.wher.ks.length c3] 57
 have P0:Hid (PrAt (w.alloc (.cells #[.int .i64 3,.string x.name,.slice a1 x.cols.length c1,.slice p1 x.query.parts.length d1,.slice p2 x.query.ops.length d2,.slice p3 x.query.order.length d3,.int .i64 x.query.limit,.slice a2 x.rows.length c2,.bool x.hasWhere,.int .i64 x.wher.k,.int .i64 x.wher.v.1,.int .i64 x.wher.v.2.1,.string x.wher.v.2.2,.string x.wher.tab,.string x.wher.name,.slice a3 x.wher.ks.length c3] 57)) PB v bs):=hP.next hal
 have S0:Hid (St PB v w v (w.alloc (.cells #[.int .i64 3,.string x.name,.slice a1 x.cols.length c1,.slice p1 x.query.parts.length d1,.slice p2 x.query.ops.length d2,.slice p3 x.query.order.length d3,.int .i64 x.query.limit,.slice a2 x.rows.length c2,.bool x.hasWhere,.int .i64 x.wher.k,.int .i64 x.wher.v.1,.int .i64 x.wher.v.2.1,.string x.wher.v.2.2,.string x.wher.tab,.string x.wher.name,.slice a3 x.wher.ks.length c3] 57))):=St.of hal hP.lt
 have G0:Hid (GP (w.alloc (.cells #[.int .i64 3,.string x.name,.slice a1 x.cols.length c1,.slice p1 x.query.parts.length d1,.slice p2 x.query.ops.length d2,.slice p3 x.query.order.length d3,.int .i64 x.query.limit,.slice a2 x.rows.length c2,.bool x.hasWhere,.int .i64 x.wher.k,.int .i64 x.wher.v.1,.int .i64 x.wher.v.2.1,.string x.wher.v.2.2,.string x.wher.tab,.string x.wher.name,.slice a3 x.wher.ks.length c3] 57)) PB):=hG.nx hal hP.lt
 have L00:Hid (LsE (EnL En3 3) 1 (fun b=>b<PB) (w.alloc (.cells #[.int .i64 3,.string x.name,.slice a1 x.cols.length c1,.slice p1 x.query.parts.length d1,.slice p2 x.query.ops.length d2,.slice p3 x.query.order.length d3,.int .i64 x.query.limit,.slice a2 x.rows.length c2,.bool x.hasWhere,.int .i64 x.wher.k,.int .i64 x.wher.v.1,.int .i64 x.wher.v.2.1,.string x.wher.v.2.2,.string x.wher.tab,.string x.wher.name,.slice a3 x.wher.ks.length c3] 57)) a2 x.rows):=(k5).nx (enL en3 3) hal;clear hP hG hal k5;go_enter Tryz.func32,Tryz.ntmps32;go_upto_region 1 with fail
 generalize (w.alloc (.cells #[.int .i64 3,.string x.name,.slice a1 x.cols.length c1,.slice p1 x.query.parts.length d1,.slice p2 x.query.ops.length d2,.slice p3 x.query.order.length d3,.int .i64 x.query.limit,.slice a2 x.rows.length c2,.bool x.hasWhere,.int .i64 x.wher.k,.int .i64 x.wher.v.1,.int .i64 x.wher.v.2.1,.string x.wher.v.2.2,.string x.wher.tab,.string x.wher.name,.slice a3 x.wher.ks.length c3] 57))=w0 at *;have f1:w0.cell? ⟨w.heap.size,0,none⟩=some (.int .i64 3):=B0.out.c 0 rfl;have f2:w0.cell? ⟨w.heap.size,1,none⟩=some (.string x.name):=B0.out.c 1 rfl
 have con3:Calls Tryz.prog 57 #[.pointer (some ⟨PB,0,none⟩),.slice (some ⟨w0.heap.size,0,none⟩) 4 4] (w0.alloc (.cells #[.string ⟨#[105,110,115,101,114,116]⟩,.string ⟨#[105,110,116,111]⟩,.string x.name,.string ⟨#[118,97,108,117,101,115]⟩] 9)) (PEnds w0 PB v (sayL bs ([⟨#[105,110,115,101,114,116]⟩,⟨#[105,110,116,111]⟩,x.name,⟨#[118,97,108,117,101,115]⟩]))):=say_new [⟨#[105,110,115,101,114,116]⟩,⟨#[105,110,116,111]⟩,x.name,⟨#[118,97,108,117,101,115]⟩] P0.out (lea (lea (Hb.out))) (by simp);go_wp2_with fail
 refine con3.mono ?_;rintro e w4 ⟨rfl,v5,P_,S_⟩;have P6:Hid (PrAt w4 PB v5 (sayL bs ([⟨#[105,110,115,101,114,116]⟩,⟨#[105,110,116,111]⟩,x.name,⟨#[118,97,108,117,101,115]⟩]))):=P_;have S7:Hid (St PB v w v5 w4):=S0.out.trans S_;have G8:Hid (GP w4 PB):=G0.out.st S_
 have B9:Hid (Bx w4 PB v5 (w.heap.size) #[.int .i64 3,.string x.name,.slice a1 x.cols.length c1,.slice p1 x.query.parts.length d1,.slice p2 x.query.ops.length d2,.slice p3 x.query.order.length d3,.int .i64 x.query.limit,.slice a2 x.rows.length c2,.bool x.hasWhere,.int .i64 x.wher.k,.int .i64 x.wher.v.1,.int .i64 x.wher.v.2.1,.string x.wher.v.2.2,.string x.wher.tab,.string x.wher.name,.slice a3 x.wher.ks.length c3] 57):=B0.out.st S_;have L10:Hid (LsE (EnL En3 3) 1 (fun b=>b<PB) w4 a2 x.rows):=(L00.out).stp (enL en3 3) S_;clear con3 P_ S_ f1 f2 P0 S0 G0 B0 L00
 have f11:w4.cell? ⟨w.heap.size,7,none⟩=some (.slice a2 x.rows.length c2):=B9.out.c 7 rfl;have con12:Calls Tryz.prog 61 #[.pointer (some ⟨PB,0,none⟩),.slice a2 x.rows.length c2,.func (.func 62) #[.pointer (some ⟨PB,0,none⟩)] #[]] w4 (PEnds w4 PB v5 (sayL (sayL bs ([⟨#[105,110,115,101,114,116]⟩,⟨#[105,110,116,111]⟩,x.name,⟨#[118,97,108,117,101,115]⟩])) (lisW rowW x.rows))):=listedR_at x.rows HO.out.1 HO.out.2 a2 c2 (G8.out) (P6.out) L10.out (by rw [← sayL_app]; exact lea (Hb.out));go_wp2_with fail
 refine con12.mono ?_;rintro e w13 ⟨rfl,v14,P_,S_⟩;have P15:Hid (PrAt w13 PB v14 (sayL bs ([⟨#[105,110,115,101,114,116]⟩,⟨#[105,110,116,111]⟩,x.name,⟨#[118,97,108,117,101,115]⟩] ++ lisW rowW x.rows))):=by show PrAt _ _ _ _; rw [sayL_app]; exact P_
 have S16:Hid (St PB v w v14 w13):=S7.out.trans S_;have G17:Hid (GP w13 PB):=G8.out.st S_;have B18:Hid (Bx w13 PB v14 (w.heap.size) #[.int .i64 3,.string x.name,.slice a1 x.cols.length c1,.slice p1 x.query.parts.length d1,.slice p2 x.query.ops.length d2,.slice p3 x.query.order.length d3,.int .i64 x.query.limit,.slice a2 x.rows.length c2,.bool x.hasWhere,.int .i64 x.wher.k,.int .i64 x.wher.v.1,.int .i64 x.wher.v.2.1,.string x.wher.v.2.2,.string x.wher.tab,.string x.wher.name,.slice a3 x.wher.ks.length c3] 57):=B9.out.st S_
 have L19:Hid (LsE (EnL En3 3) 1 (fun b=>b<PB) w13 a2 x.rows):=(L10.out).stp (enL en3 3) S_;clear con12 P_ S_ f11 P6 S7 G8 B9 L10;have con20:Calls Tryz.prog 57 #[.pointer (some ⟨PB,0,none⟩),.slice (some ⟨w13.heap.size,0,none⟩) 1 1] (w13.alloc (.cells #[.string ⟨#[59]⟩] 9)) (PEnds w13 PB v14 (sayL (sayL bs ([⟨#[105,110,115,101,114,116]⟩,⟨#[105,110,116,111]⟩,x.name,⟨#[118,97,108,117,101,115]⟩] ++ lisW rowW x.rows)) ([⟨#[59]⟩]))):=say_new [⟨#[59]⟩] P15.out (by rw [← sayL_app]; exact Hb.out) (by simp);go_wp2_with fail
 refine con20.mono ?_;rintro e w21 ⟨rfl,v22,P_,S_⟩;have P23:Hid (PrAt w21 PB v22 (sayL bs ([⟨#[105,110,115,101,114,116]⟩,⟨#[105,110,116,111]⟩,x.name,⟨#[118,97,108,117,101,115]⟩] ++ lisW rowW x.rows ++ [⟨#[59]⟩]))):=by show PrAt _ _ _ _; rw [sayL_app]; exact P_
 have S24:Hid (St PB v w v22 w21):=S16.out.trans S_;have G25:Hid (GP w21 PB):=G17.out.st S_;have B26:Hid (Bx w21 PB v22 (w.heap.size) #[.int .i64 3,.string x.name,.slice a1 x.cols.length c1,.slice p1 x.query.parts.length d1,.slice p2 x.query.ops.length d2,.slice p3 x.query.order.length d3,.int .i64 x.query.limit,.slice a2 x.rows.length c2,.bool x.hasWhere,.int .i64 x.wher.k,.int .i64 x.wher.v.1,.int .i64 x.wher.v.2.1,.string x.wher.v.2.2,.string x.wher.tab,.string x.wher.name,.slice a3 x.wher.ks.length c3] 57):=B18.out.st S_
 have L27:Hid (LsE (EnL En3 3) 1 (fun b=>b<PB) w21 a2 x.rows):=(L19.out).stp (enL en3 3) S_;clear con20 P_ S_  P15 S16 G17 B18 L19;go_wp2_with fail
 go_end0
 exact ⟨rfl,v22,P23.out,S24.out⟩
theorem stm_4 (x:Stm) (ok:x.hasWhere=true→OkX x.wher) (a1 p1 p2 p3 a2 a3:Option Addr) (c1 d1 d2 d3 c2 c3:Nat) {PB:Nat} {v:Value} {bs:List UInt8} {w:World} (hG:GP w PB) (hP:PrAt w PB v bs) (k6:SsS (fun b=>b<PB) w a3 x.wher.ks) (hb:(sayL bs ([⟨#[100,101,108,101,116,101]⟩,⟨#[102,114,111,109]⟩,x.name] ++ behX ⟨#[119,104,101,114,101]⟩ x.hasWhere x.wher ++ [⟨#[59]⟩])).length≤Lim):Calls Tryz.prog 32 #[.pointer (some ⟨PB,0,none⟩),.agg #[.int .i64 4,.string x.name,.slice a1 x.cols.length c1,.slice p1 x.query.parts.length d1,.slice p2 x.query.ops.length d2,.slice p3 x.query.order.length d3,.int .i64 x.query.limit,.slice a2 x.rows.length c2,.bool x.hasWhere,.int .i64 x.wher.k,.int .i64 x.wher.v.1,.int .i64 x.wher.v.2.1,.string x.wher.v.2.2,.string x.wher.tab,.string x.wher.name,.slice a3 x.wher.ks.length c3]] w (PEnds w PB v (sayL bs ([⟨#[100,101,108,101,116,101]⟩,⟨#[102,114,111,109]⟩,x.name] ++ behX ⟨#[119,104,101,114,101]⟩ x.hasWhere x.wher ++ [⟨#[59]⟩]))):=by
 have hmf:∀ (fn:Fn) (first cap:Array Value) (w:World),(Instr.makeFunc fn first cap).run Tryz.prog w = .ok (.func fn first cap) w:=fun _ _ _ _=>rfl
 have HO:Hid (x.hasWhere=true→OkX x.wher):=ok;clear ok;have Hb:Hid _:=hb;clear hb;have hal:Below w.heap.size w (w.alloc (.cells #[.int .i64 4,.string x.name,.slice a1 x.cols.length c1,.slice p1 x.query.parts.length d1,.slice p2 x.query.ops.length d2,.slice p3 x.query.order.length d3,.int .i64 x.query.limit,.slice a2 x.rows.length c2,.bool x.hasWhere,.int .i64 x.wher.k,.int .i64 x.wher.v.1,.int .i64 x.wher.v.2.1,.string x.wher.v.2.2,.string x.wher.tab,.string x.wher.name,.slice a3 x.wher.ks.length c3] 57)):=(Below.refl _ _).alloc (Nat.le_refl _) _
 have B0:Hid (Bx (w.alloc (.cells #[.int .i64 4,.string x.name,.slice a1 x.cols.length c1,.slice p1 x.query.parts.length d1,.slice p2 x.query.ops.length d2,.slice p3 x.query.order.length d3,.int .i64 x.query.limit,.slice a2 x.rows.length c2,.bool x.hasWhere,.int .i64 x.wher.k,.int .i64 x.wher.v.1,.int .i64 x.wher.v.2.1,.string x.wher.v.2.2,.string x.wher.tab,.string x.wher.name,.slice a3 x.wher.ks.length c3] 57)) PB v w.heap.size #[.int .i64 4,.string x.name,.slice a1 x.cols.length c1,.slice p1 x.query.parts.length d1,.slice p2 x.query.ops.length d2,.slice p3 x.query.order.length d3,.int .i64 x.query.limit,.slice a2 x.rows.length c2,.bool x.hasWhere,.int .i64 x.wher.k,.int .i64 x.wher.v.1,.int .i64 x.wher.v.2.1,.string x.wher.v.2.2,.string x.wher.tab,.string x.wher.name,.slice a3 x.wher.ks.length c3] 57):=Bx.new hP #[.int .i64 4,.string x.name,.slice a1 x.cols.length c1,.slice p1 x.query.parts.length d1,.slice p2 x.query.ops.length d2,.slice p3 x.query.order.length d3,.int .i64 x.query.limit,.slice a2 x.rows.length c2,.bool x.hasWhere,.int .i64 x.wher.k,.int .i64 x.wher.v.1,.int .i64 x.wher.v.2.1,.string x.wher.v.2.2,.string x.wher.tab,.string x.wher.name,.slice a3 x.wher.ks.length c3] 57
 have P0:Hid (PrAt (w.alloc (.cells #[.int .i64 4,.string x.name,.slice a1 x.cols.length c1,.slice p1 x.query.parts.length d1,.slice p2 x.query.ops.length d2,.slice p3 x.query.order.length d3,.int .i64 x.query.limit,.slice a2 x.rows.length c2,.bool x.hasWhere,.int .i64 x.wher.k,.int .i64 x.wher.v.1,.int .i64 x.wher.v.2.1,.string x.wher.v.2.2,.string x.wher.tab,.string x.wher.name,.slice a3 x.wher.ks.length c3] 57)) PB v bs):=hP.next hal
 have S0:Hid (St PB v w v (w.alloc (.cells #[.int .i64 4,.string x.name,.slice a1 x.cols.length c1,.slice p1 x.query.parts.length d1,.slice p2 x.query.ops.length d2,.slice p3 x.query.order.length d3,.int .i64 x.query.limit,.slice a2 x.rows.length c2,.bool x.hasWhere,.int .i64 x.wher.k,.int .i64 x.wher.v.1,.int .i64 x.wher.v.2.1,.string x.wher.v.2.2,.string x.wher.tab,.string x.wher.name,.slice a3 x.wher.ks.length c3] 57))):=St.of hal hP.lt
 have G0:Hid (GP (w.alloc (.cells #[.int .i64 4,.string x.name,.slice a1 x.cols.length c1,.slice p1 x.query.parts.length d1,.slice p2 x.query.ops.length d2,.slice p3 x.query.order.length d3,.int .i64 x.query.limit,.slice a2 x.rows.length c2,.bool x.hasWhere,.int .i64 x.wher.k,.int .i64 x.wher.v.1,.int .i64 x.wher.v.2.1,.string x.wher.v.2.2,.string x.wher.tab,.string x.wher.name,.slice a3 x.wher.ks.length c3] 57)) PB):=hG.nx hal hP.lt
 have L00:Hid (SsS (fun b=>b<PB) (w.alloc (.cells #[.int .i64 4,.string x.name,.slice a1 x.cols.length c1,.slice p1 x.query.parts.length d1,.slice p2 x.query.ops.length d2,.slice p3 x.query.order.length d3,.int .i64 x.query.limit,.slice a2 x.rows.length c2,.bool x.hasWhere,.int .i64 x.wher.k,.int .i64 x.wher.v.1,.int .i64 x.wher.v.2.1,.string x.wher.v.2.2,.string x.wher.tab,.string x.wher.name,.slice a3 x.wher.ks.length c3] 57)) a3 x.wher.ks):=SsS.next hal k6;clear hP hG hal k6;go_enter Tryz.func32,Tryz.ntmps32;go_upto_region 1 with fail
 generalize (w.alloc (.cells #[.int .i64 4,.string x.name,.slice a1 x.cols.length c1,.slice p1 x.query.parts.length d1,.slice p2 x.query.ops.length d2,.slice p3 x.query.order.length d3,.int .i64 x.query.limit,.slice a2 x.rows.length c2,.bool x.hasWhere,.int .i64 x.wher.k,.int .i64 x.wher.v.1,.int .i64 x.wher.v.2.1,.string x.wher.v.2.2,.string x.wher.tab,.string x.wher.name,.slice a3 x.wher.ks.length c3] 57))=w0 at *;have f1:w0.cell? ⟨w.heap.size,0,none⟩=some (.int .i64 4):=B0.out.c 0 rfl;have f2:w0.cell? ⟨w.heap.size,1,none⟩=some (.string x.name):=B0.out.c 1 rfl
 have con3:Calls Tryz.prog 57 #[.pointer (some ⟨PB,0,none⟩),.slice (some ⟨w0.heap.size,0,none⟩) 3 3] (w0.alloc (.cells #[.string ⟨#[100,101,108,101,116,101]⟩,.string ⟨#[102,114,111,109]⟩,.string x.name] 9)) (PEnds w0 PB v (sayL bs ([⟨#[100,101,108,101,116,101]⟩,⟨#[102,114,111,109]⟩,x.name]))):=say_new [⟨#[100,101,108,101,116,101]⟩,⟨#[102,114,111,109]⟩,x.name] P0.out (lea (lea (Hb.out))) (by simp);go_wp2_with fail
 refine con3.mono ?_;rintro e w4 ⟨rfl,v5,P_,S_⟩;have P6:Hid (PrAt w4 PB v5 (sayL bs ([⟨#[100,101,108,101,116,101]⟩,⟨#[102,114,111,109]⟩,x.name]))):=P_;have S7:Hid (St PB v w v5 w4):=S0.out.trans S_;have G8:Hid (GP w4 PB):=G0.out.st S_
 have B9:Hid (Bx w4 PB v5 (w.heap.size) #[.int .i64 4,.string x.name,.slice a1 x.cols.length c1,.slice p1 x.query.parts.length d1,.slice p2 x.query.ops.length d2,.slice p3 x.query.order.length d3,.int .i64 x.query.limit,.slice a2 x.rows.length c2,.bool x.hasWhere,.int .i64 x.wher.k,.int .i64 x.wher.v.1,.int .i64 x.wher.v.2.1,.string x.wher.v.2.2,.string x.wher.tab,.string x.wher.name,.slice a3 x.wher.ks.length c3] 57):=B0.out.st S_;have L10:Hid (SsS (fun b=>b<PB) w4 a3 x.wher.ks):=SsS.stp L00.out S_;clear con3 P_ S_ f1 f2 P0 S0 G0 B0 L00
 have f11:w4.cell? ⟨w.heap.size,8,none⟩=some (.bool x.hasWhere):=B9.out.c 8 rfl;have f12:w4.cell? ⟨w.heap.size,9,none⟩=some (.int .i64 x.wher.k):=B9.out.c 9 rfl;have f13:w4.cell? ⟨w.heap.size,10,none⟩=some (.int .i64 x.wher.v.1):=B9.out.c 10 rfl;have f14:w4.cell? ⟨w.heap.size,11,none⟩=some (.int .i64 x.wher.v.2.1):=B9.out.c 11 rfl;have f15:w4.cell? ⟨w.heap.size,12,none⟩=some (.string x.wher.v.2.2):=B9.out.c 12 rfl;have f16:w4.cell? ⟨w.heap.size,13,none⟩=some (.string x.wher.tab):=B9.out.c 13 rfl;have f17:w4.cell? ⟨w.heap.size,14,none⟩=some (.string x.wher.name):=B9.out.c 14 rfl
 have f18:w4.cell? ⟨w.heap.size,15,none⟩=some (.slice a3 x.wher.ks.length c3):=B9.out.c 15 rfl;have con19:Calls Tryz.prog 63 #[.pointer (some ⟨PB,0,none⟩),.string ⟨#[119,104,101,114,101]⟩,.bool x.hasWhere,.agg (sxA x.wher a3 c3)] w4 (PEnds w4 PB v5 (sayL (sayL bs ([⟨#[100,101,108,101,116,101]⟩,⟨#[102,114,111,109]⟩,x.name])) (behX ⟨#[119,104,101,114,101]⟩ x.hasWhere x.wher))):=exprBehind2_at ⟨#[119,104,101,114,101]⟩ x.hasWhere x.wher HO.out a3 c3 (G8.out) (P6.out) L10.out (by rw [← sayL_app]; exact lea (Hb.out));go_wp2_with fail
 refine con19.mono ?_;rintro e w20 ⟨rfl,v21,P_,S_⟩;have P22:Hid (PrAt w20 PB v21 (sayL bs ([⟨#[100,101,108,101,116,101]⟩,⟨#[102,114,111,109]⟩,x.name] ++ behX ⟨#[119,104,101,114,101]⟩ x.hasWhere x.wher))):=by show PrAt _ _ _ _; rw [sayL_app]; exact P_
 have S23:Hid (St PB v w v21 w20):=S7.out.trans S_;have G24:Hid (GP w20 PB):=G8.out.st S_;have B25:Hid (Bx w20 PB v21 (w.heap.size) #[.int .i64 4,.string x.name,.slice a1 x.cols.length c1,.slice p1 x.query.parts.length d1,.slice p2 x.query.ops.length d2,.slice p3 x.query.order.length d3,.int .i64 x.query.limit,.slice a2 x.rows.length c2,.bool x.hasWhere,.int .i64 x.wher.k,.int .i64 x.wher.v.1,.int .i64 x.wher.v.2.1,.string x.wher.v.2.2,.string x.wher.tab,.string x.wher.name,.slice a3 x.wher.ks.length c3] 57):=B9.out.st S_;have L26:Hid (SsS (fun b=>b<PB) w20 a3 x.wher.ks):=SsS.stp L10.out S_
 clear con19 P_ S_ f11 f12 f13 f14 f15 f16 f17 f18 P6 S7 G8 B9 L10;have con27:Calls Tryz.prog 57 #[.pointer (some ⟨PB,0,none⟩),.slice (some ⟨w20.heap.size,0,none⟩) 1 1] (w20.alloc (.cells #[.string ⟨#[59]⟩] 9)) (PEnds w20 PB v21 (sayL (sayL bs ([⟨#[100,101,108,101,116,101]⟩,⟨#[102,114,111,109]⟩,x.name] ++ behX ⟨#[119,104,101,114,101]⟩ x.hasWhere x.wher)) ([⟨#[59]⟩]))):=say_new [⟨#[59]⟩] P22.out (by rw [← sayL_app]; exact Hb.out) (by simp);go_wp2_with fail
 refine con27.mono ?_;rintro e w28 ⟨rfl,v29,P_,S_⟩;have P30:Hid (PrAt w28 PB v29 (sayL bs ([⟨#[100,101,108,101,116,101]⟩,⟨#[102,114,111,109]⟩,x.name] ++ behX ⟨#[119,104,101,114,101]⟩ x.hasWhere x.wher ++ [⟨#[59]⟩]))):=by show PrAt _ _ _ _; rw [sayL_app]; exact P_
 have S31:Hid (St PB v w v29 w28):=S23.out.trans S_;have G32:Hid (GP w28 PB):=G24.out.st S_;have B33:Hid (Bx w28 PB v29 (w.heap.size) #[.int .i64 4,.string x.name,.slice a1 x.cols.length c1,.slice p1 x.query.parts.length d1,.slice p2 x.query.ops.length d2,.slice p3 x.query.order.length d3,.int .i64 x.query.limit,.slice a2 x.rows.length c2,.bool x.hasWhere,.int .i64 x.wher.k,.int .i64 x.wher.v.1,.int .i64 x.wher.v.2.1,.string x.wher.v.2.2,.string x.wher.tab,.string x.wher.name,.slice a3 x.wher.ks.length c3] 57):=B25.out.st S_;have L34:Hid (SsS (fun b=>b<PB) w28 a3 x.wher.ks):=SsS.stp L26.out S_
 clear con27 P_ S_  P22 S23 G24 B25 L26;go_wp2_with fail
 go_end0
 exact ⟨rfl,v29,P30.out,S31.out⟩
theorem stm_5 (x:Stm) (ok:OkQ x.query) (a1 p1 p2 p3 a2 a3:Option Addr) (c1 d1 d2 d3 c2 c3:Nat) {PB:Nat} {v:Value} {bs:List UInt8} {w:World} (hG:GP w PB) (hP:PrAt w PB v bs) (k2:LsE En21 21 (fun b=>b<PB) w p1 x.query.parts) (k3:LsE EnI 1 (fun b=>b<PB) w p2 x.query.ops) (k4:LsE En7 7 (fun b=>b<PB) w p3 x.query.order) (hb:(sayL bs ([⟨#[115,104,111,119]⟩] ++ qryW x.query ++ [⟨#[59]⟩])).length≤Lim):Calls Tryz.prog 32 #[.pointer (some ⟨PB,0,none⟩),.agg #[.int .i64 5,.string x.name,.slice a1 x.cols.length c1,.slice p1 x.query.parts.length d1,.slice p2 x.query.ops.length d2,.slice p3 x.query.order.length d3,.int .i64 x.query.limit,.slice a2 x.rows.length c2,.bool x.hasWhere,.int .i64 x.wher.k,.int .i64 x.wher.v.1,.int .i64 x.wher.v.2.1,.string x.wher.v.2.2,.string x.wher.tab,.string x.wher.name,.slice a3 x.wher.ks.length c3]] w (PEnds w PB v (sayL bs ([⟨#[115,104,111,119]⟩] ++ qryW x.query ++ [⟨#[59]⟩]))):=by
 have hmf:∀ (fn:Fn) (first cap:Array Value) (w:World),(Instr.makeFunc fn first cap).run Tryz.prog w = .ok (.func fn first cap) w:=fun _ _ _ _=>rfl
 have HO:Hid (OkQ x.query):=ok;clear ok;have Hb:Hid _:=hb;clear hb;have hal:Below w.heap.size w (w.alloc (.cells #[.int .i64 5,.string x.name,.slice a1 x.cols.length c1,.slice p1 x.query.parts.length d1,.slice p2 x.query.ops.length d2,.slice p3 x.query.order.length d3,.int .i64 x.query.limit,.slice a2 x.rows.length c2,.bool x.hasWhere,.int .i64 x.wher.k,.int .i64 x.wher.v.1,.int .i64 x.wher.v.2.1,.string x.wher.v.2.2,.string x.wher.tab,.string x.wher.name,.slice a3 x.wher.ks.length c3] 57)):=(Below.refl _ _).alloc (Nat.le_refl _) _
 have B0:Hid (Bx (w.alloc (.cells #[.int .i64 5,.string x.name,.slice a1 x.cols.length c1,.slice p1 x.query.parts.length d1,.slice p2 x.query.ops.length d2,.slice p3 x.query.order.length d3,.int .i64 x.query.limit,.slice a2 x.rows.length c2,.bool x.hasWhere,.int .i64 x.wher.k,.int .i64 x.wher.v.1,.int .i64 x.wher.v.2.1,.string x.wher.v.2.2,.string x.wher.tab,.string x.wher.name,.slice a3 x.wher.ks.length c3] 57)) PB v w.heap.size #[.int .i64 5,.string x.name,.slice a1 x.cols.length c1,.slice p1 x.query.parts.length d1,.slice p2 x.query.ops.length d2,.slice p3 x.query.order.length d3,.int .i64 x.query.limit,.slice a2 x.rows.length c2,.bool x.hasWhere,.int .i64 x.wher.k,.int .i64 x.wher.v.1,.int .i64 x.wher.v.2.1,.string x.wher.v.2.2,.string x.wher.tab,.string x.wher.name,.slice a3 x.wher.ks.length c3] 57):=Bx.new hP #[.int .i64 5,.string x.name,.slice a1 x.cols.length c1,.slice p1 x.query.parts.length d1,.slice p2 x.query.ops.length d2,.slice p3 x.query.order.length d3,.int .i64 x.query.limit,.slice a2 x.rows.length c2,.bool x.hasWhere,.int .i64 x.wher.k,.int .i64 x.wher.v.1,.int .i64 x.wher.v.2.1,.string x.wher.v.2.2,.string x.wher.tab,.string x.wher.name,.slice a3 x.wher.ks.length c3] 57
 have P0:Hid (PrAt (w.alloc (.cells #[.int .i64 5,.string x.name,.slice a1 x.cols.length c1,.slice p1 x.query.parts.length d1,.slice p2 x.query.ops.length d2,.slice p3 x.query.order.length d3,.int .i64 x.query.limit,.slice a2 x.rows.length c2,.bool x.hasWhere,.int .i64 x.wher.k,.int .i64 x.wher.v.1,.int .i64 x.wher.v.2.1,.string x.wher.v.2.2,.string x.wher.tab,.string x.wher.name,.slice a3 x.wher.ks.length c3] 57)) PB v bs):=hP.next hal
 have S0:Hid (St PB v w v (w.alloc (.cells #[.int .i64 5,.string x.name,.slice a1 x.cols.length c1,.slice p1 x.query.parts.length d1,.slice p2 x.query.ops.length d2,.slice p3 x.query.order.length d3,.int .i64 x.query.limit,.slice a2 x.rows.length c2,.bool x.hasWhere,.int .i64 x.wher.k,.int .i64 x.wher.v.1,.int .i64 x.wher.v.2.1,.string x.wher.v.2.2,.string x.wher.tab,.string x.wher.name,.slice a3 x.wher.ks.length c3] 57))):=St.of hal hP.lt
 have G0:Hid (GP (w.alloc (.cells #[.int .i64 5,.string x.name,.slice a1 x.cols.length c1,.slice p1 x.query.parts.length d1,.slice p2 x.query.ops.length d2,.slice p3 x.query.order.length d3,.int .i64 x.query.limit,.slice a2 x.rows.length c2,.bool x.hasWhere,.int .i64 x.wher.k,.int .i64 x.wher.v.1,.int .i64 x.wher.v.2.1,.string x.wher.v.2.2,.string x.wher.tab,.string x.wher.name,.slice a3 x.wher.ks.length c3] 57)) PB):=hG.nx hal hP.lt
 have L00:Hid (LsE En21 21 (fun b=>b<PB) (w.alloc (.cells #[.int .i64 5,.string x.name,.slice a1 x.cols.length c1,.slice p1 x.query.parts.length d1,.slice p2 x.query.ops.length d2,.slice p3 x.query.order.length d3,.int .i64 x.query.limit,.slice a2 x.rows.length c2,.bool x.hasWhere,.int .i64 x.wher.k,.int .i64 x.wher.v.1,.int .i64 x.wher.v.2.1,.string x.wher.v.2.2,.string x.wher.tab,.string x.wher.name,.slice a3 x.wher.ks.length c3] 57)) p1 x.query.parts):=(k2).nx en21 hal
 have L01:Hid (LsE EnI 1 (fun b=>b<PB) (w.alloc (.cells #[.int .i64 5,.string x.name,.slice a1 x.cols.length c1,.slice p1 x.query.parts.length d1,.slice p2 x.query.ops.length d2,.slice p3 x.query.order.length d3,.int .i64 x.query.limit,.slice a2 x.rows.length c2,.bool x.hasWhere,.int .i64 x.wher.k,.int .i64 x.wher.v.1,.int .i64 x.wher.v.2.1,.string x.wher.v.2.2,.string x.wher.tab,.string x.wher.name,.slice a3 x.wher.ks.length c3] 57)) p2 x.query.ops):=(k3).nx enI hal
 have L02:Hid (LsE En7 7 (fun b=>b<PB) (w.alloc (.cells #[.int .i64 5,.string x.name,.slice a1 x.cols.length c1,.slice p1 x.query.parts.length d1,.slice p2 x.query.ops.length d2,.slice p3 x.query.order.length d3,.int .i64 x.query.limit,.slice a2 x.rows.length c2,.bool x.hasWhere,.int .i64 x.wher.k,.int .i64 x.wher.v.1,.int .i64 x.wher.v.2.1,.string x.wher.v.2.2,.string x.wher.tab,.string x.wher.name,.slice a3 x.wher.ks.length c3] 57)) p3 x.query.order):=(k4).nx en7 hal;clear hP hG hal k2 k3 k4;go_enter Tryz.func32,Tryz.ntmps32;go_upto_region 1 with fail
 generalize (w.alloc (.cells #[.int .i64 5,.string x.name,.slice a1 x.cols.length c1,.slice p1 x.query.parts.length d1,.slice p2 x.query.ops.length d2,.slice p3 x.query.order.length d3,.int .i64 x.query.limit,.slice a2 x.rows.length c2,.bool x.hasWhere,.int .i64 x.wher.k,.int .i64 x.wher.v.1,.int .i64 x.wher.v.2.1,.string x.wher.v.2.2,.string x.wher.tab,.string x.wher.name,.slice a3 x.wher.ks.length c3] 57))=w0 at *;have f1:w0.cell? ⟨w.heap.size,0,none⟩=some (.int .i64 5):=B0.out.c 0 rfl
 have con2:Calls Tryz.prog 57 #[.pointer (some ⟨PB,0,none⟩),.slice (some ⟨w0.heap.size,0,none⟩) 1 1] (w0.alloc (.cells #[.string ⟨#[115,104,111,119]⟩] 9)) (PEnds w0 PB v (sayL bs ([⟨#[115,104,111,119]⟩]))):=say_new [⟨#[115,104,111,119]⟩] P0.out (lea (lea (Hb.out))) (by simp);go_wp2_with fail
 refine con2.mono ?_;rintro e w3 ⟨rfl,v4,P_,S_⟩;have P5:Hid (PrAt w3 PB v4 (sayL bs ([⟨#[115,104,111,119]⟩]))):=P_;have S6:Hid (St PB v w v4 w3):=S0.out.trans S_;have G7:Hid (GP w3 PB):=G0.out.st S_
 have B8:Hid (Bx w3 PB v4 (w.heap.size) #[.int .i64 5,.string x.name,.slice a1 x.cols.length c1,.slice p1 x.query.parts.length d1,.slice p2 x.query.ops.length d2,.slice p3 x.query.order.length d3,.int .i64 x.query.limit,.slice a2 x.rows.length c2,.bool x.hasWhere,.int .i64 x.wher.k,.int .i64 x.wher.v.1,.int .i64 x.wher.v.2.1,.string x.wher.v.2.2,.string x.wher.tab,.string x.wher.name,.slice a3 x.wher.ks.length c3] 57):=B0.out.st S_;have L9:Hid (LsE En21 21 (fun b=>b<PB) w3 p1 x.query.parts):=(L00.out).stp en21 S_;have L10:Hid (LsE EnI 1 (fun b=>b<PB) w3 p2 x.query.ops):=(L01.out).stp enI S_
 have L11:Hid (LsE En7 7 (fun b=>b<PB) w3 p3 x.query.order):=(L02.out).stp en7 S_;clear con2 P_ S_ f1 P0 S0 G0 B0 L00 L01 L02;have f12:w3.cell? ⟨w.heap.size,3,none⟩=some (.slice p1 x.query.parts.length d1):=B8.out.c 3 rfl;have f13:w3.cell? ⟨w.heap.size,4,none⟩=some (.slice p2 x.query.ops.length d2):=B8.out.c 4 rfl;have f14:w3.cell? ⟨w.heap.size,5,none⟩=some (.slice p3 x.query.order.length d3):=B8.out.c 5 rfl;have f15:w3.cell? ⟨w.heap.size,6,none⟩=some (.int .i64 x.query.limit):=B8.out.c 6 rfl
 have con16:Calls Tryz.prog 60 #[.pointer (some ⟨PB,0,none⟩),.agg #[.slice p1 x.query.parts.length d1,.slice p2 x.query.ops.length d2,.slice p3 x.query.order.length d3,.int .i64 x.query.limit]] w3 (PEnds w3 PB v4 (sayL (sayL bs ([⟨#[115,104,111,119]⟩])) (qryW x.query))):=query2_at x.query HO.out p1 p2 p3 d1 d2 d3 (G7.out) (P5.out) L9.out L10.out L11.out (by rw [← sayL_app]; exact lea (Hb.out));go_wp2_with fail
 refine con16.mono ?_;rintro e w17 ⟨rfl,v18,P_,S_⟩;have P19:Hid (PrAt w17 PB v18 (sayL bs ([⟨#[115,104,111,119]⟩] ++ qryW x.query))):=by show PrAt _ _ _ _; rw [sayL_app]; exact P_
 have S20:Hid (St PB v w v18 w17):=S6.out.trans S_;have G21:Hid (GP w17 PB):=G7.out.st S_;have B22:Hid (Bx w17 PB v18 (w.heap.size) #[.int .i64 5,.string x.name,.slice a1 x.cols.length c1,.slice p1 x.query.parts.length d1,.slice p2 x.query.ops.length d2,.slice p3 x.query.order.length d3,.int .i64 x.query.limit,.slice a2 x.rows.length c2,.bool x.hasWhere,.int .i64 x.wher.k,.int .i64 x.wher.v.1,.int .i64 x.wher.v.2.1,.string x.wher.v.2.2,.string x.wher.tab,.string x.wher.name,.slice a3 x.wher.ks.length c3] 57):=B8.out.st S_
 have L23:Hid (LsE En21 21 (fun b=>b<PB) w17 p1 x.query.parts):=(L9.out).stp en21 S_;have L24:Hid (LsE EnI 1 (fun b=>b<PB) w17 p2 x.query.ops):=(L10.out).stp enI S_;have L25:Hid (LsE En7 7 (fun b=>b<PB) w17 p3 x.query.order):=(L11.out).stp en7 S_;clear con16 P_ S_ f12 f13 f14 f15 P5 S6 G7 B8 L9 L10 L11
 have con26:Calls Tryz.prog 57 #[.pointer (some ⟨PB,0,none⟩),.slice (some ⟨w17.heap.size,0,none⟩) 1 1] (w17.alloc (.cells #[.string ⟨#[59]⟩] 9)) (PEnds w17 PB v18 (sayL (sayL bs ([⟨#[115,104,111,119]⟩] ++ qryW x.query)) ([⟨#[59]⟩]))):=say_new [⟨#[59]⟩] P19.out (by rw [← sayL_app]; exact Hb.out) (by simp);go_wp2_with fail
 refine con26.mono ?_;rintro e w27 ⟨rfl,v28,P_,S_⟩;have P29:Hid (PrAt w27 PB v28 (sayL bs ([⟨#[115,104,111,119]⟩] ++ qryW x.query ++ [⟨#[59]⟩]))):=by show PrAt _ _ _ _; rw [sayL_app]; exact P_
 have S30:Hid (St PB v w v28 w27):=S20.out.trans S_;have G31:Hid (GP w27 PB):=G21.out.st S_;have B32:Hid (Bx w27 PB v28 (w.heap.size) #[.int .i64 5,.string x.name,.slice a1 x.cols.length c1,.slice p1 x.query.parts.length d1,.slice p2 x.query.ops.length d2,.slice p3 x.query.order.length d3,.int .i64 x.query.limit,.slice a2 x.rows.length c2,.bool x.hasWhere,.int .i64 x.wher.k,.int .i64 x.wher.v.1,.int .i64 x.wher.v.2.1,.string x.wher.v.2.2,.string x.wher.tab,.string x.wher.name,.slice a3 x.wher.ks.length c3] 57):=B22.out.st S_
 have L33:Hid (LsE En21 21 (fun b=>b<PB) w27 p1 x.query.parts):=(L23.out).stp en21 S_;have L34:Hid (LsE EnI 1 (fun b=>b<PB) w27 p2 x.query.ops):=(L24.out).stp enI S_;have L35:Hid (LsE En7 7 (fun b=>b<PB) w27 p3 x.query.order):=(L25.out).stp en7 S_;clear con26 P_ S_  P19 S20 G21 B22 L23 L24 L25;go_wp2_with fail
 go_end0
 exact ⟨rfl,v28,P29.out,S30.out⟩
theorem statement2_at (x:Stm) (ok:OkSt x) (a1 p1 p2 p3 a2 a3:Option Addr) (c1 d1 d2 d3 c2 c3:Nat) {PB:Nat} {v:Value} {bs:List UInt8} {w:World} (hG:GP w PB) (hP:PrAt w PB v bs) (k1:LsE En2 2 (fun b=>b<PB) w a1 x.cols) (k2:LsE En21 21 (fun b=>b<PB) w p1 x.query.parts) (k3:LsE EnI 1 (fun b=>b<PB) w p2 x.query.ops) (k4:LsE En7 7 (fun b=>b<PB) w p3 x.query.order) (k5:LsE (EnL En3 3) 1 (fun b=>b<PB) w a2 x.rows) (k6:SsS (fun b=>b<PB) w a3 x.wher.ks) (hb:(sayL bs (stmW x)).length≤Lim):Calls Tryz.prog 32 #[.pointer (some ⟨PB,0,none⟩),.agg #[.int .i64 x.kind,.string x.name,.slice a1 x.cols.length c1,.slice p1 x.query.parts.length d1,.slice p2 x.query.ops.length d2,.slice p3 x.query.order.length d3,.int .i64 x.query.limit,.slice a2 x.rows.length c2,.bool x.hasWhere,.int .i64 x.wher.k,.int .i64 x.wher.v.1,.int .i64 x.wher.v.2.1,.string x.wher.v.2.2,.string x.wher.tab,.string x.wher.name,.slice a3 x.wher.ks.length c3]] w (PEnds w PB v (sayL bs (stmW x))):=by
 have hk:=ok.kind;have hc:x.kind=1∨x.kind=2∨x.kind=3∨x.kind=4∨x.kind=5:=by omega
 rcases hc with e | e | e | e | e
 ·have es:stmW x = [⟨#[99,114,101,97,116,101]⟩,⟨#[116,97,98,108,101]⟩,x.name,⟨#[40]⟩] ++ lisW colmW x.cols ++ [⟨#[41]⟩] ++ [⟨#[59]⟩]:=by unfold stmW; rw [if_pos e]
  rw [es] at hb ⊢;rw [e];exact stm_1 x (ok.cols e) a1 p1 p2 p3 a2 a3 c1 d1 d2 d3 c2 c3 hG hP k1 hb
 ·have es:stmW x = [⟨#[99,114,101,97,116,101]⟩,⟨#[118,105,101,119]⟩,x.name,⟨#[97,115]⟩] ++ qryW x.query ++ [⟨#[59]⟩]:=by unfold stmW; rw [if_neg (by omega),if_pos e]
  rw [es] at hb ⊢;rw [e];exact stm_2 x (ok.query (.inl e)) a1 p1 p2 p3 a2 a3 c1 d1 d2 d3 c2 c3 hG hP k2 k3 k4 hb
 ·have es:stmW x = [⟨#[105,110,115,101,114,116]⟩,⟨#[105,110,116,111]⟩,x.name,⟨#[118,97,108,117,101,115]⟩] ++ lisW rowW x.rows ++ [⟨#[59]⟩]:=by unfold stmW; rw [if_neg (by omega),if_neg (by omega),if_pos e]
  rw [es] at hb ⊢;rw [e];exact stm_3 x (ok.rows e) a1 p1 p2 p3 a2 a3 c1 d1 d2 d3 c2 c3 hG hP k5 hb
 ·have es:stmW x = [⟨#[100,101,108,101,116,101]⟩,⟨#[102,114,111,109]⟩,x.name] ++ behX ⟨#[119,104,101,114,101]⟩ x.hasWhere x.wher ++ [⟨#[59]⟩]:=by unfold stmW; rw [if_neg (by omega),if_neg (by omega),if_neg (by omega),if_pos e]
  rw [es] at hb ⊢;rw [e];exact stm_4 x (ok.wher e) a1 p1 p2 p3 a2 a3 c1 d1 d2 d3 c2 c3 hG hP k6 hb
 ·have es:stmW x = [⟨#[115,104,111,119]⟩] ++ qryW x.query ++ [⟨#[59]⟩]:=by unfold stmW; rw [if_neg (by omega),if_neg (by omega),if_neg (by omega),if_neg (by omega),if_pos e]
  rw [es] at hb ⊢;rw [e];exact stm_5 x (ok.query (.inr e)) a1 p1 p2 p3 a2 a3 c1 d1 d2 d3 c2 c3 hG hP k2 k3 k4 hb

theorem sq0 {a b:Int} (h:sqE a b=0):a=0∧b=0:=by
 unfold sqE at h;by_cases e:a=0
 ·rw [if_pos e] at h; exact ⟨e,h⟩
 ·rw [if_neg e] at h; exact absurd h e
theorem valOk_of {v:Vl} (h:valC v=0):ValOk v:=by
 unfold valC at h;by_cases h1:v.1=1
 ·exact ⟨by omega,by omega,fun _=>by omega,fun _=>by omega⟩
 rw [if_neg h1] at h;by_cases h2:v.1=2
 ·exact ⟨by omega,by omega,fun _=>by omega,fun _=>by omega⟩
 rw [if_neg h2] at h;by_cases h3:v.1=3
 ·rw [if_pos h3] at h;by_cases hi:inrB v.2.1=true
  ·have hi':=hi;simp only [inrB,Bool.and_eq_true,decide_eq_true_eq] at hi';exact ⟨by omega,by omega,fun _=>hi',fun _=>by omega⟩
  ·rw [if_neg hi] at h; exact absurd h (by decide)
 rw [if_neg h3] at h;by_cases h4:v.1=4
 ·rw [if_pos h4] at h;by_cases hs:v.2.2.size > 60
  ·rw [if_pos hs] at h; exact absurd h (by decide)
  ·exact ⟨by omega,by omega,fun _=>by omega,fun _=>by omega⟩
 ·rw [if_neg h4] at h; exact absurd h (by decide)
mutual
/-- How many nodes an expression has. -/
def nX:SX→Nat
 | .mk _ _ _ _ ks=>1+nXs ks
def nXs:List SX→Nat
 | []=>0
 | x :: r=>nX x+nXs r
end
inductive RtX:SX→Prop
 | mk {k:Int} {v:Vl} {t n:ByteArray} {ks:List SX}:1≤k→k≤23→ks.length=kidsC k→kindC (.mk k v t n ks)=0→(∀ y ∈ ks,RtX y)→RtX (.mk k v t n ks)
theorem RtX.ok {x:SX} (h:RtX x):OkX x:=by
 induction h with
 | @mk k v t n ks h1 h2 h3 h4 _ ih =>
  refine .mk h1 h2 h3 (fun e=>valOk_of ?_) ih;unfold kindC at h4;rw [if_pos (show (SX.mk k v t n ks).k=1 from e)] at h4;exact h4
theorem fold_ok {g:SX→Int→Int × Int} {P:SX→Prop} (hg:∀ y n,(g y n).1=0→P y∧(g y n).2=n+nX y∧(g y n).2≤200):∀ (ks:List SX) (n:Int),n≤200→(foldC g ks n).1=0→(∀ y ∈ ks,P y)∧(foldC g ks n).2=n+nXs ks∧(foldC g ks n).2≤200
 | [],n,hn,_=>⟨by simp,by rw [nXs]; simp [foldC],hn⟩
 | y :: r,n,hn,h=>by
  rw [foldC] at h ⊢
  by_cases e:(g y n).1=0
  ·rw [if_pos e] at h ⊢
   obtain ⟨p1,p2,p3⟩:=hg y n e
   obtain ⟨q1,q2,q3⟩:=fold_ok hg r _ p3 h
   refine ⟨?_,by rw [q2,p2,nXs]; push_cast; omega,q3⟩
   intro z hz
   rcases List.mem_cons.1 hz with rfl | hz
   ·exact p1
   ·exact q1 z hz
  ·rw [if_neg e] at h; exact absurd h e
theorem node_rt:∀ (f:Nat) (x:SX) (d n:Int),(nodeC f x d n).1=0→RtX x∧(nodeC f x d n).2=n+nX x∧(nodeC f x d n).2≤200
 | 0,x,d,n,h=>by rw [nodeC] at h; exact absurd h (by simp)
 | f+1,.mk k v t nm ks,d,n,h=>by
  rw [nodeC] at h ⊢
  by_cases h1:n+1≤200∧d≤20
  ·rw [if_neg (by simpa using h1)] at h ⊢
   by_cases h2:1≤(SX.mk k v t nm ks).k∧(SX.mk k v t nm ks).k≤23
   ·rw [if_neg (by simpa using h2)] at h ⊢
    by_cases h3:(SX.mk k v t nm ks).ks.length=kidsC (SX.mk k v t nm ks).k
    ·rw [if_neg (by simpa using h3)] at h ⊢
     by_cases h4:kindC (SX.mk k v t nm ks)=0
     ·rw [if_neg (by simpa using h4)] at h ⊢
      obtain ⟨q1,q2,q3⟩:=fold_ok (fun y m=>node_rt f y (d+1) m) _ _ h1.1 h
      exact ⟨.mk h2.1 h2.2 h3 h4 q1,by rw [q2,nX]; show _=n+((1+nXs ks:Nat):Int); push_cast; show n+1+(nXs ks:Int)=_; omega,q3⟩
     ·rw [if_pos h4] at h; exact absurd h h4
    ·rw [if_pos h3] at h; exact absurd h (by simp)
   ·rw [if_pos h2] at h; exact absurd h (by simp)
  ·rw [if_pos h1] at h; exact absurd h (by simp)
theorem expr_rt {x:SX} (h:exprC x=0):RtX x∧nX x≤200:=by
 obtain ⟨h1,h2,h3⟩:=node_rt 21 x 1 0 h;exact ⟨h1,by omega⟩
theorem exprs_rt:∀ {l:List SX},exprsC l=0→∀ x ∈ l,RtX x∧nX x≤200
 | [],_=>by simp
 | y :: r,h=>by
  rw [exprsC] at h
  obtain ⟨h1,h2⟩:=sq0 h
  intro x hx
  rcases List.mem_cons.1 hx with rfl | hx
  ·exact expr_rt h1
  ·exact exprs_rt h2 x hx
theorem exprIf_rt {b:Bool} {x:SX} (h:exprIfC b x=0) (e:b=true):RtX x∧nX x≤200:=by subst e; exact expr_rt h
theorem items_rt:∀ {l:List Itm},itemsL l=0→∀ x ∈ l,(RtX x.1∧nX x.1≤200)∧maybeC x.2=0
 | [],_=>by simp
 | y :: r,h=>by
  rw [itemsL] at h
  obtain ⟨h1,h2⟩:=sq0 h
  obtain ⟨h2,h3⟩:=sq0 h2
  intro x hx
  rcases List.mem_cons.1 hx with rfl | hx
  ·exact ⟨expr_rt h1,h2⟩
  ·exact items_rt h3 x hx
structure RtSrc (first:Bool) (x:Src):Prop where
 name:nameC x.name=0
 alias:maybeC x.alias=0
 on:first=false→RtX x.on∧nX x.on≤200
theorem source_rt {first:Bool} {x:Src} (h:sourceC first x=0):RtSrc first x:=by
 unfold sourceC at h;obtain ⟨_,h⟩:=sq0 h;obtain ⟨h1,h⟩:=sq0 h;obtain ⟨h2,h⟩:=sq0 h;obtain ⟨h3,_⟩:=sq0 h;exact ⟨h1,h2,fun e=>exprIf_rt h3 (by subst e; rfl)⟩
theorem sources_rt:∀ {l:List Src} {first:Bool},sourcesL first l=0→∀ (i:Nat) (h:i<l.length),RtSrc (first && i == 0) l[i]
 | [],_,_=>by simp
 | y :: r,first,h=>by
  rw [sourcesL] at h
  obtain ⟨h1,h2⟩:=sq0 h
  intro i hi
  match i,hi with
  | 0,_=>simpa using source_rt h1
  | i+1,hi =>
   have:=sources_rt h2 i (by simpa using hi)
   simpa using this
structure RtSel (x:Sel):Prop where
 items:x.star=false→x.items.length≤8∧∀ y ∈ x.items,(RtX y.1∧nX y.1≤200)∧maybeC y.2=0
 sources:x.sources.length≤4∧∀ (i:Nat) (h:i<x.sources.length),RtSrc (i == 0) x.sources[i]
 wher:x.hasWhere=true→RtX x.wher∧nX x.wher≤200
 having:x.hasHaving=true→RtX x.having∧nX x.having≤200
 group:x.group.length≤8∧∀ y ∈ x.group,RtX y∧nX y≤200
theorem sel_rt {x:Sel} (h:selC x=0):RtSel x:=by
 unfold selC at h;obtain ⟨h1,h⟩:=sq0 h;obtain ⟨h2,h⟩:=sq0 h;obtain ⟨h3,h⟩:=sq0 h;obtain ⟨h4,h⟩:=sq0 h;unfold selR at h;obtain ⟨h5,h⟩:=sq0 h;obtain ⟨h6,h⟩:=sq0 h;obtain ⟨h7,_⟩:=sq0 h;refine ⟨fun e=>?_,⟨by have:=cnt_le h1; omega,fun i hi=>by have:=sources_rt h4 i hi; simpa using this⟩,exprIf_rt h5,exprIf_rt h7,by have:=cnt_le h2; omega,exprs_rt h6⟩;unfold itemsIf at h3;rw [e] at h3;rw [if_neg (by decide)] at h3;unfold itemsC at h3;obtain ⟨g1,g2⟩:=sq0 h3;obtain ⟨g2,_⟩:=sq0 g2;exact ⟨by have:=cnt_le g1; omega,items_rt g2⟩
theorem RtSel.ok {x:Sel} (h:RtSel x):OkSel x :=
 ⟨fun e=>⟨by have:=(h.items e).1; omega,fun y hy=>((h.items e).2 y hy).1.1.ok⟩,⟨by have:=h.sources.1; omega,fun i hi h0=>(((h.sources.2 i hi).on (by rw [beq_eq_false_iff_ne]; omega)).1).ok⟩,fun e=>(h.wher e).1.ok,fun e=>(h.having e).1.ok,by have:=h.group.1; omega,fun y hy=>(h.group.2 y hy).1.ok⟩
theorem parts_rt {ops:List Int}:∀ {l:List Sel} {j:Nat},partsL ops j l=0→(∀ x ∈ l,RtSel x)∧∀ i,i<l.length→j+i≠0→1≤ops.getD (j+i - 1) 0∧ops.getD (j+i - 1) 0≤4
 | [],_,_=>by simp
 | y :: r,j,h=>by
  rw [partsL] at h
  obtain ⟨h1,h⟩:=sq0 h
  obtain ⟨h2,h3⟩:=sq0 h
  obtain ⟨q1,q2⟩:=parts_rt h3
  refine ⟨?_,?_⟩
  ·intro x hx
   rcases List.mem_cons.1 hx with rfl | hx
   ·exact sel_rt h2
   ·exact q1 x hx
  ·intro i hi h0
   match i,hi with
   | 0,_ =>
    rw [if_neg (by omega)] at h1
    unfold opC at h1
    simp only [Nat.add_zero]
    by_cases hc:(decide (1≤ops.getD (j - 1) 0) && decide (ops.getD (j - 1) 0≤4))=true
    ·simpa using hc
    ·rw [if_neg hc] at h1; exact absurd h1 (by decide)
   | i+1,hi =>
    have:=q2 i (by simpa using hi) (by omega)
    rw [show j+(i+1) - 1=j+1+i - 1 by omega]
    exact this
structure RtQ (q:Qry):Prop where
 parts:q.parts.length≤4∧∀ y ∈ q.parts,RtSel y
 ops:q.parts.length=q.ops.length+1∧∀ i,i<q.ops.length→1≤q.ops.getD i 0∧q.ops.getD i 0≤4
 order:0≤q.limit→q.order.length≤8∧∀ y ∈ q.order,RtX y∧nX y≤200
 limit:q.limit≤50
theorem qry_rt {q:Qry} (h:qryC q=0):RtQ q:=by
 unfold qryC at h;obtain ⟨h1,h⟩:=sq0 h;obtain ⟨h2,h⟩:=sq0 h;obtain ⟨h3,h⟩:=sq0 h;obtain ⟨h4,h⟩:=sq0 h;obtain ⟨h5,h⟩:=sq0 h;obtain ⟨h6,_⟩:=sq0 h;have g1:=cnt_le h1;have g2:=cnt_le h2;obtain ⟨p1,p2⟩:=parts_rt h5;refine ⟨⟨by omega,p1⟩,⟨by omega,fun i hi=>?_⟩,fun hl=>⟨?_,?_⟩,?_⟩
 ·have:=p2 (i+1) (by omega) (by omega)
  simpa using this
 ·unfold ordC at h3;rw [if_pos hl] at h3;have:=cnt_le h3;omega
 ·unfold ordE at h6;rw [if_pos hl] at h6;exact exprs_rt h6
 ·unfold limC at h4;by_cases e:q.limit≤50
  ·exact e
  ·rw [if_neg e] at h4; exact absurd h4 (by decide)
theorem RtQ.ok {q:Qry} (h:RtQ q):OkQ q :=
 ⟨⟨by have:=h.parts.1; omega,fun y hy=>(h.parts.2 y hy).ok⟩,⟨by have:=h.ops.1; omega,fun y hy=>by
  obtain ⟨i,hi,rfl⟩:=List.mem_iff_getElem.1 hy
  have:=h.ops.2 i hi
  simpa [List.getD,hi] using this⟩,fun hl=>⟨by have:=(h.order hl).1; omega,fun y hy=>((h.order hl).2 y hy).1.ok⟩,by have:=h.limit; omega⟩
theorem vals_rt:∀ {l:List Vl},valsL l=0→∀ x ∈ l,valC x=0
 | [],_=>by simp
 | y :: r,h=>by
  rw [valsL] at h
  obtain ⟨h1,h2⟩:=sq0 h
  intro x hx
  rcases List.mem_cons.1 hx with rfl | hx
  ·exact h1
  ·exact vals_rt h2 x hx
theorem rows_rt:∀ {l:List (List Vl)},rowsL l=0→∀ x ∈ l,x.length≤8∧∀ y ∈ x,valC y=0
 | [],_=>by simp
 | y :: r,h=>by
  rw [rowsL] at h
  obtain ⟨h1,h⟩:=sq0 h
  obtain ⟨h2,h3⟩:=sq0 h
  intro x hx
  rcases List.mem_cons.1 hx with rfl | hx
  ·exact ⟨by have:=cnt_le h1; omega,vals_rt h2⟩
  ·exact rows_rt h3 x hx
theorem cols_rt:∀ {l:List Col},colsL l=0→∀ x ∈ l,nameC x.1=0
 | [],_=>by simp
 | y :: r,h=>by
  rw [colsL] at h
  obtain ⟨h1,h⟩:=sq0 h
  obtain ⟨_,h3⟩:=sq0 h
  intro x hx
  rcases List.mem_cons.1 hx with rfl | hx
  ·exact h1
  ·exact cols_rt h3 x hx
structure RtSt (x:Stm):Prop where
 kind:1≤x.kind∧x.kind≤5
 name:x.kind≠5→nameC x.name=0
 cols:x.kind=1→x.cols.length≤8∧∀ y ∈ x.cols,nameC y.1=0
 query:x.kind=2∨x.kind=5→RtQ x.query
 rows:x.kind=3→x.rows.length≤400∧∀ l ∈ x.rows,l.length≤8∧∀ y ∈ l,valC y=0
 wher:x.kind=4→x.hasWhere=true→RtX x.wher∧nX x.wher≤200
theorem stm_rt {x:Stm} (h:stmC x=0):RtSt x:=by
 unfold stmC at h;obtain ⟨h1,h⟩:=sq0 h;obtain ⟨h2,h⟩:=sq0 h;obtain ⟨h3,_⟩:=sq0 h;have hk:1≤x.kind∧x.kind≤5:=by
  unfold kdS at h1;by_cases hc:(decide (1≤x.kind) && decide (x.kind≤5))=true
  ·simpa using hc
  ·rw [if_neg hc] at h1; exact absurd h1 (by decide)
 unfold kindS at h3;refine ⟨hk,fun e=>?_,fun e=>?_,fun e=>?_,fun e=>?_,fun e=>?_⟩
 ·unfold nameS at h2; rw [if_neg e] at h2; exact h2
 ·rw [if_pos e] at h3;unfold colsC at h3;obtain ⟨g1,g2⟩:=sq0 h3;exact ⟨by have:=cnt_le g1; omega,cols_rt (sq0 g2).1⟩
 ·rw [if_neg (by omega),if_neg (by omega),if_neg (by omega)] at h3;exact qry_rt h3
 ·rw [if_neg (by omega),if_pos e] at h3;unfold rowsC at h3;obtain ⟨g1,g2⟩:=sq0 h3;exact ⟨by have:=cnt_le g1; omega,rows_rt (sq0 g2).1⟩
 ·rw [if_neg (by omega),if_neg (by omega),if_pos e] at h3;exact exprIf_rt h3
theorem RtSt.ok {x:Stm} (h:RtSt x):OkSt x :=
 ⟨h.kind,fun e=>by have:=(h.cols e).1; omega,fun e=>(h.query e).ok,fun e=>⟨by have:=(h.rows e).1; omega,fun l hl=>⟨by have:=((h.rows e).2 l hl).1; omega,fun y hy=>valOk_of (((h.rows e).2 l hl).2 y hy)⟩⟩,fun e b=>(h.wher e b).1.ok⟩
end Go.Proofs.YtoknmnngaackkaaGreatDoor
