/- Together: BQ, BR, BS, BT, BU, BV, BW, BX, CD. -/
import Derived.Deep.DeepCutAuto
import Derived.Deep.CutBlock
import Derived.Test.YtoknmnngaackkaaGreatDoorJQ6
import Derived.Test.YtoknmnngaackkaaGreatDoorJQ0
namespace Go.Proofs.YtoknmnngaackkaaGreatDoor
open Go.RowKit Go.Lib Go.Shelf
set_option maxRecDepth 100000
set_option maxHeartbeats 16000000
set_option maxRecDepth 100000
set_option maxHeartbeats 8000000
def iJ (x:cW):Int:=if x.kind=1 then mo x.bx else if x.kind=3 then lE x.rows else if x.kind=4 then dx x.aB x.ah else lG x.query
def jG (x:cW):Int:=if x.kind=5 then 0 else dB x.name
def xP (k:Int):Int:=if decide (1≤k) && decide (k≤5) then 0 else 1
def hH (x:cW):Int:=dy (xP x.kind) (dy (jG x) (dy (iJ x) 0))
theorem ng (x:cW) (a1 p1 p2 p3 a2 a3:Option Addr) (c1 d1 d2 d3 c2 c3:Nat) (S:Nat→Prop) (at_:Int) (w:World) (h1:aI iq 2 S w a1 x.bx) (h2:aI b7 21 S w p1 x.query.parts) (h3:aI fJ 1 S w p2 x.query.ops) (h4:aI bO 7 S w p3 x.query.order) (h5:aI (bo eU 3) 1 S w a2 x.rows) (h6:aD S w a3 x.ah.ks):Calls Tryz.prog 38 #[.agg #[.int .i64 at_],.agg (du x.kind x a1 c1 p1 d1 p2 d2 p3 d3 a2 c2 a3 c3)] w (fZ w at_ (hH x)):=by
 have hal1:=ab w (.cells #[.int .i64 at_] 86);have hal2:Below (w.alloc (.cells #[.int .i64 at_] 86)).heap.size (w.alloc (.cells #[.int .i64 at_] 86)) ((w.alloc (.cells #[.int .i64 at_] 86)).alloc (.cells (du x.kind x a1 c1 p1 d1 p2 d2 p3 d3 a2 c2 a3 c3) 57)):=(CY _ _).alloc (CX _) _
 have QC:((w.alloc (.cells #[.int .i64 at_] 86)).alloc (.cells (du x.kind x a1 c1 p1 d1 p2 d2 p3 d3 a2 c2 a3 c3) 57)).heap[w.heap.size]? = some (.cells #[.int .i64 at_] 86 (0,0)):=(hal2.block _ (lt_of_heap (ar w #[.int .i64 at_] 86))).trans (ar w _ _);have QX:((w.alloc (.cells #[.int .i64 at_] 86)).alloc (.cells (du x.kind x a1 c1 p1 d1 p2 d2 p3 d3 a2 c2 a3 c3) 57)).heap[w.heap.size+1]? = some (.cells (du x.kind x a1 c1 p1 d1 p2 d2 p3 d3 a2 c2 a3 c3) 57 (0,0)):=by
  rw [show w.heap.size+1=(w.alloc (.cells #[.int .i64 at_] 86)).heap.size by simp];exact ar _ _ _
 have hal:=chain hal1 hal2;clear hal1 hal2;generalize hM:hH x=M;have HM0:Hid _:=hM;clear hM;have HK1:Hid ((bo iq 2) (fun _=>True) ((w.alloc (.cells #[.int .i64 at_] 86)).alloc (.cells (du x.kind x a1 c1 p1 d1 p2 d2 p3 d3 a2 c2 a3 c3) 57)) x.bx [.slice a1 x.bx.length c1]):=(bd je 2).next (ay.of hal) ((bd je 2).mono (fun _ _ _=>trivial) ⟨a1,c1,rfl,h1⟩)
 have HK2:Hid ((bo b7 21) (fun _=>True) ((w.alloc (.cells #[.int .i64 at_] 86)).alloc (.cells (du x.kind x a1 c1 p1 d1 p2 d2 p3 d3 a2 c2 a3 c3) 57)) x.query.parts [.slice p1 x.query.parts.length d1]):=(bd cf 21).next (ay.of hal) ((bd cf 21).mono (fun _ _ _=>trivial) ⟨p1,d1,rfl,h2⟩);have HK3:Hid ((bo fJ 1) (fun _=>True) ((w.alloc (.cells #[.int .i64 at_] 86)).alloc (.cells (du x.kind x a1 c1 p1 d1 p2 d2 p3 d3 a2 c2 a3 c3) 57)) x.query.ops [.slice p2 x.query.ops.length d2]):=(bd fV 1).next (ay.of hal) ((bd fV 1).mono (fun _ _ _=>trivial) ⟨p2,d2,rfl,h3⟩)
 have HK4:Hid ((bo bO 7) (fun _=>True) ((w.alloc (.cells #[.int .i64 at_] 86)).alloc (.cells (du x.kind x a1 c1 p1 d1 p2 d2 p3 d3 a2 c2 a3 c3) 57)) x.query.order [.slice p3 x.query.order.length d3]):=(bd bX 7).next (ay.of hal) ((bd bX 7).mono (fun _ _ _=>trivial) ⟨p3,d3,rfl,h4⟩);have HK5:Hid ((bo (bo eU 3) 1) (fun _=>True) ((w.alloc (.cells #[.int .i64 at_] 86)).alloc (.cells (du x.kind x a1 c1 p1 d1 p2 d2 p3 d3 a2 c2 a3 c3) 57)) x.rows [.slice a2 x.rows.length c2]):=(bd (bd fP 3) 1).next (ay.of hal) ((bd (bd fP 3) 1).mono (fun _ _ _=>trivial) ⟨a2,c2,rfl,h5⟩)
 have HK6:Hid (bO (fun _=>True) ((w.alloc (.cells #[.int .i64 at_] 86)).alloc (.cells (du x.kind x a1 c1 p1 d1 p2 d2 p3 d3 a2 c2 a3 c3) 57)) x.ah [.int .i64 x.ah.k,.int .i64 x.ah.v.1,.int .i64 x.ah.v.2.1,.string x.ah.v.2.2,.string x.ah.aH,.string x.ah.name,.slice a3 x.ah.ks.length c3]):=bX.next (ay.of hal) (bX.mono (fun _ _ _=>trivial) ⟨a3,c3,rfl,h6⟩);go_enter Tryz.func38,Tryz.ntmps38;go_upto_region 1 with fail
 generalize ((w.alloc (.cells #[.int .i64 at_] 86)).alloc (.cells (du x.kind x a1 c1 p1 d1 p2 d2 p3 d3 a2 c2 a3 c3) 57))=w1 at *;have hm:=HM0.out;rw [hH] at hm;have HMa:Hid _:=hm;clear hm HM0 h1 h2 h3 h4 h5 h6;have k7:w1.cell? ⟨w.heap.size,0,none⟩=some (.int .i64 at_):=cell_of (i:=0) QC rfl;have k8:w1.cell? ⟨w.heap.size+1,0,none⟩=some (.int .i64 x.kind):=cell_of (i:=0) QX rfl;have hcs:(1≤x.kind∧x.kind≤5)∨((1≤x.kind∧¬ x.kind≤5)∨¬ 1≤x.kind):=by omega
 obtain ⟨g1,g2⟩ | hbad:=hcs
 case inr =>
  have HR:Hid (M=1):=by
   show _=_;have:=HMa.out;rw [xP] at this;rcases hbad with ⟨g1,g2⟩ | g1
   ·rw [decide_eq_true g1,decide_eq_false g2,if_neg (by decide),cZ (by decide)] at this; exact this.symm
   ·rw [decide_eq_false g1,Bool.false_and,if_neg (by decide),cZ (by decide)] at this; exact this.symm
  have con:=dv 1 at_ w1;clear HMa;rcases hbad with ⟨g1,g2⟩ | g1
  all_goals
   go_wp2_with fail
   refine con.mono ?_;rintro e wq ⟨rfl,hbq⟩;go_wp2_with fail
   exact ⟨rfl,.bad (chain hal hbq) HR.out (by decide)⟩
 have hm:=HMa.out;rw [xP,decide_eq_true g1,decide_eq_true g2,if_pos (by decide),cg] at hm;have HMb:Hid _:=hm;have con:=fA 1 at_ w1;clear hm HMa;go_wp2_with fail
 refine con.mono ?_;rintro e wq ⟨rfl,hbq⟩;clear con k7 k8;have hx9:Below w.heap.size w wq:=chain hal hbq;have QC10:=(hbq.block _ (lt_of_heap QC)).trans QC;have QX11:=(hbq.block _ (lt_of_heap QX)).trans QX;have HK12:Hid ((bo iq 2) (fun _=>True) wq x.bx [.slice a1 x.bx.length c1]):=(bd je 2).next (ay.of hbq) HK1.out;have HK13:Hid ((bo b7 21) (fun _=>True) wq x.query.parts [.slice p1 x.query.parts.length d1]):=(bd cf 21).next (ay.of hbq) HK2.out
 have HK14:Hid ((bo fJ 1) (fun _=>True) wq x.query.ops [.slice p2 x.query.ops.length d2]):=(bd fV 1).next (ay.of hbq) HK3.out;have HK15:Hid ((bo bO 7) (fun _=>True) wq x.query.order [.slice p3 x.query.order.length d3]):=(bd bX 7).next (ay.of hbq) HK4.out;have HK16:Hid ((bo (bo eU 3) 1) (fun _=>True) wq x.rows [.slice a2 x.rows.length c2]):=(bd (bd fP 3) 1).next (ay.of hbq) HK5.out
 have HK17:Hid (bO (fun _=>True) wq x.ah [.int .i64 x.ah.k,.int .i64 x.ah.v.1,.int .i64 x.ah.v.2.1,.string x.ah.v.2.2,.string x.ah.aH,.string x.ah.name,.slice a3 x.ah.ks.length c3]):=bX.next (ay.of hbq) HK6.out;have k18:wq.cell? ⟨w.heap.size,0,none⟩=some (.int .i64 at_):=cell_of (i:=0) QC10 rfl;have k19:wq.cell? ⟨w.heap.size+1,0,none⟩=some (.int .i64 x.kind):=cell_of (i:=0) QX11 rfl;have k20:wq.cell? ⟨w.heap.size+1,1,none⟩=some (.string x.name):=cell_of (i:=1) QX11 rfl;go_upto_if 16 with fail
 go_cut [] (fun wc=>Hid (dy (iJ x) 0=M)∧Below wq.heap.size wq wc)
 case first =>
  by_cases h5:x.kind=5
  ·have b5:(x.kind != 5)=false:=by simpa using h5
   have hm:=HMb.out;rw [jG,if_pos h5,cg] at hm;have HMc:Hid _:=hm;clear hm HMb h5;go_wp2_with fail
   go_meet
   case rel=>exact ⟨HMc,CY _ _⟩
  ·have b5:(x.kind != 5)=true:=by simpa using h5
   have hm:=HMb.out;rw [jG,if_neg h5] at hm;have con:=jl x.name at_ wq;generalize dB x.name=rk at hm con;have HMc:Hid _:=hm;clear hm HMb h5;go_wp2_with fail
   refine con.mono ?_;rintro e we ⟨hbe,⟨h,rfl⟩ | ⟨h,rfl⟩⟩
   ·subst h;have hm:=HMc.out;rw [cg] at hm;have HMd:Hid _:=hm;clear hm HMc;go_wp2_with fail
    go_meet
    case rel=>exact ⟨HMd,hbe⟩
   ·have HR:Hid (rk=M):=by have:=HMc.out; rw [cZ h] at this; exact this
    clear HMc;go_wp2_with fail
    exact ⟨rfl,.bad (chain hx9 hbe) HR.out.symm h⟩
 case rest =>
  clear HMb k18 k19 k20;obtain ⟨HMc,hbc⟩:=hcut;have hx2021:Below w.heap.size w wc:=chain hx9 hbc;have QC2022:=(hbc.block _ (lt_of_heap QC10)).trans QC10;have QX2023:=(hbc.block _ (lt_of_heap QX11)).trans QX11;have HK2024:Hid ((bo iq 2) (fun _=>True) wc x.bx [.slice a1 x.bx.length c1]):=(bd je 2).next (ay.of hbc) HK12.out;have HK2025:Hid ((bo b7 21) (fun _=>True) wc x.query.parts [.slice p1 x.query.parts.length d1]):=(bd cf 21).next (ay.of hbc) HK13.out
  have HK2026:Hid ((bo fJ 1) (fun _=>True) wc x.query.ops [.slice p2 x.query.ops.length d2]):=(bd fV 1).next (ay.of hbc) HK14.out;have HK2027:Hid ((bo bO 7) (fun _=>True) wc x.query.order [.slice p3 x.query.order.length d3]):=(bd bX 7).next (ay.of hbc) HK15.out;have HK2028:Hid ((bo (bo eU 3) 1) (fun _=>True) wc x.rows [.slice a2 x.rows.length c2]):=(bd (bd fP 3) 1).next (ay.of hbc) HK16.out
  have HK2029:Hid (bO (fun _=>True) wc x.ah [.int .i64 x.ah.k,.int .i64 x.ah.v.1,.int .i64 x.ah.v.2.1,.string x.ah.v.2.2,.string x.ah.aH,.string x.ah.name,.slice a3 x.ah.ks.length c3]):=bX.next (ay.of hbc) HK17.out;by_cases e1:x.kind=1
  ·have b1:(x.kind == 1)=true:=by simpa using e1
   have hm:=HMc.out;rw [iJ,if_pos e1] at hm;have HMk:Hid _:=hm;clear hm HMc;clear e1;have k3530:wc.cell? ⟨w.heap.size,0,none⟩=some (.int .i64 at_):=cell_of (i:=0) QC2022 rfl;have k3531:wc.cell? ⟨w.heap.size+1,0,none⟩=some (.int .i64 x.kind):=cell_of (i:=0) QX2023 rfl;have k3532:wc.cell? ⟨w.heap.size+1,2,none⟩=some (.slice a1 x.bx.length c1):=cell_of (i:=2) QX2023 rfl;have con3533:=qH x.bx a1 c1 (fun _=>True) at_ wc HK2024.out.ls;have hm:=HMk.out;generalize mo x.bx=rk at hm con3533;have HM3534:Hid _:=hm;clear hm HMk;go_wp2_with fail
   refine con3533.mono ?_;rintro e w3535 ⟨hb3536,hW⟩;clear con3533 k3530 k3531 k3532;have hx3537:Below w.heap.size w w3535:=chain hx2021 hb3536;have QC3538:=(hb3536.block _ (lt_of_heap QC2022)).trans QC2022;have QX3539:=(hb3536.block _ (lt_of_heap QX2023)).trans QX2023;have HK3540:Hid ((bo iq 2) (fun _=>True) w3535 x.bx [.slice a1 x.bx.length c1]):=(bd je 2).next (ay.of hb3536) HK2024.out;have HK3541:Hid ((bo b7 21) (fun _=>True) w3535 x.query.parts [.slice p1 x.query.parts.length d1]):=(bd cf 21).next (ay.of hb3536) HK2025.out
   have HK3542:Hid ((bo fJ 1) (fun _=>True) w3535 x.query.ops [.slice p2 x.query.ops.length d2]):=(bd fV 1).next (ay.of hb3536) HK2026.out;have HK3543:Hid ((bo bO 7) (fun _=>True) w3535 x.query.order [.slice p3 x.query.order.length d3]):=(bd bX 7).next (ay.of hb3536) HK2027.out;have HK3544:Hid ((bo (bo eU 3) 1) (fun _=>True) w3535 x.rows [.slice a2 x.rows.length c2]):=(bd (bd fP 3) 1).next (ay.of hb3536) HK2028.out
   have HK3545:Hid (bO (fun _=>True) w3535 x.ah [.int .i64 x.ah.k,.int .i64 x.ah.v.1,.int .i64 x.ah.v.2.1,.string x.ah.v.2.2,.string x.ah.aH,.string x.ah.name,.slice a3 x.ah.ks.length c3]):=bX.next (ay.of hb3536) HK2029.out;rcases hW with ⟨h,rfl⟩ | ⟨h,rfl⟩
   rotate_left
   ·have HR:Hid (rk=M):=by have:=HM3534.out; rw [cZ h] at this; exact this
    clear HM3534;go_wp2_with fail
    exact ⟨rfl,.bad hx3537 HR.out.symm h⟩
   subst h;have hm:=HM3534.out;rw [cg] at hm;have HM3546:Hid _:=hm;clear hm HM3534;go_wp2_with fail
   go_end0
   exact .ok hx3537 HM3546.out.symm
  have b1:(x.kind == 1)=false:=by simpa using e1
  by_cases e3:x.kind=3
  ·have b3:(x.kind == 3)=true:=by simpa using e3
   have hm:=HMc.out;rw [iJ,if_neg e1,if_pos e3] at hm;have HMk:Hid _:=hm;clear hm HMc e1 e3;have k4530:wc.cell? ⟨w.heap.size,0,none⟩=some (.int .i64 at_):=cell_of (i:=0) QC2022 rfl;have k4531:wc.cell? ⟨w.heap.size+1,0,none⟩=some (.int .i64 x.kind):=cell_of (i:=0) QX2023 rfl;have k4532:wc.cell? ⟨w.heap.size+1,7,none⟩=some (.slice a2 x.rows.length c2):=cell_of (i:=7) QX2023 rfl;have con4533:=vB x.rows a2 c2 (fun _=>True) at_ wc HK2028.out.ls;have hm:=HMk.out;generalize lE x.rows=rk at hm con4533;have HM4534:Hid _:=hm;clear hm HMk;go_wp2_with fail
   refine con4533.mono ?_;rintro e w4535 ⟨hb4536,hW⟩;clear con4533 k4530 k4531 k4532;have hx4537:Below w.heap.size w w4535:=chain hx2021 hb4536;have QC4538:=(hb4536.block _ (lt_of_heap QC2022)).trans QC2022;have QX4539:=(hb4536.block _ (lt_of_heap QX2023)).trans QX2023;have HK4540:Hid ((bo iq 2) (fun _=>True) w4535 x.bx [.slice a1 x.bx.length c1]):=(bd je 2).next (ay.of hb4536) HK2024.out;have HK4541:Hid ((bo b7 21) (fun _=>True) w4535 x.query.parts [.slice p1 x.query.parts.length d1]):=(bd cf 21).next (ay.of hb4536) HK2025.out
   have HK4542:Hid ((bo fJ 1) (fun _=>True) w4535 x.query.ops [.slice p2 x.query.ops.length d2]):=(bd fV 1).next (ay.of hb4536) HK2026.out;have HK4543:Hid ((bo bO 7) (fun _=>True) w4535 x.query.order [.slice p3 x.query.order.length d3]):=(bd bX 7).next (ay.of hb4536) HK2027.out;have HK4544:Hid ((bo (bo eU 3) 1) (fun _=>True) w4535 x.rows [.slice a2 x.rows.length c2]):=(bd (bd fP 3) 1).next (ay.of hb4536) HK2028.out
   have HK4545:Hid (bO (fun _=>True) w4535 x.ah [.int .i64 x.ah.k,.int .i64 x.ah.v.1,.int .i64 x.ah.v.2.1,.string x.ah.v.2.2,.string x.ah.aH,.string x.ah.name,.slice a3 x.ah.ks.length c3]):=bX.next (ay.of hb4536) HK2029.out;rcases hW with ⟨h,rfl⟩ | ⟨h,rfl⟩
   rotate_left
   ·have HR:Hid (rk=M):=by have:=HM4534.out; rw [cZ h] at this; exact this
    clear HM4534;go_wp2_with fail
    exact ⟨rfl,.bad hx4537 HR.out.symm h⟩
   subst h;have hm:=HM4534.out;rw [cg] at hm;have HM4546:Hid _:=hm;clear hm HM4534;go_wp2_with fail
   go_end0
   exact .ok hx4537 HM4546.out.symm
  have b3:(x.kind == 3)=false:=by simpa using e3
  by_cases e4:x.kind=4
  ·have b4:(x.kind == 4)=true:=by simpa using e4
   have hm:=HMc.out;rw [iJ,if_neg e1,if_neg e3,if_pos e4] at hm;have HMk:Hid _:=hm;clear hm HMc e1 e3 e4;have k5530:wc.cell? ⟨w.heap.size,0,none⟩=some (.int .i64 at_):=cell_of (i:=0) QC2022 rfl;have k5531:wc.cell? ⟨w.heap.size+1,0,none⟩=some (.int .i64 x.kind):=cell_of (i:=0) QX2023 rfl;have k5532:wc.cell? ⟨w.heap.size+1,8,none⟩=some (.bool x.aB):=cell_of (i:=8) QX2023 rfl;have k5533:wc.cell? ⟨w.heap.size+1,9,none⟩=some (.int .i64 x.ah.k):=cell_of (i:=9) QX2023 rfl;have k5534:wc.cell? ⟨w.heap.size+1,10,none⟩=some (.int .i64 x.ah.v.1):=cell_of (i:=10) QX2023 rfl
   have k5535:wc.cell? ⟨w.heap.size+1,11,none⟩=some (.int .i64 x.ah.v.2.1):=cell_of (i:=11) QX2023 rfl;have k5536:wc.cell? ⟨w.heap.size+1,12,none⟩=some (.string x.ah.v.2.2):=cell_of (i:=12) QX2023 rfl;have k5537:wc.cell? ⟨w.heap.size+1,13,none⟩=some (.string x.ah.aH):=cell_of (i:=13) QX2023 rfl;have k5538:wc.cell? ⟨w.heap.size+1,14,none⟩=some (.string x.ah.name):=cell_of (i:=14) QX2023 rfl;have k5539:wc.cell? ⟨w.heap.size+1,15,none⟩=some (.slice a3 x.ah.ks.length c3):=cell_of (i:=15) QX2023 rfl;have con5540:=iZ x.aB x.ah at_ a3 c3 (fun _=>True) wc HK2029.out.ks
   have hm:=HMk.out;generalize dx x.aB x.ah=rk at hm con5540;have HM5541:Hid _:=hm;clear hm HMk;go_wp2_with fail
   refine con5540.mono ?_;rintro e w5542 ⟨hb5543,hW⟩;clear con5540 k5530 k5531 k5532 k5533 k5534 k5535 k5536 k5537 k5538 k5539;have hx5544:Below w.heap.size w w5542:=chain hx2021 hb5543;have QC5545:=(hb5543.block _ (lt_of_heap QC2022)).trans QC2022;have QX5546:=(hb5543.block _ (lt_of_heap QX2023)).trans QX2023;have HK5547:Hid ((bo iq 2) (fun _=>True) w5542 x.bx [.slice a1 x.bx.length c1]):=(bd je 2).next (ay.of hb5543) HK2024.out;have HK5548:Hid ((bo b7 21) (fun _=>True) w5542 x.query.parts [.slice p1 x.query.parts.length d1]):=(bd cf 21).next (ay.of hb5543) HK2025.out
   have HK5549:Hid ((bo fJ 1) (fun _=>True) w5542 x.query.ops [.slice p2 x.query.ops.length d2]):=(bd fV 1).next (ay.of hb5543) HK2026.out;have HK5550:Hid ((bo bO 7) (fun _=>True) w5542 x.query.order [.slice p3 x.query.order.length d3]):=(bd bX 7).next (ay.of hb5543) HK2027.out;have HK5551:Hid ((bo (bo eU 3) 1) (fun _=>True) w5542 x.rows [.slice a2 x.rows.length c2]):=(bd (bd fP 3) 1).next (ay.of hb5543) HK2028.out
   have HK5552:Hid (bO (fun _=>True) w5542 x.ah [.int .i64 x.ah.k,.int .i64 x.ah.v.1,.int .i64 x.ah.v.2.1,.string x.ah.v.2.2,.string x.ah.aH,.string x.ah.name,.slice a3 x.ah.ks.length c3]):=bX.next (ay.of hb5543) HK2029.out;rcases hW with ⟨h,rfl⟩ | ⟨h,rfl⟩
   rotate_left
   ·have HR:Hid (rk=M):=by have:=HM5541.out; rw [cZ h] at this; exact this
    clear HM5541;go_wp2_with fail
    exact ⟨rfl,.bad hx5544 HR.out.symm h⟩
   subst h;have hm:=HM5541.out;rw [cg] at hm;have HM5553:Hid _:=hm;clear hm HM5541;go_wp2_with fail
   go_end0
   exact .ok hx5544 HM5553.out.symm
  have b4:(x.kind == 4)=false:=by simpa using e4
  have hm:=HMc.out;rw [iJ,if_neg e1,if_neg e3,if_neg e4] at hm;have HMk:Hid _:=hm;clear hm HMc e1 e3 e4;have k5030:wc.cell? ⟨w.heap.size,0,none⟩=some (.int .i64 at_):=cell_of (i:=0) QC2022 rfl;have k5031:wc.cell? ⟨w.heap.size+1,0,none⟩=some (.int .i64 x.kind):=cell_of (i:=0) QX2023 rfl;have k5032:wc.cell? ⟨w.heap.size+1,3,none⟩=some (.slice p1 x.query.parts.length d1):=cell_of (i:=3) QX2023 rfl;have k5033:wc.cell? ⟨w.heap.size+1,4,none⟩=some (.slice p2 x.query.ops.length d2):=cell_of (i:=4) QX2023 rfl
  have k5034:wc.cell? ⟨w.heap.size+1,5,none⟩=some (.slice p3 x.query.order.length d3):=cell_of (i:=5) QX2023 rfl;have k5035:wc.cell? ⟨w.heap.size+1,6,none⟩=some (.int .i64 x.query.aE):=cell_of (i:=6) QX2023 rfl;have con5036:=ue x.query p1 p2 p3 d1 d2 d3 (fun _=>True) at_ wc HK2025.out.ls HK2026.out.ls HK2027.out.ls;have hm:=HMk.out;generalize lG x.query=rk at hm con5036;have HM5037:Hid _:=hm;clear hm HMk;go_wp2_with fail
  refine con5036.mono ?_;rintro e w5038 ⟨hb5039,hW⟩;clear con5036 k5030 k5031 k5032 k5033 k5034 k5035;have hx5040:Below w.heap.size w w5038:=chain hx2021 hb5039;have QC5041:=(hb5039.block _ (lt_of_heap QC2022)).trans QC2022;have QX5042:=(hb5039.block _ (lt_of_heap QX2023)).trans QX2023;have HK5043:Hid ((bo iq 2) (fun _=>True) w5038 x.bx [.slice a1 x.bx.length c1]):=(bd je 2).next (ay.of hb5039) HK2024.out;have HK5044:Hid ((bo b7 21) (fun _=>True) w5038 x.query.parts [.slice p1 x.query.parts.length d1]):=(bd cf 21).next (ay.of hb5039) HK2025.out
  have HK5045:Hid ((bo fJ 1) (fun _=>True) w5038 x.query.ops [.slice p2 x.query.ops.length d2]):=(bd fV 1).next (ay.of hb5039) HK2026.out;have HK5046:Hid ((bo bO 7) (fun _=>True) w5038 x.query.order [.slice p3 x.query.order.length d3]):=(bd bX 7).next (ay.of hb5039) HK2027.out;have HK5047:Hid ((bo (bo eU 3) 1) (fun _=>True) w5038 x.rows [.slice a2 x.rows.length c2]):=(bd (bd fP 3) 1).next (ay.of hb5039) HK2028.out
  have HK5048:Hid (bO (fun _=>True) w5038 x.ah [.int .i64 x.ah.k,.int .i64 x.ah.v.1,.int .i64 x.ah.v.2.1,.string x.ah.v.2.2,.string x.ah.aH,.string x.ah.name,.slice a3 x.ah.ks.length c3]):=bX.next (ay.of hb5039) HK2029.out;rcases hW with ⟨h,rfl⟩ | ⟨h,rfl⟩
  rotate_left
  ·have HR:Hid (rk=M):=by have:=HM5037.out; rw [cZ h] at this; exact this
   clear HM5037;go_wp2_with fail
   exact ⟨rfl,.bad hx5040 HR.out.symm h⟩
  subst h;have hm:=HM5037.out;rw [cg] at hm;have HM5049:Hid _:=hm;clear hm HM5037;go_wp2_with fail
  go_end0
  exact .ok hx5040 HM5049.out.symm
theorem bG.Cb {S:Nat→Prop} {W:World} {x:cW} {a1 p1 p2 p3 a2 a3:Option Addr} {c1 d1 d2 d3 c2 c3:Nat} (h:bG S W x [.int .i64 x.kind,.string x.name,.slice a1 x.bx.length c1,.slice p1 x.query.parts.length d1,.slice p2 x.query.ops.length d2,.slice p3 x.query.order.length d3,.int .i64 x.query.aE,.slice a2 x.rows.length c2,.bool x.aB,.int .i64 x.ah.k,.int .i64 x.ah.v.1,.int .i64 x.ah.v.2.1,.string x.ah.v.2.2,.string x.ah.aH,.string x.ah.name,.slice a3 x.ah.ks.length c3]):aI iq 2 S W a1 x.bx∧aI b7 21 S W p1 x.query.parts∧aI fJ 1 S W p2 x.query.ops∧aI bO 7 S W p3 x.query.order∧aI (bo eU 3) 1 S W a2 x.rows∧aD S W a3 x.ah.ks:=by
 obtain ⟨b1,e1,b2,e2,b3,e3,b4,e4,b5,e5,b6,e6,e,h1,h2,h3,h4,h5,h6⟩:=h;simp only [List.cons.injEq,Value.slice.injEq] at e;obtain ⟨_,_,⟨rfl,_⟩,⟨rfl,_⟩,⟨rfl,_⟩,⟨rfl,_⟩,_,⟨rfl,_⟩,_,_,_,_,_,_,_,⟨rfl,_⟩,_⟩:=e;exact ⟨h1,h2,h3,h4,h5,h6⟩
def jk:List cW→Int→Er
 | [],_=>(0,0)
 | x :: r,i=>if hH x=0 then jk r (i+1) else (hH x,i)
def cC (l:List cW):Er:=if eD l.length 0 60=0 then jk l 0 else (5,0)
def Bs (w:World) (r:Er) (e:Ending) (w':World):Prop:=Below w.heap.size w w'∧((r.1=0∧e = .returned (.tuple #[]))∨(r.1≠0∧e = .panicked [gn r.1 r.2]))
theorem AY {n least most:Int} (h:eD n least most≠0):eD n least most=5:=by
 unfold eD at h ⊢
 split at h
 ·exact absurd rfl h
 ·rename_i hc; rw [if_neg hc]
theorem tW (l:List cW) (a:Option Addr) (c:Nat) (S:Nat→Prop) (w:World) (L:Nat) (QL:w.heap[L]? = some (.cells #[.slice a l.length c] 22 (0,0))) (hks:aI bG 16 S w a l):Calls Tryz.prog 36 #[.pointer (some ⟨L,0,none⟩)] w (Bs w (cC l)):=by
 have HK0:Hid (aI bG 16 (fun _=>True) w a l):=hks.mono bZ (fun _ _ _=>trivial);have con:=fo l.length 0 60 0 w;have l0:w.cell? ⟨L,0,none⟩=some (.slice a l.length c):=cell_of (i:=0) QL rfl;generalize hM:cC l=M;rw [cC] at hM;obtain ⟨rk,hrk⟩:∃ r,eD l.length 0 60=r:=⟨_,rfl⟩
 have HRK:Hid (eD l.length 0 60=rk):=hrk;rw [hrk] at con hM;have HM:Hid _:=hM;clear hM hrk hks;go_enter Tryz.func36,Tryz.ntmps36;go_wp2_with fail
 refine con.mono ?_;rintro e w1 ⟨hb1,⟨h,rfl⟩ | ⟨h,rfl⟩⟩;rotate_left
 ·have h5:rk=5:=by rw [← HRK.out]; exact AY (by rw [HRK.out]; exact h)
  have HR:Hid (M=(5,0)):=by show _=_; rw [← HM.out,if_neg h]
  subst h5;clear HM HRK;go_wp2_with fail
  exact ⟨rfl,hb1,.inr ⟨by rw [HR.out]; decide,by rw [HR.out]⟩⟩
 subst h;have hcn:=cI HRK.out;have hm:=HM.out;rw [if_pos rfl] at hm;have HS:Hid (jk (l.drop 0) ((0:Nat):Int)=M):=hm;have QL1:=(hb1.block _ (lt_of_heap QL)).trans QL;have HK1:Hid (aI bG 16 (fun _=>True) w1 a l):=HK0.out.bz bZ (ay.of hb1);have l1:w1.cell? ⟨L,0,none⟩=some (.slice a l.length c):=cell_of (i:=0) QL1 rfl;clear HM hm HRK con l0 HK0;go_wp2_with fail
 clear l1;go_loopw [9] (fun jv wr=>∃ j:Nat,j≤l.length∧jv = .int .i64 j∧Hid (jk (l.drop j) (j:Int)=M)∧Below w1.heap.size w1 wr) (fun jv _=>l.length - (RowKit.intOf jv).toNat)
 case atStart=>exact ⟨0,by omega,rfl,HS,CY _ _⟩
 case round =>
  clear HS;obtain ⟨j,hj,rfl,HL,hbr⟩:=hrel;have hxr:=chain hb1 hbr;have hL:=HL.out;by_cases hlt:j<l.length
  ·have hjz:(j:Int)<(l.length:Int):=by omega
   rw [Da hlt,jk] at hL;obtain ⟨bl,off,cs,rfl,hbl,hcl,hce,a1,c1,p1,d1,p2,d2,p3,d3,a2,c2,a3,c3,rfl,k1,k2,k3,k4,k5,k6⟩:=(HK1.out.bz bZ (ay.of hbr)).elem hlt
   have hrg:wr.rangeAt bl (off+j*16) [.int .i64 l[j].kind,.string l[j].name,.slice a1 l[j].bx.length c1,.slice p1 l[j].query.parts.length d1,.slice p2 l[j].query.ops.length d2,.slice p3 l[j].query.order.length d3,.int .i64 l[j].query.aE,.slice a2 l[j].rows.length c2,.bool l[j].aB,.int .i64 l[j].ah.k,.int .i64 l[j].ah.v.1,.int .i64 l[j].ah.v.2.1,.string l[j].ah.v.2.2,.string l[j].ah.aH,.string l[j].ah.name,.slice a3 l[j].ah.ks.length c3]:=fun i u hu=>hce i u hu
   have halY:=ab wr (.cells (du (l[j].kind) (l[j]) a1 c1 p1 d1 p2 d2 p3 d3 a2 c2 a3 c3) 57);have QY:=ar wr (du (l[j].kind) (l[j]) a1 c1 p1 d1 p2 d2 p3 d3 a2 c2 a3 c3) 57
   have HKy:Hid (bG (fun _=>True) (wr.alloc (.cells (du (l[j].kind) (l[j]) a1 c1 p1 d1 p2 d2 p3 d3 a2 c2 a3 c3) 57)) l[j] [.int .i64 l[j].kind,.string l[j].name,.slice a1 l[j].bx.length c1,.slice p1 l[j].query.parts.length d1,.slice p2 l[j].query.ops.length d2,.slice p3 l[j].query.order.length d3,.int .i64 l[j].query.aE,.slice a2 l[j].rows.length c2,.bool l[j].aB,.int .i64 l[j].ah.k,.int .i64 l[j].ah.v.1,.int .i64 l[j].ah.v.2.1,.string l[j].ah.v.2.2,.string l[j].ah.aH,.string l[j].ah.name,.slice a3 l[j].ah.ks.length c3]):=bZ.next (ay.of halY) ⟨a1,c1,p1,d1,p2,d2,p3,d3,a2,c2,a3,c3,rfl,k1,k2,k3,k4,k5,k6⟩
   have HM2:Hid _:=hL;clear HL hL hce hcl k1 k2 k3 k4 k5 k6;generalize l[j]=y at *;go_upto_region 4 with (first | (refine wpList_load_mid rfl 57 _ rfl bl (off+j*16) rfl (du y.kind y a1 c1 p1 d1 p2 d2 p3 d3 a2 c2 a3 c3).toList _ hrg Tryz.underlying57 rfl dh ?_) | (refine bB rfl 57 _ _ rfl bL (du y.kind y a1 c1 p1 d1 p2 d2 p3 d3 a2 c2 a3 c3) rfl rfl dh rfl (fX rfl) ?_))
   generalize wr.alloc (.cells (du y.kind y a1 c1 p1 d1 p2 d2 p3 d3 a2 c2 a3 c3) 57)=wa at *;obtain ⟨k1,k2,k3,k4,k5,k6⟩:=bG.Cb HKy.out;have con:=ng y a1 p1 p2 p3 a2 a3 c1 d1 d2 d3 c2 c3 (fun _=>True) (j:Int) wa k1 k2 k3 k4 k5 k6;have hm:=HM2.out;generalize hH y=r at hm con;have HM3:Hid _:=hm;clear hm HM2 k1 k2 k3 k4 k5 k6 HKy hrg;go_wp2_with (first | (refine wpList_load_row rfl 57 _ rfl wr.heap.size rfl 57 (du y.kind y a1 c1 p1 d1 p2 d2 p3 d3 a2 c2 a3 c3) (0,0) _ QY Tryz.underlying57 rfl dh ?_))
   refine con.mono ?_;rintro e wb ⟨hbb,⟨h,rfl⟩ | ⟨h,rfl⟩⟩
   ·have HL3:Hid (jk (l.drop (j+1)) ((j+1:Nat):Int)=M):=by have:=HM3.out; rw [if_pos h] at this; exact this
    clear HM3 con;go_wp2_with fail
    go_roundw
    case rel=>exact ⟨j+1,by omega,by go_num,HL3,chain hbr (chain halY hbb)⟩
    case measure=>simp [RowKit.intOf]; omega
   ·have HR:Hid (M=(r,(j:Int))):=by have:=HM3.out; rw [if_neg h] at this; exact this.symm
    clear HM3 con;go_wp2_with fail
    exact ⟨rfl,chain hxr (chain halY hbb),.inr ⟨by rw [HR.out]; exact h,by rw [HR.out]⟩⟩
  ·have hjz:¬ (j:Int)<(l.length:Int):=by omega
   have e:M=(0,0):=by rw [← hL,Dh (by omega)]; rfl
   have E:Hid (M=(0,0)):=e;clear HL hL e;go_wp2_with fail
   go_end0
   exact ⟨hxr,.inl ⟨by rw [E.out],rfl⟩⟩
theorem yn (W:World) (v:Value):(Instr.typeAssert (.iface 115 v) 20 115 true).run Tryz.prog W = .ok (.tuple #[v,.bool true]) W:=by kernel_rfl
theorem sN (fb:Nat) (e a:Int) (w:World) (Q:w.heap[fb]? = some (.cells #[.int .i64 0,.int .i64 0] 27 (0,0))) :
  CallsD Tryz.prog 64 #[.pointer (some ⟨fb,0,none⟩)] (.panicking [gn e a]) w fun x u' w'=>x = .returned (.tuple #[])∧u' = .panicking [{ v:=.iface 115 (.agg #[.int .i64 e,.int .i64 a]),recovered:=true }]∧w'=((w.alloc (.cells #[.int .i64 e,.int .i64 a] 115)).setCell ⟨fb,0,none⟩ (.int .i64 e)).setCell ⟨fb,1,none⟩ (.int .i64 a):=by
 have hf:=lt_of_heap Q;have hal:=ab w (.cells #[.int .i64 e,.int .i64 a] 115);have Q1:=(hal.block _ hf).trans Q;have c0:(w.alloc (.cells #[.int .i64 e,.int .i64 a] 115)).cell? ⟨fb,0,none⟩=some (.int .i64 0):=cell_of (i:=0) Q1 rfl;have c1:(w.alloc (.cells #[.int .i64 e,.int .i64 a] 115)).cell? ⟨fb,1,none⟩=some (.int .i64 0):=cell_of (i:=1) Q1 rfl;have f0:=C3 _ fb 0 _ _ Q1;have f1:=C3 _ fb 1 _ _ Q1;refine callsD_of_wpS Tryz.func64 rfl fun c₀ cs hu=>?_
 apply wpS_seq;apply wpS_region;simp [wpOpsS,go_sem,recoverD,hu,gn,Tryz.ntmps64,Exit.thenS];have hta:∀ W:World,(Instr.typeAssert (.iface 115 (.agg #[.int .i64 e,.int .i64 a])) 20 115 true).run Tryz.prog W = .ok (.tuple #[.agg #[.int .i64 e,.int .i64 a],.bool true]) W:=fun W=>yn W _
 apply wpS_seq;apply wpS_region;simp [wpOpsS,go_sem,hta,Exit.thenS];have q0:=ar w #[.int .i64 e,.int .i64 a] 115;clear hta;generalize w.alloc (.cells #[.int .i64 e,.int .i64 a] 115)=w1 at *;have d0:w1.cell? ⟨w.heap.size,0,none⟩=some (.int .i64 e):=cell_of (i:=0) q0 rfl;have d1:w1.cell? ⟨w.heap.size,1,none⟩=some (.int .i64 a):=cell_of (i:=1) q0 rfl;apply wpS_seq;apply wpS_region;simp [wpOpsS,go_sem,Exit.thenS];refine wpS_cond (t:=true) (by simp [Act.eval]) ?_;simp only [if_true];refine wpS_of_wp ?_
 refine Code.wp_mono (Q:=fun ex a' w'=>ex = .normal∧a'.defers = []∧w'=(w1.setCell ⟨fb,0,none⟩ (.int .i64 e)).setCell ⟨fb,1,none⟩ (.int .i64 a)) ?_ ?_
 ·rintro ex a' w' ⟨rfl,hd,rfl⟩;cases c₀
  simp_all [bodyPostS,results,Tryz.results64]
 ·clear hu;go_wp2_with fail
theorem zU (W:World):(Instr.typeAssert .nilIface 20 115 true).run Tryz.prog W = .ok (.tuple #[.agg #[.int .i64 0,.int .i64 0],.bool false]) W:=by kernel_rfl
theorem Bh (W:World):(binOp BinOp.neq 20 .nilIface .nilIface).run Tryz.prog W = .ok (.bool false) W:=by kernel_rfl
theorem sy (fb:Nat) (w:World):CallsD Tryz.prog 64 #[.pointer (some ⟨fb,0,none⟩)] .returning w fun x u' w'=>x = .returned (.tuple #[])∧u' = .returning∧w'=w.alloc (.cells #[.int .i64 0,.int .i64 0] 115):=by
 refine callsD_of_wpS Tryz.func64 rfl fun c₀ cs hu=>?_
 apply wpS_seq;apply wpS_region;simp [wpOpsS,go_sem,recoverD,hu,Tryz.ntmps64,Exit.thenS];apply wpS_seq;apply wpS_region;simp [wpOpsS,go_sem,zU,Exit.thenS];apply wpS_seq;apply wpS_region;simp [wpOpsS,go_sem,Exit.thenS];refine wpS_cond (t:=false) (by simp [Act.eval]) ?_;simp only [De,if_false];apply wpS_seq;apply wpS_region;simp [wpOpsS,go_sem,Exit.thenS,Bh];refine wpS_cond (t:=false) (by simp [Act.eval]) ?_;simp only [De,if_false];refine wpS_of_wp (wp_skip ?_);cases c₀
 simp_all [bodyPostS,results,Tryz.results64]
theorem tR {r:Er} {l:List cW} (h:cC l=r) (h0:r.1=0):r=(0,0):=by
 have:∀ (l:List cW) (i:Int),(jk l i).1=0→jk l i=(0,0):=by
  intro l
  induction l with
  | nil=>intro i _; rfl
  | cons x t ih =>
   intro i hh;rw [jk] at hh ⊢
   split
   ·rename_i hc; rw [if_pos hc] at hh; exact ih _ hh
   ·rename_i hc; rw [if_neg hc] at hh; exact absurd hh hc
 subst h;unfold cC at h0 ⊢
 split
 ·rename_i hc; rw [if_pos hc] at h0; exact this _ _ h0
 ·rename_i hc; rw [if_neg hc] at h0; cases h0
theorem wI (l:List cW) (a:Option Addr) (c:Nat) (S:Nat→Prop) (w:World) (L:Nat) (QL:w.heap[L]? = some (.cells #[.slice a l.length c] 22 (0,0))) (hks:aI bG 16 S w a l):Calls Tryz.prog 33 #[.func (.func 36) #[] #[.pointer (some ⟨L,0,none⟩)]] w fun e w'=>e = .returned (.agg #[.int .i64 (cC l).1,.int .i64 (cC l).2])∧Below w.heap.size w w':=by
 have hmf:∀ (fn:Fn) (first cap:Array Value) (w:World),(Instr.makeFunc fn first cap).run Tryz.prog w = .ok (.func fn first cap) w:=fun _ _ _ _=>rfl
 have hal:=ab w (.cells #[.int .i64 0,.int .i64 0] 27);have QF:=ar w #[.int .i64 0,.int .i64 0] 27;have con:=tW l a c (fun _=>True) (w.alloc (.cells #[.int .i64 0,.int .i64 0] 27)) L ((hal.block _ (lt_of_heap QL)).trans QL) ((hks.mono bZ (fun _ _ _=>trivial)).bz bZ (ay.of hal));generalize hr:cC l=r at *;have HR:Hid (cC l=r):=hr;clear hr hks QL;go_enter_defers Tryz.func33,Tryz.ntmps33
 go_upto_region 1 with fail
 generalize w.alloc (.cells #[.int .i64 0,.int .i64 0] 27)=w1 at *;go_wp2_with fail
 refine con.mono ?_;rintro e w2 ⟨hb2,⟨h,rfl⟩ | ⟨h,rfl⟩⟩
 ·have e0:r=(0,0):=tR HR.out h;have QF2:=(hb2.block _ (lt_of_heap QF)).trans QF;have c0:w2.cell? ⟨w.heap.size,0,none⟩=some (.int .i64 0):=cell_of (i:=0) QF2 rfl;have c1:w2.cell? ⟨w.heap.size,1,none⟩=some (.int .i64 0):=cell_of (i:=1) QF2 rfl;have f0:=C3 w2 w.heap.size 0 _ _ QF2;have f1:=C3 w2 w.heap.size 1 _ _ QF2;have E:Hid (r=(0,0)):=e0;clear con e0 h;go_wp2_with fail
  have QE:=dH QF2 (.int .i64 0) (.int .i64 0);have hbE:=iI (chain hal hb2) (CX _) (.int .i64 0) (.int .i64 0);generalize ((w2.setCell ⟨w.heap.size,0,none⟩ (.int .i64 0)).setCell ⟨w.heap.size,1,none⟩ (.int .i64 0))=w3 at *;refine leaves_cons (f:=64) (args:=#[.pointer (some ⟨w.heap.size,0,none⟩)]) (by simp) (by simp [go_sem]) ?_;refine (sy w.heap.size w3).mono ?_;rintro e u' w4 ⟨rfl,rfl,rfl⟩;have hal4:=ab w3 (.cells #[.int .i64 0,.int .i64 0] 115);have QE4:=(hal4.block _ (lt_of_heap QE)).trans QE
  generalize w3.alloc (.cells #[.int .i64 0,.int .i64 0] 115)=w4 at *;have x0:w4.cell? ⟨w.heap.size,0,none⟩=some (.int .i64 0):=cell_of (i:=0) QE4 rfl;have x1:w4.cell? ⟨w.heap.size,1,none⟩=some (.int .i64 0):=cell_of (i:=1) QE4 rfl;show Leaves Tryz.prog Tryz.f33 _ _ [] _ _;refine ⟨.agg #[.int .i64 0,.int .i64 0],by simp [results,Tryz.results33,go_sem,x0,x1],by rw [E.out],chain hbE hal4⟩
 ·have QF2:=(hb2.block _ (lt_of_heap QF)).trans QF;have dcon:=sN w.heap.size r.1 r.2 w2 QF2;clear con h;go_wp2_with fail
  refine leaves_cons (f:=64) (args:=#[.pointer (some ⟨w.heap.size,0,none⟩)]) (by simp) (by simp [go_sem]) ?_;refine dcon.mono ?_;rintro e u' w4 ⟨rfl,rfl,rfl⟩;have hal4:=ab w2 (.cells #[.int .i64 r.1,.int .i64 r.2] 115);have QE:=dH ((hal4.block _ (lt_of_heap QF2)).trans QF2) (.int .i64 r.1) (.int .i64 r.2);have hbE:=iI (chain hal (chain hb2 hal4)) (CX _) (.int .i64 r.1) (.int .i64 r.2)
  generalize ((w2.alloc (.cells #[.int .i64 r.1,.int .i64 r.2] 115)).setCell ⟨w.heap.size,0,none⟩ (.int .i64 r.1)).setCell ⟨w.heap.size,1,none⟩ (.int .i64 r.2)=w4 at *;have x0:w4.cell? ⟨w.heap.size,0,none⟩=some (.int .i64 r.1):=cell_of (i:=0) QE rfl;have x1:w4.cell? ⟨w.heap.size,1,none⟩=some (.int .i64 r.2):=cell_of (i:=1) QE rfl;simp [Leaves,settle,results,Tryz.results33,go_sem,x0,x1];exact hbE
theorem oe (l:List cW) (a:Option Addr) (c:Nat) (S:Nat→Prop) (w:World) (hks:aI bG 16 S w a l):Calls Tryz.prog 18 #[.slice a l.length c] w fun e w'=>e = .returned (.agg #[.int .i64 (cC l).1,.int .i64 (cC l).2])∧Below w.heap.size w w':=by
 have hmf:∀ (fn:Fn) (first cap:Array Value) (w:World),(Instr.makeFunc fn first cap).run Tryz.prog w = .ok (.func fn first cap) w:=fun _ _ _ _=>rfl
 have hal1:=ab w (.cells #[.slice a l.length c] 22);have hal2:Below (w.alloc (.cells #[.slice a l.length c] 22)).heap.size (w.alloc (.cells #[.slice a l.length c] 22)) ((w.alloc (.cells #[.slice a l.length c] 22)).alloc (.cells #[.int .i64 0,.int .i64 0] 27)):=(CY _ _).alloc (CX _) _;have QL:=(hal2.block _ (lt_of_heap (ar w #[.slice a l.length c] 22))).trans (ar w #[.slice a l.length c] 22)
 have QF:((w.alloc (.cells #[.slice a l.length c] 22)).alloc (.cells #[.int .i64 0,.int .i64 0] 27)).heap[w.heap.size+1]? = some (.cells #[.int .i64 0,.int .i64 0] 27 (0,0)):=by
  rw [show w.heap.size+1=(w.alloc (.cells #[.slice a l.length c] 22)).heap.size by simp];exact ar _ _ _
 have hal:=chain hal1 hal2;have con:=wI l a c (fun _=>True) _ w.heap.size QL ((hks.mono bZ (fun _ _ _=>trivial)).bz bZ (ay.of hal));generalize cC l=r at *;clear hal1 hal2 hks;go_enter Tryz.func18,Tryz.ntmps18;go_upto_region 1 with fail
 generalize (w.alloc (.cells #[.slice a l.length c] 22)).alloc (.cells #[.int .i64 0,.int .i64 0] 27)=w1 at *;go_wp2_with fail
 refine con.mono ?_;rintro e w2 ⟨rfl,hb2⟩;have QF2:=(hb2.block _ (lt_of_heap QF)).trans QF;have c0:w2.cell? ⟨w.heap.size+1,0,none⟩=some (.int .i64 0):=cell_of (i:=0) QF2 rfl;have c1:w2.cell? ⟨w.heap.size+1,1,none⟩=some (.int .i64 0):=cell_of (i:=1) QF2 rfl;have f0:=C3 w2 (w.heap.size+1) 0 _ _ QF2;have f1:=C3 w2 (w.heap.size+1) 1 _ _ QF2;clear con;go_wp2_with fail
 have QE:=dH QF2 (.int .i64 r.1) (.int .i64 r.2);have hbE:=iI (g:=w.heap.size+1) (chain hal hb2) (by omega) (.int .i64 r.1) (.int .i64 r.2);generalize ((w2.setCell ⟨w.heap.size+1,0,none⟩ (.int .i64 r.1)).setCell ⟨w.heap.size+1,1,none⟩ (.int .i64 r.2))=wE at *;obtain ⟨x0,x1⟩:=cX QE;exact C0 (v:=.agg #[.int .i64 r.1,.int .i64 r.2]) (by simp [results,Tryz.results18,go_sem,x0,x1]) rfl ⟨rfl,hbE⟩
set_option maxHeartbeats 4000000
theorem pU (f:Int→Bool):∀ (l:List UInt8),∀ c ∈ l.take (dQ f l),f ((c.toNat:Nat):Int)=true
 | [],c,h=>by simp at h
 | x :: r,c,h=>by
  unfold dQ at h
  rw [DO,eM] at h
  split at h
  ·rename_i hx
   rw [List.take_succ_cons] at h
   rcases List.mem_cons.1 h with rfl | h
   ·exact hx
   ·exact pU f r c h
  ·simp at h
theorem ld {p:Int}:∀ (l:List UInt8) (k:Nat) (out:List UInt8) {t:Tk} {j:Nat},dt p l k out = .ok (t,j)→t.1=3∧t.2.1.size≤60
 | [],k,out,t,j,h=>by rw [dt] at h; cases h
 | [c],k,out,t,j,h=>by
  rw [dt] at h
  split at h
  ·unfold jL at h
   split at h
   ·cases h
   ·injection h with h; injection h with h _; subst h; exact ⟨rfl,by show (eJ out).size≤60; rw [fh]; omega⟩
  ·cases h
 | c :: d :: r,k,out,t,j,h=>by
  rw [dt] at h
  split at h
  ·split at h
   ·exact ld r (k+2) _ h
   ·unfold jL at h
    split at h
    ·cases h
    ·injection h with h; injection h with h _; subst h; exact ⟨rfl,by show (eJ out).size≤60; rw [fh]; omega⟩
  ·exact ld (d :: r) (k+1) _ h
theorem nZ {l:List UInt8} {p:Int}:∀ (gs:List (List UInt8)),(∀ g ∈ gs,g.length≤2)→∀ {t:Tk} {j:Nat},gR l p gs = .ok (t,j)→t.1=4∧t.2.1.size≤2
 | [],_,t,j,h=>by rw [gR] at h; cases h
 | g :: gs,hg,t,j,h=>by
  rw [gR] at h
  split at h
  ·injection h with h; injection h with h _
   subst h
   exact ⟨rfl,by show (eJ g).size≤2; rw [fh]; exact hg g (by simp)⟩
  ·exact nZ gs (fun g h=>hg g (by simp [h])) h
theorem Aa {l:List UInt8} {p:Int} (hl:l ≠ []) (h4:l.length≤4000) {t:Tk} {j:Nat} (h:ff l p = .ok (t,j)):t.1≠5∧xZ t:=by
 unfold ff at h
 split at h
 ·injection h with h; injection h with h _
  subst h;exact ⟨by show (1:Int)≠5; decide,by show (eJ _).size≤4000; rw [fh,Dz]; omega,fun h=>absurd (show (1:Int)=2 from h) (by decide)⟩
 ·split at h
  ·rename_i hc
   unfold hI at h
   split at h
   ·cases h
   ·rename_i h16
    injection h with h; injection h with h _
    subst h;have hp:=mQ hl hc;have hle:=iU fx l;refine ⟨by show (2:Int)≠5; decide,by show (eJ _).size≤4000; rw [fh,Dz]; omega,fun _=>⟨by show 1≤(eJ _).size; rw [fh,Dz]; omega,by show (eJ _).size≤16; rw [fh,Dz]; omega,fun c hc=>?_⟩⟩;have hc2:c ∈ l.take (dQ fx l):=by simpa [eJ] using hc
    have:=pU fx l c hc2;simp only [fx,Dx,decide_eq_true_eq] at this;omega
  ·split at h
   ·obtain ⟨h1,h2⟩:=ld _ _ _ h;exact ⟨by rw [h1]; decide,by omega,fun h=>by rw [h1] at h; cases h⟩
   ·obtain ⟨h1,h2⟩:=nZ gB (by decide) h;exact ⟨by rw [h1]; decide,by omega,fun h=>by rw [h1] at h; cases h⟩
theorem sL:∀ (n:Nat) (l:List UInt8) (p:Int) {ts:List Tk},l.length≤4000→jd n l p = .ok ts→kx ts∧ts.length≤l.length+1
 | 0,l,p,ts,_,h=>by rw [jd] at h; cases h
 | n+1,l,p,ts,h4,h=>by
  by_cases hl:l = []
  ·subst hl
   rw [qG] at h
   injection h with h
   subst h
   exact ⟨.last p,by simp⟩
  ·rw [nF n l p hl] at h
   rcases ht:ff l p with e | ⟨t,j⟩
   ·rw [ht] at h; cases h
   ·rw [ht] at h
    simp only at h
    have hj:=mw hl ht
    obtain ⟨h5,hk⟩:=Aa hl h4 ht
    rcases hg:jd n ((l.drop j).drop (dQ ez (l.drop j))) (p+j+dQ ez (l.drop j)) with e | rs
    ·rw [hg] at h; cases h
    ·rw [hg] at h
     have e:t :: rs=ts:=Except.ok.inj h
     subst e
     have hlen:((l.drop j).drop (dQ ez (l.drop j))).length≤l.length - j:=by simp; omega
     obtain ⟨r1,r2⟩:=sL n _ _ (by omega) hg
     exact ⟨.cons t rs h5 hk r1,by simp; omega⟩
theorem tF {s:ByteArray} (hs:s.size≤4000) {ts:List Tk} (h:jb s = .ok ts):kx ts∧ts.length≤4001:=by
 have hz:s.data.toList.length=s.size:=Dl;have hlen:(s.data.toList.drop (dQ ez s.data.toList)).length≤s.data.toList.length:=by simp
 obtain ⟨h1,h2⟩:=sL _ _ _ (by omega) h;exact ⟨h1,by omega⟩
def eY (s:ByteArray):Except Er (List cW) :=
 if s.size > 4000 then .error (4,0) else
 match jb s with
 | .error e=>.error e
 | .ok ts=>match cT 61 [] ts with
  | .error e=>.error e
  | .ok (l,_)=>if (cC l).1=0 then .ok l else .error ((cC l).1,0)
def mE (w:World) (r:Except Er (List cW)) (e:Ending) (w':World):Prop :=
 Below w.heap.size w w'∧match r with
  | .ok x=>∃ a cap,e = .returned (.slice a x.length cap)∧aI bG 16 (fun b=>w.heap.size≤b) w' a x
  | .error c=>e = .panicked [gn c.1 c.2]
theorem mE.err {w w':World} {r:Except Er (List cW)} {c:Er} (hr:r = .error c) (hb:Below w.heap.size w w'):mE w r (.panicked [gn c.1 c.2]) w':=by subst hr; exact ⟨hb,rfl⟩
theorem AV {W:World} {S:Nat→Prop} {a:Option Addr} {ts:List Tk} (h:aI xO 3 S W a ts) (hne:ts ≠ []):∃ b off,a=some ⟨b,off,none⟩∧S b∧l5 W b off ts:=by
 rcases h with rfl | ⟨b,off,e,h1,h2,h3⟩
 ·exact absurd rfl hne
 ·refine ⟨b,off,e,h1,h2,fun i hi=>?_,fun i hi=>?_,fun i hi=>?_⟩
  all_goals obtain ⟨cs,_,c2,rfl⟩:=h3 i hi
  ·exact c2 0 _ rfl
  ·exact c2 1 _ rfl
  ·exact c2 2 _ rfl
theorem yE (s:ByteArray) {w:World} (hg:Gl w):Calls Tryz.prog 35 #[.string s] w (mE w (eY s)):=by
 have hw1:=hg.lt;generalize hM:eY s=M;rw [eY] at hM;by_cases hbig:s.size > 4000
 ·rw [if_pos hbig] at hM;subst hM;have hz:(4000:Int)<(s.size:Int):=by omega
  have con:=eG 4 0 w;clear hbig hg;go_enter Tryz.func35,Tryz.ntmps35;go_wp2_with fail
  refine con.mono ?_;rintro e w2 ⟨rfl,hb2⟩;go_wp2_with fail
  exact ⟨rfl,mE.err (c:=(4,0)) rfl hb2⟩
 rw [if_neg hbig] at hM;have hz:¬ (4000:Int)<(s.size:Int):=by omega
 have con:=uB s (by omega) hg;have hok:=fun ts=>tF (s:=s) (by omega) (ts:=ts)
 generalize jb s=L at *;have HG:Hid (Gl w):=hg;have HM:Hid _:=hM;have HO:Hid _:=hok;clear hM hbig hg hok;go_enter Tryz.func35,Tryz.ntmps35;go_wp2_with fail
 refine con.mono ?_;rintro e w2 ⟨hb2,hW⟩;clear con;rcases L with ce | ts
 ·obtain rfl:=hW;have e:M = .error ce:=HM.out.symm;subst e;clear HM HO;go_wp2_with fail
  exact ⟨rfl,mE.err rfl hb2⟩
 obtain ⟨a,cap,rfl,hcp,hls⟩:=hW;obtain ⟨htk,hsm⟩:=HO.out ts rfl;obtain ⟨tb,off,rfl,htb,htat⟩:=AV hls (by obtain ⟨_,_,rfl⟩:=htk.ne; simp);have hal:=ab w2 (.cells #[.slice (some ⟨tb,off,none⟩) ts.length cap,.int .i64 0] 121);have QR:=ar w2 #[.slice (some ⟨tb,off,none⟩) ts.length cap,.int .i64 0] 121;have hz2:=hb2.size
 have hR:au (w2.alloc (.cells #[.slice (some ⟨tb,off,none⟩) ts.length cap,.int .i64 0] 121)) w2.heap.size tb ts 0:=⟨⟨off,cap,QR,hcp,htat.next hal⟩,by have:=htat.lt; omega,htk,hsm,(HG.out.next hb2).next hal,by omega⟩
 have con:=nA hR;have hm:=HM.out;simp only at hm;generalize cT 61 [] ts=L at hm con;have HM2:Hid _:=hm;clear hm HM HO hls htat htk hsm hR hcp HG;go_upto_region 4 with fail
 generalize w2.alloc (.cells #[.slice (some ⟨tb,off,none⟩) ts.length cap,.int .i64 0] 121)=w3 at *;go_wp2_with fail
 refine con.mono ?_;rintro e w4 ⟨hb4,hW⟩;have hb:Below w.heap.size w w4:=(chain hb2 hal).trans (hb4.1.mono (by omega));clear con;rcases L with ce | ⟨l,rr⟩
 ·obtain ⟨rfl,_⟩:=hW;have e:M = .error ce:=HM2.out.symm;subst e;clear HM2;go_wp2_with fail
  exact ⟨rfl,mE.err rfl hb⟩
 obtain ⟨v,rfl,⟨al,cl,rfl,hls⟩,_⟩:=hW;have con:=oe l al cl _ w4 hls;have HL:Hid (aI bG 16 (fun b=>w3.heap.size≤b) w4 al l):=hls;have hm:=HM2.out;simp only at hm;generalize cC l=wr at hm con;have HM3:Hid _:=hm;clear hm HM2 hls;go_wp2_with fail
 refine con.mono ?_;rintro e w5 ⟨rfl,hb5⟩;clear con;have hal5:=ab w5 (.cells #[.int .i64 wr.1,.int .i64 wr.2] 27);have QF:=ar w5 #[.int .i64 wr.1,.int .i64 wr.2] 27;have hbb:=chain hb (chain hb5 hal5);have HL5:Hid (aI bG 16 (fun b=>w.heap.size≤b) (w5.alloc (.cells #[.int .i64 wr.1,.int .i64 wr.2] 27)) al l):=(HL.out.mono bZ (fun b h _=>by have:w3.heap.size≤b:=h; show w.heap.size≤b; have:=hal.size; omega)).bz bZ (ay.of (chain hb5 hal5));go_upto_region 6 with fail
 generalize w5.alloc (.cells #[.int .i64 wr.1,.int .i64 wr.2] 27)=w6 at *;have c0:w6.cell? ⟨w5.heap.size,0,none⟩=some (.int .i64 wr.1):=cell_of (i:=0) QF rfl;by_cases h0:wr.1=0
 ·have b0:(wr.1 != 0)=false:=by simpa using h0
  have e:M = .ok l:=by rw [← HM3.out,if_pos h0]
  subst e;clear HM3 h0;go_wp2_with fail
  exact C0 (results_tmp rfl _ _ _) rfl ⟨hbb,al,cl,by first | rfl | trivial,HL5.out⟩
 ·have b0:(wr.1 != 0)=true:=by simpa using h0
  have e:M = .error (wr.1,0):=by rw [← HM3.out,if_neg h0]
  have E:Hid (M = .error (wr.1,0)):=e;have con:=eG wr.1 0 w6;clear HM3 h0 e;go_wp2_with fail
  refine con.mono ?_;rintro e w7 ⟨rfl,hb7⟩;go_wp2_with fail
  exact ⟨rfl,mE.err (c:=(wr.1,0)) E.out (chain hbb hb7)⟩
def BM (w:World) (OB:Nat) (r:Except Er (List cW)) (e:Ending) (w':World):Prop :=
 af OB w w'∧match r with
  | .ok x=>e = .returned (.tuple #[])∧∃ a cap,w'.heap[OB]? = some (.cells #[.slice a x.length cap] 22 (0,0))∧aI bG 16 (fun b=>w.heap.size≤b) w' a x
  | .error c=>e = .panicked [gn c.1 c.2]∧w'.heap[OB]? = some (.cells #[.slice none 0 0] 22 (0,0))
theorem wg (s:ByteArray) {w:World} (hg:Gl w) {SB OB:Nat} (QS:w.heap[SB]? = some (.cells #[.string s] 9 (0,0))) (QO:w.heap[OB]? = some (.cells #[.slice none 0 0] 22 (0,0))):Calls Tryz.prog 34 #[.pointer (some ⟨SB,0,none⟩),.pointer (some ⟨OB,0,none⟩)] w (BM w OB (eY s)):=by
 have con:=yE s hg;have s0:w.cell? ⟨SB,0,none⟩=some (.string s):=cell_of (i:=0) QS rfl;have hO:=lt_of_heap QO;generalize eY s=M at *;clear hg;go_enter Tryz.func34,Tryz.ntmps34;go_wp2_with fail
 refine con.mono ?_;rintro e w2 ⟨hb2,hW⟩;have QO2:=(hb2.block _ hO).trans QO;clear con s0;rcases M with ce | l
 ·obtain rfl:=hW;go_wp2_with fail
  exact ⟨rfl,.of hb2 (by omega),rfl,QO2⟩
 obtain ⟨a,cap,rfl,hls⟩:=hW;have HL:Hid (aI bG 16 (fun b=>w.heap.size≤b) w2 a l):=hls;have c0:w2.cell? ⟨OB,0,none⟩=some (.slice none 0 0):=cell_of (i:=0) QO2 rfl;have f0:=C3 w2 OB 0 _ _ QO2;clear hls;go_wp2_with fail
 go_end0
 exact ⟨(af.of hb2 (by omega)).set 0 _,rfl,a,cap,C1 w2 OB 0 _ _ _ QO2,HL.out.bz bZ (((aF.refl _ _).set 0 _).k (by show ¬ _≤OB; omega))⟩
def kK (r:Except Er (List cW)):Er:=match r with | .ok _=>(0,0) | .error c=>c
def pe (w:World) (OB:Nat) (r:Except Er (List cW)) (w':World):Prop :=
 af OB w w'∧match r with
  | .ok x=>∃ a cap,w'.heap[OB]? = some (.cells #[.slice a x.length cap] 22 (0,0))∧aI bG 16 (fun b=>w.heap.size≤b) w' a x
  | .error _=>w'.heap[OB]? = some (.cells #[.slice none 0 0] 22 (0,0))
theorem vN (s:ByteArray) {w:World} (hg:Gl w) {SB OB:Nat} (QS:w.heap[SB]? = some (.cells #[.string s] 9 (0,0))) (QO:w.heap[OB]? = some (.cells #[.slice none 0 0] 22 (0,0))):Calls Tryz.prog 33 #[.func (.func 34) #[] #[.pointer (some ⟨SB,0,none⟩),.pointer (some ⟨OB,0,none⟩)]] w fun e w'=>e = .returned (.agg #[.int .i64 (kK (eY s)).1,.int .i64 (kK (eY s)).2])∧pe w OB (eY s) w':=by
 have hmf:∀ (fn:Fn) (first cap:Array Value) (w:World),(Instr.makeFunc fn first cap).run Tryz.prog w = .ok (.func fn first cap) w:=fun _ _ _ _=>rfl
 have hal:=ab w (.cells #[.int .i64 0,.int .i64 0] 27);have QF:=ar w #[.int .i64 0,.int .i64 0] 27;have hO:=lt_of_heap QO;have con:=wg s (hg.next hal) ((hal.block _ (lt_of_heap QS)).trans QS) ((hal.block _ hO).trans QO);generalize eY s=M at *;clear hg QS QO;go_enter_defers Tryz.func33,Tryz.ntmps33
 go_upto_region 1 with fail
 generalize w.alloc (.cells #[.int .i64 0,.int .i64 0] 27)=w1 at *;have hx1:af OB w w1:=.of hal (by omega);have hz1:=hal.size;go_wp2_with fail
 refine con.mono ?_;rintro e w2 ⟨hb2,hW⟩;have QF2:=(hb2.2 _ (lt_of_heap QF) (by omega)).trans QF;have hx2:=hx1.trans hb2;clear con;rcases M with ce | l
 ·obtain ⟨rfl,QO2⟩:=hW;have dcon:=sN w.heap.size ce.1 ce.2 w2 QF2;go_wp2_with fail
  refine leaves_cons (f:=64) (args:=#[.pointer (some ⟨w.heap.size,0,none⟩)]) (by simp) (by simp [go_sem]) ?_;refine dcon.mono ?_;rintro e u' w4 ⟨rfl,rfl,rfl⟩;have hal4:=ab w2 (.cells #[.int .i64 ce.1,.int .i64 ce.2] 115);have QE:=dH ((hal4.block _ (lt_of_heap QF2)).trans QF2) (.int .i64 ce.1) (.int .i64 ce.2);have hz2:=hx2.size;have hbE:=vu (hx2.trans (.of hal4 (by omega))) (CX _) (by omega) (.int .i64 ce.1) (.int .i64 ce.2)
  have hkE:aF w.heap.size (w2.alloc (.cells #[.int .i64 ce.1,.int .i64 ce.2] 115)) (((w2.alloc (.cells #[.int .i64 ce.1,.int .i64 ce.2] 115)).setCell ⟨w.heap.size,0,none⟩ (.int .i64 ce.1)).setCell ⟨w.heap.size,1,none⟩ (.int .i64 ce.2)):=((aF.refl _ _).set 0 _).set 1 _;have QO4:=(hal4.block _ (lt_of_heap QO2)).trans QO2;have QOE:=(hkE.2 _ (lt_of_heap QO4) (by omega)).trans QO4;generalize ((w2.alloc (.cells #[.int .i64 ce.1,.int .i64 ce.2] 115)).setCell ⟨w.heap.size,0,none⟩ (.int .i64 ce.1)).setCell ⟨w.heap.size,1,none⟩ (.int .i64 ce.2)=w4 at *
  have x0:w4.cell? ⟨w.heap.size,0,none⟩=some (.int .i64 ce.1):=cell_of (i:=0) QE rfl;have x1:w4.cell? ⟨w.heap.size,1,none⟩=some (.int .i64 ce.2):=cell_of (i:=1) QE rfl;have HE:Hid (pe w OB (.error ce) w4):=⟨hbE,QOE⟩
  simp [Leaves,settle,results,Tryz.results33,go_sem,x0,x1];exact ⟨⟨rfl,rfl⟩,HE.out⟩
 ·obtain ⟨rfl,a,cap,QO2,hls⟩:=hW;have HL:Hid (aI bG 16 (fun b=>w1.heap.size≤b) w2 a l):=hls;have c0:w2.cell? ⟨w.heap.size,0,none⟩=some (.int .i64 0):=cell_of (i:=0) QF2 rfl;have c1:w2.cell? ⟨w.heap.size,1,none⟩=some (.int .i64 0):=cell_of (i:=1) QF2 rfl;have f0:=C3 w2 w.heap.size 0 _ _ QF2;have f1:=C3 w2 w.heap.size 1 _ _ QF2;have hl1:=lt_of_heap QF;clear hls;go_wp2_with fail
  have QE:=dH QF2 (.int .i64 0) (.int .i64 0);have hbE:=vu hx2 (CX _) (by omega) (.int .i64 0) (.int .i64 0);have hkE:aF w.heap.size w2 ((w2.setCell ⟨w.heap.size,0,none⟩ (.int .i64 0)).setCell ⟨w.heap.size,1,none⟩ (.int .i64 0)):=((aF.refl _ _).set 0 _).set 1 _;have QOE:=(hkE.2 _ (lt_of_heap QO2) (by omega)).trans QO2;have HLE:Hid (aI bG 16 (fun b=>w1.heap.size≤b) ((w2.setCell ⟨w.heap.size,0,none⟩ (.int .i64 0)).setCell ⟨w.heap.size,1,none⟩ (.int .i64 0)) a l):=HL.out.bz bZ (hkE.k (by show ¬ _≤w.heap.size; omega))
  generalize ((w2.setCell ⟨w.heap.size,0,none⟩ (.int .i64 0)).setCell ⟨w.heap.size,1,none⟩ (.int .i64 0))=w3 at *;refine leaves_cons (f:=64) (args:=#[.pointer (some ⟨w.heap.size,0,none⟩)]) (by simp) (by simp [go_sem]) ?_;refine (sy w.heap.size w3).mono ?_;rintro e u' w4 ⟨rfl,rfl,rfl⟩;have hal4:=ab w3 (.cells #[.int .i64 0,.int .i64 0] 115);have QE4:=(hal4.block _ (lt_of_heap QE)).trans QE;have QO4:=(hal4.block _ (lt_of_heap QOE)).trans QOE;have hz3:=hbE.size
  have hx4:af OB w (w3.alloc (.cells #[.int .i64 0,.int .i64 0] 115)):=hbE.trans (.of hal4 (by omega));have hl4:=(HLE.out.bz bZ (ay.of hal4)).mono bZ (S':=fun b=>w.heap.size≤b) (fun b h _=>by have:w1.heap.size≤b:=h; show w.heap.size≤b; omega);generalize w3.alloc (.cells #[.int .i64 0,.int .i64 0] 115)=w4 at *;have x0:w4.cell? ⟨w.heap.size,0,none⟩=some (.int .i64 0):=cell_of (i:=0) QE4 rfl;have x1:w4.cell? ⟨w.heap.size,1,none⟩=some (.int .i64 0):=cell_of (i:=1) QE4 rfl;show Leaves Tryz.prog Tryz.f33 _ _ [] _ _
  exact ⟨.agg #[.int .i64 0,.int .i64 0],by simp [results,Tryz.results33,go_sem,x0,x1],rfl,hx4,a,cap,QO4,hl4⟩
def iR (r:Except Er (List cW)):List cW:=match r with | .ok l=>l | .error _=>[]
theorem pe.all {w:World} {OB:Nat} {r:Except Er (List cW)} {w':World} (h:pe w OB r w'):∃ a cap,w'.heap[OB]? = some (.cells #[.slice a (iR r).length cap] 22 (0,0))∧aI bG 16 (fun b=>w.heap.size≤b) w' a (iR r):=by
 rcases r with c | l
 ·exact ⟨none,0,h.2,.inl rfl⟩
 ·exact h.2
theorem yU (s:ByteArray) {w:World} (hg:Gl w):Calls Tryz.prog 17 #[.string s] w fun e w'=>Below w.heap.size w w'∧∃ a cap,e = .returned (.tuple #[.slice a (iR (eY s)).length cap,.agg #[.int .i64 (kK (eY s)).1,.int .i64 (kK (eY s)).2]])∧aI bG 16 (fun b=>w.heap.size≤b) w' a (iR (eY s)):=by
 have hmf:∀ (fn:Fn) (first cap:Array Value) (w:World),(Instr.makeFunc fn first cap).run Tryz.prog w = .ok (.func fn first cap) w:=fun _ _ _ _=>rfl
 have hal1:=ab w (.cells #[.string s] 9);have Q1:=ar w #[.string s] 9;have e1:(w.alloc (.cells #[.string s] 9)).heap.size=w.heap.size+1:=by simp
 have hal2:Below (w.alloc (.cells #[.string s] 9)).heap.size (w.alloc (.cells #[.string s] 9)) ((w.alloc (.cells #[.string s] 9)).alloc (.cells #[.slice none 0 0] 22)):=(CY _ _).alloc (CX _) _;have Q2:=ar (w.alloc (.cells #[.string s] 9)) #[.slice none 0 0] 22;have e2:((w.alloc (.cells #[.string s] 9)).alloc (.cells #[.slice none 0 0] 22)).heap.size=w.heap.size+2:=by simp
 have hal3:Below ((w.alloc (.cells #[.string s] 9)).alloc (.cells #[.slice none 0 0] 22)).heap.size ((w.alloc (.cells #[.string s] 9)).alloc (.cells #[.slice none 0 0] 22)) (((w.alloc (.cells #[.string s] 9)).alloc (.cells #[.slice none 0 0] 22)).alloc (.cells #[.int .i64 0,.int .i64 0] 27)):=(CY _ _).alloc (CX _) _;have Q3:=ar ((w.alloc (.cells #[.string s] 9)).alloc (.cells #[.slice none 0 0] 22)) #[.int .i64 0,.int .i64 0] 27;have QS:=((hal3.block _ (by omega)).trans ((hal2.block _ (lt_of_heap Q1)).trans Q1))
 have QO:=(hal3.block _ (lt_of_heap Q2)).trans Q2;rw [e1] at QO;have QF:=Q3;rw [e2] at QF;have hal:=chain hal1 (chain hal2 hal3);have HG:Hid _:=hg.next hal;clear hal1 hal2 hal3 Q1 Q2 Q3 e1 e2 hg;generalize hM:eY s=M;have HM:Hid (eY s=M):=hM;generalize hl:iR M=l;generalize hr:kK M=r;have HLl:Hid (iR M=l):=hl;have HRr:Hid (kK M=r):=hr;clear hM hl hr;go_enter Tryz.func17,Tryz.ntmps17;go_upto_region 1 with fail
 generalize ((w.alloc (.cells #[.string s] 9)).alloc (.cells #[.slice none 0 0] 22)).alloc (.cells #[.int .i64 0,.int .i64 0] 27)=w1 at *;have con:=vN s HG.out QS QO;rw [HM.out,HRr.out] at con;have hl1:=lt_of_heap QF;clear HG QS;go_wp2_with fail
 refine con.mono ?_;rintro e w2 ⟨rfl,hE⟩;have hx:=hE.1;have hall:=hE.all;rw [HLl.out] at hall;obtain ⟨a,cap,QO2,hls⟩:=hall;have QF2:=(hx.2 _ hl1 (by omega)).trans QF;have HL:Hid (aI bG 16 (fun b=>w1.heap.size≤b) w2 a l):=hls;have hb2:Below w.heap.size w w2:=hal.trans (hx.1.mono (by omega));obtain ⟨c0,c1⟩:=cX QF2;obtain ⟨f0,f1⟩:=jO QF2;clear con hE hls;go_upto_region 2 with fail
 have QE:=dH QF2 (.int .i64 r.1) (.int .i64 r.2);have hbE:=iI (g:=w.heap.size+2) hb2 (by omega) (.int .i64 r.1) (.int .i64 r.2);have hkE:aF (w.heap.size+2) w2 ((w2.setCell ⟨w.heap.size+2,0,none⟩ (.int .i64 r.1)).setCell ⟨w.heap.size+2,1,none⟩ (.int .i64 r.2)):=((aF.refl _ _).set 0 _).set 1 _;have QOE:=(hkE.2 _ (lt_of_heap QO2) (by omega)).trans QO2;have HLE:Hid (aI bG 16 (fun b=>w1.heap.size≤b) ((w2.setCell ⟨w.heap.size+2,0,none⟩ (.int .i64 r.1)).setCell ⟨w.heap.size+2,1,none⟩ (.int .i64 r.2)) a l):=HL.out.bz bZ (hkE.k (by show ¬ _≤w.heap.size+2; omega))
 generalize ((w2.setCell ⟨w.heap.size+2,0,none⟩ (.int .i64 r.1)).setCell ⟨w.heap.size+2,1,none⟩ (.int .i64 r.2))=w3 at *;clear c0 c1 f0 f1 QF2 QO2 hkE HL
 have hCC:∀ W W':World,W.heap[w.heap.size+1]? = some (.cells #[.slice a l.length cap] 22 (0,0))∧W.heap[w.heap.size+2]? = some (.cells #[.int .i64 r.1,.int .i64 r.2] 27 (0,0))→Below W.heap.size W W'→W'.heap[w.heap.size+1]? = some (.cells #[.slice a l.length cap] 22 (0,0))∧W'.heap[w.heap.size+2]? = some (.cells #[.int .i64 r.1,.int .i64 r.2] 27 (0,0)):=fun W W' h hb=>⟨(hb.block _ (lt_of_heap h.1)).trans h.1,(hb.block _ (lt_of_heap h.2)).trans h.2⟩
 have hdr:Below w3.heap.size w3 w3.drew:=(CY _ _).drew;have CW:=hCC _ _ ⟨QOE,QE⟩ hdr;have hl3:=lt_of_heap QE;refine ey (fun W=>W.heap[w.heap.size+1]? = some (.cells #[.slice a l.length cap] 22 (0,0))∧W.heap[w.heap.size+2]? = some (.cells #[.int .i64 r.1,.int .i64 r.2] 27 (0,0))) 3 (by kernel_rfl) ?_;refine aV hCC (some 6) (i:=0) (v:=.slice a l.length cap) rfl rfl (by kernel_rfl) (by kernel_rfl) (by kernel_rfl) (by kernel_rfl) (by kernel_rfl) rfl (fun _ _ _ h=>h) (Or.inl ⟨rfl,fun n hn=>?_⟩) (fun _=>CW) ?_
 ·have c0:=cell_of (i:=0) hn.1 rfl;go_simp
 simp only [Act.put,pA,pB,pC];refine aV hCC (some 7) (i:=1) (v:=.agg #[.int .i64 r.1,.int .i64 r.2]) rfl rfl (by kernel_rfl) (by kernel_rfl) (by kernel_rfl) (by kernel_rfl) (by kernel_rfl) rfl (fun _ _ _ h=>h) (Or.inl ⟨rfl,fun n hn=>?_⟩) (fun _=>CW) ?_
 ·obtain ⟨c0,c1⟩:=cX hn.2;go_simp
 simp only [Act.put,pA,pB,pC];refine bM (rs:=[2]) (by kernel_rfl) (by simp) ?_;intro w5 hb5 jj hj;obtain rfl:jj=2:=by simpa using hj
 clear hj;have C5:=hCC _ _ CW hb5;have D5:=chain hdr hb5;have c0:=cell_of (i:=0) C5.1 rfl;have f0:=C3 w5 (w.heap.size+1) 0 _ _ C5.1;have O6:=C1 w5 (w.heap.size+1) 0 _ _ (.slice a l.length cap) C5.1;have k6:aF (w.heap.size+1) w5 ((w5.setCell ⟨w.heap.size+1,0,none⟩ (.slice a l.length cap))):=(aF.refl _ _).set 0 _;have F6:=(k6.2 _ (lt_of_heap C5.2) (by omega)).trans C5.2;have hb6:Below w.heap.size w ((w5.setCell ⟨w.heap.size+1,0,none⟩ (.slice a l.length cap))):=(chain hbE D5).setCell (p:=⟨w.heap.size+1,0,none⟩) (by show _≤w.heap.size+1; omega) _
 have HL6:Hid (aI bG 16 (fun b=>w1.heap.size≤b) ((w5.setCell ⟨w.heap.size+1,0,none⟩ (.slice a l.length cap))) a l):=(HLE.out.bz bZ (ay.of D5)).bz bZ (k6.k (by show ¬ _≤w.heap.size+1; omega));refine wpOp_step rfl (fun K hK=>?_);go_simp;generalize ((w5.setCell ⟨w.heap.size+1,0,none⟩ (.slice a l.length cap)))=w5' at *;refine hK _ _ ⟨fun _=>⟨O6,F6⟩,?_⟩;clear hK K c0 f0;refine bM (rs:=[3]) (by kernel_rfl) (by simp) ?_;intro w6 hb7 jj hj;obtain rfl:jj=3:=by simpa using hj
 clear hj;have F7:=(hb7.block _ (lt_of_heap F6)).trans F6;have O7:=(hb7.block _ (lt_of_heap O6)).trans O6;have QE7:=dH F7 (.int .i64 r.1) (.int .i64 r.2);have hbE7:=iI (g:=w.heap.size+2) (chain hb6 hb7) (by omega) (.int .i64 r.1) (.int .i64 r.2);have k7:aF (w.heap.size+2) w6 ((w6.setCell ⟨w.heap.size+2,0,none⟩ (.int .i64 r.1)).setCell ⟨w.heap.size+2,1,none⟩ (.int .i64 r.2)):=((aF.refl _ _).set 0 _).set 1 _;have OE:=(k7.2 _ (lt_of_heap O7) (by omega)).trans O7
 have HL7:Hid (aI bG 16 (fun b=>w1.heap.size≤b) ((w6.setCell ⟨w.heap.size+2,0,none⟩ (.int .i64 r.1)).setCell ⟨w.heap.size+2,1,none⟩ (.int .i64 r.2)) a l):=(HL6.out.bz bZ (ay.of hb7)).bz bZ (k7.k (by show ¬ _≤w.heap.size+2; omega));obtain ⟨c0,c1⟩:=cX F7;obtain ⟨f0,f1⟩:=jO F7;refine wpOp_step rfl (fun K hK=>?_);go_simp;generalize ((w6.setCell ⟨w.heap.size+2,0,none⟩ (.int .i64 r.1)).setCell ⟨w.heap.size+2,1,none⟩ (.int .i64 r.2))=w7 at *;refine hK _ _ ⟨fun h=>by simp at h,?_⟩;clear hK K;refine gx (by kernel_rfl) ?_;intro w8 hb8
 have O8:=(hb8.block _ (lt_of_heap OE)).trans OE;have F8:=(hb8.block _ (lt_of_heap QE7)).trans QE7;have o0:w8.cell? ⟨w.heap.size+1,0,none⟩=some (.slice a l.length cap):=cell_of (i:=0) O8 rfl;obtain ⟨y0,y1⟩:=cX F8;have HL8:Hid (aI bG 16 (fun b=>w.heap.size≤b) w8 a l):=(HL7.out.bz bZ (ay.of hb8)).mono bZ (fun b h _=>by have:w1.heap.size≤b:=h; show w.heap.size≤b; omega);go_wp2_with fail
 exact C0 (v:=.tuple #[.slice a l.length cap,.agg #[.int .i64 r.1,.int .i64 r.2]]) (by simp [results,Tryz.results17,go_sem,o0,y0,y1]) rfl ⟨chain hbE7 hb8,a,cap,rfl,HL8.out⟩
end Go.Proofs.YtoknmnngaackkaaGreatDoor
namespace Go.Proofs.YtoknmnngaackkaaGreatDoor
set_option maxRecDepth 100000
set_option maxHeartbeats 16000000
set_option maxRecDepth 100000
set_option maxHeartbeats 1000000
inductive lJ:SX→Prop
 | mk {k:Int} {v:Vl} {t n:ByteArray} {ks:List SX}:ks.length≤1000→(∀ y ∈ ks,lJ y)→lJ (.mk k v t n ks)
theorem lJ.ks {x:SX} (h:lJ x):x.ks.length≤1000∧∀ y ∈ x.ks,lJ y:=by cases h with | mk h1 h2=>exact ⟨h1,h2⟩
def zi {α:Type} (P:α→Prop) (l:List α):Prop:=l.length≤1000∧∀ x ∈ l,P x
abbrev Any {α:Type} (_:α):Prop:=True
structure BC (s:fD):Prop where
 items:zi (fun x:kQ=>lJ x.1) s.items
 sources:zi (fun x:Src=>lJ x.on) s.sources
 ah:lJ s.ah
 aj:lJ s.aj
 group:zi lJ s.group
structure CK (q:j3):Prop where
 parts:zi BC q.parts
 ops:q.ops.length≤1000
 order:zi lJ q.order
structure CV (s:cW):Prop where
 bx:s.bx.length≤1000
 query:CK s.query
 rows:zi (fun r:List Vl=>r.length≤1000) s.rows
 ah:lJ s.ah
structure jP {α:Type} (P:α→Prop) (f:List Tk→PR α):Prop where
 h:∀ {ts x r},f ts = .ok (x,r)→P x
section
variable {α β:Type} {P:α→Prop} {Q:β→Prop}
theorem jP.err {g:List Tk→Er}:jP P (fun ts=>.error (g ts)):=⟨fun h=>by cases h⟩
theorem jP.ok {g:List Tk→α} {p:List Tk→List Tk} (h:∀ ts,P (g ts)):jP P (fun ts=>.ok (g ts,p ts)):=⟨fun H=>by cases H; exact h _⟩
theorem jP.one {x:α} (h:P x):jP P (fun ts=>.ok (x,ts)):=⟨fun H=>by cases H; exact h⟩
theorem jP.pass {f:List Tk→PR α} {p:List Tk→List Tk} (h:jP P f):jP P (fun ts=>f (p ts)):=⟨fun H=>h.h H⟩
theorem jP.bf {f:List Tk→PR β} {k:β→List Tk→PR α} (h:jP Q f) (hk:∀ x,Q x→jP P (k x)):jP P (fun ts=>Go.Proofs.YtoknmnngaackkaaGreatDoor.bf (f ts) k):=⟨fun {ts x r} H=>by
 rcases hf:f ts with e | ⟨y,r1⟩
 ·rw [hf] at H; cases H
 ·rw [hf] at H; exact (hk y (h.h hf)).h H⟩
theorem jP.any {f:List Tk→PR α}:jP Any f:=⟨fun _=>trivial⟩
theorem jP.BY {c:List Tk→Prop} [DecidablePred c] {f g:List Tk→PR α} (hf:jP P f) (hg:jP P g):jP P (fun ts=>if c ts then f ts else g ts):=⟨fun {ts x r} H=>by
 split at H
 ·exact hf.h H
 ·exact hg.h H⟩
theorem jP.of {f g:List Tk→PR α} (h:∀ ts,f ts=g ts) (hg:jP P g):jP P f:=⟨fun {ts _x _r} H=>hg.h ((h ts) ▸ H)⟩
end
structure CU (n:Nat):Prop where
 expr:∀ o,jP lJ (cY n o)
 level:∀ l o,jP lJ (dG n l o)
 chain:∀ l o,jP lJ (b9 n l o)
 loop:∀ l o x,lJ x→jP lJ (gE n l o x)
 zO:∀ o,jP lJ (dz n o)
 xr:∀ o,jP lJ (cO n o)
 piece:∀ o,jP lJ (cE n o)
 behind:∀ o l,l.length≤5→jP (zi lJ) (dc n o l)
 exprs:∀ o l acc,l.length+acc.length≤5→(∀ x ∈ acc,lJ x)→jP (zi lJ) (dA n o l acc)
 agg:∀ k o,jP lJ (iC n k o)
end Go.Proofs.YtoknmnngaackkaaGreatDoor
