/- Together: BB, BC, BD, BE, BF, BG, BH, BI, BJ. -/
import Derived.Deep.DeepCutAuto
import Derived.Deep.CutBlock
import Derived.Lib.Strings
import Derived.Lib.BufferRead
import Derived.Shelf.Pu.Clone
import Derived.Shelf.Lay
import Derived.Ground.MpProg
import Derived.Deep.LoopGhost
import Derived.Test.YtoknmnngaackkaaGreatDoorST4
namespace Go.Proofs.YtoknmnngaackkaaGreatDoor
open Go.RowKit Go.Lib Go.Shelf
set_option maxRecDepth 100000
set_option maxHeartbeats 16000000
set_option maxRecDepth 100000
set_option maxHeartbeats 8000000
theorem rP.of {B:Nat} {W:World} {x:cM} {cs:List Value} (h:cy (fun b=>B≤b) W x cs):rP B W (.agg cs.toArray) x:=by
 obtain ⟨a1,c1,p1,d1,p2,d2,p3,d3,a2,c2,a3,c3,rfl,h⟩:=h;exact ⟨a1,c1,p1,d1,p2,d2,p3,d3,a2,c2,a3,c3,rfl,h⟩
theorem wK {w:World} {R tb:Nat} {ts:List Tk} (h:aR w R tb ts 0):Calls Tryz.prog 130 #[af R 0] w (Ends R tb 0 w (rP w) (fZ ts)):=by
 have hmf:∀ (fn:Fn) (first cap:Array Value) (w:World),(Instr.makeFunc fn first cap).run Tryz.prog w = .ok (.func fn first cap) w:=fun _ _ _ _=>rfl
 have hltR:=h.lt;have hltT:=h.lK;have hx0:aj R w w:=aj.refl _ _;have HR0:=ah h;generalize hM:fZ ts=M;unfold fZ at hM;try dsimp only at hM
 have HM0:=ah hM;clear h hM;go_enter Tryz.func130,Tryz.ntmps130;go_upto_region 1 with fail
 obtain ⟨hal1,Q2⟩:=dZ w cO 57;have hsg6:=hx0.size;generalize w.alloc _=w3 at *;have hx4:aj R w w3:=hx0.trans (.of hal1 ak);have HR5:=ah (HR0.out.next hal1);clear HR0 hx0 hal1;rcases hi8:bK ⟨#[118,105,101,119]⟩ ts with _ | _
 ·have hsz:=hx4.size;have con1509:=aY HR5.out ⟨#[118,105,101,119]⟩;rw [hi8,bT hi8] at con1509;have hm:=HM0.out;simp only [hi8,Jd,if_false] at hm;have HM1514:=ah hm;clear hm HM0 HR5;go_wp2_with fail
  refine con1509.mono ?_;rintro e w1510 ⟨rfl,hR,hb1511⟩;have HR1513:=ah hR;have hx1512:=hx4.trans hb1511;have Q1515:=(hb1511.2 _ (lt_of_heap Q2) ak).trans Q2;clear Q2;clear con1509 hR hb1511 hx4 hsz hi8;have hal1516:=bR w1510 (.cells #[.string ⟨#[116,97,98,108,101]⟩] 9);have hsz:=hx1512.size;have con1517:=de (cap:=1) (HR1513.out.next hal1516) (dh.one w1510 ⟨#[116,97,98,108,101]⟩ 9) ak (by simp);have hm:=HM1514.out
  generalize aV [⟨#[116,97,98,108,101]⟩] ts=L at hm con1517;have HM1523:=ah hm;clear hm HM1514 HR1513;go_wp2_with fail
  generalize w1510.alloc _=wa1519 at *;refine con1517.mono ?_;rintro e w1518 ⟨hb1520,hW⟩;have hxa1521:aj R w1510 w1518:=(aj.of hal1516 ak).trans hb1520;have hx1522:=hx1512.trans hxa1521;have Q1525:=(hxa1521.2 _ (lt_of_heap Q1515) ak).trans Q1515;clear Q1515;clear con1517 hal1516 hb1520 hxa1521 hx1512 hsz;rcases L with ce | ⟨u1526,r1524⟩
  ·obtain ⟨rfl,us,hE⟩:=hW;have HE:=ah hE;clear hE;have e:=HM1523.out.symm;subst e;clear HM1523;go_wp2_with fail
   exact ⟨rfl,Ends.err rfl hx1522 HE.out⟩
  obtain ⟨v,rfl,rfl,hR⟩:=hW;have HR1527:=ah hR;have hm:=HM1523.out;try simp only [bI] at hm
  have HM1528:=ah hm;clear hm hR HM1523;have hsz:=hx1522.size;have con1529:=iA HR1527.out;have hm:=HM1528.out;generalize dt r1524=L at hm con1529;have HM1533:=ah hm;clear hm HM1528 HR1527;have hl_g6:=lt_of_heap Q1525;go_wp2_with fail
  refine con1529.mono ?_;rintro e w1530 ⟨hb1531,hW⟩;have hx1532:=hx1522.trans hb1531;have Q1535:=(hb1531.2 _ (lt_of_heap Q1525) ak).trans Q1525;clear Q1525;clear con1529 hb1531 hx1522;rcases L with ce | ⟨nm,r1534⟩
  ·obtain ⟨rfl,us,hE⟩:=hW;have HE:=ah hE;clear hE;have e:=HM1533.out.symm;subst e;clear HM1533;go_wp2_with fail
   exact ⟨rfl,Ends.err rfl hx1532 HE.out⟩
  obtain ⟨v,rfl,rfl,hR⟩:=hW;have HR1536:=ah hR;have hm:=HM1533.out;try simp only [bI] at hm
  have HM1537:=ah hm;clear hm hR HM1533;clear hsz hl_g6;go_upto_region 8 with (first | (refine aT rfl 57 _ _ rfl cO #[(1:Int),nm,aL,aL,aL,aL,aB,aL,false,aB,aB,aB,(),(),(),aL] rfl rfl dB rfl (eh rfl) ?_))
  have hbl_g6_g1543:=lt_of_heap Q1535;have hal1538:=bR w1530 (.cells #[(1:Int),nm,aL,aL,aL,aL,aB,aL,false,aB,aB,aB,(),(),(),aL] 57)
  have Q1539:=aD w1530 #[(1:Int),nm,aL,aL,aL,aL,aB,aL,false,aB,aB,aB,(),(),(),aL] 57;have hsg1543:=hx1532.size;generalize w1530.alloc _=w1540 at *
  have Q1545:=bH hal1538 Q1535;clear Q1535;have hx1541:aj R w w1540:=hx1532.trans (.of hal1538 ak);have HR1542:=ah (HR1536.out.next hal1538);clear HR1536 hx1532 hal1538;generalize hqg1543:w1530.heap.size=g1543 at *;clear hqg1543;have hal1546:=bR w1540 (.cells #[.string ⟨#[40]⟩] 9);have hsz:=hx1541.size;have con1547:=de (cap:=1) (HR1542.out.next hal1546) (dh.one w1540 ⟨#[40]⟩ 9) ak (by simp);have hm:=HM1537.out
  generalize aV [⟨#[40]⟩] r1534=L at hm con1547;have HM1553:=ah hm;clear hm HM1537 HR1542;go_wp2_with fail
  generalize w1540.alloc _=wa1549 at *;refine con1547.mono ?_;rintro e w1548 ⟨hb1550,hW⟩;have hxa1551:aj R w1540 w1548:=(aj.of hal1546 ak).trans hb1550;have hx1552:=hx1541.trans hxa1551;have Q1555:=(hxa1551.2 _ (lt_of_heap Q1545) ak).trans Q1545;clear Q1545;have Q1556:=(hxa1551.2 _ (lt_of_heap Q1539) ak).trans Q1539;clear Q1539;clear con1547 hal1546 hb1550 hxa1551 hx1541 hsz;rcases L with ce | ⟨u1557,r1554⟩
  ·obtain ⟨rfl,us,hE⟩:=hW;have HE:=ah hE;clear hE;have e:=HM1553.out.symm;subst e;clear HM1553;go_wp2_with fail
   exact ⟨rfl,Ends.err rfl hx1552 HE.out⟩
  obtain ⟨v,rfl,rfl,hR⟩:=hW;have HR1558:=ah hR;have hm:=HM1553.out;try simp only [bI] at hm
  have HM1559:=ah hm;clear hm hR HM1553;have hsz:=hx1552.size;have con1560:=wg HR1558.out;have hm:=HM1559.out;generalize cu eD 8 9 r1554=L at hm con1560;have HM1564:=ah hm;clear hm HM1559 HR1558;have hl_g6:=lt_of_heap Q1555;have hl_g1543:=lt_of_heap Q1556;go_wp2_with fail
  refine con1560.mono ?_;rintro e w1561 ⟨hb1562,hW⟩;have hx1563:=hx1552.trans hb1562;have Q1566:=(hb1562.2 _ (lt_of_heap Q1555) ak).trans Q1555;clear Q1555;have Q1567:=(hb1562.2 _ (lt_of_heap Q1556) ak).trans Q1556;clear Q1556;clear con1560 hb1562 hx1552;rcases L with ce | ⟨l,r1565⟩
  ·obtain ⟨rfl,us,hE⟩:=hW;have HE:=ah hE;clear hE;have e:=HM1564.out.symm;subst e;clear HM1564;go_wp2_with fail
   exact ⟨rfl,Ends.err rfl hx1563 HE.out⟩
  obtain ⟨v,rfl,⟨a1,c1,rfl,hls⟩,hR⟩:=hW;have HR1568:=ah hR;have hm:=HM1564.out;try simp only [bI] at hm
  have HM1569:=ah hm;clear hm hR HM1564;have HK1570:=ah ((br iY 2).mono (S:=fun b=>w1548.heap.size≤b) (fun b h _=>by have:_≤b:=h; show g1543<b; omega) (⟨a1,c1,rfl,hls⟩));clear hls;clear hsz hl_g6 hl_g1543;have z1571:=cell_of (i:=2) Q1567 rfl;have z1571f:=I0 w1561 g1543 2 _ _ Q1567;go_upto_region 10 with fail
  obtain ⟨Q1576,hk1573,hbx⟩:=sV Q1567 (.slice a1 l.length c1);have hx1574:=hbx hx1563 ak ak;clear hbx z1571 z1571f;generalize w1561.setCell _ _=w1572 at *;have Q1577:=(hk1573.2 _ (lt_of_heap Q1566) ak).trans Q1566;clear Q1566;have HK1578:=ah ((br iY 2).next (hk1573.k (by show ¬ _; omega)) HK1570.out);clear HK1570;clear Q1567;have HR1575:=ah (HR1568.out.k1 hk1573 ak ak (by have:=HR1568.out.r2; omega))
  clear HR1568 hk1573 hx1563;have hal1579:=bR w1572 (.cells #[.string ⟨#[41]⟩] 9);have hsz:=hx1574.size;have con1580:=de (cap:=1) (HR1575.out.next hal1579) (dh.one w1572 ⟨#[41]⟩ 9) ak (by simp);have hm:=HM1569.out;generalize aV [⟨#[41]⟩] r1565=L at hm con1580;have HM1586:=ah hm;clear hm HM1569 HR1575;go_wp2_with fail
  generalize w1572.alloc _=wa1582 at *;refine con1580.mono ?_;rintro e w1581 ⟨hb1583,hW⟩;have hxa1584:aj R w1572 w1581:=(aj.of hal1579 ak).trans hb1583;have hx1585:=hx1574.trans hxa1584;have Q1588:=(hxa1584.2 _ (lt_of_heap Q1577) ak).trans Q1577;clear Q1577;have Q1589:=(hxa1584.2 _ (lt_of_heap Q1576) ak).trans Q1576;clear Q1576;have HK1590:=ah ((br iY 2).next (hxa1584.k1.k (by show ¬ _; omega)) HK1578.out);clear HK1578;clear con1580 hal1579 hb1583 hxa1584 hx1574 hsz
  rcases L with ce | ⟨u1591,r1587⟩
  ·obtain ⟨rfl,us,hE⟩:=hW;have HE:=ah hE;clear hE;have e:=HM1586.out.symm;subst e;clear HM1586;go_wp2_with fail
   exact ⟨rfl,Ends.err rfl hx1585 HE.out⟩
  obtain ⟨v,rfl,rfl,hR⟩:=hW;have HR1592:=ah hR;have hm:=HM1586.out;try simp only [bI] at hm
  have HM1593:=ah hm;clear hm hR HM1586;have e:=HM1593.out;subst e;clear HM1593
  go_wp2_with (first | (refine wpList_load_row rfl 57 _ rfl g1543 rfl 57 #[(1:Int),nm,.slice a1 l.length c1,aL,aL,aL,aB,aL,false,aB,aB,aB,(),(),(),aL] (0,0) _ Q1589 Tryz.underlying57 rfl dB ?_) | (refine wpList_store_row rfl 57 _ _ rfl w #[(1:Int),nm,.slice a1 l.length c1,aL,aL,aL,aB,aL,false,aB,aB,aB,(),(),(),aL] rfl rfl 57 cO Q1588 dB rfl (eh rfl) ?_))
  obtain ⟨QE,hRE,hbE,hkE⟩:=gC (w:=w) Q1588 HR1592.out hx1585 ak hltR hltT #[(1:Int),nm,.slice a1 l.length c1,aL,aL,aL,aB,aL,false,aB,aB,aB,(),(),(),aL];generalize w1581.setRow _ _=wE at *
  have L0:(iB pO 2) (fun b=>w.heap.size≤b) wE l [.slice a1 l.length c1]:=(br iY 2).mono (fun b h _=>by have:g1543<b:=h; show _≤b; omega) ((br iY 2).next (hkE.k (by show ¬ _; omega)) HK1590.out)
  exact I7 (v:=.agg #[(1:Int),nm,.slice a1 l.length c1,aL,aL,aL,aB,aL,false,aB,aB,aB,(),(),(),aL]) (results_cell_row Tryz.results130 _ _ _ _ _ _ _ rfl QE Tryz.underlying57 rfl dB) rfl (Ends.cK (x:=(⟨1,nm,l,iz,[],false,dM⟩:cM)) rfl hbE (⟨a1,c1,none,0,none,0,none,0,none,0,none,0,rfl,L0.ls,.inl rfl,.inl rfl,.inl rfl,.inl rfl,aJ.nil _⟩) hRE)
 ·have hsz:=hx4.size;have con2509:=aY HR5.out ⟨#[118,105,101,119]⟩;rw [hi8,cG hi8] at con2509;have hm:=HM0.out;simp only [hi8,if_true] at hm;have HM2514:=ah hm;clear hm HM0 HR5;go_wp2_with fail
  refine con2509.mono ?_;rintro e w2510 ⟨rfl,hR,hb2511⟩;have HR2513:=ah hR;have hx2512:=hx4.trans hb2511;have Q2515:=(hb2511.2 _ (lt_of_heap Q2) ak).trans Q2;clear Q2;clear con2509 hR hb2511 hx4 hsz hi8;have hsz:=hx2512.size;have con2516:=iA HR2513.out;have hm:=HM2514.out;generalize dt (aC ts)=L at hm con2516;have HM2520:=ah hm;clear hm HM2514 HR2513;have hl_g6:=lt_of_heap Q2515;go_wp2_with fail
  refine con2516.mono ?_;rintro e w2517 ⟨hb2518,hW⟩;have hx2519:=hx2512.trans hb2518;have Q2522:=(hb2518.2 _ (lt_of_heap Q2515) ak).trans Q2515;clear Q2515;clear con2516 hb2518 hx2512;rcases L with ce | ⟨nm,r2521⟩
  ·obtain ⟨rfl,us,hE⟩:=hW;have HE:=ah hE;clear hE;have e:=HM2520.out.symm;subst e;clear HM2520;go_wp2_with fail
   exact ⟨rfl,Ends.err rfl hx2519 HE.out⟩
  obtain ⟨v,rfl,rfl,hR⟩:=hW;have HR2523:=ah hR;have hm:=HM2520.out;try simp only [bI] at hm
  have HM2524:=ah hm;clear hm hR HM2520;clear hsz hl_g6;go_upto_region 3 with (first | (refine aT rfl 57 _ _ rfl cO #[(2:Int),nm,aL,aL,aL,aL,aB,aL,false,aB,aB,aB,(),(),(),aL] rfl rfl dB rfl (eh rfl) ?_))
  have hbl_g6_g2530:=lt_of_heap Q2522;have hal2525:=bR w2517 (.cells #[(2:Int),nm,aL,aL,aL,aL,aB,aL,false,aB,aB,aB,(),(),(),aL] 57)
  have Q2526:=aD w2517 #[(2:Int),nm,aL,aL,aL,aL,aB,aL,false,aB,aB,aB,(),(),(),aL] 57;have hsg2530:=hx2519.size;generalize w2517.alloc _=w2527 at *
  have Q2532:=bH hal2525 Q2522;clear Q2522;have hx2528:aj R w w2527:=hx2519.trans (.of hal2525 ak);have HR2529:=ah (HR2523.out.next hal2525);clear HR2523 hx2519 hal2525;generalize hqg2530:w2517.heap.size=g2530 at *;clear hqg2530;have hal2533:=bR w2527 (.cells #[.string ⟨#[97,115]⟩] 9);have hsz:=hx2528.size;have con2534:=de (cap:=1) (HR2529.out.next hal2533) (dh.one w2527 ⟨#[97,115]⟩ 9) ak (by simp);have hm:=HM2524.out
  generalize aV [⟨#[97,115]⟩] r2521=L at hm con2534;have HM2540:=ah hm;clear hm HM2524 HR2529;go_wp2_with fail
  generalize w2527.alloc _=wa2536 at *;refine con2534.mono ?_;rintro e w2535 ⟨hb2537,hW⟩;have hxa2538:aj R w2527 w2535:=(aj.of hal2533 ak).trans hb2537;have hx2539:=hx2528.trans hxa2538;have Q2542:=(hxa2538.2 _ (lt_of_heap Q2532) ak).trans Q2532;clear Q2532;have Q2543:=(hxa2538.2 _ (lt_of_heap Q2526) ak).trans Q2526;clear Q2526;clear con2534 hal2533 hb2537 hxa2538 hx2528 hsz;rcases L with ce | ⟨u2544,r2541⟩
  ·obtain ⟨rfl,us,hE⟩:=hW;have HE:=ah hE;clear hE;have e:=HM2540.out.symm;subst e;clear HM2540;go_wp2_with fail
   exact ⟨rfl,Ends.err rfl hx2539 HE.out⟩
  obtain ⟨v,rfl,rfl,hR⟩:=hW;have HR2545:=ah hR;have hm:=HM2540.out;try simp only [bI] at hm
  have HM2546:=ah hm;clear hm hR HM2540;have hsz:=hx2539.size;have con2547:=uT HR2545.out;have hm:=HM2546.out;generalize gn r2541=L at hm con2547;have HM2551:=ah hm;clear hm HM2546 HR2545;have hl_g6:=lt_of_heap Q2542;have hl_g2530:=lt_of_heap Q2543;go_wp2_with fail
  refine con2547.mono ?_;rintro e w2548 ⟨hb2549,hW⟩;have hx2550:=hx2539.trans hb2549;have Q2553:=(hb2549.2 _ (lt_of_heap Q2542) ak).trans Q2542;clear Q2542;have Q2554:=(hb2549.2 _ (lt_of_heap Q2543) ak).trans Q2543;clear Q2543;clear con2547 hb2549 hx2539;rcases L with ce | ⟨q,r2552⟩
  ·obtain ⟨rfl,us,hE⟩:=hW;have HE:=ah hE;clear hE;have e:=HM2551.out.symm;subst e;clear HM2551;go_wp2_with fail
   exact ⟨rfl,Ends.err rfl hx2550 HE.out⟩
  obtain ⟨v,rfl,⟨p1,d1,p2,d2,p3,d3,rfl,h1,h2,h3⟩,hR⟩:=hW;have HR2555:=ah hR;have hm:=HM2551.out;try simp only [bI] at hm
  have HM2556:=ah hm;clear hm hR HM2551;have HK2557:=ah ((br b8 21).mono (S:=fun b=>w2535.heap.size≤b) (fun b h _=>by have:_≤b:=h; show g2530<b; omega) (⟨p1,d1,rfl,h1⟩));clear h1;have HK2558:=ah ((br fv 1).mono (S:=fun b=>w2535.heap.size≤b) (fun b h _=>by have:_≤b:=h; show g2530<b; omega) (⟨p2,d2,rfl,h2⟩));clear h2
  have HK2559:=ah ((br b9 7).mono (S:=fun b=>w2535.heap.size≤b) (fun b h _=>by have:_≤b:=h; show g2530<b; omega) (⟨p3,d3,rfl,h3⟩));clear h3;clear hsz hl_g6 hl_g2530;have z2560:=cell_of (i:=3) Q2554 rfl;have z2560f:=I0 w2548 g2530 3 _ _ Q2554;have z2561:=cell_of (i:=4) Q2554 rfl;have z2561f:=I0 w2548 g2530 4 _ _ Q2554
  have z2562:=cell_of (i:=5) Q2554 rfl;have z2562f:=I0 w2548 g2530 5 _ _ Q2554;have z2563:=cell_of (i:=6) Q2554 rfl;have z2563f:=I0 w2548 g2530 6 _ _ Q2554;go_upto_region 5 with fail
  obtain ⟨Q2568,hk2565,hbx⟩:=oV Q2554 (.slice p1 q.parts.length d1) (.slice p2 q.ops.length d2) (.slice p3 q.order.length d3) q.aH;have hx2566:=hbx hx2550 ak ak;clear hbx z2560 z2560f z2561 z2561f z2562 z2562f z2563 z2563f;generalize ((((w2548.setCell (af g2530 3) (.slice p1 q.parts.length d1)).setCell (af g2530 4) (.slice p2 q.ops.length d2)).setCell (af g2530 5) (.slice p3 q.order.length d3)).setCell (af g2530 6) q.aH)=w2564 at *;have Q2569:=(hk2565.2 _ (lt_of_heap Q2553) ak).trans Q2553;clear Q2553
  have HK2570:=ah ((br b8 21).next (hk2565.k (by show ¬ _; omega)) HK2557.out);clear HK2557;have HK2571:=ah ((br fv 1).next (hk2565.k (by show ¬ _; omega)) HK2558.out);clear HK2558;have HK2572:=ah ((br b9 7).next (hk2565.k (by show ¬ _; omega)) HK2559.out);clear HK2559;clear Q2554
  have HR2567:=ah (HR2555.out.k1 hk2565 ak ak (by have:=HR2555.out.r2; omega));clear HR2555 hk2565 hx2550;have e:=HM2556.out;subst e;clear HM2556
  go_wp2_with (first | (refine wpList_load_row rfl 57 _ rfl g2530 rfl 57 #[(2:Int),nm,aL,.slice p1 q.parts.length d1,.slice p2 q.ops.length d2,.slice p3 q.order.length d3,q.aH,aL,false,aB,aB,aB,(),(),(),aL] (0,0) _ Q2568 Tryz.underlying57 rfl dB ?_) | (refine wpList_store_row rfl 57 _ _ rfl w #[(2:Int),nm,aL,.slice p1 q.parts.length d1,.slice p2 q.ops.length d2,.slice p3 q.order.length d3,q.aH,aL,false,aB,aB,aB,(),(),(),aL] rfl rfl 57 cO Q2569 dB rfl (eh rfl) ?_))
  obtain ⟨QE,hRE,hbE,hkE⟩:=gC (w:=w) Q2569 HR2567.out hx2566 ak hltR hltT #[(2:Int),nm,aL,.slice p1 q.parts.length d1,.slice p2 q.ops.length d2,.slice p3 q.order.length d3,q.aH,aL,false,aB,aB,aB,(),(),(),aL]
  generalize w2564.setRow w #[(2:Int),nm,aL,.slice p1 q.parts.length d1,.slice p2 q.ops.length d2,.slice p3 q.order.length d3,q.aH,aL,false,aB,aB,aB,(),(),(),aL]=wE at *;have L0:(iB eS 21) (fun b=>w.heap.size≤b) wE q.parts [.slice p1 q.parts.length d1]:=(br b8 21).mono (fun b h _=>by have:g2530<b:=h; show _≤b; omega) ((br b8 21).next (hkE.k (by show ¬ _; omega)) HK2570.out)
  have L1:(iB lD 1) (fun b=>w.heap.size≤b) wE q.ops [.slice p2 q.ops.length d2]:=(br fv 1).mono (fun b h _=>by have:g2530<b:=h; show _≤b; omega) ((br fv 1).next (hkE.k (by show ¬ _; omega)) HK2571.out);have L2:(iB fu 7) (fun b=>w.heap.size≤b) wE q.order [.slice p3 q.order.length d3]:=(br b9 7).mono (fun b h _=>by have:g2530<b:=h; show _≤b; omega) ((br b9 7).next (hkE.k (by show ¬ _; omega)) HK2572.out)
  exact I7 (v:=.agg #[(2:Int),nm,aL,.slice p1 q.parts.length d1,.slice p2 q.ops.length d2,.slice p3 q.order.length d3,q.aH,aL,false,aB,aB,aB,(),(),(),aL]) (results_cell_row Tryz.results130 _ _ _ _ _ _ _ rfl QE Tryz.underlying57 rfl dB) rfl (Ends.cK (x:=(⟨2,nm,[],q,[],false,dM⟩:cM)) rfl hbE (⟨none,0,p1,d1,p2,d2,p3,d3,none,0,none,0,rfl,.inl rfl,L0.ls,L1.ls,L2.ls,.inl rfl,aJ.nil _⟩) hRE)
theorem rV {w:World} {R tb:Nat} {ts:List Tk} (h:aR w R tb ts 0):Calls Tryz.prog 100 #[af R 0] w (Ends R tb 0 w (rP w) (cZ ts)):=by
 have hmf:∀ (fn:Fn) (first cap:Array Value) (w:World),(Instr.makeFunc fn first cap).run Tryz.prog w = .ok (.func fn first cap) w:=fun _ _ _ _=>rfl
 have hltR:=h.lt;have hltT:=h.lK;have hx0:aj R w w:=aj.refl _ _;have HR0:=ah h;generalize hM:cZ ts=M;unfold cZ at hM;try dsimp only at hM
 have HM0:=ah hM;clear h hM;go_enter Tryz.func100,Tryz.ntmps100;go_upto_region 1 with fail
 obtain ⟨hal1,Q2⟩:=dZ w cO 57;have hsg6:=hx0.size;generalize w.alloc _=w3 at *;have hx4:aj R w w3:=hx0.trans (.of hal1 ak);have HR5:=ah (HR0.out.next hal1);clear HR0 hx0 hal1;rcases hi8:bK ⟨#[99,114,101,97,116,101]⟩ ts with _ | _
 ·have hsz:=hx4.size;have con1509:=aY HR5.out ⟨#[99,114,101,97,116,101]⟩;rw [hi8,bT hi8] at con1509;have hm:=HM0.out;simp only [hi8,Jd,if_false] at hm;have HM1514:=ah hm;clear hm HM0 HR5;go_wp2_with fail
  refine con1509.mono ?_;rintro e w1510 ⟨rfl,hR,hb1511⟩;have HR1513:=ah hR;have hx1512:=hx4.trans hb1511;have Q1515:=(hb1511.2 _ (lt_of_heap Q2) ak).trans Q2;clear Q2;clear con1509 hR hb1511 hx4 hsz hi8;rcases hi1516:bK ⟨#[105,110,115,101,114,116]⟩ ts with _ | _
  ·have hsz:=hx1512.size;have con3017:=aY HR1513.out ⟨#[105,110,115,101,114,116]⟩;rw [hi1516,bT hi1516] at con3017;have hm:=HM1514.out;simp only [hi1516,Jd,if_false] at hm;have HM3022:=ah hm;clear hm HM1514 HR1513;go_wp2_with fail
   refine con3017.mono ?_;rintro e w3018 ⟨rfl,hR,hb3019⟩;have HR3021:=ah hR;have hx3020:=hx1512.trans hb3019;have Q3023:=(hb3019.2 _ (lt_of_heap Q1515) ak).trans Q1515;clear Q1515;clear con3017 hR hb3019 hx1512 hsz hi1516;rcases hi3024:bK ⟨#[100,101,108,101,116,101]⟩ ts with _ | _
   ·have hsz:=hx3020.size;have con4525:=aY HR3021.out ⟨#[100,101,108,101,116,101]⟩;rw [hi3024,bT hi3024] at con4525;have hm:=HM3022.out;simp only [hi3024,Jd,if_false] at hm;have HM4530:=ah hm;clear hm HM3022 HR3021;go_wp2_with fail
    refine con4525.mono ?_;rintro e w4526 ⟨rfl,hR,hb4527⟩;have HR4529:=ah hR;have hx4528:=hx3020.trans hb4527;have Q4531:=(hb4527.2 _ (lt_of_heap Q3023) ak).trans Q3023;clear Q3023;clear con4525 hR hb4527 hx3020 hsz hi3024;rcases hi4532:bK ⟨#[115,104,111,119]⟩ ts with _ | _
    ·have hsz:=hx4528.size;have con6033:=aY HR4529.out ⟨#[115,104,111,119]⟩;rw [hi4532,bT hi4532] at con6033;have hm:=HM4530.out;simp only [hi4532,Jd,if_false] at hm;have HM6038:=ah hm;clear hm HM4530 HR4529;go_wp2_with fail
     refine con6033.mono ?_;rintro e w6034 ⟨rfl,hR,hb6035⟩;have HR6037:=ah hR;have hx6036:=hx4528.trans hb6035;have Q6039:=(hb6035.2 _ (lt_of_heap Q4531) ak).trans Q4531;clear Q4531;clear con6033 hR hb6035 hx4528 hsz hi4532;have hR:=HR6037.out;obtain ⟨tt,rr,ets⟩:=hR.iU.ne;have hm:=HM6038.out;rw [ets] at hR hm;have conf:=fj hR 2;subst hm;clear HM6038 HR6037;have HRf:=ah hR;clear hR;go_wp2_with fail
     refine cR conf fun wf hbf=>?_;go_wp2_with fail
     exact ⟨rfl,Ends.err (c:=(2,iI (tt :: rr))) rfl (hx6036.trans (.of hbf (by have:=hx6036.size; omega))) (HRf.out.next hbf)⟩
    ·have hsz:=hx4528.size;have con7033:=aY HR4529.out ⟨#[115,104,111,119]⟩;rw [hi4532,cG hi4532] at con7033;have hm:=HM4530.out;simp only [hi4532,if_true] at hm;have HM7038:=ah hm;clear hm HM4530 HR4529;go_wp2_with fail
     refine con7033.mono ?_;rintro e w7034 ⟨rfl,hR,hb7035⟩;have HR7037:=ah hR;have hx7036:=hx4528.trans hb7035;have Q7039:=(hb7035.2 _ (lt_of_heap Q4531) ak).trans Q4531;clear Q4531;clear con7033 hR hb7035 hx4528 hsz hi4532;have hsz:=hx7036.size;have con7040:=uT HR7037.out;have hm:=HM7038.out;generalize gn (aC ts)=L at hm con7040;have HM7044:=ah hm;clear hm HM7038 HR7037;have hl_g6:=lt_of_heap Q7039;go_wp2_with fail
     refine con7040.mono ?_;rintro e w7041 ⟨hb7042,hW⟩;have hx7043:=hx7036.trans hb7042;have Q7046:=(hb7042.2 _ (lt_of_heap Q7039) ak).trans Q7039;clear Q7039;clear con7040 hb7042 hx7036;rcases L with ce | ⟨q,r7045⟩
     ·obtain ⟨rfl,us,hE⟩:=hW;have HE:=ah hE;clear hE;have e:=HM7044.out.symm;subst e;clear HM7044;go_wp2_with fail
      exact ⟨rfl,Ends.err rfl hx7043 HE.out⟩
     obtain ⟨v,rfl,⟨p1,d1,p2,d2,p3,d3,rfl,h1,h2,h3⟩,hR⟩:=hW;have HR7047:=ah hR;have hm:=HM7044.out;try simp only [bI] at hm
     have HM7048:=ah hm;clear hm hR HM7044;have HK7049:=ah ((br b8 21).mono (S:=fun b=>w7034.heap.size≤b) (fun b h _=>by have:_≤b:=h; show w.heap.size<b; omega) (⟨p1,d1,rfl,h1⟩));clear h1;have HK7050:=ah ((br fv 1).mono (S:=fun b=>w7034.heap.size≤b) (fun b h _=>by have:_≤b:=h; show w.heap.size<b; omega) (⟨p2,d2,rfl,h2⟩));clear h2
     have HK7051:=ah ((br b9 7).mono (S:=fun b=>w7034.heap.size≤b) (fun b h _=>by have:_≤b:=h; show w.heap.size<b; omega) (⟨p3,d3,rfl,h3⟩));clear h3;clear hsz hl_g6;have e:=HM7048.out;subst e;clear HM7048
     go_wp2_with (first | (refine wpList_store_row rfl 57 _ _ rfl w #[(5:Int),(),aL,.slice p1 q.parts.length d1,.slice p2 q.ops.length d2,.slice p3 q.order.length d3,q.aH,aL,false,aB,aB,aB,(),(),(),aL] rfl rfl 57 cO Q7046 dB rfl (eh rfl) ?_))
     obtain ⟨QE,hRE,hbE,hkE⟩:=gC (w:=w) Q7046 HR7047.out hx7043 ak hltR hltT #[(5:Int),(),aL,.slice p1 q.parts.length d1,.slice p2 q.ops.length d2,.slice p3 q.order.length d3,q.aH,aL,false,aB,aB,aB,(),(),(),aL]
     generalize w7041.setRow w #[(5:Int),(),aL,.slice p1 q.parts.length d1,.slice p2 q.ops.length d2,.slice p3 q.order.length d3,q.aH,aL,false,aB,aB,aB,(),(),(),aL]=wE at *;have L0:(iB eS 21) (fun b=>w.heap.size≤b) wE q.parts [.slice p1 q.parts.length d1]:=(br b8 21).mono (fun b h _=>by have:w.heap.size<b:=h; show _≤b; omega) ((br b8 21).next (hkE.k (by show ¬ _; omega)) HK7049.out)
     have L1:(iB lD 1) (fun b=>w.heap.size≤b) wE q.ops [.slice p2 q.ops.length d2]:=(br fv 1).mono (fun b h _=>by have:w.heap.size<b:=h; show _≤b; omega) ((br fv 1).next (hkE.k (by show ¬ _; omega)) HK7050.out);have L2:(iB fu 7) (fun b=>w.heap.size≤b) wE q.order [.slice p3 q.order.length d3]:=(br b9 7).mono (fun b h _=>by have:w.heap.size<b:=h; show _≤b; omega) ((br b9 7).next (hkE.k (by show ¬ _; omega)) HK7051.out)
     exact I7 (v:=.agg #[(5:Int),(),aL,.slice p1 q.parts.length d1,.slice p2 q.ops.length d2,.slice p3 q.order.length d3,q.aH,aL,false,aB,aB,aB,(),(),(),aL]) (results_cell_row Tryz.results100 _ _ _ _ _ _ _ rfl QE Tryz.underlying57 rfl dB) rfl (Ends.cK (x:=(⟨5,eB,[],q,[],false,dM⟩:cM)) rfl hbE (⟨none,0,p1,d1,p2,d2,p3,d3,none,0,none,0,rfl,.inl rfl,L0.ls,L1.ls,L2.ls,.inl rfl,aJ.nil _⟩) hRE)
   ·have hsz:=hx3020.size;have con5525:=aY HR3021.out ⟨#[100,101,108,101,116,101]⟩;rw [hi3024,cG hi3024] at con5525;have hm:=HM3022.out;simp only [hi3024,if_true] at hm;have HM5530:=ah hm;clear hm HM3022 HR3021;go_wp2_with fail
    refine con5525.mono ?_;rintro e w5526 ⟨rfl,hR,hb5527⟩;have HR5529:=ah hR;have hx5528:=hx3020.trans hb5527;have Q5531:=(hb5527.2 _ (lt_of_heap Q3023) ak).trans Q3023;clear Q3023;clear con5525 hR hb5527 hx3020 hsz hi3024;have hsz:=hx5528.size;have con5532:=vy HR5529.out;have hm:=HM5530.out;generalize gL (aC ts)=L at hm con5532;have HM5536:=ah hm;clear hm HM5530 HR5529;have hl_g6:=lt_of_heap Q5531;go_wp2_with fail
    refine con5532.mono ?_;rintro e w5533 ⟨hb5534,hW⟩;have hx5535:=hx5528.trans hb5534;have Q5538:=(hb5534.2 _ (lt_of_heap Q5531) ak).trans Q5531;clear Q5531;clear con5532 hb5534 hx5528;rcases L with ce | ⟨x,r5537⟩
    ·obtain ⟨rfl,us,hE⟩:=hW;have HE:=ah hE;clear hE;have e:=HM5536.out.symm;subst e;clear HM5536;go_wp2_with fail
     exact ⟨rfl,Ends.err rfl hx5535 HE.out⟩
    obtain ⟨v,rfl,⟨a1,c1,p1,d1,p2,d2,p3,d3,a2,c2,a3,c3,rfl,h1,h2,h3,h4,h5,h6⟩,hR⟩:=hW;have HR5539:=ah hR;have hm:=HM5536.out;try simp only [bI] at hm
    have HM5540:=ah hm;clear hm hR HM5536
    have HK5541:=ah (bJ.mono (S:=fun b=>w5526.heap.size≤b) (fun b h _=>by have:_≤b:=h; show w.heap.size<b; omega) (⟨a1,c1,p1,d1,p2,d2,p3,d3,a2,c2,a3,c3,rfl,h1,h2,h3,h4,h5,h6⟩))
    clear h1 h2 h3 h4 h5 h6;clear hsz hl_g6;have e:=HM5540.out;subst e;clear HM5540;go_wp2_with (first | (refine wpList_store_row rfl 57 _ _ rfl w #[x.kind,x.name,.slice a1 x.cF.length c1,.slice p1 x.query.parts.length d1,.slice p2 x.query.ops.length d2,.slice p3 x.query.order.length d3,x.query.aH,.slice a2 x.rows.length c2,x.ax,x.au.k,x.au.v.1,x.au.v.2.1,x.au.v.2.2,x.au.bp,x.au.name,.slice a3 x.au.ks.length c3] rfl rfl 57 cO Q5538 dB rfl (eh rfl) ?_))
    obtain ⟨QE,hRE,hbE,hkE⟩:=gC (w:=w) Q5538 HR5539.out hx5535 ak hltR hltT #[x.kind,x.name,.slice a1 x.cF.length c1,.slice p1 x.query.parts.length d1,.slice p2 x.query.ops.length d2,.slice p3 x.query.order.length d3,x.query.aH,.slice a2 x.rows.length c2,x.ax,x.au.k,x.au.v.1,x.au.v.2.1,x.au.v.2.2,x.au.bp,x.au.name,.slice a3 x.au.ks.length c3]
    generalize w5533.setRow _ _=wE at *
    have L0:cy (fun b=>w.heap.size≤b) wE x [.int .i64 x.kind,x.name,.slice a1 x.cF.length c1,.slice p1 x.query.parts.length d1,.slice p2 x.query.ops.length d2,.slice p3 x.query.order.length d3,x.query.aH,.slice a2 x.rows.length c2,x.ax,x.au.k,x.au.v.1,x.au.v.2.1,x.au.v.2.2,x.au.bp,x.au.name,.slice a3 x.au.ks.length c3]:=bJ.mono (fun b h _=>by have:w.heap.size<b:=h; show _≤b; omega) (bJ.next (hkE.k (by show ¬ _; omega)) HK5541.out)
    exact I7 (v:=.agg #[x.kind,x.name,.slice a1 x.cF.length c1,.slice p1 x.query.parts.length d1,.slice p2 x.query.ops.length d2,.slice p3 x.query.order.length d3,x.query.aH,.slice a2 x.rows.length c2,x.ax,x.au.k,x.au.v.1,x.au.v.2.1,x.au.v.2.2,x.au.bp,x.au.name,.slice a3 x.au.ks.length c3]) (results_cell_row Tryz.results100 _ _ _ _ _ _ _ rfl QE Tryz.underlying57 rfl dB) rfl (Ends.cK (x:=x) rfl hbE (rP.of L0) hRE)
  ·have hsz:=hx1512.size;have con4017:=aY HR1513.out ⟨#[105,110,115,101,114,116]⟩;rw [hi1516,cG hi1516] at con4017;have hm:=HM1514.out;simp only [hi1516,if_true] at hm;have HM4022:=ah hm;clear hm HM1514 HR1513;go_wp2_with fail
   refine con4017.mono ?_;rintro e w4018 ⟨rfl,hR,hb4019⟩;have HR4021:=ah hR;have hx4020:=hx1512.trans hb4019;have Q4023:=(hb4019.2 _ (lt_of_heap Q1515) ak).trans Q1515;clear Q1515;clear con4017 hR hb4019 hx1512 hsz hi1516;have hsz:=hx4020.size;have con4024:=tV HR4021.out;have hm:=HM4022.out;generalize fD (aC ts)=L at hm con4024;have HM4028:=ah hm;clear hm HM4022 HR4021;have hl_g6:=lt_of_heap Q4023;go_wp2_with fail
   refine con4024.mono ?_;rintro e w4025 ⟨hb4026,hW⟩;have hx4027:=hx4020.trans hb4026;have Q4030:=(hb4026.2 _ (lt_of_heap Q4023) ak).trans Q4023;clear Q4023;clear con4024 hb4026 hx4020;rcases L with ce | ⟨x,r4029⟩
   ·obtain ⟨rfl,us,hE⟩:=hW;have HE:=ah hE;clear hE;have e:=HM4028.out.symm;subst e;clear HM4028;go_wp2_with fail
    exact ⟨rfl,Ends.err rfl hx4027 HE.out⟩
   obtain ⟨v,rfl,⟨a1,c1,p1,d1,p2,d2,p3,d3,a2,c2,a3,c3,rfl,h1,h2,h3,h4,h5,h6⟩,hR⟩:=hW;have HR4031:=ah hR;have hm:=HM4028.out;try simp only [bI] at hm
   have HM4032:=ah hm;clear hm hR HM4028
   have HK4033:=ah (bJ.mono (S:=fun b=>w4018.heap.size≤b) (fun b h _=>by have:_≤b:=h; show w.heap.size<b; omega) (⟨a1,c1,p1,d1,p2,d2,p3,d3,a2,c2,a3,c3,rfl,h1,h2,h3,h4,h5,h6⟩))
   clear h1 h2 h3 h4 h5 h6;clear hsz hl_g6;have e:=HM4032.out;subst e;clear HM4032;go_wp2_with (first | (refine wpList_store_row rfl 57 _ _ rfl w #[x.kind,x.name,.slice a1 x.cF.length c1,.slice p1 x.query.parts.length d1,.slice p2 x.query.ops.length d2,.slice p3 x.query.order.length d3,x.query.aH,.slice a2 x.rows.length c2,x.ax,x.au.k,x.au.v.1,x.au.v.2.1,x.au.v.2.2,x.au.bp,x.au.name,.slice a3 x.au.ks.length c3] rfl rfl 57 cO Q4030 dB rfl (eh rfl) ?_))
   obtain ⟨QE,hRE,hbE,hkE⟩:=gC (w:=w) Q4030 HR4031.out hx4027 ak hltR hltT #[x.kind,x.name,.slice a1 x.cF.length c1,.slice p1 x.query.parts.length d1,.slice p2 x.query.ops.length d2,.slice p3 x.query.order.length d3,x.query.aH,.slice a2 x.rows.length c2,x.ax,x.au.k,x.au.v.1,x.au.v.2.1,x.au.v.2.2,x.au.bp,x.au.name,.slice a3 x.au.ks.length c3]
   generalize w4025.setRow _ _=wE at *
   have L0:cy (fun b=>w.heap.size≤b) wE x [.int .i64 x.kind,x.name,.slice a1 x.cF.length c1,.slice p1 x.query.parts.length d1,.slice p2 x.query.ops.length d2,.slice p3 x.query.order.length d3,x.query.aH,.slice a2 x.rows.length c2,x.ax,x.au.k,x.au.v.1,x.au.v.2.1,x.au.v.2.2,x.au.bp,x.au.name,.slice a3 x.au.ks.length c3]:=bJ.mono (fun b h _=>by have:w.heap.size<b:=h; show _≤b; omega) (bJ.next (hkE.k (by show ¬ _; omega)) HK4033.out)
   exact I7 (v:=.agg #[x.kind,x.name,.slice a1 x.cF.length c1,.slice p1 x.query.parts.length d1,.slice p2 x.query.ops.length d2,.slice p3 x.query.order.length d3,x.query.aH,.slice a2 x.rows.length c2,x.ax,x.au.k,x.au.v.1,x.au.v.2.1,x.au.v.2.2,x.au.bp,x.au.name,.slice a3 x.au.ks.length c3]) (results_cell_row Tryz.results100 _ _ _ _ _ _ _ rfl QE Tryz.underlying57 rfl dB) rfl (Ends.cK (x:=x) rfl hbE (rP.of L0) hRE)
 ·have hsz:=hx4.size;have con2509:=aY HR5.out ⟨#[99,114,101,97,116,101]⟩;rw [hi8,cG hi8] at con2509;have hm:=HM0.out;simp only [hi8,if_true] at hm;have HM2514:=ah hm;clear hm HM0 HR5;go_wp2_with fail
  refine con2509.mono ?_;rintro e w2510 ⟨rfl,hR,hb2511⟩;have HR2513:=ah hR;have hx2512:=hx4.trans hb2511;have Q2515:=(hb2511.2 _ (lt_of_heap Q2) ak).trans Q2;clear Q2;clear con2509 hR hb2511 hx4 hsz hi8;have hsz:=hx2512.size;have con2516:=wK HR2513.out;have hm:=HM2514.out;generalize fZ (aC ts)=L at hm con2516;have HM2520:=ah hm;clear hm HM2514 HR2513;have hl_g6:=lt_of_heap Q2515;go_wp2_with fail
  refine con2516.mono ?_;rintro e w2517 ⟨hb2518,hW⟩;have hx2519:=hx2512.trans hb2518;have Q2522:=(hb2518.2 _ (lt_of_heap Q2515) ak).trans Q2515;clear Q2515;clear con2516 hb2518 hx2512;rcases L with ce | ⟨x,r2521⟩
  ·obtain ⟨rfl,us,hE⟩:=hW;have HE:=ah hE;clear hE;have e:=HM2520.out.symm;subst e;clear HM2520;go_wp2_with fail
   exact ⟨rfl,Ends.err rfl hx2519 HE.out⟩
  obtain ⟨v,rfl,⟨a1,c1,p1,d1,p2,d2,p3,d3,a2,c2,a3,c3,rfl,h1,h2,h3,h4,h5,h6⟩,hR⟩:=hW;have HR2523:=ah hR;have hm:=HM2520.out;try simp only [bI] at hm
  have HM2524:=ah hm;clear hm hR HM2520
  have HK2525:=ah (bJ.mono (S:=fun b=>w2510.heap.size≤b) (fun b h _=>by have:_≤b:=h; show w.heap.size<b; omega) (⟨a1,c1,p1,d1,p2,d2,p3,d3,a2,c2,a3,c3,rfl,h1,h2,h3,h4,h5,h6⟩))
  clear h1 h2 h3 h4 h5 h6;clear hsz hl_g6;have e:=HM2524.out;subst e;clear HM2524;go_wp2_with (first | (refine wpList_store_row rfl 57 _ _ rfl w #[x.kind,x.name,.slice a1 x.cF.length c1,.slice p1 x.query.parts.length d1,.slice p2 x.query.ops.length d2,.slice p3 x.query.order.length d3,x.query.aH,.slice a2 x.rows.length c2,x.ax,x.au.k,x.au.v.1,x.au.v.2.1,x.au.v.2.2,x.au.bp,x.au.name,.slice a3 x.au.ks.length c3] rfl rfl 57 cO Q2522 dB rfl (eh rfl) ?_))
  obtain ⟨QE,hRE,hbE,hkE⟩:=gC (w:=w) Q2522 HR2523.out hx2519 ak hltR hltT #[x.kind,x.name,.slice a1 x.cF.length c1,.slice p1 x.query.parts.length d1,.slice p2 x.query.ops.length d2,.slice p3 x.query.order.length d3,x.query.aH,.slice a2 x.rows.length c2,x.ax,x.au.k,x.au.v.1,x.au.v.2.1,x.au.v.2.2,x.au.bp,x.au.name,.slice a3 x.au.ks.length c3]
  generalize w2517.setRow _ _=wE at *
  have L0:cy (fun b=>w.heap.size≤b) wE x [.int .i64 x.kind,x.name,.slice a1 x.cF.length c1,.slice p1 x.query.parts.length d1,.slice p2 x.query.ops.length d2,.slice p3 x.query.order.length d3,x.query.aH,.slice a2 x.rows.length c2,x.ax,x.au.k,x.au.v.1,x.au.v.2.1,x.au.v.2.2,x.au.bp,x.au.name,.slice a3 x.au.ks.length c3]:=bJ.mono (fun b h _=>by have:w.heap.size<b:=h; show _≤b; omega) (bJ.next (hkE.k (by show ¬ _; omega)) HK2525.out)
  exact I7 (v:=.agg #[x.kind,x.name,.slice a1 x.cF.length c1,.slice p1 x.query.parts.length d1,.slice p2 x.query.ops.length d2,.slice p3 x.query.order.length d3,x.query.aH,.slice a2 x.rows.length c2,x.ax,x.au.k,x.au.v.1,x.au.v.2.1,x.au.v.2.2,x.au.bp,x.au.name,.slice a3 x.au.ks.length c3]) (results_cell_row Tryz.results100 _ _ _ _ _ _ _ rfl QE Tryz.underlying57 rfl dB) rfl (Ends.cK (x:=x) rfl hbE (rP.of L0) hRE)
theorem AT:(Tryz.prog.info? 57).map (fun i=>(i.zero,i.size,i.bytes))=some (some (.agg cO),16,256):=by kernel_rfl
theorem qc {w:World} {R tb:Nat} {ts:List Tk} (h:aR w R tb ts 0):Calls Tryz.prog 67 #[af R 0] w (Ends R tb 0 w (Ee cy 16 w.heap.size) (bM 61 [] ts)):=by
 obtain ⟨i0,hi,hj0,hj1,hj2⟩:=info_parts AT;have hltR:=h.lt;have hltT:=h.lK;have HR0:=ah h;generalize hM:bM 61 [] ts=M;have HM:=ah hM;clear h hM;go_enter Tryz.func67,Tryz.ntmps67;go_wp2_with fail
 go_loopg [3] 61 (fun m ow wr=>∃ (ov:Value) (acc:List cM) (us:List Tk),ov=ow∧Hid (m+acc.length=61)∧Hid (acc.length≤60)∧Hid (bM m acc us=M)∧aj R w wr∧Hid (aR wr R tb us 0)∧Hid (bC cy 57 16 w.heap.size (fun b=>w.heap.size≤b) wr ov acc))
 case atStart=>exact ⟨_,[],ts,rfl,by show _=_; simp,by show _≤_; simp,HM,aj.refl _ _,HR0,bC.nil _ _ _ _ _ _⟩
 case round =>
  clear HM HR0;obtain ⟨ov,acc,us,rfl,hn,hacc,HL,hx,HR,HO⟩:=hrel;obtain ⟨m,rfl⟩:∃ m,gk=m+1:=⟨gk - 1,by have:=hn.out; have:=hacc.out; omega⟩
  have hzr:=hx.size;have HL2:=HL.out;rw [bM] at HL2;have hR0:=HR.out;obtain ⟨t,r,rfl⟩:=hR0.iU.ne;have con0:=j8 hR0;obtain ⟨a0,c0,e0⟩:=HO.out.len;subst e0;clear HL hR0;go_wp2_with fail
  refine cR con0 fun w1 hb1=>?_;have hf1:=eL t.2.1 t.2.2 t.1 w1;have hx1:aj R w w1:=hx.trans (.of hb1 ak);have H1:=ah (HR.out.next hb1);have HO1:=ah (HO.out.next bJ hb1);have hz1:=hb1.size;clear con0 HR HO;by_cases h5:t.1=5
  ·have b5:(t.1 != 5)=false:=by simpa using h5
   rw [if_pos (by simpa [cg] using h5)] at HL2;subst HL2;obtain ⟨av,cv,ev,hls⟩:=HO1.out.ls bJ (fun _ h=>h);obtain ⟨rfl,rfl⟩:a0=av∧c0=cv:=by simpa using ev
   have HK:=ah hls;clear hls HO1 ev h5;go_wp2_with fail
   refine I7 (v:=.slice a0 acc.length c0) (by simp [results,Tryz.results67,go_sem]) rfl ?_;exact Ends.cK rfl hx1 ⟨a0,c0,rfl,HK.out⟩ H1.out
  have b5:(t.1 != 5)=true:=by simpa using h5
  rw [if_neg (by simpa [cg] using h5)] at HL2;clear h5;by_cases hbig:(acc.length:Int) ≥ 60
  ·have con1:=gy H1.out hbig;rw [if_pos hbig] at HL2;subst HL2;clear HO1 hbig;go_wp2_with fail
   refine con1.mono ?_;rintro e w5 ⟨rfl,hb5⟩;go_wp2_with fail
   exact ⟨rfl,Ends.err rfl (hx1.trans (.of hb5 ak)) (H1.out.next hb5)⟩
  have con1:=je (w:=w1) (R:=R) (n:=(acc.length:Int)) (most:=60) ak;rw [if_neg hbig] at HL2;have HM1:=ah HL2;have HB:=ah hbig;clear HL2 hbig;go_wp2_with fail
  refine cR con1 fun w5 hb5=>?_;have hx5:=hx1.trans (.of hb5 ak);have hz5:=hb5.size;have HO5:=ah (HO1.out.next bJ hb5);have hR5:=H1.out.next hb5;have con2:=rV hR5;have hm:=HM1.out;generalize cZ (t :: r)=L at hm con2;have HM2:=ah hm;clear con1 hR5 HO1 H1 hm HM1 hf1;go_wp2_with fail
  refine con2.mono ?_;rintro e w3 ⟨hb3,hW⟩;have hx3:=hx5.trans hb3;have hz3:=hb3.size;clear con2;rcases L with ce | ⟨x,r3⟩
  ·obtain ⟨rfl,us',hE⟩:=hW;have HE:=ah hE;clear hE;have e:=HM2.out.symm;subst e;clear HM2;go_wp2_with fail
   exact ⟨rfl,Ends.err rfl hx3 HE.out⟩
  obtain ⟨v,rfl,⟨a1,c1,p1,d1,p2,d2,p3,d3,a2,c2,a3,c3,rfl,h1,h2,h3,h4,h5,h6⟩,hR3⟩:=hW;have HR3:=ah hR3;have hm:=HM2.out;simp only [bI] at hm;have HM3:=ah hm
  have HX3:cy (fun b=>w5.heap.size≤b) w3 x [.int .i64 x.kind,x.name,.slice a1 x.cF.length c1,.slice p1 x.query.parts.length d1,.slice p2 x.query.ops.length d2,.slice p3 x.query.order.length d3,x.query.aH,.slice a2 x.rows.length c2,x.ax,x.au.k,x.au.v.1,x.au.v.2.1,x.au.v.2.2,x.au.bp,x.au.name,.slice a3 x.au.ks.length c3]:=⟨a1,c1,p1,d1,p2,d2,p3,d3,a2,c2,a3,c3,rfl,h1,h2,h3,h4,h5,h6⟩
  have hal4:=bR w3 (.cells #[x.kind,x.name,.slice a1 x.cF.length c1,.slice p1 x.query.parts.length d1,.slice p2 x.query.ops.length d2,.slice p3 x.query.order.length d3,x.query.aH,.slice a2 x.rows.length c2,x.ax,x.au.k,x.au.v.1,x.au.v.2.1,x.au.v.2.2,x.au.bp,x.au.name,.slice a3 x.au.ks.length c3] 57)
  have q4:=aD w3 #[x.kind,x.name,.slice a1 x.cF.length c1,.slice p1 x.query.parts.length d1,.slice p2 x.query.ops.length d2,.slice p3 x.query.order.length d3,x.query.aH,.slice a2 x.rows.length c2,x.ax,x.au.k,x.au.v.1,x.au.v.2.1,x.au.v.2.2,x.au.bp,x.au.name,.slice a3 x.au.ks.length c3] 57;have O3:=HO5.out.aM bJ (fun _ h=>h) (hb3.k1.k (by show ¬ w.heap.size≤R; omega));have hnb:=HO5.out.lt
  obtain ⟨ys,o4,en4⟩:=O3.next bJ hal4
  have HKS:=ah (bJ.next (ay.of hal4) HX3)
  have EN4:=ah en4
  clear hR3 hm HM2 O3 en4 HX3 h1 h2 h3 h4 h5 h6 HO5
  go_wp2_with (first | (at_builtin; refine aS rfl _ _ 22 rfl w 57 i0 _ 16 256 Tryz.underlying22 hi hj0 hj1 hj2 rfl (by decide) _ _ _ rfl o4 (af w3 0) 1 1 [.int .i64 x.kind,x.name,.slice a1 x.cF.length c1,.slice p1 x.query.parts.length d1,.slice p2 x.query.ops.length d2,.slice p3 x.query.order.length d3,x.query.aH,.slice a2 x.rows.length c2,x.ax,x.au.k,x.au.v.1,x.au.v.2.1,x.au.v.2.2,x.au.bp,x.au.name,.slice a3 x.au.ks.length c3] rfl rfl ?Ac1 ?Ac2 ?Ac3 ?Ac4 ?Ac5 ?_))
  case Ac1 =>
   intro i u hu;rw [bG,Jm];exact cell_of (i:=i) q4 (by rw [← hu]; simp)
  case Ac2=>exact fun u hu=>List.all_eq_true.1 (rfl:List.all [.int .i64 x.kind,.string x.name,.slice a1 x.cF.length c1,.slice p1 x.query.parts.length d1,.slice p2 x.query.ops.length d2,.slice p3 x.query.order.length d3,.int .i64 x.query.aH,.slice a2 x.rows.length c2,.bool x.ax,.int .i64 x.au.k,.int .i64 x.au.v.1,.int .i64 x.au.v.2.1,.string x.au.v.2.2,.string x.au.bp,.string x.au.name,.slice a3 x.au.ks.length c3] (·.oneCell')=true) u hu
  case Ac3=>unfold maxLen; have:=hacc.out; omega
  case Ac4=>have:=hacc.out; omega
  case Ac5=>have:=hal4.size; omega
  intro v' w6 o5 g5 hd5;have z5:=g5.size;have hz4:=hal4.size;have O5:Hid (bC cy 57 16 w.heap.size (fun b=>w.heap.size≤b) w6 v' (acc ++ [x])):=bC.push bJ o4 EN4.out rfl (bJ.mono (fun b h1 h2=>⟨by have:w5.heap.size≤b:=h1; show w.heap.size≤b; omega,h2,fun e=>by have:=(hnb b e).2; have:w5.heap.size≤b:=h1; omega⟩) HKS.out) o5 g5 (by simpa using hd5);have D5:Below w w3 w6:=(hal4.mono ak).trans ((I8 _ _).grown g5 ak (fun q hq=>by have:=(hnb q hq).1; omega));have hx6:=hx3.low D5 (I6 _) ak;have H6:=HR3.out.low D5 hltR hltT
  have hal7:=bR w6 (.cells #[.string ⟨#[59]⟩] 9);have con7:=de (cap:=1) (H6.next hal7) (dh.one w6 ⟨#[59]⟩ 9) ak (by simp);have hm:=HM3.out;generalize aV [⟨#[59]⟩] r3=L at hm con7;have HM4:=ah hm;clear o4 EN4 o5 g5 hd5 HKS q4 HR3 hal4 hm HM3 H6;go_wp2_with fail
  generalize w6.alloc _=wa at *;refine con7.mono ?_;rintro e w8 ⟨hb8,hW⟩;have hxa:aj R w6 w8:=(aj.of hal7 ak).trans hb8;have hx8:=hx6.trans hxa;have O8:=ah (O5.out.aM bJ (fun _ h=>h) (hxa.k1.k (by show ¬ w.heap.size≤R; omega)));clear con7;rcases L with ce | ⟨u8,r8⟩
  ·obtain ⟨rfl,us',hE⟩:=hW;have HE:=ah hE;clear hE;have e:=HM4.out.symm;subst e;clear HM4;go_wp2_with fail
   exact ⟨rfl,Ends.err rfl hx8 HE.out⟩
  obtain ⟨v,rfl,rfl,hR8⟩:=hW;have hm:=HM4.out;simp only [bI] at hm;have HM5:=ah hm;have HR8:=ah hR8;clear hm HM4 hR8;go_wp2_with fail
  go_roundg m
  case measure=>omega
  case rel=>exact ⟨_,acc ++ [x],r8,rfl,by show _=_; have:=hn.out; simp; omega,by show _≤_; have:=hacc.out; have:=HB.out; simp; omega,HM5,hx8,HR8,O8⟩
set_option maxHeartbeats 4000000
def fc (l:List UInt8):ByteArray:=⟨l.toArray⟩
def eE (f:Int→Bool) (l:List UInt8):Nat:=fk f (l.map fun c=>(c.toNat:Int))
def iM:List (List UInt8):=[[60,62],[60,61],[62,61],[124,124],[60],[62],[61],[43],[45],[42],[40],[41],[44],[46],[59]]
abbrev TR:Type:=Except Er (Tk × Nat)
def iy (l:List UInt8) (p:Int):List (List UInt8)→TR
 | []=>.error (2,p)
 | g :: gs=>if Lib.hasPrefix l g then .ok ((4,fc g,p),g.length) else iy l p gs
def ki (p:Int) (k:Nat) (out:List UInt8):TR:=if out.length > 60 then .error (4,p) else .ok ((3,fc out,p),k+1)
def dI (p:Int):List UInt8→Nat→List UInt8→TR
 | [],_,_=>.error (2,p)
 | [c],k,out=>if c=39 then ki p k out else .error (2,p)
 | c :: d :: r,k,out=>if c=39 then (if d=39 then dI p r (k+2) (out ++ [39]) else ki p k out) else dI p (d :: r) (k+1) (out ++ [c])
def iF (l:List UInt8) (p:Int):TR:=if eE gp l > 16 then .error (3,p) else .ok ((2,fc (l.take (eE gp l)),p),eE gp l)
def eT (l:List UInt8) (p:Int):TR :=
 if iO (((l.headD 0).toNat:Nat):Int) then .ok ((1,fc (l.take (eE ig l)),p),eE ig l)
 else if gp (((l.headD 0).toNat:Nat):Int) then iF l p
 else if l.headD 0=39 then dI p l.tail 1 []
 else iy l p iM
def ja:Nat→List UInt8→Int→Except Er (List Tk)
 | 0,_,_=>.error (-1,0)
 | n+1,l,p=>if l = [] then .ok [(5,eB,p)] else
  match eT l p with
  | .error e=>.error e
  | .ok (t,j)=>match ja n ((l.drop j).drop (eE eW (l.drop j))) (p+j+eE eW (l.drop j)) with
   | .error e=>.error e
   | .ok ts=>.ok (t :: ts)
def jn (s:ByteArray):Except Er (List Tk):=ja (s.size+1) (s.data.toList.drop (eE eW s.data.toList)) (eE eW s.data.toList)
def ff {α:Type} (w:World) (V:Value→α→Prop) (r:Except Er α) (e:Ending) (w':World):Prop :=
 Below w w w'∧match r with
  | .ok x=>∃ v,e = .returned v∧V v x
  | .error c=>e = .panicked [ie c.1 c.2]
def FD (p:Int) (v:Value) (x:Tk × Nat):Prop:=v = .tuple #[.agg #[x.1.1,x.1.2.1,x.1.2.2],.int .i64 (p+x.2)]
theorem ff.err {α:Type} {w w':World} {V:Value→α→Prop} {r:Except Er α} {c:Er} (hr:r = .error c) (hb:Below w w w'):ff w V r (.panicked [ie c.1 c.2]) w':=by subst hr; exact ⟨hb,rfl⟩
theorem ff.cK {α:Type} {w w':World} {V:Value→α→Prop} {r:Except Er α} {x:α} {v:Value} (hr:r = .ok x) (hb:Below w w w') (hv:V v x):ff w V r (.returned v) w':=by subst hr; exact ⟨hb,v,rfl,hv⟩
theorem Fg (s:ByteArray):nb s=s.data.toList.map fun c=>(c.toNat:Int):=rfl
theorem kU (f:Int→Bool) (s:ByteArray) (i:Nat):fk f ((nb s).drop i)=eE f (s.data.toList.drop i):=by rw [Fg,eE,List.map_drop]
theorem uq (f:Int→Bool):∀ l,fk f l≤l.length
 | []=>I6 _
 | c :: r=>by rw [fk]; split <;> simp; exact uq f r
theorem jV (f:Int→Bool) (l:List UInt8):eE f l≤l.length:=by have:=uq f (l.map fun c=>((c.toNat:Nat):Int)); simpa [eE] using this
theorem nB (s:ByteArray) (i n:Nat):s.extract i (i+n)=fc ((s.data.toList.drop i).take n):=by
 apply ByteArray.ext;apply Array.ext';simp [fc,ByteArray.data_extract]
theorem pa (s p:ByteArray) (w:World):Calls Tryz.prog 187 #[s,p] w fun e w'=>e = .returned (.bool (Lib.hasPrefix s.data.toList p.data.toList))∧w'=w:=by
 rw [← Lib.hasPrefix_of_take,← Lib.size_eq,← Lib.size_eq];go_enter Tryz.func187,Tryz.ntmps187;go_wp2
 ·rename_i h
  go_ret;refine ⟨?_,rfl⟩;show Ending.returned (Value.bool ((s.extract 0 p.size).toList == p.toList))=_;rw [Lib.extract_toList,Lib.toList_data];simp [h]
 ·rename_i h
  go_ret;refine ⟨?_,rfl⟩;show Ending.returned (Value.bool false)=_;simp [h]
theorem lQ (s p:ByteArray) (w:World):Calls Tryz.prog 151 #[s,p] w fun e w'=>e = .returned (.bool (Lib.hasPrefix s.data.toList p.data.toList))∧w'=w:=by
 have con:=pa s p w;generalize Lib.hasPrefix s.data.toList p.data.toList=b at *;go_enter Tryz.func151,Tryz.ntmps151;go_wp2_with fail
 refine con.mono ?_;rintro e w1 ⟨rfl,rfl⟩;go_wp2_with fail
 exact fa rfl rfl ⟨fQ,fQ⟩
theorem um (s:ByteArray) (i:Nat) (hi:i<s.size) (hs:s.size≤4000) (w:World):Calls Tryz.prog 125 #[s,i] w (ff w (FD i) (iF (s.data.toList.drop i) i)):=by
 have hal:=bR w (.cells #[aB,(),aB] 152);have con:=nJ 85 (fun _ _=>by kernel_rfl) gp (fun c w=>mM c w) s i ak hs (w.alloc (.cells #[aB,(),aB] 152));rw [kU] at con;have hle:i+eE gp (s.data.toList.drop i)≤s.size:=by have:=jV gp (s.data.toList.drop i); rw [Jz,Ji] at this; show _≤s.data.size; have:i<s.data.size:=hi; omega
 have hex:=nB s i (eE gp (s.data.toList.drop i));have QZ0:=aD w #[aB,(),aB] 152;generalize hM:iF (s.data.toList.drop i) i=M;rw [iF] at hM;have HM:=ah hM;generalize eE gp (s.data.toList.drop i)=k at *;generalize fc (List.take k (s.data.toList.drop i))=tx at *;clear hM;by_cases hk:k > 16
 ·have e:M = .error (3,(i:Int)):=by rw [← HM.out,if_pos hk]
  subst e;have hkz:(16:Int)<((i+k:Nat):Int) - (i:Int):=by omega
  clear HM hex;go_enter Tryz.func125,Tryz.ntmps125;go_wp2_with fail
  generalize w.alloc _=w1 at *;refine con.mono ?_;rintro e w2 ⟨rfl,rfl⟩;have conf:=fg 3 i w2;go_wp2_with fail
  refine cR conf fun w3 hb3=>?_;go_wp2_with fail
  exact ⟨rfl,ff.err rfl (chain hal hb3)⟩
 ·have e:M = .ok ((2,tx,(i:Int)),k):=by rw [← HM.out,if_neg hk]
  subst e;have hkz:¬ (16:Int)<((i+k:Nat):Int) - (i:Int):=by omega
  have hle2:i≤i+k:=by omega
  clear HM;go_enter Tryz.func125,Tryz.ntmps125;go_wp2_with fail
  generalize w.alloc _=w1 at *;refine con.mono ?_;rintro e w2 ⟨rfl,rfl⟩;obtain ⟨z0,z1,z2⟩:=bD QZ0;obtain ⟨y0,y1,y2⟩:=iS QZ0;go_wp2_with fail
  have QE:=fB QZ0 (2:Int) tx i;have hbE:=ln hal (I6 _) (2:Int) tx i;generalize (((w2.setCell (af w 0) (2:Int)).setCell (af w 1) tx).setCell (af w 2) i)=wE at *;obtain ⟨x0,x1,x2⟩:=bD QE;exact I7 (v:=.tuple #[.agg #[(2:Int),tx,i],.int .i64 ((i+k:Nat):Int)]) (by simp [results,Tryz.results125,go_sem,x0,x1,x2]) rfl (ff.cK rfl hbE (by simp [FD]))
def IF (v:Value) (x:Tk):Prop:=v = .agg #[x.1,x.2.1,x.2.2]
theorem AJ (s:ByteArray) (p:Int) (w:World):Calls Tryz.prog 152 #[s,p] w (ff w IF (if s.size > 60 then .error (4,p) else .ok (3,s,p))):=by
 obtain ⟨hal,QZ0⟩:=dZ w #[aB,(),aB] 152;by_cases hk:s.size > 60
 ·rw [if_pos hk];have hkz:(60:Int)<(s.size:Int):=by omega
  have conf:=fg 4 p (w.alloc (.cells #[aB,(),aB] 152));go_enter Tryz.func152,Tryz.ntmps152;go_wp2_with fail
  generalize w.alloc _=w1 at *;refine cR conf fun w3 hb3=>?_;go_wp2_with fail
  exact ⟨rfl,ff.err rfl (chain hal hb3)⟩
 ·rw [if_neg hk];have hkz:¬ (60:Int)<(s.size:Int):=by omega
  go_enter Tryz.func152,Tryz.ntmps152;go_upto_region 1 with fail
  generalize w.alloc _=w2 at *;obtain ⟨z0,z1,z2⟩:=bD QZ0;obtain ⟨y0,y1,y2⟩:=iS QZ0;go_wp2_with fail
  have QE:=fB QZ0 (3:Int) s p;have hbE:=ln hal (I6 _) (3:Int) s p;generalize (((w2.setCell (af w 0) (3:Int)).setCell (af w 1) s).setCell (af w 2) p)=wE at *;obtain ⟨x0,x1,x2⟩:=bD QE;exact I7 (v:=.agg #[(3:Int),s,p]) (by simp [results,Tryz.results152,go_sem,x0,x1,x2]) rfl (ff.cK rfl hbE rfl)
theorem vE {p:Int} {c:UInt8} (h:c≠39) (r:List UInt8) (k:Nat) (out:List UInt8):dI p (c :: r) k out=dI p r (k+1) (out ++ [c]):=by
 cases r with
 | nil=>simp [dI,h]
 | cons d r=>rw [dI,if_neg h]
theorem AA {p:Int} (r:List UInt8) (h:Lib.hasPrefix r [39]=false) (k:Nat) (out:List UInt8):dI p (39 :: r) k out=ki p k out:=by
 cases r with
 | nil=>rw [dI,if_pos rfl]
 | cons d r =>
  rw [dI,if_pos rfl,if_neg];rintro rfl;simp [Lib.hasPrefix,List.isPrefixOf] at h
theorem zS {p:Int} (r:List UInt8) (h:Lib.hasPrefix r [39]=true) (k:Nat) (out:List UInt8):∃ r',r=39 :: r'∧dI p (39 :: r) k out=dI p r' (k+2) (out ++ [39]):=by
 cases r with
 | nil=>simp [Lib.hasPrefix,List.isPrefixOf] at h
 | cons d r =>
  have:d=39:=by simp [Lib.hasPrefix,List.isPrefixOf] at h; exact h.symm
  subst this;exact ⟨r,rfl,by rw [dI,if_pos rfl,if_pos rfl]⟩
def GO:jP UInt8:=fun _ _ x cs=>cs = [.int .u8 ((x.toNat:Nat):Int)]
theorem FG:fW GO:=⟨fun _ h=>h,fun _ h=>h⟩
theorem sM:(Tryz.prog.info? 5).map (fun i=>(i.zero,i.size,i.bytes))=some (some (.int .u8 0),1,1):=by kernel_rfl
theorem xL {s:ByteArray} {i:Nat} (h:i<s.size):s.data.toList.drop i=s[i] :: s.data.toList.drop (i+1):=by
 rw [I9 (by rw [Ji]; exact h),Array.getElem_toList];rfl
theorem ng (s:ByteArray) (i:Nat):(s.extract i s.size).data.toList=s.data.toList.drop i:=by
 simp [ByteArray.data_extract];exact Jx (by simp)
theorem bC.str {e base:Nat} {S:Nat→Prop} {W:World} {v:Value} {l:List UInt8} (h:bC GO e 1 base S W v l) (src dst el:TypeId) (hs:Tryz.prog.underlying src=some (.slice el)) (he:Tryz.prog.underlying el=some (.int .u8)) (hd:Tryz.prog.underlying dst=some .string):(convert src dst v).run Tryz.prog W = .ok (.string (fc l)) W:=by
 rcases h.fin FG with ⟨rfl,rfl⟩ | ⟨g,cap,rfl,h1,h2,h3⟩
 ·exact Lib.run_convert_nil_bytes W src dst el 0 hs he hd
 ·refine run_convert_bytes_back W src dst el _ cap l hs he hd (fun j hj=>?_);obtain ⟨cs,c1,c2,rfl⟩:=h3 j hj;rw [bG];have:=c2 0 _ rfl
  simpa using this
theorem yU (s:ByteArray) (p:Nat) (hp:p<s.size) (hs:s.size≤4000) (w:World):Calls Tryz.prog 126 #[s,p] w (ff w (FD p) (dI p (s.data.toList.drop (p+1)) 1 [])):=by
 obtain ⟨i0,hi0,hj0,hj1,hj2⟩:=info_parts sM;obtain ⟨hal,QZ0⟩:=dZ w #[aB,(),aB] 152;generalize hM:dI p (s.data.toList.drop (p+1)) 1 []=M;have HM:Hid (dI p (s.data.toList.drop (p+1)) ((p+1) - p) []=M):=by show _=_; rw [← hM,show p+1 - p=1 by omega]
 clear hM;go_enter Tryz.func126,Tryz.ntmps126;go_upto_region 1 with fail
 generalize w.alloc _=w1 at *;go_wp2_with fail
 go_loopw [6,7] (fun ow iv wr=>∃ (i:Nat) (out:List UInt8) (ov:Value),ov=ow∧iv = .int .i64 i∧p+1≤i∧i≤s.size∧Hid (dI p (s.data.toList.drop i) (i - p) out=M)∧Hid (out.length≤i)∧Below w w wr∧wr.heap[w.heap.size]? = some (.cells #[aB,(),aB] 152 (0,0))∧Hid (bC GO 5 1 (w.heap.size+1) (fun b=>w.heap.size<b) wr ov out)) (fun _ iv _=>s.size - (RowKit.intOf iv).toNat)
 case atStart=>exact ⟨p+1,[],_,rfl,by go_num,by omega,by omega,HM,by show _≤_; simp,hal,QZ0,bC.nil _ _ _ _ _ _⟩
 case round =>
  clear HM hal QZ0;obtain ⟨i,out,ov,rfl,rfl,h1,h2,HL,hol,hx,QZ,HO⟩:=hrel;have hzw:=hx.size;by_cases hlt:i<s.size
  ·have hkz:(i:Int)<(s.size:Int):=by omega
   have hL:=HL.out;rw [xL hlt] at hL;obtain ⟨ac,cc,eo⟩:=HO.out.len;by_cases hc:s[i]=39
   ·have hcb:(((s[i].toNat:Nat):Int) == 39)=true:=by rw [hc]; rfl
    rw [hc] at hL;have con:=lQ (s.extract (i+1) s.size) ⟨#[39]⟩ wr;rw [ng] at con;have hli:i+1≤s.size:=by omega
    rcases hq:Lib.hasPrefix (s.data.toList.drop (i+1)) [39] with _ | _
    ·have hcon:=hq;rw [hcon] at con;rw [AA _ hq,ki] at hL;have hcv:=HO.out.str 24 9 5 Tryz.underlying24 bm bm;have hsz:(fc out).size=out.length:=by show out.toArray.size=_; simp
     have con2:=AJ (fc out) p wr;rw [hsz] at con2;have HML:=ah hL;generalize hr:(if out.length > 60 then Except.error (4,(p:Int)) else .ok ((3:Int),fc out,(p:Int)):Except Er Tk)=L at con2;have HR:=ah hr;generalize fc out=tx at *;clear HL hL hq hcon hr hc;subst eo;go_wp2_with fail
     refine con.mono ?_;rintro e w2 ⟨rfl,rfl⟩;go_wp2_with fail
     refine con2.mono ?_;rintro e w3 ⟨hb3,hW⟩;clear con con2;have hb:=chain hx hb3;have QZ3:=bH hb3 QZ;by_cases hbig:out.length > 60
     ·have e1:L = .error (4,(p:Int)):=by rw [← HR.out,if_pos hbig]
      have e2:M = .error (4,(p:Int)):=by rw [← HML.out,if_pos hbig]
      subst e1 e2;obtain rfl:=hW;clear HR HML;go_wp2_with fail
      exact ⟨rfl,ff.err (c:=(4,(p:Int))) rfl hb⟩
     ·have e1:L = .ok ((3:Int),tx,(p:Int)):=by rw [← HR.out,if_neg hbig]
      have e2:M = .ok (((3:Int),tx,(p:Int)),i - p+1):=by rw [← HML.out,if_neg hbig]
      subst e1 e2;obtain ⟨v,rfl,rfl⟩:=hW;clear HR HML hbig;obtain ⟨z0,z1,z2⟩:=bD QZ3;obtain ⟨y0,y1,y2⟩:=iS QZ3;go_wp2_with fail
      have QE:=fB QZ3 (3:Int) tx p;have hbE:=ln hb (I6 _) (3:Int) tx p;generalize (((w3.setCell (af w 0) (3:Int)).setCell (af w 1) tx).setCell (af w 2) p)=wE at *;obtain ⟨x0,x1,x2⟩:=bD QE;have hii:(i:Int)+1=(p:Int)+((i - p+1:Nat):Int):=by omega
      exact I7 (v:=.tuple #[.agg #[(3:Int),tx,p],.int .i64 ((i:Int)+1)]) (by simp [results,Tryz.results126,go_sem,x0,x1,x2]) rfl (ff.cK rfl hbE (by show _=_; rw [hii]))
    ·have hcon:=hq;rw [hcon] at con;obtain ⟨r',er,et⟩:=zS (p:=(p:Int)) _ hq (i - p) out;rw [et] at hL;have hlt1:i+1<s.size:=by
      rcases Jw (i+1) s.size with h | h
      ·exact h
      ·rw [Jh (by rw [Ji]; exact h)] at er; cases er
     rw [xL hlt1] at er;obtain ⟨hc1,rfl⟩:=List.cons.inj er;have hkz1:(i:Int)+1<(s.size:Int):=by omega
     have HL3:Hid (dI p (s.data.toList.drop (i+2)) (i+2 - p) (out ++ [39])=M):=by show _=_; rw [← hL,show i+2 - p=i - p+2 by omega]
     have hix:((s[i+1].toNat:Nat):Int)=39:=by rw [hc1]; rfl
     clear HL hL hq hcon et er hc;subst eo;go_wp2_with fail
     refine con.mono ?_;rintro e w2 ⟨rfl,rfl⟩;clear con;obtain ⟨hal4,q4⟩:=dZ w2 #[.int .u8 39] 5;have hnb:=HO.out.lt;have hlz:=lt_of_heap QZ;obtain ⟨ys,o4,en4⟩:=HO.out.next FG hal4;go_wp2_with (first | (at_builtin; refine aS rfl _ _ 24 rfl (w+1) 5 i0 _ 1 1 Tryz.underlying24 hi0 hj0 hj1 hj2 rfl (by decide) _ _ _ rfl o4 (af w2 0) 1 1 [.int .u8 39] rfl rfl ?Ac1 ?Ac2 ?Ac3 ?Ac4 ?Ac5 ?_))
     case Ac1 =>
      intro i u hu;rw [bG,Jm];exact cell_of (i:=i) q4 (by rw [← hu]; simp)
     case Ac2=>intro u hu; simp at hu; subst hu; rfl
     case Ac3=>unfold maxLen; have:=hol.out; omega
     case Ac4=>have:=hol.out; omega
     case Ac5=>have:=hal4.size; omega
     intro v' w6 o5 g5 hd5;have z5:=g5.size;have hz4:=hal4.size;have O5:Hid (bC GO 5 1 (w.heap.size+1) (fun b=>w.heap.size<b) w6 v' (out ++ [39])):=bC.push FG o4 en4 (cs:=[.int .u8 39]) rfl rfl o5 g5 (by simpa using hd5);have D5:Below (w+1) w2 w6:=(hal4.mono ak).trans ((I8 _ _).grown g5 ak (fun q hq=>by have:=(hnb q hq).1; omega));have QZ6:=(D5.block w ak).trans QZ;have hx6:=hx.trans (D5.mono ak);clear o4 en4 o5 g5 hd5 q4 hal4 HO QZ hx;go_wp2_with fail
     go_roundw
     case rel=>exact ⟨i+2,out ++ [39],_,rfl,by go_num,by omega,by omega,HL3,by show _≤_; have:=hol.out; simp; omega,hx6,QZ6,O5⟩
     case measure=>simp [RowKit.intOf]; omega
   ·have hcb:(((s[i].toNat:Nat):Int) == 39)=false:=by
     rw [beq_eq_false_iff_ne];intro e;exact hc (UInt8.toNat_inj.1 (by have:(39:UInt8).toNat=39:=rfl; omega))
    rw [vE hc] at hL;have HL3:Hid (dI p (s.data.toList.drop (i+1)) (i+1 - p) (out ++ [s[i]])=M):=by show _=_; rw [← hL,show i+1 - p=i - p+1 by omega]
    clear HL hL hc;subst eo;obtain ⟨hal4,q4⟩:=dZ wr #[.int .u8 ((s[i].toNat:Nat):Int)] 5;have hnb:=HO.out.lt;have hlz:=lt_of_heap QZ;obtain ⟨ys,o4,en4⟩:=HO.out.next FG hal4;go_wp2_with (first | (at_builtin; refine aS rfl _ _ 24 rfl (w+1) 5 i0 _ 1 1 Tryz.underlying24 hi0 hj0 hj1 hj2 rfl (by decide) _ _ _ rfl o4 (af wr 0) 1 1 [.int .u8 ((s[i].toNat:Nat):Int)] rfl rfl ?Ac1 ?Ac2 ?Ac3 ?Ac4 ?Ac5 ?_))
    case Ac1 =>
     intro i u hu;rw [bG,Jm];exact cell_of (i:=i) q4 (by rw [← hu]; simp)
    case Ac2=>intro u hu; simp at hu; subst hu; rfl
    case Ac3=>unfold maxLen; have:=hol.out; omega
    case Ac4=>have:=hol.out; omega
    case Ac5=>have:=hal4.size; omega
    intro v' w6 o5 g5 hd5;have z5:=g5.size;have hz4:=hal4.size;have O5:=ah (bC.push FG o4 en4 (cs:=[.int .u8 ((s[i].toNat:Nat):Int)]) rfl rfl o5 g5 (by simpa using hd5));have D5:Below (w+1) wr w6:=(hal4.mono ak).trans ((I8 _ _).grown g5 ak (fun q hq=>by have:=(hnb q hq).1; omega));have QZ6:=(D5.block w ak).trans QZ;have hx6:=hx.trans (D5.mono ak);clear o4 en4 o5 g5 hd5 q4 hal4 HO QZ hx;go_wp2_with fail
    go_roundw
    case rel=>exact ⟨i+1,out ++ [s[i]],_,rfl,by go_num,by omega,by omega,HL3,by show _≤_; have:=hol.out; simp; omega,hx6,QZ6,O5⟩
    case measure=>simp [RowKit.intOf]; omega
  ·have hkz:¬ (i:Int)<(s.size:Int):=by omega
   have e:M = .error (2,(p:Int)):=by
    rw [← HL.out,Jh (by rw [Ji]; show s.size≤i; omega)];rfl
   subst e;have conf:=fg 2 p wr;clear HL;go_wp2_with fail
   refine cR conf fun w3 hb3=>?_;go_wp2_with fail
   exact ⟨rfl,ff.err rfl (chain hx hb3)⟩
end Go.Proofs.YtoknmnngaackkaaGreatDoor
namespace Go.Proofs
open Go.Shelf
set_option maxRecDepth 100000
set_option maxHeartbeats 16000000
shelf_lay LaysPu.n25 Mp 25 at Tryz as Tryz.cloneL
end Go.Proofs
namespace Go.Proofs.YtoknmnngaackkaaGreatDoor
open Go.RowKit Go.Lib Go.Shelf
set_option maxRecDepth 100000
set_option maxHeartbeats 8000000
theorem wF (s:ByteArray) (w:World) (h:s.size≤4000):Calls Tryz.prog 150 #[s] w fun e w'=>e = .returned s∧Below w w w':=AnyPu.stringslite_Clone Tryz.cloneL s w ak
theorem zM (s:ByteArray) (w:World) (h:s.size≤4000):Calls Tryz.prog 124 #[s] w fun e w'=>e = .returned s∧Below w w w':=by
 have con:=wF s w h;go_enter Tryz.func124,Tryz.ntmps124;go_wp2_with fail
 refine cR con fun w1 hb=>?_;go_wp2_with fail
 exact fa rfl rfl ⟨fQ,hb⟩
def yn:List Value:=[.string ⟨#[60,62]⟩,.string ⟨#[60,61]⟩,.string ⟨#[62,61]⟩,.string ⟨#[124,124]⟩,.string ⟨#[60]⟩,.string ⟨#[62]⟩,.string ⟨#[61]⟩,.string ⟨#[43]⟩,.string ⟨#[45]⟩,.string ⟨#[42]⟩,.string ⟨#[40]⟩,.string ⟨#[41]⟩,.string ⟨#[44]⟩,.string ⟨#[46]⟩,.string ⟨#[59]⟩]
theorem Gl.Ep {W:World} (h:Gl W):W.rangeAt 0 0 yn:=fun j v hj=>by
 have hl:j<15:=by
  rcases Jw j 15 with h | h
  ·exact h
  ·rw [Jy (by simpa [yn] using h)] at hj; cases hj
 rw [Jm,h.sig j hl,← hj];show yn.toArray[j]? = yn[j]?;simp
theorem Cp (k:Nat) (h:k<15) (w:World):(Instr.index 189 (.agg yn.toArray) k).run Tryz.prog w = .ok (.string (fc (iM[k]'(by simpa [iM] using h)))) w:=by
 rcases k with _ | _ | _ | _ | _ | _ | _ | _ | _ | _ | _ | _ | _ | _ | _ | k
 all_goals first | (exfalso; omega) | kernel_rfl
theorem yk (l:List UInt8):(fc l).data.toList=l:=by simp [fc]
theorem fG (l:List UInt8):(fc l).size=l.length:=by show l.toArray.size=_; simp
theorem Dj {k:Nat} (h:k<iM.length):(iM[k]).length≤2:=by
 have:∀ g ∈ iM,g.length≤2:=by decide
 exact this _ (Jk h)
theorem yG (s:ByteArray) (p:Nat) (hp:p<s.size) (hs:s.size≤4000) {w:World} (hg:Gl w):Calls Tryz.prog 127 #[s,p] w (ff w (FD p) (iy (s.data.toList.drop p) p iM)):=by
 obtain ⟨hal,QZ⟩:=dZ w #[aB,(),aB] 152;have hr:=(hg.next hal).Ep;generalize hM:iy (s.data.toList.drop p) p iM=M;have HM:=ah hM;clear hM hg;go_enter Tryz.func127,Tryz.ntmps127;go_upto_region 1 with fail
 generalize w.alloc _=w1 at *;refine wp_region_lit ?_;refine wpList_load_mid rfl 189 _ rfl 0 0 rfl yn (.array 15 9) hr bm rfl bm ?_;simp only [Act.put,pA,pB,pC];go_wp2_with fail
 clear hr;go_loopw [9] (fun i wr=>∃ k:Nat,k≤15∧i = .int .i64 k∧Hid (iy (s.data.toList.drop p) p (iM.drop k)=M)∧wr=w1) (fun i _=>15 - (RowKit.intOf i).toNat)
 case atStart=>exact ⟨0,by omega,rfl,HM,rfl⟩
 case round =>
  obtain ⟨k,hk,rfl,HK,rfl⟩:=hrel;by_cases hlt:k<15
  ·have hkz:(k:Int)<15:=by omega
   have hid:=Cp k hlt wr;have hkl:k<iM.length:=by simpa [iM] using hlt
   have hL:=HK.out;rw [I9 hkl,iy] at hL;have hgl:=Dj hkl;generalize iM[k]=g at *;have con:=lQ (s.extract p s.size) (fc g) wr;rw [ng,yk] at con;have hpl:p≤s.size:=by omega
   have hsz:=fG g;rcases hq:Lib.hasPrefix (s.data.toList.drop p) g with _ | _
   ·rw [hq] at con hL;rw [if_neg (by decide)] at hL;have HL3:=ah hL;clear HK hL hq;go_wp2_with fail
    refine con.mono ?_;rintro e w2 ⟨rfl,rfl⟩;clear con;go_wp2_with fail
    go_roundw
    case rel=>exact ⟨k+1,by omega,by go_num,HL3,fQ⟩
    case measure=>simp [RowKit.intOf]; omega
   ·rw [hq] at con hL;rw [if_pos rfl] at hL;subst hL;clear HK hq;go_wp2_with fail
    refine con.mono ?_;rintro e w2 ⟨rfl,rfl⟩;clear con;obtain ⟨z0,z1,z2⟩:=bD QZ;obtain ⟨y0,y1,y2⟩:=iS QZ;go_wp2_with fail
    have QE:=fB QZ (4:Int) (.string (fc g)) p;have hbE:=ln hal (I6 _) (4:Int) (.string (fc g)) p;generalize (((w2.setCell (af w 0) (4:Int)).setCell (af w 1) (.string (fc g))).setCell (af w 2) p)=wE at *;obtain ⟨x0,x1,x2⟩:=bD QE;exact I7 (v:=.tuple #[.agg #[(4:Int),.string (fc g),p],.int .i64 ((p:Int)+(g.length:Nat))]) (by simp [results,Tryz.results127,go_sem,x0,x1,x2]) rfl (ff.cK (x:=((4,fc g,(p:Int)),g.length)) rfl hbE (rfl))
  ·have hkz:¬ (k:Int)<15:=by omega
   have e:M = .error (2,(p:Int)):=by
    rw [← HK.out,show iM.drop k = [] from Jh (by show 15≤k; omega)];rfl
   subst e;have conf:=fg 2 p wr;clear HK;go_wp2_with fail
   refine cR conf fun w3 hb3=>?_;go_wp2_with fail
   exact ⟨rfl,ff.err rfl (chain hal hb3)⟩
theorem C0 {s:ByteArray} {p:Nat} (hp:p<s.size):(s.data.toList.drop p).headD 0=s[p]∧(s.data.toList.drop p).tail=s.data.toList.drop (p+1):=by rw [xL hp]; exact ⟨rfl,rfl⟩
theorem uW (s:ByteArray) (p:Nat) (hp:p<s.size) (hs:s.size≤4000) {w:World} (hg:Gl w):Calls Tryz.prog 97 #[s,p] w (ff w (FD p) (eT (s.data.toList.drop p) p)):=by
 obtain ⟨hal,QZ⟩:=dZ w #[aB,(),aB] 152;have hg1:=ah (hg.next hal);obtain ⟨hd0,hd1⟩:=C0 hp;have hkz:(p:Int)<(s.size:Int):=by omega
 have con:=lF ((s[p].toNat:Nat):Int) (w.alloc (.cells #[aB,(),aB] 152));clear hg;generalize hM:eT (s.data.toList.drop p) p=M;rw [eT,hd0,hd1] at hM;have HM:=ah hM;clear hM hd0 hd1;go_enter Tryz.func97,Tryz.ntmps97;go_upto_region 1 with fail
 generalize w.alloc _=w1 at *;rcases h1:iO ((s[p].toNat:Nat):Int) with _ | _
 case true =>
  rw [h1] at con;have con2:=oD s p ak hs w1;rw [kU] at con2;have hle:p+eE ig (s.data.toList.drop p)≤s.size:=by have:=jV ig (s.data.toList.drop p); rw [Jz,Ji] at this; show _≤s.data.size; have:p<s.data.size:=hp; omega
  have hex:=nB s p (eE ig (s.data.toList.drop p));have e:M = .ok ((1,fc ((s.data.toList.drop p).take (eE ig (s.data.toList.drop p))),(p:Int)),eE ig (s.data.toList.drop p)):=by rw [← HM.out,h1]; rfl
  generalize eE ig (s.data.toList.drop p)=k at *;have htx:(fc ((s.data.toList.drop p).take k)).size≤4000:=by rw [fG,Jr,Jz,Ji]; have:s.data.size≤4000:=hs; omega
  generalize fc ((s.data.toList.drop p).take k)=tx at *;subst e;have hle2:p≤p+k:=by omega
  have con3:=zM tx w1 htx;clear HM h1;go_wp2_with fail
  refine con.mono ?_;rintro e w2 ⟨rfl,rfl⟩;go_wp2_with fail
  refine con2.mono ?_;rintro e w3 ⟨rfl,rfl⟩;go_wp2_with fail
  refine cR con3 fun w4 hb4=>?_;have QZ4:=bH hb4 QZ;have hb:=chain hal hb4;obtain ⟨z0,z1,z2⟩:=bD QZ4;obtain ⟨y0,y1,y2⟩:=iS QZ4;clear con con2 con3;go_wp2_with fail
  have QE:=fB QZ4 (1:Int) tx p;have hbE:=ln hb (I6 _) (1:Int) tx p;generalize (((w4.setCell (af w 0) (1:Int)).setCell (af w 1) tx).setCell (af w 2) p)=wE at *;obtain ⟨x0,x1,x2⟩:=bD QE;exact I7 (v:=.tuple #[.agg #[(1:Int),tx,p],.int .i64 ((p+k:Nat):Int)]) (by simp [results,Tryz.results97,go_sem,x0,x1,x2]) rfl (ff.cK (x:=((1,tx,(p:Int)),k)) rfl hbE (by simp [FD]))
 rw [h1] at con;have hM1:=HM.out;rw [h1,if_neg (by decide)] at hM1;have cond:=mM ((s[p].toNat:Nat):Int) w1;rcases h2:gp ((s[p].toNat:Nat):Int) with _ | _
 case true =>
  rw [h2] at cond;rw [h2,if_pos rfl] at hM1;clear h1 h2;have con2:=um s p hp hs w1;have HM2:=ah hM1;generalize hT:iF (s.data.toList.drop p) (p:Int)=L at con2;have HT:=ah hT;clear hT HM hM1;go_wp2_with fail
  refine con.mono ?_;rintro e w2 ⟨rfl,rfl⟩;go_wp2_with fail
  refine cond.mono ?_;rintro e w3 ⟨rfl,rfl⟩;clear cond;go_wp2_with fail
  refine con2.mono ?_;rintro e w4 ⟨hb4,hW⟩;have QZ4:=bH hb4 QZ;have hb:=chain hal hb4;clear con con2;obtain rfl:L=M:=HT.out.symm.trans HM2.out;clear HT HM2;rcases L with ce | ⟨t,j⟩
  ·obtain rfl:=hW;go_wp2_with fail
   exact ⟨rfl,ff.err rfl hb⟩
  obtain ⟨v,rfl,rfl⟩:=hW;obtain ⟨z0,z1,z2⟩:=bD QZ4;obtain ⟨y0,y1,y2⟩:=iS QZ4;go_wp2_with fail
  have QE:=fB QZ4 t.1 t.2.1 t.2.2;have hbE:=ln hb (I6 _) t.1 t.2.1 t.2.2;generalize (((w4.setCell (af w 0) t.1).setCell (af w 1) t.2.1).setCell (af w 2) t.2.2)=wE at *;obtain ⟨x0,x1,x2⟩:=bD QE;exact I7 (v:=.tuple #[.agg #[t.1,t.2.1,t.2.2],.int .i64 ((p:Int)+(j:Nat))]) (by simp [results,Tryz.results97,go_sem,x0,x1,x2]) rfl (ff.cK (x:=(t,j)) rfl hbE (rfl))
 rw [h2] at cond;rw [h2,if_neg (by decide)] at hM1;by_cases h3:s[p]=39
 case pos =>
  have hcb:(((s[p].toNat:Nat):Int) == 39)=true:=by rw [h3]; rfl
  rw [if_pos h3] at hM1;clear h1 h2 h3;have con2:=yU s p hp hs w1;have HM2:=ah hM1;generalize hT:dI (p:Int) (s.data.toList.drop (p+1)) 1 []=L at con2;have HT:=ah hT;clear hT HM hM1;go_wp2_with fail
  refine con.mono ?_;rintro e w2 ⟨rfl,rfl⟩;go_wp2_with fail
  refine cond.mono ?_;rintro e w3 ⟨rfl,rfl⟩;clear cond;go_wp2_with fail
  refine con2.mono ?_;rintro e w4 ⟨hb4,hW⟩;have QZ4:=bH hb4 QZ;have hb:=chain hal hb4;clear con con2;obtain rfl:L=M:=HT.out.symm.trans HM2.out;clear HT HM2;rcases L with ce | ⟨t,j⟩
  ·obtain rfl:=hW;go_wp2_with fail
   exact ⟨rfl,ff.err rfl hb⟩
  obtain ⟨v,rfl,rfl⟩:=hW;obtain ⟨z0,z1,z2⟩:=bD QZ4;obtain ⟨y0,y1,y2⟩:=iS QZ4;go_wp2_with fail
  have QE:=fB QZ4 t.1 t.2.1 t.2.2;have hbE:=ln hb (I6 _) t.1 t.2.1 t.2.2;generalize (((w4.setCell (af w 0) t.1).setCell (af w 1) t.2.1).setCell (af w 2) t.2.2)=wE at *;obtain ⟨x0,x1,x2⟩:=bD QE;exact I7 (v:=.tuple #[.agg #[t.1,t.2.1,t.2.2],.int .i64 ((p:Int)+(j:Nat))]) (by simp [results,Tryz.results97,go_sem,x0,x1,x2]) rfl (ff.cK (x:=(t,j)) rfl hbE (rfl))
 have hcb:(((s[p].toNat:Nat):Int) == 39)=false:=by
  rw [beq_eq_false_iff_ne];intro e;exact h3 (UInt8.toNat_inj.1 (by have:(39:UInt8).toNat=39:=rfl; omega))
 rw [if_neg h3] at hM1;clear h1 h2 h3;have con2:=yG s p hp hs hg1.out;have HM2:=ah hM1;generalize hT:iy (s.data.toList.drop p) (p:Int) iM=L at con2;have HT:=ah hT;clear hT HM hM1;go_wp2_with fail
 refine con.mono ?_;rintro e w2 ⟨rfl,rfl⟩;go_wp2_with fail
 refine cond.mono ?_;rintro e w3 ⟨rfl,rfl⟩;clear cond;go_wp2_with fail
 refine con2.mono ?_;rintro e w4 ⟨hb4,hW⟩;have QZ4:=bH hb4 QZ;have hb:=chain hal hb4;clear con con2;obtain rfl:L=M:=HT.out.symm.trans HM2.out;clear HT HM2;rcases L with ce | ⟨t,j⟩
 ·obtain rfl:=hW;go_wp2_with fail
  exact ⟨rfl,ff.err rfl hb⟩
 obtain ⟨v,rfl,rfl⟩:=hW;obtain ⟨z0,z1,z2⟩:=bD QZ4;obtain ⟨y0,y1,y2⟩:=iS QZ4;go_wp2_with fail
 have QE:=fB QZ4 t.1 t.2.1 t.2.2;have hbE:=ln hb (I6 _) t.1 t.2.1 t.2.2;generalize (((w4.setCell (af w 0) t.1).setCell (af w 1) t.2.1).setCell (af w 2) t.2.2)=wE at *;obtain ⟨x0,x1,x2⟩:=bD QE;exact I7 (v:=.tuple #[.agg #[t.1,t.2.1,t.2.2],.int .i64 ((p:Int)+(j:Nat))]) (by simp [results,Tryz.results97,go_sem,x0,x1,x2]) rfl (ff.cK (x:=(t,j)) rfl hbE (rfl))
set_option maxHeartbeats 16000000
def Fz:jP Tk:=fun _ _ x cs=>cs = [.int .i64 x.1,.string x.2.1,.int .i64 x.2.2]
theorem Es:fW Fz:=⟨fun _ h=>h,fun _ h=>h⟩
theorem Gt:(Tryz.prog.info? 152).map (fun i=>(i.zero,i.size,i.bytes))=some (some (.agg #[aB,(),aB]),3,32):=by kernel_rfl
def emap {α β:Type} (f:α→β):Except Er α→Except Er β
 | .error e=>.error e
 | .ok x=>.ok (f x)
theorem bC.IS {α:Type} {En:jP α} (ok:fW En) {e size base:Nat} {S:Nat→Prop} {W:World} {v:Value} {l:List α} (h:bC En e size base S W v l) (hs:∀ b,base≤b→S b):∃ a cap,v = .slice a l.length cap∧l.length≤cap∧bf En size S W a l:=by
 obtain ⟨a,cap,rfl,hl⟩:=h.ls ok hs;refine ⟨a,cap,rfl,?_,hl⟩;obtain ⟨xs,⟨_,⟨e,hn⟩ | ⟨g,c',cur,e,_,_,hc,_⟩⟩,_⟩:=h
 ·rw [hn]; exact Jc _
 ·injection e with _ _ e
  omega
theorem pD (n:Nat) (p:Int):ja (n+1) [] p = .ok [(5,eB,p)]:=by rw [ja,if_pos rfl]
theorem mT (n:Nat) (l:List UInt8) (p:Int) (h:l ≠ []):ja (n+1) l p=match eT l p with
  | .error e=>.error e
  | .ok (t,j)=>emap (fun ts=>t :: ts) (ja n ((l.drop j).drop (eE eW (l.drop j))) (p+j+eE eW (l.drop j))):=by
 rw [ja,if_neg h];rcases eT l p with e | ⟨t,j⟩
 ·rfl
 ·simp only;rcases ja n ((l.drop j).drop (eE eW (l.drop j))) (p+j+eE eW (l.drop j)) with e | ts <;> rfl
theorem mG {p:Int}:∀ (l:List UInt8) (k:Nat) (out:List UInt8) {t:Tk} {j:Nat},dI p l k out = .ok (t,j)→k<j∧j≤k+l.length
 | [],k,out,t,j,h=>by rw [dI] at h; cases h
 | [c],k,out,t,j,h=>by
  rw [dI] at h
  split at h
  ·unfold ki at h
   split at h
   ·cases h
   ·injection h with h; injection h with _ h; simp; omega
  ·cases h
 | c :: d :: r,k,out,t,j,h=>by
  rw [dI] at h
  split at h
  ·split at h
   ·have:=mG r (k+2) _ h
    simp; omega
   ·unfold ki at h
    split at h
    ·cases h
    ·injection h with h; injection h with _ h; simp; omega
  ·have:=mG (d :: r) (k+1) _ h
   simp at this ⊢; omega
theorem qH {l:List UInt8} {p:Int}:∀ (gs:List (List UInt8)),(∀ g ∈ gs,1≤g.length)→∀ {t:Tk} {j:Nat},iy l p gs = .ok (t,j)→1≤j∧j≤l.length
 | [],_,t,j,h=>by rw [iy] at h; cases h
 | g :: gs,hg,t,j,h=>by
  rw [iy] at h
  split at h
  ·rename_i hp
   injection h with h; injection h with _ h
   subst h
   exact ⟨hg g (by simp),by
    have:g <+: l:=List.isPrefixOf_iff_prefix.1 hp
    exact this.length_le⟩
  ·exact qH gs (fun g h=>hg g (by simp [h])) h
theorem nS {f:Int→Bool} {l:List UInt8} (hl:l ≠ []) (h:f (((l.headD 0).toNat:Nat):Int)=true):1≤eE f l:=by
 cases l with
 | nil=>exact absurd rfl hl
 | cons c r=>simp only [List.headD_cons] at h; simp [eE,fk,h]
theorem pr {l:List UInt8} {p:Int} (hl:l ≠ []) {t:Tk} {j:Nat} (h:eT l p = .ok (t,j)):1≤j∧j≤l.length:=by
 unfold eT at h
 split at h
 ·rename_i hc
  injection h with h; injection h with _ h
  subst h;exact ⟨nS hl (by show (iO _ || gp _)=true; rw [hc]; rfl),jV _ _⟩
 ·split at h
  ·rename_i hc
   unfold iF at h
   split at h
   ·cases h
   ·injection h with h; injection h with _ h
    subst h;exact ⟨nS hl hc,jV _ _⟩
  ·split at h
   ·have:=mG _ _ _ h;have:l.tail.length+1=l.length:=by cases l with | nil=>exact absurd rfl hl | cons c r=>rfl
    omega
   ·exact qH iM (by decide) h
def ly (w:World) (r:Except Er (List Tk)) (e:Ending) (w':World):Prop :=
 Below w w w'∧match r with
  | .ok x=>∃ a cap,e = .returned (.slice a x.length cap)∧x.length≤cap∧bf Fz 3 (fun b=>w.heap.size≤b) w' a x
  | .error c=>e = .panicked [ie c.1 c.2]
theorem ly.err {w w':World} {r:Except Er (List Tk)} {c:Er} (hr:r = .error c) (hb:Below w w w'):ly w r (.panicked [ie c.1 c.2]) w':=by subst hr; exact ⟨hb,rfl⟩
theorem ly.cK {w w':World} {r:Except Er (List Tk)} {x:List Tk} (hr:r = .ok x) (hb:Below w w w') (a:Option Addr) (cap:Nat) {v:Value} (hv:v = .slice a x.length cap) (hc:x.length≤cap) (h:bf Fz 3 (fun b=>w.heap.size≤b) w' a x):ly w r (.returned v) w':=by subst hr hv; exact ⟨hb,a,cap,rfl,hc,h⟩
theorem xP (s:ByteArray) (hs:s.size≤4000) {w:World} (hg:Gl w):Calls Tryz.prog 66 #[s] w (ly w (jn s)):=by
 obtain ⟨i0,hi0,hj0,hj1,hj2⟩:=info_parts Gt;have con:=nJ 96 (fun _ _=>by kernel_rfl) eW (fun c w=>qO c w) s 0 ak hs w;rw [kU,JJ,Jm] at con;have hle:=jV eW s.data.toList;rw [Ji] at hle;generalize hM:jn s=M;rw [jn] at hM;have HG:=ah hg;generalize hk0:eE eW s.data.toList=k0 at *;have HM:Hid (emap (fun ts=>[] ++ ts) (ja (s.size+1) (s.data.toList.drop k0) (k0:Int))=M):=by
  show _=_;rw [← hM];rcases ja (s.size+1) (s.data.toList.drop k0) (k0:Int) with e | ts <;> rfl
 clear hM hg hk0;go_enter Tryz.func66,Tryz.ntmps66;go_wp2_with fail
 refine con.mono ?_;rintro e w0 ⟨rfl,rfl⟩;clear con;go_wp2_with fail
 go_loopg [3,4] (s.size+1) (fun m ow iv wr=>∃ (i:Nat) (acc:List Tk) (ov:Value),ov=ow∧iv = .int .i64 i∧i≤s.size∧Hid (s.size - i+1≤m)∧Hid (acc.length≤i)∧Hid (emap (fun ts=>acc ++ ts) (ja m (s.data.toList.drop i) (i:Int))=M)∧Below w0 w0 wr∧Hid (bC Fz 152 3 w0.heap.size (fun b=>w0.heap.size≤b) wr ov acc))
 case atStart=>exact ⟨k0,[],_,rfl,rfl,hle,by show _≤_; omega,by show _≤_; simp,HM,I8 _ _,bC.nil _ _ _ _ _ _⟩
 case round =>
  clear HM;obtain ⟨i,acc,ov,rfl,rfl,hi,hm,hol,HL,hxW,HO⟩:=hrel;obtain ⟨m,rfl⟩:∃ m,gk=m+1:=⟨gk - 1,by have:=hm.out; omega⟩
  obtain ⟨ac,cc,eo⟩:=HO.out.len;by_cases hlt:i<s.size
  ·have hkz:(i:Int)<(s.size:Int):=by omega
   have hL:=HL.out;have hne:s.data.toList.drop i ≠ []:=by rw [xL hlt]; simp
   rw [mT _ _ _ hne] at hL;have con:=uW s i hlt hs (HG.out.next hxW);have hlen:=fun t j=>pr (l:=s.data.toList.drop i) (p:=(i:Int)) hne (t:=t) (j:=j)
   generalize eT (s.data.toList.drop i) (i:Int)=L at *;have HL2:=ah hL;clear HL hL;subst eo;go_wp2_with fail
   refine con.mono ?_;rintro e w2 ⟨hb2,hW⟩;have hx2:=chain hxW hb2;have HO2:=ah (HO.out.next Es hb2);clear con HO;rcases L with ce | ⟨x,j⟩
   ·obtain rfl:=hW;have e:=HL2.out.symm;subst e;clear HL2 hlen;go_wp2_with fail
    exact ⟨rfl,ly.err rfl hx2⟩
   obtain ⟨v,rfl,hv⟩:=hW;change v = .tuple #[.agg #[x.1,x.2.1,x.2.2],.int .i64 ((i:Int)+((j:Nat):Int))] at hv;subst hv;have hj:=hlen x j rfl;rw [Jz,Ji] at hj;have hjs:i+j≤s.size:=by have:s.data.size=s.size:=rfl; omega
   have hdd:(s.data.toList.drop i).drop j=s.data.toList.drop (i+j):=by rw [List.drop_drop]
   have hLa:=HL2.out;simp only at hLa;rw [hdd,List.drop_drop] at hLa;have con5:=fun W=>nJ 96 (fun _ _=>by kernel_rfl) eW (fun c w=>qO c w) s (i+j) ak hs W
   simp only [kU] at con5;have hbl:=jV eW (s.data.toList.drop (i+j));rw [Jz,Ji] at hbl;have hss:s.data.size=s.size:=rfl;generalize eE eW (s.data.toList.drop (i+j))=kb at *;have HL5:Hid (emap (fun ts=>(acc ++ [x]) ++ ts) (ja m (s.data.toList.drop (i+j+kb)) ((i+j+kb:Nat):Int))=M):=by
    show _=_;rw [← hLa,show ((i+j+kb:Nat):Int)=(i:Int)+(j:Int)+(kb:Int) by omega];rcases ja m (s.data.toList.drop (i+j+kb)) ((i:Int)+(j:Int)+(kb:Int)) with e | ts
    ·rfl
    ·simp [emap]
   obtain ⟨hal3,q3⟩:=dZ w2 #[x.1,x.2.1,x.2.2] 152;have HO3:=ah (HO2.out.next Es hal3);have hxW3:=chain hx2 hal3;clear HL2 hLa hlen hdd HO2 hxW;have hxW:=hxW3;have HC5:=ah con5;clear con5 hne;go_upto_region 5 with fail
   have hij:(i:Int)+(j:Int)=((i+j:Nat):Int):=by omega
   generalize w2.alloc _=w3 at *;obtain ⟨z0,z1,z2⟩:=bD q3;clear hij;obtain ⟨hal4,q4⟩:=dZ w3 #[x.1,x.2.1,x.2.2] 152;have hnb:=HO3.out.lt;have hzW:=hxW.size;obtain ⟨ys,o4,en4⟩:=HO3.out.next Es hal4
   go_wp2_with (first | (at_builtin; refine aS rfl _ _ 118 rfl w0 152 i0 _ 3 32 Tryz.underlying118 hi0 hj0 hj1 hj2 rfl (by decide) (.slice ac acc.length cc) acc.length _ rfl o4 (af w3 0) 1 1 [.int .i64 x.1,x.2.1,x.2.2] rfl rfl ?Ac1 ?Ac2 ?Ac3 ?Ac4 ?Ac5 ?_))
   case Ac1 =>
    intro i u hu;rw [bG,Jm];exact cell_of (i:=i) q4 (by rw [← hu]; simp)
   case Ac2=>first | (intro u hu; simp at hu; rcases hu with rfl | rfl | rfl <;> rfl) | exact ⟨rfl,rfl,rfl⟩
   case Ac3=>unfold maxLen; have:=hol.out; omega
   case Ac4=>have:=hol.out; omega
   case Ac5=>have:=hal4.size; omega
   intro v' w6 o5 g5 hd5;have z5:=g5.size;have hz4:=hal4.size;have O5:=ah (bC.push Es o4 en4 (cs:=[.int .i64 x.1,.string x.2.1,.int .i64 x.2.2]) rfl rfl o5 g5 (by simpa using hd5));have D5:Below w0.heap.size w3 w6:=(hal4.mono (by omega)).trans ((I8 _ _).grown g5 (by omega) (fun q hq=>by have:=(hnb q hq).1; omega));have hx6:=hxW.trans D5;clear o4 en4 o5 g5 hd5 q4 hal4 HO3;have con6:=HC5.out w6;rw [show ((i+j:Nat):Int)=(i:Int)+(j:Int) by omega] at con6;clear z0 z1 z2 q3 HC5
   go_wp2_with fail
   refine con6.mono ?_;rintro e w7 ⟨rfl,rfl⟩;clear con6;go_wp2_with fail
   go_roundg m
   case measure=>omega
   case rel=>exact ⟨i+j+kb,acc ++ [x],_,rfl,by go_num,by omega,by show _≤_; have:=hm.out; omega,by show _≤_; have:=hol.out; simp; omega,HL5,hx6,O5⟩
  ·have hkz:¬ (i:Int)<(s.size:Int):=by omega
   have hL:=HL.out;rw [Jh (by rw [Ji]; show s.size≤i; omega),pD] at hL;have e:=hL.symm;subst e;clear HL hL;subst eo;obtain ⟨hal4,q4⟩:=dZ wr #[(5:Int),(),i] 152;have hnb:=HO.out.lt;have hzW:=hxW.size;obtain ⟨ys,o4,en4⟩:=HO.out.next Es hal4
   go_wp2_with (first | (at_builtin; refine aS rfl _ _ 118 rfl w0 152 i0 _ 3 32 Tryz.underlying118 hi0 hj0 hj1 hj2 rfl (by decide) (.slice ac acc.length cc) acc.length _ rfl o4 (af wr 0) 1 1 [.int .i64 5,(),i] rfl rfl ?Ac1 ?Ac2 ?Ac3 ?Ac4 ?Ac5 ?_))
   case Ac2=>first | (intro u hu; simp at hu; rcases hu with rfl | rfl | rfl <;> rfl) | exact ⟨rfl,rfl,rfl⟩
   case Ac3=>unfold maxLen; have:=hol.out; omega
   case Ac4=>have:=hol.out; omega
   case Ac5=>have:=hal4.size; omega
   intro v' w6 o5 g5 hd5;have z5:=g5.size;have hz4:=hal4.size;have O5:Hid (bC Fz 152 3 w0.heap.size (fun b=>w0.heap.size≤b) w6 v' (acc ++ [((5,eB,(i:Int)):Tk)])):=bC.push Es o4 en4 (cs:=[.int .i64 5,.string ⟨#[]⟩,.int .i64 i]) rfl rfl o5 g5 (by simpa using hd5);have D5:Below w0.heap.size wr w6:=(hal4.mono (by omega)).trans ((I8 _ _).grown g5 (by omega) (fun q hq=>by have:=(hnb q hq).1; omega));have hx6:=hxW.trans D5;clear o4 en4 o5 g5 hd5 q4 hal4 HO;obtain ⟨av,cv,rfl,hcp,hls⟩:=O5.out.IS Es (fun _ h=>h)
   have HK:=ah hls;clear hls O5;generalize hn:(acc ++ [((5:Int),eB,(i:Int))]).length=n at *;go_wp2_with fail
   refine I7 (v:=.slice av n cv) (by simp [results,Tryz.results66,go_sem]) rfl ?_;exact ly.cK rfl hx6 av cv (by rw [hn]) (by rw [hn]; exact hcp) HK.out
def gv (w:World) (at_ r:Int) (e:Ending) (w':World):Prop:=Below w w w'∧((r=0∧e = .returned (.tuple #[]))∨(r≠0∧e = .panicked [ie r at_]))
def dY (a b:Int):Int:=if a=0 then b else a
theorem cV (b:Int):dY 0 b=b:=rfl
theorem dN {a:Int} (h:a≠0) (b:Int):dY a b=a:=if_neg h
theorem gf (err at_:Int) (w:World):Calls Tryz.prog 68 #[.agg #[at_],true,err] w fun e w'=>e = .returned (.tuple #[])∧Below w w w':=by
 have hal:=bR w (.cells #[at_] 86);go_enter Tryz.func68,Tryz.ntmps68;go_wp2_with fail
 go_end0
 exact ⟨rfl,hal⟩
theorem dW (err at_:Int) (w:World):Calls Tryz.prog 68 #[.agg #[at_],false,err] w fun e w'=>e = .panicked [ie err at_]∧Below w w w':=by
 obtain ⟨hal,QB⟩:=dZ w #[at_] 86;have con:=fg err at_ (w.alloc (.cells #[at_] 86));go_enter Tryz.func68,Tryz.ntmps68;go_upto_region 1 with fail
 generalize w.alloc _=w1 at *;have c0:=cell_of (i:=0) QB rfl;go_wp2_with fail
 refine cR con fun w2 hb2=>?_;go_wp2_with fail
 exact ⟨rfl,rfl,chain hal hb2⟩
theorem gv.ok {w w':World} {at_ r:Int} (hb:Below w w w') (h:r=0):gv w at_ r (.returned (.tuple #[])) w':=⟨hb,.inl ⟨h,rfl⟩⟩
theorem gv.bad {w w':World} {at_ r x:Int} (hb:Below w w w') (h:r=x) (hx:x≠0):gv w at_ r (.panicked [ie x at_]) w':=by subst h; exact ⟨hb,.inr ⟨hx,rfl⟩⟩
theorem gv.step {w0 w w':World} {at_ r:Int} {e:Ending} (hb0:Below w0 w0 w) (h:gv w at_ r e w'):Below w0 w0 w':=chain hb0 h.1
def fi (n least most:Int):Int:=if decide (least≤n) && decide (n≤most) then 0 else 5
theorem fT (n least most at_:Int) (w:World):Calls Tryz.prog 37 #[.agg #[at_],n,least,most] w (gv w at_ (fi n least most)):=by
 obtain ⟨hal,QB⟩:=dZ w #[at_] 86;have hcs:(least≤n∧n≤most)∨(least≤n∧¬ n≤most)∨¬ least≤n:=by omega
 rcases hcs with h1 | h1 | h1
 ·have g1:least≤n:=h1.1;have g2:n≤most:=h1.2;have con:=gf 5 at_ (w.alloc (.cells #[at_] 86));have HR:Hid (fi n least most=0):=by show _=_; simp [fi,g1,g2]
  clear h1;go_enter Tryz.func37,Tryz.ntmps37;go_upto_region 1 with fail
  generalize w.alloc _=w1 at *;have c0:=cell_of (i:=0) QB rfl;generalize fi n least most=r at *;go_wp2_with fail
  refine con.mono ?_;rintro e w2 ⟨rfl,hb2⟩;go_wp2_with fail
  go_end0
  exact .ok (chain hal hb2) HR.out
 ·have g1:least≤n:=h1.1;have g2:¬ n≤most:=h1.2;have con:=dW 5 at_ (w.alloc (.cells #[at_] 86));have HR:Hid (fi n least most=5):=by show _=_; simp [fi,g1,g2]
  clear h1;go_enter Tryz.func37,Tryz.ntmps37;go_upto_region 1 with fail
  generalize w.alloc _=w1 at *;have c0:=cell_of (i:=0) QB rfl;generalize fi n least most=r at *;go_wp2_with fail
  refine con.mono ?_;rintro e w2 ⟨rfl,hb2⟩;go_wp2_with fail
  exact ⟨rfl,.bad (chain hal hb2) HR.out (by decide)⟩
 ·have g1:=h1;have con:=dW 5 at_ (w.alloc (.cells #[at_] 86));have HR:Hid (fi n least most=5):=by show _=_; simp [fi,g1]
  clear h1;go_enter Tryz.func37,Tryz.ntmps37;go_upto_region 1 with fail
  generalize w.alloc _=w1 at *;have c0:=cell_of (i:=0) QB rfl;generalize fi n least most=r at *;go_wp2_with fail
  refine con.mono ?_;rintro e w2 ⟨rfl,hb2⟩;go_wp2_with fail
  exact ⟨rfl,.bad (chain hal hb2) HR.out (by decide)⟩
theorem yQ (s:ByteArray) (w:World):Calls Tryz.prog 20 #[s] w fun e w'=>e = .returned (.bool (dF s))∧w'=w:=by
 by_cases hs:s.size≤4000
 ·exact sO s hs w
 ·have hb:dF s=false:=by
   unfold dF;rw [decide_eq_false (show ¬ s.size≤12 by omega)];simp
  rw [hb];have h1:(1:Int)≤(s.size:Int):=by omega
  have h2:¬ (s.size:Int)≤12:=by omega
  clear hb hs;go_enter Tryz.func20,Tryz.ntmps20;go_wp2_with fail
  exact fa rfl rfl ⟨fQ,fQ⟩
def ef (s:ByteArray):Int:=if dF s then 0 else 7
theorem kC (s:ByteArray) (at_:Int) (w:World):Calls Tryz.prog 69 #[.agg #[at_],s] w (gv w at_ (ef s)):=by
 obtain ⟨hal,QB⟩:=dZ w #[at_] 86;rw [ef];obtain ⟨b,hb⟩:∃ b,dF s=b:=⟨_,rfl⟩
 have HB:=ah hb;rw [hb];clear hb;generalize hr:(if b then (0:Int) else 7)=r;have HR:=ah hr;clear hr;go_enter Tryz.func69,Tryz.ntmps69;go_upto_region 1 with fail
 generalize w.alloc _=w1 at *;have hCC:∀ W W':World,W.heap[w.heap.size]? = some (.cells #[at_] 86 (0,0))→Below W W W'→W'.heap[w.heap.size]? = some (.cells #[at_] 86 (0,0)):=fun W W' h hb=>(hb.block _ (lt_of_heap h)).trans h
 have hdr:Below w1 w1 w1.drew:=(I8 _ _).drew;have CW:=hCC _ _ QB hdr;refine dC (fun W=>W.heap[w.heap.size]? = some (.cells #[at_] 86 (0,0))) 3 bm ?_;refine fP hCC 4 0 (.agg #[at_]) (fun n hn=>?_) (fun _=>CW) ?_
 ·have c0:=cell_of (i:=0) hn rfl;go_simp
 simp only [Act.put,pA,pB,pC];refine fP hCC 5 1 s (fun n hn=>?_) (fun _=>CW) ?_
 ·go_simp
 simp only [Act.put,pA,pB,pC];refine pJ 2 bm fun w5 hb5=>?_
 have con:=yQ s w5;rw [HB.out] at con;refine wpOp_step rfl (fun K hK=>?_);go_simp;refine con.mono ?_;rintro e w6 ⟨rfl,rfl⟩;have hb6:Below w6 w6 w6:=I8 _ _;have C6:=hCC _ _ CW hb5;refine hK _ _ ⟨fun _=>C6,?_⟩;clear hK K con;refine pJ 3 bm fun w7 hb7=>?_
 have hbb:=chain hal (chain (chain hdr hb5) (chain hb6 hb7));cases b
 ·have con:=dW 7 at_ w7;refine wpOp_step rfl (fun K hK=>?_);go_simp;refine con.mono ?_;rintro e w8 ⟨rfl,hb8⟩;exact ⟨rfl,.bad (chain hbb hb8) HR.out.symm (by decide)⟩
 ·have con:=gf 7 at_ w7;refine wpOp_step rfl (fun K hK=>?_);go_simp;refine cR con fun w8 hb8=>?_;refine hK _ _ ⟨fun h=>by simp at h,?_⟩;refine eJ bm ?_;intro w9 hb9;go_wp2_with fail
  go_end0
  exact .ok (chain hbb (chain hb8 hb9)) HR.out.symm
def dz (s:ByteArray):Int:=if s.toList.isEmpty then 0 else ef s
theorem oG (s:ByteArray) (at_:Int) (w:World):Calls Tryz.prog 168 #[.agg #[at_],s] w (gv w at_ (dz s)):=by
 obtain ⟨hal,QB⟩:=dZ w #[at_] 86;have con:=kC s at_ (w.alloc (.cells #[at_] 86));rw [dz];generalize ef s=r at *;rcases he:s.toList.isEmpty with _ | _
 ·have b1:=he;rw [if_neg (by decide)];clear he;go_enter Tryz.func168,Tryz.ntmps168;go_upto_region 1 with fail
  generalize w.alloc _=w1 at *;have c0:=cell_of (i:=0) QB rfl;go_wp2_with fail
  refine con.mono ?_;rintro e w2 ⟨hb2,⟨h,rfl⟩ | ⟨h,rfl⟩⟩
  ·go_wp2_with fail
   go_end0
   exact ⟨chain hal hb2,.inl ⟨h,rfl⟩⟩
  ·go_wp2_with fail
   exact ⟨rfl,chain hal hb2,.inr ⟨h,rfl⟩⟩
 ·have b1:=he;rw [if_pos rfl];clear he;go_enter Tryz.func168,Tryz.ntmps168;go_wp2_with fail
  go_end0
  exact ⟨hal,.inl ⟨rfl,rfl⟩⟩
def rG (n:Int):Bool:=decide (-1000000000000000≤n) && decide (n≤1000000000000000)
theorem Di {n:Int} (h:rG n=false) (w:World):Calls Tryz.prog 166 #[n] w fun e w'=>e = .returned false∧w'=w:=by
 by_cases h1:-1000000000000000≤n
 ·have h2:¬ n≤1000000000000000:=by
   intro h2;rw [rG,decide_eq_true h1,decide_eq_true h2] at h;cases h
  clear h;go_enter Tryz.func166,Tryz.ntmps166;go_wp2_with fail
  exact I7 (v:=.bool false) (by simp [results,Tryz.results166,go_sem]; try omega) rfl ⟨fQ,fQ⟩
 ·clear h;go_enter Tryz.func166,Tryz.ntmps166;go_wp2_with fail
  exact I7 (v:=.bool false) (by simp [results,Tryz.results166,go_sem]; try omega) rfl ⟨fQ,fQ⟩
def gb (v:Vl):Int:=if v.1=1 then 0 else if v.1=2 then (if v.2.1=0∨v.2.1=1 then 0 else 3) else if v.1=3 then (if rG v.2.1 then 0 else 3) else if v.1=4 then (if v.2.2.size > 60 then 4 else 0) else 1
theorem yj (v:Vl) (w:World):Calls Tryz.prog 134 #[.agg #[v.1,v.2.1,v.2.2]] w fun e w'=>e = .returned (.int .i64 (gb v))∧Below w w w':=by
 obtain ⟨hal,QB⟩:=dZ w #[v.1,v.2.1,v.2.2] 53;generalize hr:gb v=r;rw [gb] at hr;have HR:=ah hr;clear hr;go_enter Tryz.func134,Tryz.ntmps134;go_upto_region 1 with fail
 generalize w.alloc _=w1 at *;have c0:=cell_of (i:=0) QB rfl;have c1:=cell_of (i:=1) QB rfl;have c2:=cell_of (i:=2) QB rfl;obtain ⟨k,n,t⟩:=v;simp only at c0 c1 c2 HR QB;by_cases k1:k=1
 ·subst k1;obtain rfl:0=r:=by rw [← HR.out]; simp
  clear HR;go_wp2_with fail
  exact fa rfl rfl ⟨fQ,hal⟩
 by_cases k2:k=2
 ·subst k2;by_cases n0:n=0
  ·subst n0;obtain rfl:0=r:=by rw [← HR.out]; simp
   clear HR;go_wp2_with fail
   exact fa rfl rfl ⟨fQ,hal⟩
  by_cases n1:n=1
  ·subst n1;obtain rfl:0=r:=by rw [← HR.out]; simp
   clear HR;go_wp2_with fail
   exact fa rfl rfl ⟨fQ,hal⟩
  have b0:(n != 0)=true:=by simpa using n0
  have b1:(n != 1)=true:=by simpa using n1
  obtain rfl:3=r:=by rw [← HR.out]; simp [n0,n1]
  clear HR n0 n1;go_wp2_with fail
  exact fa rfl rfl ⟨fQ,hal⟩
 by_cases k3:k=3
 ·subst k3;rcases hn:rG n with _ | _
  ·have con:=Di hn w1;obtain rfl:3=r:=by rw [← HR.out]; simp [hn]
   clear HR;go_wp2_with fail
   refine con.mono ?_;rintro e w2 ⟨rfl,rfl⟩;go_wp2_with fail
   exact fa rfl rfl ⟨fQ,hal⟩
  ·have hn2:=hn;simp only [rG,Jv,decide_eq_true_eq] at hn2;have con:=BC hn2.1 hn2.2 w1;obtain rfl:0=r:=by rw [← HR.out]; simp [hn]
   clear HR hn2;go_wp2_with fail
   refine con.mono ?_;rintro e w2 ⟨rfl,rfl⟩;go_wp2_with fail
   exact fa rfl rfl ⟨fQ,hal⟩
 by_cases k4:k=4
 ·subst k4;by_cases h6:t.size > 60
  ·have hz:(60:Int)<(t.size:Int):=by omega
   obtain rfl:4=r:=by rw [← HR.out]; simp [h6]
   clear HR h6;go_wp2_with fail
   exact fa rfl rfl ⟨fQ,hal⟩
  ·have hz:¬ (60:Int)<(t.size:Int):=by omega
   obtain rfl:0=r:=by rw [← HR.out]; simp [h6]
   clear HR h6;go_wp2_with fail
   exact fa rfl rfl ⟨fQ,hal⟩
 ·have b1:(k == 1)=false:=by simpa using k1
  have b2:(k == 2)=false:=by simpa using k2
  have b3:(k == 3)=false:=by simpa using k3
  have b4:(k == 4)=false:=by simpa using k4
  obtain rfl:1=r:=by rw [← HR.out]; simp [k1,k2,k3,k4]
  clear HR k1 k2 k3 k4;go_wp2_with fail
  exact fa rfl rfl ⟨fQ,hal⟩
theorem qk (v:Vl) (at_:Int) (w:World):Calls Tryz.prog 102 #[.agg #[at_],.agg #[v.1,v.2.1,v.2.2]] w (gv w at_ (gb v)):=by
 have hal1:=bR w (.cells #[at_] 86);have hal2:Below (w.alloc (.cells #[at_] 86)).heap.size (w.alloc (.cells #[at_] 86)) ((w.alloc (.cells #[at_] 86)).alloc (.cells #[v.1,v.2.1,v.2.2] 53)):=bR ..
 have QB:=(hal2.block _ (lt_of_heap (aD w #[at_] 86))).trans (aD w _ _);have QV:((w.alloc (.cells #[at_] 86)).alloc (.cells #[v.1,v.2.1,v.2.2] 53)).heap[w.heap.size+1]? = some (.cells #[v.1,v.2.1,v.2.2] 53 (0,0)):=by
  rw [show w.heap.size+1=(w.alloc (.cells #[at_] 86)).heap.size by simp];exact aD _ _ _
 have hal:=chain hal1 hal2;have con:=yj v ((w.alloc (.cells #[at_] 86)).alloc (.cells #[v.1,v.2.1,v.2.2] 53));generalize hr:gb v=r at *;clear hal1 hal2 hr;go_enter Tryz.func102,Tryz.ntmps102;go_upto_region 1 with fail
 generalize w.alloc _=w1 at *;obtain ⟨v0,v1,v2⟩:=bD QV;go_wp2_with fail
 refine cR con fun w2 hb2=>?_;have QB2:=bH hb2 QB;have c0:=cell_of (i:=0) QB2 rfl;by_cases h0:r=0
 ·subst h0;have con2:=gf 0 at_ w2;clear con;go_wp2_with fail
  refine con2.mono ?_;rintro e w3 ⟨rfl,hb3⟩;go_wp2_with fail
  go_end0
  exact .ok (chain hal (chain hb2 hb3)) rfl
 ·have b0:(r == 0)=false:=by simpa using h0
  have con2:=dW r at_ w2;clear con;go_wp2_with fail
  refine con2.mono ?_;rintro e w3 ⟨rfl,hb3⟩;go_wp2_with fail
  exact ⟨rfl,.bad (chain hal (chain hb2 hb3)) rfl h0⟩
def eX (k:Int):Nat:=if k=1∨k=2∨k=19 then 0 else if k=3∨k=16∨k=20∨k=21∨k=22∨k=23 then 1 else if k=17 then 3 else 2
theorem xR {k:Int} (h1:1≤k) (h2:k≤18) (w:World):Calls Tryz.prog 199 #[k] w fun e w'=>e = .returned (.int .i64 (eX k))∧w'=w:=by
 have hk:k=1∨k=2∨k=3∨k=4∨k=5∨k=6∨k=7∨k=8∨k=9∨k=10∨k=11∨k=12∨k=13∨k=14∨k=15∨k=16∨k=17∨k=18:=by omega
 clear h1 h2;rcases hk with rfl | rfl | rfl | rfl | rfl | rfl | rfl | rfl | rfl | rfl | rfl | rfl | rfl | rfl | rfl | rfl | rfl | rfl
 all_goals
  go_enter Tryz.func199,Tryz.ntmps199;go_wp2_with fail
  exact fa rfl rfl ⟨rfl,rfl⟩
theorem yq {k:Int} (h1:1≤k) (h2:k≤23) (w:World):Calls Tryz.prog 167 #[k] w fun e w'=>e = .returned (.int .i64 (eX k))∧w'=w:=by
 by_cases h:k≤18
 ·have con:=xR h1 h w;have b1:(k == 19)=false:=by rw [beq_eq_false_iff_ne]; omega
  have b2:(k == 20)=false:=by rw [beq_eq_false_iff_ne]; omega
  have b3:(k == 21)=false:=by rw [beq_eq_false_iff_ne]; omega
  have b4:(k == 22)=false:=by rw [beq_eq_false_iff_ne]; omega
  have b5:(k == 23)=false:=by rw [beq_eq_false_iff_ne]; omega
  generalize eX k=r at *;clear h h1 h2;go_enter Tryz.func167,Tryz.ntmps167;go_wp2_with fail
  refine con.mono ?_;rintro e w2 ⟨rfl,rfl⟩;go_wp2_with fail
  exact fa rfl rfl ⟨fQ,fQ⟩
 ·have hk:k=19∨k=20∨k=21∨k=22∨k=23:=by omega
  clear h h1 h2;rcases hk with rfl | rfl | rfl | rfl | rfl
  all_goals
   go_enter Tryz.func167,Tryz.ntmps167;go_wp2_with fail
   exact fa rfl rfl ⟨rfl,rfl⟩
def gS (g:SX→Int→Int × Int):List SX→Int→Int × Int
 | [],n=>(0,n)
 | y :: r,n=>if (g y n).1=0 then gS g r (g y n).2 else g y n
def ij (x:SX):Int:=if x.k=1 then gb x.v else if x.k=2 then dY (ef x.name) (dz x.bp) else 0
def fe:Nat→SX→Int→Int→Int × Int
 | 0,_,_,n=>(4,n)
 | f+1,x,d,n =>
  if ¬ (n+1≤200∧d≤20) then (4,n+1)
  else if ¬ (1≤x.k∧x.k≤23) then (1,n+1)
  else if ¬ x.ks.length=eX x.k then (5,n+1)
  else if ij x≠0 then (ij x,n+1)
  else gS (fun y m=>fe f y (d+1) m) x.ks (n+1)
def zX (w:World) (NB:Nat) (at_:Int) (r:Int × Int) (e:Ending) (w':World):Prop :=
 aj NB w w'∧((r.1=0∧e = .returned (.tuple #[])∧w'.heap[NB]? = some (.cells #[r.2] 3 (0,0))∧0≤r.2∧r.2≤200)∨(r.1≠0∧e = .panicked [ie r.1 at_]))
theorem zX.bad {w:World} {NB:Nat} {at_:Int} {r:Int × Int} {x:Int} {w':World} (hb:aj NB w w') (h:r.1=x) (hx:x≠0):zX w NB at_ r (.panicked [ie x at_]) w':=by subst h; exact ⟨hb,.inr ⟨hx,rfl⟩⟩
def vO (f:Nat):Prop:=∀ (x:SX) (d n at_:Int) (a:Option Addr) (c NB:Nat) (S:Nat→Prop) (w:World),d+f=22→1≤d→0≤n→n≤200→w.heap[NB]? = some (.cells #[n] 3 (0,0))→aJ S w a x.ks→¬ S NB →
 Calls Tryz.prog 135 #[.agg #[at_],.agg (bE x a c),d,af NB 0] w (zX w NB at_ (fe f x d n))
theorem aj.b {t:Nat} {a b c:World} (h:aj t a b) (k:Below b b c) (ht:t≤a.heap.size):aj t a c:=h.trans (.of k (by have:=h.size; omega))
theorem ra {f:Nat} (ih:1≤f→vO f):vO (f+1):=by
 intro x d n at_ a c NB S w hdf hd1 hn0 hn1 QN0 hks hSN;have hNB:=lt_of_heap QN0;have hal1:=bR w (.cells #[at_] 86);have hal2:Below (w.alloc (.cells #[at_] 86)).heap.size (w.alloc (.cells #[at_] 86)) ((w.alloc (.cells #[at_] 86)).alloc (.cells (bE x a c) 55)):=bR ..
 have QC1:=(hal2.block _ (lt_of_heap (aD w #[at_] 86))).trans (aD w _ _);have QX1:((w.alloc (.cells #[at_] 86)).alloc (.cells (bE x a c) 55)).heap[w.heap.size+1]? = some (.cells (bE x a c) 55 (0,0)):=by
  rw [show w.heap.size+1=(w.alloc (.cells #[at_] 86)).heap.size by simp];exact aD _ _ _
 have hal:=chain hal1 hal2;have QN1:=(hal.block _ hNB).trans QN0;have HIH:=ah ih;have HKS:=ah (aJ.next hal hks);generalize hM:fe (f+1) x d n=M;rw [fe] at hM;have HM:=ah hM;clear hM ih hks hal1 hal2 QN0;go_enter Tryz.func135,Tryz.ntmps135;go_upto_region 1 with fail
 generalize ((w.alloc (.cells #[at_] 86)).alloc (.cells (bE x a c) 55))=w1 at *;have n0:=cell_of (i:=0) QN1 rfl;have n0f:=I0 w1 NB 0 _ _ QN1;go_upto_region 2 with fail
 have QN:(w1.setCell (af NB 0) (.int .i64 (n+1))).heap[NB]? = some (.cells #[.int .i64 (n+1)] 3 (0,0)):=I5 w1 NB 0 _ _ _ QN1;have hk1:aI NB w1 (w1.setCell (af NB 0) (.int .i64 (n+1))):=(aI.refl _ _).set 0 _;have hx:aj NB w (w1.setCell (af NB 0) (.int .i64 (n+1))):=(aj.of hal ak).set 0 _;have QC:=(hk1.2 _ (lt_of_heap QC1) ak).trans QC1;have QX:=(hk1.2 _ (lt_of_heap QX1) ak).trans QX1;have HK:=ah (aJ.k1 hk1 hSN HKS.out);generalize w1.setCell _ _=w2 at *
 clear n0 n0f QN1 QC1 QX1 HKS hal hk1;have hCC:∀ W W':World,W.heap[w.heap.size]? = some (.cells #[at_] 86 (0,0))∧W.heap[NB]? = some (.cells #[.int .i64 (n+1)] 3 (0,0))→Below W W W'→W'.heap[w.heap.size]? = some (.cells #[at_] 86 (0,0))∧W'.heap[NB]? = some (.cells #[.int .i64 (n+1)] 3 (0,0)):=fun W W' h hb=>⟨(hb.block _ (lt_of_heap h.1)).trans h.1,(hb.block _ (lt_of_heap h.2)).trans h.2⟩
 have hdr:Below w2 w2 w2.drew:=(I8 _ _).drew;have CW:=hCC _ _ ⟨QC,QN⟩ hdr;refine dC (fun W=>W.heap[w.heap.size]? = some (.cells #[at_] 86 (0,0))∧W.heap[NB]? = some (.cells #[.int .i64 (n+1)] 3 (0,0))) 9 bm ?_;refine fP hCC 15 0 (.agg #[at_]) (fun n hn=>?_) (fun _=>CW) ?_
 ·have c0:=cell_of (i:=0) hn.1 rfl; go_simp
 simp only [Act.put,pA,pB,pC];refine fP hCC 16 1 (af NB 0) (fun n hn=>?_) (fun _=>CW) ?_
 ·go_simp
 simp only [Act.put,pA,pB,pC];refine fP hCC 17 2 (af NB 0) (fun n hn=>?_) (fun _=>CW) ?_
 ·go_simp
 simp only [Act.put,pA,pB,pC];refine fP hCC 18 3 (.int .i64 (n+1)) (fun n hn=>?_) (fun _=>CW) ?_
 ·have c0:=cell_of (i:=0) hn.2 rfl; go_simp
 simp only [Act.put,pA,pB,pC];by_cases h200:n+1≤200
 case neg =>
  have HR:Hid (M=(4,n+1)):=by show _=_; rw [← HM.out,if_pos (fun h=>h200 h.1)]
  have b200:=h200;clear HM h200;refine fP hCC 19 4 false (fun n hn=>?_) (fun _=>CW) ?_
  ·go_simp
  simp only [Act.put,pA,pB,pC];refine fP hCC 20 5 false (fun n hn=>?_) (fun _=>CW) ?_
  ·go_simp
  simp only [Act.put,pA,pB,pC];refine pz hCC (some 21) (i:=6) (v:=undef) rfl rfl bm bm bm bm bm rfl (fun _ _ _ h=>h) (Or.inr ⟨rfl,rfl⟩) (fun _=>CW) ?_;simp only [Act.put,pA,pB,pC];refine pz hCC (some 22) (i:=7) (v:=undef) rfl rfl bm bm bm bm bm rfl (fun _ _ _ h=>h) (Or.inr ⟨rfl,rfl⟩) (fun _=>CW) ?_;simp only [Act.put,pA,pB,pC]
  refine fP hCC 23 8 false (fun n hn=>?_) (fun _=>CW) ?_
  ·go_simp
  simp only [Act.put,pA,pB,pC];refine bZ (rs:=[9]) (by kernel_rfl) (by simp) ?_;intro w7 hb7 jj hj;obtain rfl:jj=9:=by simpa using hj
  clear hj;have con:=dW 4 at_ w7;refine wpOp_step rfl (fun K hK=>?_);go_simp;refine con.mono ?_;rintro e w8 ⟨rfl,hb8⟩;exact ⟨rfl,.bad (hx.b (chain hdr (chain hb7 hb8)) (by omega)) (by rw [HR.out]) (by decide)⟩
 refine fP hCC 19 4 true (fun n hn=>?_) (fun _=>CW) ?_
 ·go_simp
 simp only [Act.put,pA,pB,pC];refine fP hCC 20 5 true (fun n hn=>?_) (fun _=>CW) ?_
 ·go_simp
 simp only [Act.put,pA,pB,pC];refine fP hCC 21 6 d (fun n hn=>?_) (fun _=>CW) ?_
 ·go_simp
 simp only [Act.put,pA,pB,pC];by_cases h20:d≤20
 case neg =>
  have HR:Hid (M=(4,n+1)):=by show _=_; rw [← HM.out,if_pos (fun h=>h20 h.2)]
  clear HM;refine fP hCC 22 7 false (fun n hn=>?_) (fun _=>CW) ?_
  ·go_simp
  simp only [Act.put,pA,pB,pC];refine fP hCC 23 8 false (fun n hn=>?_) (fun _=>CW) ?_
  ·go_simp
  simp only [Act.put,pA,pB,pC];refine bZ (rs:=[9]) (by kernel_rfl) (by simp) ?_;intro w7 hb7 jj hj;obtain rfl:jj=9:=by simpa using hj
  clear hj;have con:=dW 4 at_ w7;refine wpOp_step rfl (fun K hK=>?_);go_simp;refine con.mono ?_;rintro e w8 ⟨rfl,hb8⟩;exact ⟨rfl,.bad (hx.b (chain hdr (chain hb7 hb8)) (by omega)) (by rw [HR.out]) (by decide)⟩
 refine fP hCC 22 7 true (fun n hn=>?_) (fun _=>CW) ?_
 ·go_simp
 simp only [Act.put,pA,pB,pC];refine fP hCC 23 8 true (fun n hn=>?_) (fun _=>CW) ?_
 ·go_simp
 simp only [Act.put,pA,pB,pC];refine pJ 9 bm fun w7 hb7=>?_
 have con:=gf 4 at_ w7;refine wpOp_step rfl (fun K hK=>?_);go_simp;refine cR con fun w8 hb8=>?_;refine hK _ _ ⟨fun h=>by simp at h,?_⟩;clear hK K con;refine eJ bm ?_;intro w9 hb9;have D9:=chain hdr (chain hb7 (chain hb8 hb9));have hx9:=hx.b D9 ak;have QC9:=bH D9 QC;have QX9:=bH D9 QX;have QN9:=bH D9 QN;have HK9:=ah (aJ.next D9 HK.out);have hM:=HM.out;rw [if_neg (fun h=>h ⟨h200,h20⟩)] at hM
 clear HM HK QN QC QX hx D9 hb7 hb8 hb9 hdr CW hCC;have x0:=cell_of (i:=0) QX9 rfl;have k0:=cell_of (i:=0) QC9 rfl;have hcs:(1≤x.k∧x.k≤23)∨(1≤x.k∧¬ x.k≤23)∨¬ 1≤x.k:=by omega
 obtain ⟨hk1,hk2⟩ | hbad:(1≤x.k∧x.k≤23)∨((1≤x.k∧¬ x.k≤23)∨¬ 1≤x.k):=hcs
 case inr =>
  have HR:Hid (M=(1,n+1)):=by show _=_; rw [← hM,if_pos ak]
  have con:=dW 1 at_ w9;clear hM;rcases hbad with ⟨g1,g2⟩ | g1
  all_goals
   go_wp2_with fail
   refine con.mono ?_;rintro e wA ⟨rfl,hbA⟩;go_wp2_with fail
   exact ⟨rfl,.bad (hx9.b hbA ak) (by rw [HR.out]) (by decide)⟩
 rw [if_neg (fun h=>h ⟨hk1,hk2⟩)] at hM;have HM:=ah hM;have con:=gf 1 at_ w9;clear hM;go_wp2_with fail
 refine cR con fun w10 hb10=>?_;have hx10:=hx9.b hb10 ak;have QC10:=bH hb10 QC9;have QX10:=bH hb10 QX9;have QN10:=bH hb10 QN9;have HK10:=ah (aJ.next hb10 HK9.out);clear con hb10 HK9 QC9 QX9 QN9 hx9 x0 k0;go_upto_region 4 with fail
 have hCC:∀ W W':World,W.heap[w.heap.size]? = some (.cells #[at_] 86 (0,0))∧W.heap[w.heap.size+1]? = some (.cells (bE x a c) 55 (0,0))→Below W W W'→W'.heap[w.heap.size]? = some (.cells #[at_] 86 (0,0))∧W'.heap[w.heap.size+1]? = some (.cells (bE x a c) 55 (0,0)):=fun W W' h hb=>⟨(hb.block _ (lt_of_heap h.1)).trans h.1,(hb.block _ (lt_of_heap h.2)).trans h.2⟩
 have hdr:Below w10 w10 w10.drew:=(I8 _ _).drew;have CW:=hCC _ _ ⟨QC10,QX10⟩ hdr;refine dC (fun W=>W.heap[w.heap.size]? = some (.cells #[at_] 86 (0,0))∧W.heap[w.heap.size+1]? = some (.cells (bE x a c) 55 (0,0))) 8 bm ?_;refine fP hCC 35 0 (.agg #[at_]) (fun n hn=>?_) (fun _=>CW) ?_
 ·have c0:=cell_of (i:=0) hn.1 rfl; go_simp
 simp only [Act.put,pA,pB,pC];refine fP hCC 36 1 (af (w+1) 6) (fun n hn=>?_) (fun _=>CW) ?_
 ·go_simp
 simp only [Act.put,pA,pB,pC];refine fP hCC 37 2 (.slice a x.ks.length c) (fun n hn=>?_) (fun _=>CW) ?_
 ·have c0:=cell_of (i:=6) hn.2 rfl; go_simp
 simp only [Act.put,pA,pB,pC];refine fP hCC 38 3 x.ks.length (fun n hn=>?_) (fun _=>CW) ?_
 ·go_simp
 simp only [Act.put,pA,pB,pC];refine fP hCC 39 4 (af (w+1) 0) (fun n hn=>?_) (fun _=>CW) ?_
 ·go_simp
 simp only [Act.put,pA,pB,pC];refine fP hCC 40 5 x.k (fun n hn=>?_) (fun _=>CW) ?_
 ·have c0:=cell_of (i:=0) hn.2 rfl; go_simp
 simp only [Act.put,pA,pB,pC];refine pJ 6 bm fun w11 hb11=>?_
 have con:=yq hk1 hk2 w11;refine wpOp_step rfl (fun K hK=>?_);go_simp;refine con.mono ?_;rintro e w12 ⟨rfl,rfl⟩;have CW2:=hCC _ _ CW hb11;refine hK _ _ ⟨fun _=>CW2,?_⟩;clear hK K con;have D12:=chain hdr hb11;clear CW;have CW:=CW2;by_cases hkk:x.ks.length=eX x.k
 case neg =>
  have HR:Hid (M=(5,n+1)):=by show _=_; rw [← HM.out,if_pos hkk]
  have bk:(((x.ks.length:Nat):Int) == ((eX x.k:Nat):Int))=false:=by rw [beq_eq_false_iff_ne]; omega
  clear HM;generalize eX x.k=kc at *;refine fP hCC 42 7 false (fun n hn=>?_) (fun _=>CW) ?_
  ·go_simp
  simp only [Act.put,pA,pB,pC];refine bZ (rs:=[8]) (by kernel_rfl) (by simp) ?_;intro w7 hb7 jj hj;obtain rfl:jj=8:=by simpa using hj
  clear hj;have con:=dW 5 at_ w7;refine wpOp_step rfl (fun K hK=>?_);go_simp;refine con.mono ?_;rintro e w8 ⟨rfl,hb8⟩;exact ⟨rfl,.bad (hx10.b (chain D12 (chain hb7 hb8)) (by omega)) (by rw [HR.out]) (by decide)⟩
 have bk:(((x.ks.length:Nat):Int) == ((eX x.k:Nat):Int))=true:=by rw [hkk]; simp
 have hM:=HM.out;rw [if_neg (fun h=>h hkk)] at hM;have hk3:x.ks.length≤3:=by rw [hkk]; unfold eX; split <;> (try split) <;> (try split) <;> omega
 have HM2:=ah hM;clear HM hM hkk;generalize eX x.k=kc at *;refine fP hCC 42 7 true (fun n hn=>?_) (fun _=>CW) ?_
 ·go_simp
 simp only [Act.put,pA,pB,pC];refine pJ 8 bm fun w7 hb7=>?_
 have con:=gf 5 at_ w7;refine wpOp_step rfl (fun K hK=>?_);go_simp;refine cR con fun w8 hb8=>?_;refine hK _ _ ⟨fun h=>by simp at h,?_⟩;clear hK K con;refine eJ bm ?_;intro w13 hb13;have D13:=chain D12 (chain hb7 (chain hb8 hb13));have hx13:=hx10.b D13 ak;have QC13:=bH D13 QC10;have QX13:=bH D13 QX10;have QN13:=bH D13 QN10;have HK13:=ah (aJ.next D13 HK10.out)
 clear HK10 QN10 QC10 QX10 hx10 D12 D13 hb7 hb8 hb13 hdr CW CW2 hCC hb11 bk;obtain ⟨x0,x1,x2,x3,x4,x5,x6⟩:=aN QX13;have k0:=cell_of (i:=0) QC13 rfl;go_upto_block 0 with fail
 go_cut [] (fun wc=>Hid (ij x=0)∧Below w13 w13 wc)
 case first =>
  by_cases e1:x.k=1
  ·have hkd:ij x=gb x.v:=by rw [ij,if_pos e1]
   have b1:(x.k == 1)=true:=by simpa using e1
   have con:=qk x.v at_ w13;have hM:=HM2.out;have HKD:=ah hkd;rw [hkd] at hM;generalize gb x.v=r at *;have HM3:=ah hM;clear HM2 hM hkd e1;go_wp2_with fail
   refine con.mono ?_;rintro e w14 ⟨hb14,⟨h,rfl⟩ | ⟨h,rfl⟩⟩
   ·go_wp2_with fail
    go_meet
    case rel=>exact ⟨HKD.out.trans h,hb14⟩
   ·have HR:Hid (M=(r,n+1)):=by show _=_; rw [← HM3.out,if_pos h]
    clear HM3;go_wp2_with fail
    exact ⟨rfl,.bad (hx13.b hb14 ak) (by rw [HR.out]) h⟩
  have b1:(x.k == 1)=false:=by simpa using e1
  by_cases e2:x.k=2
  ·have hkd:ij x=dY (ef x.name) (dz x.bp):=by rw [ij,if_neg e1,if_pos e2]
   have b2:(x.k == 2)=true:=by simpa using e2
   have con:=kC x.name at_ w13;have hM:=HM2.out;have HKD:=ah hkd;rw [hkd] at hM;generalize ef x.name=r at *;have HM3:=ah hM;have con2:=fun W=>oG x.bp at_ W
   generalize dz x.bp=r2 at *;clear HM2 hM hkd e1 e2;go_wp2_with fail
   refine con.mono ?_;rintro e w14 ⟨hb14,⟨h,rfl⟩ | ⟨h,rfl⟩⟩
   ·subst h;have QX14:=bH hb14 QX13;have QC14:=bH hb14 QC13;have y4:=cell_of (i:=4) QX14 rfl;have y0:=cell_of (i:=0) QC14 rfl;have con3:=con2 w14;clear con con2;go_wp2_with fail
    refine con3.mono ?_;rintro e w15 ⟨hb15,⟨h,rfl⟩ | ⟨h,rfl⟩⟩
    ·go_wp2_with fail
     go_meet
     case rel=>exact ⟨HKD.out.trans (by rw [cV]; exact h),chain hb14 hb15⟩
    ·have HR:Hid (M=(r2,n+1)):=by show _=_; rw [← HM3.out,cV,if_pos h]
     clear HM3;go_wp2_with fail
     exact ⟨rfl,.bad (hx13.b (chain hb14 hb15) ak) (by rw [HR.out]) h⟩
   ·have HR:Hid (M=(r,n+1)):=by show _=_; rw [← HM3.out,dN h,if_pos h]
    clear HM3;go_wp2_with fail
    exact ⟨rfl,.bad (hx13.b hb14 ak) (by rw [HR.out]) h⟩
  ·have hkd:ij x=0:=by rw [ij,if_neg e1,if_neg e2]
   have HKD:=ah hkd;have b2:(x.k == 2)=false:=by simpa using e2
   clear hkd;go_wp2_with fail
   go_meet
   case rel=>exact ⟨HKD,I8 _ _⟩
 case rest =>
  obtain ⟨hkd,hbc⟩:=hcut;have hM:=HM2.out;rw [if_neg (fun h=>h hkd.out)] at hM;have HL:=ah hM;have hxc:=hx13.b hbc ak;have QCc:=bH hbc QC13;have QXc:=bH hbc QX13;have QNc:=bH hbc QN13;have HKc:=ah (aJ.next hbc HK13.out);clear HM2 hM HK13 QN13 QC13 QX13 hx13 x0 x1 x2 x3 x4 x5 x6 k0;have x6:=cell_of (i:=6) QXc rfl;go_wp2_with fail
  go_loopw [65] (fun jv wr=>∃ (j:Nat) (m:Int),j≤x.ks.length∧jv = .int .i64 j∧Hid (gS (fun y m=>fe f y (d+1) m) (x.ks.drop j) m=M)∧0≤m∧m≤200∧aj NB w wr∧wr.heap[w.heap.size]? = some (.cells #[at_] 86 (0,0))∧wr.heap[NB]? = some (.cells #[m] 3 (0,0))∧Hid (aJ S wr a x.ks)) (fun jv _=>x.ks.length - (RowKit.intOf jv).toNat)
  case atStart=>exact ⟨0,n+1,by omega,rfl,by simpa using HL,by omega,h200,hxc,QCc,QNc,HKc⟩
  case round =>
   clear HL hxc QCc QNc HKc QXc x6;obtain ⟨j,m,hj,rfl,HL,hm0,hm1,hxr,QCr,QNr,HKr⟩:=hrel;have hzr:=hxr.size;by_cases hlt:j<x.ks.length
   ·have hjz:(j:Int)<(x.ks.length:Int):=by omega
    have hL:=HL.out;rw [I9 hlt,gS] at hL;obtain ⟨b,off,ai,ci,rfl,hSb,hbl,sv,hkk⟩:=HKr.out.elem hlt;obtain ⟨hal,QY⟩:=dZ wr (bE x.ks[j] ai ci) 55;have QNa:=bH hal QNr;have QCa:=bH hal QCr;have con:=HIH.out ak x.ks[j] (d+1) m at_ ai ci NB S (wr.alloc (.cells (bE x.ks[j] ai ci) 55)) ak ak hm0 hm1 QNa (aJ.next hal hkk) hSN;obtain ⟨s0,s1,s2,s3,s4,s5,s6⟩:=sv
    have HL2:=ah hL;generalize hr:fe f x.ks[j] (d+1) m=r at *;generalize x.ks[j]=y at *;have HKr2:=ah (aJ.next hal HKr.out);clear HL hL hkk hr HKr;go_upto_region 14 with fail
    generalize wr.alloc _=wa at *;obtain ⟨y0,y1,y2,y3,y4,y5,y6⟩:=aN QY;have k0:=cell_of (i:=0) QCa rfl;clear s0 s1 s2 s3 s4 s5 s6;go_wp2_with fail
    refine con.mono ?_;rintro e wb ⟨hbb,⟨h,rfl,QNb,hr0,hr1⟩ | ⟨h,rfl⟩⟩
    ·have hxb:=(hxr.b hal ak).trans hbb;have QCb:=(hbb.2 _ (lt_of_heap QCa) ak).trans QCa;have HKb:=ah (aJ.k1 hbb.k1 hSN HKr2.out);have HL3:Hid (gS (fun y m=>fe f y (d+1) m) (x.ks.drop (j+1)) r.2=M):=by have:=HL2.out; rw [if_pos h] at this; exact this
     clear HL2 con;go_wp2_with fail
     go_roundw
     case rel=>exact ⟨j+1,r.2,by omega,by go_num,HL3,hr0,hr1,hxb,QCb,QNb,HKb⟩
     case measure=>simp [RowKit.intOf]; omega
    ·have HR:Hid (M=r):=by have:=HL2.out; rw [if_neg h] at this; exact this.symm
     clear HL2 con;go_wp2_with fail
     exact ⟨rfl,.bad ((hxr.b hal ak).trans hbb) (by rw [HR.out]) h⟩
   ·have hjz:¬ (j:Int)<(x.ks.length:Int):=by omega
    have e:M=(0,m):=by rw [← HL.out,Jh ak]; rfl
    subst e;clear HL;go_wp2_with fail
    go_end0
    exact ⟨hxr,.inl ⟨rfl,rfl,QNr,hm0,hm1⟩⟩
theorem xh:∀ f,vO (f+1)
 | 0=>ra (fun h=>absurd h (by decide))
 | f+1=>ra (fun _=>xh f)
def eR (x:SX):Int:=(fe 21 x 1 0).1
theorem pn (x:SX) (at_:Int) (a:Option Addr) (c:Nat) (S:Nat→Prop) (w:World) (hks:aJ S w a x.ks):Calls Tryz.prog 103 #[.agg #[at_],.agg (bE x a c)] w (gv w at_ (eR x)):=by
 have hal1:=bR w (.cells #[at_] 86);have hal2:Below (w.alloc (.cells #[at_] 86)).heap.size (w.alloc (.cells #[at_] 86)) ((w.alloc (.cells #[at_] 86)).alloc (.cells (bE x a c) 55)):=bR ..;have QC:=(hal2.block _ (lt_of_heap (aD w #[at_] 86))).trans (aD w _ _)
 have QX:((w.alloc (.cells #[at_] 86)).alloc (.cells (bE x a c) 55)).heap[w.heap.size+1]? = some (.cells (bE x a c) 55 (0,0)):=by
  rw [show w.heap.size+1=(w.alloc (.cells #[at_] 86)).heap.size by simp];exact aD _ _ _
 have hal:=chain hal1 hal2;clear hal1 hal2;have HKS:Hid (aJ (fun b=>b<w.heap.size) ((w.alloc (.cells #[at_] 86)).alloc (.cells (bE x a c) 55)) a x.ks):=aJ.next hal (aJ.mono (fun b _ h=>h) hks);generalize hr:eR x=r;have HR:Hid ((fe 21 x 1 0).1=r):=hr;clear hr hks;go_enter Tryz.func103,Tryz.ntmps103;go_upto_region 1 with fail
 generalize ((w.alloc (.cells #[at_] 86)).alloc (.cells (bE x a c) 55))=w1 at *;have hl1:=lt_of_heap QX;have hal3:=bR w1 (.cells #[aB] 3);have QN:=aD w1 #[aB] 3;have con:=xh 20 x 1 0 at_ a c w1 (fun b=>b<w.heap.size) (w1.alloc (.cells #[aB] 3)) (by decide) (by decide) (by decide) (by decide) QN (aJ.next hal3 HKS.out) (by show ¬ _<_; omega);have QC3:=bH hal3 QC;have QX3:=bH hal3 QX
 generalize fe (20+1) x 1 0=nr at *;go_upto_region 2 with fail
 generalize w1.alloc (.cells #[aB] 3)=w2 at *;obtain ⟨x0,x1,x2,x3,x4,x5,x6⟩:=aN QX3;have k0:w2.cell? (af w 0)=some (.int .i64 at_):=cell_of (i:=0) QC3 rfl;go_wp2_with fail
 refine con.mono ?_;rintro e w3 ⟨hb3,hW⟩;have hbb:Below w w w3:=(chain hal hal3).trans (hb3.1.mono ak);rcases hW with ⟨h,rfl,_⟩ | ⟨h,rfl⟩
 ·go_wp2_with fail
  go_end0
  exact .ok hbb (HR.out.symm.trans h)
 ·go_wp2_with fail
  exact ⟨rfl,.bad hbb HR.out.symm h⟩
def ed (b:Bool) (x:SX):Int:=if b then eR x else 0
theorem ke (b:Bool) (x:SX) (at_:Int) (a:Option Addr) (c:Nat) (S:Nat→Prop) (w:World) (hks:aJ S w a x.ks):Calls Tryz.prog 72 #[.agg #[at_],b,.agg (bE x a c)] w (gv w at_ (ed b x)):=by
 have hal1:=bR w (.cells #[at_] 86);have hal2:Below (w.alloc (.cells #[at_] 86)).heap.size (w.alloc (.cells #[at_] 86)) ((w.alloc (.cells #[at_] 86)).alloc (.cells (bE x a c) 55)):=bR ..;have QC:=(hal2.block _ (lt_of_heap (aD w #[at_] 86))).trans (aD w _ _)
 have QX:((w.alloc (.cells #[at_] 86)).alloc (.cells (bE x a c) 55)).heap[w.heap.size+1]? = some (.cells (bE x a c) 55 (0,0)):=by
  rw [show w.heap.size+1=(w.alloc (.cells #[at_] 86)).heap.size by simp];exact aD _ _ _
 have hal:=chain hal1 hal2;clear hal1 hal2;have con:=pn x at_ a c S ((w.alloc (.cells #[at_] 86)).alloc (.cells (bE x a c) 55)) (aJ.next hal hks);rw [ed];generalize eR x=r at *;clear hks;cases b
 ·rw [if_neg (by decide)];go_enter Tryz.func72,Tryz.ntmps72;go_wp2_with fail
  go_end0
  exact .ok hal rfl
 ·rw [if_pos rfl];go_enter Tryz.func72,Tryz.ntmps72;go_upto_region 1 with fail
  generalize ((w.alloc (.cells #[at_] 86)).alloc (.cells (bE x a c) 55))=w1 at *;obtain ⟨x0,x1,x2,x3,x4,x5,x6⟩:=aN QX;have k0:=cell_of (i:=0) QC rfl;go_wp2_with fail
  refine con.mono ?_;rintro e w2 ⟨hb2,⟨h,rfl⟩ | ⟨h,rfl⟩⟩
  ·go_wp2_with fail
   go_end0
   exact .ok (chain hal hb2) h
  ·go_wp2_with fail
   exact ⟨rfl,.bad (chain hal hb2) rfl h⟩
def eZ:List SX→Int
 | []=>0
 | x :: r=>dY (eR x) (eZ r)
theorem qx (l:List SX) (hl:l.length≤1000) (at_:Int) (a:Option Addr) (c:Nat) (S:Nat→Prop) (w:World) (hks:aJ S w a l):Calls Tryz.prog 105 #[.agg #[at_],.slice a l.length c] w (gv w at_ (eZ l)):=by
 obtain ⟨hal,QC⟩:=dZ w #[at_] 86;generalize hr:eZ l=r;have HR:Hid (eZ (l.drop 0)=r):=by show _=_; simpa using hr
 have HKS:=ah hks;clear hr hks;go_enter Tryz.func105,Tryz.ntmps105;go_upto_region 1 with fail
 generalize w.alloc _=w1 at *;go_wp2_with fail
 go_loopw [8] (fun jv wr=>∃ j:Nat,j≤l.length∧jv = .int .i64 j∧Hid (eZ (l.drop j)=r)∧Below w w wr∧wr.heap[w.heap.size]? = some (.cells #[at_] 86 (0,0))) (fun jv _=>l.length - (RowKit.intOf jv).toNat)
 case atStart=>exact ⟨0,by omega,rfl,HR,hal,QC⟩
 case round =>
  clear HR hal QC;obtain ⟨j,hj,rfl,HL,hx,QC⟩:=hrel;by_cases hlt:j<l.length
  ·have hjz:(j:Int)<(l.length:Int):=by omega
   have hL:=HL.out;rw [I9 hlt,eZ] at hL;obtain ⟨b,off,ai,ci,rfl,hSb,hbl,sv,hkk⟩:=(aJ.next hx HKS.out).elem hlt;obtain ⟨hal,QY⟩:=dZ wr (bE l[j] ai ci) 55;have QCa:=bH hal QC;have con:=pn l[j] at_ ai ci S (wr.alloc (.cells (bE l[j] ai ci) 55)) (aJ.next hal hkk);obtain ⟨s0,s1,s2,s3,s4,s5,s6⟩:=sv;have HL2:=ah hL;generalize eR l[j]=r1 at *;generalize l[j]=y at *;clear HL hL hkk;go_upto_region 4 with fail
   generalize wr.alloc _=wa at *;obtain ⟨y0,y1,y2,y3,y4,y5,y6⟩:=aN QY;have k0:=cell_of (i:=0) QCa rfl;clear s0 s1 s2 s3 s4 s5 s6;go_wp2_with fail
   refine con.mono ?_;rintro e wb ⟨hbb,⟨h,rfl⟩ | ⟨h,rfl⟩⟩
   ·have QCb:=bH hbb QCa;have HL3:Hid (eZ (l.drop (j+1))=r):=by have:=HL2.out; rw [h,cV] at this; exact this
    clear HL2 con;go_wp2_with fail
    go_roundw
    case rel=>exact ⟨j+1,by omega,by go_num,HL3,chain hx (chain hal hbb),QCb⟩
    case measure=>simp [RowKit.intOf]; omega
   ·have HR:Hid (r1=r):=by have:=HL2.out; rw [dN h] at this; exact this
    clear HL2 con;go_wp2_with fail
    exact ⟨rfl,.bad (chain hx (chain hal hbb)) HR.out.symm h⟩
  ·have hjz:¬ (j:Int)<(l.length:Int):=by omega
   have e:r=0:=by rw [← HL.out,Jh ak]; rfl
   have E:=ah e;clear HL e;go_wp2_with fail
   go_end0
   exact .ok hx E.out
end Go.Proofs.YtoknmnngaackkaaGreatDoor
