/- Together: SqlTurns. -/
import Derived.Deep.DeepCutAuto
import Derived.Test.YtoknmnngaackkaaGreatDoorST13
namespace Go.Proofs.YtoknmnngaackkaaGreatDoor
open Go.RowKit Go.Lib Go.Shelf
set_option maxRecDepth 100000
set_option maxHeartbeats 16000000
set_option maxRecDepth 100000
set_option maxHeartbeats 16000000
abbrev fA (r:Int × Int):Array Value:=#[r.1,r.2]
theorem uf (l:List cM) (s:ByteArray) (a:Option Addr) (c:Nat) {w:World} (hG:GP w w) (hl:bf cy 16 (fun b=>b<w.heap.size) w a l):Calls Tryz.prog 7 #[.slice a l.length c,s] w (Cm w):=by
 have con:=AQ hG.gl;go_enter Tryz.func7,Tryz.ntmps7;go_wp2_with fail
 refine cR con fun w1 hb1=>?_;have HG1:=ah (hG.up hb1 (I6 _) hb1.size);have HL1:=ah ((hl.nx bJ hb1).mono bJ (fun b h _=>Ja h hb1.size));have HG0:=ah hG;clear con hG hl;have con:=pG l a c HG1.out HL1.out;have h0:(bW l).2.1=0→(cL l).1=0∧da (bW l).1 = .ok (l.map ct)∧nF sQ (l.map ct):=fun h=>⟨(iX h).1,jR h,vY h⟩
 have H0:=ah h0;clear h0;generalize bW l=P at *;go_wp2_with fail
 refine con.mono ?_;rintro e w2 ⟨hb2,rfl⟩;clear con;obtain ⟨hal2,Q2⟩:=dZ w2 (fA P.2) 27;go_upto_region 4 with fail
 have D3:=chain hb2 hal2;have A3:=ah (chain hb1 D3);have HG3:Hid (GP (w2.alloc (.cells (fA P.2) 27)) (w2.alloc (.cells (fA P.2) 27)).heap.size):=HG1.out.up D3 (I6 _) D3.size;have HL3:Hid (bf cy 16 (fun b=>b<(w2.alloc (.cells (fA P.2) 27)).heap.size) (w2.alloc (.cells (fA P.2) 27)) a l):=(HL1.out.nx bJ D3).mono bJ (fun b h _=>Ja h D3.size);clear D3 hb1 hb2 hal2 HG1 HL1;generalize w2.alloc (.cells (fA P.2) 27)=w3 at *;have x0:w3.cell? (af w2 0)=some (.int .i64 P.2.1):=cell_of (i:=0) Q2 rfl
 go_upto_if 22 with fail
 clear x0 Q2;go_cut [] (fun wx=>Hid (Below w w wx)∧Hid (GP wx wx))
 case first =>
  by_cases E:P.2.1=0
  case neg =>
   have b1:(P.2.1 == 0)=false:=by simpa using E
   clear E H0;go_wp2_with fail
   go_meet
   case rel=>exact ⟨A3,HG3⟩
  have b1:(P.2.1 == 0)=true:=by simpa using E
  obtain ⟨k1,k2,k3⟩:=H0.out E;obtain ⟨n1,n2⟩:=vB k1;have HN2:Hid (∀ x ∈ l,yi x):=n2;have HBD:Hid (nF sQ (l.map ct)):=k3;clear E H0 k1 k3 n2;have con:=lU P.1 HG3.out.gl;rw [k2] at con;clear k2;have con:Calls Tryz.prog 17 #[P.1] w3 fun e w'=>Below w3 w3 w'∧∃ a cap,e = .returned (.tuple #[.slice a (l.map ct).length cap,.agg #[aB,aB]])∧bf cy 16 (fun b=>w3.heap.size≤b) w' a (l.map ct):=con
  generalize hz:l.map ct=z at *;have HZ:Hid (l.map ct=z):=hz;clear hz;go_wp2_with fail
  refine con.mono ?_;rintro e w4 ⟨hb4,a2,c2,rfl,l2⟩;clear con b1;have hal4:=bR w4 (.cells #[aB,aB] 27);have Q4:=aD w4 #[aB,aB] 27;have D5:=chain hb4 hal4;have HL5:Hid (bf cy 16 (fun b=>b<(w4.alloc (.cells #[aB,aB] 27)).heap.size) (w4.alloc (.cells #[aB,aB] 27)) a l):=(HL3.out.nx bJ D5).mono bJ (fun b h _=>Ja h D5.size)
  have HM5:Hid (bf cy 16 (fun _=>True) (w4.alloc (.cells #[aB,aB] 27)) a2 z):=(l2.mono bJ fun _ _ _=>trivial).nx bJ hal4;have HA5:Hid (Below w w (w4.alloc (.cells #[aB,aB] 27))):=chain A3.out D5;have HG5:Hid (GP (w4.alloc (.cells #[aB,aB] 27)) (w4.alloc (.cells #[aB,aB] 27)).heap.size):=HG3.out.up D5 (I6 _) D5.size;go_upto_region 6 with fail
  clear l2 hb4 hal4 D5 HL3 HG3 A3;generalize w4.alloc (.cells #[aB,aB] 27)=w5 at *;have x0:w5.cell? (af w4 0)=some (.int .i64 0):=cell_of (i:=0) Q4 rfl;have con:Calls Tryz.prog 14 #[.slice a l.length c] w5 (G9 w5 z):=by rw [← HZ.out]; exact mU l (Jj n1 (by decide)) HN2.out a c w5 HL5.out
  go_wp2_with fail
  refine con.mono ?_;rintro e w6 ⟨hb6,a3,c3,rfl,l3⟩;clear con x0 Q4;have con:=xJ z HBD.out a2 a3 c2 c3 w6 ⟨HM5.out.nx bJ hb6,l3⟩;go_wp2_with fail
  refine cR con fun w7 hb7=>?_;clear con;have D7:=chain hb6 hb7;have R1:=ah (chain HA5.out D7);have R2:=ah (HG5.out.up D7 (I6 _) D7.size);go_wp2_with fail
  go_meet
  case rel=>exact ⟨R1,R2⟩
 case rest =>
  obtain ⟨A1,G1⟩:=hcut;clear H0 A3 HG3 HL3;obtain ⟨w8,ew⟩:∃ x,x=wc:=⟨_,rfl⟩
  subst ew;have con:=lU s G1.out.gl;have h1:(jL (da s)).1=0→(cL (fN (da s))).1=0∧(fN (da s)).map ct=fN (da s)∧nF sQ (fN (da s)):=fun h=>by
   have hr:=CQ h;obtain ⟨_,_,_,_,_,h2⟩:=oy hr;exact ⟨h2,yw hr,tC hr⟩
  have H1:=ah h1;clear h1;generalize jL (da s)=r at *;generalize fN (da s)=m at *;go_wp2_with fail
  refine con.mono ?_;rintro e w9 ⟨hb9,a2,c2,rfl,l2⟩;clear con;obtain ⟨hal9,Q9⟩:=dZ w9 (fA r) 27;have D9:=chain hb9 hal9;have HM:=ah ((l2.nx bJ hal9).mono bJ (fun b _ h=>h));have HA:=ah (chain A1.out D9);have HG:=ah (G1.out.up D9 (I6 _) D9.size)
  go_upto_region 9 with fail
  have hw9:=(chain A1.out hb9).size;have HN:=ah ((l2.mono bJ fun b _ h=>h).nx bJ hal9);clear l2 hb9 hal9 D9 A1 G1;generalize w9.alloc _=w10 at *;have x0:=cell_of (i:=0) Q9 rfl;have fin:∀ (v:Value) (W:World),Below w w W→v = .bool true→(Ending.returned v = .returned true∧Below w w W):=fun v W h e=>by subst e; exact ⟨rfl,h⟩
  have HFIN:=ah fin;clear fin;by_cases E:r.1=0
  case neg =>
   have b1:(r.1 != 0)=true:=by simpa using E
   clear E H1;go_wp2_with fail
   exact fa rfl rfl (HFIN.out _ _ HA.out rfl)
  have b1:(r.1 != 0)=false:=by simpa using E
  obtain ⟨k1,k2,k3⟩:=H1.out E;have HK2:=ah k2;have HBD:=ah k3;have hpe:=Cr k1;have con:=mE m a2 c2 _ w10 HM.out;rw [show cL m=(0,(cL m).2) from Prod.ext k1 rfl] at con;have con:=con
  generalize (cL m).2=wi at *;clear E H1 k1 k2 k3;go_wp2_with fail
  refine cR con fun w11 hb11=>?_;clear con b1 x0;have HM1:=ah ((HM.out.nx bJ hb11).mono bJ (fun b h _=>Ja h hb11.size));have HA1:=ah (chain HA.out hb11);have HG1:=ah (HG.out.up hb11 (I6 _) hb11.size);have Q11:=bH hb11 Q9;have HN1:=ah (HN.out.nx bJ hb11);clear HM HA HG HN Q9 hb11;have con:=pG m a2 c2 HG1.out HM1.out
  have h0:(bW m).2.1=0→da (bW m).1 = .ok m:=fun h=>by rw [jR h,HK2.out]
  have H0:=ah h0;have HPE:Hid ((bW m).2.1=0∨(bW m).2.1=4):=hpe;clear h0 hpe;generalize bW m=P at *;have hf:∀ w:World,(Instr.field 27 (.agg #[aB,wi]) 0).run Tryz.prog w = .ok aB w:=fun w=>by rfl
  go_wp2_with fail
  refine con.mono ?_;rintro e w12 ⟨hb12,rfl⟩;clear con;have Q12:=bH hb12 Q11;have f0:=I0 w12 w9 0 _ _ Q12;have f1:=I0 w12 w9 1 _ _ Q12;have g0:=cell_of (i:=0) Q12 rfl;have g1:=cell_of (i:=1) Q12 rfl;go_upto_region 14 with fail
  have QE:Hid _:=dJ Q12 P.2.1 P.2.2;have HA3:Hid _:=iW (g:=w9.heap.size) (chain HA1.out hb12) hw9 P.2.1 P.2.2;have K3:aI w9 w12 ((w12.setCell (af w9 0) P.2.1).setCell (af w9 1) P.2.2):=((aI.refl _ _).set _ _).set _ _;have HN3:Hid (bf cy 16 (fun b=>b<w9.heap.size) _ a2 m):=(HN1.out.nx bJ hb12).aM bJ (K3.k (fun h=>by have:w9.heap.size<w9.heap.size:=h; omega));clear f0 f1 g0 g1 K3 Q12 Q11 HA1 HG1 HM1 HN1 hb12 hf
  generalize ((w12.setCell (af w9 0) P.2.1).setCell (af w9 1) P.2.2)=w13 at *;have x0:w13.cell? (af w9 0)=some (.int .i64 P.2.1):=cell_of (i:=0) QE.out rfl;by_cases E:P.2.1=0
  case neg =>
   have b1:(P.2.1 != 0)=true:=by simpa using E
   have b2:(P.2.1 == 4)=true:=by rcases HPE.out with h | h; exact absurd h E; rw [h]; rfl
   clear E H0 HPE;go_wp2_with fail
   exact fa rfl rfl (HFIN.out _ _ HA3.out rfl)
  have b1:(P.2.1 != 0)=false:=by simpa using E
  have con:=lU P.1 (HG0.out.up HA3.out (I6 _) HA3.out.size).gl;rw [H0.out E] at con;have con:Calls Tryz.prog 17 #[P.1] w13 fun e w'=>Below w13 w13 w'∧∃ a cap,e = .returned (.tuple #[.slice a m.length cap,.agg #[aB,aB]])∧bf cy 16 (fun b=>w13.heap.size≤b) w' a m:=con
  clear E H0 HPE;go_wp2_with fail
  refine con.mono ?_;rintro e w14 ⟨hb14,a3,c3,rfl,l3⟩;clear con x0 b1;have Q14:=(hb14.block _ (lt_of_heap QE.out)).trans QE.out;have hq:=lt_of_heap QE.out;have f0:=I0 w14 w9 0 _ _ Q14;have f1:=I0 w14 w9 1 _ _ Q14;have g0:=cell_of (i:=0) Q14 rfl;have g1:=cell_of (i:=1) Q14 rfl;go_upto_region 17 with fail
  have QF:Hid _:=dJ Q14 aB aB;have HA5:Hid _:=iW (g:=w9.heap.size) (chain HA3.out hb14) hw9 aB aB;have K5:aI w9 w14 ((w14.setCell (af w9 0) aB).setCell (af w9 1) aB):=((aI.refl _ _).set _ _).set _ _;have M1:Hid (bf cy 16 (fun _=>True) ((w14.setCell (af w9 0) aB).setCell (af w9 1) aB) a2 m):=((HN3.out.nx bJ hb14).aM bJ (K5.k (fun h=>by have:w9.heap.size<w9.heap.size:=h; omega))).mono bJ fun _ _ _=>trivial
  have M2:Hid (bf cy 16 (fun _=>True) ((w14.setCell (af w9 0) aB).setCell (af w9 1) aB) a3 m):=(l3.aM bJ (K5.k (fun h=>by have:w13.heap.size≤w9.heap.size:=h; omega))).mono bJ fun _ _ _=>trivial
  clear f0 f1 g0 g1 K5 Q14 hb14 l3 HN3 QE HA3;generalize ((w14.setCell (af w9 0) aB).setCell (af w9 1) aB)=w15 at *;have x0:w15.cell? (af w9 0)=some (.int .i64 0):=cell_of (i:=0) QF.out rfl;have con:=xJ m HBD.out a2 a3 c2 c3 w15 ⟨M1.out,M2.out⟩;clear QF M1 M2;go_wp2_with fail
  refine cR con fun w16 hb16=>?_;clear con x0;have A16:=chain HA5.out hb16;go_wp2_with fail
  exact fa rfl rfl (HFIN.out _ _ A16 rfl)
theorem rX (l:List cM) (a:Option Addr) (c:Nat) (s:ByteArray) {w:World} (hG:GP w w) (hl:bf cy 16 (fun b=>b<w.heap.size) w a l):Calls Tryz.prog 7 #[.slice a l.length c,s] w (Cm w):=uf l s a c hG hl
end Go.Proofs.YtoknmnngaackkaaGreatDoor
