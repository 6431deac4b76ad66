/- Together: DZ, RTj, EA, JO5, JO6, JO1, JO2, JO3, JO4. -/
import Derived.Laws.BitsAllLaws
import Derived.Test.YtoknmnngaackkaaGreatDoorST12
import Derived.Test.YtoknmnngaackkaaGreatDoorST7
import Derived.Test.YtoknmnngaackkaaGreatDoorST9
import Derived.Test.YtoknmnngaackkaaGreatDoorST10
import Derived.Test.YtoknmnngaackkaaGreatDoorST4
import Derived.Test.YtoknmnngaackkaaGreatDoorST8
namespace Go.Proofs.YtoknmnngaackkaaGreatDoor
open Go.RowKit Go.Lib Go.Shelf
set_option maxRecDepth 100000
set_option maxHeartbeats 16000000
set_option maxRecDepth 100000
set_option maxHeartbeats 8000000
def G9 (w:World) (l:List cM) (e:Ending) (w':World):Prop:=Below w w w'∧∃ a' c',e = .returned (.slice a' l.length c')∧bf cy 16 (fun _=>True) w' a' l
theorem mU (l:List cM) (hl:l.length≤100000) (hg:∀ x ∈ l,yi x) (a:Option Addr) (c:Nat) (w:World) (hk:bf cy 16 (fun b=>b<w.heap.size) w a l):Calls Tryz.prog 14 #[.slice a l.length c] w (G9 w (l.map ct)):=by
 obtain ⟨i0,hi,hj0,hj1,hj2⟩:=info_parts AT;have HK:=ah hk;have HX:=ah hg;clear hk hg;go_enter Tryz.func14,Tryz.ntmps14;go_wp2_with fail
 go_loopw [3,14] (fun ow iv wx=>∃ (ov:Value) (j:Nat) (acc:List cM),ov=ow∧j≤l.length∧iv = .int .i64 j∧Hid (Below w w wx)∧Hid (acc.length=j)∧Hid (acc=(l.take j).map ct)∧Hid (bC cy 57 16 w.heap.size (fun _=>True) wx ov acc)) (fun _ iv _=>l.length - (RowKit.intOf iv).toNat)
 case atStart=>exact ⟨_,0,[],rfl,Jc _,rfl,I8 _ _,rfl,rfl,bC.nil _ _ _ _ _ _⟩
 case round =>
  obtain ⟨ov,j,acc,rfl,hj,rfl,hx,hacc,HA,HO⟩:=hrel;obtain ⟨wR,ewR⟩:∃ x,x=wr:=⟨_,rfl⟩
  subst ewR;have hzr:=hx.out.size;by_cases hlt:j<l.length
  ·have hjz:(j:Int)<(l.length:Int):=by omega
   have hoj:=HX.out _ (Jk hlt);have HT1:Hid ((l.take (j+1)).map ct=acc ++ [ct l[j]]):=by show _=_; rw [JC,Je hlt,JP,← HA.out]; rfl
   obtain ⟨b1,o1,_,rfl,t1,en⟩:=(HK.out.aM bJ ⟨hzr,fun b hb _=>hx.out.block b hb⟩).get hlt;obtain ⟨A,rfl,k0⟩:=ry.of en;obtain ⟨ao,co,rfl⟩:=HO.out.len;generalize l[j]=s at *;have HSO:=ah hoj;have hrg:wR.rangeAt b1 (o1+j*16) (kt s A).toList:=fun i u hu=>t1.2 i u hu
   obtain ⟨hal1,QY⟩:=dZ wR (kt s A) 57;have hal2:Below (wR.alloc (.cells (kt s A) 57)).heap.size (wR.alloc (.cells (kt s A) 57)) ((wR.alloc (.cells (kt s A) 57)).alloc (.cells (GY s.kind) 57)):=bR ..;have QT:=aD (wR.alloc (.cells (kt s A) 57)) (GY s.kind) 57;rw [size_alloc] at QT;have HW0:Hid _:=chain hal1 hal2;have QY2:Hid _:=bH hal2 QY;have QT2:=ah QT
   have K2:=ah ((k0.nx hal1).nx hal2);clear t1 en k0 hoj HA HX HK hal2 QT;go_upto_region 5 with (first | (refine wpList_load_mid rfl 57 _ rfl b1 (o1+j*16) rfl (kt s A).toList _ hrg Tryz.underlying57 rfl dB ?_) | (refine aT rfl 57 _ _ rfl cO (kt s A) rfl rfl dB rfl (eh rfl) ?_))
   clear hrg;have z0:=cell_of (i:=0) QY rfl;have y0:=cell_of (i:=0) QY2.out rfl;go_upto_if 23 with (first | (refine aT rfl 57 _ _ rfl cO (GY s.kind) rfl rfl dB rfl (eh rfl) ?_))
   clear z0 y0 QY hal1;generalize ((wR.alloc (.cells (kt s A) 57)).alloc (.cells (GY s.kind) 57))=w1 at *;obtain ⟨Nm,hNm⟩:∃ n,(if s.kind=5 then eB else s.name)=n:=⟨_,rfl⟩
   have HN:=ah hNm;clear hNm;go_cut [] (fun wx=>Hid (Below wR wR wx)∧Hid (wx.heap[wR.heap.size]? = some (.cells (kt s A) 57 (0,0)))∧Hid (ry (fun b=>b<w.heap.size) wx s A)∧Hid (wx.heap[wR.heap.size+1]? = some (.cells (CU (⟨s.kind,Nm,[],iz,[],false,dM⟩:cM) (SB.mk none 0 none 0 none 0 none 0 none 0 none 0) aL) 57 (0,0))))
   case first =>
    have hw1:=HW0.out.size;have hg1:=lt_of_heap QT2.out;by_cases hk5:s.kind=5
    ·have en:Nm=eB:=by rw [← HN.out,if_pos hk5]
     have HE:=ah en;have kb:(s.kind != 5)=false:=by rw [hk5]; rfl
     clear hk5 en;go_wp2_with fail
     go_meet
     case rel=>exact ⟨HW0,QY2,K2,(by show _=_; rw [HE.out]; exact QT2.out)⟩
    ·have en:Nm=s.name:=by rw [← HN.out,if_neg hk5]
     have HE:=ah en;have kb:(s.kind != 5)=true:=by simpa using hk5
     clear hk5 en;have z1:=cell_of (i:=1) QY2.out rfl;have y1:=cell_of (i:=1) QT2.out rfl;have f1:=I0 w1 (wR+1) 1 _ _ QT2.out;go_wp2_with fail
     have Q3:=zt QT2.out s.name;have K3:aI (wR+1) w1 (w1.setCell (af (wR+1) 1) s.name):=(aI.refl _ _).set _ _;have R1:Hid _:=HW0.out.setCell (p:=af (wR+1) 1) (by show _≤wR.heap.size+1; omega) s.name;have R2:Hid _:=(K3.2 _ (lt_of_heap QY2.out) ak).trans QY2.out;have R3:Hid _:=K2.out.aM (K3.k (fun h=>by have:wR.heap.size+1<w.heap.size:=h; omega));have R4:=ah Q3;clear Q3 K3 z1 y1 f1;generalize w1.setCell _ _=w2 at *;go_wp2_with fail
     go_meet
     case rel=>exact ⟨R1,R2,R3,(by show _=_; rw [HE.out]; exact R4.out)⟩
   case rest =>
    obtain ⟨HW1,HS1,HK1,HT1b⟩:=hcut;obtain ⟨w3,ew⟩:∃ x,x=wc:=⟨_,rfl⟩
    subst ew;clear HW0 QY2 QT2 K2;have x0:=cell_of (i:=0) HS1.out rfl;go_upto_block 2 with fail
    clear x0;go_cut [] (fun wx=>∃ B:SB,Hid (Below wR wR wx)∧Hid (wx.heap[wR.heap.size+1]? = some (.cells (kt (ct s) B) 57 (0,0)))∧Hid (ry (fun b=>b<w.heap.size∨wR.heap.size<b∧b≠wR.heap.size+1) wx (ct s) B))
    case first =>
     have hw3:=HW1.out.size;have hg3:=lt_of_heap HT1b.out;rcases HSO.out.kind with hk | hk | hk | hk | hk
     ·have e:ct s=⟨1,s.name,s.cF,iz,[],false,dM⟩:=by rw [ct,if_pos hk]
      have HE:=ah e;have en:Nm=s.name:=by rw [← HN.out,if_neg ak]
      have HQ:Hid (w3.heap[wR.heap.size+1]? = some (.cells (CU ⟨1,s.name,[],iz,[],false,dM⟩ (SB.mk none 0 none 0 none 0 none 0 none 0 none 0) aL) 57 (0,0))):=by show _=_; rw [← hk,← en]; exact HT1b.out
      have k1:(s.kind == 1)=true:=by rw [hk]; rfl
      clear e en hk HT1b HN;have z1:=cell_of (i:=2) HS1.out rfl;have y1:=cell_of (i:=2) HQ.out rfl;have f1:=I0 w3 (wR+1) 2 _ _ HQ.out;go_wp2_with fail
      obtain ⟨Q3,K3,_⟩:=sV HQ.out (.slice A.a1 s.cF.length A.c1);have R1:Hid _:=HW1.out.setCell (p:=af (wR+1) 2) (by show _≤wR.heap.size+1; omega) (.slice A.a1 s.cF.length A.c1);have R3:Hid (bf pO 2 (fun b=>b<w.heap.size∨wR.heap.size<b∧b≠wR.heap.size+1) _ A.a1 s.cF):=(HK1.out.l1.aM iY (K3.k (S:=fun b=>b<w.heap.size) (fun h=>by have:wR.heap.size+1<w.heap.size:=h; omega))).mono iY (fun b h _=>.inl h);have R4:=ah Q3;clear Q3 K3 z1 y1 f1;generalize w3.setCell _ _=w4 at *;go_wp2_with fail
      go_meet
      case rel=>exact ⟨⟨A.a1,A.c1,none,0,none,0,none,0,none,0,none,0⟩,R1,(by show _=_; rw [HE.out]; exact R4.out),(by show ry _ _ _ _; rw [HE.out]; exact ⟨R3.out,.inl rfl,.inl rfl,.inl rfl,.inl rfl,.nil _⟩)⟩
     ·have e:ct s=⟨2,s.name,[],iq s.query,[],false,dM⟩:=by rw [ct,if_neg ak,if_pos hk]
      have HE:=ah e;have en:Nm=s.name:=by rw [← HN.out,if_neg ak]
      have HQ:Hid (w3.heap[wR.heap.size+1]? = some (.cells (CU ⟨2,s.name,[],iz,[],false,dM⟩ (SB.mk none 0 none 0 none 0 none 0 none 0 none 0) aL) 57 (0,0))):=by show _=_; rw [← hk,← en]; exact HT1b.out
      have HQG:Hid (zg s.query):=HSO.out.query ak;have k1:(s.kind == 1)=false:=by rw [hk]; rfl
      have k3:(s.kind == 3)=false:=by rw [hk]; rfl
      have k4:(s.kind == 4)=false:=by rw [hk]; rfl
      clear e en hk HT1b HN;have hrx:w3.rangeAt wR.heap.size 3 #[.slice A.p1 s.query.parts.length A.d1,.slice A.p2 s.query.ops.length A.d2,.slice A.p3 s.query.order.length A.d3,.int .i64 s.query.aH].toList:=fun i u hu=>by
       have hi4:i<4:=by
        rcases Jw i 4 with h | h
        ·exact h
        ·rw [Jy (by simpa using h)] at hu; cases hu
       exact cell_of (i:=3+i) HS1.out (by rw [← hu]; match i,hi4 with | 0,_=>rfl | 1,_=>rfl | 2,_=>rfl | 3,_=>rfl)
      have con:=sZ s.query (fun b=>b<w.heap.size) HQG.out A.p1 A.p2 A.p3 A.d1 A.d2 A.d3 w3 (fun b h=>by have:b<w.heap.size:=h; omega) HK1.out.l2 HK1.out.l3 HK1.out.l4;go_wp2_with (first | (refine wpList_load_mid rfl 50 _ rfl wR.heap.size 3 rfl #[.slice A.p1 s.query.parts.length A.d1,.slice A.p2 s.query.ops.length A.d2,.slice A.p3 s.query.order.length A.d3,.int .i64 s.query.aH].toList _ hrx Tryz.underlying50 rfl AR ?_))
      refine con.mono ?_;rintro e w2 ⟨hb2,r1,e1,r2,e2,r3,e3,rfl,L1,L2,L3⟩;have hs2:=hb2.size;clear con hrx HQG;have G1:bf eS 21 (fun b=>b<w.heap.size∨wR.heap.size<b∧b≠wR.heap.size+1) w2 r1 (iq s.query).parts:=L1.mono b8 (fun b h _=>h.elim .inl fun h=>.inr (by have:w3.heap.size≤b:=h; exact ⟨by omega,by omega⟩));have G2:bf lD 1 (fun b=>b<w.heap.size∨wR.heap.size<b∧b≠wR.heap.size+1) w2 r2 (iq s.query).ops:=L2.mono fv (fun b h _=>h.elim .inl fun h=>.inr (by have:w3.heap.size≤b:=h; exact ⟨by omega,by omega⟩))
      have G3:bf fu 7 (fun b=>b<w.heap.size∨wR.heap.size<b∧b≠wR.heap.size+1) w2 r3 (iq s.query).order:=L3.mono b9 (fun b h _=>h.elim .inl fun h=>.inr (by have:w3.heap.size≤b:=h; exact ⟨by omega,by omega⟩));have HG1:=ah G1;have HG2:=ah G2;have HG3:=ah G3;clear L1 L2 L3 G1 G2 G3
      generalize iq s.query=z at *;have QT:=(hb2.block _ hg3).trans HQ.out;have f3:=I0 w2 (wR+1) 3 _ _ QT;have f4:=I0 w2 (wR+1) 4 _ _ QT;have f5:=I0 w2 (wR+1) 5 _ _ QT;have f6:=I0 w2 (wR+1) 6 _ _ QT;have g3:=cell_of (i:=3) QT rfl;have g4:=cell_of (i:=4) QT rfl;have g5:=cell_of (i:=5) QT rfl;have g6:=cell_of (i:=6) QT rfl;go_wp2_with fail
      obtain ⟨Q3,K3,_⟩:=oV QT (.slice r1 z.parts.length e1) (.slice r2 z.ops.length e2) (.slice r3 z.order.length e3) z.aH;have D2:=HW1.out.trans (hb2.mono hw3);have D3:=(((D2.setCell (p:=af (wR+1) 3) (by show _≤wR.heap.size+1; omega) (.slice r1 z.parts.length e1)).setCell (p:=af (wR+1) 4) (by show _≤wR.heap.size+1; omega) (.slice r2 z.ops.length e2)).setCell (p:=af (wR+1) 5) (by show _≤wR.heap.size+1; omega) (.slice r3 z.order.length e3)).setCell (p:=af (wR+1) 6) (by show _≤wR.heap.size+1; omega) z.aH
      have KK:ay (fun b=>b<w.heap.size∨wR.heap.size<b∧b≠wR.heap.size+1) w2 _:=K3.k (fun h=>h.elim (fun h=>by omega) (fun h=>h.2 rfl));have R1:=ah D3;have R2:=ah Q3;have R3:=ah (bf.aM b8 KK HG1.out);have R4:=ah (bf.aM fv KK HG2.out);have R5:=ah (bf.aM b9 KK HG3.out);clear Q3 K3 D2 D3 KK f3 f4 f5 f6 g3 g4 g5 g6 QT HG1 HG2 HG3
      generalize ((((w2.setCell (af (wR+1) 3) (.slice r1 z.parts.length e1)).setCell (af (wR+1) 4) (.slice r2 z.ops.length e2)).setCell (af (wR+1) 5) (.slice r3 z.order.length e3)).setCell (af (wR+1) 6) z.aH)=w4 at *;go_wp2_with fail
      go_meet
      case rel=>exact ⟨⟨none,0,r1,e1,r2,e2,r3,e3,none,0,none,0⟩,R1,(by show _=_; rw [HE.out]; exact R2.out),(by show ry _ _ _ _; rw [HE.out]; exact ⟨.inl rfl,R3.out,R4.out,R5.out,.inl rfl,.nil _⟩)⟩
     ·have e:ct s=⟨3,s.name,[],iz,s.rows.map (·.map eQ),false,dM⟩:=by rw [ct,if_neg ak,if_neg ak,if_pos hk]
      have HE:=ah e;have en:Nm=s.name:=by rw [← HN.out,if_neg ak]
      have HQ:Hid (w3.heap[wR.heap.size+1]? = some (.cells (CU ⟨3,s.name,[],iz,[],false,dM⟩ (SB.mk none 0 none 0 none 0 none 0 none 0 none 0) aL) 57 (0,0))):=by show _=_; rw [← hk,← en]; exact HT1b.out
      obtain ⟨n1,n2⟩:=HSO.out.rows hk;have HN2:=ah n2;have k1:(s.kind == 1)=false:=by rw [hk]; rfl
      have k3:(s.kind == 3)=true:=by rw [hk]; rfl
      clear e en hk HT1b HN n2;have P0:Hid (ld (iB jQ 3) 70 1 w3 (wR+1) (fun (v:Value)=>CU ⟨3,s.name,[],iz,[],false,dM⟩ (SB.mk none 0 none 0 none 0 none 0 none 0 none 0) v) 57 w3 aL []):=⟨aj.refl _ _,HQ.out,bC.nil _ _ _ _ _ _⟩
      obtain ⟨za,hza⟩:∃ z,A.a2=z:=⟨_,rfl⟩
      have x7:w3.cell? (af wR 7)=some (.slice za s.rows.length A.c2):=by rw [← hza]; exact cell_of (i:=7) HS1.out rfl
      have HLI:Hid (bf (iB jQ 3) 1 (fun b=>b<w.heap.size) w3 za s.rows):=by show bf _ _ _ _ _ _; rw [← hza]; exact HK1.out.l5
      clear hza;obtain ⟨j1,hi',hj0',hj1',hj2'⟩:=info_parts DT;obtain ⟨j2,hi2,hj02,hj12,hj22⟩:=info_parts DU;go_wp2_with fail
      clear x7 k1 k3;go_loopw [43] (fun iv wx=>∃ (v:Value) (k:Nat) (rs:List (List Vl)),k≤s.rows.length∧iv = .int .i64 k∧Hid (rs.length=k)∧Hid (rs=(s.rows.take k).map (·.map eQ))∧Hid (ld (iB jQ 3) 70 1 w3 (wR+1) (fun (v:Value)=>CU ⟨3,s.name,[],iz,[],false,dM⟩ (SB.mk none 0 none 0 none 0 none 0 none 0 none 0) v) 57 wx v rs)) (fun iv _=>s.rows.length - (RowKit.intOf iv).toNat)
      case atStart=>exact ⟨_,0,[],Jc _,rfl,rfl,rfl,P0⟩
      case round =>
       obtain ⟨v,k,rs,hk,rfl,hlen,HL,HPI⟩:=hrel;by_cases hlk:k<s.rows.length
       ·have hjk:(k:Int)<(s.rows.length:Int):=by omega
        have HT2:Hid ((s.rows.take (k+1)).map (·.map eQ)=rs ++ [s.rows[k].map eQ]):=by show _=_; rw [JC,Je hlk,JP,← HL.out]; rfl
        have hr8:=HN2.out _ (Jk hlk);obtain ⟨b2,o2,_,rfl,t2,ar,cr,rfl,kr⟩:=(HLI.out.aM (br eU 3) (fS HPI.out.bx (fun h=>by have:wR.heap.size+1<w.heap.size:=h; omega))).get hlk;obtain ⟨av,cv,rfl⟩:=HPI.out.own.len;have z0:wr.cell? ⟨b2,o2+k,none⟩=some (.slice ar s.rows[k].length cr):=by have:=t2.2 0 _ rfl; simpa using this
        generalize s.rows[k]=r at *;have hnb:=HPI.out.own.lt;have hsy:=HPI.out.bx.size;have HKR:=ah kr;have HPJ:=ah HPI.out;clear t2 kr HL HPI;obtain ⟨wI,ewI⟩:∃ x,x=wr:=⟨_,rfl⟩
        subst ewI;go_wp2_with fail
        clear z0;go_loopw [9,49] (fun rv iv wx=>∃ (v2:Value) (m:Nat) (row:List Vl),v2=rv∧m≤r.length∧iv = .int .i64 m∧Hid (Below wI wI wx)∧Hid (row.length=m)∧Hid (row=(r.take m).map eQ)∧Hid (bC jQ 53 3 wI.heap.size (fun b=>wI.heap.size≤b) wx v2 row)) (fun _ iv _=>r.length - (RowKit.intOf iv).toNat)
        case atStart=>exact ⟨_,0,[],rfl,Jc _,rfl,I8 _ _,rfl,rfl,bC.nil _ _ _ _ _ _⟩
        case round =>
         obtain ⟨v2,m,row,rfl,hm,rfl,hxI,hrl,HRL,HRO⟩:=hrel;by_cases hlm:m<r.length
         ·have hjm:(m:Int)<(r.length:Int):=by omega
          have HT3:Hid ((r.take (m+1)).map eQ=row ++ [eQ r[m]]):=by show _=_; rw [JC,Je hlm,JP,← HRL.out]; rfl
          obtain ⟨b3,o3,_,rfl,t3,rfl⟩:=(HKR.out.aM eU ⟨hxI.out.size,fun b hb _=>hxI.out.block b (by have:b<w.heap.size:=hb; omega)⟩).get hlm;obtain ⟨aw,cw,rfl⟩:=HRO.out.len;generalize r[m]=y at *;have hrg:wr.rangeAt b3 (o3+m*3) (sq y).toList:=fun i u hu=>t3.2 i u hu
          obtain ⟨halV,QV⟩:=dZ wr (sq y) 53;have hsI:=hxI.out.size;clear t3 HRL;go_upto_region 20 with (first | (refine wpList_load_mid rfl 53 _ rfl b3 (o3+m*3) rfl (sq y).toList _ hrg Tryz.underlying53 rfl Hf ?_) | (refine aT rfl 53 _ _ rfl IL (sq y) rfl rfl Hf rfl (eh rfl) ?_))
          clear hrg;have hsV:=halV.size;have HO2:=ah (HRO.out.next eU halV);have HX2:=ah (chain hxI.out halV);clear halV HRO;generalize wr.alloc _=wv at *;have con:=tH y wv;go_wp2_with (first | (refine wpList_load_row rfl 53 _ rfl wr rfl 53 (sq y) (0,0) _ QV Tryz.underlying53 rfl Hf ?_))
          refine cR con fun w5 hb5=>?_;clear con QV;generalize eQ y=z at *;obtain ⟨halE,q9⟩:=dZ w5 (sq z) 53;have D9:=chain hb5 halE;have hs9:=D9.size;have HXE:=chain HX2.out D9;have hnr:=HO2.out.lt;obtain ⟨xs,o9,en9⟩:=HO2.out.next eU D9
          go_wp2_with (first | (at_builtin; refine aS rfl _ _ 70 rfl wI 53 j2 _ 3 32 Tryz.underlying70 hi2 hj02 hj12 hj22 rfl (by decide) _ _ _ rfl o9 (af w5 0) 1 1 (sq z).toList rfl rfl ?D1 ?D2 ?D3 ?D4 ?D5 ?_))
          (try case D1 =>
           intro i u hu;rw [bG,Jm];exact cell_of (i:=i) q9 (by rw [← hu]; simp))
          (try case D2=>first | exact fun u hu=>List.all_eq_true.1 (rfl:List.all (sq z).toList (·.oneCell')=true) u hu | exact ⟨rfl,rfl,rfl⟩ | (repeat' constructor))
          case D3=>unfold maxLen; have:=hrl.out; omega
          case D4=>have:=hrl.out; omega
          case D5=>first | exact Jj (show wI.heap.size≤wv.heap.size by have:=HX2.out.size; omega) hs9 | (have:=HX2.out.size; omega)
          intro vq w10 o10 g10 hd10;have O10:=ah (bC.push eU o9 en9 rfl (rfl:jQ _ _ z (sq z).toList) o10 g10 (by simpa using hd10));have D10:Below wI _ w10:=(I8 _ _).grown g10 (Jj (show wI.heap.size≤wv.heap.size by have:=HX2.out.size; omega) hs9) (fun q hq=>(hnr q hq).1);have HX10:=ah (HXE.trans D10);have hlen1:(row ++ [z]).length=m+1:=by rw [Jf,hrl.out]; rfl
          clear o9 en9 o10 g10 hd10 D10 HXE D9 halE q9;go_wp2_with fail
          go_roundw
          case rel=>exact ⟨vq,m+1,row ++ [z],rfl,by omega,by go_num,HX10,hlen1,HT3.out.symm,O10⟩
          case measure=>simp [RowKit.intOf]; omega
         ·have hjm:¬ (m:Int)<(r.length:Int):=by omega
          have ea:row=r.map eQ:=by rw [HRL.out,Jx ak]
          have HEA:=ah ea;clear ea;obtain ⟨a6,c6,rfl,hls⟩:=HRO.out.ls eU (fun _ h=>h);have hsI:=hxI.out.size;obtain ⟨halE,q9⟩:=dZ wr #[.slice a6 row.length c6] 70;have hsE:=halE.size;have P9:=(HPJ.out.nx (br eU 3) (Jb hg3) hxI.out)
          have x7:=cell_of (i:=7) P9.zk rfl;have P10:=P9.nx (br eU 3) (Jb hg3) halE;have KS10:=hls.nx eU halE;obtain ⟨xs,o9,en9⟩:=P10.own;clear hls HRL HRO;go_wp2_with (first | (at_builtin; refine aS rfl _ _ 51 rfl w3 70 j1 _ 1 24 Tryz.underlying51 hi' hj0' hj1' hj2' rfl (by decide) _ _ _ rfl o9 (af wr 0) 1 1 (#[.slice a6 row.length c6]).toList rfl rfl ?E1 ?E2 ?E3 ?E4 ?E5 ?_))
          (try case E1 =>
           intro i u hu;rw [bG,Jm];exact cell_of (i:=i) q9 (by rw [← hu]; simp))
          (try case E2=>first | exact fun u hu=>List.all_eq_true.1 (rfl:List.all (#[Value.slice a6 row.length c6]).toList (·.oneCell')=true) u hu | exact ⟨rfl,rfl,rfl⟩ | (repeat' constructor))
          case E3=>unfold maxLen; have:=hlen.out; omega
          case E4=>have:=hlen.out; omega
          case E5=>first | exact Jj (show w3.heap.size≤wr.heap.size by have:=hxI.out.size; omega) hsE | (have:=hxI.out.size; omega)
          intro vq w10 o10 g10 hd10;obtain ⟨B10,s10,far10,fin10⟩:=P10.push (br eU 3) hg3 o9 en9 rfl (⟨a6,c6,rfl,KS10⟩:iB jQ 3 (fun b=>wI.heap.size≤b) _ row [.slice a6 row.length c6]) (fun b h _=>⟨by have:wI.heap.size≤b:=h; omega,fun e=>by have:=(hnb b e).2; have:wI.heap.size≤b:=h; omega⟩) o10 g10 (by simpa using hd10);have fin:=fin10 7 w10 rfl (I8 _ _);have u7:=cell_of (i:=7) B10 rfl;have f7:=I0 w10 (wR+1) 7 _ _ B10;obtain ⟨aw,cw,ew⟩:=fin.own.len;have hlen1:(rs ++ [row]).length=k+1:=by rw [Jf,hlen.out]; rfl
          have HT4:Hid ((s.rows.take (k+1)).map (·.map eQ)=rs ++ [row]):=by show _=_; rw [HEA.out]; exact HT2.out
          generalize (rs ++ [row]).length=n3 at ew;subst ew;have FIN:=ah fin;clear fin fin10 far10 o10 g10 hd10 o9 en9 P10 P9 q9 x7 KS10 halE;go_wp2_with fail
          go_roundw
          case rel=>exact ⟨_,k+1,rs ++ [row],by omega,by go_num,hlen1,HT4.out.symm,FIN.out⟩
          case measure=>simp [RowKit.intOf]; omega
       ·have hjk:¬ (k:Int)<(s.rows.length:Int):=by omega
        have ea:rs=s.rows.map (·.map eQ):=by rw [HL.out,Jx ak]
        have HEA:=ah ea;clear ea;obtain ⟨a6,c6,rfl,hls⟩:=HPI.out.own.ls (br eU 3) (fun _ h=>h);have R1:Hid _:=HW1.out.trans (HPI.out.bx.jS (B:=wR.heap.size) ak);have R2:=ah HPI.out.zk;have R3:Hid (bf (iB jQ 3) 1 (fun b=>b<w.heap.size∨wR.heap.size<b∧b≠wR.heap.size+1) wr a6 rs):=hls.mono (br eU 3) (fun b h _=>.inr (by have h:w3.heap.size≤b:=h; exact ⟨by omega,by omega⟩));clear HPI hls HL P0 HLI hlen;go_wp2_with fail
        go_meet
        case rel=>exact ⟨⟨none,0,none,0,none,0,none,0,a6,c6,none,0⟩,R1,(by show _=_; rw [HE.out,← HEA.out]; exact R2.out),(by show ry _ _ _ _; rw [HE.out,← HEA.out]; exact ⟨.inl rfl,.inl rfl,.inl rfl,.inl rfl,R3.out,.nil _⟩)⟩
     ·have e:ct s=⟨4,s.name,[],iz,[],s.ax,pP s.ax s.au⟩:=by rw [ct,if_neg ak,if_neg ak,if_neg ak,if_pos hk]
      have HE:=ah e;have en:Nm=s.name:=by rw [← HN.out,if_neg ak]
      have HQ:Hid (w3.heap[wR.heap.size+1]? = some (.cells (CU ⟨4,s.name,[],iz,[],false,dM⟩ (SB.mk none 0 none 0 none 0 none 0 none 0 none 0) aL) 57 (0,0))):=by show _=_; rw [← hk,← en]; exact HT1b.out
      have HBD:=ah (HSO.out.au hk);have k1:(s.kind == 1)=false:=by rw [hk]; rfl
      have k3:(s.kind == 3)=false:=by rw [hk]; rfl
      have k4:(s.kind == 4)=true:=by rw [hk]; rfl
      clear e en hk HT1b HN;have z8:=cell_of (i:=8) HS1.out rfl;have y8:=cell_of (i:=8) HQ.out rfl;have f8:=I0 w3 (wR+1) 8 _ _ HQ.out;have Q4:=I5 w3 (wR+1) 8 _ _ s.ax HQ.out;have K4:aI (wR+1) w3 (w3.setCell (af (wR+1) 8) s.ax):=(aI.refl _ _).set _ _;have HW4:Hid _:=HW1.out.setCell (p:=af (wR+1) 8) (by show _≤wR.heap.size+1; omega) s.ax;have QS:=(K4.2 _ (lt_of_heap HS1.out) ak).trans HS1.out;have HS4:=ah QS
      have HQ4:=ah Q4;have HK4:=ah (HK1.out.l6.aM (K4.k (fun h=>by have:wR.heap.size+1<w.heap.size:=h; omega)));have z8b:=cell_of (i:=8) HS4.out rfl
      have hs4:(w3.setCell (af (wR+1) 8) s.ax).heap.size=w3.heap.size:=by simp
      clear Q4 K4 QS;go_upto_if 72 with fail
      clear z8 y8 f8 z8b k1 k3 k4;generalize w3.setCell _ _=w4 at *;rcases hs:s.ax with _ | _
      ·have e2:pP s.ax s.au=dM:=by rw [hs]; rfl
       have HE2:=ah e2;clear hs e2;go_wp2_with fail
       go_meet
       case rel=>exact ⟨(SB.mk none 0 none 0 none 0 none 0 none 0 none 0),HW4,(by show _=_; rw [HE.out,HE2.out]; exact HQ4.out),(by show ry _ _ _ _; rw [HE.out,HE2.out]; exact ⟨.inl rfl,.inl rfl,.inl rfl,.inl rfl,.inl rfl,.nil _⟩)⟩
      ·have e2:pP s.ax s.au=aO s.au:=by rw [hs]; rfl
       have HE2:=ah e2;have HBX:=ah (kO (HBD.out hs));clear hs e2;have hrx:w4.rangeAt wR 9 (bE s.au A.a3 A.c3).toList:=fun i u hu=>by
        have hi7:i<7:=by
         rcases Jw i 7 with h | h
         ·exact h
         ·rw [Jy (by simpa using h)] at hu; cases hu
        exact cell_of (i:=9+i) HS4.out (by rw [← hu]; match i,hi7 with | 0,_=>rfl | 1,_=>rfl | 2,_=>rfl | 3,_=>rfl | 4,_=>rfl | 5,_=>rfl | 6,_=>rfl)
       have con:=HBX.out A.a3 A.c3 w4 (aJ.mono (fun b h _=>by have:b<w.heap.size:=h; show b<_; omega) HK4.out);go_wp2_with (first | (refine wpList_load_mid rfl 55 _ rfl wR 9 rfl (bE s.au A.a3 A.c3).toList _ hrx Tryz.underlying55 rfl GZ ?_))
       refine con.mono ?_;rintro e w5 ⟨hb5,a',c',rfl,hks⟩;have HKS:Hid (aJ (fun b=>b<w.heap.size∨wR.heap.size<b∧b≠wR.heap.size+1) w5 a' (aO s.au).ks):=aJ.mono (fun b h _=>.inr (by have:w4.heap.size≤b:=h; exact ⟨by omega,by omega⟩)) hks;clear con hrx HBX hks;generalize aO s.au=z at *;have QT:=(hb5.block _ (lt_of_heap HQ4.out)).trans HQ4.out;have f9:=I0 w5 (wR+1) 9 _ _ QT;have g9:=cell_of (i:=9) QT rfl;have f10:=I0 w5 (wR+1) 10 _ _ QT;have g10:=cell_of (i:=10) QT rfl;have f11:=I0 w5 (wR+1) 11 _ _ QT
       have g11:=cell_of (i:=11) QT rfl;have f12:=I0 w5 (wR+1) 12 _ _ QT;have g12:=cell_of (i:=12) QT rfl;have f13:=I0 w5 (wR+1) 13 _ _ QT;have g13:=cell_of (i:=13) QT rfl;have f14:=I0 w5 (wR+1) 14 _ _ QT;have g14:=cell_of (i:=14) QT rfl;have f15:=I0 w5 (wR+1) 15 _ _ QT;have g15:=cell_of (i:=15) QT rfl;go_wp2_with fail
       obtain ⟨Q3,K3,_⟩:=sL QT z.k z.v.1 z.v.2.1 z.v.2.2 z.bp z.name (.slice a' z.ks.length c');have D3:=j7 (HW4.out.trans (hb5.mono ak)) (g:=wR.heap.size+1) ak 9 10 11 12 13 14 15 z.k z.v.1 z.v.2.1 z.v.2.2 z.bp z.name (.slice a' z.ks.length c');have J3:=HKS.out.aM (K3.k (fun h=>h.elim (fun h=>by omega) (fun h=>h.2 rfl)))
       generalize (((((((w5.setCell (af (wR+1) 9) z.k).setCell (af (wR+1) 10) z.v.1).setCell (af (wR+1) 11) z.v.2.1).setCell (af (wR+1) 12) z.v.2.2).setCell (af (wR+1) 13) z.bp).setCell (af (wR+1) 14) z.name).setCell (af (wR+1) 15) (.slice a' z.ks.length c'))=w6 at *;have R1:=ah D3;have R2:=ah Q3;have R3:=ah J3;clear Q3 K3 D3 J3 QT f9 g9 f10 g10 f11 g11 f12 g12 f13 g13 f14 g14 f15 g15;go_wp2_with fail
       go_meet
       case rel=>exact ⟨⟨none,0,none,0,none,0,none,0,none,0,a',c'⟩,R1,(by show _=_; rw [HE.out,HE2.out]; exact R2.out),(by show ry _ _ _ _; rw [HE.out,HE2.out]; exact ⟨.inl rfl,.inl rfl,.inl rfl,.inl rfl,.inl rfl,R3.out⟩)⟩
     ·have e:ct s=⟨5,eB,[],iq s.query,[],false,dM⟩:=by rw [ct,if_neg ak,if_neg ak,if_neg ak,if_neg ak]
      have HE:=ah e;have en:Nm=eB:=by rw [← HN.out,if_pos hk]
      have HQ:Hid (w3.heap[wR.heap.size+1]? = some (.cells (CU ⟨5,eB,[],iz,[],false,dM⟩ (SB.mk none 0 none 0 none 0 none 0 none 0 none 0) aL) 57 (0,0))):=by show _=_; rw [← hk,← en]; exact HT1b.out
      have HQG:Hid (zg s.query):=HSO.out.query ak;have k1:(s.kind == 1)=false:=by rw [hk]; rfl
      have k3:(s.kind == 3)=false:=by rw [hk]; rfl
      have k4:(s.kind == 4)=false:=by rw [hk]; rfl
      clear e en hk HT1b HN;have hrx:w3.rangeAt wR.heap.size 3 #[.slice A.p1 s.query.parts.length A.d1,.slice A.p2 s.query.ops.length A.d2,.slice A.p3 s.query.order.length A.d3,.int .i64 s.query.aH].toList:=fun i u hu=>by
       have hi4:i<4:=by
        rcases Jw i 4 with h | h
        ·exact h
        ·rw [Jy (by simpa using h)] at hu; cases hu
       exact cell_of (i:=3+i) HS1.out (by rw [← hu]; match i,hi4 with | 0,_=>rfl | 1,_=>rfl | 2,_=>rfl | 3,_=>rfl)
      have con:=sZ s.query (fun b=>b<w.heap.size) HQG.out A.p1 A.p2 A.p3 A.d1 A.d2 A.d3 w3 (fun b h=>by have:b<w.heap.size:=h; omega) HK1.out.l2 HK1.out.l3 HK1.out.l4;go_wp2_with (first | (refine wpList_load_mid rfl 50 _ rfl wR.heap.size 3 rfl #[.slice A.p1 s.query.parts.length A.d1,.slice A.p2 s.query.ops.length A.d2,.slice A.p3 s.query.order.length A.d3,.int .i64 s.query.aH].toList _ hrx Tryz.underlying50 rfl AR ?_))
      refine con.mono ?_;rintro e w2 ⟨hb2,r1,e1,r2,e2,r3,e3,rfl,L1,L2,L3⟩;have hs2:=hb2.size;clear con hrx HQG;have G1:bf eS 21 (fun b=>b<w.heap.size∨wR.heap.size<b∧b≠wR.heap.size+1) w2 r1 (iq s.query).parts:=L1.mono b8 (fun b h _=>h.elim .inl fun h=>.inr (by have:w3.heap.size≤b:=h; exact ⟨by omega,by omega⟩));have G2:bf lD 1 (fun b=>b<w.heap.size∨wR.heap.size<b∧b≠wR.heap.size+1) w2 r2 (iq s.query).ops:=L2.mono fv (fun b h _=>h.elim .inl fun h=>.inr (by have:w3.heap.size≤b:=h; exact ⟨by omega,by omega⟩))
      have G3:bf fu 7 (fun b=>b<w.heap.size∨wR.heap.size<b∧b≠wR.heap.size+1) w2 r3 (iq s.query).order:=L3.mono b9 (fun b h _=>h.elim .inl fun h=>.inr (by have:w3.heap.size≤b:=h; exact ⟨by omega,by omega⟩));have HG1:=ah G1;have HG2:=ah G2;have HG3:=ah G3;clear L1 L2 L3 G1 G2 G3
      generalize iq s.query=z at *;have QT:=(hb2.block _ hg3).trans HQ.out;have f3:=I0 w2 (wR+1) 3 _ _ QT;have f4:=I0 w2 (wR+1) 4 _ _ QT;have f5:=I0 w2 (wR+1) 5 _ _ QT;have f6:=I0 w2 (wR+1) 6 _ _ QT;have g3:=cell_of (i:=3) QT rfl;have g4:=cell_of (i:=4) QT rfl;have g5:=cell_of (i:=5) QT rfl;have g6:=cell_of (i:=6) QT rfl;go_wp2_with fail
      obtain ⟨Q3,K3,_⟩:=oV QT (.slice r1 z.parts.length e1) (.slice r2 z.ops.length e2) (.slice r3 z.order.length e3) z.aH;have D2:=HW1.out.trans (hb2.mono hw3);have D3:=(((D2.setCell (p:=af (wR+1) 3) (by show _≤wR.heap.size+1; omega) (.slice r1 z.parts.length e1)).setCell (p:=af (wR+1) 4) (by show _≤wR.heap.size+1; omega) (.slice r2 z.ops.length e2)).setCell (p:=af (wR+1) 5) (by show _≤wR.heap.size+1; omega) (.slice r3 z.order.length e3)).setCell (p:=af (wR+1) 6) (by show _≤wR.heap.size+1; omega) z.aH
      have KK:ay (fun b=>b<w.heap.size∨wR.heap.size<b∧b≠wR.heap.size+1) w2 _:=K3.k (fun h=>h.elim (fun h=>by omega) (fun h=>h.2 rfl));have R1:=ah D3;have R2:=ah Q3;have R3:=ah (bf.aM b8 KK HG1.out);have R4:=ah (bf.aM fv KK HG2.out);have R5:=ah (bf.aM b9 KK HG3.out);clear Q3 K3 D2 D3 KK f3 f4 f5 f6 g3 g4 g5 g6 QT HG1 HG2 HG3
      generalize ((((w2.setCell (af (wR+1) 3) (.slice r1 z.parts.length e1)).setCell (af (wR+1) 4) (.slice r2 z.ops.length e2)).setCell (af (wR+1) 5) (.slice r3 z.order.length e3)).setCell (af (wR+1) 6) z.aH)=w4 at *;go_wp2_with fail
      go_meet
      case rel=>exact ⟨⟨none,0,r1,e1,r2,e2,r3,e3,none,0,none,0⟩,R1,(by show _=_; rw [HE.out]; exact R2.out),(by show ry _ _ _ _; rw [HE.out]; exact ⟨.inl rfl,R3.out,R4.out,R5.out,.inl rfl,.nil _⟩)⟩
    case rest =>
     obtain ⟨B,HW2,HT2,HL2⟩:=hcut;obtain ⟨w5,ew⟩:∃ x,x=wc:=⟨_,rfl⟩
     subst ew;clear HW1 HS1 HK1 HT1b HN HSO;generalize ct s=z at *;have hs5:=HW2.out.size;have hnb:=HO.out.lt;have QZ:=HT2.out;have q9:=aD w5 (kt z B) 57;have halE:=bR w5 (.cells (kt z B) 57);have hsE:=halE.size;have KE:=HL2.out.nx halE;have D9:=HW2.out.trans (halE.mono ak);have HXE:=chain hx.out D9;obtain ⟨xs,o9,en9⟩:=HO.out.next bJ D9
     go_wp2_with (first | (refine wpList_load_row rfl 57 _ rfl (wR+1) rfl 57 (kt z B) (0,0) _ QZ Tryz.underlying57 rfl dB ?_) | (at_builtin; refine aS rfl _ _ 22 rfl w 57 i0 _ 16 256 Tryz.underlying22 hi hj0 hj1 hj2 rfl (by decide) _ _ _ rfl o9 (af w5 0) 1 1 (kt z B).toList rfl rfl ?F1 ?F2 ?F3 ?F4 ?F5 ?_))
     (try case F1 =>
      intro i u hu;rw [bG,Jm];exact cell_of (i:=i) q9 (by rw [← hu]; simp))
     (try case F2=>first | exact fun u hu=>List.all_eq_true.1 (rfl:List.all (kt z B).toList (·.oneCell')=true) u hu | exact ⟨rfl,rfl,rfl⟩ | (repeat' constructor))
     case F3=>unfold maxLen; have:=hacc.out; omega
     case F4=>have:=hacc.out; omega
     case F5=>first | exact Jj (show w.heap.size≤w5.heap.size by omega) hsE | (omega)
     intro vq w10 o10 g10 hd10;have O10:Hid (bC cy 57 16 w.heap.size (fun _=>True) w10 vq (acc ++ [z])):=bC.push bJ o9 en9 rfl (bJ.mono (fun b h1 h2=>⟨trivial,h2,fun e=>by have:=hnb b e; rcases h1 with h | h <;> omega⟩) KE.en) o10 g10 (by simpa using hd10);have D10:Below w _ w10:=(I8 _ _).grown g10 (Jj (show w.heap.size≤w5.heap.size by omega) hsE) (fun q hq=>(hnb q hq).1);have HX10:=ah (HXE.trans D10);have hlen1:(acc ++ [z]).length=j+1:=by rw [Jf,hacc.out]; rfl
     clear o9 en9 o10 g10 hd10 D10 HXE D9 halE q9 KE QZ;go_wp2_with fail
     go_roundw
     case rel=>exact ⟨vq,j+1,acc ++ [z],rfl,by omega,by go_num,HX10,hlen1,HT1.out.symm,O10⟩
     case measure=>simp [RowKit.intOf]; omega
  ·have hjz:¬ (j:Int)<(l.length:Int):=by omega
   have ea:acc=l.map ct:=by rw [HA.out,Jx ak]
   have HE:=ah ea;clear ea HA;obtain ⟨a',c',rfl,hls⟩:=HO.out.ls bJ (fun _ _=>trivial);have HS:=ah hls;have hxo:=hx.out;clear hls HO;go_wp2_with fail
   exact I7 (v:=.slice a' acc.length c') (by simp [results,Tryz.results14,go_sem]) rfl ⟨hxo,a',c',by rw [← HE.out],by rw [← HE.out]; exact HS.out⟩
end Go.Proofs.YtoknmnngaackkaaGreatDoor
namespace Go.Proofs.YtoknmnngaackkaaGreatDoor
set_option maxRecDepth 100000
set_option maxHeartbeats 16000000
set_option maxRecDepth 100000
set_option maxHeartbeats 1000000
abbrev mW (x:SX):Prop:=aO x=x
abbrev Cl {α:Type} (P:α→Prop) (l:List α):Prop:=∀ x ∈ l,P x
theorem jd {α:Type} {f:α→α} {l:List α} (h:∀ x ∈ l,f x=x):l.map f=l:=by
 induction l with
 | nil=>rfl
 | cons x r ih=>rw [JI,h x (by simp),ih fun y hy=>h y (by simp [hy])]
theorem lI {k:Int} {l:List SX} (h:Cl mW l):mW (nd k l):=by
 show aO (.mk k v0 eB eB l) = .mk k v0 eB eB l;have e:(if k=1 then eQ v0 else ((0,0,eB):Vl))=v0:=by split <;> rfl
 have e2:(if k=2 then eB else eB)=eB:=by split <;> rfl
 rw [aO,jF,jd h,e,e2]
theorem wV (n m:ByteArray):mW (.mk 2 v0 n m []):=by
 show aO _=_;rw [aO,kh]; rfl
theorem CH {v:Vl} (h:eQ v=v):mW (.mk 1 v eB eB []):=by
 show aO _=_;rw [aO,kh,h]; rfl
theorem kK {α:Type} {P:α→Prop} {l:List α} {x:α} (h:Cl P l) (hx:P x):Cl P (l ++ [x]):=fun y hy=>by
 rcases List.mem_append.1 hy with h1 | h1
 ·exact h y h1
 ·simp at h1; subst h1; exact hx
theorem kT {α:Type} {P:α→Prop} {x:α} (hx:P x):Cl P [x]:=by simpa [Cl] using hx
theorem sH:aQ (fun v:Vl=>eQ v=v) cY:=by
 refine .of (fun _=>rfl) (aQ.fM ⟨fun H=>by cases H; rfl⟩ (aQ.fM (.ok fun _=>rfl) (aQ.fM (.ok fun _=>rfl) (aQ.fM (.ok fun _=>rfl) (aQ.aK (Q:=Any) .any fun _ _=>aQ.one <| rfl)))))
theorem yD {x:SX} (h:mW x):aQ mW (fF x):=by
 refine ⟨fun {ts y r} H=>?_⟩;unfold fF at H;refine (aQ.aK (f:=fun ts=>aV [⟨#[110,117,108,108]⟩] ts) (k:=fun _ r=>.ok (if bK ⟨#[110,111,116]⟩ ts then nd 3 [nd 16 [x]] else nd 16 [x],r)) (Q:=Any) aQ.any (fun _ _=>aQ.one ?_)).h H;have h1:mW (nd 16 [x]):=lI (kT h)
 split
 ·exact lI (kT h1)
 ·exact h1
theorem uV:aQ mW dD:=.of (fun _=>rfl) (aQ.aK (Q:=Any) .any fun _ _=>aQ.fM (aQ.aK (f:=fun r=>dt (aC r)) (Q:=Any) .any fun _ _=>aQ.one <| wV _ _) (aQ.one <| wV _ _))
structure IJ (n:Nat):Prop where
 expr:∀ o,aQ mW (dy n o)
 level:∀ l o,aQ mW (dj n l o)
 chain:∀ l o,aQ mW (cd n l o)
 loop:∀ l o x,mW x→aQ mW (fI n l o x)
 kM:∀ o,aQ mW (cJ n o)
 kI:∀ o,aQ mW (b7 n o)
 piece:∀ o,aQ mW (cI n o)
 behind:∀ o l,aQ (Cl mW) (cB n o l)
 exprs:∀ o l acc,(∀ x ∈ acc,mW x)→aQ (Cl mW) (dk n o l acc)
 agg:∀ k o,aQ mW (ia n k o)
theorem Bn {k:Int} {x:SX} (h:mW x):mW (nd k [x]):=lI (kT h)
theorem BX {k:Int} {x y:SX} (h:mW x) (h2:mW y):mW (nd k [x,y]):=lI (kK (kT h) h2)
theorem Ir:∀ n,IJ n
 | 0=>by
  constructor <;> intros
  ·exact .of (fun _=>by rw [dy]) (.err (g:=fun _=>(-1,0)))
  ·exact .of (fun _=>by rw [dj]) (.err (g:=fun _=>(-1,0)))
  ·exact .of (fun _=>by rw [cd]) (.err (g:=fun _=>(-1,0)))
  ·exact .of (fun _=>by rw [fI]) (.err (g:=fun _=>(-1,0)))
  ·exact .of (fun _=>by rw [cJ]) (.err (g:=fun _=>(-1,0)))
  ·exact .of (fun _=>by rw [b7]) (.err (g:=fun _=>(-1,0)))
  ·exact .of (fun _=>by rw [cI]) (.err (g:=fun _=>(-1,0)))
  ·exact .of (fun _=>by rw [cB]) (.err (g:=fun _=>(-1,0)))
  ·exact .of (fun _=>by rw [dk]) (.err (g:=fun _=>(-1,0)))
  ·exact .of (fun _=>by rw [ia]) (.err (g:=fun _=>(-1,0)))
 | n+1=>by
  have ih:=Ir n
  constructor
  ·intro o; exact .of (fun _=>by rw [dy]) (aQ.fM (c:=fun _=>o+1 > 100) .err (ih.chain _ _))
  ·intro l o; exact .of (fun _=>by rw [dj]) (aQ.fM (c:=fun _=>l=3) (ih.kM _) (aQ.fM (c:=fun _=>l=8) (ih.piece _) (ih.chain _ _)))
  ·intro l o; exact .of (fun _=>by rw [cd]) (aQ.aK (ih.level _ _) fun x hx=>ih.loop _ _ _ hx)
  ·intro l o x hx
   refine ⟨fun {ts y r} H=>?_⟩
   rw [fI] at H
   split at H
   ·cases H; exact hx
   ·exact (aQ.aK (f:=fun ts=>dj n (l+1) o (cC l ts).2) (k:=fun y r=>fI n l o (nd (cC l ts).1 [x,y]) r) (ih.level _ _).pass (fun y hy=>ih.loop _ _ _ (BX hx hy))).h H
  ·intro o
   refine ⟨fun {ts y r} H=>?_⟩
   rw [cJ] at H
   exact (aQ.fM (c:=fun ts=>bK ⟨#[110,111,116]⟩ ts=true) (f:=fun ts=>aK (if o+1 > 100 then .error (4,iI (aC ts)) else cJ n (o+1) (aC ts)) fun x r=>.ok (nd 3 [x],r)) (g:=fun ts=>b7 n o ts) (aQ.aK (f:=fun ts=>if o+1 > 100 then .error (4,iI (aC ts)) else cJ n (o+1) (aC ts)) (aQ.fM (c:=fun _=>o+1 > 100) .err (ih.kM _).pass) fun x hx=>aQ.one <| Bn hx) (ih.kI _)).h H
  ·intro o
   refine ⟨fun {ts y r} H=>?_⟩
   rw [b7] at H
   refine (aQ.aK (f:=fun ts=>cd n 5 o ts) (ih.chain _ _) (fun x hx=>?_)).h H
   refine aQ.fM (yD hx).pass ⟨fun {ts y r} H=>?_⟩
   split at H
   ·cases H; exact hx
   ·exact (aQ.aK (f:=fun r=>cd n 5 o (cC 4 r).2) (k:=fun y r2=>.ok (nd (cC 4 ts).1 [x,y],r2)) (ih.chain _ _).pass (fun y hy=>aQ.one <| BX hx hy)).h H
  ·intro o
   exact .of (fun _=>by rw [cI]) (aQ.fM (aQ.aK sH fun _ h=>aQ.one <| CH h) (aQ.fM (aQ.aK (f:=fun ts=>dy n o (aC ts)) (ih.expr _).pass fun x hx=>aQ.aK (Q:=Any) .any fun _ _=>aQ.one <| hx) (aQ.fM (aQ.aK (f:=fun ts=>cB n o _ (aC ts)) (ih.behind _ _).pass fun x hx=>aQ.one <| lI hx) (aQ.fM (aQ.aK (f:=fun ts=>cB n o _ (aC ts)) (ih.behind _ _).pass fun x hx=>aQ.one <| lI hx) (aQ.fM (ih.agg _ _).pass (aQ.fM (ih.agg _ _).pass (aQ.fM (ih.agg _ _).pass (aQ.fM (ih.agg _ _).pass uV))))))))
  ·intro o l
   cases l with
   | nil=>exact .of (fun _=>by rw [cB]) (.err (g:=fun _=>(-1,0)))
   | cons s l=>exact .of (fun _=>by rw [cB]) (aQ.aK (Q:=Any) .any fun _ _=>ih.exprs _ _ _ (by simp))
  ·intro o l acc ha
   cases l with
   | nil=>exact .of (fun _=>by rw [dk]) (aQ.one <| ha)
   | cons s l=>exact .of (fun _=>by rw [dk]) (aQ.aK (ih.expr _) fun x hx=>aQ.aK (Q:=Any) .any fun _ _=>ih.exprs _ _ _ (kK ha hx))
  ·intro k o
   exact .of (fun _=>by rw [ia]) (aQ.aK (Q:=Any) .any fun _ _=>aQ.fM (c:=fun ts=>k=20∧bK ⟨#[42]⟩ ts=true) (aQ.aK (f:=fun r=>aV [⟨#[41]⟩] (aC r)) (Q:=Any) .any fun _ _=>aQ.one <| lI (fun _ h=>by cases h)) (aQ.aK (ih.expr _) fun x hx=>aQ.aK (Q:=Any) .any fun _ _=>aQ.one <| Bn hx))
theorem uP:aQ mW eP:=(Ir DZ).expr 0
theorem Ad {α:Type} {P:α→Prop} {one:List Tk→PR α} (h:aQ P one) {most:Int}:∀ n acc,(∀ x ∈ acc,P x)→aQ (Cl P) (bL one most n acc)
 | 0,acc,_=>.of (fun _=>by rw [bL]) (.err (g:=fun _=>(-1,0)))
 | n+1,acc,ha=>by
  refine ⟨fun {ts y r} H=>?_⟩
  rw [bL] at H
  split at H
  ·split at H
   ·cases H
   ·exact (aQ.aK (f:=fun ts=>one (aC ts)) h.pass (fun x hx=>Ad h n _ (kK ha hx))).h H
  ·cases H; exact ha
theorem jI {α:Type} {P:α→Prop} {one:List Tk→PR α} (h:aQ P one) {most:Int} (n:Nat):aQ (Cl P) (cu one most n):=.of (fun _=>rfl) (aQ.aK h fun x hx=>Ad h n [x] (kT hx))
theorem jx (s:ByteArray):aQ (fun x:Bool × SX=>pP x.1 x.2=x.2) (bO s):=.of (fun _=>rfl) (aQ.fM (aQ.aK (f:=fun ts=>eP (aC ts)) uP.pass fun _x hx=>aQ.one <| hx) (aQ.one <| rfl))
theorem DJ:aQ (fun x:kx=>(aO x.1,x.2)=x) gH:=.of (fun _=>rfl) (aQ.aK uP fun _x hx=>aQ.aK (Q:=Any) .any fun _ _=>aQ.one <| by show (aO _x,_)=_; rw [hx])
theorem yd (k:Int):aQ (fun x:Src=>x.on=dM) (fC k):=.of (fun _=>rfl) (aQ.aK (Q:=Any) .any fun _ _=>aQ.aK (Q:=Any) .any fun _ _=>aQ.one <| rfl)
theorem oZ (b:Bool):∀ n acc,bF b acc=acc→acc ≠ []→aQ (fun l=>bF b l=l) (cz n acc)
 | 0,acc,_,_=>.of (fun _=>by rw [cz]) (.err (g:=fun _=>(-1,0)))
 | n+1,acc,ha,hn=>.of (fun _=>by rw [cz]) (aQ.aK (Q:=Any) .any fun kind _=>by
  by_cases hlt:(acc.length:Int) ≥ 4
  ·exact aQ.fM (c:=fun _=>kind=0) (aQ.one <| ha) (.of (fun _=>if_pos hlt) (.err (g:=fun r=>(5,iI r))))
  ·exact aQ.fM (c:=fun _=>kind=0) (aQ.one <| ha) (.of (fun _=>if_neg hlt) (aQ.aK (Q:=Any) .any fun s _=>aQ.aK (Q:=Any) .any fun _ _=>aQ.aK uP fun x hx=>oZ b n _ (by
    have:∀ (l:List Src) (b:Bool),l ≠ []→bF b (l ++ [{ s with on:=x }])=bF b l ++ [{ s with on:=x }]:=by
     intro l
     induction l with
     | nil=>intro _ h; exact absurd rfl h
     | cons y r ih =>
      intro b _;cases r with
      | nil=>rw [Ju,bF,Jq,bF,bF,bF,bF]; show _ :: [eN false _]=_ :: [_]; unfold eN; simp only [Jd,if_false,hx]
      | cons z t =>
       show eN b y :: bF false ((z :: t) ++ [_])=(eN b y :: bF false (z :: t)) ++ [_];rw [ih false (by simp)];rfl
    rw [this acc b hn,ha]) (by simp))))
theorem vT:aQ (fun l=>bF true l=l) ez:=.of (fun _=>rfl) (aQ.aK (yd 1) fun s hs=>oZ true 5 [s] (by rw [bF,bF]; unfold eN; simp only [if_true]; rw [← hs]) (by simp))
theorem AD:aQ (Cl mW) gV:=.of (fun _=>rfl) (aQ.fM (aQ.aK (f:=fun ts=>aV _ (aC ts)) (Q:=Any) .any fun _ _=>jI uP _) (aQ.one fun _ h=>by cases h))
theorem Bf (st:Bool):aQ (fun l:List kx=>(if st then [] else l.map fun i=>(aO i.1,i.2))=l) (gU st):=by
 cases st
 ·exact .of (fun _=>rfl) ⟨fun H=>jd ((jI DJ _).h H)⟩
 ·exact .of (fun _=>rfl) (aQ.one <| rfl)
theorem nC:aQ (fun s=>dq s=s) db:=by
 refine .of (fun _=>rfl) (aQ.aK (Q:=Any) .any fun _ _=>?_);refine ⟨fun {ts x r} H=>?_⟩;dsimp only at H;generalize bK ⟨#[100,105,115,116,105,110,99,116]⟩ ts=di at H;generalize (if di=true then aC ts else ts)=r1 at H;generalize bK ⟨#[42]⟩ r1=st at H;generalize (if st=true then aC r1 else r1)=r2 at H;rcases hI:gU st r2 with e | ⟨its,r3⟩
 ·rw [hI] at H; cases H
 ·rw [hI] at H;have h1:=(Bf st).h hI;exact (aQ.aK (P:=fun s=>dq s=s) (f:=fun ts=>aV _ ts) (Q:=Any) .any fun _ _=>aQ.aK vT fun fs h2=>aQ.aK (jx _) fun hw h3=>aQ.aK AD fun gs h4=>aQ.aK (jx _) fun hh h5=>aQ.one (x:=(⟨di,st,its,fs,hw.1,hh.1,hw.2,hh.2,gs⟩:dO)) (by
   show dO.mk _ _ _ _ _ _ _ _ _=dO.mk _ _ _ _ _ _ _ _ _;rw [h1,h2,h3,h5,jd h4])).h H
theorem tp:∀ n ps (ops:List Int),(∀ x ∈ ps,dq x=x)→aQ (fun x:List dO × List Int=>x.1.map dq=x.1) (cD n ps ops)
 | 0,_,_,_=>.of (fun _=>by rw [cD]) (.err (g:=fun _=>(-1,0)))
 | n+1,ps,ops,h3=>by
  refine ⟨fun {ts x r} H=>?_⟩
  rw [cD] at H
  split at H
  ·cases H; exact jd h3
  ·split at H
   ·cases H
   ·exact (aQ.aK (f:=fun ts=>db (bo ts).2) (k:=fun s r=>cD n (ps ++ [s]) (ops ++ [(bo ts).1]) r) nC.pass (fun s hs=>tp n _ _ (kK h3 hs))).h H
theorem zh:aQ (fun n:Int=>0≤n) (dv 0 50):=by
 refine ⟨fun {ts x r} H=>?_⟩;unfold dv at H;dsimp only at H;generalize (if bK ⟨#[45]⟩ ts=true then aC ts else ts)=t1 at H;by_cases h1:(cg t1).1≠2
 ·rw [if_pos h1] at H; cases H
 ·rw [if_neg h1] at H;generalize (if bK ⟨#[45]⟩ ts=true then -bS (cg t1).2.1 else bS (cg t1).2.1)=m at H;by_cases h2:m<0∨50<m
  ·rw [if_pos h2] at H; cases H
  ·rw [if_neg h2] at H; cases H; omega
theorem uS:aQ (fun q=>iq q=q) gn:=.of (fun _=>rfl) (aQ.aK nC fun s hs=>aQ.aK (tp _ _ _ (kT hs)) fun po hp=>aQ.fM (aQ.aK (f:=fun ts=>aV _ (aC ts)) (Q:=Any) .any fun _ _=>aQ.aK (jI uP _) fun l hl=>aQ.aK (Q:=Any) .any fun _ _=>aQ.aK zh fun n hn=>aQ.one <| by
  show kf.mk (po.1.map dq) po.2 (if 0≤n then l.map aO else []) (if 0≤n then n else -1)=kf.mk _ _ _ _
  rw [hp,if_pos hn,if_pos hn,jd hl]) (aQ.one <| by
  show kf.mk (po.1.map dq) po.2 _ _=kf.mk _ _ _ _
  rw [hp]; rfl))
theorem vL:aQ (fun s=>ct s=s) fZ:=.of (fun _=>rfl) (aQ.fM (aQ.aK (f:=fun ts=>dt (aC ts)) (Q:=Any) .any fun _ _=>aQ.aK (Q:=Any) .any fun _ _=>aQ.aK uS fun x hx=>aQ.one <| by show cM.mk 2 _ _ (iq x) _ _ _=_; rw [hx]) (aQ.aK (Q:=Any) .any fun _ _=>aQ.aK (Q:=Any) .any fun _ _=>aQ.aK (Q:=Any) .any fun _ _=>aQ.aK (Q:=Any) .any fun l hl=>aQ.aK (Q:=Any) .any fun _ _=>aQ.one <| rfl))
theorem EB:aQ (fun r:List Vl=>r.map eQ=r) jJ:=.of (fun _=>rfl) (aQ.aK (Q:=Any) .any fun _ _=>aQ.aK (jI sH _) fun _l hl=>aQ.aK (Q:=Any) .any fun _ _=>aQ.one <| jd hl)
theorem sP:aQ (fun s=>ct s=s) fD:=.of (fun _=>rfl) (aQ.aK (Q:=Any) .any fun _ _=>aQ.aK (Q:=Any) .any fun _ _=>aQ.aK (Q:=Any) .any fun _ _=>aQ.aK (jI EB _) fun l hl=>aQ.one <| by show cM.mk 3 _ _ _ (l.map (·.map eQ)) _ _=_; rw [jd hl])
theorem vI:aQ (fun s=>ct s=s) gL:=.of (fun _=>rfl) (aQ.aK (Q:=Any) .any fun _ _=>aQ.aK (Q:=Any) .any fun _ _=>aQ.aK (jx _) fun hw h=>aQ.one <| by show cM.mk 4 _ _ _ _ _ (pP hw.1 hw.2)=_; rw [h])
theorem rZ:aQ (fun s=>ct s=s) cZ:=.of (fun _=>rfl) (aQ.fM vL.pass (aQ.fM sP.pass (aQ.fM vI.pass (aQ.fM (aQ.aK (f:=fun ts=>gn (aC ts)) uS.pass fun x hx=>aQ.one <| by show cM.mk 5 _ _ (iq x) _ _ _=_; rw [hx]) .err))))
theorem lq:∀ n acc,(∀ x ∈ acc,ct x=x)→aQ (fun l=>l.map ct=l) (bM n acc)
 | 0,_,_=>.of (fun _=>by rw [bM]) (.err (g:=fun _=>(-1,0)))
 | n+1,acc,h2=>by
  refine ⟨fun {ts x r} H=>?_⟩
  rw [bM] at H
  split at H
  ·cases H; exact jd h2
  ·split at H
   ·cases H
   ·exact (aQ.aK (f:=fun ts=>cZ ts) (k:=fun s r=>aK (aV [⟨#[59]⟩] r) fun _ r2=>bM n (acc ++ [s]) r2) rZ (fun s hs=>aQ.aK (Q:=Any) .any fun _ _=>lq n _ (kK h2 hs))).h H
theorem yw {s:ByteArray} {l:List cM} (h:da s = .ok l):l.map ct=l:=by
 obtain ⟨_,ts,r,_,h2,_⟩:=oy h;exact (lq 61 [] (by simp)).h h2
end Go.Proofs.YtoknmnngaackkaaGreatDoor
namespace Go.Proofs.YtoknmnngaackkaaGreatDoor
open Go.RowKit Go.Lib Go.Shelf
set_option maxRecDepth 100000
set_option maxHeartbeats 16000000
set_option maxRecDepth 100000
set_option maxHeartbeats 4000000
theorem qS {g:SX→Int→Int × Int}:∀ {l:List SX} {n:Int},(gS g l n).1=0→∀ y ∈ l,∃ m,(g y m).1=0
 | [],_,_=>by simp
 | x :: r,n,h=>by
  rw [gS] at h
  by_cases e:(g x n).1=0
  ·rw [if_pos e] at h
   intro y hy
   rcases List.mem_cons.1 hy with rfl | hy
   ·exact ⟨n,e⟩
   ·exact qS h y hy
  ·rw [if_neg e] at h; exact absurd h e
theorem sA:∀ (f:Nat) (x:SX) (d n:Int),(fe f x d n).1=0→gA x
 | 0,_,_,_,h=>by rw [fe] at h; exact absurd (show (4:Int)=0 from h) (by decide)
 | f+1,x,d,n,h=>by
  rw [fe] at h
  split at h
  ·exact absurd (show (4:Int)=0 from h) (by decide)
  split at h
  ·exact absurd (show (1:Int)=0 from h) (by decide)
  split at h
  ·exact absurd (show (5:Int)=0 from h) (by decide)
  split at h
  ·rename_i h1 h2; exact absurd h h2
  ·rename_i h3 _
   have h3:x.ks.length=eX x.k:=by simpa using h3
   have hk:eX x.k≤3:=by unfold eX; split <;> (try split) <;> (try split) <;> omega
   have hall:=qS h
   obtain ⟨k,v,t,nm,ks⟩:=x
   exact .mk (by have:ks.length=eX k:=h3; have:eX k≤3:=hk; omega) (fun y hy=>by obtain ⟨m,hm⟩:=hall y hy; exact sA f y _ m hm)
theorem iN {x:SX} (h:eR x=0):gA x:=sA 21 x 1 0 h
theorem xw:∀ {l:List Src} {b:Bool},dc b l=0→∀ (i:Nat) (h:i<l.length),(b=true→i≠0)→gA l[i].on
 | [],_,_,i,h,_=>by simp at h
 | x :: r,b,h,i,hi,hb=>by
  rw [dc] at h
  obtain ⟨h1,h2⟩:=eY h
  cases i with
  | zero =>
   cases b
   ·unfold eI at h1
    obtain ⟨_,h3⟩:=eY h1
    obtain ⟨_,h3⟩:=eY h3
    obtain ⟨_,h3⟩:=eY h3
    obtain ⟨h3,_⟩:=eY h3
    exact iN h3
   ·exact absurd rfl (hb rfl)
  | succ i=>exact xw h2 i (by simpa using hi) (fun e=>by cases e)
theorem FY {x:dO} (h:lZ x):BS x :=
 ⟨⟨by have:=h.group.2; omega,fun y hy=>iN (h.group.1 y hy)⟩,fun hs=>⟨by have:=(h.items hs).2.2; omega,fun i hi=>iN ((h.items hs).1 i hi).1⟩,⟨by have:=h.src.2.2; omega,fun i hi hn=>xw h.src.1 i hi (fun _=>hn)⟩,
  fun hw=>iN (by have:=h.au; rw [hw] at this; exact this),fun hw=>iN (by have:=h.az; rw [hw] at this; exact this)⟩
theorem Hl {q:kf} (h:FP q):zg q :=
 ⟨by have:=h.parts.2.1; omega,fun h0=>⟨by have:=(h.order h0).2.2; omega,fun x hx=>iN ((h.order h0).1 x hx)⟩,fun s hs=>FY (h.parts.2.2 s hs)⟩
theorem Hs {x:cM} (h:iQ x=0):yi x :=
 have o:=FA h
 ⟨o.kind,fun hk=>Hl (o.query hk),fun hk=>⟨(o.rows hk).2.2,fun r hr=>((o.rows hk).1 r hr).2.2⟩,fun hk hw=>iN (by have:=o.au hk; rw [hw] at this; exact this)⟩
theorem vB {l:List cM} (h:(cL l).1=0):l.length≤60∧∀ x ∈ l,yi x:=⟨(fE h).1,fun x hx=>Hs ((fE h).2 x hx)⟩
theorem CQ {s:ByteArray} (h:(jL (da s)).1=0):da s = .ok (fN (da s)):=by
 rcases hr:da s with c | l
 ·rw [hr] at h; exact absurd h (At hr)
 ·rfl
theorem tC {s:ByteArray} {a:List cM} (h:da s = .ok a):nF sQ a:=by
 obtain ⟨_,ts,r,_,h2,_⟩:=oy h;exact (lh 61 [] (by simp) (by simp)).h h2
theorem vY {l:List cM} (h:(bW l).2.1=0):nF sQ (l.map ct):=tC (jR h)
theorem Cr {l:List cM} (h:(cL l).1=0):(bW l).2.1=0∨(bW l).2.1=4:=by
 unfold bW;rw [if_neg (by simpa using h)];cases iZ [] l
 ·exact .inr rfl
 ·exact .inl rfl
theorem cy.size {S:Nat→Prop} {W:World} {x:cM} {V:Array Value} (h:cy S W x V.toList):V.size=16∧V.all (·.oneCell')=true:=by
 obtain ⟨a1,c1,p1,d1,p2,d2,p3,d3,a2,c2,a3,c3,e,_⟩:=h;have:V=_:=Array.ext' (ys:=(hJ x.kind x a1 c1 p1 d1 p2 d2 p3 d3 a2 c2 a3 c3)) e;subst this;exact ⟨rfl,eh rfl⟩
theorem uF {V:Array Value} (h:V.size=16):∃ v0 v1 v2 v3 v4 v5 v6 v7 v8 v9 v10 v11 v12 v13 v14 v15,V = #[v0,v1,v2,v3,v4,v5,v6,v7,v8,v9,v10,v11,v12,v13,v14,v15]:=by
 obtain ⟨l⟩:=V
 match l,h with
 | [v0,v1,v2,v3,v4,v5,v6,v7,v8,v9,v10,v11,v12,v13,v14,v15],_=>exact ⟨v0,v1,v2,v3,v4,v5,v6,v7,v8,v9,v10,v11,v12,v13,v14,v15,rfl⟩
theorem py (x:cM) {w:World} (V:Array Value) (hV:cy (fun b=>b<w.heap.size) w x V.toList) (hG:GP w w):Calls Tryz.prog 23 #[.agg V] w fun e w'=>Below w w w'∧e = .returned (.tuple #[.string (bW [x]).1,.int .i64 (bW [x]).2.1]):=by
 generalize hR:bW [x]=R;have HR:=ah hR;clear hR;obtain ⟨hs,h1⟩:=cy.size hV;obtain ⟨v0,v1,v2,v3,v4,v5,v6,v7,v8,v9,v10,v11,v12,v13,v14,v15,rfl⟩:=uF hs;have hal:=bR w (.cells #[v0,v1,v2,v3,v4,v5,v6,v7,v8,v9,v10,v11,v12,v13,v14,v15] 57)
 have hal2:Below (w.alloc (.cells #[v0,v1,v2,v3,v4,v5,v6,v7,v8,v9,v10,v11,v12,v13,v14,v15] 57)).heap.size (w.alloc (.cells #[v0,v1,v2,v3,v4,v5,v6,v7,v8,v9,v10,v11,v12,v13,v14,v15] 57)) ((w.alloc (.cells #[v0,v1,v2,v3,v4,v5,v6,v7,v8,v9,v10,v11,v12,v13,v14,v15] 57)).alloc (.cells #[v0,v1,v2,v3,v4,v5,v6,v7,v8,v9,v10,v11,v12,v13,v14,v15] 57)):=bR ..;have q2:=aD (w.alloc (.cells #[v0,v1,v2,v3,v4,v5,v6,v7,v8,v9,v10,v11,v12,v13,v14,v15] 57)) #[v0,v1,v2,v3,v4,v5,v6,v7,v8,v9,v10,v11,v12,v13,v14,v15] 57
 have e1:(w.alloc (.cells #[v0,v1,v2,v3,v4,v5,v6,v7,v8,v9,v10,v11,v12,v13,v14,v15] 57)).heap.size=w.heap.size+1:=by simp
 rw [e1] at q2;have hb2:=chain hal hal2;have hs2:=lt_of_heap q2;have HG:=ah (hG.up hb2 (I6 _) hb2.size)
 have HL:Hid (bf cy 16 (fun b=>b<((w.alloc (.cells #[v0,v1,v2,v3,v4,v5,v6,v7,v8,v9,v10,v11,v12,v13,v14,v15] 57)).alloc (.cells #[v0,v1,v2,v3,v4,v5,v6,v7,v8,v9,v10,v11,v12,v13,v14,v15] 57)).heap.size) ((w.alloc (.cells #[v0,v1,v2,v3,v4,v5,v6,v7,v8,v9,v10,v11,v12,v13,v14,v15] 57)).alloc (.cells #[v0,v1,v2,v3,v4,v5,v6,v7,v8,v9,v10,v11,v12,v13,v14,v15] 57)) (some (af (w+1) 0)) [x]):=by
  refine .inr ⟨w.heap.size+1,0,rfl,hs2,hs2,fun i hi=>?_⟩;obtain rfl:i=0:=by simpa using hi
  refine ⟨[v0,v1,v2,v3,v4,v5,v6,v7,v8,v9,v10,v11,v12,v13,v14,v15],rfl,fun j u hu=>?_,bJ.mono (fun b hb _=>Ja hb hb2.size) (bJ.next (ay.of hb2) hV)⟩;have:=cell_of (i:=j) (v:=u) q2 (by simpa using hu)
  simpa using this
 clear hal hal2 e1 hs2 hG;have hal:=hb2;have q1:=aD w #[v0,v1,v2,v3,v4,v5,v6,v7,v8,v9,v10,v11,v12,v13,v14,v15] 57;go_enter Tryz.func23,Tryz.ntmps23;go_wp2_with (first | (refine wpList_load_row rfl 57 _ rfl w rfl 57 #[v0,v1,v2,v3,v4,v5,v6,v7,v8,v9,v10,v11,v12,v13,v14,v15] (0,0) _ q1 Tryz.underlying57 rfl dB ?_))
 clear q1 q2;generalize ((w.alloc (.cells #[v0,v1,v2,v3,v4,v5,v6,v7,v8,v9,v10,v11,v12,v13,v14,v15] 57)).alloc (.cells #[v0,v1,v2,v3,v4,v5,v6,v7,v8,v9,v10,v11,v12,v13,v14,v15] 57))=w2 at *;have con:=pG [x] (some (af (w+1) 0)) 1 (HG.out) HL.out;rw [HR.out] at con;refine con.mono ?_;rintro e w3 ⟨hb3,rfl⟩;have hbw:=chain hal hb3;obtain ⟨hal4,Q4⟩:=dZ w3 #[R.2.1,R.2.2] 27;have hb5:=chain hbw hal4;clear con hal hb3 hal4
 go_upto_region 2 with fail
 generalize w3.alloc _=w4 at *;obtain ⟨c0,c1⟩:=dp Q4;have c0d:=c0;go_region
 go_wp2_with fail
 exact I7 (v:=.tuple #[R.1,R.2.1]) (by simp [results,Tryz.results23,go_sem]) rfl ⟨hb5.drew,rfl⟩
set_option maxHeartbeats 8000000
def zr (t:ByteArray):List cM→Option cM
 | [x]=>if (bW [x]).2.1=0∧(bW [x]).1=t then some x else none
 | _=>none
def fq (t:ByteArray):Option cM:=if (jL (da t)).1=0 then zr t (fN (da t)) else none
def FH (w:World) (r:Option cM) (e:Ending) (w':World):Prop :=
 Below w w w'∧match r with
  | none=>e = .returned (.tuple #[.agg cO,false])
  | some x=>∃ V:Array Value,e = .returned (.tuple #[.agg V,true])∧cy (fun b=>w.heap.size≤b) w' x V.toList
theorem results_cell_tmp {fn:Func} {p q:Tmp} {ty:TypeId} (h:fn.results = #[.cell p ty,.tmp q]) (tmps:Array Value) (w:World) (g:Nat) (t:TypeId) (cs:Array Value) (fr:Nat × Nat) (d:TypeDesc)
  (hp:tmps.getD p undef = .pointer (some (af g 0))) (hg:w.heap[g]? = some (.cells cs t fr))
  (hd:(match d with | .struct _ | .array _ _=>true | _=>false)=true) (hu:Tryz.prog.underlying ty=some d) (hi:(Tryz.prog.info? ty).map (·.size)=some cs.size) :
  (results fn tmps).run Tryz.prog w = .ok (.tuple #[.agg cs,tmps.getD q undef]) w:=by
 have hp':tmps[p]?.getD undef = .pointer (some (af g 0)):=by simpa using hp
 cases d <;> first | (cases hd; done) | simp [results,h,hp',asAddr,run_loadVar_row w g t ty cs fr _ hg hu rfl hi]
theorem Aw {a b:ByteArray} (h:a.toList=b.toList):a=b:=by
 rw [Lib.toList_data,Lib.toList_data] at h;exact ByteArray.ext (Array.ext' h)
theorem bf.Ix {S:Nat→Prop} {W:World} {a:Option Addr} {x:cM} (h:bf cy 16 S W a [x]):∃ b off,a=some ⟨b,off,none⟩∧∃ V:Array Value,V.size=16∧W.rangeAt b off V.toList∧cy S W x V.toList:=by
 rcases h with h | ⟨b,off,e,_,_,h3⟩
 ·cases h
 ·obtain ⟨cs,c1,c2,c3⟩:=h3 0 (by simp);refine ⟨b,off,e,cs.toArray,by simpa using c1,fun i u hu=>?_,c3⟩;have:=c2 i u hu
  rwa [show off+0*16+i=off+i by omega] at this
theorem mK (t:ByteArray) {w:World} (hG:GP w w):Calls Tryz.prog 26 #[t] w (FH w (fq t)):=by
 generalize hM:fq t=M;unfold fq at hM;obtain ⟨hal1,Q1⟩:=dZ w cO 57;have HG1:=ah (hG.up hal1 (I6 _) (I6 _));have con1:=lU t (w:=w.alloc (.cells cO 57)) HG1.out.gl;generalize hR:da t=R at *;obtain ⟨E,hE⟩:∃ E,jL R=E:=⟨_,rfl⟩
 obtain ⟨l,hl⟩:∃ l,fN R=l:=⟨_,rfl⟩
 rw [hE,hl] at con1 hM;have HM:=ah hM;clear hM hR hE hl hG;go_enter Tryz.func26,Tryz.ntmps26;go_upto_region 1 with fail
 generalize w.alloc _=w1 at *;go_wp2_with fail
 refine con1.mono ?_;rintro e w2 ⟨hb2,a,cap,rfl,L2⟩;have hal3:=bR w2 (.cells #[E.1,E.2] 27);have QF:=aD w2 #[E.1,E.2] 27;have hb3:=chain hb2 hal3;have hl1:=lt_of_heap Q1;have QZ:=(hb3.block _ hl1).trans Q1;have hbw:=chain hal1 hb3;have hs1:=hal1.size;have hs3:=hb3.size;have L3:Hid (bf cy 16 (fun b=>w1.heap.size≤b) (w2.alloc (.cells #[E.1,E.2] 27)) a l):=L2.nx bJ hal3
 have HG3:Hid (GP (w2.alloc (.cells #[E.1,E.2] 27)) (w2.alloc (.cells #[E.1,E.2] 27)).heap.size):=HG1.out.up hb3 ak ak;clear con1 hal1 hal3 hb2 L2 HG1 Q1;go_upto_region 2 with fail
 generalize (w2.alloc (.cells #[E.1,E.2] 27))=w3 at *;obtain ⟨f0,f1⟩:=dp QF;by_cases hz:E.1=0
 case neg =>
  have e:M=none:=by rw [← HM.out,if_neg hz]
  subst e;have hzb:(E.1 != 0)=true:=by rw [bne_iff_ne]; exact hz
  clear HM hz L3 HG3;go_wp2_with (first | (refine wpList_store_row rfl 57 _ _ rfl w cO rfl rfl 57 cO QZ dB rfl (eh rfl) ?_))
  have QE:=setRow_heap w3 w cO cO _ _ QZ;have hbE:=below_setRow hbw (I6 _) cO;generalize w3.setRow w cO=wE at *;exact I7 (results_cell_tmp Tryz.results26 _ _ _ _ _ _ _ rfl QE rfl Tryz.underlying57 dB) rfl ⟨hbE,rfl⟩
 case pos =>
  have hm:=HM.out;rw [if_pos hz] at hm;have HM2:Hid (zr t l=M):=hm;have hzb:(E.1 != 0)=false:=by rw [bne_eq_false_iff_eq]; exact hz
  rw [hz] at f0;clear HM hz hm;by_cases hl:l.length=1
  case neg =>
   have e:M=none:=by
    rw [← HM2.out];unfold zr
    split
    ·exact absurd rfl hl
    ·rfl
   subst e;have hlz:((l.length:Int) != 1)=true:=by rw [bne_iff_ne]; omega
   clear HM2 hl L3 HG3 hzb;go_wp2_with (first | (refine wpList_store_row rfl 57 _ _ rfl w cO rfl rfl 57 cO QZ dB rfl (eh rfl) ?_))
   have QE:=setRow_heap w3 w cO cO _ _ QZ;have hbE:=below_setRow hbw (I6 _) cO;generalize w3.setRow w cO=wE at *;exact I7 (results_cell_tmp Tryz.results26 _ _ _ _ _ _ _ rfl QE rfl Tryz.underlying57 dB) rfl ⟨hbE,rfl⟩
  case pos =>
   obtain ⟨x,rfl⟩:∃ x,l = [x]:=by
    match l,hl with
    | [x],_=>exact ⟨x,rfl⟩
   obtain ⟨b,off,rfl,V,hV,hR,hE⟩:=L3.out.Ix;have hm:=HM2.out;rw [zr] at hm;have con2:=py x V (bJ.mono (fun b _ hb=>hb) hE) HG3.out;have HE:=ah hE;obtain ⟨P,hP⟩:∃ P,bW [x]=P:=⟨_,rfl⟩
   rw [hP] at con2 hm;have HM3:=ah hm;obtain ⟨v0,v1,v2,v3,v4,v5,v6,v7,v8,v9,v10,v11,v12,v13,v14,v15,rfl⟩:=uF hV;clear hm HM2 hl L3 hE hP hzb HG3;go_upto_region 4 with fail
   go_wp2_with (first | (refine wpList_load_mid rfl 57 _ rfl b off rfl [v0,v1,v2,v3,v4,v5,v6,v7,v8,v9,v10,v11,v12,v13,v14,v15] _ hR Tryz.underlying57 rfl dB ?_))
   refine con2.mono ?_;rintro e w4 ⟨hb4,rfl⟩;have QZ4:=bH hb4 QZ;have hR4:w4.rangeAt b off [v0,v1,v2,v3,v4,v5,v6,v7,v8,v9,v10,v11,v12,v13,v14,v15]:=fun i u hu=>(hb4.cell (p:=⟨b,off+i,none⟩) (jm (hR i u hu))).trans (hR i u hu)
   have hbw4:=chain hbw hb4;have HE4:=ah (bJ.next (ay.of hb4) HE.out);clear con2 hR HE QZ;by_cases hc:P.2.1=0∧P.1=t
   case neg =>
    have e:M=none:=by rw [← HM3.out,if_neg hc]
    subst e;clear HM3;by_cases h0:P.2.1=0
    ·have h1:P.1≠t:=fun c=>hc ⟨h0,c⟩
     have h0z:(P.2.1 != 0)=false:=by rw [bne_eq_false_iff_eq]; exact h0
     have h1z:(P.1.toList == t.toList)=false:=by rw [beq_eq_false_iff_ne]; exact fun e=>h1 (Aw e)
     clear h0 h1 hc;go_wp2_with (first | (refine wpList_store_row rfl 57 _ _ rfl w cO rfl rfl 57 cO QZ4 dB rfl (eh rfl) ?_))
     have QE:=setRow_heap w4 w cO cO _ _ QZ4;have hbE:=below_setRow hbw4 (I6 _) cO;generalize w4.setRow _ _=wE at *;exact I7 (results_cell_tmp Tryz.results26 _ _ _ _ _ _ _ rfl QE rfl Tryz.underlying57 dB) rfl ⟨hbE,rfl⟩
    ·have h0z:(P.2.1 != 0)=true:=by rw [bne_iff_ne]; exact h0
     clear h0 hc;go_wp2_with (first | (refine wpList_store_row rfl 57 _ _ rfl w cO rfl rfl 57 cO QZ4 dB rfl (eh rfl) ?_))
     have QE:=setRow_heap w4 w cO cO _ _ QZ4;have hbE:=below_setRow hbw4 (I6 _) cO;generalize w4.setRow _ _=wE at *;exact I7 (results_cell_tmp Tryz.results26 _ _ _ _ _ _ _ rfl QE rfl Tryz.underlying57 dB) rfl ⟨hbE,rfl⟩
   case pos =>
    have e:M=some x:=by rw [← HM3.out,if_pos hc]
    subst e;have h0z:(P.2.1 != 0)=false:=by rw [bne_eq_false_iff_eq]; exact hc.1
    have h1z:(P.1.toList == t.toList)=true:=by rw [hc.2,beq_iff_eq]
    obtain ⟨_,h16⟩:=cy.size (V:=#[v0,v1,v2,v3,v4,v5,v6,v7,v8,v9,v10,v11,v12,v13,v14,v15]) HE4.out;clear HM3 hc;go_wp2_with (first | (refine wpList_load_mid rfl 57 _ rfl b off rfl [v0,v1,v2,v3,v4,v5,v6,v7,v8,v9,v10,v11,v12,v13,v14,v15] _ hR4 Tryz.underlying57 rfl dB ?_) | (refine wpList_store_row rfl 57 _ _ rfl w #[v0,v1,v2,v3,v4,v5,v6,v7,v8,v9,v10,v11,v12,v13,v14,v15] rfl rfl 57 cO QZ4 dB rfl h16 ?_))
    have QE:=setRow_heap w4 w cO #[v0,v1,v2,v3,v4,v5,v6,v7,v8,v9,v10,v11,v12,v13,v14,v15] _ _ QZ4;have hbE:=below_setRow hbw4 (I6 _) #[v0,v1,v2,v3,v4,v5,v6,v7,v8,v9,v10,v11,v12,v13,v14,v15];have HEE:cy (fun b=>w.heap.size≤b) (w4.setRow w #[v0,v1,v2,v3,v4,v5,v6,v7,v8,v9,v10,v11,v12,v13,v14,v15]) x [v0,v1,v2,v3,v4,v5,v6,v7,v8,v9,v10,v11,v12,v13,v14,v15]:=bJ.mono (S:=fun b=>w1.heap.size≤b) (fun b hb _=>by have:_≤b:=hb; show _≤b; omega) (bJ.next ⟨by simp,fun k hk hl=>setRow_other w4 w k _ (by have:w1.heap.size≤k:=hk; omega)⟩ HE4.out)
    generalize w4.setRow _ _=wE at *;exact I7 (results_cell_tmp Tryz.results26 _ _ _ _ _ _ _ rfl QE rfl Tryz.underlying57 dB) rfl ⟨hbE,_,rfl,HEE⟩
def mC:jP UInt8:=fun _ _ x cs=>cs = [.int .u8 ((x.toNat:Nat):Int)]
theorem pK:fW mC:=⟨fun _ h=>h,fun _ h=>h⟩
def sl (s c i:Nat):Nat:=if (c / 2 ^ i) % 2=s / 32768 then s*2 % 65536 else (s*2 % 65536) ^^^ 4129
def zp (c:Nat):Nat→Nat→Nat
 | 0,s=>s
 | k+1,s=>zp c k (sl s c k)
def jt:Nat→List UInt8→Nat
 | s,[]=>s
 | s,x :: r=>jt (zp x.toNat 8 s) r
theorem si {s c i:Nat}:sl s c i<65536:=by
 unfold sl
 split
 ·omega
 ·exact Nat.xor_lt_two_pow (n:=16) ak (by decide)
theorem Db {c k:Nat} (hc:c<256):bits BinOp.and IntKind.u16 (IntKind.u16.wrap ((c:Int) / 2 ^ k)) 1=((c / 2 ^ k % 2:Nat):Int):=by
 have h1:((c:Int) / 2 ^ k)=((c / 2 ^ k:Nat):Int):=by push_cast; rfl
 have h2:c / 2 ^ k≤c:=Nat.div_le_self _ _;rw [h1];generalize c / 2 ^ k=q at *;have h3:IntKind.u16.wrap (q:Int)=(q:Int):=by rw [IntKind.wrap_u16]; omega
 rw [h3];have:=u16_and_nat q 1 ak (by decide);rw [show ((1:Nat):Int)=1 from rfl] at this;rw [this,Nat.and_one_is_mod]
theorem zI {t:Nat}:IntKind.u16.wrap ((t:Int)*2)=((t*2 % 65536:Nat):Int):=by rw [IntKind.wrap_u16]; omega
theorem sY {c k t:Nat} {b:Bool} (h:((c:Int) / 2 ^ k % 2 != (t:Int) / 32768)=b):(c / 2 ^ k % 2=t / 32768)↔b=false:=by
 have h1:((c:Int) / 2 ^ k)=((c / 2 ^ k:Nat):Int):=by push_cast; rfl
 rw [h1] at h;subst h;rw [bne_eq_false_iff_eq];omega
theorem EO {c k t:Nat} (_ht:t<65536) (h:((c:Int) / 2 ^ k % 2 != (t:Int) / 32768)=true):bits BinOp.xor IntKind.u16 (IntKind.u16.wrap ((t:Int)*2)) 4129=((sl t c k:Nat):Int):=by
 rw [zI,sl,if_neg (by rw [sY h]; decide)];exact u16_xor_nat _ 4129 ak (by decide)
theorem ER {c k t:Nat} (_ht:t<65536) (h:((c:Int) / 2 ^ k % 2 != (t:Int) / 32768)=false):IntKind.u16.wrap ((t:Int)*2)=((sl t c k:Nat):Int):=by
 rw [zI,sl,if_pos ((sY h).2 rfl)]
theorem bf.sT {S:Nat→Prop} {W:World} {a:Option Addr} {bs:List UInt8} (h:bf mC 1 S W a bs) {i:Nat} (hi:i<bs.length):∃ b off,a=some ⟨b,off,none⟩∧W.cell? ⟨b,off+i,none⟩=some (.int .u8 ((bs[i].toNat:Nat):Int)):=by
 rcases h with rfl | ⟨b,off,rfl,_,_,h3⟩
 ·simp at hi
 ·obtain ⟨cs,_,c2,rfl⟩:=h3 i hi;exact ⟨b,off,rfl,by have:=c2 0 _ rfl; simpa using this⟩
theorem nh (bs:List UInt8) (a:Option Addr) (cap:Nat) (S:Nat→Prop) {w:World} (hl:bf mC 1 S w a bs) (hn:bs.length≤1099511627776):Calls Tryz.prog 53 #[.slice a bs.length cap] w fun e w'=>e = .returned (.int .u16 (jt 7439 bs:Nat))∧w'=w:=by
 have HL:=ah hl;clear hl;generalize hM:jt 7439 bs=M;have HM:=ah hM;clear hM;go_enter Tryz.func53,Tryz.ntmps53;go_wp2_with fail
 go_loopw [3,10] (fun sv iv wr=>∃ j s:Nat,j≤bs.length∧iv = .int .i64 j∧sv = .int .u16 s∧s<65536∧Hid (jt s (bs.drop j)=M)∧wr=w) (fun _ iv _=>bs.length - (RowKit.intOf iv).toNat)
 case atStart=>exact ⟨0,7439,Jc _,rfl,rfl,by decide,HM,rfl⟩
 case round =>
  obtain ⟨j,s,hj,rfl,rfl,hs,HK,rfl⟩:=hrel;by_cases hlt:j<bs.length
  ·have hjz:(j:Int)<(bs.length:Int):=by omega
   obtain ⟨b,off,rfl,y0⟩:=HL.out.sT hlt;have hc:bs[j].toNat<256:=UInt8.toNat_lt _;have HK2:Hid (jt (zp bs[j].toNat 8 s) (bs.drop (j+1))=M):=by
    have:=HK.out;rw [I9 hlt,jt] at this;exact this
   clear HK;generalize hcc:bs[j].toNat=c at *;clear hcc;go_wp2_with fail
   generalize hN:zp c 8 s=N at *;have HN:=ah hN;clear hN;go_loopw [3,6] (fun sv iv ws=>∃ k t:Nat,k≤8∧iv = .int .i64 ((k:Int) - 1)∧sv = .int .u16 t∧t<65536∧Hid (zp c k t=N)∧ws=wr) (fun _ iv _=>(RowKit.intOf iv+1).toNat)
   case atStart=>exact ⟨8,s,by decide,rfl,rfl,hs,HN,rfl⟩
   case round =>
    obtain ⟨k,t,hk,rfl,rfl,ht,HT,rfl⟩:=hrel;by_cases hk0:k=0
    ·subst hk0;have HN3:Hid (jt t (bs.drop (j+1))=M):=by rw [show t=N from HT.out]; exact HK2
     clear HK2;go_wp2_with fail
     go_roundw
     case rel=>exact ⟨j+1,t,by omega,by go_num,rfl,ht,HN3,trivial⟩
     case measure=>simp [RowKit.intOf]; omega
    ·obtain ⟨k,rfl⟩:∃ m,k=m+1:=⟨k - 1,by omega⟩
     have hkz:(0:Int)≤((k+1:Nat):Int) - 1:=by omega
     have HT2:=ah HT;have hb:=Db (k:=k) hc;go_wp2_with fail
     all_goals rename_i hx
     all_goals go_roundw
     case rel=>exact ⟨k,sl t c k,by omega,rfl,congrArg _ (EO ht hx),si,HT2,trivial⟩
     case rel=>exact ⟨k,sl t c k,by omega,rfl,congrArg _ (ER ht hx),si,HT2,trivial⟩
     all_goals simp [RowKit.intOf]
  ·have hjz:¬ (j:Int)<(bs.length:Int):=by omega
   have e:s=M:=by
    have:=HK.out;rw [JK ak,jt] at this;exact this
   subst e;go_wp2_with fail
   go_ret;exact ⟨rfl,rfl⟩
def uw (n:Nat):List UInt8:=[UInt8.ofNat (n / 256),UInt8.ofNat n]
def eV (bs:List UInt8):Nat:=(bs.getD 0 0).toNat*256+(bs.getD 1 0).toNat
theorem CY (bs:List UInt8):eV bs<65536:=by
 have:=UInt8.toNat_lt (bs.getD 0 0);have:=UInt8.toNat_lt (bs.getD 1 0);unfold eV;omega
theorem uB {n:Nat} (h:n<65536) (r:List UInt8):eV (uw n ++ r)=n:=by
 show (UInt8.ofNat (n / 256)).toNat*256+(UInt8.ofNat n).toNat=n;rw [UInt8.toNat_ofNat',UInt8.toNat_ofNat'];omega
theorem qj {n:Nat} (h:n<65536):[Value.int .u8 ((n:Int) / 256),.int .u8 ((n:Int) % 256)]=jC (uw n):=by
 show _ = [Value.int .u8 (((UInt8.ofNat (n / 256)).toNat:Nat):Int),.int .u8 (((UInt8.ofNat n).toNat:Nat):Int)]
 rw [UInt8.toNat_ofNat',UInt8.toNat_ofNat'];have h1:(n:Int) / 256=((n / 256 % 2 ^ 8:Nat):Int):=by omega
 have h2:(n:Int) % 256=((n % 2 ^ 8:Nat):Int):=by omega
 rw [h1,h2]
def Gj (base:Nat) (w:World) (v:Value) (bs:List UInt8) (e:Ending) (w':World):Prop:=∃ v',e = .returned v'∧w'.ownsRow base 5 1 v' bs.length (jC bs)∧w.grownBy w' v.ownBlock∧(v'.ownBlock=v.ownBlock∨∃ g,w.heap.size≤g∧v'.ownBlock=some g)
theorem qM (bs:List UInt8) (a:Option Addr) (cap:Nat) (S:Nat→Prop) {w:World} (hl:bf mC 1 S w a bs) (h2:2≤bs.length):Calls Tryz.prog 54 #[.slice a bs.length cap] w fun e w'=>e = .returned (.int .u16 (eV bs:Nat))∧Below w w w':=by
 obtain ⟨b,off,rfl,y0⟩:=hl.sT (i:=0) ak;obtain ⟨b',off',e,y1⟩:=hl.sT (i:=1) ak;cases e;have e0:bs[0]=bs.getD 0 0:=by simp [List.getD,show 0<bs.length by omega]
 have e1:bs[1]=bs.getD 1 0:=by simp [List.getD,show 1<bs.length by omega]
 rw [e0,JL] at y0;rw [e1] at y1;have y0d:=y0;have y1d:=y1;have l0:=UInt8.toNat_lt (bs.getD 0 0);have l1:=UInt8.toNat_lt (bs.getD 1 0);have hM:eV bs=(bs.getD 0 0).toNat*256+(bs.getD 1 0).toNat:=rfl;generalize eV bs=M at *;generalize (bs.getD 0 0).toNat=x at *;generalize (bs.getD 1 0).toNat=y at *;have HM:=ah hM;have h20:0<bs.length:=by omega
 have h21:1<bs.length:=by omega
 have h22:(1:Int)<(bs.length:Int):=by omega
 clear e0 e1 hl hM h2;go_enter Tryz.func54,Tryz.ntmps54;go_upto_region 1 with fail
 go_region
 have e3:bits BinOp.or IntKind.u16 ((x:Int)*256) (y:Int)=(M:Int):=by
  have:=u16_or_nat (x*256) y ak ak
  push_cast at this
  rw [this,HM.out];have h4:=nat_join 8 (x*256) y ak ak;rw [h4]
 rw [e3];go_wp2_with fail
 go_ret;exact ⟨rfl,(I8 _ _).drew⟩
theorem lg {base:Nat} {v:Value} {bs:List UInt8} {w:World} (n:Nat) (hn:n<65536) (ho:w.ownsRow base 5 1 v bs.length (jC bs)) (hb:base≤w.heap.size) (hl:bs.length≤1099511627000):Calls Tryz.prog 52 #[v,.int .u16 n] w (Gj base w v (bs ++ uw n)):=by
 obtain ⟨i0,hi0,hj0,hj1,hj2⟩:=info_parts sM;obtain ⟨hal,q1⟩:=dZ w (jC (uw n)).toArray 5;have o1:=jN ho hal;rw [← qj hn] at hal q1 o1;go_enter Tryz.func52,Tryz.ntmps52;have HN:=ah hn;have HL:=ah hl;obtain ⟨va,vc,rfl⟩:∃ a c,v = .slice a bs.length c:=by
  obtain ⟨_,⟨h1,h2⟩ | ⟨k,cap,cur,h1,_⟩⟩:=ho
  ·exact ⟨none,0,by rw [h1,h2]⟩
  ·exact ⟨_,cap,h1⟩
 go_wp2_with (first | (at_builtin; refine aS rfl _ _ 24 rfl base 5 i0 _ 1 1 Tryz.underlying24 hi0 hj0 hj1 hj2 rfl (by decide) _ _ _ rfl o1 (af w 0) 2 2 [.int .u8 ((n:Int) / 256),.int .u8 ((n:Int) % 256)] rfl rfl ?Ac1 ?Ac2 ?Ac3 ?Ac4 ?Ac5 ?_))
 case Ac1 =>
  intro i u hu;rw [bG,Jm];exact cell_of (i:=i) q1 (by rw [← hu]; simp)
 case Ac2=>intro u hu; simp at hu; rcases hu with rfl | rfl <;> rfl
 case Ac3=>unfold maxLen; have:=HL.out; omega
 case Ac4=>have:=HL.out; omega
 case Ac5=>simp; omega
 intro v2 w2 o2 g2 d2;have e2:jC bs ++ [Value.int .u8 ((n:Int) / 256),.int .u8 ((n:Int) % 256)]=jC (bs ++ uw n):=by rw [qj HN.out]; simp [jC]
 rw [e2] at o2;have HO:Hid (w2.ownsRow base 5 1 v2 (bs ++ uw n).length (jC (bs ++ uw n))):=by show w2.ownsRow _ _ _ _ _ _; rw [Jf]; exact o2
 have HG:=ah ((ku hal _).trans g2);have HD:Hid (v2.ownBlock=(Value.slice va bs.length vc).ownBlock∨∃ g,w.heap.size≤g∧v2.ownBlock=some g):=by
  rcases d2 with d | d
  ·exact .inl d
  ·exact .inr ⟨_,by have:=hal.size; omega,d⟩
 clear o2 g2 d2 e2;obtain ⟨a2,n2,c2,e2⟩:∃ a n c,v2 = .slice a n c:=by
  obtain ⟨_,⟨h1,h2⟩ | ⟨k,cap,cur,h1,_⟩⟩:=HO.out
  ·exact ⟨none,0,0,h1⟩
  ·exact ⟨_,_,cap,h1⟩
 subst e2;go_wp2_with fail
 go_ret;exact ⟨_,rfl,HO.out,HG.out,HD.out⟩
def fU (t:ByteArray):List UInt8:=uw t.size ++ t.data.toList
def dL (t:ByteArray):List UInt8:=fU t ++ uw (jt 7439 (fU t))
theorem rL:∀ (bs:List UInt8) (s:Nat),s<65536→jt s bs<65536
 | [],_,h=>h
 | _ :: r,s,_=>by
  rw [jt]
  exact rL r _ si
theorem kW (t:ByteArray):(fU t).length=t.size+2:=by
 unfold fU;rw [Jf,show t.data.toList.length=t.size from Ji];show 2+t.size=_;omega
theorem jz (t:ByteArray):(dL t).length=t.size+4:=by
 unfold dL;rw [Jf,kW];rfl
theorem wO {W:World} {base:Nat} {v:Value} {bs:List UInt8} (h:W.ownsRow base 5 1 v bs.length (jC bs)):∃ a cap,v = .slice a bs.length cap∧bf mC 1 (fun b=>base≤b) W a bs:=by
 have cells:=fun g hg i u hu=>World.ownsRow.cells h (g:=g) hg i u hu
 have hlt:=h.lt;obtain ⟨hx,⟨e1,e2⟩ | ⟨k,cap,cur,e1,h4⟩⟩:=h
 ·exact ⟨none,0,by rw [e1,e2],.inl (List.length_eq_zero_iff.1 e2)⟩
 ·subst e1;have:=hlt k rfl;refine ⟨_,cap,rfl,.inr ⟨k,0,rfl,this.1,this.2,fun i hi=>⟨[.int .u8 ((bs[i].toNat:Nat):Int)],rfl,fun j u hu=>?_,rfl⟩⟩⟩
  match j,hu with
  | 0,hu =>
   have:=cells k rfl i (.int .u8 ((bs[i].toNat:Nat):Int)) (by simp [jC,hi]);cases hu;rw [bG,Jm] at this
   simpa using this
  | j+1,hu=>simp at hu
theorem mA {W:World} {base n:Nat} {v:Value} {xs:List Value} (h:W.ownsRow base 5 1 v n xs):∃ a cap,v = .slice a n cap:=by
 obtain ⟨_,⟨h1,h2⟩ | ⟨k,cap,cur,h1,_⟩⟩:=h
 ·exact ⟨none,0,by rw [h1,h2]⟩
 ·exact ⟨_,cap,h1⟩
theorem yJ (t:ByteArray) (ht:t.size≤4000) {w:World} (h0:1≤w.heap.size):Calls Tryz.prog 24 #[t] w fun e w'=>Below w w w'∧∃ v,e = .returned v∧w'.ownsRow w 5 1 v (dL t).length (jC (dL t)):=by
 obtain ⟨PB,hPB⟩:∃ PB,w.heap.size=PB+1:=⟨w.heap.size - 1,by omega⟩
 have con1:=lg (base:=w.heap.size) (v:=.slice none 0 0) (bs:=[]) (w:=w) t.size ak (by simpa [jC] using World.ownsRow_nil _ _ _ _) (I6 _) (by simp);have hz:(t.size:Int)<65536:=by omega
 have HT:=ah ht;have HB:=ah hPB;have el:(uw t.size).length=2:=rfl;have hh:fU t=uw t.size ++ t.data.toList:=rfl;have HH:=ah hh;have hr:dL t=fU t ++ uw (jt 7439 (fU t)):=rfl;have HR:=ah hr;clear hh hr ht h0 hPB;rw [Jq] at con1;generalize dL t=R at *;go_enter Tryz.func24,Tryz.ntmps24;go_wp2_with fail
 refine con1.mono ?_;rintro e w1 ⟨v1,rfl,o1,g1,d1⟩;have hb1:Below w w w1:=(I8 _ _).grown g1 (I6 _) (fun k e=>by cases e);have hs1:=hb1.size;generalize uw t.size=p1 at *;obtain ⟨a1,c1,e1⟩:=mA o1;have O1:Hid (w1.ownsRow (PB+1) 5 1 v1 p1.length (jC p1)):=by show World.ownsRow _ _ _ _ _ _ _; rw [← HB.out]; exact o1
 have HE:=ah el;have HB1:=ah hb1;have o1':=O1.out;subst e1;clear con1 o1 g1 d1 el hb1;have hbb:p1.length+t.size≤1099511627776:=by have:=HE.out; have:=HT.out; omega
 have hlt1:PB+1≤w1.heap.size:=by have:=HB.out; omega
 go_wp2_with (first | (at_builtin; refine gG rfl _ _ rfl rfl o1' t rfl hbb hlt1 ?_))
 intro v2 w2 o2 g2 d2;have hb2:=HB1.out.grown g2 hs1 (fun k e=>by have:=(O1.out.lt k e).1; have:=HB.out; omega);have e2:jC p1 ++ jC t.data.toList=jC (fU t):=by rw [HH.out]; simp [jC]
 have e3:p1.length+t.size=(fU t).length:=by rw [kW]; have:=HE.out; omega
 rw [e2,e3,← HB.out] at o2;have hl3:=kW t;generalize fU t=H at *;have HL3:=ah hl3;have hs2:=hb2.size;have O2:=ah o2;have HB2:=ah hb2;obtain ⟨a2,c2,e4,L2⟩:=wO o2;subst e4;clear O1 o1' hbb hlt1 o2 g2 d2 e2 e3 hl3 hb2 HE HH HB1;have con2:=nh H a2 c2 _ L2 (by have:=HL3.out; have:=HT.out; omega);have hcr:=rL H 7439 (by decide);generalize jt 7439 H=ck at *;have HCK:=ah hcr;go_wp2_with fail
 refine con2.mono ?_;rintro e w3 ⟨rfl,rfl⟩;have con3:=lg (base:=w.heap.size) (w:=w3) ck HCK.out O2.out hs2 (by have:=HL3.out; have:=HT.out; omega);clear con2 L2;go_wp2_with fail
 refine con3.mono ?_;rintro e w4 ⟨v4,rfl,o4,g4,d4⟩;have hb4:=HB2.out.grown g4 hs2 (fun k e=>(O2.out.lt k e).1);rw [← HR.out] at o4;have O4:=ah o4;have HB4:=ah hb4;obtain ⟨a4,c4,e4⟩:=mA o4;subst e4;clear con3 o4 g4 d4 hb4;go_wp2_with fail
 go_ret;exact ⟨HB4.out,_,rfl,O4.out⟩
def dd (bs:List UInt8):ByteArray × Nat :=
 if bs.length<2 then (eB,0) else if bs.length<2+eV bs+2 then (eB,0) else if eV (bs.drop (2+eV bs))=jt 7439 (bs.take (2+eV bs)) then (⟨((bs.drop 2).take (eV bs)).toArray⟩,2+eV bs+2) else (eB,0)
theorem bf.zF {S:Nat→Prop} {W:World} {b off:Nat} {bs:List UInt8} (h:bf mC 1 S W (some (af b off)) bs) (k:Nat):bf mC 1 S W (some ⟨b,off+k,none⟩) (bs.drop k):=by
 rcases h with rfl | ⟨b',off',e,h1,h2,h3⟩
 ·exact .inl (by simp)
 ·cases e;refine .inr ⟨b,off+k,rfl,h1,h2,fun i hi=>?_⟩;rw [Jz] at hi;obtain ⟨cs,c1,c2,c3⟩:=h3 (k+i) ak;refine ⟨cs,c1,fun j u hu=>?_,by rw [List.getElem_drop]; exact c3⟩;have:=c2 j u hu
  rwa [show off+(k+i)*1+j=off+k+i*1+j by omega] at this
theorem bf.DS {S:Nat→Prop} {W:World} {a:Option Addr} {bs:List UInt8} (h:bf mC 1 S W a bs) (k:Nat):bf mC 1 S W a (bs.take k):=by
 rcases h with rfl | ⟨b,off,e,h1,h2,h3⟩
 ·exact .inl (by simp)
 ·refine .inr ⟨b,off,e,h1,h2,fun i hi=>?_⟩;rw [Jr] at hi;obtain ⟨cs,c1,c2,c3⟩:=h3 i ak;exact ⟨cs,c1,c2,by rw [List.getElem_take]; exact c3⟩
theorem bf.Gu {S:Nat→Prop} {W:World} {b off n cap:Nat} {bs:List UInt8} (h:bf mC 1 S W (some (af b off)) bs) (hn:n=bs.length):(convert 24 9 (.slice (some (af b off)) n cap)).run Tryz.prog W = .ok (.string ⟨bs.toArray⟩) W:=by
 subst hn;refine run_convert_bytes_back W _ _ 5 (af b off) cap bs bm bm bm (fun j hj=>?_);obtain ⟨b',off',e,y⟩:=h.sT hj;cases e;rw [bG];exact y
theorem jg (bs:List UInt8) (a:Option Addr) (cap:Nat) (S:Nat→Prop) {w:World} (hl:bf mC 1 S w a bs) (hc:bs.length≤cap) (hn:bs.length≤100000):Calls Tryz.prog 25 #[.slice a bs.length cap] w fun e w'=>e = .returned (.tuple #[.string (dd bs).1,.int .i64 ((dd bs).2:Nat)])∧Below w w w':=by
 generalize hM:dd bs=M;unfold dd at hM;by_cases h2:bs.length<2
 ·rw [if_pos h2] at hM;subst hM;have h2z:(bs.length:Int)<2:=by omega
  clear hl h2;go_enter Tryz.func25,Tryz.ntmps25;go_wp2_with fail
  exact I7 (v:=.tuple #[eB,aB]) (by simp [results,Tryz.results25,go_sem]) rfl ⟨rfl,I8 _ _⟩
 ·rw [if_neg h2] at hM;obtain ⟨b,off,rfl,_⟩:=hl.sT (i:=0) ak;have con1:=qM bs _ cap _ hl ak;have hm:=CY bs;generalize eV bs=m at *;have HM:=ah hM;have HL:=ah hl;have h2z:¬ (bs.length:Int)<2:=by omega
  clear hM hl;by_cases h3:bs.length<2+m+2
  ·have e:M=(eB,0):=by rw [← HM.out,if_pos h3]
   subst e;have h3z:(bs.length:Int)<2+(m:Int)+2:=by omega
   clear HM;go_enter Tryz.func25,Tryz.ntmps25;go_wp2_with fail
   refine cR con1 fun w1 hb1=>?_;go_upto_region 4 with fail
   go_region
   go_wp2_with fail
   exact I7 (v:=.tuple #[eB,aB]) (by simp [results,Tryz.results25,go_sem]) rfl ⟨rfl,hb1.drew⟩
  ·have h3z:¬ (bs.length:Int)<2+(m:Int)+2:=by omega
   obtain ⟨x,hx⟩:∃ x,2+m=x:=⟨_,rfl⟩
   have HX:=ah hx;have hM2:=HM.out;rw [if_neg h3,hx] at hM2;have HM2:=ah hM2;have LD:=HL.out.zF x;have LT:=HL.out.DS x;clear HM hM2;go_enter Tryz.func25,Tryz.ntmps25;go_wp2_with fail
   refine cR con1 fun w1 hb1=>?_;have hxz:(2:Int)+(m:Int)=(x:Int):=by omega
   clear h3z;have h3z:¬ (bs.length:Int)<(x:Int)+2:=by omega
   go_upto_region 4 with fail
   have hle1:x≤bs.length:=by omega
   have hle2:x≤cap:=by omega
   have h0:0≤x:=by omega
   have cP:∀ n:wu w1,Calls Tryz.prog 54 #[.slice (some ⟨b,off+x,none⟩) (bs.length - x) (cap - x)] n.now fun e w'=>e = .returned (.int .u16 (eV (bs.drop x):Nat))∧Below n.now.heap.size n.now w':=fun n=>by
    have:=qM (bs.drop x) (some ⟨b,off+x,none⟩) (cap - x) S (w:=n.now) (LD.aM pK (ay.of (chain hb1 n.ok))) (by rw [Jz]; omega)
    rwa [Jz] at this
   have cS:∀ n:wu w1,Calls Tryz.prog 53 #[.slice (some (af b off)) x cap] n.now fun e w'=>e = .returned (.int .u16 (jt 7439 (bs.take x):Nat))∧Below n.now.heap.size n.now w':=fun n=>by
    have:=nh (bs.take x) (some (af b off)) cap S (w:=n.now) (LT.aM pK (ay.of (chain hb1 n.ok))) (by rw [Jr]; omega);rw [Jr,Nat.min_eq_left hle1] at this;exact this.mono fun e w' ⟨h1,h2⟩=>⟨h1,by rw [h2]; exact I8 _ _⟩
   have hdz:decide ((bs.length:Int)<(x:Int)+2)=false:=by rw [decide_eq_false_iff_not]; omega
   clear con1 hx hxz;refine oz bm bm ?_
   repeat (go_big_quiet_step (first | (go_at_call 54; exact xA (cP _)) | (go_at_call 53; exact xA (cS _)) | rfl))
   refine wpQuiet_nil ?_;rintro w3 ⟨⟨v3,hb3⟩,h3⟩;obtain rfl:w3=v3:=h3;have LV:=(HL.out.zF 2).DS m;have hlv:((bs.drop 2).take m).length=x - 2:=by rw [Jr,Jz]; have:=HX.out; omega
   have hcv:=(LV.aM pK (ay.of (chain hb1 hb3))).Gu (n:=x - 2) (cap:=cap - 2) hlv.symm;clear LV hlv LD LT cP cS hdz;have hbe:=chain hb1 hb3;generalize eV (bs.drop x)=p at *;generalize jt 7439 (bs.take x)=s at *;generalize (bs.drop 2).take m=t at *;by_cases e:p=s
   ·have hz:((p:Int) != (s:Int))=false:=by rw [bne_eq_false_iff_eq,e]
    have HE:Hid (M=(⟨t.toArray⟩,x+2)):=by show M=_; rw [← HM2.out,if_pos e]
    have hx2:(2:Int)≤(x:Int):=by have:=HX.out; omega
    clear e HM2;go_wp2_with fail
    exact I7 (v:=.tuple #[.string ⟨t.toArray⟩,.int .i64 ((x:Int)+2)]) (by simp [results,Tryz.results25,go_sem]) rfl ⟨by rw [HE.out]; rfl,hbe⟩
   ·have hz:((p:Int) != (s:Int))=true:=by rw [bne_iff_ne]; omega
    have e2:M=(eB,0):=by rw [← HM2.out,if_neg e]
    subst e2;clear e HM2;go_wp2_with fail
    exact I7 (v:=.tuple #[eB,aB]) (by simp [results,Tryz.results25,go_sem]) rfl ⟨rfl,hbe⟩
end Go.Proofs.YtoknmnngaackkaaGreatDoor
