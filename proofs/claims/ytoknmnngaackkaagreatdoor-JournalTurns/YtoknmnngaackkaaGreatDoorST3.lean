/- Together: AL, AM, AN, AO, AP, AQ, AR, AS, AT. -/
import Derived.Test.YtoknmnngaackkaaGreatDoorST2
import Derived.Test.YtoknmnngaackkaaGreatDoorST0
namespace Go.Proofs.YtoknmnngaackkaaGreatDoor
open Go.RowKit Go.Lib Go.Shelf
set_option maxRecDepth 100000
set_option maxHeartbeats 16000000
set_option maxRecDepth 100000
set_option maxHeartbeats 8000000
def DI (_:World) (v:Value) (n:Int):Prop:=v = .int .i64 n
theorem qU {w:World} {R tb:Nat} {ts:List Tk} {o:Int} (h:aR w R tb ts o) (least most:Int):Calls Tryz.prog 165 #[af R 0,least,most] w (Ends R tb o w DI (dv least most ts)):=by
 obtain ⟨t,r,rfl⟩:=h.iU.ne;have hltR:=h.lt;have con:=j8 h;have HR:=ah h;generalize hM:dv least most (t :: r)=M;have HM:=ah hM;clear h hM;rcases hsg:bK ⟨#[45]⟩ (t :: r) with _ | _
 ·have HM2:Hid ((if (cg ((t :: r))).1≠2 then .error (2,iI ((t :: r))) else if (bS (cg ((t :: r))).2.1)<least∨most<(bS (cg ((t :: r))).2.1) then .error (3,t.2.2) else .ok (bS (cg ((t :: r))).2.1,aC ((t :: r))))=M):=by
   have:=HM.out;rw [dv,hsg] at this;exact this
  clear HM;go_enter Tryz.func165,Tryz.ntmps165;go_wp2_with fail
  refine cR con fun w1 hb1=>?_;have hf1:=AS t.1 t.2.1 t.2.2 w1;have con2:=aY (HR.out.next hb1) ⟨#[45]⟩;rw [hsg,bT hsg] at con2;clear con;go_wp2_with fail
  refine con2.mono ?_;rintro e w2 ⟨rfl,h2,hb2⟩;have hx2:aj R w w2:=(aj.of hb1 ak).trans hb2;have hz2:=hx2.size;clear con2 hf1;generalize (t :: r)=us at *;obtain ⟨u,ur,rfl⟩:=h2.iU.ne;have con3:=j8 h2;have hok:=h2.iU.ok;have H2:=ah h2;clear h2;by_cases hs2:u.1=2
  case neg =>
   have b2:(u.1 != 2)=true:=by simpa using hs2
   have e:M = .error (2,u.2.2):=by rw [← HM2.out,if_pos (by simpa [cg] using hs2)]; rfl
   subst e;clear HM2;go_wp2_with fail
   refine cR con3 fun w3 hb3=>?_;have hf3:=eL u.2.1 u.2.2 u.1 w3;have con4:=fj (H2.out.next hb3) 2;go_wp2_with fail
   refine cR con4 fun w4 hb4=>?_;go_wp2_with fail
   exact ⟨rfl,Ends.err (c:=(2,u.2.2)) rfl (hx2.trans (.of (chain hb3 hb4) ak)) (H2.out.next (chain hb3 hb4))⟩
  have b2:(u.1 != 2)=false:=by simpa using hs2
  obtain ⟨hp,hp0,hp1⟩:=tm hok hs2;have HM3:Hid ((if (bS u.2.1)<least∨most<(bS u.2.1) then .error (3,t.2.2) else .ok (bS u.2.1,aC (u :: ur)))=M):=by
   have:=HM2.out;rw [if_neg (by simpa [cg] using hs2)] at this;exact this
  have hsz:=hok.1;clear HM2 hok;generalize hdg:bS u.2.1=dg at *;go_wp2_with fail
  refine cR con3 fun w3 hb3=>?_;have hf3:=eL u.2.1 u.2.2 2 w3;have con4:=mw (H2.out.next hb3);rw [hs2] at con4;clear con3;go_wp2_with fail
  refine con4.mono ?_;rintro e w4 ⟨rfl,h4,hb4⟩;have hf4:=nP (2:Int) u.2.2 u.2.1 w4;have con5:=tD u.2.1 hsz dg hp w4;have H4:=ah h4;have hx4:aj R w w4:=(hx2.trans (.of hb3 ak)).trans hb4;have hz4:=hx4.size;clear con4 h4 hf3;go_wp2_with fail
  refine cR con5 fun w5 hb5=>?_;have hx5:aj R w w5:=hx4.trans (.of hb5 ak);have H5:=ah (H4.out.next hb5);clear con5 hf4;have hmb:-10000000000000000<dg∧dg<10000000000000000:=by omega
  clear hp hdg hsz;by_cases hr1:dg<least
  case pos =>
   have e:M = .error (3,t.2.2):=by rw [← HM3.out,if_pos (.inl hr1)]
   subst e;have con6:=fg 3 t.2.2 w5;clear HM3;go_wp2_with fail
   refine cR con6 fun w6 hb6=>?_;go_wp2_with fail
   exact ⟨rfl,Ends.err (c:=(3,t.2.2)) rfl (hx5.trans (.of hb6 (by have:=hx5.size; omega))) (H5.out.next hb6)⟩
  by_cases hr2:most<dg
  case pos =>
   have e:M = .error (3,t.2.2):=by rw [← HM3.out,if_pos (.inr hr2)]
   subst e;have con6:=fg 3 t.2.2 w5;clear HM3;go_wp2_with fail
   refine cR con6 fun w6 hb6=>?_;go_wp2_with fail
   exact ⟨rfl,Ends.err (c:=(3,t.2.2)) rfl (hx5.trans (.of hb6 (by have:=hx5.size; omega))) (H5.out.next hb6)⟩
  have e:M = .ok (dg,aC (u :: ur)):=by rw [← HM3.out,if_neg ak]
  subst e;clear HM3;go_wp2_with fail
  refine I7 (v:=.int .i64 (dg)) (by simp [results,Tryz.results165,go_sem]) rfl ?_;exact Ends.cK rfl hx5 rfl H5.out
 ·have HM2:Hid ((if (cg (aC (t :: r))).1≠2 then .error (2,iI (aC (t :: r))) else if (-bS (cg (aC (t :: r))).2.1)<least∨most<(-bS (cg (aC (t :: r))).2.1) then .error (3,t.2.2) else .ok (-bS (cg (aC (t :: r))).2.1,aC (aC (t :: r))))=M):=by
   have:=HM.out;rw [dv,hsg] at this;exact this
  clear HM;go_enter Tryz.func165,Tryz.ntmps165;go_wp2_with fail
  refine cR con fun w1 hb1=>?_;have hf1:=AS t.1 t.2.1 t.2.2 w1;have con2:=aY (HR.out.next hb1) ⟨#[45]⟩;rw [hsg,cG hsg] at con2;clear con;go_wp2_with fail
  refine con2.mono ?_;rintro e w2 ⟨rfl,h2,hb2⟩;have hx2:aj R w w2:=(aj.of hb1 ak).trans hb2;have hz2:=hx2.size;clear con2 hf1;generalize aC (t :: r)=us at *;obtain ⟨u,ur,rfl⟩:=h2.iU.ne;have con3:=j8 h2;have hok:=h2.iU.ok;have H2:=ah h2;clear h2;by_cases hs2:u.1=2
  case neg =>
   have b2:(u.1 != 2)=true:=by simpa using hs2
   have e:M = .error (2,u.2.2):=by rw [← HM2.out,if_pos (by simpa [cg] using hs2)]; rfl
   subst e;clear HM2;go_wp2_with fail
   refine cR con3 fun w3 hb3=>?_;have hf3:=eL u.2.1 u.2.2 u.1 w3;have con4:=fj (H2.out.next hb3) 2;go_wp2_with fail
   refine cR con4 fun w4 hb4=>?_;go_wp2_with fail
   exact ⟨rfl,Ends.err (c:=(2,u.2.2)) rfl (hx2.trans (.of (chain hb3 hb4) ak)) (H2.out.next (chain hb3 hb4))⟩
  have b2:(u.1 != 2)=false:=by simpa using hs2
  obtain ⟨hp,hp0,hp1⟩:=tm hok hs2;have HM3:Hid ((if (-bS u.2.1)<least∨most<(-bS u.2.1) then .error (3,t.2.2) else .ok (-bS u.2.1,aC (u :: ur)))=M):=by
   have:=HM2.out;rw [if_neg (by simpa [cg] using hs2)] at this;exact this
  have hsz:=hok.1;clear HM2 hok;generalize hdg:bS u.2.1=dg at *;go_wp2_with fail
  refine cR con3 fun w3 hb3=>?_;have hf3:=eL u.2.1 u.2.2 2 w3;have con4:=mw (H2.out.next hb3);rw [hs2] at con4;clear con3;go_wp2_with fail
  refine con4.mono ?_;rintro e w4 ⟨rfl,h4,hb4⟩;have hf4:=nP (2:Int) u.2.2 u.2.1 w4;have con5:=tD u.2.1 hsz dg hp w4;have H4:=ah h4;have hx4:aj R w w4:=(hx2.trans (.of hb3 ak)).trans hb4;have hz4:=hx4.size;clear con4 h4 hf3;go_wp2_with fail
  refine cR con5 fun w5 hb5=>?_;have hx5:aj R w w5:=hx4.trans (.of hb5 ak);have H5:=ah (H4.out.next hb5);clear con5 hf4;have hmb:-10000000000000000<dg∧dg<10000000000000000:=by omega
  clear hp hdg hsz;by_cases hr1:-dg<least
  case pos =>
   have e:M = .error (3,t.2.2):=by rw [← HM3.out,if_pos (.inl hr1)]
   subst e;have con6:=fg 3 t.2.2 w5;clear HM3;go_wp2_with fail
   refine cR con6 fun w6 hb6=>?_;go_wp2_with fail
   exact ⟨rfl,Ends.err (c:=(3,t.2.2)) rfl (hx5.trans (.of hb6 (by have:=hx5.size; omega))) (H5.out.next hb6)⟩
  by_cases hr2:most < -dg
  case pos =>
   have e:M = .error (3,t.2.2):=by rw [← HM3.out,if_pos (.inr hr2)]
   subst e;have con6:=fg 3 t.2.2 w5;clear HM3;go_wp2_with fail
   refine cR con6 fun w6 hb6=>?_;go_wp2_with fail
   exact ⟨rfl,Ends.err (c:=(3,t.2.2)) rfl (hx5.trans (.of hb6 (by have:=hx5.size; omega))) (H5.out.next hb6)⟩
  have e:M = .ok (-dg,aC (u :: ur)):=by rw [← HM3.out,if_neg ak]
  subst e;clear HM3;go_wp2_with fail
  refine I7 (v:=.int .i64 (-dg)) (by simp [results,Tryz.results165,go_sem]) rfl ?_;exact Ends.cK rfl hx5 rfl H5.out
theorem bD {W:World} {g:Nat} {T:TypeId} {c0 c1 c2:Value} (h:W.heap[g]? = some (.cells #[c0,c1,c2] T (0,0))):W.cell? (af g 0)=some c0∧W.cell? (af g 1)=some c1∧W.cell? (af g 2)=some c2 :=
 ⟨cell_of (i:=0) h rfl,cell_of (i:=1) h rfl,cell_of (i:=2) h rfl⟩
theorem iS {W:World} {g:Nat} {T:TypeId} {c0 c1 c2:Value} (h:W.heap[g]? = some (.cells #[c0,c1,c2] T (0,0))):W.frozen? (af g 0)=false∧W.frozen? (af g 1)=false∧W.frozen? (af g 2)=false :=
 ⟨I0 W g 0 _ _ h,I0 W g 1 _ _ h,I0 W g 2 _ _ h⟩
theorem fB {W:World} {g:Nat} {T:TypeId} {c0 c1 c2:Value} (h:W.heap[g]? = some (.cells #[c0,c1,c2] T (0,0))) (v0 v1 v2:Value):(((W.setCell (af g 0) v0).setCell (af g 1) v1).setCell (af g 2) v2).heap[g]? = some (.cells #[v0,v1,v2] T (0,0)):=by
 have h:=I5 _ g 0 _ _ v0 h;have h:=I5 _ g 1 _ _ v1 h;have h:=I5 _ g 2 _ _ v2 h;exact h
theorem Ge {t g:Nat} {W0 W:World} (h:aj t W0 W) (hg:W0.heap.size≤g) (ht:t≤W0.heap.size) (v0 v1 v2:Value):aj t W0 (((W.setCell (af g 0) v0).setCell (af g 1) v1).setCell (af g 2) v2) :=
 (((h.aW g 0 _ hg ht).aW g 1 _ hg ht).aW g 2 _ hg ht)
theorem ln {g:Nat} {W0 W:World} (h:Below W0 W0 W) (hg:W0.heap.size≤g) (v0 v1 v2:Value):Below W0 W0 (((W.setCell (af g 0) v0).setCell (af g 1) v1).setCell (af g 2) v2) :=
 (((h.setCell (p:=af g 0) hg _).setCell (p:=af g 1) hg _).setCell (p:=af g 2) hg _)
def IX (_:World) (v:Value) (x:Vl):Prop:=v = .agg #[x.1,x.2.1,x.2.2]
theorem BC {n:Int} (h1:-1000000000000000≤n) (h2:n≤1000000000000000) (w:World):Calls Tryz.prog 166 #[n] w fun e w'=>e = .returned true∧w'=w:=by
 go_enter Tryz.func166,Tryz.ntmps166;go_wp2_with fail
 exact I7 (v:=.bool true) (by simp [results,Tryz.results166,go_sem]; try omega) rfl ⟨fQ,fQ⟩
theorem DD {n:Int} (h1:-1000000000000000≤n) (h2:n≤1000000000000000) (w:World):Calls Tryz.prog 214 #[n] w fun e w'=>e = .returned (.agg #[(3:Int),n,()])∧Below w w w':=by
 have con:=BC h1 h2 (w.alloc (.cells #[aB,aB,()] 53));go_enter Tryz.func214,Tryz.ntmps214;go_wp2_with fail
 refine con.mono ?_;rintro e w1 ⟨rfl,rfl⟩;go_wp2_with fail
 exact I7 (v:=.agg #[(3:Int),n,()]) (by simp [results,Tryz.results214,go_sem]) rfl ⟨rfl,bR ..⟩
theorem se {least most n:Int} {ts r:List Tk} (h:dv least most ts = .ok (n,r)):least≤n∧n≤most:=by
 unfold dv at h;simp only at h;generalize (if bK ⟨#[45]⟩ ts=true then aC ts else ts)=ts1 at h;generalize (if bK ⟨#[45]⟩ ts=true then -bS (cg ts1).2.1 else bS (cg ts1).2.1)=m at h;by_cases h2:(cg ts1).1≠2
 ·rw [if_pos h2] at h; cases h
 ·rw [if_neg h2] at h;by_cases h3:m<least∨most<m
  ·rw [if_pos h3] at h; cases h
  ·rw [if_neg h3] at h;have e:=(Prod.mk.inj (Except.ok.inj h)).1;omega
theorem my {w W:World} {R tb g:Nat} {rs:List Tk} {o:Int} {T:TypeId} {c0 c1 c2:Value} (Q:W.heap[g]? = some (.cells #[c0,c1,c2] T (0,0))) (hR:aR W R tb rs o) (hb:aj R w W) (h1:w.heap.size≤g) (h3:R<w.heap.size) (h4:tb<w.heap.size) (v0 v1 v2:Value) :
  (((W.setCell (af g 0) v0).setCell (af g 1) v1).setCell (af g 2) v2).heap[g]? = some (.cells #[v0,v1,v2] T (0,0))∧aR (((W.setCell (af g 0) v0).setCell (af g 1) v1).setCell (af g 2) v2) R tb rs o∧aj R w (((W.setCell (af g 0) v0).setCell (af g 1) v1).setCell (af g 2) v2):=by
 have hk1:aI g W (((W.setCell (af g 0) v0).setCell (af g 1) v1).setCell (af g 2) v2):=(((aI.refl _ _).set _ _).set _ _).set _ _;exact ⟨fB Q _ _ _,hR.k1 hk1 ak ak (by have:=hR.r2; omega),Ge hb h1 ak _ _ _⟩
theorem nR {w:World} {R tb:Nat} {ts:List Tk} {o:Int} (h:aR w R tb ts o):Calls Tryz.prog 190 #[af R 0] w (Ends R tb o w IX (cY ts)):=by
 obtain ⟨t,r,rfl⟩:=h.iU.ne;have hltR:=h.lt;have hltT:=h.lK;obtain ⟨hal,QZ0⟩:=dZ w #[aB,aB,()] 53;have hz0:=lt_of_heap QZ0;have con:=j8 (h.next hal);have H1:=ah (h.next hal);generalize hM:cY (t :: r)=M;have HM:=ah hM;clear h hM
 by_cases hs3:t.1=3
 case pos =>
  have b3:(t.1 == 3)=true:=by simpa using hs3
  have e:M = .ok ((4,0,t.2.1),aC (t :: r)):=by rw [← HM.out,cY,if_pos (by simpa [cg] using hs3)]; rfl
  subst e;clear HM;go_enter Tryz.func190,Tryz.ntmps190;go_wp2_with fail
  generalize w.alloc _=w1 at *;refine cR con fun w2 hb2=>?_;have hf2:=eL t.2.1 t.2.2 3 w2;have H2:=ah (H1.out.next hb2);have QZ2:=bH hb2 QZ0;have hx2:aj R w w2:=(aj.of hal ak).trans (.of hb2 ak);have hz2:=lt_of_heap QZ2;clear con;have con3:=mw H2.out;rw [hs3] at con3;go_wp2_with fail
  refine con3.mono ?_;rintro e w3 ⟨rfl,h3,hb3⟩;have hf3:=nP (3:Int) t.2.2 t.2.1 w3;have QZ:=(hb3.2 _ (lt_of_heap QZ2) ak).trans QZ2;have HRF:=ah h3;have hxF:=hx2.trans hb3;clear con3 h3 hf2;obtain ⟨z0,z1,z2⟩:=bD QZ;obtain ⟨y0,y1,y2⟩:=iS QZ;go_wp2_with fail
  obtain ⟨QE,hRE,hbE⟩:=my (w:=w) QZ HRF.out hxF (I6 _) hltR hltT (4:Int) aB t.2.1;generalize (((w3.setCell (af w 0) (4:Int)).setCell (af w 1) aB).setCell (af w 2) t.2.1)=wE at *;obtain ⟨x0,x1,x2⟩:=bD QE;exact I7 (v:=.agg #[(4:Int),aB,t.2.1]) (by simp [results,Tryz.results190,go_sem,x0,x1,x2]) rfl (Ends.cK (x:=(4,0,t.2.1)) rfl hbE rfl hRE)
 have b3:(t.1 == 3)=false:=by simpa using hs3
 rcases i0:bK ⟨#[110,117,108,108]⟩ (t :: r) with _ | _
 case true =>
  have e:M = .ok ((1,0,eB),aC (t :: r)):=by rw [← HM.out,cY,if_neg (by simpa [cg] using hs3),if_pos i0]
  subst e;clear HM;go_enter Tryz.func190,Tryz.ntmps190;go_wp2_with fail
  generalize w.alloc _=w1 at *;refine cR con fun w2 hb2=>?_;have hf2:=eL t.2.1 t.2.2 t.1 w2;have H2:=ah (H1.out.next hb2);have QZ2:=bH hb2 QZ0;have hx2:aj R w w2:=(aj.of hal ak).trans (.of hb2 ak);have hz2:=lt_of_heap QZ2;clear con;have HT0:=H2;have QT0:=QZ2;have hxt0:=hx2;have ct0:=aY HT0.out ⟨#[110,117,108,108]⟩;rw [i0,cG i0] at ct0;go_wp2_with fail
  refine ct0.mono ?_;rintro e wt1 ⟨rfl,ht,hbt1⟩;have HT1:=ah ht;have QT1:=(hbt1.2 _ (lt_of_heap QT0) ak).trans QT0;have hxt1:=hxt0.trans hbt1;have hzt1:=lt_of_heap QT1;clear ct0 ht;have cv:=Bp wt1;go_wp2_with fail
  refine cR cv fun wv hbv=>?_;have QZ:=bH hbv QT1;have HRF:=ah (HT1.out.next hbv);have hxF:=hxt1.trans (.of hbv (by have:=hxt1.size; omega));clear cv hf2;obtain ⟨z0,z1,z2⟩:=bD QZ;obtain ⟨y0,y1,y2⟩:=iS QZ;go_wp2_with fail
  obtain ⟨QE,hRE,hbE⟩:=my (w:=w) QZ HRF.out hxF (I6 _) hltR hltT (1:Int) aB ();generalize (((wv.setCell (af w 0) (1:Int)).setCell (af w 1) aB).setCell (af w 2) ())=wE at *;obtain ⟨x0,x1,x2⟩:=bD QE;exact I7 (v:=.agg #[(1:Int),aB,()]) (by simp [results,Tryz.results190,go_sem,x0,x1,x2]) rfl (Ends.cK (x:=(1,0,eB)) rfl hbE rfl hRE)
 rcases i1:bK ⟨#[116,114,117,101]⟩ (t :: r) with _ | _
 case true =>
  have e:M = .ok ((2,1,eB),aC (t :: r)):=by rw [← HM.out,cY,if_neg (by simpa [cg] using hs3),if_neg (by simp [i0]),if_pos i1]
  subst e;clear HM;go_enter Tryz.func190,Tryz.ntmps190;go_wp2_with fail
  generalize w.alloc _=w1 at *;refine cR con fun w2 hb2=>?_;have hf2:=eL t.2.1 t.2.2 t.1 w2;have H2:=ah (H1.out.next hb2);have QZ2:=bH hb2 QZ0;have hx2:aj R w w2:=(aj.of hal ak).trans (.of hb2 ak);have hz2:=lt_of_heap QZ2;clear con;have HT0:=H2;have QT0:=QZ2;have hxt0:=hx2;have ct0:=aY HT0.out ⟨#[110,117,108,108]⟩;rw [i0,bT i0] at ct0;go_wp2_with fail
  refine ct0.mono ?_;rintro e wt1 ⟨rfl,ht,hbt1⟩;have HT1:=ah ht;have QT1:=(hbt1.2 _ (lt_of_heap QT0) ak).trans QT0;have hxt1:=hxt0.trans hbt1;have hzt1:=lt_of_heap QT1;clear ct0 ht;have ct1:=aY HT1.out ⟨#[116,114,117,101]⟩;rw [i1,cG i1] at ct1;go_wp2_with fail
  refine ct1.mono ?_;rintro e wt2 ⟨rfl,ht,hbt2⟩;have HT2:=ah ht;have QT2:=(hbt2.2 _ (lt_of_heap QT1) ak).trans QT1;have hxt2:=hxt1.trans hbt2;have hzt2:=lt_of_heap QT2;clear ct1 ht;have cv:=xT wt2;go_wp2_with fail
  refine cR cv fun wv hbv=>?_;have QZ:=bH hbv QT2;have HRF:=ah (HT2.out.next hbv);have hxF:=hxt2.trans (.of hbv (by have:=hxt2.size; omega));clear cv hf2;obtain ⟨z0,z1,z2⟩:=bD QZ;obtain ⟨y0,y1,y2⟩:=iS QZ;go_wp2_with fail
  obtain ⟨QE,hRE,hbE⟩:=my (w:=w) QZ HRF.out hxF (I6 _) hltR hltT (2:Int) (1:Int) ();generalize (((wv.setCell (af w 0) (2:Int)).setCell (af w 1) (1:Int)).setCell (af w 2) ())=wE at *;obtain ⟨x0,x1,x2⟩:=bD QE;exact I7 (v:=.agg #[(2:Int),(1:Int),()]) (by simp [results,Tryz.results190,go_sem,x0,x1,x2]) rfl (Ends.cK (x:=(2,1,eB)) rfl hbE rfl hRE)
 rcases i2:bK ⟨#[102,97,108,115,101]⟩ (t :: r) with _ | _
 case true =>
  have e:M = .ok ((2,0,eB),aC (t :: r)):=by rw [← HM.out,cY,if_neg (by simpa [cg] using hs3),if_neg (by simp [i0]),if_neg (by simp [i1]),if_pos i2]
  subst e;clear HM;go_enter Tryz.func190,Tryz.ntmps190;go_wp2_with fail
  generalize w.alloc _=w1 at *;refine cR con fun w2 hb2=>?_;have hf2:=eL t.2.1 t.2.2 t.1 w2;have H2:=ah (H1.out.next hb2);have QZ2:=bH hb2 QZ0;have hx2:aj R w w2:=(aj.of hal ak).trans (.of hb2 ak);have hz2:=lt_of_heap QZ2;clear con;have HT0:=H2;have QT0:=QZ2;have hxt0:=hx2;have ct0:=aY HT0.out ⟨#[110,117,108,108]⟩;rw [i0,bT i0] at ct0;go_wp2_with fail
  refine ct0.mono ?_;rintro e wt1 ⟨rfl,ht,hbt1⟩;have HT1:=ah ht;have QT1:=(hbt1.2 _ (lt_of_heap QT0) ak).trans QT0;have hxt1:=hxt0.trans hbt1;have hzt1:=lt_of_heap QT1;clear ct0 ht;have ct1:=aY HT1.out ⟨#[116,114,117,101]⟩;rw [i1,bT i1] at ct1;go_wp2_with fail
  refine ct1.mono ?_;rintro e wt2 ⟨rfl,ht,hbt2⟩;have HT2:=ah ht;have QT2:=(hbt2.2 _ (lt_of_heap QT1) ak).trans QT1;have hxt2:=hxt1.trans hbt2;have hzt2:=lt_of_heap QT2;clear ct1 ht;have ct2:=aY HT2.out ⟨#[102,97,108,115,101]⟩;rw [i2,cG i2] at ct2;go_wp2_with fail
  refine ct2.mono ?_;rintro e wt3 ⟨rfl,ht,hbt3⟩;have HT3:=ah ht;have QT3:=(hbt3.2 _ (lt_of_heap QT2) ak).trans QT2;have hxt3:=hxt2.trans hbt3;have hzt3:=lt_of_heap QT3;clear ct2 ht;have cv:=vM wt3;go_wp2_with fail
  refine cR cv fun wv hbv=>?_;have QZ:=bH hbv QT3;have HRF:=ah (HT3.out.next hbv);have hxF:=hxt3.trans (.of hbv (by have:=hxt3.size; omega));clear cv hf2;obtain ⟨z0,z1,z2⟩:=bD QZ;obtain ⟨y0,y1,y2⟩:=iS QZ;go_wp2_with fail
  obtain ⟨QE,hRE,hbE⟩:=my (w:=w) QZ HRF.out hxF (I6 _) hltR hltT (2:Int) aB ();generalize (((wv.setCell (af w 0) (2:Int)).setCell (af w 1) aB).setCell (af w 2) ())=wE at *;obtain ⟨x0,x1,x2⟩:=bD QE;exact I7 (v:=.agg #[(2:Int),aB,()]) (by simp [results,Tryz.results190,go_sem,x0,x1,x2]) rfl (Ends.cK (x:=(2,0,eB)) rfl hbE rfl hRE)
 have HM2:Hid (aK (dv (-1000000000000000) 1000000000000000 (t :: r)) (fun n r=>.ok ((3,n,eB),r))=M):=by
  have:=HM.out;rw [cY,if_neg (by simpa [cg] using hs3),if_neg (by simp [i0]),if_neg (by simp [i1]),if_neg (by simp [i2])] at this;exact this
 clear HM;go_enter Tryz.func190,Tryz.ntmps190;go_wp2_with fail
 generalize w.alloc _=w1 at *;refine cR con fun w2 hb2=>?_;have hf2:=eL t.2.1 t.2.2 t.1 w2;have H2:=ah (H1.out.next hb2);have QZ2:=bH hb2 QZ0;have hx2:aj R w w2:=(aj.of hal ak).trans (.of hb2 ak);have hz2:=lt_of_heap QZ2;clear con;have HT0:=H2;have QT0:=QZ2;have hxt0:=hx2;have ct0:=aY HT0.out ⟨#[110,117,108,108]⟩;rw [i0,bT i0] at ct0;go_wp2_with fail
 refine ct0.mono ?_;rintro e wt1 ⟨rfl,ht,hbt1⟩;have HT1:=ah ht;have QT1:=(hbt1.2 _ (lt_of_heap QT0) ak).trans QT0;have hxt1:=hxt0.trans hbt1;have hzt1:=lt_of_heap QT1;clear ct0 ht;have ct1:=aY HT1.out ⟨#[116,114,117,101]⟩;rw [i1,bT i1] at ct1;go_wp2_with fail
 refine ct1.mono ?_;rintro e wt2 ⟨rfl,ht,hbt2⟩;have HT2:=ah ht;have QT2:=(hbt2.2 _ (lt_of_heap QT1) ak).trans QT1;have hxt2:=hxt1.trans hbt2;have hzt2:=lt_of_heap QT2;clear ct1 ht;have ct2:=aY HT2.out ⟨#[102,97,108,115,101]⟩;rw [i2,bT i2] at ct2;go_wp2_with fail
 refine ct2.mono ?_;rintro e wt3 ⟨rfl,ht,hbt3⟩;have HT3:=ah ht;have QT3:=(hbt3.2 _ (lt_of_heap QT2) ak).trans QT2;have hxt3:=hxt2.trans hbt3;have hzt3:=lt_of_heap QT3;clear ct2 ht;have cn:=qU HT3.out (-1000000000000000) 1000000000000000;have hrg:∀ n r',dv (-1000000000000000) 1000000000000000 (t :: r) = .ok (n,r') → -1000000000000000≤n∧n≤1000000000000000:=fun _ _ h=>se h
 generalize dv (-1000000000000000) 1000000000000000 (t :: r)=L at *;go_wp2_with fail
 refine cn.mono ?_;rintro e wn ⟨hbn,hW⟩;have hxn:=hxt3.trans hbn;have QN:=(hbn.2 _ (lt_of_heap QT3) ak).trans QT3;clear cn hf2;rcases L with ce | ⟨nn,rs⟩
 ·obtain ⟨rfl,us,hE⟩:=hW;have HE:=ah hE;clear hE;have e:=HM2.out.symm;subst e;clear HM2;go_wp2_with fail
  exact ⟨rfl,Ends.err rfl hxn HE.out⟩
 obtain ⟨v,rfl,rfl,hRn⟩:=hW;have HRn:=ah hRn;have e:=HM2.out.symm;subst e;have hrg2:=hrg nn rs rfl;have cv:=DD hrg2.1 hrg2.2 wn;clear HM2 hRn hrg;go_wp2_with fail
 refine cR cv fun wv hbv=>?_;have QZ:=bH hbv QN;have HRF:=ah (HRn.out.next hbv);have hxF:=hxn.trans (.of hbv (by have:=hxn.size; omega));clear cv;obtain ⟨z0,z1,z2⟩:=bD QZ;obtain ⟨y0,y1,y2⟩:=iS QZ;go_wp2_with fail
 obtain ⟨QE,hRE,hbE⟩:=my (w:=w) QZ HRF.out hxF (I6 _) hltR hltT (3:Int) nn ();generalize (((wv.setCell (af w 0) (3:Int)).setCell (af w 1) nn).setCell (af w 2) ())=wE at *;obtain ⟨x0,x1,x2⟩:=bD QE;exact I7 (v:=.agg #[(3:Int),nn,()]) (by simp [results,Tryz.results190,go_sem,x0,x1,x2]) rfl (Ends.cK (x:=(3,nn,eB)) rfl hbE rfl hRE)
theorem dh.of {W:World} {g:Nat} {l:List ByteArray} {T:TypeId} (h:W.heap[g]? = some (.cells (l.map Value.string).toArray T (0,0))):dh W g 0 l :=
 ⟨lt_of_heap h,fun i hi=>by rw [Jm]; exact cell_of (i:=i) h (by simp [hi])⟩
def yA:List (Int × ByteArray):=[(20,⟨#[99,111,117,110,116]⟩),(21,⟨#[115,117,109]⟩),(22,⟨#[109,105,110]⟩),(23,⟨#[109,97,120]⟩)]
def lV (n:Nat) (o:Int) (ts:List Tk):List (Int × ByteArray)→PR SX
 | []=>dD ts
 | a :: r=>if bK a.2 ts then ia n a.1 o (aC ts) else lV n o ts r
abbrev Gh:Array Value:=#[(20:Int),.string ⟨#[99,111,117,110,116]⟩,(21:Int),.string ⟨#[115,117,109]⟩,(22:Int),.string ⟨#[109,105,110]⟩,(23:Int),.string ⟨#[109,97,120]⟩]
theorem Dk (w:World):Calls Tryz.prog 175 #[] w fun e w'=>e = .returned (.slice (some (af w 0)) 4 4)∧w'=w.alloc (.cells Gh 168):=by
 go_enter Tryz.func175,Tryz.ntmps175;go_wp2_with fail
 exact fa rfl rfl ⟨fQ,fQ⟩
theorem Fa {W:World} {g:Nat} {T:TypeId} (h:W.heap[g]? = some (.cells Gh T (0,0))) (k:Nat) (hk:k<yA.length):W.cell? ⟨g,k*2,none⟩=some (.int .i64 yA[k].1)∧W.cell? ⟨g,k*2+1,none⟩=some (.string yA[k].2):=by
 have hk4:k<4:=hk;obtain rfl | rfl | rfl | rfl:k=0∨k=1∨k=2∨k=3:=by omega
 ·exact ⟨cell_of (i:=0) h rfl,cell_of (i:=1) h rfl⟩
 ·exact ⟨cell_of (i:=2) h rfl,cell_of (i:=3) h rfl⟩
 ·exact ⟨cell_of (i:=4) h rfl,cell_of (i:=5) h rfl⟩
 ·exact ⟨cell_of (i:=6) h rfl,cell_of (i:=7) h rfl⟩
theorem vn {n:Nat} {o:Int} (he:mD 164 [] (dy n o) o) (hes:∀ m,m+1≤n→∀ k,k≤m→mD 164 [] (dy k o) o) (hag:∀ kind,mD 246 [.int .i64 kind] (ia n kind o) o):mD 234 [] (cI (n+1) o) o:=by
 intro w R tb ts h hf;rw [cI] at hf ⊢;have hltR:=h.lt;have hltT:=h.lK;obtain ⟨hal,QZ0⟩:=dZ w gQ 55;have hz0:=lt_of_heap QZ0;have con:=zj (h.next hal);have H1:=ah (h.next hal);have HE:=ah he;have HES:=ah hes;have HAG:=ah hag;clear he hes hag h;rcases ib:dG ts with _ | _
 case true =>
  rw [ib] at con;simp only [ib,if_true] at hf ⊢;generalize hM:aK (cY ts) (fun v r=>Except.ok (SX.mk 1 v eB eB [],r))=M at *;have HM:=ah hM;clear hM hf;go_enter Tryz.func234,Tryz.ntmps234;go_wp2_with fail
  generalize w.alloc _=w1 at *;refine cR con fun w2 hb2=>?_;have con2:=nR (H1.out.next hb2);have QZ2:=bH hb2 QZ0;have hx2:aj R w w2:=(aj.of hal ak).trans (.of hb2 ak);generalize cY ts=L at *;clear con;go_wp2_with fail
  refine con2.mono ?_;rintro e w3 ⟨hb3,hW⟩;have hx3:=hx2.trans hb3;have QZ:=(hb3.2 _ (lt_of_heap QZ2) ak).trans QZ2;clear con2;rcases L with ce | ⟨lv,rs⟩
  ·obtain ⟨rfl,us,hE⟩:=hW;have HEr:=ah hE;clear hE;have e:=HM.out.symm;subst e;clear HM;go_wp2_with fail
   exact ⟨rfl,Ends.err rfl hx3 HEr.out⟩
  obtain ⟨v,rfl,rfl,hR3⟩:=hW;have HR3:=ah hR3;have e:=HM.out.symm;subst e;obtain ⟨z0,z1,z2,z3,z4,z5,z6⟩:=aN QZ;obtain ⟨y0,y1,y2,y3,y4,y5,y6⟩:=dT QZ;clear HM hR3;go_wp2_with fail
  obtain ⟨QE,hRE,hKE,hbE⟩:=dR (w:=w) (x:=.mk 1 lv eB eB []) (a:=none) (cap:=0) (B:=w.heap.size+1) QZ HR3.out (aJ.nil _) hx3 (I6 _) ak hltR hltT;change (((((((w3.setCell (af w 0) (1:Int)).setCell (af w 1) lv.1).setCell (af w 2) lv.2.1).setCell (af w 3) lv.2.2).setCell (af w 4) ()).setCell (af w 5) ()).setCell (af w 6) aL).heap[w.heap.size]? = _ at QE
  change aR (((((((w3.setCell (af w 0) (1:Int)).setCell (af w 1) lv.1).setCell (af w 2) lv.2.1).setCell (af w 3) lv.2.2).setCell (af w 4) ()).setCell (af w 5) ()).setCell (af w 6) aL) R tb rs o at hRE
  change df _ (((((((w3.setCell (af w 0) (1:Int)).setCell (af w 1) lv.1).setCell (af w 2) lv.2.1).setCell (af w 3) lv.2.2).setCell (af w 4) ()).setCell (af w 5) ()).setCell (af w 6) aL) _ _ at hKE
  change aj R w (((((((w3.setCell (af w 0) (1:Int)).setCell (af w 1) lv.1).setCell (af w 2) lv.2.1).setCell (af w 3) lv.2.2).setCell (af w 4) ()).setCell (af w 5) ()).setCell (af w 6) aL) at hbE
  generalize (((((((w3.setCell (af w 0) (1:Int)).setCell (af w 1) lv.1).setCell (af w 2) lv.2.1).setCell (af w 3) lv.2.2).setCell (af w 4) ()).setCell (af w 5) ()).setCell (af w 6) aL)=wE at *;obtain ⟨x0,x1,x2,x3,x4,x5,x6⟩:=aN QE;exact I7 (v:=.agg (bE (.mk 1 lv eB eB []) none 0)) (by simp [results,Tryz.results234,go_sem,x0,x1,x2,x3,x4,x5,x6]) rfl (Ends.cK rfl hbE ⟨_,0,rfl,hKE.mono ak⟩ hRE)
 rw [ib] at con;simp only [ib,Jd,if_false] at hf ⊢;rcases i0:bK ⟨#[40]⟩ ts with _ | _
 case true =>
  simp only [i0,if_true] at hf ⊢;have hne:dy n o (aC ts)≠eG:=fun hc=>hf (by rw [hc]; rfl)
  generalize hM:aK (dy n o (aC ts)) _=M at *;have HM:=ah hM;clear hM hf;go_enter Tryz.func234,Tryz.ntmps234;go_wp2_with fail
  generalize w.alloc _=w1 at *;refine cR con fun w2 hb2=>?_;have HT0:=ah (H1.out.next hb2);have QT0:=bH hb2 QZ0;have hxt0:aj R w w2:=(aj.of hal ak).trans (.of hb2 ak);have hzt0:=lt_of_heap QT0;clear con;have ct0:=aY HT0.out ⟨#[40]⟩;rw [i0,cG i0] at ct0;go_wp2_with fail
  refine ct0.mono ?_;rintro e wt1 ⟨rfl,ht,hbt1⟩;have HT1:=ah ht;have QT1:=(hbt1.2 _ (lt_of_heap QT0) ak).trans QT0;have hxt1:=hxt0.trans hbt1;have hzt1:=lt_of_heap QT1;clear ct0 ht;have con3:=HE.out wt1 R tb (aC ts) HT1.out hne;generalize dy n o (aC ts)=L at *;clear hne;go_wp2_with fail
  refine con3.mono ?_;rintro e w4 ⟨hb4,hW⟩;have hx4:=hxt1.trans hb4;have QZ4:=(hb4.2 _ (lt_of_heap QT1) ak).trans QT1;have hz4:=lt_of_heap QZ4;clear con3;rcases L with ce | ⟨x,rs⟩
  ·obtain ⟨rfl,us,hE⟩:=hW;have HEr:Hid (aR w4 R tb us o):=hE;clear hE;have e:M = .error ce:=HM.out.symm;subst e;clear HM;go_wp2_with fail
   exact ⟨rfl,Ends.err rfl hx4 HEr.out⟩
  obtain ⟨v,rfl,⟨a,c,rfl,hks⟩,hR4⟩:=hW;have HL:Hid (aK (aV [⟨#[41]⟩] rs) (fun _ r2=>.ok (x,r2))=M):=HM.out;have hal5:=bR w4 (.cells (bE x a c) 55);have QX5:=aD w4 (bE x a c) 55;have QZ5:=bH hal5 QZ4;have h5:=hR4.next hal5;have HK5:Hid (df (w+1) (w4.alloc (.cells (bE x a c) 55)) a x.ks):=df.next hal5 (df.mono ak hks)
  have hal6:Below (w4.alloc (.cells (bE x a c) 55)).heap.size (w4.alloc (.cells (bE x a c) 55)) ((w4.alloc (.cells (bE x a c) 55)).alloc (.cells #[.string ⟨#[41]⟩] 9)):=bR ..;have hst:dh ((w4.alloc (.cells (bE x a c) 55)).alloc (.cells #[.string ⟨#[41]⟩] 9)) (w4+1) 0 [⟨#[41]⟩]:=by
   have:=dh.one (w4.alloc (.cells (bE x a c) 55)) ⟨#[41]⟩ 9;rw [show (w4.alloc (.cells (bE x a c) 55)).heap.size=w4.heap.size+1 by simp] at this;exact this
  have con6:=de (cap:=1) (h5.next hal6) hst ak (by simp);have hx5:aj R w (w4.alloc (.cells (bE x a c) 55)):=hx4.trans (.of hal5 ak);have hz5:=lt_of_heap QX5;generalize aV [⟨#[41]⟩] rs=L2 at *;clear HM hR4 hks h5 hst;go_wp2_with fail
  generalize (w4.alloc (.cells (bE x a c) 55)).alloc (.cells #[.string ⟨#[41]⟩] 9)=w6 at *;generalize w4.alloc (.cells (bE x a c) 55)=w5 at *;refine con6.mono ?_;rintro e w7 ⟨hb7,hW⟩;have hx57:aj R w5 w7:=(aj.of hal6 ak).trans hb7;have hx7:=hx5.trans hx57;have QX7:=(hx57.2 _ (lt_of_heap QX5) ak).trans QX5;have QZ:=(hx57.2 _ (lt_of_heap QZ5) ak).trans QZ5;have HK7:Hid (df (w+1) w7 a x.ks):=df.k1 hx57.k1 ak HK5.out;clear con6;rcases L2 with ce | ⟨u2,r2⟩
  ·obtain ⟨rfl,us,hE⟩:=hW;have HEr:Hid (aR w7 R tb us o):=hE;clear hE;have e:M = .error ce:=HL.out.symm;subst e;clear HL;go_wp2_with fail
   exact ⟨rfl,Ends.err rfl hx7 HEr.out⟩
  obtain ⟨v,rfl,rfl,hR7⟩:=hW;have HR7:Hid (aR w7 R tb r2 o):=hR7;have e:M = .ok (x,r2):=HL.out.symm;subst e;obtain ⟨u0,u1,u2,u3,u4,u5,u6⟩:=aN QX7;obtain ⟨z0,z1,z2,z3,z4,z5,z6⟩:=aN QZ;obtain ⟨y0,y1,y2,y3,y4,y5,y6⟩:=dT QZ;clear HL hR7;go_wp2_with fail
  obtain ⟨QE,hRE,hKE,hbE⟩:=dR (w:=w) (cap:=c) QZ HR7.out HK7.out hx7 (I6 _) ak hltR hltT;generalize (((((((w7.setCell (af w 0) x.k).setCell (af w 1) x.v.1).setCell (af w 2) x.v.2.1).setCell (af w 3) x.v.2.2).setCell (af w 4) x.bp).setCell (af w 5) x.name).setCell (af w 6) (.slice a x.ks.length c))=wE at *;obtain ⟨x0,x1,x2,x3,x4,x5,x6⟩:=aN QE
  exact I7 (v:=.agg (bE x a c)) (by simp [results,Tryz.results234,go_sem,x0,x1,x2,x3,x4,x5,x6]) rfl (Ends.cK rfl hbE ⟨a,c,rfl,hKE.mono ak⟩ hRE)
 simp only [i0,Jd,if_false] at hf ⊢;rcases i1:bK ⟨#[99,97,115,101]⟩ ts with _ | _
 case true =>
  simp only [i1,if_true] at hf ⊢;have hne:cB n o [⟨#[119,104,101,110]⟩,⟨#[116,104,101,110]⟩,⟨#[101,108,115,101]⟩,⟨#[101,110,100]⟩] (aC ts)≠eG:=fun hc=>hf (by rw [hc]; rfl)
  obtain ⟨m,rfl⟩:∃ m,n=m+1:=by
   cases n with
   | zero=>exact absurd (by rw [cB]) hne
   | succ m=>exact ⟨m,rfl⟩
  generalize hM:aK (cB (m+1) o [⟨#[119,104,101,110]⟩,⟨#[116,104,101,110]⟩,⟨#[101,108,115,101]⟩,⟨#[101,110,100]⟩] (aC ts)) _=M at *;have HM:=ah hM;clear hM hf;go_enter Tryz.func234,Tryz.ntmps234;go_wp2_with fail
  generalize w.alloc _=w1 at *;refine cR con fun w2 hb2=>?_;have HT0:=ah (H1.out.next hb2);have QT0:=bH hb2 QZ0;have hxt0:aj R w w2:=(aj.of hal ak).trans (.of hb2 ak);have hzt0:=lt_of_heap QT0;clear con;have ct0:=aY HT0.out ⟨#[40]⟩;rw [i0,bT i0] at ct0;go_wp2_with fail
  refine ct0.mono ?_;rintro e wt1 ⟨rfl,ht,hbt1⟩;have HT1:=ah ht;have QT1:=(hbt1.2 _ (lt_of_heap QT0) ak).trans QT0;have hxt1:=hxt0.trans hbt1;have hzt1:=lt_of_heap QT1;clear ct0 ht;have ct1:=aY HT1.out ⟨#[99,97,115,101]⟩;rw [i1,cG i1] at ct1;go_wp2_with fail
  refine ct1.mono ?_;rintro e wt2 ⟨rfl,ht,hbt2⟩;have HT2:=ah ht;have QT2:=(hbt2.2 _ (lt_of_heap QT1) ak).trans QT1;have hxt2:=hxt1.trans hbt2;have hzt2:=lt_of_heap QT2;clear ct1 ht;have hal3:=bR wt2 (.cells #[.string ⟨#[119,104,101,110]⟩,.string ⟨#[116,104,101,110]⟩,.string ⟨#[101,108,115,101]⟩,.string ⟨#[101,110,100]⟩] 9)
  have hst:dh (wt2.alloc (.cells #[.string ⟨#[119,104,101,110]⟩,.string ⟨#[116,104,101,110]⟩,.string ⟨#[101,108,115,101]⟩,.string ⟨#[101,110,100]⟩] 9)) wt2 0 (⟨#[119,104,101,110]⟩ :: [⟨#[116,104,101,110]⟩,⟨#[101,108,115,101]⟩,⟨#[101,110,100]⟩]):=dh.of (aD wt2 _ _);have con3:=na (n:=m) (cap:=4) (fun k hk=>HES.out m (I6 _) k hk) (HT2.out.next hal3) hst ak (by simp) (by simp) hne
  have hx3:aj R w (wt2.alloc (.cells #[.string ⟨#[119,104,101,110]⟩,.string ⟨#[116,104,101,110]⟩,.string ⟨#[101,108,115,101]⟩,.string ⟨#[101,110,100]⟩] 9)):=hxt2.trans (.of hal3 ak);have QZ3:=bH hal3 QT2;have hz3:=lt_of_heap QZ3;generalize cB (m+1) o [⟨#[119,104,101,110]⟩,⟨#[116,104,101,110]⟩,⟨#[101,108,115,101]⟩,⟨#[101,110,100]⟩] (aC ts)=L at *;clear hne hst;go_wp2_with fail
  generalize wt2.alloc _=w3 at *;refine con3.mono ?_;rintro e w4 ⟨hb4,hW⟩;have hx4:=hx3.trans hb4;have QZ4:=(hb4.2 _ (lt_of_heap QZ3) ak).trans QZ3;have hz4:=lt_of_heap QZ4;clear con3;rcases L with ce | ⟨l,rs⟩
  ·obtain ⟨rfl,us,hE⟩:=hW;have HEr:=ah hE;clear hE;have e:=HM.out.symm;subst e;clear HM;go_wp2_with fail
   exact ⟨rfl,Ends.err rfl hx4 HEr.out⟩
  obtain ⟨v,rfl,⟨a,c,rfl,hks⟩,hR4⟩:=hW;have HR4:=ah hR4;have HK4:=ah hks;have e:M = .ok (nd 17 l,rs):=HM.out.symm;subst e;have con5:=gF 17 a l.length c w4;clear HM hR4 hks;go_wp2_with fail
  refine cR con5 fun w6 hb6=>?_;have QZ:=bH hb6 QZ4;have hx6:aj R w w6:=hx4.trans (.of hb6 ak);have HR6:Hid (aR w6 R tb rs o):=HR4.out.next hb6;have HK6:Hid (df (w+1) w6 a l):=df.next hb6 (df.mono ak HK4.out);obtain ⟨z0,z1,z2,z3,z4,z5,z6⟩:=aN QZ;obtain ⟨y0,y1,y2,y3,y4,y5,y6⟩:=dT QZ;clear con5;go_wp2_with fail
  obtain ⟨QE,hRE,hKE,hbE⟩:=dR (w:=w) (x:=nd 17 l) (a:=a) (cap:=c) QZ HR6.out HK6.out hx6 (I6 _) ak hltR hltT;change (((((((w6.setCell (af w 0) (17:Int)).setCell (af w 1) aB).setCell (af w 2) aB).setCell (af w 3) ()).setCell (af w 4) ()).setCell (af w 5) ()).setCell (af w 6) (.slice a l.length c)).heap[w.heap.size]? = _ at QE
  change aR (((((((w6.setCell (af w 0) (17:Int)).setCell (af w 1) aB).setCell (af w 2) aB).setCell (af w 3) ()).setCell (af w 4) ()).setCell (af w 5) ()).setCell (af w 6) (.slice a l.length c)) R tb rs o at hRE
  change df _ (((((((w6.setCell (af w 0) (17:Int)).setCell (af w 1) aB).setCell (af w 2) aB).setCell (af w 3) ()).setCell (af w 4) ()).setCell (af w 5) ()).setCell (af w 6) (.slice a l.length c)) _ _ at hKE
  change aj R w (((((((w6.setCell (af w 0) (17:Int)).setCell (af w 1) aB).setCell (af w 2) aB).setCell (af w 3) ()).setCell (af w 4) ()).setCell (af w 5) ()).setCell (af w 6) (.slice a l.length c)) at hbE
  generalize (((((((w6.setCell (af w 0) (17:Int)).setCell (af w 1) aB).setCell (af w 2) aB).setCell (af w 3) ()).setCell (af w 4) ()).setCell (af w 5) ()).setCell (af w 6) (.slice a l.length c))=wE at *;obtain ⟨x0,x1,x2,x3,x4,x5,x6⟩:=aN QE;exact I7 (v:=.agg (bE (nd 17 l) a c)) (by simp [results,Tryz.results234,go_sem,x0,x1,x2,x3,x4,x5,x6]) rfl (Ends.cK rfl hbE ⟨a,c,rfl,hKE.mono ak⟩ hRE)
 simp only [i1,Jd,if_false] at hf ⊢;rcases i2:bK ⟨#[99,111,97,108,101,115,99,101]⟩ ts with _ | _
 case true =>
  simp only [i2,if_true] at hf ⊢;have hne:cB n o [⟨#[40]⟩,⟨#[44]⟩,⟨#[41]⟩] (aC ts)≠eG:=fun hc=>hf (by rw [hc]; rfl)
  obtain ⟨m,rfl⟩:∃ m,n=m+1:=by
   cases n with
   | zero=>exact absurd (by rw [cB]) hne
   | succ m=>exact ⟨m,rfl⟩
  generalize hM:aK (cB (m+1) o [⟨#[40]⟩,⟨#[44]⟩,⟨#[41]⟩] (aC ts)) _=M at *;have HM:=ah hM;clear hM hf;go_enter Tryz.func234,Tryz.ntmps234;go_wp2_with fail
  generalize w.alloc _=w1 at *;refine cR con fun w2 hb2=>?_;have HT0:=ah (H1.out.next hb2);have QT0:=bH hb2 QZ0;have hxt0:aj R w w2:=(aj.of hal ak).trans (.of hb2 ak);have hzt0:=lt_of_heap QT0;clear con;have ct0:=aY HT0.out ⟨#[40]⟩;rw [i0,bT i0] at ct0;go_wp2_with fail
  refine ct0.mono ?_;rintro e wt1 ⟨rfl,ht,hbt1⟩;have HT1:=ah ht;have QT1:=(hbt1.2 _ (lt_of_heap QT0) ak).trans QT0;have hxt1:=hxt0.trans hbt1;have hzt1:=lt_of_heap QT1;clear ct0 ht;have ct1:=aY HT1.out ⟨#[99,97,115,101]⟩;rw [i1,bT i1] at ct1;go_wp2_with fail
  refine ct1.mono ?_;rintro e wt2 ⟨rfl,ht,hbt2⟩;have HT2:=ah ht;have QT2:=(hbt2.2 _ (lt_of_heap QT1) ak).trans QT1;have hxt2:=hxt1.trans hbt2;have hzt2:=lt_of_heap QT2;clear ct1 ht;have ct2:=aY HT2.out ⟨#[99,111,97,108,101,115,99,101]⟩;rw [i2,cG i2] at ct2;go_wp2_with fail
  refine ct2.mono ?_;rintro e wt3 ⟨rfl,ht,hbt3⟩;have HT3:=ah ht;have QT3:=(hbt3.2 _ (lt_of_heap QT2) ak).trans QT2;have hxt3:=hxt2.trans hbt3;have hzt3:=lt_of_heap QT3;clear ct2 ht;have hal3:=bR wt3 (.cells #[.string ⟨#[40]⟩,.string ⟨#[44]⟩,.string ⟨#[41]⟩] 9);have hst:dh (wt3.alloc (.cells #[.string ⟨#[40]⟩,.string ⟨#[44]⟩,.string ⟨#[41]⟩] 9)) wt3 0 (⟨#[40]⟩ :: [⟨#[44]⟩,⟨#[41]⟩]):=dh.of (aD wt3 _ _)
  have con3:=na (n:=m) (cap:=3) (fun k hk=>HES.out m (I6 _) k hk) (HT3.out.next hal3) hst ak (by simp) (by simp) hne;have hx3:aj R w (wt3.alloc (.cells #[.string ⟨#[40]⟩,.string ⟨#[44]⟩,.string ⟨#[41]⟩] 9)):=hxt3.trans (.of hal3 ak);have QZ3:=bH hal3 QT3;have hz3:=lt_of_heap QZ3;generalize cB (m+1) o [⟨#[40]⟩,⟨#[44]⟩,⟨#[41]⟩] (aC ts)=L at *;clear hne hst;go_wp2_with fail
  generalize wt3.alloc _=w3 at *;refine con3.mono ?_;rintro e w4 ⟨hb4,hW⟩;have hx4:=hx3.trans hb4;have QZ4:=(hb4.2 _ (lt_of_heap QZ3) ak).trans QZ3;have hz4:=lt_of_heap QZ4;clear con3;rcases L with ce | ⟨l,rs⟩
  ·obtain ⟨rfl,us,hE⟩:=hW;have HEr:=ah hE;clear hE;have e:=HM.out.symm;subst e;clear HM;go_wp2_with fail
   exact ⟨rfl,Ends.err rfl hx4 HEr.out⟩
  obtain ⟨v,rfl,⟨a,c,rfl,hks⟩,hR4⟩:=hW;have HR4:=ah hR4;have HK4:=ah hks;have e:=HM.out.symm;subst e;have con5:=gF 18 a l.length c w4;clear HM hR4 hks;go_wp2_with fail
  refine cR con5 fun w6 hb6=>?_;have QZ:=bH hb6 QZ4;have hx6:aj R w w6:=hx4.trans (.of hb6 ak);have HR6:=ah (HR4.out.next hb6);have HK6:Hid (df (w+1) w6 a l):=df.next hb6 (df.mono ak HK4.out);obtain ⟨z0,z1,z2,z3,z4,z5,z6⟩:=aN QZ;obtain ⟨y0,y1,y2,y3,y4,y5,y6⟩:=dT QZ;clear con5;go_wp2_with fail
  obtain ⟨QE,hRE,hKE,hbE⟩:=dR (w:=w) (x:=nd 18 l) (a:=a) (cap:=c) QZ HR6.out HK6.out hx6 (I6 _) ak hltR hltT;change (((((((w6.setCell (af w 0) (18:Int)).setCell (af w 1) aB).setCell (af w 2) aB).setCell (af w 3) ()).setCell (af w 4) ()).setCell (af w 5) ()).setCell (af w 6) (.slice a l.length c)).heap[w.heap.size]? = _ at QE
  change aR (((((((w6.setCell (af w 0) (18:Int)).setCell (af w 1) aB).setCell (af w 2) aB).setCell (af w 3) ()).setCell (af w 4) ()).setCell (af w 5) ()).setCell (af w 6) (.slice a l.length c)) R tb rs o at hRE
  change df _ (((((((w6.setCell (af w 0) (18:Int)).setCell (af w 1) aB).setCell (af w 2) aB).setCell (af w 3) ()).setCell (af w 4) ()).setCell (af w 5) ()).setCell (af w 6) (.slice a l.length c)) _ _ at hKE
  change aj R w (((((((w6.setCell (af w 0) (18:Int)).setCell (af w 1) aB).setCell (af w 2) aB).setCell (af w 3) ()).setCell (af w 4) ()).setCell (af w 5) ()).setCell (af w 6) (.slice a l.length c)) at hbE
  generalize (((((((w6.setCell (af w 0) (18:Int)).setCell (af w 1) aB).setCell (af w 2) aB).setCell (af w 3) ()).setCell (af w 4) ()).setCell (af w 5) ()).setCell (af w 6) (.slice a l.length c))=wE at *;obtain ⟨x0,x1,x2,x3,x4,x5,x6⟩:=aN QE;exact I7 (v:=.agg (bE (nd 18 l) a c)) (by simp [results,Tryz.results234,go_sem,x0,x1,x2,x3,x4,x5,x6]) rfl (Ends.cK rfl hbE ⟨a,c,rfl,hKE.mono ak⟩ hRE)
 simp only [i2,Jd,if_false] at hf ⊢;change lV n o ts yA≠eG at hf;change Calls _ _ _ _ (Ends R tb o w (VX w) (lV n o ts yA));generalize hM:lV n o ts yA=M at *;have HM:=ah hM;have HF:=ah hf;clear hM hf;go_enter Tryz.func234,Tryz.ntmps234;go_wp2_with fail
 generalize w.alloc _=w1 at *;refine cR con fun w2 hb2=>?_;have HT0:=ah (H1.out.next hb2);have QT0:=bH hb2 QZ0;have hxt0:aj R w w2:=(aj.of hal ak).trans (.of hb2 ak);have hzt0:=lt_of_heap QT0;clear con;have ct0:=aY HT0.out ⟨#[40]⟩;rw [i0,bT i0] at ct0;go_wp2_with fail
 refine ct0.mono ?_;rintro e wt1 ⟨rfl,ht,hbt1⟩;have HT1:=ah ht;have QT1:=(hbt1.2 _ (lt_of_heap QT0) ak).trans QT0;have hxt1:=hxt0.trans hbt1;have hzt1:=lt_of_heap QT1;clear ct0 ht;have ct1:=aY HT1.out ⟨#[99,97,115,101]⟩;rw [i1,bT i1] at ct1;go_wp2_with fail
 refine ct1.mono ?_;rintro e wt2 ⟨rfl,ht,hbt2⟩;have HT2:=ah ht;have QT2:=(hbt2.2 _ (lt_of_heap QT1) ak).trans QT1;have hxt2:=hxt1.trans hbt2;have hzt2:=lt_of_heap QT2;clear ct1 ht;have ct2:=aY HT2.out ⟨#[99,111,97,108,101,115,99,101]⟩;rw [i2,bT i2] at ct2;go_wp2_with fail
 refine ct2.mono ?_;rintro e wt3 ⟨rfl,ht,hbt3⟩;have HT3:=ah ht;have QT3:=(hbt3.2 _ (lt_of_heap QT2) ak).trans QT2;have hxt3:=hxt2.trans hbt3;have hzt3:=lt_of_heap QT3;clear ct2 ht;have ca:=Dk wt3;obtain ⟨hal4,QA4⟩:=dZ wt3 Gh 168;have QZ4:=bH hal4 QT3;have hx4:aj R w (wt3.alloc (.cells Gh 168)):=hxt3.trans (.of hal4 ak);have H4:=ah (HT3.out.next hal4);go_wp2_with fail
 refine ca.mono ?_;rintro e w4 ⟨rfl,rfl⟩;generalize wt3.alloc _=w4 at *;clear ca;go_wp2_with fail
 go_loopw [37] (fun i wr=>∃ k:Nat,k≤4∧i = .int .i64 k∧Hid (lV n o ts (yA.drop k)=M)∧aj R w wr∧Hid (aR wr R tb ts o)∧wr.heap[w.heap.size]? = some (.cells gQ 55 (0,0))∧wr.heap[wt3.heap.size]? = some (.cells Gh 168 (0,0))) (fun i _=>4 - (RowKit.intOf i).toNat)
 case atStart=>exact ⟨0,by omega,rfl,HM,hx4,H4,QZ4,QA4⟩
 case round =>
  clear HM hx4 H4 QZ4 QA4;obtain ⟨k,hk,rfl,HL,hx,HR,QZr,QA⟩:=hrel;have hzr:=lt_of_heap QA;by_cases hlt:k<4
  ·have hkz:(k:Int)<4:=by omega
   have hkl:=hlt;obtain ⟨c0,c1⟩:=Fa QA k hkl;have HL2:Hid ((if bK yA[k].2 ts=true then ia n yA[k].1 o (aC ts) else lV n o ts (yA.drop (k+1)))=M):=by
    have:=HL.out;rw [I9 hkl,lV] at this;exact this
   clear HL;generalize yA[k]=a at *;obtain ⟨hal5,QC⟩:=dZ wr #[a.1,a.2] 168;have con5:=aY (HR.out.next hal5) a.2;rcases hi:bK a.2 ts with _ | _
   ·rw [hi,bT hi] at con5;have HL3:Hid (lV n o ts (yA.drop (k+1))=M):=by have:=HL2.out; rw [hi] at this; exact this
    clear HL2;go_wp2_with fail
    refine con5.mono ?_;rintro e w6 ⟨rfl,h6,hb6⟩;have hxr6:aj R wr w6:=(aj.of hal5 ak).trans hb6;have H6:=ah h6;have QZ6:=(hxr6.2 _ (lt_of_heap QZr) ak).trans QZr;have QA6:=(hxr6.2 _ (lt_of_heap QA) ak).trans QA;clear con5 h6 c0 c1;go_wp2_with fail
    go_roundw
    case rel=>exact ⟨k+1,by omega,by go_num,HL3,hx.trans hxr6,H6,QZ6,QA6⟩
    case measure=>simp [RowKit.intOf]; omega
   ·rw [hi,cG hi] at con5;have e:ia n a.1 o (aC ts)=M:=by have:=HL2.out; rw [hi] at this; exact this
    clear HL2;go_wp2_with fail
    refine con5.mono ?_;rintro e' w6 ⟨rfl,h6,hb6⟩;have hxr6:aj R wr w6:=(aj.of hal5 ak).trans hb6;have QZ6:=(hxr6.2 _ (lt_of_heap QZr) ak).trans QZr;have QC6:=(hb6.2 _ (lt_of_heap QC) ak).trans QC;have k0:=cell_of (i:=0) QC6 rfl;have con7:=HAG.out a.1 w6 R tb (aC ts) h6 (by rw [e]; exact HF.out);rw [e] at con7;have hx6:=hx.trans hxr6;have hz6:=lt_of_heap QZ6;clear con5 h6 c0 c1 e;go_wp2_with fail
    refine con7.mono ?_;rintro e' w7 ⟨hb7,hW⟩;have QZ:=(hb7.2 _ (lt_of_heap QZ6) ak).trans QZ6;clear con7;rcases M with c | ⟨x,rs⟩
    ·obtain ⟨rfl,us,hE⟩:=hW;have HE:=ah hE;clear hE;go_wp2_with fail
     exact ⟨rfl,Ends.err rfl (hx6.trans hb7) HE.out⟩
    ·obtain ⟨v,rfl,⟨a,cap,rfl,hks⟩,hRW⟩:=hW;obtain ⟨z0,z1,z2,z3,z4,z5,z6⟩:=aN QZ;obtain ⟨y0,y1,y2,y3,y4,y5,y6⟩:=dT QZ;have HRW:=ah hRW;have HKW:=ah hks;clear hRW hks;go_wp2_with fail
     obtain ⟨QE,hRE,hKE,hbE⟩:=dR (w:=w) (cap:=cap) QZ HRW.out HKW.out (hx6.trans hb7) ak ak hltR hltT;generalize (((((((w7.setCell (af w 0) x.k).setCell (af w 1) x.v.1).setCell (af w 2) x.v.2.1).setCell (af w 3) x.v.2.2).setCell (af w 4) x.bp).setCell (af w 5) x.name).setCell (af w 6) (.slice a x.ks.length cap))=wE at *;obtain ⟨x0,x1,x2,x3,x4,x5,x6⟩:=aN QE
     exact I7 (v:=.agg (bE x a cap)) (by simp [results,Tryz.results234,go_sem,x0,x1,x2,x3,x4,x5,x6]) rfl (Ends.cK rfl hbE ⟨a,cap,rfl,hKE.mono ak⟩ hRE)
  ·have hkz:¬ (k:Int)<4:=by omega
   have e:dD ts=M:=by have:=HL.out; rw [Jh (show yA.length≤k by show 4≤k; omega),lV] at this; exact this
   have con7:=p7 HR.out;rw [e] at con7;clear HL e;go_wp2_with fail
   refine con7.mono ?_;rintro e' w7 ⟨hb7,hW⟩;have QZ:=(hb7.2 _ (lt_of_heap QZr) ak).trans QZr;clear con7;rcases M with c | ⟨x,rs⟩
   ·obtain ⟨rfl,us,hE⟩:=hW;have HE:=ah hE;clear hE;go_wp2_with fail
    exact ⟨rfl,Ends.err rfl (hx.trans hb7) HE.out⟩
   ·obtain ⟨v,rfl,⟨a,cap,rfl,hks⟩,hRW⟩:=hW;obtain ⟨z0,z1,z2,z3,z4,z5,z6⟩:=aN QZ;obtain ⟨y0,y1,y2,y3,y4,y5,y6⟩:=dT QZ;have HRW:=ah hRW;have HKW:=ah hks;clear hRW hks;go_wp2_with fail
    obtain ⟨QE,hRE,hKE,hbE⟩:=dR (w:=w) (cap:=cap) QZ HRW.out HKW.out (hx.trans hb7) ak ak hltR hltT;generalize (((((((w7.setCell (af w 0) x.k).setCell (af w 1) x.v.1).setCell (af w 2) x.v.2.1).setCell (af w 3) x.v.2.2).setCell (af w 4) x.bp).setCell (af w 5) x.name).setCell (af w 6) (.slice a x.ks.length cap))=wE at *;obtain ⟨x0,x1,x2,x3,x4,x5,x6⟩:=aN QE
    exact I7 (v:=.agg (bE x a cap)) (by simp [results,Tryz.results234,go_sem,x0,x1,x2,x3,x4,x5,x6]) rfl (Ends.cK rfl hbE ⟨a,cap,rfl,hKE.mono ak⟩ hRE)
structure Hj (n:Nat):Prop where
 ex:∀ o,0≤o∧o≤100→mD 164 [] (dy n o) o
 lv:∀ lvl o,2≤lvl∧lvl≤8→0≤o∧o≤100→mD 219 [.int .i64 lvl] (dj n lvl o) o
 ch:∀ lvl o,1≤lvl∧lvl≤7→0≤o∧o≤100→mD 197 [.int .i64 lvl] (cd n lvl o) o
 dn:∀ o,0≤o∧o≤100→mD 233 [] (cJ n o) o
 cm:∀ o,0≤o∧o≤100→mD 243 [] (b7 n o) o
 pc:∀ o,0≤o∧o≤100→mD 234 [] (cI n o) o
 ag:∀ kind o,0≤o∧o≤100→mD 246 [.int .i64 kind] (ia n kind o) o
theorem He (n:Nat):Hj n:=by
 induction n using Nat.strongRecOn with
 | _ n ih =>
  cases n with
  | zero =>
   refine ⟨fun o _ w R tb ts h hf=>?_,fun lvl o _ _ w R tb ts h hf=>?_,fun lvl o _ _ w R tb ts h hf=>?_,fun o _ w R tb ts h hf=>?_,fun o _ w R tb ts h hf=>?_,fun o _ w R tb ts h hf=>?_,fun kind o _ w R tb ts h hf=>?_⟩
   ·exact absurd (by rw [dy]) hf
   ·exact absurd (by rw [dj]) hf
   ·exact absurd (by rw [cd]) hf
   ·exact absurd (by rw [cJ]) hf
   ·exact absurd (by rw [b7]) hf
   ·exact absurd (by rw [cI]) hf
   ·exact absurd (by rw [ia]) hf
  | succ n =>
   have A:=fun m (h:m≤n)=>ih m ak
   exact ⟨fun o ho=>xS ho (fun h=>(A n (I6 _)).ch 1 (o+1) ak ak),
    fun lvl o hl ho=>vN (fun _=>(A n (I6 _)).dn o ho) (fun _=>(A n (I6 _)).pc o ho) (fun h3 h8=>(A n (I6 _)).ch lvl o ak ho),
    fun lvl o hl ho=>vF hl (fun m hm=>(A m hm).lv (lvl+1) o ak ho),
    fun o ho=>tZ ho (fun h=>(A n (I6 _)).dn (o+1) ak) ((A n (I6 _)).cm o ho),
    fun o ho=>pS ((A n (I6 _)).ch 5 o ak ho),
    fun o ho=>vn ((A n (I6 _)).ex o ho) (fun m hm k hk=>(A k ak).ex o ho) (fun kind=>(A n (I6 _)).ag kind o ho),
    fun kind o ho=>AB ((A n (I6 _)).ex o ho)⟩
end Go.Proofs.YtoknmnngaackkaaGreatDoor
namespace Go.Proofs.YtoknmnngaackkaaGreatDoor
set_option maxRecDepth 100000
set_option maxHeartbeats 16000000
def Gs {α:Type} (L:Nat) (r:PR α):Prop :=
 match r with
 | .error e=>e≠(-1,0)
 | .ok (_,t)=>t.length<L
theorem Gs.aK {α β:Type} {L1 L2:Nat} {r:PR α} {k:α→List Tk→PR β} (h:Gs L1 r) (hk:∀ x t,t.length<L1→Gs L2 (k x t)):Gs L2 (aK r k):=by
 rcases r with e | ⟨x,t⟩
 ·exact h
 ·exact hk x t h
theorem Gs.mono {α:Type} {L1 L2:Nat} {r:PR α} (h:Gs L1 r) (hl:L1≤L2):Gs L2 r:=by
 rcases r with e | ⟨x,t⟩
 ·exact h
 ·exact Ja (show t.length<L1 from h) hl
theorem Gs.ne {α:Type} {L:Nat} {r:PR α} (h:Gs L r):r≠eG:=by
 rintro rfl;exact h rfl
theorem jH (ts:List Tk):(aC ts).length≤ts.length:=by
 cases ts with
 | nil=>exact I6 _
 | cons t r=>rw [aC]; split <;> simp
theorem mc {ts:List Tk} (h:(cg ts).1≠5):(aC ts).length<ts.length:=by
 cases ts with
 | nil=>exact absurd rfl h
 | cons t r=>rw [aC,if_neg (show ¬ t.1=5 from h)]; simp
theorem iu {s:ByteArray} {ts:List Tk} (h:bK s ts=true):(aC ts).length<ts.length:=by
 refine mc fun h5=>?_
 simp [bK,h5] at h
theorem jb:∀ (l:List ByteArray) (ts:List Tk),Gs (ts.length+1) (aV l ts)
 | [],ts=>Nat.lt_succ_self _
 | s :: l,ts=>by
  rw [aV]
  split
  ·exact (jb l (aC ts)).mono (Nat.succ_le_succ (jH ts))
  ·show (_:Int × Int)≠_; simp
theorem xq (ts:List Tk):Gs ts.length (dt ts):=by
 rw [dt]
 split
 ·show (_:Int × Int)≠_; simp
 ·rename_i h
  split
  ·show (_:Int × Int)≠_; simp
  ·exact mc (by simp at h; omega)
theorem yg (a b:Int) (ts:List Tk):Gs ts.length (dv a b ts):=by
 unfold dv;simp only;have hle:(if bK ⟨#[45]⟩ ts=true then aC ts else ts).length≤ts.length:=by split; exact jH _; exact I6 _
 generalize (if bK ⟨#[45]⟩ ts=true then aC ts else ts)=ts1 at *;generalize (if bK ⟨#[45]⟩ ts=true then -bS (cg ts1).2.1 else bS (cg ts1).2.1)=m
 split
 ·show (_:Int × Int)≠_; simp
 ·rename_i h
  split
  ·show (_:Int × Int)≠_; simp
  ·exact Ja (mc (by simp at h; omega)) hle
theorem Cg (ts:List Tk):Gs ts.length (cY ts):=by
 rw [cY]
 split
 ·rename_i h; exact mc ak
 ·split
  ·rename_i h; exact iu h
  ·split
   ·rename_i h; exact iu h
   ·split
    ·rename_i h; exact iu h
    ·exact (yg _ _ ts).aK fun x t h=>h
theorem pq (lvl:Int) (ts:List Tk):∀ l:List (Int × ByteArray × Int),(dP lvl ts l).1≠0→(dP lvl ts l).2.length<ts.length
 | [],h=>absurd rfl h
 | i :: r,h=>by
  rw [dP] at h ⊢
  split
  ·rename_i hc; exact iu hc.2
  ·rename_i hc; rw [if_neg hc] at h; exact pq lvl ts r h
theorem yK (x:SX) (ts:List Tk):Gs (ts.length+1) (fF x ts):=by
 have hle:(if bK ⟨#[110,111,116]⟩ ts=true then aC ts else ts).length≤ts.length:=by split; exact jH _; exact I6 _
 exact ((jb _ _).mono (Nat.succ_le_succ hle)).aK fun _ t h=>h
theorem pU (ts:List Tk):Gs ts.length (dD ts):=by
 refine (xq ts).aK fun n r h=>?_
 try simp only
 split
 ·exact ((xq (aC r)).mono (Jj (jH r) (Jb h))).aK fun m r2 h2=>h2
 ·exact h
def Ck (lvl:Int):Nat:=if lvl=1 then 13 else if lvl=2 then 11 else if lvl=5 then 7 else if lvl=6 then 5 else 3
def Co (lvl:Int):Nat:=if lvl=2 then 12 else if lvl=3 then 10 else if lvl=6 then 6 else if lvl=7 then 4 else 2
structure Fl (n:Nat):Prop where
 ex:∀ o (ts:List Tk),20*ts.length+14≤n→Gs ts.length (dy n o ts)
 lv:∀ lvl o (ts:List Tk),lvl=2∨lvl=3∨lvl=6∨lvl=7∨lvl=8→20*ts.length+Co lvl≤n→Gs ts.length (dj n lvl o ts)
 ch:∀ lvl o (ts:List Tk),lvl=1∨lvl=2∨lvl=5∨lvl=6∨lvl=7→20*ts.length+Ck lvl≤n→Gs ts.length (cd n lvl o ts)
 lp:∀ lvl o x (ts:List Tk),lvl=1∨lvl=2∨lvl=5∨lvl=6∨lvl=7→20*ts.length+1≤n→Gs (ts.length+1) (fI n lvl o x ts)
 dn:∀ o (ts:List Tk),20*ts.length+9≤n→Gs ts.length (cJ n o ts)
 cm:∀ o (ts:List Tk),20*ts.length+8≤n→Gs ts.length (b7 n o ts)
 pc:∀ o (ts:List Tk),20*ts.length+1≤n→Gs ts.length (cI n o ts)
 bh:∀ o s l (ts:List Tk),20*ts.length+16≤n→Gs (ts.length+1) (cB n o (s :: l) ts)
 es:∀ o l acc (ts:List Tk),20*ts.length+15≤n→Gs (ts.length+1) (dk n o l acc ts)
 ag:∀ kind o (ts:List Tk),20*ts.length+15≤n→Gs (ts.length+1) (ia n kind o ts)
theorem fl (n:Nat):Fl n:=by
 induction n with
 | zero=>exact ⟨fun _ _ h=>by omega,fun lvl _ _ hl h=>by rcases hl with rfl | rfl | rfl | rfl | rfl <;> simp [Co] at h,fun lvl _ _ hl h=>by rcases hl with rfl | rfl | rfl | rfl | rfl <;> simp [Ck] at h,fun _ _ _ _ _ h=>by omega,fun _ _ h=>by omega,fun _ _ h=>by omega,fun _ _ h=>by omega,fun _ _ _ _ h=>by omega,fun _ _ _ _ h=>by omega,fun _ _ _ h=>by omega⟩
 | succ n A =>
  have hch:∀ lvl:Int,lvl=1∨lvl=2∨lvl=5∨lvl=6∨lvl=7→(lvl+1=2∨lvl+1=3∨lvl+1=6∨lvl+1=7∨lvl+1=8)∧Co (lvl+1)+1=Ck lvl∧Co (lvl+1)≤12:=by
   rintro lvl (rfl | rfl | rfl | rfl | rfl) <;> simp [Co,Ck]
  refine ⟨fun o ts h=>?_,fun lvl o ts hl h=>?_,fun lvl o ts hl h=>?_,fun lvl o x ts hl h=>?_,fun o ts h=>?_,fun o ts h=>?_,fun o ts h=>?_,fun o s l ts h=>?_,fun o l acc ts h=>?_,fun kind o ts h=>?_⟩
  ·rw [dy]
   split
   ·show (_:Int × Int)≠_; simp
   ·exact A.ch 1 _ ts (.inl rfl) (by simp [Ck]; omega)
  ·rw [dj]
   split
   ·rename_i h3; subst h3; exact A.dn o ts (by simp [Co] at h; omega)
   ·split
    ·rename_i h8; subst h8; exact A.pc o ts (by simp [Co] at h; omega)
    ·rcases hl with rfl | rfl | rfl | rfl | rfl
     ·exact A.ch 2 o ts ak (by simp [Co] at h; simp [Ck]; omega)
     ·contradiction
     ·exact A.ch 6 o ts ak (by simp [Co] at h; simp [Ck]; omega)
     ·exact A.ch 7 o ts ak (by simp [Co] at h; simp [Ck]; omega)
     ·contradiction
  ·rw [cd];obtain ⟨h1,h2,h3⟩:=hch lvl hl;exact (A.lv (lvl+1) o ts h1 ak).aK fun x r hr=>(A.lp lvl o x r hl ak).mono ak
  ·rw [fI];obtain ⟨h1,h2,h3⟩:=hch lvl hl
   split
   ·exact Nat.lt_succ_self _
   ·rename_i hs
    have hlt:=pq lvl ts dV hs;have hlt':(cC lvl ts).2.length<ts.length:=hlt;exact (A.lv (lvl+1) o _ h1 ak).aK fun y r hr=>(A.lp lvl o _ r hl ak).mono ak
  ·rw [cJ]
   split
   ·rename_i hi
    have hlt:=iu hi;refine Gs.aK (L1:=ts.length) ?_ fun x r hr=>hr
    split
    ·show (_:Int × Int)≠_; simp
    ·exact (A.dn _ _ ak).mono ak
   ·exact A.cm o ts ak
  ·rw [b7];refine (A.ch 5 o ts ak (by simp [Ck]; omega)).aK fun x r hr=>?_
   try simp only
   split
   ·exact (yK x (aC r)).mono (by have:=jH r; omega)
   ·split
    ·exact hr
    ·rename_i hs
     have hlt:(cC 4 r).2.length<r.length:=pq 4 r dV hs;exact (A.ch 5 o _ ak (by simp [Ck]; omega)).aK fun y r2 h2=>by show r2.length<_; omega
  ·rw [cI]
   split
   ·exact (Cg ts).aK fun v r h=>h
   ·split
    ·rename_i hi
     have hlt:=iu hi;exact (A.ex o _ ak).aK fun x r hr=>((jb _ r).mono (show r.length+1≤ts.length by omega)).aK fun _ r2 h2=>h2
    ·split
     ·rename_i hi
      have hlt:=iu hi;exact ((A.bh o _ _ _ ak).mono (show _≤ts.length by omega)).aK fun l r hr=>hr
     ·split
      ·rename_i hi
       have hlt:=iu hi;exact ((A.bh o _ _ _ ak).mono (show _≤ts.length by omega)).aK fun l r hr=>hr
      ·split
       ·rename_i hi; have hlt:=iu hi; exact (A.ag 20 o _ ak).mono ak
       ·split
        ·rename_i hi; have hlt:=iu hi; exact (A.ag 21 o _ ak).mono ak
        ·split
         ·rename_i hi; have hlt:=iu hi; exact (A.ag 22 o _ ak).mono ak
         ·split
          ·rename_i hi; have hlt:=iu hi; exact (A.ag 23 o _ ak).mono ak
          ·exact pU ts
  ·rw [cB];exact (jb _ ts).aK fun _ r hr=>(A.es o l [] r ak).mono ak
  ·cases l with
   | nil=>rw [dk]; exact Nat.lt_succ_self _
   | cons s l =>
    rw [dk];exact (A.ex o ts ak).aK fun x r hr=>(jb _ r).aK fun _ r2 h2=>(A.es o l _ r2 ak).mono ak
  ·rw [ia];refine (jb _ ts).aK fun _ r hr=>?_
   try simp only
   split
   ·exact ((jb _ (aC r)).mono (show _≤ts.length+1 by have:=jH r; omega)).aK fun _ r2 h2=>h2
   ·exact (A.ex o r ak).aK fun x r2 h2=>((jb _ r2).mono (show _≤ts.length+1 by omega)).aK fun _ r3 h3=>h3
theorem Ho {ts:List Tk} (h:ts.length≤4001):Gs ts.length (eP ts):=(fl DZ).ex 0 ts (by unfold DZ; omega)
end Go.Proofs.YtoknmnngaackkaaGreatDoor
namespace Go.Proofs.YtoknmnngaackkaaGreatDoor
open Go.RowKit Go.Lib Go.Shelf
set_option maxRecDepth 100000
set_option maxHeartbeats 16000000
set_option maxRecDepth 100000
set_option maxHeartbeats 8000000
theorem sF {w:World} {R tb:Nat} {ts:List Tk} (h:aR w R tb ts 0):Calls Tryz.prog 164 #[af R 0] w (Ends R tb 0 w (VX w) (eP ts)) :=
 (He DZ).ex 0 ak w R tb ts h (Ho h.small).ne
def IU (B:Nat) (W:World) (v:Value) (x:Bool × SX):Prop:=∃ a cap,v = .tuple #[x.1,.agg (bE x.2 a cap)]∧df B W a x.2.ks
theorem ju {w:World} {R tb:Nat} {ts:List Tk} (h:aR w R tb ts 0) (s:ByteArray):Calls Tryz.prog 160 #[af R 0,s] w (Ends R tb 0 w (IU w) (bO s ts)):=by
 have hltR:=h.lt;have hltT:=h.lK;obtain ⟨hal,QZ0⟩:=dZ w gQ 55;have hz0:=lt_of_heap QZ0;have con:=aY (h.next hal) s;generalize hM:bO s ts=M;have HM:Hid ((if bK s ts=true then aK (eP (aC ts)) fun x r=>.ok ((true,x),r) else .ok ((false,dM),ts))=M):=hM;clear h hM;rcases hi:bK s ts with _ | _
 ·rw [hi,bT hi] at con;have e:M = .ok ((false,dM),ts):=by rw [← HM.out,hi]; rfl
  subst e;clear HM;go_enter Tryz.func160,Tryz.ntmps160;go_wp2_with fail
  generalize w.alloc _=w1 at *;refine con.mono ?_;rintro e w2 ⟨rfl,h2,hb2⟩;have QZ:=(hb2.2 _ (lt_of_heap QZ0) ak).trans QZ0;have hx2:aj R w w2:=(aj.of hal ak).trans hb2;have H2:Hid (aR w2 R tb ts 0):=h2;obtain ⟨z0,z1,z2,z3,z4,z5,z6⟩:=aN QZ;obtain ⟨y0,y1,y2,y3,y4,y5,y6⟩:=dT QZ;clear con h2;go_wp2_with fail
  obtain ⟨QE,hRE,hKE,hbE⟩:=dR (w:=w) (x:=dM) (a:=none) (cap:=0) (B:=w.heap.size+1) QZ H2.out (aJ.nil _) hx2 (I6 _) ak hltR hltT;change (((((((w2.setCell (af w 0) aB).setCell (af w 1) aB).setCell (af w 2) aB).setCell (af w 3) ()).setCell (af w 4) ()).setCell (af w 5) ()).setCell (af w 6) aL).heap[w.heap.size]? = _ at QE
  change aR (((((((w2.setCell (af w 0) aB).setCell (af w 1) aB).setCell (af w 2) aB).setCell (af w 3) ()).setCell (af w 4) ()).setCell (af w 5) ()).setCell (af w 6) aL) R tb ts 0 at hRE
  change aj R w (((((((w2.setCell (af w 0) aB).setCell (af w 1) aB).setCell (af w 2) aB).setCell (af w 3) ()).setCell (af w 4) ()).setCell (af w 5) ()).setCell (af w 6) aL) at hbE
  change df _ (((((((w2.setCell (af w 0) aB).setCell (af w 1) aB).setCell (af w 2) aB).setCell (af w 3) ()).setCell (af w 4) ()).setCell (af w 5) ()).setCell (af w 6) aL) _ _ at hKE
  generalize (((((((w2.setCell (af w 0) aB).setCell (af w 1) aB).setCell (af w 2) aB).setCell (af w 3) ()).setCell (af w 4) ()).setCell (af w 5) ()).setCell (af w 6) aL)=wE at *;obtain ⟨x0,x1,x2,x3,x4,x5,x6⟩:=aN QE;exact I7 (v:=.tuple #[false,.agg (bE dM none 0)]) (by simp [results,Tryz.results160,go_sem,x0,x1,x2,x3,x4,x5,x6]) rfl (Ends.cK rfl hbE ⟨none,0,rfl,hKE.mono ak⟩ hRE)
 ·rw [hi,cG hi] at con;have HM2:Hid (aK (eP (aC ts)) (fun x r=>.ok ((true,x),r))=M):=by have:=HM.out; rw [hi] at this; exact this
  clear HM;go_enter Tryz.func160,Tryz.ntmps160;go_wp2_with fail
  generalize w.alloc _=w1 at *;refine con.mono ?_;rintro e w2 ⟨rfl,h2,hb2⟩;have QZ2:=(hb2.2 _ (lt_of_heap QZ0) ak).trans QZ0;have hx2:aj R w w2:=(aj.of hal ak).trans hb2;have con2:=sF h2;have hz2:=lt_of_heap QZ2;generalize eP (aC ts)=L at *;clear con h2;go_wp2_with fail
  refine con2.mono ?_;rintro e w3 ⟨hb3,hW⟩;have hx3:=hx2.trans hb3;have QZ:=(hb3.2 _ (lt_of_heap QZ2) ak).trans QZ2;clear con2;rcases L with ce | ⟨x,rs⟩
  ·obtain ⟨rfl,us,hE⟩:=hW;have HEr:=ah hE;clear hE;have e:=HM2.out.symm;subst e;clear HM2;go_wp2_with fail
   exact ⟨rfl,Ends.err rfl hx3 HEr.out⟩
  obtain ⟨v,rfl,⟨a,c,rfl,hks⟩,hR3⟩:=hW;have e:=HM2.out.symm;subst e;have HR3:=ah hR3;have HK3:=ah hks;obtain ⟨z0,z1,z2,z3,z4,z5,z6⟩:=aN QZ;obtain ⟨y0,y1,y2,y3,y4,y5,y6⟩:=dT QZ;clear HM2 hR3 hks;go_wp2_with fail
  obtain ⟨QE,hRE,hKE,hbE⟩:=dR (w:=w) (cap:=c) QZ HR3.out HK3.out hx3 (I6 _) ak hltR hltT;generalize (((((((w3.setCell (af w 0) x.k).setCell (af w 1) x.v.1).setCell (af w 2) x.v.2.1).setCell (af w 3) x.v.2.2).setCell (af w 4) x.bp).setCell (af w 5) x.name).setCell (af w 6) (.slice a x.ks.length c))=wE at *;obtain ⟨x0,x1,x2,x3,x4,x5,x6⟩:=aN QE
  exact I7 (v:=.tuple #[true,.agg (bE x a c)]) (by simp [results,Tryz.results160,go_sem,x0,x1,x2,x3,x4,x5,x6]) rfl (Ends.cK rfl hbE ⟨a,c,rfl,hKE.mono ak⟩ hRE)
theorem uh {w:World} {R tb:Nat} {ts:List Tk} {o:Int} (h:aR w R tb ts o) (all each:Int):Calls Tryz.prog 194 #[af R 0,all,each] w fun e w'=>e = .returned (.int .i64 (if bK ⟨#[97,108,108]⟩ ts then all else each))∧aR w' R tb (fL ⟨#[97,108,108]⟩ ts) o∧aj R w w':=by
 have con:=aY h ⟨#[97,108,108]⟩;clear h;rcases hi:bK ⟨#[97,108,108]⟩ ts with _ | _ <;> rw [hi] at con
 all_goals (
  go_enter Tryz.func194,Tryz.ntmps194;go_wp2_with fail
  refine con.mono ?_;rintro e w1 ⟨rfl,h1,hb1⟩;have H1:=ah h1;clear con h1;go_wp2_with fail
  exact fa rfl rfl ⟨fQ,H1.out,hb1⟩)
theorem pe {w:World} {R tb:Nat} {ts:List Tk} {o:Int} (h:aR w R tb ts o):Calls Tryz.prog 162 #[af R 0] w fun e w'=>e = .returned (.int .i64 (bo ts).1)∧aR w' R tb (bo ts).2 o∧aj R w w':=by
 have con:=aY h ⟨#[117,110,105,111,110]⟩;generalize hM:bo ts=M;have HM:=ah hM;clear h hM;rcases hi:bK ⟨#[117,110,105,111,110]⟩ ts with _ | _
 case true =>
  rw [hi,cG hi] at con;have e:M=((if bK ⟨#[97,108,108]⟩ (aC ts) then 1 else 2),fL ⟨#[97,108,108]⟩ (aC ts)):=by
   rw [← HM.out,bo,hi,fL];cases bK ⟨#[97,108,108]⟩ (aC ts) <;> rfl
  subst e;clear HM;generalize hm:(if bK ⟨#[97,108,108]⟩ (aC ts)=true then (1:Int) else 2)=m;have Hm:=ah hm;clear hm;go_enter Tryz.func162,Tryz.ntmps162;go_wp2_with fail
  refine con.mono ?_;rintro e w1 ⟨rfl,h1,hb1⟩;have con2:=uh h1 1 2;clear con h1;rw [Hm.out] at con2;go_wp2_with fail
  refine con2.mono ?_;rintro e w2 ⟨rfl,h2,hb2⟩;have H2:=ah h2;clear con2 h2;go_wp2_with fail
  exact fa rfl rfl ⟨fQ,H2.out,hb1.trans hb2⟩
 rw [hi,bT hi] at con;rcases hj:bK ⟨#[101,120,99,101,112,116]⟩ ts with _ | _
 case true =>
  have e:M=((if bK ⟨#[97,108,108]⟩ (aC ts) then 3 else 4),fL ⟨#[97,108,108]⟩ (aC ts)):=by
   rw [← HM.out,bo,hi,hj,fL];cases bK ⟨#[97,108,108]⟩ (aC ts) <;> rfl
  subst e;clear HM;generalize hm:(if bK ⟨#[97,108,108]⟩ (aC ts)=true then (3:Int) else 4)=m;have Hm:=ah hm;clear hm;go_enter Tryz.func162,Tryz.ntmps162;go_wp2_with fail
  refine con.mono ?_;rintro e w1 ⟨rfl,h1,hb1⟩;have con1:=aY h1 ⟨#[101,120,99,101,112,116]⟩;rw [hj,cG hj] at con1;clear con h1;go_wp2_with fail
  refine con1.mono ?_;rintro e w3 ⟨rfl,h3,hb3⟩;have con2:=uh h3 3 4;clear con1 h3;rw [Hm.out] at con2;go_wp2_with fail
  refine con2.mono ?_;rintro e w2 ⟨rfl,h2,hb2⟩;have H2:=ah h2;clear con2 h2;go_wp2_with fail
  exact fa rfl rfl ⟨fQ,H2.out,(hb1.trans hb3).trans hb2⟩
 have e:M=(0,ts):=by rw [← HM.out,bo,hi,hj]; rfl
 subst e;clear HM;go_enter Tryz.func162,Tryz.ntmps162;go_wp2_with fail
 refine con.mono ?_;rintro e w1 ⟨rfl,h1,hb1⟩;have con1:=aY h1 ⟨#[101,120,99,101,112,116]⟩;rw [hj,bT hj] at con1;clear con h1;go_wp2_with fail
 refine con1.mono ?_;rintro e w3 ⟨rfl,h3,hb3⟩;have H3:=ah h3;clear con1 h3;go_wp2_with fail
 exact fa rfl rfl ⟨fQ,H3.out,hb1.trans hb3⟩
def qR:List (Int × ByteArray):=[(2,⟨#[98,111,111,108]⟩),(3,⟨#[105,110,116]⟩),(4,⟨#[116,101,120,116]⟩)]
def nw (ts:List Tk):List (Int × ByteArray)→PR Int
 | []=>.error (2,iI ts)
 | a :: r=>if bK a.2 ts then .ok (a.1,aC ts) else nw ts r
abbrev FC:Array Value:=#[(2:Int),.string ⟨#[98,111,111,108]⟩,(3:Int),.string ⟨#[105,110,116]⟩,(4:Int),.string ⟨#[116,101,120,116]⟩]
theorem sG (w:World):Calls Tryz.prog 88 #[] w fun e w'=>e = .returned (.slice (some (af w 0)) 3 3)∧w'=w.alloc (.cells FC 168):=by
 go_enter Tryz.func88,Tryz.ntmps88;go_wp2_with fail
 exact fa rfl rfl ⟨fQ,fQ⟩
theorem Bv {W:World} {g:Nat} {T:TypeId} (h:W.heap[g]? = some (.cells FC T (0,0))) (k:Nat) (hk:k<qR.length):W.cell? ⟨g,k*2,none⟩=some (.int .i64 qR[k].1)∧W.cell? ⟨g,k*2+1,none⟩=some (.string qR[k].2):=by
 have hk3:k<3:=hk;obtain rfl | rfl | rfl:k=0∨k=1∨k=2:=by omega
 ·exact ⟨cell_of (i:=0) h rfl,cell_of (i:=1) h rfl⟩
 ·exact ⟨cell_of (i:=2) h rfl,cell_of (i:=3) h rfl⟩
 ·exact ⟨cell_of (i:=4) h rfl,cell_of (i:=5) h rfl⟩
theorem pR {w:World} {R tb:Nat} {ts:List Tk} {o:Int} (h:aR w R tb ts o):Calls Tryz.prog 188 #[af R 0] w (Ends R tb o w DI (dE ts)):=by
 have hltR:=h.lt;change Calls _ _ _ _ (Ends R tb o w DI (nw ts qR));generalize hM:nw ts qR=M;have HM:=ah hM;have ca:=sG w;obtain ⟨hal4,QA4⟩:=dZ w FC 168;have H4:=ah (h.next hal4);clear h hM;go_enter Tryz.func188,Tryz.ntmps188;go_wp2_with fail
 refine ca.mono ?_;rintro e w4 ⟨rfl,rfl⟩;generalize w.alloc _=w4 at *;have hx4:aj R w w4:=.of hal4 ak;clear ca;go_wp2_with fail
 go_loopw [7] (fun i wr=>∃ k:Nat,k≤3∧i = .int .i64 k∧Hid (nw ts (qR.drop k)=M)∧aj R w wr∧Hid (aR wr R tb ts o)∧wr.heap[w.heap.size]? = some (.cells FC 168 (0,0))) (fun i _=>3 - (RowKit.intOf i).toNat)
 case atStart=>exact ⟨0,by omega,rfl,HM,hx4,H4,QA4⟩
 case round =>
  clear HM hx4 H4 QA4;obtain ⟨k,hk,rfl,HL,hx,HR,QA⟩:=hrel;have hzr:=lt_of_heap QA;by_cases hlt:k<3
  ·have hkz:(k:Int)<3:=by omega
   have hkl:=hlt;obtain ⟨c0,c1⟩:=Bv QA k hkl;have HL2:Hid ((if bK qR[k].2 ts=true then .ok (qR[k].1,aC ts) else nw ts (qR.drop (k+1)))=M):=by
    have:=HL.out;rw [I9 hkl,nw] at this;exact this
   clear HL;generalize qR[k]=a at *;obtain ⟨hal5,QC⟩:=dZ wr #[a.1,a.2] 168;have con5:=aY (HR.out.next hal5) a.2;rcases hi:bK a.2 ts with _ | _
   ·rw [hi,bT hi] at con5;have HL3:Hid (nw ts (qR.drop (k+1))=M):=by have:=HL2.out; rw [hi] at this; exact this
    clear HL2;go_wp2_with fail
    refine con5.mono ?_;rintro e w6 ⟨rfl,h6,hb6⟩;have hxr6:aj R wr w6:=(aj.of hal5 ak).trans hb6;have H6:=ah h6;have QA6:=(hxr6.2 _ (lt_of_heap QA) ak).trans QA;clear con5 h6 c0 c1;go_wp2_with fail
    go_roundw
    case rel=>exact ⟨k+1,by omega,by go_num,HL3,hx.trans hxr6,H6,QA6⟩
    case measure=>simp [RowKit.intOf]; omega
   ·rw [hi,cG hi] at con5;have e:M = .ok (a.1,aC ts):=by rw [← HL2.out,hi]; rfl
    subst e;clear HL2;go_wp2_with fail
    refine con5.mono ?_;rintro e' w6 ⟨rfl,h6,hb6⟩;have hxr6:aj R wr w6:=(aj.of hal5 ak).trans hb6;have QC6:=(hb6.2 _ (lt_of_heap QC) ak).trans QC;have k0:=cell_of (i:=0) QC6 rfl;have H6:=ah h6;clear con5 h6 c0 c1;go_wp2_with fail
    refine I7 (v:=.int .i64 a.1) (by simp [results,Tryz.results188,go_sem]) rfl ?_;exact Ends.cK rfl (hx.trans hxr6) rfl H6.out
  ·have hkz:¬ (k:Int)<3:=by omega
   have e:M = .error (2,iI ts):=by have:=HL.out; rw [Jh (show qR.length≤k by show 3≤k; omega),nw] at this; exact this.symm
   subst e;obtain ⟨t,r,rfl⟩:=HR.out.iU.ne;have con7:=fj HR.out 2;clear HL;go_wp2_with fail
   refine con7.mono ?_;rintro e' w7 ⟨rfl,hb7⟩;go_wp2_with fail
   exact ⟨rfl,Ends.err (c:=(2,t.2.2)) rfl (hx.trans (.of hb7 (by have:=hx.size; omega))) (HR.out.next hb7)⟩
def zm:List (Int × ByteArray):=[(3,⟨#[115,101,109,105]⟩),(4,⟨#[97,110,116,105]⟩),(5,⟨#[108,101,102,116]⟩)]
def nu (ts:List Tk):List (Int × ByteArray)→PR Int
 | []=>.ok (0,ts)
 | a :: r=>if bK a.2 ts then aK (aV [⟨#[106,111,105,110]⟩] (aC ts)) (fun _ r=>.ok (a.1,r)) else nu ts r
abbrev GU:Array Value:=#[(3:Int),.string ⟨#[115,101,109,105]⟩,(4:Int),.string ⟨#[97,110,116,105]⟩,(5:Int),.string ⟨#[108,101,102,116]⟩]
theorem Bz (w:World):Calls Tryz.prog 144 #[] w fun e w'=>e = .returned (.slice (some (af w 0)) 3 3)∧w'=w.alloc (.cells GU 168):=by
 go_enter Tryz.func144,Tryz.ntmps144;go_wp2_with fail
 exact fa rfl rfl ⟨fQ,fQ⟩
theorem Fw {W:World} {g:Nat} {T:TypeId} (h:W.heap[g]? = some (.cells GU T (0,0))) (k:Nat) (hk:k<zm.length):W.cell? ⟨g,k*2,none⟩=some (.int .i64 zm[k].1)∧W.cell? ⟨g,k*2+1,none⟩=some (.string zm[k].2):=by
 have hk3:k<3:=hk;obtain rfl | rfl | rfl:k=0∨k=1∨k=2:=by omega
 ·exact ⟨cell_of (i:=0) h rfl,cell_of (i:=1) h rfl⟩
 ·exact ⟨cell_of (i:=2) h rfl,cell_of (i:=3) h rfl⟩
 ·exact ⟨cell_of (i:=4) h rfl,cell_of (i:=5) h rfl⟩
theorem qo {w:World} {R tb:Nat} {ts:List Tk} {o:Int} (h:aR w R tb ts o):Calls Tryz.prog 217 #[af R 0] w (Ends R tb o w DI (dQ ts)):=by
 have hltR:=h.lt;have con0:=aY h ⟨#[106,111,105,110]⟩;rcases h0:bK ⟨#[106,111,105,110]⟩ ts with _ | _
 case true =>
  rw [h0,cG h0] at con0;generalize hM:dQ ts=M;have e:M = .ok (2,aC ts):=by rw [← hM,dQ,h0]; rfl
  subst e;clear hM h;go_enter Tryz.func217,Tryz.ntmps217;go_wp2_with fail
  refine con0.mono ?_;rintro e w1 ⟨rfl,h1,hb1⟩;have H1:=ah h1;clear con0 h1;go_wp2_with fail
  refine I7 (v:=.int .i64 2) (by simp [results,Tryz.results217,go_sem]) rfl ?_;exact Ends.cK rfl hb1 rfl H1.out
 rw [h0,bT h0] at con0;have hM0:dQ ts=nu ts zm:=by rw [dQ,h0]; rfl
 rw [hM0];generalize hM:nu ts zm=M;have HM:=ah hM;clear h hM hM0;go_enter Tryz.func217,Tryz.ntmps217;go_wp2_with fail
 refine con0.mono ?_;rintro e w0 ⟨rfl,h1,hb1⟩;have ca:=Bz w0;obtain ⟨hal4,QA4⟩:=dZ w0 GU 168;have H4:=ah (h1.next hal4);have hz1:=hb1.size;clear con0 h1;go_wp2_with fail
 refine ca.mono ?_;rintro e w4 ⟨rfl,rfl⟩;generalize w0.alloc _=w4 at *;have hx4:aj R w w4:=hb1.trans (.of hal4 ak);clear ca;go_wp2_with fail
 go_loopw [9] (fun i wr=>∃ k:Nat,k≤3∧i = .int .i64 k∧Hid (nu ts (zm.drop k)=M)∧aj R w wr∧Hid (aR wr R tb ts o)∧wr.heap[w0.heap.size]? = some (.cells GU 168 (0,0))) (fun i _=>3 - (RowKit.intOf i).toNat)
 case atStart=>exact ⟨0,by omega,rfl,HM,hx4,H4,QA4⟩
 case round =>
  clear HM hx4 H4 QA4;obtain ⟨k,hk,rfl,HL,hx,HR,QA⟩:=hrel;have hzr:=lt_of_heap QA;by_cases hlt:k<3
  ·have hkz:(k:Int)<3:=by omega
   have hkl:=hlt;obtain ⟨c0,c1⟩:=Fw QA k hkl;have HL2:Hid ((if bK zm[k].2 ts=true then aK (aV [⟨#[106,111,105,110]⟩] (aC ts)) (fun _ r=>.ok (zm[k].1,r)) else nu ts (zm.drop (k+1)))=M):=by
    have:=HL.out;rw [I9 hkl,nu] at this;exact this
   clear HL;generalize zm[k]=a at *;obtain ⟨hal5,QC⟩:=dZ wr #[a.1,a.2] 168;have con5:=aY (HR.out.next hal5) a.2;rcases hi:bK a.2 ts with _ | _
   ·rw [hi,bT hi] at con5;have HL3:Hid (nu ts (zm.drop (k+1))=M):=by have:=HL2.out; rw [hi] at this; exact this
    clear HL2;go_wp2_with fail
    refine con5.mono ?_;rintro e w6 ⟨rfl,h6,hb6⟩;have hxr6:aj R wr w6:=(aj.of hal5 ak).trans hb6;have H6:=ah h6;have QA6:=(hxr6.2 _ (lt_of_heap QA) ak).trans QA;clear con5 h6 c0 c1;go_wp2_with fail
    go_roundw
    case rel=>exact ⟨k+1,by omega,by go_num,HL3,hx.trans hxr6,H6,QA6⟩
    case measure=>simp [RowKit.intOf]; omega
   ·rw [hi,cG hi] at con5;have HL3:Hid (aK (aV [⟨#[106,111,105,110]⟩] (aC ts)) (fun _ r=>.ok (a.1,r))=M):=by have:=HL2.out; rw [hi] at this; exact this
    clear HL2;go_wp2_with fail
    refine con5.mono ?_;rintro e' w6 ⟨rfl,h6,hb6⟩;have hxr6:aj R wr w6:=(aj.of hal5 ak).trans hb6;have QC6:=(hb6.2 _ (lt_of_heap QC) ak).trans QC;have hal7:=bR w6 (.cells #[.string ⟨#[106,111,105,110]⟩] 9);have con7:=de (cap:=1) (h6.next hal7) (dh.one w6 ⟨#[106,111,105,110]⟩ 9) (by have:=h6.lt; omega) (by simp);have hz6:=lt_of_heap QC6;generalize aV [⟨#[106,111,105,110]⟩] (aC ts)=L at *;clear con5 h6 c0 c1;go_wp2_with fail
    generalize w6.alloc _=w7 at *;refine con7.mono ?_;rintro e' w8 ⟨hb8,hW⟩;have hx68:aj R w6 w8:=(aj.of hal7 ak).trans hb8;have hx8:=(hx.trans hxr6).trans hx68;have QC8:=(hx68.2 _ (lt_of_heap QC6) ak).trans QC6;have k0:=cell_of (i:=0) QC8 rfl;clear con7;rcases L with ce | ⟨u,r8⟩
    ·obtain ⟨rfl,us,hE⟩:=hW;have HEr:=ah hE;clear hE;have e:=HL3.out.symm;subst e;clear HL3;go_wp2_with fail
     exact ⟨rfl,Ends.err rfl hx8 HEr.out⟩
    obtain ⟨v,rfl,rfl,hR8⟩:=hW;have HR8:=ah hR8;have e:=HL3.out.symm;subst e;clear HL3 hR8;go_wp2_with fail
    refine I7 (v:=.int .i64 a.1) (by simp [results,Tryz.results217,go_sem]) rfl ?_;exact Ends.cK rfl hx8 rfl HR8.out
  ·have hkz:¬ (k:Int)<3:=by omega
   have e:M = .ok (0,ts):=by have:=HL.out; rw [Jh (show zm.length≤k by show 3≤k; omega),nu] at this; exact this.symm
   subst e;clear HL;go_wp2_with fail
   refine I7 (v:=.int .i64 0) (by simp [results,Tryz.results217,go_sem]) rfl ?_;exact Ends.cK rfl hx rfl HR.out
theorem dp {W:World} {g:Nat} {T:TypeId} {c0 c1:Value} (h:W.heap[g]? = some (.cells #[c0,c1] T (0,0))):W.cell? (af g 0)=some c0∧W.cell? (af g 1)=some c1 :=
 ⟨cell_of (i:=0) h rfl,cell_of (i:=1) h rfl⟩
theorem kL {W:World} {g:Nat} {T:TypeId} {c0 c1:Value} (h:W.heap[g]? = some (.cells #[c0,c1] T (0,0))):W.frozen? (af g 0)=false∧W.frozen? (af g 1)=false :=
 ⟨I0 W g 0 _ _ h,I0 W g 1 _ _ h⟩
theorem dJ {W:World} {g:Nat} {T:TypeId} {c0 c1:Value} (h:W.heap[g]? = some (.cells #[c0,c1] T (0,0))) (v0 v1:Value):((W.setCell (af g 0) v0).setCell (af g 1) v1).heap[g]? = some (.cells #[v0,v1] T (0,0)):=by
 have h:(W.setCell (af g 0) v0).heap[g]? = some (.cells #[v0,c1] T (0,0)):=I5 W g 0 _ _ v0 h;generalize W.setCell (af g 0) v0=W0 at h ⊢;have h:=I5 W0 g 1 _ _ v1 h;generalize W0.setCell (af g 1) v1=W1 at h ⊢;exact h
theorem AW {t g:Nat} {W0 W:World} (h:aj t W0 W) (hg:W0.heap.size≤g) (ht:t≤W0.heap.size) (v0 v1:Value):aj t W0 ((W.setCell (af g 0) v0).setCell (af g 1) v1) :=
 ((h.aW g 0 v0 hg ht).aW g 1 v1 hg ht)
theorem iW {g:Nat} {W0 W:World} (h:Below W0 W0 W) (hg:W0.heap.size≤g) (v0 v1:Value):Below W0 W0 ((W.setCell (af g 0) v0).setCell (af g 1) v1) :=
 ((h.setCell (p:=af g 0) hg v0).setCell (p:=af g 1) hg v1)
theorem DG {w W:World} {R tb g:Nat} {rs:List Tk} {o:Int} {T:TypeId} {c0 c1:Value} (Q:W.heap[g]? = some (.cells #[c0,c1] T (0,0))) (hR:aR W R tb rs o) (hb:aj R w W) (h1:w.heap.size≤g) (h3:R<w.heap.size) (h4:tb<w.heap.size) (v0 v1:Value) :
  ((W.setCell (af g 0) v0).setCell (af g 1) v1).heap[g]? = some (.cells #[v0,v1] T (0,0))∧aR ((W.setCell (af g 0) v0).setCell (af g 1) v1) R tb rs o∧aj R w ((W.setCell (af g 0) v0).setCell (af g 1) v1)∧aI g W ((W.setCell (af g 0) v0).setCell (af g 1) v1):=by
 have hk1:aI g W ((W.setCell (af g 0) v0).setCell (af g 1) v1):=(((aI.refl _ _).set 0 v0).set 1 v1)
 exact ⟨dJ Q v0 v1,hR.k1 hk1 ak ak (by have:=hR.r2; omega),AW hb h1 ak v0 v1,hk1⟩
theorem rz {W:World} {g:Nat} {T:TypeId} {c0 c1 c2 c3 c4 c5 c6 c7 c8 c9:Value} (h:W.heap[g]? = some (.cells #[c0,c1,c2,c3,c4,c5,c6,c7,c8,c9] T (0,0))):W.cell? (af g 0)=some c0∧W.cell? (af g 1)=some c1∧W.cell? (af g 2)=some c2∧W.cell? (af g 3)=some c3∧W.cell? (af g 4)=some c4∧W.cell? (af g 5)=some c5∧W.cell? (af g 6)=some c6∧W.cell? (af g 7)=some c7∧W.cell? (af g 8)=some c8∧W.cell? (af g 9)=some c9 :=
 ⟨cell_of (i:=0) h rfl,cell_of (i:=1) h rfl,cell_of (i:=2) h rfl,cell_of (i:=3) h rfl,cell_of (i:=4) h rfl,cell_of (i:=5) h rfl,cell_of (i:=6) h rfl,cell_of (i:=7) h rfl,cell_of (i:=8) h rfl,cell_of (i:=9) h rfl⟩
theorem Eo {W:World} {g:Nat} {T:TypeId} {c0 c1 c2 c3 c4 c5 c6 c7 c8 c9:Value} (h:W.heap[g]? = some (.cells #[c0,c1,c2,c3,c4,c5,c6,c7,c8,c9] T (0,0))):W.frozen? (af g 0)=false∧W.frozen? (af g 1)=false∧W.frozen? (af g 2)=false∧W.frozen? (af g 3)=false∧W.frozen? (af g 4)=false∧W.frozen? (af g 5)=false∧W.frozen? (af g 6)=false∧W.frozen? (af g 7)=false∧W.frozen? (af g 8)=false∧W.frozen? (af g 9)=false :=
 ⟨I0 W g 0 _ _ h,I0 W g 1 _ _ h,I0 W g 2 _ _ h,I0 W g 3 _ _ h,I0 W g 4 _ _ h,I0 W g 5 _ _ h,I0 W g 6 _ _ h,I0 W g 7 _ _ h,I0 W g 8 _ _ h,I0 W g 9 _ _ h⟩
theorem zi {W:World} {g:Nat} {T:TypeId} {c0 c1 c2 c3 c4 c5 c6 c7 c8 c9:Value} (h:W.heap[g]? = some (.cells #[c0,c1,c2,c3,c4,c5,c6,c7,c8,c9] T (0,0))) (v0 v1 v2 v3 v4 v5 v6 v7 v8 v9:Value):((((((((((W.setCell (af g 0) v0).setCell (af g 1) v1).setCell (af g 2) v2).setCell (af g 3) v3).setCell (af g 4) v4).setCell (af g 5) v5).setCell (af g 6) v6).setCell (af g 7) v7).setCell (af g 8) v8).setCell (af g 9) v9).heap[g]? = some (.cells #[v0,v1,v2,v3,v4,v5,v6,v7,v8,v9] T (0,0)):=by
 have h:(W.setCell (af g 0) v0).heap[g]? = some (.cells #[v0,c1,c2,c3,c4,c5,c6,c7,c8,c9] T (0,0)):=I5 W g 0 _ _ v0 h;generalize W.setCell (af g 0) v0=W0 at h ⊢;have h:=I5 W0 g 1 _ _ v1 h;generalize W0.setCell (af g 1) v1=W1 at h ⊢;have h:(W1.setCell (af g 2) v2).heap[g]? = some (.cells #[v0,v1,v2,c3,c4,c5,c6,c7,c8,c9] T (0,0)):=I5 W1 g 2 _ _ v2 h;generalize W1.setCell (af g 2) v2=W2 at h ⊢
 have h:=I5 W2 g 3 _ _ v3 h;generalize W2.setCell (af g 3) v3=W3 at h ⊢;have h:(W3.setCell (af g 4) v4).heap[g]? = some (.cells #[v0,v1,v2,v3,v4,c5,c6,c7,c8,c9] T (0,0)):=I5 W3 g 4 _ _ v4 h;generalize W3.setCell (af g 4) v4=W4 at h ⊢;have h:=I5 W4 g 5 _ _ v5 h;generalize W4.setCell (af g 5) v5=W5 at h ⊢
 have h:(W5.setCell (af g 6) v6).heap[g]? = some (.cells #[v0,v1,v2,v3,v4,v5,v6,c7,c8,c9] T (0,0)):=I5 W5 g 6 _ _ v6 h;generalize W5.setCell (af g 6) v6=W6 at h ⊢;have h:=I5 W6 g 7 _ _ v7 h;generalize W6.setCell (af g 7) v7=W7 at h ⊢;have h:(W7.setCell (af g 8) v8).heap[g]? = some (.cells #[v0,v1,v2,v3,v4,v5,v6,v7,v8,c9] T (0,0)):=I5 W7 g 8 _ _ v8 h;generalize W7.setCell (af g 8) v8=W8 at h ⊢
 have h:=I5 W8 g 9 _ _ v9 h;generalize W8.setCell (af g 9) v9=W9 at h ⊢;exact h
theorem EC {t g:Nat} {W0 W:World} (h:aj t W0 W) (hg:W0.heap.size≤g) (ht:t≤W0.heap.size) (v0 v1 v2 v3 v4 v5 v6 v7 v8 v9:Value):aj t W0 ((((((((((W.setCell (af g 0) v0).setCell (af g 1) v1).setCell (af g 2) v2).setCell (af g 3) v3).setCell (af g 4) v4).setCell (af g 5) v5).setCell (af g 6) v6).setCell (af g 7) v7).setCell (af g 8) v8).setCell (af g 9) v9) :=
 ((((((((((h.aW g 0 v0 hg ht).aW g 1 v1 hg ht).aW g 2 v2 hg ht).aW g 3 v3 hg ht).aW g 4 v4 hg ht).aW g 5 v5 hg ht).aW g 6 v6 hg ht).aW g 7 v7 hg ht).aW g 8 v8 hg ht).aW g 9 v9 hg ht)
theorem AE {w W:World} {R tb g:Nat} {rs:List Tk} {o:Int} {T:TypeId} {c0 c1 c2 c3 c4 c5 c6 c7 c8 c9:Value} (Q:W.heap[g]? = some (.cells #[c0,c1,c2,c3,c4,c5,c6,c7,c8,c9] T (0,0))) (hR:aR W R tb rs o) (hb:aj R w W) (h1:w.heap.size≤g) (h3:R<w.heap.size) (h4:tb<w.heap.size) (v0 v1 v2 v3 v4 v5 v6 v7 v8 v9:Value) :
  ((((((((((W.setCell (af g 0) v0).setCell (af g 1) v1).setCell (af g 2) v2).setCell (af g 3) v3).setCell (af g 4) v4).setCell (af g 5) v5).setCell (af g 6) v6).setCell (af g 7) v7).setCell (af g 8) v8).setCell (af g 9) v9).heap[g]? = some (.cells #[v0,v1,v2,v3,v4,v5,v6,v7,v8,v9] T (0,0))∧aR ((((((((((W.setCell (af g 0) v0).setCell (af g 1) v1).setCell (af g 2) v2).setCell (af g 3) v3).setCell (af g 4) v4).setCell (af g 5) v5).setCell (af g 6) v6).setCell (af g 7) v7).setCell (af g 8) v8).setCell (af g 9) v9) R tb rs o∧aj R w ((((((((((W.setCell (af g 0) v0).setCell (af g 1) v1).setCell (af g 2) v2).setCell (af g 3) v3).setCell (af g 4) v4).setCell (af g 5) v5).setCell (af g 6) v6).setCell (af g 7) v7).setCell (af g 8) v8).setCell (af g 9) v9)∧aI g W ((((((((((W.setCell (af g 0) v0).setCell (af g 1) v1).setCell (af g 2) v2).setCell (af g 3) v3).setCell (af g 4) v4).setCell (af g 5) v5).setCell (af g 6) v6).setCell (af g 7) v7).setCell (af g 8) v8).setCell (af g 9) v9):=by
 have hk1:aI g W ((((((((((W.setCell (af g 0) v0).setCell (af g 1) v1).setCell (af g 2) v2).setCell (af g 3) v3).setCell (af g 4) v4).setCell (af g 5) v5).setCell (af g 6) v6).setCell (af g 7) v7).setCell (af g 8) v8).setCell (af g 9) v9):=(((((((((((aI.refl _ _).set 0 v0).set 1 v1).set 2 v2).set 3 v3).set 4 v4).set 5 v5).set 6 v6).set 7 v7).set 8 v8).set 9 v9)
 exact ⟨zi Q v0 v1 v2 v3 v4 v5 v6 v7 v8 v9,hR.k1 hk1 ak ak (by have:=hR.r2; omega),EC hb h1 ak v0 v1 v2 v3 v4 v5 v6 v7 v8 v9,hk1⟩
theorem Cb {W:World} {g:Nat} {T:TypeId} {c0 c1 c2 c3 c4 c5 c6 c7:Value} (h:W.heap[g]? = some (.cells #[c0,c1,c2,c3,c4,c5,c6,c7] T (0,0))):W.cell? (af g 0)=some c0∧W.cell? (af g 1)=some c1∧W.cell? (af g 2)=some c2∧W.cell? (af g 3)=some c3∧W.cell? (af g 4)=some c4∧W.cell? (af g 5)=some c5∧W.cell? (af g 6)=some c6∧W.cell? (af g 7)=some c7 :=
 ⟨cell_of (i:=0) h rfl,cell_of (i:=1) h rfl,cell_of (i:=2) h rfl,cell_of (i:=3) h rfl,cell_of (i:=4) h rfl,cell_of (i:=5) h rfl,cell_of (i:=6) h rfl,cell_of (i:=7) h rfl⟩
theorem Ga {W:World} {g:Nat} {T:TypeId} {c0 c1 c2 c3 c4 c5 c6 c7:Value} (h:W.heap[g]? = some (.cells #[c0,c1,c2,c3,c4,c5,c6,c7] T (0,0))):W.frozen? (af g 0)=false∧W.frozen? (af g 1)=false∧W.frozen? (af g 2)=false∧W.frozen? (af g 3)=false∧W.frozen? (af g 4)=false∧W.frozen? (af g 5)=false∧W.frozen? (af g 6)=false∧W.frozen? (af g 7)=false :=
 ⟨I0 W g 0 _ _ h,I0 W g 1 _ _ h,I0 W g 2 _ _ h,I0 W g 3 _ _ h,I0 W g 4 _ _ h,I0 W g 5 _ _ h,I0 W g 6 _ _ h,I0 W g 7 _ _ h⟩
theorem Bi {W:World} {g:Nat} {T:TypeId} {c0 c1 c2 c3 c4 c5 c6 c7:Value} (h:W.heap[g]? = some (.cells #[c0,c1,c2,c3,c4,c5,c6,c7] T (0,0))) (v0 v1 v2 v3 v4 v5 v6 v7:Value):((((((((W.setCell (af g 0) v0).setCell (af g 1) v1).setCell (af g 2) v2).setCell (af g 3) v3).setCell (af g 4) v4).setCell (af g 5) v5).setCell (af g 6) v6).setCell (af g 7) v7).heap[g]? = some (.cells #[v0,v1,v2,v3,v4,v5,v6,v7] T (0,0)):=by
 have h:(W.setCell (af g 0) v0).heap[g]? = some (.cells #[v0,c1,c2,c3,c4,c5,c6,c7] T (0,0)):=I5 W g 0 _ _ v0 h;generalize W.setCell (af g 0) v0=W0 at h ⊢;have h:=I5 W0 g 1 _ _ v1 h;generalize W0.setCell (af g 1) v1=W1 at h ⊢;have h:(W1.setCell (af g 2) v2).heap[g]? = some (.cells #[v0,v1,v2,c3,c4,c5,c6,c7] T (0,0)):=I5 W1 g 2 _ _ v2 h;generalize W1.setCell (af g 2) v2=W2 at h ⊢
 have h:=I5 W2 g 3 _ _ v3 h;generalize W2.setCell (af g 3) v3=W3 at h ⊢;have h:(W3.setCell (af g 4) v4).heap[g]? = some (.cells #[v0,v1,v2,v3,v4,c5,c6,c7] T (0,0)):=I5 W3 g 4 _ _ v4 h;generalize W3.setCell (af g 4) v4=W4 at h ⊢;have h:=I5 W4 g 5 _ _ v5 h;generalize W4.setCell (af g 5) v5=W5 at h ⊢
 have h:(W5.setCell (af g 6) v6).heap[g]? = some (.cells #[v0,v1,v2,v3,v4,v5,v6,c7] T (0,0)):=I5 W5 g 6 _ _ v6 h;generalize W5.setCell (af g 6) v6=W6 at h ⊢;have h:=I5 W6 g 7 _ _ v7 h;generalize W6.setCell (af g 7) v7=W7 at h ⊢;exact h
theorem GC {t g:Nat} {W0 W:World} (h:aj t W0 W) (hg:W0.heap.size≤g) (ht:t≤W0.heap.size) (v0 v1 v2 v3 v4 v5 v6 v7:Value):aj t W0 ((((((((W.setCell (af g 0) v0).setCell (af g 1) v1).setCell (af g 2) v2).setCell (af g 3) v3).setCell (af g 4) v4).setCell (af g 5) v5).setCell (af g 6) v6).setCell (af g 7) v7) :=
 ((((((((h.aW g 0 v0 hg ht).aW g 1 v1 hg ht).aW g 2 v2 hg ht).aW g 3 v3 hg ht).aW g 4 v4 hg ht).aW g 5 v5 hg ht).aW g 6 v6 hg ht).aW g 7 v7 hg ht)
theorem DM {w W:World} {R tb g:Nat} {rs:List Tk} {o:Int} {T:TypeId} {c0 c1 c2 c3 c4 c5 c6 c7:Value} (Q:W.heap[g]? = some (.cells #[c0,c1,c2,c3,c4,c5,c6,c7] T (0,0))) (hR:aR W R tb rs o) (hb:aj R w W) (h1:w.heap.size≤g) (h3:R<w.heap.size) (h4:tb<w.heap.size) (v0 v1 v2 v3 v4 v5 v6 v7:Value) :
  ((((((((W.setCell (af g 0) v0).setCell (af g 1) v1).setCell (af g 2) v2).setCell (af g 3) v3).setCell (af g 4) v4).setCell (af g 5) v5).setCell (af g 6) v6).setCell (af g 7) v7).heap[g]? = some (.cells #[v0,v1,v2,v3,v4,v5,v6,v7] T (0,0))∧aR ((((((((W.setCell (af g 0) v0).setCell (af g 1) v1).setCell (af g 2) v2).setCell (af g 3) v3).setCell (af g 4) v4).setCell (af g 5) v5).setCell (af g 6) v6).setCell (af g 7) v7) R tb rs o∧aj R w ((((((((W.setCell (af g 0) v0).setCell (af g 1) v1).setCell (af g 2) v2).setCell (af g 3) v3).setCell (af g 4) v4).setCell (af g 5) v5).setCell (af g 6) v6).setCell (af g 7) v7)∧aI g W ((((((((W.setCell (af g 0) v0).setCell (af g 1) v1).setCell (af g 2) v2).setCell (af g 3) v3).setCell (af g 4) v4).setCell (af g 5) v5).setCell (af g 6) v6).setCell (af g 7) v7):=by
 have hk1:aI g W ((((((((W.setCell (af g 0) v0).setCell (af g 1) v1).setCell (af g 2) v2).setCell (af g 3) v3).setCell (af g 4) v4).setCell (af g 5) v5).setCell (af g 6) v6).setCell (af g 7) v7):=(((((((((aI.refl _ _).set 0 v0).set 1 v1).set 2 v2).set 3 v3).set 4 v4).set 5 v5).set 6 v6).set 7 v7)
 exact ⟨Bi Q v0 v1 v2 v3 v4 v5 v6 v7,hR.k1 hk1 ak ak (by have:=hR.r2; omega),GC hb h1 ak v0 v1 v2 v3 v4 v5 v6 v7,hk1⟩
def Ic (_:World) (v:Value) (x:tG):Prop:=v = .agg #[x.1,x.2]
def Ig (_:World) (v:Value) (x:Src):Prop:=x.on=dM∧v = .agg #[x.kind,x.name,x.alias,aB,aB,aB,(),(),(),aL]
def Hk (B:Nat) (W:World) (v:Value) (x:kx):Prop:=∃ a c,v = .agg #[x.1.k,x.1.v.1,x.1.v.2.1,x.1.v.2.2,x.1.bp,x.1.name,.slice a x.1.ks.length c,x.2]∧df B W a x.1.ks
theorem qw {w:World} {R tb:Nat} {ts:List Tk} {o:Int} (h:aR w R tb ts o):Calls Tryz.prog 157 #[af R 0] w (Ends R tb o w Ic (eD ts)):=by
 have hltR:=h.lt;have hltT:=h.lK;have hal:=bR w (.cells #[(),aB] 69);have QZ0:=aD w #[(),aB] 69;have hz0:=lt_of_heap QZ0;have con:=iA (h.next hal);generalize hM:eD ts=M;have HM:Hid (aK (dt ts) (fun nn r=>aK (dE r) fun tt r2=>.ok ((nn,tt),r2))=M):=hM;generalize dt ts=L at *;clear h hM;go_enter Tryz.func157,Tryz.ntmps157;go_wp2_with fail
 generalize w.alloc _=w1 at *;refine con.mono ?_;rintro e w2 ⟨hb2,hW⟩;have hx2:aj R w w2:=(aj.of hal ak).trans hb2;have QZ2:=(hb2.2 _ (lt_of_heap QZ0) ak).trans QZ0;have hz2:=lt_of_heap QZ2;clear con;rcases L with ce | ⟨nn,r⟩
 ·obtain ⟨rfl,us,hE⟩:=hW;have HEr:Hid (aR w2 R tb us o):=hE;clear hE;have e:=HM.out.symm;subst e;clear HM;go_wp2_with fail
  exact ⟨rfl,Ends.err rfl hx2 HEr.out⟩
 obtain ⟨v,rfl,rfl,hR2⟩:=hW;have HM2:Hid (aK (dE r) (fun tt r2=>.ok ((nn,tt),r2))=M):=HM.out;have con3:=pR hR2;generalize dE r=L2 at *;clear HM hR2;go_wp2_with fail
 refine con3.mono ?_;rintro e w4 ⟨hb4,hW⟩;have hx4:=hx2.trans hb4;have QZ:=(hb4.2 _ (lt_of_heap QZ2) ak).trans QZ2;clear con3;rcases L2 with ce | ⟨tt,r2⟩
 ·obtain ⟨rfl,us,hE⟩:=hW;have HEr:=ah hE;clear hE;have e:M = .error ce:=HM2.out.symm;subst e;clear HM2;go_wp2_with fail
  exact ⟨rfl,Ends.err rfl hx4 HEr.out⟩
 obtain ⟨v,rfl,rfl,hR4⟩:=hW;have HR4:=ah hR4;have e:M = .ok ((nn,tt),r2):=HM2.out.symm;subst e;obtain ⟨z0,z1⟩:=dp QZ;obtain ⟨y0,y1⟩:=kL QZ;clear HM2 hR4;go_wp2_with fail
 obtain ⟨QE,hRE,hbE,hkE⟩:=DG (w:=w) QZ HR4.out hx4 (I6 _) hltR hltT nn tt;generalize ((w4.setCell (af w 0) nn).setCell (af w 1) tt)=wE at *;obtain ⟨x0,x1⟩:=dp QE;exact I7 (v:=.agg #[nn,tt]) (by simp [results,Tryz.results157,go_sem,x0,x1]) rfl (Ends.cK (x:=(nn,tt)) rfl hbE rfl hRE)
theorem qt {w:World} {R tb:Nat} {ts:List Tk} {o:Int} (h:aR w R tb ts o) (kind:Int):Calls Tryz.prog 216 #[af R 0,kind] w (Ends R tb o w Ig (fC kind ts)):=by
 have hltR:=h.lt;have hltT:=h.lK;have hal:=bR w (.cells #[aB,(),(),aB,aB,aB,(),(),(),aL] 105);have QZ0:=aD w #[aB,(),(),aB,aB,aB,(),(),(),aL] 105
 have hz0:w.heap.size<(w.alloc (.cells #[aB,(),(),aB,aB,aB,(),(),(),aL] 105)).heap.size:=lt_of_heap QZ0;have con:=iA (h.next hal);generalize hM:fC kind ts=M;have HM:Hid (aK (dt ts) (fun nn r=>aK (eH r) fun aa r2=>.ok ((⟨kind,nn,aa,dM⟩:Src),r2))=M):=hM;generalize dt ts=L at *;clear h hM;go_enter Tryz.func216,Tryz.ntmps216;go_wp2_with fail
 generalize w.alloc (.cells #[aB,(),(),aB,aB,aB,(),(),(),aL] 105)=w1 at *;refine con.mono ?_;rintro e w2 ⟨hb2,hW⟩;have hx2:aj R w w2:=(aj.of hal ak).trans hb2;have QZ2:=(hb2.2 _ (lt_of_heap QZ0) ak).trans QZ0;have hz2:=lt_of_heap QZ2;clear con;rcases L with ce | ⟨nn,r⟩
 ·obtain ⟨rfl,us,hE⟩:=hW;have HEr:Hid (aR w2 R tb us o):=hE;clear hE;have e:M = .error ce:=HM.out.symm;subst e;clear HM;go_wp2_with fail
  exact ⟨rfl,Ends.err rfl hx2 HEr.out⟩
 obtain ⟨v,rfl,rfl,hR2⟩:=hW;have HM2:Hid (aK (eH r) (fun aa r2=>.ok ((⟨kind,nn,aa,dM⟩:Src),r2))=M):=HM.out;have con3:=qW hR2;generalize eH r=L2 at *;clear HM hR2;go_wp2_with fail
 refine con3.mono ?_;rintro e w4 ⟨hb4,hW⟩;have hx4:=hx2.trans hb4;have QZ:=(hb4.2 _ (lt_of_heap QZ2) ak).trans QZ2;clear con3;rcases L2 with ce | ⟨aa,r2⟩
 ·obtain ⟨rfl,us,hE⟩:=hW;have HEr:Hid (aR w4 R tb us o):=hE;clear hE;have e:M = .error ce:=HM2.out.symm;subst e;clear HM2;go_wp2_with fail
  exact ⟨rfl,Ends.err rfl hx4 HEr.out⟩
 obtain ⟨v,rfl,rfl,hR4⟩:=hW;have HR4:Hid (aR w4 R tb r2 o):=hR4;have e:M = .ok ((⟨kind,nn,aa,dM⟩:Src),r2):=HM2.out.symm;subst e;obtain ⟨z0,z1,z2,z3,z4,z5,z6,z7,z8,z9⟩:=rz QZ;obtain ⟨y0,y1,y2,y3,y4,y5,y6,y7,y8,y9⟩:=Eo QZ;clear HM2 hR4;go_wp2_with fail
 obtain ⟨QE,hRE,hbE,hkE⟩:=AE (w:=w) QZ HR4.out hx4 (I6 _) hltR hltT kind nn aa aB aB aB () () () aL
 generalize ((((((((((w4.setCell (af w 0) kind).setCell (af w 1) nn).setCell (af w 2) aa).setCell (af w 3) aB).setCell (af w 4) aB).setCell (af w 5) aB).setCell (af w 6) ()).setCell (af w 7) ()).setCell (af w 8) ()).setCell (af w 9) aL)=wE at *;obtain ⟨x0,x1,x2,x3,x4,x5,x6,x7,x8,x9⟩:=rz QE
 exact I7 (v:=.agg #[kind,nn,aa,aB,aB,aB,(),(),(),aL]) (by simp [results,Tryz.results216,go_sem,x0,x1,x2,x3,x4,x5,x6,x7,x8,x9]) rfl (Ends.cK (x:=(⟨kind,nn,aa,dM⟩:Src)) rfl hbE ⟨rfl,rfl⟩ hRE)
theorem wY {w:World} {R tb:Nat} {ts:List Tk}  (h:aR w R tb ts 0):Calls Tryz.prog 192 #[af R 0] w (Ends R tb 0 w (Hk w) (gH ts)):=by
 have hltR:=h.lt;have hltT:=h.lK;have hal:=bR w (.cells #[aB,aB,aB,(),(),(),aL,()] 75);have QZ0:=aD w #[aB,aB,aB,(),(),(),aL,()] 75;have hz0:=lt_of_heap QZ0;have con:=sF (h.next hal)
 generalize hM:gH ts=M;have HM:Hid (aK (eP ts) (fun x r=>aK (eH r) fun aa r2=>.ok (((x,aa):kx),r2))=M):=hM;generalize eP ts=L at *;clear h hM;go_enter Tryz.func192,Tryz.ntmps192;go_wp2_with fail
 generalize w.alloc _=w1 at *;refine con.mono ?_;rintro e w2 ⟨hb2,hW⟩;have hx2:aj R w w2:=(aj.of hal ak).trans hb2;have QZ2:=(hb2.2 _ (lt_of_heap QZ0) ak).trans QZ0;have hz2:=lt_of_heap QZ2;clear con;rcases L with ce | ⟨x,r⟩
 ·obtain ⟨rfl,us,hE⟩:=hW;have HEr:Hid (aR w2 R tb us 0):=hE;clear hE;have e:=HM.out.symm;subst e;clear HM;go_wp2_with fail
  exact ⟨rfl,Ends.err rfl hx2 HEr.out⟩
 obtain ⟨v,rfl,⟨a,c,rfl,hks⟩,hR2⟩:=hW;have HM2:Hid (aK (eH r) (fun aa r2=>.ok (((x,aa):kx),r2))=M):=HM.out;have con3:=qW hR2;have HK2:=ah hks;generalize eH r=L2 at *;clear HM hR2;go_wp2_with fail
 refine con3.mono ?_;rintro e w4 ⟨hb4,hW⟩;have hx4:=hx2.trans hb4;have QZ:=(hb4.2 _ (lt_of_heap QZ2) ak).trans QZ2;have HK4:Hid (df w1 w4 a x.ks):=df.k1 hb4.k1 ak HK2.out;clear con3;rcases L2 with ce | ⟨aa,r2⟩
 ·obtain ⟨rfl,us,hE⟩:=hW;have HEr:=ah hE;clear hE;have e:M = .error ce:=HM2.out.symm;subst e;clear HM2;go_wp2_with fail
  exact ⟨rfl,Ends.err rfl hx4 HEr.out⟩
 obtain ⟨v,rfl,rfl,hR4⟩:=hW;have HR4:=ah hR4;have e:M = .ok (((x,aa):kx),r2):=HM2.out.symm;subst e;obtain ⟨z0,z1,z2,z3,z4,z5,z6,z7⟩:=Cb QZ;obtain ⟨y0,y1,y2,y3,y4,y5,y6,y7⟩:=Ga QZ;clear HM2 hR4;go_wp2_with fail
 obtain ⟨QE,hRE,hbE,hkE⟩:=DM (w:=w) QZ HR4.out hx4 (I6 _) hltR hltT x.k x.v.1 x.v.2.1 x.v.2.2 x.bp x.name (.slice a x.ks.length c) aa
 generalize ((((((((w4.setCell (af w 0) x.k).setCell (af w 1) x.v.1).setCell (af w 2) x.v.2.1).setCell (af w 3) x.v.2.2).setCell (af w 4) x.bp).setCell (af w 5) x.name).setCell (af w 6) (.slice a x.ks.length c)).setCell (af w 7) aa)=wE at *;obtain ⟨x0,x1,x2,x3,x4,x5,x6,x7⟩:=Cb QE
 exact I7 (v:=.agg #[x.k,x.v.1,x.v.2.1,x.v.2.2,x.bp,x.name,.slice a x.ks.length c,aa]) (by simp [results,Tryz.results192,go_sem,x0,x1,x2,x3,x4,x5,x6,x7]) rfl (Ends.cK (x:=((x,aa):kx)) rfl hbE ⟨a,c,rfl,df.mono ak (df.k1 hkE ak HK4.out)⟩ hRE)
end Go.Proofs.YtoknmnngaackkaaGreatDoor
