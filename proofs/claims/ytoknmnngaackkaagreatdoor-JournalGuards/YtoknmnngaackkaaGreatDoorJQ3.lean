/- Together: AL, AM, AN, AO, AP, AQ, AR, AS, AT. -/
import Derived.Test.YtoknmnngaackkaaGreatDoorJQ2
import Derived.Test.YtoknmnngaackkaaGreatDoorJQ0
namespace Go.Proofs.YtoknmnngaackkaaGreatDoor
open Go.RowKit Go.Lib Go.Shelf
set_option maxRecDepth 100000
set_option maxHeartbeats 16000000
set_option maxRecDepth 100000
set_option maxHeartbeats 8000000
def ya (_:World) (v:Value) (n:Int):Prop:=v = .int .i64 n
theorem nE {w:World} {R tb:Nat} {ts:List Tk} {o:Int} (h:au w R tb ts o) (least most:Int):Calls Tryz.prog 165 #[.pointer (some ⟨R,0,none⟩),.int .i64 least,.int .i64 most] w (Ends R tb o w ya (dp least most ts)):=by
 obtain ⟨t,r,rfl⟩:=h.gQ.ne;have hltR:=h.lt;have con:=iT h;have HR:Hid (au w R tb (t :: r) o):=h;generalize hM:dp least most (t :: r)=M;have HM:Hid (dp least most (t :: r)=M):=hM;clear h hM;rcases hsg:bu ⟨#[45]⟩ (t :: r) with _ | _
 ·have HM2:Hid ((if (cy ((t :: r))).1≠2 then .error (2,gY ((t :: r))) else if (cx (cy ((t :: r))).2.1)<least∨most<(cx (cy ((t :: r))).2.1) then .error (3,t.2.2) else .ok (cx (cy ((t :: r))).2.1,az ((t :: r))))=M):=by
   have:=HM.out;rw [dp,hsg] at this;exact this
  clear HM;go_enter Tryz.func165,Tryz.ntmps165;go_wp2_with fail
  refine con.mono ?_;rintro e w1 ⟨rfl,hb1⟩;have hf1:=wY (.int .i64 t.1) (.string t.2.1) t.2.2 w1;have con2:=aM (HR.out.next hb1) ⟨#[45]⟩;rw [hsg,bC hsg] at con2;clear con;go_wp2_with fail
  refine con2.mono ?_;rintro e w2 ⟨rfl,h2,hb2⟩;have hx2:af R w w2:=(af.of hb1 (by omega)).trans hb2;have hz2:=hx2.size;clear con2 hf1;generalize (t :: r)=us at *;obtain ⟨u,ur,rfl⟩:=h2.gQ.ne;have con3:=iT h2;have hok:=h2.gQ.ok;have H2:Hid (au w2 R tb (u :: ur) o):=h2;clear h2;by_cases hs2:u.1=2
  case neg =>
   have b2:(u.1 != 2)=true:=by simpa using hs2
   have e:M = .error (2,u.2.2):=by rw [← HM2.out,if_pos (by simpa [cy] using hs2)]; rfl
   subst e;clear HM2;go_wp2_with fail
   refine con3.mono ?_;rintro e w3 ⟨rfl,hb3⟩;have hf3:=dR (.string u.2.1) (.int .i64 u.2.2) u.1 w3;have con4:=eN (H2.out.next hb3) 2;go_wp2_with fail
   refine con4.mono ?_;rintro e w4 ⟨rfl,hb4⟩;go_wp2_with fail
   exact ⟨rfl,Ends.err (c:=(2,u.2.2)) rfl (hx2.trans (.of (chain hb3 hb4) (by omega))) (H2.out.next (chain hb3 hb4))⟩
  have b2:(u.1 != 2)=false:=by simpa using hs2
  obtain ⟨hp,hp0,hp1⟩:=qu hok hs2;have HM3:Hid ((if (cx u.2.1)<least∨most<(cx u.2.1) then .error (3,t.2.2) else .ok (cx u.2.1,az (u :: ur)))=M):=by
   have:=HM2.out;rw [if_neg (by simpa [cy] using hs2)] at this;exact this
  have hsz:=hok.1;clear HM2 hok;generalize hdg:cx u.2.1=dg at *;go_wp2_with fail
  refine con3.mono ?_;rintro e w3 ⟨rfl,hb3⟩;have hf3:=dR (.string u.2.1) (.int .i64 u.2.2) 2 w3;have con4:=kA (H2.out.next hb3);rw [hs2] at con4;clear con3;go_wp2_with fail
  refine con4.mono ?_;rintro e w4 ⟨rfl,h4,hb4⟩;have hf4:=lL (.int .i64 2) (.int .i64 u.2.2) u.2.1 w4;have con5:=qb u.2.1 hsz dg hp w4;have H4:Hid (au w4 R tb (az (u :: ur)) o):=h4;have hx4:af R w w4:=(hx2.trans (.of hb3 (by omega))).trans hb4;have hz4:=hx4.size;clear con4 h4 hf3;go_wp2_with fail
  refine con5.mono ?_;rintro e w5 ⟨rfl,hb5⟩;have hx5:af R w w5:=hx4.trans (.of hb5 (by omega));have H5:Hid (au w5 R tb (az (u :: ur)) o):=H4.out.next hb5;clear con5 hf4;have hmb:-10000000000000000<dg∧dg<10000000000000000:=by omega
  clear hp hdg hsz;by_cases hr1:dg<least
  case pos =>
   have e:M = .error (3,t.2.2):=by rw [← HM3.out,if_pos (.inl hr1)]
   subst e;have con6:=eG 3 t.2.2 w5;clear HM3;go_wp2_with fail
   refine con6.mono ?_;rintro e w6 ⟨rfl,hb6⟩;go_wp2_with fail
   exact ⟨rfl,Ends.err (c:=(3,t.2.2)) rfl (hx5.trans (.of hb6 (by have:=hx5.size; omega))) (H5.out.next hb6)⟩
  by_cases hr2:most<dg
  case pos =>
   have e:M = .error (3,t.2.2):=by rw [← HM3.out,if_pos (.inr hr2)]
   subst e;have con6:=eG 3 t.2.2 w5;clear HM3;go_wp2_with fail
   refine con6.mono ?_;rintro e w6 ⟨rfl,hb6⟩;go_wp2_with fail
   exact ⟨rfl,Ends.err (c:=(3,t.2.2)) rfl (hx5.trans (.of hb6 (by have:=hx5.size; omega))) (H5.out.next hb6)⟩
  have e:M = .ok (dg,az (u :: ur)):=by rw [← HM3.out,if_neg (by omega)]
  subst e;clear HM3;go_wp2_with fail
  refine C0 (v:=.int .i64 (dg)) (by simp [results,Tryz.results165,go_sem]) rfl ?_;exact Ends.bV rfl hx5 rfl H5.out
 ·have HM2:Hid ((if (cy (az (t :: r))).1≠2 then .error (2,gY (az (t :: r))) else if (-cx (cy (az (t :: r))).2.1)<least∨most<(-cx (cy (az (t :: r))).2.1) then .error (3,t.2.2) else .ok (-cx (cy (az (t :: r))).2.1,az (az (t :: r))))=M):=by
   have:=HM.out;rw [dp,hsg] at this;exact this
  clear HM;go_enter Tryz.func165,Tryz.ntmps165;go_wp2_with fail
  refine con.mono ?_;rintro e w1 ⟨rfl,hb1⟩;have hf1:=wY (.int .i64 t.1) (.string t.2.1) t.2.2 w1;have con2:=aM (HR.out.next hb1) ⟨#[45]⟩;rw [hsg,bP hsg] at con2;clear con;go_wp2_with fail
  refine con2.mono ?_;rintro e w2 ⟨rfl,h2,hb2⟩;have hx2:af R w w2:=(af.of hb1 (by omega)).trans hb2;have hz2:=hx2.size;clear con2 hf1;generalize az (t :: r)=us at *;obtain ⟨u,ur,rfl⟩:=h2.gQ.ne;have con3:=iT h2;have hok:=h2.gQ.ok;have H2:Hid (au w2 R tb (u :: ur) o):=h2;clear h2;by_cases hs2:u.1=2
  case neg =>
   have b2:(u.1 != 2)=true:=by simpa using hs2
   have e:M = .error (2,u.2.2):=by rw [← HM2.out,if_pos (by simpa [cy] using hs2)]; rfl
   subst e;clear HM2;go_wp2_with fail
   refine con3.mono ?_;rintro e w3 ⟨rfl,hb3⟩;have hf3:=dR (.string u.2.1) (.int .i64 u.2.2) u.1 w3;have con4:=eN (H2.out.next hb3) 2;go_wp2_with fail
   refine con4.mono ?_;rintro e w4 ⟨rfl,hb4⟩;go_wp2_with fail
   exact ⟨rfl,Ends.err (c:=(2,u.2.2)) rfl (hx2.trans (.of (chain hb3 hb4) (by omega))) (H2.out.next (chain hb3 hb4))⟩
  have b2:(u.1 != 2)=false:=by simpa using hs2
  obtain ⟨hp,hp0,hp1⟩:=qu hok hs2;have HM3:Hid ((if (-cx u.2.1)<least∨most<(-cx u.2.1) then .error (3,t.2.2) else .ok (-cx u.2.1,az (u :: ur)))=M):=by
   have:=HM2.out;rw [if_neg (by simpa [cy] using hs2)] at this;exact this
  have hsz:=hok.1;clear HM2 hok;generalize hdg:cx u.2.1=dg at *;go_wp2_with fail
  refine con3.mono ?_;rintro e w3 ⟨rfl,hb3⟩;have hf3:=dR (.string u.2.1) (.int .i64 u.2.2) 2 w3;have con4:=kA (H2.out.next hb3);rw [hs2] at con4;clear con3;go_wp2_with fail
  refine con4.mono ?_;rintro e w4 ⟨rfl,h4,hb4⟩;have hf4:=lL (.int .i64 2) (.int .i64 u.2.2) u.2.1 w4;have con5:=qb u.2.1 hsz dg hp w4;have H4:Hid (au w4 R tb (az (u :: ur)) o):=h4;have hx4:af R w w4:=(hx2.trans (.of hb3 (by omega))).trans hb4;have hz4:=hx4.size;clear con4 h4 hf3;go_wp2_with fail
  refine con5.mono ?_;rintro e w5 ⟨rfl,hb5⟩;have hx5:af R w w5:=hx4.trans (.of hb5 (by omega));have H5:Hid (au w5 R tb (az (u :: ur)) o):=H4.out.next hb5;clear con5 hf4;have hmb:-10000000000000000<dg∧dg<10000000000000000:=by omega
  clear hp hdg hsz;by_cases hr1:-dg<least
  case pos =>
   have e:M = .error (3,t.2.2):=by rw [← HM3.out,if_pos (.inl hr1)]
   subst e;have con6:=eG 3 t.2.2 w5;clear HM3;go_wp2_with fail
   refine con6.mono ?_;rintro e w6 ⟨rfl,hb6⟩;go_wp2_with fail
   exact ⟨rfl,Ends.err (c:=(3,t.2.2)) rfl (hx5.trans (.of hb6 (by have:=hx5.size; omega))) (H5.out.next hb6)⟩
  by_cases hr2:most < -dg
  case pos =>
   have e:M = .error (3,t.2.2):=by rw [← HM3.out,if_pos (.inr hr2)]
   subst e;have con6:=eG 3 t.2.2 w5;clear HM3;go_wp2_with fail
   refine con6.mono ?_;rintro e w6 ⟨rfl,hb6⟩;go_wp2_with fail
   exact ⟨rfl,Ends.err (c:=(3,t.2.2)) rfl (hx5.trans (.of hb6 (by have:=hx5.size; omega))) (H5.out.next hb6)⟩
  have e:M = .ok (-dg,az (u :: ur)):=by rw [← HM3.out,if_neg (by omega)]
  subst e;clear HM3;go_wp2_with fail
  refine C0 (v:=.int .i64 (-dg)) (by simp [results,Tryz.results165,go_sem]) rfl ?_;exact Ends.bV rfl hx5 rfl H5.out
theorem cu {W:World} {g:Nat} {T:TypeId} {c0 c1 c2:Value} (h:W.heap[g]? = some (.cells #[c0,c1,c2] T (0,0))):W.cell? ⟨g,0,none⟩=some c0∧W.cell? ⟨g,1,none⟩=some c1∧W.cell? ⟨g,2,none⟩=some c2 :=
 ⟨cell_of (i:=0) h rfl,cell_of (i:=1) h rfl,cell_of (i:=2) h rfl⟩
theorem gS {W:World} {g:Nat} {T:TypeId} {c0 c1 c2:Value} (h:W.heap[g]? = some (.cells #[c0,c1,c2] T (0,0))):W.frozen? ⟨g,0,none⟩=false∧W.frozen? ⟨g,1,none⟩=false∧W.frozen? ⟨g,2,none⟩=false :=
 ⟨C3 W g 0 _ _ h,C3 W g 1 _ _ h,C3 W g 2 _ _ h⟩
theorem eV {W:World} {g:Nat} {T:TypeId} {c0 c1 c2:Value} (h:W.heap[g]? = some (.cells #[c0,c1,c2] T (0,0))) (v0 v1 v2:Value):(((W.setCell ⟨g,0,none⟩ v0).setCell ⟨g,1,none⟩ v1).setCell ⟨g,2,none⟩ v2).heap[g]? = some (.cells #[v0,v1,v2] T (0,0)):=by
 have h:=C1 _ g 0 _ _ v0 h;have h:=C1 _ g 1 _ _ v1 h;have h:=C1 _ g 2 _ _ v2 h;exact h
theorem AP {t g:Nat} {W0 W:World} (h:af t W0 W) (hg:W0.heap.size≤g) (ht:t≤W0.heap.size) (v0 v1 v2:Value):af t W0 (((W.setCell ⟨g,0,none⟩ v0).setCell ⟨g,1,none⟩ v1).setCell ⟨g,2,none⟩ v2) :=
 (((h.aL g 0 _ hg ht).aL g 1 _ hg ht).aL g 2 _ hg ht)
theorem jH {g:Nat} {W0 W:World} (h:Below W0.heap.size W0 W) (hg:W0.heap.size≤g) (v0 v1 v2:Value):Below W0.heap.size W0 (((W.setCell ⟨g,0,none⟩ v0).setCell ⟨g,1,none⟩ v1).setCell ⟨g,2,none⟩ v2) :=
 (((h.setCell (p:=⟨g,0,none⟩) hg _).setCell (p:=⟨g,1,none⟩) hg _).setCell (p:=⟨g,2,none⟩) hg _)
def CP (_:World) (v:Value) (x:Vl):Prop:=v = .agg #[.int .i64 x.1,.int .i64 x.2.1,.string x.2.2]
theorem vQ {n:Int} (h1:-1000000000000000≤n) (h2:n≤1000000000000000) (w:World):Calls Tryz.prog 166 #[.int .i64 n] w fun e w'=>e = .returned (.bool true)∧w'=w:=by
 go_enter Tryz.func166,Tryz.ntmps166;go_wp2_with fail
 exact C0 (v:=.bool true) (by simp [results,Tryz.results166,go_sem]; try omega) rfl ⟨by first | rfl | trivial,by first | rfl | trivial⟩
theorem yB {n:Int} (h1:-1000000000000000≤n) (h2:n≤1000000000000000) (w:World):Calls Tryz.prog 214 #[.int .i64 n] w fun e w'=>e = .returned (.agg #[.int .i64 3,.int .i64 n,.string ⟨#[]⟩])∧Below w.heap.size w w':=by
 have con:=vQ h1 h2 (w.alloc (.cells #[.int .i64 0,.int .i64 0,.string ⟨#[]⟩] 53));go_enter Tryz.func214,Tryz.ntmps214;go_wp2_with fail
 refine con.mono ?_;rintro e w1 ⟨rfl,rfl⟩;go_wp2_with fail
 exact C0 (v:=.agg #[.int .i64 3,.int .i64 n,.string ⟨#[]⟩]) (by simp [results,Tryz.results214,go_sem]) rfl ⟨rfl,(CY _ _).alloc (CX _) _⟩
theorem pf {least most n:Int} {ts r:List Tk} (h:dp least most ts = .ok (n,r)):least≤n∧n≤most:=by
 unfold dp at h;simp only at h;generalize (if bu ⟨#[45]⟩ ts=true then az ts else ts)=ts1 at h;generalize (if bu ⟨#[45]⟩ ts=true then -cx (cy ts1).2.1 else cx (cy ts1).2.1)=m at h;by_cases h2:(cy ts1).1≠2
 ·rw [if_pos h2] at h; cases h
 ·rw [if_neg h2] at h;by_cases h3:m<least∨most<m
  ·rw [if_pos h3] at h; cases h
  ·rw [if_neg h3] at h;have e:=(Prod.mk.inj (Except.ok.inj h)).1;omega
theorem kC {w W:World} {R tb g:Nat} {rs:List Tk} {o:Int} {T:TypeId} {c0 c1 c2:Value} (Q:W.heap[g]? = some (.cells #[c0,c1,c2] T (0,0))) (hR:au W R tb rs o) (hb:af R w W) (h1:w.heap.size≤g) (h3:R<w.heap.size) (h4:tb<w.heap.size) (v0 v1 v2:Value) :
  (((W.setCell ⟨g,0,none⟩ v0).setCell ⟨g,1,none⟩ v1).setCell ⟨g,2,none⟩ v2).heap[g]? = some (.cells #[v0,v1,v2] T (0,0))∧au (((W.setCell ⟨g,0,none⟩ v0).setCell ⟨g,1,none⟩ v1).setCell ⟨g,2,none⟩ v2) R tb rs o∧af R w (((W.setCell ⟨g,0,none⟩ v0).setCell ⟨g,1,none⟩ v1).setCell ⟨g,2,none⟩ v2):=by
 have hk1:aF g W (((W.setCell ⟨g,0,none⟩ v0).setCell ⟨g,1,none⟩ v1).setCell ⟨g,2,none⟩ v2):=(((aF.refl _ _).set _ _).set _ _).set _ _;exact ⟨eV Q _ _ _,hR.k1 hk1 (by omega) (by omega) (by have:=hR.r2; omega),AP hb h1 (by omega) _ _ _⟩
theorem mC {w:World} {R tb:Nat} {ts:List Tk} {o:Int} (h:au w R tb ts o):Calls Tryz.prog 190 #[.pointer (some ⟨R,0,none⟩)] w (Ends R tb o w CP (bU ts)):=by
 obtain ⟨t,r,rfl⟩:=h.gQ.ne;have hltR:=h.lt;have hltT:=h.j5;have hal:=ab w (.cells #[.int .i64 0,.int .i64 0,.string ⟨#[]⟩] 53);have QZ0:=ar w #[.int .i64 0,.int .i64 0,.string ⟨#[]⟩] 53;have hz0:w.heap.size<(w.alloc (.cells #[.int .i64 0,.int .i64 0,.string ⟨#[]⟩] 53)).heap.size:=lt_of_heap QZ0;have con:=iT (h.next hal);have H1:Hid (au (w.alloc (.cells #[.int .i64 0,.int .i64 0,.string ⟨#[]⟩] 53)) R tb (t :: r) o):=h.next hal;generalize hM:bU (t :: r)=M;have HM:Hid (bU (t :: r)=M):=hM;clear h hM
 by_cases hs3:t.1=3
 case pos =>
  have b3:(t.1 == 3)=true:=by simpa using hs3
  have e:M = .ok ((4,0,t.2.1),az (t :: r)):=by rw [← HM.out,bU,if_pos (by simpa [cy] using hs3)]; rfl
  subst e;clear HM;go_enter Tryz.func190,Tryz.ntmps190;go_wp2_with fail
  generalize w.alloc (.cells #[.int .i64 0,.int .i64 0,.string ⟨#[]⟩] 53)=w1 at *;refine con.mono ?_;rintro e w2 ⟨rfl,hb2⟩;have hf2:=dR (.string t.2.1) (.int .i64 t.2.2) 3 w2;have H2:Hid (au w2 R tb (t :: r) o):=H1.out.next hb2;have QZ2:=(hb2.block _ (lt_of_heap QZ0)).trans QZ0;have hx2:af R w w2:=(af.of hal (by omega)).trans (.of hb2 (by omega));have hz2:=lt_of_heap QZ2;clear con;have con3:=kA H2.out;rw [hs3] at con3;go_wp2_with fail
  refine con3.mono ?_;rintro e w3 ⟨rfl,h3,hb3⟩;have hf3:=lL (.int .i64 3) (.int .i64 t.2.2) t.2.1 w3;have QZ:=(hb3.2 _ (lt_of_heap QZ2) (by omega)).trans QZ2;have HRF:Hid (au w3 R tb (az (t :: r)) o):=h3;have hxF:=hx2.trans hb3;clear con3 h3 hf2;obtain ⟨z0,z1,z2⟩:=cu QZ;obtain ⟨y0,y1,y2⟩:=gS QZ;go_wp2_with fail
  obtain ⟨QE,hRE,hbE⟩:=kC (w:=w) QZ HRF.out hxF (CX _) hltR hltT (.int .i64 4) (.int .i64 0) (.string t.2.1);generalize (((w3.setCell ⟨w.heap.size,0,none⟩ (.int .i64 4)).setCell ⟨w.heap.size,1,none⟩ (.int .i64 0)).setCell ⟨w.heap.size,2,none⟩ (.string t.2.1))=wE at *;obtain ⟨x0,x1,x2⟩:=cu QE;exact C0 (v:=.agg #[.int .i64 4,.int .i64 0,.string t.2.1]) (by simp [results,Tryz.results190,go_sem,x0,x1,x2]) rfl (Ends.bV (x:=(4,0,t.2.1)) rfl hbE rfl hRE)
 have b3:(t.1 == 3)=false:=by simpa using hs3
 rcases i0:bu ⟨#[110,117,108,108]⟩ (t :: r) with _ | _
 case true =>
  have e:M = .ok ((1,0,eB),az (t :: r)):=by rw [← HM.out,bU,if_neg (by simpa [cy] using hs3),if_pos i0]
  subst e;clear HM;go_enter Tryz.func190,Tryz.ntmps190;go_wp2_with fail
  generalize w.alloc (.cells #[.int .i64 0,.int .i64 0,.string ⟨#[]⟩] 53)=w1 at *;refine con.mono ?_;rintro e w2 ⟨rfl,hb2⟩;have hf2:=dR (.string t.2.1) (.int .i64 t.2.2) t.1 w2;have H2:Hid (au w2 R tb (t :: r) o):=H1.out.next hb2;have QZ2:=(hb2.block _ (lt_of_heap QZ0)).trans QZ0;have hx2:af R w w2:=(af.of hal (by omega)).trans (.of hb2 (by omega));have hz2:=lt_of_heap QZ2;clear con;have HT0:=H2;have QT0:=QZ2;have hxt0:=hx2;have ct0:=aM HT0.out ⟨#[110,117,108,108]⟩;rw [i0,bP i0] at ct0;go_wp2_with fail
  refine ct0.mono ?_;rintro e wt1 ⟨rfl,ht,hbt1⟩;have HT1:Hid (au wt1 R tb (az (t :: r)) o):=ht;have QT1:=(hbt1.2 _ (lt_of_heap QT0) (by omega)).trans QT0;have hxt1:=hxt0.trans hbt1;have hzt1:=lt_of_heap QT1;clear ct0 ht;have cv:=vy wt1;go_wp2_with fail
  refine cv.mono ?_;rintro e wv ⟨rfl,hbv⟩;have QZ:=(hbv.block _ (lt_of_heap QT1)).trans QT1;have HRF:Hid (au wv R tb (az (t :: r)) o):=HT1.out.next hbv;have hxF:=hxt1.trans (.of hbv (by have:=hxt1.size; omega));clear cv hf2;obtain ⟨z0,z1,z2⟩:=cu QZ;obtain ⟨y0,y1,y2⟩:=gS QZ;go_wp2_with fail
  obtain ⟨QE,hRE,hbE⟩:=kC (w:=w) QZ HRF.out hxF (CX _) hltR hltT (.int .i64 1) (.int .i64 0) (.string ⟨#[]⟩);generalize (((wv.setCell ⟨w.heap.size,0,none⟩ (.int .i64 1)).setCell ⟨w.heap.size,1,none⟩ (.int .i64 0)).setCell ⟨w.heap.size,2,none⟩ (.string ⟨#[]⟩))=wE at *;obtain ⟨x0,x1,x2⟩:=cu QE;exact C0 (v:=.agg #[.int .i64 1,.int .i64 0,.string ⟨#[]⟩]) (by simp [results,Tryz.results190,go_sem,x0,x1,x2]) rfl (Ends.bV (x:=(1,0,eB)) rfl hbE rfl hRE)
 rcases i1:bu ⟨#[116,114,117,101]⟩ (t :: r) with _ | _
 case true =>
  have e:M = .ok ((2,1,eB),az (t :: r)):=by rw [← HM.out,bU,if_neg (by simpa [cy] using hs3),if_neg (by simp [i0]),if_pos i1]
  subst e;clear HM;go_enter Tryz.func190,Tryz.ntmps190;go_wp2_with fail
  generalize w.alloc (.cells #[.int .i64 0,.int .i64 0,.string ⟨#[]⟩] 53)=w1 at *;refine con.mono ?_;rintro e w2 ⟨rfl,hb2⟩;have hf2:=dR (.string t.2.1) (.int .i64 t.2.2) t.1 w2;have H2:Hid (au w2 R tb (t :: r) o):=H1.out.next hb2;have QZ2:=(hb2.block _ (lt_of_heap QZ0)).trans QZ0;have hx2:af R w w2:=(af.of hal (by omega)).trans (.of hb2 (by omega));have hz2:=lt_of_heap QZ2;clear con;have HT0:=H2;have QT0:=QZ2;have hxt0:=hx2;have ct0:=aM HT0.out ⟨#[110,117,108,108]⟩;rw [i0,bC i0] at ct0;go_wp2_with fail
  refine ct0.mono ?_;rintro e wt1 ⟨rfl,ht,hbt1⟩;have HT1:Hid (au wt1 R tb (t :: r) o):=ht;have QT1:=(hbt1.2 _ (lt_of_heap QT0) (by omega)).trans QT0;have hxt1:=hxt0.trans hbt1;have hzt1:=lt_of_heap QT1;clear ct0 ht;have ct1:=aM HT1.out ⟨#[116,114,117,101]⟩;rw [i1,bP i1] at ct1;go_wp2_with fail
  refine ct1.mono ?_;rintro e wt2 ⟨rfl,ht,hbt2⟩;have HT2:Hid (au wt2 R tb (az (t :: r)) o):=ht;have QT2:=(hbt2.2 _ (lt_of_heap QT1) (by omega)).trans QT1;have hxt2:=hxt1.trans hbt2;have hzt2:=lt_of_heap QT2;clear ct1 ht;have cv:=tq wt2;go_wp2_with fail
  refine cv.mono ?_;rintro e wv ⟨rfl,hbv⟩;have QZ:=(hbv.block _ (lt_of_heap QT2)).trans QT2;have HRF:Hid (au wv R tb (az (t :: r)) o):=HT2.out.next hbv;have hxF:=hxt2.trans (.of hbv (by have:=hxt2.size; omega));clear cv hf2;obtain ⟨z0,z1,z2⟩:=cu QZ;obtain ⟨y0,y1,y2⟩:=gS QZ;go_wp2_with fail
  obtain ⟨QE,hRE,hbE⟩:=kC (w:=w) QZ HRF.out hxF (CX _) hltR hltT (.int .i64 2) (.int .i64 1) (.string ⟨#[]⟩);generalize (((wv.setCell ⟨w.heap.size,0,none⟩ (.int .i64 2)).setCell ⟨w.heap.size,1,none⟩ (.int .i64 1)).setCell ⟨w.heap.size,2,none⟩ (.string ⟨#[]⟩))=wE at *;obtain ⟨x0,x1,x2⟩:=cu QE;exact C0 (v:=.agg #[.int .i64 2,.int .i64 1,.string ⟨#[]⟩]) (by simp [results,Tryz.results190,go_sem,x0,x1,x2]) rfl (Ends.bV (x:=(2,1,eB)) rfl hbE rfl hRE)
 rcases i2:bu ⟨#[102,97,108,115,101]⟩ (t :: r) with _ | _
 case true =>
  have e:M = .ok ((2,0,eB),az (t :: r)):=by rw [← HM.out,bU,if_neg (by simpa [cy] using hs3),if_neg (by simp [i0]),if_neg (by simp [i1]),if_pos i2]
  subst e;clear HM;go_enter Tryz.func190,Tryz.ntmps190;go_wp2_with fail
  generalize w.alloc (.cells #[.int .i64 0,.int .i64 0,.string ⟨#[]⟩] 53)=w1 at *;refine con.mono ?_;rintro e w2 ⟨rfl,hb2⟩;have hf2:=dR (.string t.2.1) (.int .i64 t.2.2) t.1 w2;have H2:Hid (au w2 R tb (t :: r) o):=H1.out.next hb2;have QZ2:=(hb2.block _ (lt_of_heap QZ0)).trans QZ0;have hx2:af R w w2:=(af.of hal (by omega)).trans (.of hb2 (by omega));have hz2:=lt_of_heap QZ2;clear con;have HT0:=H2;have QT0:=QZ2;have hxt0:=hx2;have ct0:=aM HT0.out ⟨#[110,117,108,108]⟩;rw [i0,bC i0] at ct0;go_wp2_with fail
  refine ct0.mono ?_;rintro e wt1 ⟨rfl,ht,hbt1⟩;have HT1:Hid (au wt1 R tb (t :: r) o):=ht;have QT1:=(hbt1.2 _ (lt_of_heap QT0) (by omega)).trans QT0;have hxt1:=hxt0.trans hbt1;have hzt1:=lt_of_heap QT1;clear ct0 ht;have ct1:=aM HT1.out ⟨#[116,114,117,101]⟩;rw [i1,bC i1] at ct1;go_wp2_with fail
  refine ct1.mono ?_;rintro e wt2 ⟨rfl,ht,hbt2⟩;have HT2:Hid (au wt2 R tb (t :: r) o):=ht;have QT2:=(hbt2.2 _ (lt_of_heap QT1) (by omega)).trans QT1;have hxt2:=hxt1.trans hbt2;have hzt2:=lt_of_heap QT2;clear ct1 ht;have ct2:=aM HT2.out ⟨#[102,97,108,115,101]⟩;rw [i2,bP i2] at ct2;go_wp2_with fail
  refine ct2.mono ?_;rintro e wt3 ⟨rfl,ht,hbt3⟩;have HT3:Hid (au wt3 R tb (az (t :: r)) o):=ht;have QT3:=(hbt3.2 _ (lt_of_heap QT2) (by omega)).trans QT2;have hxt3:=hxt2.trans hbt3;have hzt3:=lt_of_heap QT3;clear ct2 ht;have cv:=rN wt3;go_wp2_with fail
  refine cv.mono ?_;rintro e wv ⟨rfl,hbv⟩;have QZ:=(hbv.block _ (lt_of_heap QT3)).trans QT3;have HRF:Hid (au wv R tb (az (t :: r)) o):=HT3.out.next hbv;have hxF:=hxt3.trans (.of hbv (by have:=hxt3.size; omega));clear cv hf2;obtain ⟨z0,z1,z2⟩:=cu QZ;obtain ⟨y0,y1,y2⟩:=gS QZ;go_wp2_with fail
  obtain ⟨QE,hRE,hbE⟩:=kC (w:=w) QZ HRF.out hxF (CX _) hltR hltT (.int .i64 2) (.int .i64 0) (.string ⟨#[]⟩);generalize (((wv.setCell ⟨w.heap.size,0,none⟩ (.int .i64 2)).setCell ⟨w.heap.size,1,none⟩ (.int .i64 0)).setCell ⟨w.heap.size,2,none⟩ (.string ⟨#[]⟩))=wE at *;obtain ⟨x0,x1,x2⟩:=cu QE;exact C0 (v:=.agg #[.int .i64 2,.int .i64 0,.string ⟨#[]⟩]) (by simp [results,Tryz.results190,go_sem,x0,x1,x2]) rfl (Ends.bV (x:=(2,0,eB)) rfl hbE rfl hRE)
 have HM2:Hid (bf (dp (-1000000000000000) 1000000000000000 (t :: r)) (fun n r=>.ok ((3,n,eB),r))=M):=by
  have:=HM.out;rw [bU,if_neg (by simpa [cy] using hs3),if_neg (by simp [i0]),if_neg (by simp [i1]),if_neg (by simp [i2])] at this;exact this
 clear HM;go_enter Tryz.func190,Tryz.ntmps190;go_wp2_with fail
 generalize w.alloc (.cells #[.int .i64 0,.int .i64 0,.string ⟨#[]⟩] 53)=w1 at *;refine con.mono ?_;rintro e w2 ⟨rfl,hb2⟩;have hf2:=dR (.string t.2.1) (.int .i64 t.2.2) t.1 w2;have H2:Hid (au w2 R tb (t :: r) o):=H1.out.next hb2;have QZ2:=(hb2.block _ (lt_of_heap QZ0)).trans QZ0;have hx2:af R w w2:=(af.of hal (by omega)).trans (.of hb2 (by omega));have hz2:=lt_of_heap QZ2;clear con;have HT0:=H2;have QT0:=QZ2;have hxt0:=hx2;have ct0:=aM HT0.out ⟨#[110,117,108,108]⟩;rw [i0,bC i0] at ct0;go_wp2_with fail
 refine ct0.mono ?_;rintro e wt1 ⟨rfl,ht,hbt1⟩;have HT1:Hid (au wt1 R tb (t :: r) o):=ht;have QT1:=(hbt1.2 _ (lt_of_heap QT0) (by omega)).trans QT0;have hxt1:=hxt0.trans hbt1;have hzt1:=lt_of_heap QT1;clear ct0 ht;have ct1:=aM HT1.out ⟨#[116,114,117,101]⟩;rw [i1,bC i1] at ct1;go_wp2_with fail
 refine ct1.mono ?_;rintro e wt2 ⟨rfl,ht,hbt2⟩;have HT2:Hid (au wt2 R tb (t :: r) o):=ht;have QT2:=(hbt2.2 _ (lt_of_heap QT1) (by omega)).trans QT1;have hxt2:=hxt1.trans hbt2;have hzt2:=lt_of_heap QT2;clear ct1 ht;have ct2:=aM HT2.out ⟨#[102,97,108,115,101]⟩;rw [i2,bC i2] at ct2;go_wp2_with fail
 refine ct2.mono ?_;rintro e wt3 ⟨rfl,ht,hbt3⟩;have HT3:Hid (au wt3 R tb (t :: r) o):=ht;have QT3:=(hbt3.2 _ (lt_of_heap QT2) (by omega)).trans QT2;have hxt3:=hxt2.trans hbt3;have hzt3:=lt_of_heap QT3;clear ct2 ht;have cn:=nE HT3.out (-1000000000000000) 1000000000000000;have hrg:∀ n r',dp (-1000000000000000) 1000000000000000 (t :: r) = .ok (n,r') → -1000000000000000≤n∧n≤1000000000000000:=fun _ _ h=>pf h
 generalize dp (-1000000000000000) 1000000000000000 (t :: r)=L at *;go_wp2_with fail
 refine cn.mono ?_;rintro e wn ⟨hbn,hW⟩;have hxn:=hxt3.trans hbn;have QN:=(hbn.2 _ (lt_of_heap QT3) (by omega)).trans QT3;clear cn hf2;rcases L with ce | ⟨nn,rs⟩
 ·obtain ⟨rfl,us,hE⟩:=hW;have HE:Hid (au wn R tb us o):=hE;clear hE;have e:M = .error ce:=HM2.out.symm;subst e;clear HM2;go_wp2_with fail
  exact ⟨rfl,Ends.err rfl hxn HE.out⟩
 obtain ⟨v,rfl,rfl,hRn⟩:=hW;have HRn:Hid (au wn R tb rs o):=hRn;have e:M = .ok ((3,nn,eB),rs):=HM2.out.symm;subst e;have hrg2:=hrg nn rs rfl;have cv:=yB hrg2.1 hrg2.2 wn;clear HM2 hRn hrg;go_wp2_with fail
 refine cv.mono ?_;rintro e wv ⟨rfl,hbv⟩;have QZ:=(hbv.block _ (lt_of_heap QN)).trans QN;have HRF:Hid (au wv R tb rs o):=HRn.out.next hbv;have hxF:=hxn.trans (.of hbv (by have:=hxn.size; omega));clear cv;obtain ⟨z0,z1,z2⟩:=cu QZ;obtain ⟨y0,y1,y2⟩:=gS QZ;go_wp2_with fail
 obtain ⟨QE,hRE,hbE⟩:=kC (w:=w) QZ HRF.out hxF (CX _) hltR hltT (.int .i64 3) (.int .i64 nn) (.string ⟨#[]⟩);generalize (((wv.setCell ⟨w.heap.size,0,none⟩ (.int .i64 3)).setCell ⟨w.heap.size,1,none⟩ (.int .i64 nn)).setCell ⟨w.heap.size,2,none⟩ (.string ⟨#[]⟩))=wE at *;obtain ⟨x0,x1,x2⟩:=cu QE;exact C0 (v:=.agg #[.int .i64 3,.int .i64 nn,.string ⟨#[]⟩]) (by simp [results,Tryz.results190,go_sem,x0,x1,x2]) rfl (Ends.bV (x:=(3,nn,eB)) rfl hbE rfl hRE)
theorem cj.of {W:World} {g:Nat} {l:List ByteArray} {T:TypeId} (h:W.heap[g]? = some (.cells (l.map Value.string).toArray T (0,0))):cj W g 0 l :=
 ⟨lt_of_heap h,fun i hi=>by rw [Dr]; exact cell_of (i:=i) h (by simp [hi])⟩
def rD:List (Int × ByteArray):=[(20,⟨#[99,111,117,110,116]⟩),(21,⟨#[115,117,109]⟩),(22,⟨#[109,105,110]⟩),(23,⟨#[109,97,120]⟩)]
def jJ (n:Nat) (o:Int) (ts:List Tk):List (Int × ByteArray)→PR SX
 | []=>dP ts
 | a :: r=>if bu a.2 ts then iC n a.1 o (az ts) else jJ n o ts r
abbrev zm:Array Value:=#[.int .i64 20,.string ⟨#[99,111,117,110,116]⟩,.int .i64 21,.string ⟨#[115,117,109]⟩,.int .i64 22,.string ⟨#[109,105,110]⟩,.int .i64 23,.string ⟨#[109,97,120]⟩]
theorem yP (w:World):Calls Tryz.prog 175 #[] w fun e w'=>e = .returned (.slice (some ⟨w.heap.size,0,none⟩) 4 4)∧w'=w.alloc (.cells zm 168):=by
 go_enter Tryz.func175,Tryz.ntmps175;go_wp2_with fail
 exact C0 (results_tmp rfl _ _ _) rfl ⟨by first | rfl | trivial,by first | rfl | trivial⟩
theorem zN {W:World} {g:Nat} {T:TypeId} (h:W.heap[g]? = some (.cells zm T (0,0))) (k:Nat) (hk:k<rD.length):W.cell? ⟨g,k*2,none⟩=some (.int .i64 rD[k].1)∧W.cell? ⟨g,k*2+1,none⟩=some (.string rD[k].2):=by
 have hk4:k<4:=hk;obtain rfl | rfl | rfl | rfl:k=0∨k=1∨k=2∨k=3:=by omega
 ·exact ⟨cell_of (i:=0) h rfl,cell_of (i:=1) h rfl⟩
 ·exact ⟨cell_of (i:=2) h rfl,cell_of (i:=3) h rfl⟩
 ·exact ⟨cell_of (i:=4) h rfl,cell_of (i:=5) h rfl⟩
 ·exact ⟨cell_of (i:=6) h rfl,cell_of (i:=7) h rfl⟩
theorem rC {n:Nat} {o:Int} (he:jt 164 [] (cY n o) o) (hes:∀ m,m+1≤n→∀ k,k≤m→jt 164 [] (cY k o) o) (hag:∀ kind,jt 246 [.int .i64 kind] (iC n kind o) o):jt 234 [] (cE (n+1) o) o:=by
 intro w R tb ts h hf;rw [cE] at hf ⊢;have hltR:=h.lt;have hltT:=h.j5;have hal:=ab w (.cells dU 55);have QZ0:=ar w dU 55;have hz0:w.heap.size<(w.alloc (.cells dU 55)).heap.size:=lt_of_heap QZ0;have con:=tp (h.next hal);have H1:Hid (au (w.alloc (.cells dU 55)) R tb ts o):=h.next hal;have HE:Hid (jt 164 [] (cY n o) o):=he;have HES:Hid (∀ m,m+1≤n→∀ k,k≤m→jt 164 [] (cY k o) o):=hes;have HAG:Hid (∀ kind,jt 246 [.int .i64 kind] (iC n kind o) o):=hag;clear he hes hag h;rcases ib:dI ts with _ | _
 case true =>
  rw [ib] at con;simp only [ib,if_true] at hf ⊢;generalize hM:bf (bU ts) (fun v r=>Except.ok (SX.mk 1 v eB eB [],r))=M at *;have HM:Hid (bf (bU ts) (fun v r=>Except.ok (SX.mk 1 v eB eB [],r))=M):=hM;clear hM hf;go_enter Tryz.func234,Tryz.ntmps234;go_wp2_with fail
  generalize w.alloc (.cells dU 55)=w1 at *;refine con.mono ?_;rintro e w2 ⟨rfl,hb2⟩;have con2:=mC (H1.out.next hb2);have QZ2:=(hb2.block _ (lt_of_heap QZ0)).trans QZ0;have hx2:af R w w2:=(af.of hal (by omega)).trans (.of hb2 (by omega));generalize bU ts=L at *;clear con;go_wp2_with fail
  refine con2.mono ?_;rintro e w3 ⟨hb3,hW⟩;have hx3:=hx2.trans hb3;have QZ:=(hb3.2 _ (lt_of_heap QZ2) (by omega)).trans QZ2;clear con2;rcases L with ce | ⟨lv,rs⟩
  ·obtain ⟨rfl,us,hE⟩:=hW;have HEr:Hid (au w3 R tb us o):=hE;clear hE;have e:M = .error ce:=HM.out.symm;subst e;clear HM;go_wp2_with fail
   exact ⟨rfl,Ends.err rfl hx3 HEr.out⟩
  obtain ⟨v,rfl,rfl,hR3⟩:=hW;have HR3:Hid (au w3 R tb rs o):=hR3;have e:M = .ok (SX.mk 1 lv eB eB [],rs):=HM.out.symm;subst e;obtain ⟨z0,z1,z2,z3,z4,z5,z6⟩:=aK QZ;obtain ⟨y0,y1,y2,y3,y4,y5,y6⟩:=dE QZ;clear HM hR3;go_wp2_with fail
  obtain ⟨QE,hRE,hKE,hbE⟩:=da (w:=w) (x:=.mk 1 lv eB eB []) (a:=none) (cap:=0) (B:=w.heap.size+1) QZ HR3.out (aD.nil _) hx3 (CX _) (by omega) hltR hltT;change (((((((w3.setCell ⟨w.heap.size,0,none⟩ (.int .i64 1)).setCell ⟨w.heap.size,1,none⟩ (.int .i64 lv.1)).setCell ⟨w.heap.size,2,none⟩ (.int .i64 lv.2.1)).setCell ⟨w.heap.size,3,none⟩ (.string lv.2.2)).setCell ⟨w.heap.size,4,none⟩ (.string ⟨#[]⟩)).setCell ⟨w.heap.size,5,none⟩ (.string ⟨#[]⟩)).setCell ⟨w.heap.size,6,none⟩ (.slice none 0 0)).heap[w.heap.size]? = _ at QE
  change au (((((((w3.setCell ⟨w.heap.size,0,none⟩ (.int .i64 1)).setCell ⟨w.heap.size,1,none⟩ (.int .i64 lv.1)).setCell ⟨w.heap.size,2,none⟩ (.int .i64 lv.2.1)).setCell ⟨w.heap.size,3,none⟩ (.string lv.2.2)).setCell ⟨w.heap.size,4,none⟩ (.string ⟨#[]⟩)).setCell ⟨w.heap.size,5,none⟩ (.string ⟨#[]⟩)).setCell ⟨w.heap.size,6,none⟩ (.slice none 0 0)) R tb rs o at hRE
  change bQ _ (((((((w3.setCell ⟨w.heap.size,0,none⟩ (.int .i64 1)).setCell ⟨w.heap.size,1,none⟩ (.int .i64 lv.1)).setCell ⟨w.heap.size,2,none⟩ (.int .i64 lv.2.1)).setCell ⟨w.heap.size,3,none⟩ (.string lv.2.2)).setCell ⟨w.heap.size,4,none⟩ (.string ⟨#[]⟩)).setCell ⟨w.heap.size,5,none⟩ (.string ⟨#[]⟩)).setCell ⟨w.heap.size,6,none⟩ (.slice none 0 0)) _ _ at hKE
  change af R w (((((((w3.setCell ⟨w.heap.size,0,none⟩ (.int .i64 1)).setCell ⟨w.heap.size,1,none⟩ (.int .i64 lv.1)).setCell ⟨w.heap.size,2,none⟩ (.int .i64 lv.2.1)).setCell ⟨w.heap.size,3,none⟩ (.string lv.2.2)).setCell ⟨w.heap.size,4,none⟩ (.string ⟨#[]⟩)).setCell ⟨w.heap.size,5,none⟩ (.string ⟨#[]⟩)).setCell ⟨w.heap.size,6,none⟩ (.slice none 0 0)) at hbE
  generalize (((((((w3.setCell ⟨w.heap.size,0,none⟩ (.int .i64 1)).setCell ⟨w.heap.size,1,none⟩ (.int .i64 lv.1)).setCell ⟨w.heap.size,2,none⟩ (.int .i64 lv.2.1)).setCell ⟨w.heap.size,3,none⟩ (.string lv.2.2)).setCell ⟨w.heap.size,4,none⟩ (.string ⟨#[]⟩)).setCell ⟨w.heap.size,5,none⟩ (.string ⟨#[]⟩)).setCell ⟨w.heap.size,6,none⟩ (.slice none 0 0))=wE at *;obtain ⟨x0,x1,x2,x3,x4,x5,x6⟩:=aK QE;exact C0 (v:=.agg (aT (.mk 1 lv eB eB []) none 0)) (by simp [results,Tryz.results234,go_sem,x0,x1,x2,x3,x4,x5,x6]) rfl (Ends.bV rfl hbE ⟨_,0,rfl,hKE.mono (by omega)⟩ hRE)
 rw [ib] at con;simp only [ib,De,if_false] at hf ⊢;rcases i0:bu ⟨#[40]⟩ ts with _ | _
 case true =>
  simp only [i0,if_true] at hf ⊢;have hne:cY n o (az ts)≠dm:=fun hc=>hf (by rw [hc]; rfl)
  generalize hM:bf (cY n o (az ts)) _=M at *;have HM:Hid (bf (cY n o (az ts)) (fun x r=>bf (aS [⟨#[41]⟩] r) fun _ r2=>.ok (x,r2))=M):=hM;clear hM hf;go_enter Tryz.func234,Tryz.ntmps234;go_wp2_with fail
  generalize w.alloc (.cells dU 55)=w1 at *;refine con.mono ?_;rintro e w2 ⟨rfl,hb2⟩;have HT0:Hid (au w2 R tb ts o):=H1.out.next hb2;have QT0:=(hb2.block _ (lt_of_heap QZ0)).trans QZ0;have hxt0:af R w w2:=(af.of hal (by omega)).trans (.of hb2 (by omega));have hzt0:=lt_of_heap QT0;clear con;have ct0:=aM HT0.out ⟨#[40]⟩;rw [i0,bP i0] at ct0;go_wp2_with fail
  refine ct0.mono ?_;rintro e wt1 ⟨rfl,ht,hbt1⟩;have HT1:Hid (au wt1 R tb (az ts) o):=ht;have QT1:=(hbt1.2 _ (lt_of_heap QT0) (by omega)).trans QT0;have hxt1:=hxt0.trans hbt1;have hzt1:=lt_of_heap QT1;clear ct0 ht;have con3:=HE.out wt1 R tb (az ts) HT1.out hne;generalize cY n o (az ts)=L at *;clear hne;go_wp2_with fail
  refine con3.mono ?_;rintro e w4 ⟨hb4,hW⟩;have hx4:=hxt1.trans hb4;have QZ4:=(hb4.2 _ (lt_of_heap QT1) (by omega)).trans QT1;have hz4:=lt_of_heap QZ4;clear con3;rcases L with ce | ⟨x,rs⟩
  ·obtain ⟨rfl,us,hE⟩:=hW;have HEr:Hid (au w4 R tb us o):=hE;clear hE;have e:M = .error ce:=HM.out.symm;subst e;clear HM;go_wp2_with fail
   exact ⟨rfl,Ends.err rfl hx4 HEr.out⟩
  obtain ⟨v,rfl,⟨a,c,rfl,hks⟩,hR4⟩:=hW;have HL:Hid (bf (aS [⟨#[41]⟩] rs) (fun _ r2=>.ok (x,r2))=M):=HM.out;have hal5:=ab w4 (.cells (aT x a c) 55);have QX5:=ar w4 (aT x a c) 55;have QZ5:=(hal5.block _ (lt_of_heap QZ4)).trans QZ4;have h5:=hR4.next hal5;have HK5:Hid (bQ (w.heap.size+1) (w4.alloc (.cells (aT x a c) 55)) a x.ks):=bQ.next hal5 (bQ.mono (by omega) hks)
  have hal6:Below (w4.alloc (.cells (aT x a c) 55)).heap.size (w4.alloc (.cells (aT x a c) 55)) ((w4.alloc (.cells (aT x a c) 55)).alloc (.cells #[.string ⟨#[41]⟩] 9)):=(CY _ _).alloc (CX _) _;have hst:cj ((w4.alloc (.cells (aT x a c) 55)).alloc (.cells #[.string ⟨#[41]⟩] 9)) (w4.heap.size+1) 0 [⟨#[41]⟩]:=by
   have:=cj.one (w4.alloc (.cells (aT x a c) 55)) ⟨#[41]⟩ 9;rw [show (w4.alloc (.cells (aT x a c) 55)).heap.size=w4.heap.size+1 by simp] at this;exact this
  have con6:=cz (cap:=1) (h5.next hal6) hst (by omega) (by simp);have hx5:af R w (w4.alloc (.cells (aT x a c) 55)):=hx4.trans (.of hal5 (by omega));have hz5:=lt_of_heap QX5;generalize aS [⟨#[41]⟩] rs=L2 at *;clear HM hR4 hks h5 hst;go_wp2_with fail
  generalize (w4.alloc (.cells (aT x a c) 55)).alloc (.cells #[.string ⟨#[41]⟩] 9)=w6 at *;generalize w4.alloc (.cells (aT x a c) 55)=w5 at *;refine con6.mono ?_;rintro e w7 ⟨hb7,hW⟩;have hx57:af R w5 w7:=(af.of hal6 (by omega)).trans hb7;have hx7:=hx5.trans hx57;have QX7:=(hx57.2 _ (lt_of_heap QX5) (by omega)).trans QX5;have QZ:=(hx57.2 _ (lt_of_heap QZ5) (by omega)).trans QZ5;have HK7:Hid (bQ (w.heap.size+1) w7 a x.ks):=bQ.k1 hx57.k1 (by omega) HK5.out;clear con6;rcases L2 with ce | ⟨u2,r2⟩
  ·obtain ⟨rfl,us,hE⟩:=hW;have HEr:Hid (au w7 R tb us o):=hE;clear hE;have e:M = .error ce:=HL.out.symm;subst e;clear HL;go_wp2_with fail
   exact ⟨rfl,Ends.err rfl hx7 HEr.out⟩
  obtain ⟨v,rfl,rfl,hR7⟩:=hW;have HR7:Hid (au w7 R tb r2 o):=hR7;have e:M = .ok (x,r2):=HL.out.symm;subst e;obtain ⟨u0,u1,u2,u3,u4,u5,u6⟩:=aK QX7;obtain ⟨z0,z1,z2,z3,z4,z5,z6⟩:=aK QZ;obtain ⟨y0,y1,y2,y3,y4,y5,y6⟩:=dE QZ;clear HL hR7;go_wp2_with fail
  obtain ⟨QE,hRE,hKE,hbE⟩:=da (w:=w) (cap:=c) QZ HR7.out HK7.out hx7 (CX _) (by omega) hltR hltT;generalize (((((((w7.setCell ⟨w.heap.size,0,none⟩ (.int .i64 x.k)).setCell ⟨w.heap.size,1,none⟩ (.int .i64 x.v.1)).setCell ⟨w.heap.size,2,none⟩ (.int .i64 x.v.2.1)).setCell ⟨w.heap.size,3,none⟩ (.string x.v.2.2)).setCell ⟨w.heap.size,4,none⟩ (.string x.aH)).setCell ⟨w.heap.size,5,none⟩ (.string x.name)).setCell ⟨w.heap.size,6,none⟩ (.slice a x.ks.length c))=wE at *;obtain ⟨x0,x1,x2,x3,x4,x5,x6⟩:=aK QE
  exact C0 (v:=.agg (aT x a c)) (by simp [results,Tryz.results234,go_sem,x0,x1,x2,x3,x4,x5,x6]) rfl (Ends.bV rfl hbE ⟨a,c,rfl,hKE.mono (by omega)⟩ hRE)
 simp only [i0,De,if_false] at hf ⊢;rcases i1:bu ⟨#[99,97,115,101]⟩ ts with _ | _
 case true =>
  simp only [i1,if_true] at hf ⊢;have hne:dc n o [⟨#[119,104,101,110]⟩,⟨#[116,104,101,110]⟩,⟨#[101,108,115,101]⟩,⟨#[101,110,100]⟩] (az ts)≠dm:=fun hc=>hf (by rw [hc]; rfl)
  obtain ⟨m,rfl⟩:∃ m,n=m+1:=by
   cases n with
   | zero=>exact absurd (by rw [dc]) hne
   | succ m=>exact ⟨m,rfl⟩
  generalize hM:bf (dc (m+1) o [⟨#[119,104,101,110]⟩,⟨#[116,104,101,110]⟩,⟨#[101,108,115,101]⟩,⟨#[101,110,100]⟩] (az ts)) _=M at *;have HM:Hid (bf (dc (m+1) o [⟨#[119,104,101,110]⟩,⟨#[116,104,101,110]⟩,⟨#[101,108,115,101]⟩,⟨#[101,110,100]⟩] (az ts)) (fun l r=>.ok (nd 17 l,r))=M):=hM;clear hM hf;go_enter Tryz.func234,Tryz.ntmps234;go_wp2_with fail
  generalize w.alloc (.cells dU 55)=w1 at *;refine con.mono ?_;rintro e w2 ⟨rfl,hb2⟩;have HT0:Hid (au w2 R tb ts o):=H1.out.next hb2;have QT0:=(hb2.block _ (lt_of_heap QZ0)).trans QZ0;have hxt0:af R w w2:=(af.of hal (by omega)).trans (.of hb2 (by omega));have hzt0:=lt_of_heap QT0;clear con;have ct0:=aM HT0.out ⟨#[40]⟩;rw [i0,bC i0] at ct0;go_wp2_with fail
  refine ct0.mono ?_;rintro e wt1 ⟨rfl,ht,hbt1⟩;have HT1:Hid (au wt1 R tb (ts) o):=ht;have QT1:=(hbt1.2 _ (lt_of_heap QT0) (by omega)).trans QT0;have hxt1:=hxt0.trans hbt1;have hzt1:=lt_of_heap QT1;clear ct0 ht;have ct1:=aM HT1.out ⟨#[99,97,115,101]⟩;rw [i1,bP i1] at ct1;go_wp2_with fail
  refine ct1.mono ?_;rintro e wt2 ⟨rfl,ht,hbt2⟩;have HT2:Hid (au wt2 R tb (az ts) o):=ht;have QT2:=(hbt2.2 _ (lt_of_heap QT1) (by omega)).trans QT1;have hxt2:=hxt1.trans hbt2;have hzt2:=lt_of_heap QT2;clear ct1 ht;have hal3:=ab wt2 (.cells #[.string ⟨#[119,104,101,110]⟩,.string ⟨#[116,104,101,110]⟩,.string ⟨#[101,108,115,101]⟩,.string ⟨#[101,110,100]⟩] 9)
  have hst:cj (wt2.alloc (.cells #[.string ⟨#[119,104,101,110]⟩,.string ⟨#[116,104,101,110]⟩,.string ⟨#[101,108,115,101]⟩,.string ⟨#[101,110,100]⟩] 9)) wt2.heap.size 0 (⟨#[119,104,101,110]⟩ :: [⟨#[116,104,101,110]⟩,⟨#[101,108,115,101]⟩,⟨#[101,110,100]⟩]):=cj.of (ar wt2 _ _);have con3:=lA (n:=m) (cap:=4) (fun k hk=>HES.out m (CX _) k hk) (HT2.out.next hal3) hst (by omega) (by simp) (by simp) hne
  have hx3:af R w (wt2.alloc (.cells #[.string ⟨#[119,104,101,110]⟩,.string ⟨#[116,104,101,110]⟩,.string ⟨#[101,108,115,101]⟩,.string ⟨#[101,110,100]⟩] 9)):=hxt2.trans (.of hal3 (by omega));have QZ3:=(hal3.block _ (lt_of_heap QT2)).trans QT2;have hz3:=lt_of_heap QZ3;generalize dc (m+1) o [⟨#[119,104,101,110]⟩,⟨#[116,104,101,110]⟩,⟨#[101,108,115,101]⟩,⟨#[101,110,100]⟩] (az ts)=L at *;clear hne hst;go_wp2_with fail
  generalize wt2.alloc (.cells #[.string ⟨#[119,104,101,110]⟩,.string ⟨#[116,104,101,110]⟩,.string ⟨#[101,108,115,101]⟩,.string ⟨#[101,110,100]⟩] 9)=w3 at *;refine con3.mono ?_;rintro e w4 ⟨hb4,hW⟩;have hx4:=hx3.trans hb4;have QZ4:=(hb4.2 _ (lt_of_heap QZ3) (by omega)).trans QZ3;have hz4:=lt_of_heap QZ4;clear con3;rcases L with ce | ⟨l,rs⟩
  ·obtain ⟨rfl,us,hE⟩:=hW;have HEr:Hid (au w4 R tb us o):=hE;clear hE;have e:M = .error ce:=HM.out.symm;subst e;clear HM;go_wp2_with fail
   exact ⟨rfl,Ends.err rfl hx4 HEr.out⟩
  obtain ⟨v,rfl,⟨a,c,rfl,hks⟩,hR4⟩:=hW;have HR4:Hid (au w4 R tb rs o):=hR4;have HK4:Hid (bQ w3.heap.size w4 a l):=hks;have e:M = .ok (nd 17 l,rs):=HM.out.symm;subst e;have con5:=fL 17 a l.length c w4;clear HM hR4 hks;go_wp2_with fail
  refine con5.mono ?_;rintro e w6 ⟨rfl,hb6⟩;have QZ:=(hb6.block _ (lt_of_heap QZ4)).trans QZ4;have hx6:af R w w6:=hx4.trans (.of hb6 (by omega));have HR6:Hid (au w6 R tb rs o):=HR4.out.next hb6;have HK6:Hid (bQ (w.heap.size+1) w6 a l):=bQ.next hb6 (bQ.mono (by omega) HK4.out);obtain ⟨z0,z1,z2,z3,z4,z5,z6⟩:=aK QZ;obtain ⟨y0,y1,y2,y3,y4,y5,y6⟩:=dE QZ;clear con5;go_wp2_with fail
  obtain ⟨QE,hRE,hKE,hbE⟩:=da (w:=w) (x:=nd 17 l) (a:=a) (cap:=c) QZ HR6.out HK6.out hx6 (CX _) (by omega) hltR hltT;change (((((((w6.setCell ⟨w.heap.size,0,none⟩ (.int .i64 17)).setCell ⟨w.heap.size,1,none⟩ (.int .i64 0)).setCell ⟨w.heap.size,2,none⟩ (.int .i64 0)).setCell ⟨w.heap.size,3,none⟩ (.string ⟨#[]⟩)).setCell ⟨w.heap.size,4,none⟩ (.string ⟨#[]⟩)).setCell ⟨w.heap.size,5,none⟩ (.string ⟨#[]⟩)).setCell ⟨w.heap.size,6,none⟩ (.slice a l.length c)).heap[w.heap.size]? = _ at QE
  change au (((((((w6.setCell ⟨w.heap.size,0,none⟩ (.int .i64 17)).setCell ⟨w.heap.size,1,none⟩ (.int .i64 0)).setCell ⟨w.heap.size,2,none⟩ (.int .i64 0)).setCell ⟨w.heap.size,3,none⟩ (.string ⟨#[]⟩)).setCell ⟨w.heap.size,4,none⟩ (.string ⟨#[]⟩)).setCell ⟨w.heap.size,5,none⟩ (.string ⟨#[]⟩)).setCell ⟨w.heap.size,6,none⟩ (.slice a l.length c)) R tb rs o at hRE
  change bQ _ (((((((w6.setCell ⟨w.heap.size,0,none⟩ (.int .i64 17)).setCell ⟨w.heap.size,1,none⟩ (.int .i64 0)).setCell ⟨w.heap.size,2,none⟩ (.int .i64 0)).setCell ⟨w.heap.size,3,none⟩ (.string ⟨#[]⟩)).setCell ⟨w.heap.size,4,none⟩ (.string ⟨#[]⟩)).setCell ⟨w.heap.size,5,none⟩ (.string ⟨#[]⟩)).setCell ⟨w.heap.size,6,none⟩ (.slice a l.length c)) _ _ at hKE
  change af R w (((((((w6.setCell ⟨w.heap.size,0,none⟩ (.int .i64 17)).setCell ⟨w.heap.size,1,none⟩ (.int .i64 0)).setCell ⟨w.heap.size,2,none⟩ (.int .i64 0)).setCell ⟨w.heap.size,3,none⟩ (.string ⟨#[]⟩)).setCell ⟨w.heap.size,4,none⟩ (.string ⟨#[]⟩)).setCell ⟨w.heap.size,5,none⟩ (.string ⟨#[]⟩)).setCell ⟨w.heap.size,6,none⟩ (.slice a l.length c)) at hbE
  generalize (((((((w6.setCell ⟨w.heap.size,0,none⟩ (.int .i64 17)).setCell ⟨w.heap.size,1,none⟩ (.int .i64 0)).setCell ⟨w.heap.size,2,none⟩ (.int .i64 0)).setCell ⟨w.heap.size,3,none⟩ (.string ⟨#[]⟩)).setCell ⟨w.heap.size,4,none⟩ (.string ⟨#[]⟩)).setCell ⟨w.heap.size,5,none⟩ (.string ⟨#[]⟩)).setCell ⟨w.heap.size,6,none⟩ (.slice a l.length c))=wE at *;obtain ⟨x0,x1,x2,x3,x4,x5,x6⟩:=aK QE;exact C0 (v:=.agg (aT (nd 17 l) a c)) (by simp [results,Tryz.results234,go_sem,x0,x1,x2,x3,x4,x5,x6]) rfl (Ends.bV rfl hbE ⟨a,c,rfl,hKE.mono (by omega)⟩ hRE)
 simp only [i1,De,if_false] at hf ⊢;rcases i2:bu ⟨#[99,111,97,108,101,115,99,101]⟩ ts with _ | _
 case true =>
  simp only [i2,if_true] at hf ⊢;have hne:dc n o [⟨#[40]⟩,⟨#[44]⟩,⟨#[41]⟩] (az ts)≠dm:=fun hc=>hf (by rw [hc]; rfl)
  obtain ⟨m,rfl⟩:∃ m,n=m+1:=by
   cases n with
   | zero=>exact absurd (by rw [dc]) hne
   | succ m=>exact ⟨m,rfl⟩
  generalize hM:bf (dc (m+1) o [⟨#[40]⟩,⟨#[44]⟩,⟨#[41]⟩] (az ts)) _=M at *;have HM:Hid (bf (dc (m+1) o [⟨#[40]⟩,⟨#[44]⟩,⟨#[41]⟩] (az ts)) (fun l r=>.ok (nd 18 l,r))=M):=hM;clear hM hf;go_enter Tryz.func234,Tryz.ntmps234;go_wp2_with fail
  generalize w.alloc (.cells dU 55)=w1 at *;refine con.mono ?_;rintro e w2 ⟨rfl,hb2⟩;have HT0:Hid (au w2 R tb ts o):=H1.out.next hb2;have QT0:=(hb2.block _ (lt_of_heap QZ0)).trans QZ0;have hxt0:af R w w2:=(af.of hal (by omega)).trans (.of hb2 (by omega));have hzt0:=lt_of_heap QT0;clear con;have ct0:=aM HT0.out ⟨#[40]⟩;rw [i0,bC i0] at ct0;go_wp2_with fail
  refine ct0.mono ?_;rintro e wt1 ⟨rfl,ht,hbt1⟩;have HT1:Hid (au wt1 R tb (ts) o):=ht;have QT1:=(hbt1.2 _ (lt_of_heap QT0) (by omega)).trans QT0;have hxt1:=hxt0.trans hbt1;have hzt1:=lt_of_heap QT1;clear ct0 ht;have ct1:=aM HT1.out ⟨#[99,97,115,101]⟩;rw [i1,bC i1] at ct1;go_wp2_with fail
  refine ct1.mono ?_;rintro e wt2 ⟨rfl,ht,hbt2⟩;have HT2:Hid (au wt2 R tb (ts) o):=ht;have QT2:=(hbt2.2 _ (lt_of_heap QT1) (by omega)).trans QT1;have hxt2:=hxt1.trans hbt2;have hzt2:=lt_of_heap QT2;clear ct1 ht;have ct2:=aM HT2.out ⟨#[99,111,97,108,101,115,99,101]⟩;rw [i2,bP i2] at ct2;go_wp2_with fail
  refine ct2.mono ?_;rintro e wt3 ⟨rfl,ht,hbt3⟩;have HT3:Hid (au wt3 R tb (az ts) o):=ht;have QT3:=(hbt3.2 _ (lt_of_heap QT2) (by omega)).trans QT2;have hxt3:=hxt2.trans hbt3;have hzt3:=lt_of_heap QT3;clear ct2 ht;have hal3:=ab wt3 (.cells #[.string ⟨#[40]⟩,.string ⟨#[44]⟩,.string ⟨#[41]⟩] 9);have hst:cj (wt3.alloc (.cells #[.string ⟨#[40]⟩,.string ⟨#[44]⟩,.string ⟨#[41]⟩] 9)) wt3.heap.size 0 (⟨#[40]⟩ :: [⟨#[44]⟩,⟨#[41]⟩]):=cj.of (ar wt3 _ _)
  have con3:=lA (n:=m) (cap:=3) (fun k hk=>HES.out m (CX _) k hk) (HT3.out.next hal3) hst (by omega) (by simp) (by simp) hne;have hx3:af R w (wt3.alloc (.cells #[.string ⟨#[40]⟩,.string ⟨#[44]⟩,.string ⟨#[41]⟩] 9)):=hxt3.trans (.of hal3 (by omega));have QZ3:=(hal3.block _ (lt_of_heap QT3)).trans QT3;have hz3:=lt_of_heap QZ3;generalize dc (m+1) o [⟨#[40]⟩,⟨#[44]⟩,⟨#[41]⟩] (az ts)=L at *;clear hne hst;go_wp2_with fail
  generalize wt3.alloc (.cells #[.string ⟨#[40]⟩,.string ⟨#[44]⟩,.string ⟨#[41]⟩] 9)=w3 at *;refine con3.mono ?_;rintro e w4 ⟨hb4,hW⟩;have hx4:=hx3.trans hb4;have QZ4:=(hb4.2 _ (lt_of_heap QZ3) (by omega)).trans QZ3;have hz4:=lt_of_heap QZ4;clear con3;rcases L with ce | ⟨l,rs⟩
  ·obtain ⟨rfl,us,hE⟩:=hW;have HEr:Hid (au w4 R tb us o):=hE;clear hE;have e:M = .error ce:=HM.out.symm;subst e;clear HM;go_wp2_with fail
   exact ⟨rfl,Ends.err rfl hx4 HEr.out⟩
  obtain ⟨v,rfl,⟨a,c,rfl,hks⟩,hR4⟩:=hW;have HR4:Hid (au w4 R tb rs o):=hR4;have HK4:Hid (bQ w3.heap.size w4 a l):=hks;have e:M = .ok (nd 18 l,rs):=HM.out.symm;subst e;have con5:=fL 18 a l.length c w4;clear HM hR4 hks;go_wp2_with fail
  refine con5.mono ?_;rintro e w6 ⟨rfl,hb6⟩;have QZ:=(hb6.block _ (lt_of_heap QZ4)).trans QZ4;have hx6:af R w w6:=hx4.trans (.of hb6 (by omega));have HR6:Hid (au w6 R tb rs o):=HR4.out.next hb6;have HK6:Hid (bQ (w.heap.size+1) w6 a l):=bQ.next hb6 (bQ.mono (by omega) HK4.out);obtain ⟨z0,z1,z2,z3,z4,z5,z6⟩:=aK QZ;obtain ⟨y0,y1,y2,y3,y4,y5,y6⟩:=dE QZ;clear con5;go_wp2_with fail
  obtain ⟨QE,hRE,hKE,hbE⟩:=da (w:=w) (x:=nd 18 l) (a:=a) (cap:=c) QZ HR6.out HK6.out hx6 (CX _) (by omega) hltR hltT;change (((((((w6.setCell ⟨w.heap.size,0,none⟩ (.int .i64 18)).setCell ⟨w.heap.size,1,none⟩ (.int .i64 0)).setCell ⟨w.heap.size,2,none⟩ (.int .i64 0)).setCell ⟨w.heap.size,3,none⟩ (.string ⟨#[]⟩)).setCell ⟨w.heap.size,4,none⟩ (.string ⟨#[]⟩)).setCell ⟨w.heap.size,5,none⟩ (.string ⟨#[]⟩)).setCell ⟨w.heap.size,6,none⟩ (.slice a l.length c)).heap[w.heap.size]? = _ at QE
  change au (((((((w6.setCell ⟨w.heap.size,0,none⟩ (.int .i64 18)).setCell ⟨w.heap.size,1,none⟩ (.int .i64 0)).setCell ⟨w.heap.size,2,none⟩ (.int .i64 0)).setCell ⟨w.heap.size,3,none⟩ (.string ⟨#[]⟩)).setCell ⟨w.heap.size,4,none⟩ (.string ⟨#[]⟩)).setCell ⟨w.heap.size,5,none⟩ (.string ⟨#[]⟩)).setCell ⟨w.heap.size,6,none⟩ (.slice a l.length c)) R tb rs o at hRE
  change bQ _ (((((((w6.setCell ⟨w.heap.size,0,none⟩ (.int .i64 18)).setCell ⟨w.heap.size,1,none⟩ (.int .i64 0)).setCell ⟨w.heap.size,2,none⟩ (.int .i64 0)).setCell ⟨w.heap.size,3,none⟩ (.string ⟨#[]⟩)).setCell ⟨w.heap.size,4,none⟩ (.string ⟨#[]⟩)).setCell ⟨w.heap.size,5,none⟩ (.string ⟨#[]⟩)).setCell ⟨w.heap.size,6,none⟩ (.slice a l.length c)) _ _ at hKE
  change af R w (((((((w6.setCell ⟨w.heap.size,0,none⟩ (.int .i64 18)).setCell ⟨w.heap.size,1,none⟩ (.int .i64 0)).setCell ⟨w.heap.size,2,none⟩ (.int .i64 0)).setCell ⟨w.heap.size,3,none⟩ (.string ⟨#[]⟩)).setCell ⟨w.heap.size,4,none⟩ (.string ⟨#[]⟩)).setCell ⟨w.heap.size,5,none⟩ (.string ⟨#[]⟩)).setCell ⟨w.heap.size,6,none⟩ (.slice a l.length c)) at hbE
  generalize (((((((w6.setCell ⟨w.heap.size,0,none⟩ (.int .i64 18)).setCell ⟨w.heap.size,1,none⟩ (.int .i64 0)).setCell ⟨w.heap.size,2,none⟩ (.int .i64 0)).setCell ⟨w.heap.size,3,none⟩ (.string ⟨#[]⟩)).setCell ⟨w.heap.size,4,none⟩ (.string ⟨#[]⟩)).setCell ⟨w.heap.size,5,none⟩ (.string ⟨#[]⟩)).setCell ⟨w.heap.size,6,none⟩ (.slice a l.length c))=wE at *;obtain ⟨x0,x1,x2,x3,x4,x5,x6⟩:=aK QE;exact C0 (v:=.agg (aT (nd 18 l) a c)) (by simp [results,Tryz.results234,go_sem,x0,x1,x2,x3,x4,x5,x6]) rfl (Ends.bV rfl hbE ⟨a,c,rfl,hKE.mono (by omega)⟩ hRE)
 simp only [i2,De,if_false] at hf ⊢;change jJ n o ts rD≠dm at hf;change Calls _ _ _ _ (Ends R tb o w (VX w.heap.size) (jJ n o ts rD));generalize hM:jJ n o ts rD=M at *;have HM:Hid (jJ n o ts rD=M):=hM;have HF:Hid (M≠dm):=hf;clear hM hf;go_enter Tryz.func234,Tryz.ntmps234;go_wp2_with fail
 generalize w.alloc (.cells dU 55)=w1 at *;refine con.mono ?_;rintro e w2 ⟨rfl,hb2⟩;have HT0:Hid (au w2 R tb ts o):=H1.out.next hb2;have QT0:=(hb2.block _ (lt_of_heap QZ0)).trans QZ0;have hxt0:af R w w2:=(af.of hal (by omega)).trans (.of hb2 (by omega));have hzt0:=lt_of_heap QT0;clear con;have ct0:=aM HT0.out ⟨#[40]⟩;rw [i0,bC i0] at ct0;go_wp2_with fail
 refine ct0.mono ?_;rintro e wt1 ⟨rfl,ht,hbt1⟩;have HT1:Hid (au wt1 R tb (ts) o):=ht;have QT1:=(hbt1.2 _ (lt_of_heap QT0) (by omega)).trans QT0;have hxt1:=hxt0.trans hbt1;have hzt1:=lt_of_heap QT1;clear ct0 ht;have ct1:=aM HT1.out ⟨#[99,97,115,101]⟩;rw [i1,bC i1] at ct1;go_wp2_with fail
 refine ct1.mono ?_;rintro e wt2 ⟨rfl,ht,hbt2⟩;have HT2:Hid (au wt2 R tb (ts) o):=ht;have QT2:=(hbt2.2 _ (lt_of_heap QT1) (by omega)).trans QT1;have hxt2:=hxt1.trans hbt2;have hzt2:=lt_of_heap QT2;clear ct1 ht;have ct2:=aM HT2.out ⟨#[99,111,97,108,101,115,99,101]⟩;rw [i2,bC i2] at ct2;go_wp2_with fail
 refine ct2.mono ?_;rintro e wt3 ⟨rfl,ht,hbt3⟩;have HT3:Hid (au wt3 R tb (ts) o):=ht;have QT3:=(hbt3.2 _ (lt_of_heap QT2) (by omega)).trans QT2;have hxt3:=hxt2.trans hbt3;have hzt3:=lt_of_heap QT3;clear ct2 ht;have ca:=yP wt3;have hal4:=ab wt3 (.cells zm 168);have QA4:=ar wt3 zm 168;have QZ4:=(hal4.block _ (lt_of_heap QT3)).trans QT3;have hx4:af R w (wt3.alloc (.cells zm 168)):=hxt3.trans (.of hal4 (by omega));have H4:Hid (au (wt3.alloc (.cells zm 168)) R tb ts o):=HT3.out.next hal4;go_wp2_with fail
 refine ca.mono ?_;rintro e w4 ⟨rfl,rfl⟩;generalize wt3.alloc (.cells zm 168)=w4 at *;clear ca;go_wp2_with fail
 go_loopw [37] (fun i wr=>∃ k:Nat,k≤4∧i = .int .i64 k∧Hid (jJ n o ts (rD.drop k)=M)∧af R w wr∧Hid (au wr R tb ts o)∧wr.heap[w.heap.size]? = some (.cells dU 55 (0,0))∧wr.heap[wt3.heap.size]? = some (.cells zm 168 (0,0))) (fun i _=>4 - (RowKit.intOf i).toNat)
 case atStart=>exact ⟨0,by omega,rfl,HM,hx4,H4,QZ4,QA4⟩
 case round =>
  clear HM hx4 H4 QZ4 QA4;obtain ⟨k,hk,rfl,HL,hx,HR,QZr,QA⟩:=hrel;have hzr:=lt_of_heap QA;by_cases hlt:k<4
  ·have hkz:(k:Int)<4:=by omega
   have hkl:k<rD.length:=hlt;obtain ⟨c0,c1⟩:=zN QA k hkl;have HL2:Hid ((if bu rD[k].2 ts=true then iC n rD[k].1 o (az ts) else jJ n o ts (rD.drop (k+1)))=M):=by
    have:=HL.out;rw [Da hkl,jJ] at this;exact this
   clear HL;generalize rD[k]=a at *;have hal5:=ab wr (.cells #[.int .i64 a.1,.string a.2] 168);have QC:=ar wr #[.int .i64 a.1,.string a.2] 168;have con5:=aM (HR.out.next hal5) a.2;rcases hi:bu a.2 ts with _ | _
   ·rw [hi,bC hi] at con5;have HL3:Hid (jJ n o ts (rD.drop (k+1))=M):=by have:=HL2.out; rw [hi] at this; exact this
    clear HL2;go_wp2_with fail
    refine con5.mono ?_;rintro e w6 ⟨rfl,h6,hb6⟩;have hxr6:af R wr w6:=(af.of hal5 (by omega)).trans hb6;have H6:Hid (au w6 R tb ts o):=h6;have QZ6:=(hxr6.2 _ (lt_of_heap QZr) (by omega)).trans QZr;have QA6:=(hxr6.2 _ (lt_of_heap QA) (by omega)).trans QA;clear con5 h6 c0 c1;go_wp2_with fail
    go_roundw
    case rel=>exact ⟨k+1,by omega,by go_num,HL3,hx.trans hxr6,H6,QZ6,QA6⟩
    case measure=>simp [RowKit.intOf]; omega
   ·rw [hi,bP hi] at con5;have e:iC n a.1 o (az ts)=M:=by have:=HL2.out; rw [hi] at this; exact this
    clear HL2;go_wp2_with fail
    refine con5.mono ?_;rintro e' w6 ⟨rfl,h6,hb6⟩;have hxr6:af R wr w6:=(af.of hal5 (by omega)).trans hb6;have QZ6:=(hxr6.2 _ (lt_of_heap QZr) (by omega)).trans QZr;have QC6:=(hb6.2 _ (lt_of_heap QC) (by omega)).trans QC;have k0:w6.cell? ⟨wr.heap.size,0,none⟩=some (.int .i64 a.1):=cell_of (i:=0) QC6 rfl;have con7:=HAG.out a.1 w6 R tb (az ts) h6 (by rw [e]; exact HF.out);rw [e] at con7;have hx6:=hx.trans hxr6;have hz6:=lt_of_heap QZ6;clear con5 h6 c0 c1 e;go_wp2_with fail
    refine con7.mono ?_;rintro e' w7 ⟨hb7,hW⟩;have QZ:=(hb7.2 _ (lt_of_heap QZ6) (by omega)).trans QZ6;clear con7;rcases M with c | ⟨x,rs⟩
    ·obtain ⟨rfl,us,hE⟩:=hW;have HE:Hid (au w7 R tb us o):=hE;clear hE;go_wp2_with fail
     exact ⟨rfl,Ends.err rfl (hx6.trans hb7) HE.out⟩
    ·obtain ⟨v,rfl,⟨a,cap,rfl,hks⟩,hRW⟩:=hW;obtain ⟨z0,z1,z2,z3,z4,z5,z6⟩:=aK QZ;obtain ⟨y0,y1,y2,y3,y4,y5,y6⟩:=dE QZ;have HRW:Hid (au w7 R tb rs o):=hRW;have HKW:Hid (bQ _ w7 a x.ks):=hks;clear hRW hks;go_wp2_with fail
     obtain ⟨QE,hRE,hKE,hbE⟩:=da (w:=w) (cap:=cap) QZ HRW.out HKW.out (hx6.trans hb7) (by omega) (by omega) hltR hltT;generalize (((((((w7.setCell ⟨w.heap.size,0,none⟩ (.int .i64 x.k)).setCell ⟨w.heap.size,1,none⟩ (.int .i64 x.v.1)).setCell ⟨w.heap.size,2,none⟩ (.int .i64 x.v.2.1)).setCell ⟨w.heap.size,3,none⟩ (.string x.v.2.2)).setCell ⟨w.heap.size,4,none⟩ (.string x.aH)).setCell ⟨w.heap.size,5,none⟩ (.string x.name)).setCell ⟨w.heap.size,6,none⟩ (.slice a x.ks.length cap))=wE at *;obtain ⟨x0,x1,x2,x3,x4,x5,x6⟩:=aK QE
     exact C0 (v:=.agg (aT x a cap)) (by simp [results,Tryz.results234,go_sem,x0,x1,x2,x3,x4,x5,x6]) rfl (Ends.bV rfl hbE ⟨a,cap,rfl,hKE.mono (by omega)⟩ hRE)
  ·have hkz:¬ (k:Int)<4:=by omega
   have e:dP ts=M:=by have:=HL.out; rw [Dh (show rD.length≤k by show 4≤k; omega),jJ] at this; exact this
   have con7:=nq HR.out;rw [e] at con7;clear HL e;go_wp2_with fail
   refine con7.mono ?_;rintro e' w7 ⟨hb7,hW⟩;have QZ:=(hb7.2 _ (lt_of_heap QZr) (by omega)).trans QZr;clear con7;rcases M with c | ⟨x,rs⟩
   ·obtain ⟨rfl,us,hE⟩:=hW;have HE:Hid (au w7 R tb us o):=hE;clear hE;go_wp2_with fail
    exact ⟨rfl,Ends.err rfl (hx.trans hb7) HE.out⟩
   ·obtain ⟨v,rfl,⟨a,cap,rfl,hks⟩,hRW⟩:=hW;obtain ⟨z0,z1,z2,z3,z4,z5,z6⟩:=aK QZ;obtain ⟨y0,y1,y2,y3,y4,y5,y6⟩:=dE QZ;have HRW:Hid (au w7 R tb rs o):=hRW;have HKW:Hid (bQ _ w7 a x.ks):=hks;clear hRW hks;go_wp2_with fail
    obtain ⟨QE,hRE,hKE,hbE⟩:=da (w:=w) (cap:=cap) QZ HRW.out HKW.out (hx.trans hb7) (by omega) (by omega) hltR hltT;generalize (((((((w7.setCell ⟨w.heap.size,0,none⟩ (.int .i64 x.k)).setCell ⟨w.heap.size,1,none⟩ (.int .i64 x.v.1)).setCell ⟨w.heap.size,2,none⟩ (.int .i64 x.v.2.1)).setCell ⟨w.heap.size,3,none⟩ (.string x.v.2.2)).setCell ⟨w.heap.size,4,none⟩ (.string x.aH)).setCell ⟨w.heap.size,5,none⟩ (.string x.name)).setCell ⟨w.heap.size,6,none⟩ (.slice a x.ks.length cap))=wE at *;obtain ⟨x0,x1,x2,x3,x4,x5,x6⟩:=aK QE
    exact C0 (v:=.agg (aT x a cap)) (by simp [results,Tryz.results234,go_sem,x0,x1,x2,x3,x4,x5,x6]) rfl (Ends.bV rfl hbE ⟨a,cap,rfl,hKE.mono (by omega)⟩ hRE)
structure BV (n:Nat):Prop where
 ex:∀ o,0≤o∧o≤100→jt 164 [] (cY n o) o
 lv:∀ lvl o,2≤lvl∧lvl≤8→0≤o∧o≤100→jt 219 [.int .i64 lvl] (dG n lvl o) o
 ch:∀ lvl o,1≤lvl∧lvl≤7→0≤o∧o≤100→jt 197 [.int .i64 lvl] (b9 n lvl o) o
 dn:∀ o,0≤o∧o≤100→jt 233 [] (dz n o) o
 cm:∀ o,0≤o∧o≤100→jt 243 [] (cO n o) o
 pc:∀ o,0≤o∧o≤100→jt 234 [] (cE n o) o
 ag:∀ kind o,0≤o∧o≤100→jt 246 [.int .i64 kind] (iC n kind o) o
theorem Cj (n:Nat):BV n:=by
 induction n using Nat.strongRecOn with
 | _ n ih =>
  cases n with
  | zero =>
   refine ⟨fun o _ w R tb ts h hf=>?_,fun lvl o _ _ w R tb ts h hf=>?_,fun lvl o _ _ w R tb ts h hf=>?_,fun o _ w R tb ts h hf=>?_,fun o _ w R tb ts h hf=>?_,fun o _ w R tb ts h hf=>?_,fun kind o _ w R tb ts h hf=>?_⟩
   ·exact absurd (by rw [cY]) hf
   ·exact absurd (by rw [dG]) hf
   ·exact absurd (by rw [b9]) hf
   ·exact absurd (by rw [dz]) hf
   ·exact absurd (by rw [cO]) hf
   ·exact absurd (by rw [cE]) hf
   ·exact absurd (by rw [iC]) hf
  | succ n =>
   have A:=fun m (h:m≤n)=>ih m (by omega)
   exact ⟨fun o ho=>uD ho (fun h=>(A n (CX _)).ch 1 (o+1) (by omega) (by omega)),
    fun lvl o hl ho=>rV (fun _=>(A n (CX _)).dn o ho) (fun _=>(A n (CX _)).pc o ho) (fun h3 h8=>(A n (CX _)).ch lvl o (by omega) ho),
    fun lvl o hl ho=>qS hl (fun m hm=>(A m hm).lv (lvl+1) o (by omega) ho),
    fun o ho=>qD ho (fun h=>(A n (CX _)).dn (o+1) (by omega)) ((A n (CX _)).cm o ho),
    fun o ho=>nh ((A n (CX _)).ch 5 o (by omega) ho),
    fun o ho=>rC ((A n (CX _)).ex o ho) (fun m hm k hk=>(A k (by omega)).ex o ho) (fun kind=>(A n (CX _)).ag kind o ho),
    fun kind o ho=>vw ((A n (CX _)).ex o ho)⟩
end Go.Proofs.YtoknmnngaackkaaGreatDoor
namespace Go.Proofs.YtoknmnngaackkaaGreatDoor
set_option maxRecDepth 100000
set_option maxHeartbeats 16000000
def Gs {α:Type} (L:Nat) (r:PR α):Prop :=
 match r with
 | .error e=>e≠(-1,0)
 | .ok (_,t)=>t.length<L
theorem Gs.bf {α β:Type} {L1 L2:Nat} {r:PR α} {k:α→List Tk→PR β} (h:Gs L1 r) (hk:∀ x t,t.length<L1→Gs L2 (k x t)):Gs L2 (bf r k):=by
 rcases r with e | ⟨x,t⟩
 ·exact h
 ·exact hk x t h
theorem Gs.mono {α:Type} {L1 L2:Nat} {r:PR α} (h:Gs L1 r) (hl:L1≤L2):Gs L2 r:=by
 rcases r with e | ⟨x,t⟩
 ·exact h
 ·exact Dg (show t.length<L1 from h) hl
theorem Gs.ne {α:Type} {L:Nat} {r:PR α} (h:Gs L r):r≠dm:=by
 rintro rfl;exact h rfl
theorem iM (ts:List Tk):(az ts).length≤ts.length:=by
 cases ts with
 | nil=>exact CX _
 | cons t r=>rw [az]; split <;> simp
theorem kF {ts:List Tk} (h:(cy ts).1≠5):(az ts).length<ts.length:=by
 cases ts with
 | nil=>exact absurd rfl h
 | cons t r=>rw [az,if_neg (show ¬ t.1=5 from h)]; simp
theorem gA {s:ByteArray} {ts:List Tk} (h:bu s ts=true):(az ts).length<ts.length:=by
 refine kF fun h5=>?_
 simp [bu,h5] at h
theorem hZ:∀ (l:List ByteArray) (ts:List Tk),Gs (ts.length+1) (aS l ts)
 | [],ts=>Nat.lt_succ_self _
 | s :: l,ts=>by
  rw [aS]
  split
  ·exact (hZ l (az ts)).mono (Nat.succ_le_succ (iM ts))
  ·show (_:Int × Int)≠_; simp
theorem sP (ts:List Tk):Gs ts.length (cV ts):=by
 rw [cV]
 split
 ·show (_:Int × Int)≠_; simp
 ·rename_i h
  split
  ·show (_:Int × Int)≠_; simp
  ·exact kF (by simp at h; omega)
theorem tG (a b:Int) (ts:List Tk):Gs ts.length (dp a b ts):=by
 unfold dp;simp only;have hle:(if bu ⟨#[45]⟩ ts=true then az ts else ts).length≤ts.length:=by split; exact iM _; exact CX _
 generalize (if bu ⟨#[45]⟩ ts=true then az ts else ts)=ts1 at *;generalize (if bu ⟨#[45]⟩ ts=true then -cx (cy ts1).2.1 else cx (cy ts1).2.1)=m
 split
 ·show (_:Int × Int)≠_; simp
 ·rename_i h
  split
  ·show (_:Int × Int)≠_; simp
  ·exact Dg (kF (by simp at h; omega)) hle
theorem wU (ts:List Tk):Gs ts.length (bU ts):=by
 rw [bU]
 split
 ·rename_i h; exact kF (by omega)
 ·split
  ·rename_i h; exact gA h
  ·split
   ·rename_i h; exact gA h
   ·split
    ·rename_i h; exact gA h
    ·exact (tG _ _ ts).bf fun x t h=>h
theorem mY (lvl:Int) (ts:List Tk):∀ l:List (Int × ByteArray × Int),(cU lvl ts l).1≠0→(cU lvl ts l).2.length<ts.length
 | [],h=>absurd rfl h
 | i :: r,h=>by
  rw [cU] at h ⊢
  split
  ·rename_i hc; exact gA hc.2
  ·rename_i hc; rw [if_neg hc] at h; exact mY lvl ts r h
theorem uh (x:SX) (ts:List Tk):Gs (ts.length+1) (hU x ts):=by
 have hle:(if bu ⟨#[110,111,116]⟩ ts=true then az ts else ts).length≤ts.length:=by split; exact iM _; exact CX _
 exact ((hZ _ _).mono (Nat.succ_le_succ hle)).bf fun _ t h=>h
theorem nk (ts:List Tk):Gs ts.length (dP ts):=by
 refine (sP ts).bf fun n r h=>?_
 try simp only
 split
 ·exact ((sP (az r)).mono (Dt (iM r) (Dd h))).bf fun m r2 h2=>h2
 ·exact h
def xQ (lvl:Int):Nat:=if lvl=1 then 13 else if lvl=2 then 11 else if lvl=5 then 7 else if lvl=6 then 5 else 3
def xR (lvl:Int):Nat:=if lvl=2 then 12 else if lvl=3 then 10 else if lvl=6 then 6 else if lvl=7 then 4 else 2
structure Fl (n:Nat):Prop where
 ex:∀ o (ts:List Tk),20*ts.length+14≤n→Gs ts.length (cY n o ts)
 lv:∀ lvl o (ts:List Tk),lvl=2∨lvl=3∨lvl=6∨lvl=7∨lvl=8→20*ts.length+xR lvl≤n→Gs ts.length (dG n lvl o ts)
 ch:∀ lvl o (ts:List Tk),lvl=1∨lvl=2∨lvl=5∨lvl=6∨lvl=7→20*ts.length+xQ lvl≤n→Gs ts.length (b9 n lvl o ts)
 lp:∀ lvl o x (ts:List Tk),lvl=1∨lvl=2∨lvl=5∨lvl=6∨lvl=7→20*ts.length+1≤n→Gs (ts.length+1) (gE n lvl o x ts)
 dn:∀ o (ts:List Tk),20*ts.length+9≤n→Gs ts.length (dz n o ts)
 cm:∀ o (ts:List Tk),20*ts.length+8≤n→Gs ts.length (cO n o ts)
 pc:∀ o (ts:List Tk),20*ts.length+1≤n→Gs ts.length (cE n o ts)
 bh:∀ o s l (ts:List Tk),20*ts.length+16≤n→Gs (ts.length+1) (dc n o (s :: l) ts)
 es:∀ o l acc (ts:List Tk),20*ts.length+15≤n→Gs (ts.length+1) (dA n o l acc ts)
 ag:∀ kind o (ts:List Tk),20*ts.length+15≤n→Gs (ts.length+1) (iC n kind o ts)
theorem fl (n:Nat):Fl n:=by
 induction n with
 | zero=>exact ⟨fun _ _ h=>by omega,fun lvl _ _ hl h=>by rcases hl with rfl | rfl | rfl | rfl | rfl <;> simp [xR] at h,fun lvl _ _ hl h=>by rcases hl with rfl | rfl | rfl | rfl | rfl <;> simp [xQ] at h,fun _ _ _ _ _ h=>by omega,fun _ _ h=>by omega,fun _ _ h=>by omega,fun _ _ h=>by omega,fun _ _ _ _ h=>by omega,fun _ _ _ _ h=>by omega,fun _ _ _ h=>by omega⟩
 | succ n A =>
  have hch:∀ lvl:Int,lvl=1∨lvl=2∨lvl=5∨lvl=6∨lvl=7→(lvl+1=2∨lvl+1=3∨lvl+1=6∨lvl+1=7∨lvl+1=8)∧xR (lvl+1)+1=xQ lvl∧xR (lvl+1)≤12:=by
   rintro lvl (rfl | rfl | rfl | rfl | rfl) <;> simp [xR,xQ]
  refine ⟨fun o ts h=>?_,fun lvl o ts hl h=>?_,fun lvl o ts hl h=>?_,fun lvl o x ts hl h=>?_,fun o ts h=>?_,fun o ts h=>?_,fun o ts h=>?_,fun o s l ts h=>?_,fun o l acc ts h=>?_,fun kind o ts h=>?_⟩
  ·rw [cY]
   split
   ·show (_:Int × Int)≠_; simp
   ·exact A.ch 1 _ ts (.inl rfl) (by simp [xQ]; omega)
  ·rw [dG]
   split
   ·rename_i h3; subst h3; exact A.dn o ts (by simp [xR] at h; omega)
   ·split
    ·rename_i h8; subst h8; exact A.pc o ts (by simp [xR] at h; omega)
    ·rcases hl with rfl | rfl | rfl | rfl | rfl
     ·exact A.ch 2 o ts (by omega) (by simp [xR] at h; simp [xQ]; omega)
     ·contradiction
     ·exact A.ch 6 o ts (by omega) (by simp [xR] at h; simp [xQ]; omega)
     ·exact A.ch 7 o ts (by omega) (by simp [xR] at h; simp [xQ]; omega)
     ·contradiction
  ·rw [b9];obtain ⟨h1,h2,h3⟩:=hch lvl hl;exact (A.lv (lvl+1) o ts h1 (by omega)).bf fun x r hr=>(A.lp lvl o x r hl (by omega)).mono (by omega)
  ·rw [gE];obtain ⟨h1,h2,h3⟩:=hch lvl hl
   split
   ·exact Nat.lt_succ_self _
   ·rename_i hs
    have hlt:=mY lvl ts cJ hs;have hlt':(bT lvl ts).2.length<ts.length:=hlt;exact (A.lv (lvl+1) o _ h1 (by omega)).bf fun y r hr=>(A.lp lvl o _ r hl (by omega)).mono (by omega)
  ·rw [dz]
   split
   ·rename_i hi
    have hlt:=gA hi;refine Gs.bf (L1:=ts.length) ?_ fun x r hr=>hr
    split
    ·show (_:Int × Int)≠_; simp
    ·exact (A.dn _ _ (by omega)).mono (by omega)
   ·exact A.cm o ts (by omega)
  ·rw [cO];refine (A.ch 5 o ts (by omega) (by simp [xQ]; omega)).bf fun x r hr=>?_
   try simp only
   split
   ·exact (uh x (az r)).mono (by have:=iM r; omega)
   ·split
    ·exact hr
    ·rename_i hs
     have hlt:(bT 4 r).2.length<r.length:=mY 4 r cJ hs;exact (A.ch 5 o _ (by omega) (by simp [xQ]; omega)).bf fun y r2 h2=>by show r2.length<_; omega
  ·rw [cE]
   split
   ·exact (wU ts).bf fun v r h=>h
   ·split
    ·rename_i hi
     have hlt:=gA hi;exact (A.ex o _ (by omega)).bf fun x r hr=>((hZ _ r).mono (show r.length+1≤ts.length by omega)).bf fun _ r2 h2=>h2
    ·split
     ·rename_i hi
      have hlt:=gA hi;exact ((A.bh o _ _ _ (by omega)).mono (show _≤ts.length by omega)).bf fun l r hr=>hr
     ·split
      ·rename_i hi
       have hlt:=gA hi;exact ((A.bh o _ _ _ (by omega)).mono (show _≤ts.length by omega)).bf fun l r hr=>hr
      ·split
       ·rename_i hi; have hlt:=gA hi; exact (A.ag 20 o _ (by omega)).mono (by omega)
       ·split
        ·rename_i hi; have hlt:=gA hi; exact (A.ag 21 o _ (by omega)).mono (by omega)
        ·split
         ·rename_i hi; have hlt:=gA hi; exact (A.ag 22 o _ (by omega)).mono (by omega)
         ·split
          ·rename_i hi; have hlt:=gA hi; exact (A.ag 23 o _ (by omega)).mono (by omega)
          ·exact nk ts
  ·rw [dc];exact (hZ _ ts).bf fun _ r hr=>(A.es o l [] r (by omega)).mono (by omega)
  ·cases l with
   | nil=>rw [dA]; exact Nat.lt_succ_self _
   | cons s l =>
    rw [dA];exact (A.ex o ts (by omega)).bf fun x r hr=>(hZ _ r).bf fun _ r2 h2=>(A.es o l _ r2 (by omega)).mono (by omega)
  ·rw [iC];refine (hZ _ ts).bf fun _ r hr=>?_
   try simp only
   split
   ·exact ((hZ _ (az r)).mono (show _≤ts.length+1 by have:=iM r; omega)).bf fun _ r2 h2=>h2
   ·exact (A.ex o r (by omega)).bf fun x r2 h2=>((hZ _ r2).mono (show _≤ts.length+1 by omega)).bf fun _ r3 h3=>h3
theorem B2 {ts:List Tk} (h:ts.length≤4001):Gs ts.length (eP ts):=(fl BH).ex 0 ts (by unfold BH; omega)
end Go.Proofs.YtoknmnngaackkaaGreatDoor
namespace Go.Proofs.YtoknmnngaackkaaGreatDoor
open Go.RowKit Go.Lib Go.Shelf
set_option maxRecDepth 100000
set_option maxHeartbeats 16000000
set_option maxRecDepth 100000
set_option maxHeartbeats 8000000
theorem pX {w:World} {R tb:Nat} {ts:List Tk} (h:au w R tb ts 0):Calls Tryz.prog 164 #[.pointer (some ⟨R,0,none⟩)] w (Ends R tb 0 w (VX w.heap.size) (eP ts)) :=
 (Cj BH).ex 0 (by omega) w R tb ts h (B2 h.small).ne
def CJ (B:Nat) (W:World) (v:Value) (x:Bool × SX):Prop:=∃ a cap,v = .tuple #[.bool x.1,.agg (aT x.2 a cap)]∧bQ B W a x.2.ks
theorem iB {w:World} {R tb:Nat} {ts:List Tk} (h:au w R tb ts 0) (s:ByteArray):Calls Tryz.prog 160 #[.pointer (some ⟨R,0,none⟩),.string s] w (Ends R tb 0 w (CJ w.heap.size) (bE s ts)):=by
 have hltR:=h.lt;have hltT:=h.j5;have hal:=ab w (.cells dU 55);have QZ0:=ar w dU 55;have hz0:w.heap.size<(w.alloc (.cells dU 55)).heap.size:=lt_of_heap QZ0;have con:=aM (h.next hal) s;generalize hM:bE s ts=M;have HM:Hid ((if bu s ts=true then bf (eP (az ts)) fun x r=>.ok ((true,x),r) else .ok ((false,jN),ts))=M):=hM;clear h hM;rcases hi:bu s ts with _ | _
 ·rw [hi,bC hi] at con;have e:M = .ok ((false,jN),ts):=by rw [← HM.out,hi]; rfl
  subst e;clear HM;go_enter Tryz.func160,Tryz.ntmps160;go_wp2_with fail
  generalize w.alloc (.cells dU 55)=w1 at *;refine con.mono ?_;rintro e w2 ⟨rfl,h2,hb2⟩;have QZ:=(hb2.2 _ (lt_of_heap QZ0) (by omega)).trans QZ0;have hx2:af R w w2:=(af.of hal (by omega)).trans hb2;have H2:Hid (au w2 R tb ts 0):=h2;obtain ⟨z0,z1,z2,z3,z4,z5,z6⟩:=aK QZ;obtain ⟨y0,y1,y2,y3,y4,y5,y6⟩:=dE QZ;clear con h2;go_wp2_with fail
  obtain ⟨QE,hRE,hKE,hbE⟩:=da (w:=w) (x:=jN) (a:=none) (cap:=0) (B:=w.heap.size+1) QZ H2.out (aD.nil _) hx2 (CX _) (by omega) hltR hltT;change (((((((w2.setCell ⟨w.heap.size,0,none⟩ (.int .i64 0)).setCell ⟨w.heap.size,1,none⟩ (.int .i64 0)).setCell ⟨w.heap.size,2,none⟩ (.int .i64 0)).setCell ⟨w.heap.size,3,none⟩ (.string ⟨#[]⟩)).setCell ⟨w.heap.size,4,none⟩ (.string ⟨#[]⟩)).setCell ⟨w.heap.size,5,none⟩ (.string ⟨#[]⟩)).setCell ⟨w.heap.size,6,none⟩ (.slice none 0 0)).heap[w.heap.size]? = _ at QE
  change au (((((((w2.setCell ⟨w.heap.size,0,none⟩ (.int .i64 0)).setCell ⟨w.heap.size,1,none⟩ (.int .i64 0)).setCell ⟨w.heap.size,2,none⟩ (.int .i64 0)).setCell ⟨w.heap.size,3,none⟩ (.string ⟨#[]⟩)).setCell ⟨w.heap.size,4,none⟩ (.string ⟨#[]⟩)).setCell ⟨w.heap.size,5,none⟩ (.string ⟨#[]⟩)).setCell ⟨w.heap.size,6,none⟩ (.slice none 0 0)) R tb ts 0 at hRE
  change af R w (((((((w2.setCell ⟨w.heap.size,0,none⟩ (.int .i64 0)).setCell ⟨w.heap.size,1,none⟩ (.int .i64 0)).setCell ⟨w.heap.size,2,none⟩ (.int .i64 0)).setCell ⟨w.heap.size,3,none⟩ (.string ⟨#[]⟩)).setCell ⟨w.heap.size,4,none⟩ (.string ⟨#[]⟩)).setCell ⟨w.heap.size,5,none⟩ (.string ⟨#[]⟩)).setCell ⟨w.heap.size,6,none⟩ (.slice none 0 0)) at hbE
  change bQ _ (((((((w2.setCell ⟨w.heap.size,0,none⟩ (.int .i64 0)).setCell ⟨w.heap.size,1,none⟩ (.int .i64 0)).setCell ⟨w.heap.size,2,none⟩ (.int .i64 0)).setCell ⟨w.heap.size,3,none⟩ (.string ⟨#[]⟩)).setCell ⟨w.heap.size,4,none⟩ (.string ⟨#[]⟩)).setCell ⟨w.heap.size,5,none⟩ (.string ⟨#[]⟩)).setCell ⟨w.heap.size,6,none⟩ (.slice none 0 0)) _ _ at hKE
  generalize (((((((w2.setCell ⟨w.heap.size,0,none⟩ (.int .i64 0)).setCell ⟨w.heap.size,1,none⟩ (.int .i64 0)).setCell ⟨w.heap.size,2,none⟩ (.int .i64 0)).setCell ⟨w.heap.size,3,none⟩ (.string ⟨#[]⟩)).setCell ⟨w.heap.size,4,none⟩ (.string ⟨#[]⟩)).setCell ⟨w.heap.size,5,none⟩ (.string ⟨#[]⟩)).setCell ⟨w.heap.size,6,none⟩ (.slice none 0 0))=wE at *;obtain ⟨x0,x1,x2,x3,x4,x5,x6⟩:=aK QE;exact C0 (v:=.tuple #[.bool false,.agg (aT jN none 0)]) (by simp [results,Tryz.results160,go_sem,x0,x1,x2,x3,x4,x5,x6]) rfl (Ends.bV rfl hbE ⟨none,0,rfl,hKE.mono (by omega)⟩ hRE)
 ·rw [hi,bP hi] at con;have HM2:Hid (bf (eP (az ts)) (fun x r=>.ok ((true,x),r))=M):=by have:=HM.out; rw [hi] at this; exact this
  clear HM;go_enter Tryz.func160,Tryz.ntmps160;go_wp2_with fail
  generalize w.alloc (.cells dU 55)=w1 at *;refine con.mono ?_;rintro e w2 ⟨rfl,h2,hb2⟩;have QZ2:=(hb2.2 _ (lt_of_heap QZ0) (by omega)).trans QZ0;have hx2:af R w w2:=(af.of hal (by omega)).trans hb2;have con2:=pX h2;have hz2:=lt_of_heap QZ2;generalize eP (az ts)=L at *;clear con h2;go_wp2_with fail
  refine con2.mono ?_;rintro e w3 ⟨hb3,hW⟩;have hx3:=hx2.trans hb3;have QZ:=(hb3.2 _ (lt_of_heap QZ2) (by omega)).trans QZ2;clear con2;rcases L with ce | ⟨x,rs⟩
  ·obtain ⟨rfl,us,hE⟩:=hW;have HEr:Hid (au w3 R tb us 0):=hE;clear hE;have e:M = .error ce:=HM2.out.symm;subst e;clear HM2;go_wp2_with fail
   exact ⟨rfl,Ends.err rfl hx3 HEr.out⟩
  obtain ⟨v,rfl,⟨a,c,rfl,hks⟩,hR3⟩:=hW;have e:M = .ok ((true,x),rs):=HM2.out.symm;subst e;have HR3:Hid (au w3 R tb rs 0):=hR3;have HK3:Hid (bQ w2.heap.size w3 a x.ks):=hks;obtain ⟨z0,z1,z2,z3,z4,z5,z6⟩:=aK QZ;obtain ⟨y0,y1,y2,y3,y4,y5,y6⟩:=dE QZ;clear HM2 hR3 hks;go_wp2_with fail
  obtain ⟨QE,hRE,hKE,hbE⟩:=da (w:=w) (cap:=c) QZ HR3.out HK3.out hx3 (CX _) (by omega) hltR hltT;generalize (((((((w3.setCell ⟨w.heap.size,0,none⟩ (.int .i64 x.k)).setCell ⟨w.heap.size,1,none⟩ (.int .i64 x.v.1)).setCell ⟨w.heap.size,2,none⟩ (.int .i64 x.v.2.1)).setCell ⟨w.heap.size,3,none⟩ (.string x.v.2.2)).setCell ⟨w.heap.size,4,none⟩ (.string x.aH)).setCell ⟨w.heap.size,5,none⟩ (.string x.name)).setCell ⟨w.heap.size,6,none⟩ (.slice a x.ks.length c))=wE at *;obtain ⟨x0,x1,x2,x3,x4,x5,x6⟩:=aK QE
  exact C0 (v:=.tuple #[.bool true,.agg (aT x a c)]) (by simp [results,Tryz.results160,go_sem,x0,x1,x2,x3,x4,x5,x6]) rfl (Ends.bV rfl hbE ⟨a,c,rfl,hKE.mono (by omega)⟩ hRE)
theorem qo {w:World} {R tb:Nat} {ts:List Tk} {o:Int} (h:au w R tb ts o) (all each:Int):Calls Tryz.prog 194 #[.pointer (some ⟨R,0,none⟩),.int .i64 all,.int .i64 each] w fun e w'=>e = .returned (.int .i64 (if bu ⟨#[97,108,108]⟩ ts then all else each))∧au w' R tb (dM ⟨#[97,108,108]⟩ ts) o∧af R w w':=by
 have con:=aM h ⟨#[97,108,108]⟩;clear h;rcases hi:bu ⟨#[97,108,108]⟩ ts with _ | _ <;> rw [hi] at con
 all_goals (
  go_enter Tryz.func194,Tryz.ntmps194;go_wp2_with fail
  refine con.mono ?_;rintro e w1 ⟨rfl,h1,hb1⟩;have H1:Hid (au w1 R tb (dM ⟨#[97,108,108]⟩ ts) o):=h1;clear con h1;go_wp2_with fail
  exact C0 (results_tmp rfl _ _ _) rfl ⟨by first | rfl | trivial,H1.out,hb1⟩)
theorem mM {w:World} {R tb:Nat} {ts:List Tk} {o:Int} (h:au w R tb ts o):Calls Tryz.prog 162 #[.pointer (some ⟨R,0,none⟩)] w fun e w'=>e = .returned (.int .i64 (bp ts).1)∧au w' R tb (bp ts).2 o∧af R w w':=by
 have con:=aM h ⟨#[117,110,105,111,110]⟩;generalize hM:bp ts=M;have HM:Hid (bp ts=M):=hM;clear h hM;rcases hi:bu ⟨#[117,110,105,111,110]⟩ ts with _ | _
 case true =>
  rw [hi,bP hi] at con;have e:M=((if bu ⟨#[97,108,108]⟩ (az ts) then 1 else 2),dM ⟨#[97,108,108]⟩ (az ts)):=by
   rw [← HM.out,bp,hi,dM];cases bu ⟨#[97,108,108]⟩ (az ts) <;> rfl
  subst e;clear HM;generalize hm:(if bu ⟨#[97,108,108]⟩ (az ts)=true then (1:Int) else 2)=m;have Hm:Hid ((if bu ⟨#[97,108,108]⟩ (az ts)=true then (1:Int) else 2)=m):=hm;clear hm;go_enter Tryz.func162,Tryz.ntmps162;go_wp2_with fail
  refine con.mono ?_;rintro e w1 ⟨rfl,h1,hb1⟩;have con2:=qo h1 1 2;clear con h1;rw [Hm.out] at con2;go_wp2_with fail
  refine con2.mono ?_;rintro e w2 ⟨rfl,h2,hb2⟩;have H2:Hid (au w2 R tb (dM ⟨#[97,108,108]⟩ (az ts)) o):=h2;clear con2 h2;go_wp2_with fail
  exact C0 (results_tmp rfl _ _ _) rfl ⟨by first | rfl | trivial,H2.out,hb1.trans hb2⟩
 rw [hi,bC hi] at con;rcases hj:bu ⟨#[101,120,99,101,112,116]⟩ ts with _ | _
 case true =>
  have e:M=((if bu ⟨#[97,108,108]⟩ (az ts) then 3 else 4),dM ⟨#[97,108,108]⟩ (az ts)):=by
   rw [← HM.out,bp,hi,hj,dM];cases bu ⟨#[97,108,108]⟩ (az ts) <;> rfl
  subst e;clear HM;generalize hm:(if bu ⟨#[97,108,108]⟩ (az ts)=true then (3:Int) else 4)=m;have Hm:Hid ((if bu ⟨#[97,108,108]⟩ (az ts)=true then (3:Int) else 4)=m):=hm;clear hm;go_enter Tryz.func162,Tryz.ntmps162;go_wp2_with fail
  refine con.mono ?_;rintro e w1 ⟨rfl,h1,hb1⟩;have con1:=aM h1 ⟨#[101,120,99,101,112,116]⟩;rw [hj,bP hj] at con1;clear con h1;go_wp2_with fail
  refine con1.mono ?_;rintro e w3 ⟨rfl,h3,hb3⟩;have con2:=qo h3 3 4;clear con1 h3;rw [Hm.out] at con2;go_wp2_with fail
  refine con2.mono ?_;rintro e w2 ⟨rfl,h2,hb2⟩;have H2:Hid (au w2 R tb (dM ⟨#[97,108,108]⟩ (az ts)) o):=h2;clear con2 h2;go_wp2_with fail
  exact C0 (results_tmp rfl _ _ _) rfl ⟨by first | rfl | trivial,H2.out,(hb1.trans hb3).trans hb2⟩
 have e:M=(0,ts):=by rw [← HM.out,bp,hi,hj]; rfl
 subst e;clear HM;go_enter Tryz.func162,Tryz.ntmps162;go_wp2_with fail
 refine con.mono ?_;rintro e w1 ⟨rfl,h1,hb1⟩;have con1:=aM h1 ⟨#[101,120,99,101,112,116]⟩;rw [hj,bC hj] at con1;clear con h1;go_wp2_with fail
 refine con1.mono ?_;rintro e w3 ⟨rfl,h3,hb3⟩;have H3:Hid (au w3 R tb ts o):=h3;clear con1 h3;go_wp2_with fail
 exact C0 (results_tmp rfl _ _ _) rfl ⟨by first | rfl | trivial,H3.out,hb1.trans hb3⟩
def lM:List (Int × ByteArray):=[(2,⟨#[98,111,111,108]⟩),(3,⟨#[105,110,116]⟩),(4,⟨#[116,101,120,116]⟩)]
def j6 (ts:List Tk):List (Int × ByteArray)→PR Int
 | []=>.error (2,gY ts)
 | a :: r=>if bu a.2 ts then .ok (a.1,az ts) else j6 ts r
abbrev vr:Array Value:=#[.int .i64 2,.string ⟨#[98,111,111,108]⟩,.int .i64 3,.string ⟨#[105,110,116]⟩,.int .i64 4,.string ⟨#[116,101,120,116]⟩]
theorem pQ (w:World):Calls Tryz.prog 88 #[] w fun e w'=>e = .returned (.slice (some ⟨w.heap.size,0,none⟩) 3 3)∧w'=w.alloc (.cells vr 168):=by
 go_enter Tryz.func88,Tryz.ntmps88;go_wp2_with fail
 exact C0 (results_tmp rfl _ _ _) rfl ⟨by first | rfl | trivial,by first | rfl | trivial⟩
theorem uS {W:World} {g:Nat} {T:TypeId} (h:W.heap[g]? = some (.cells vr T (0,0))) (k:Nat) (hk:k<lM.length):W.cell? ⟨g,k*2,none⟩=some (.int .i64 lM[k].1)∧W.cell? ⟨g,k*2+1,none⟩=some (.string lM[k].2):=by
 have hk3:k<3:=hk;obtain rfl | rfl | rfl:k=0∨k=1∨k=2:=by omega
 ·exact ⟨cell_of (i:=0) h rfl,cell_of (i:=1) h rfl⟩
 ·exact ⟨cell_of (i:=2) h rfl,cell_of (i:=3) h rfl⟩
 ·exact ⟨cell_of (i:=4) h rfl,cell_of (i:=5) h rfl⟩
theorem nu {w:World} {R tb:Nat} {ts:List Tk} {o:Int} (h:au w R tb ts o):Calls Tryz.prog 188 #[.pointer (some ⟨R,0,none⟩)] w (Ends R tb o w ya (de ts)):=by
 have hltR:=h.lt;change Calls _ _ _ _ (Ends R tb o w ya (j6 ts lM));generalize hM:j6 ts lM=M;have HM:Hid (j6 ts lM=M):=hM;have ca:=pQ w;have hal4:=ab w (.cells vr 168);have QA4:=ar w vr 168;have H4:Hid (au (w.alloc (.cells vr 168)) R tb ts o):=h.next hal4;clear h hM;go_enter Tryz.func188,Tryz.ntmps188;go_wp2_with fail
 refine ca.mono ?_;rintro e w4 ⟨rfl,rfl⟩;generalize w.alloc (.cells vr 168)=w4 at *;have hx4:af R w w4:=.of hal4 (by omega);clear ca;go_wp2_with fail
 go_loopw [7] (fun i wr=>∃ k:Nat,k≤3∧i = .int .i64 k∧Hid (j6 ts (lM.drop k)=M)∧af R w wr∧Hid (au wr R tb ts o)∧wr.heap[w.heap.size]? = some (.cells vr 168 (0,0))) (fun i _=>3 - (RowKit.intOf i).toNat)
 case atStart=>exact ⟨0,by omega,rfl,HM,hx4,H4,QA4⟩
 case round =>
  clear HM hx4 H4 QA4;obtain ⟨k,hk,rfl,HL,hx,HR,QA⟩:=hrel;have hzr:=lt_of_heap QA;by_cases hlt:k<3
  ·have hkz:(k:Int)<3:=by omega
   have hkl:k<lM.length:=hlt;obtain ⟨c0,c1⟩:=uS QA k hkl;have HL2:Hid ((if bu lM[k].2 ts=true then .ok (lM[k].1,az ts) else j6 ts (lM.drop (k+1)))=M):=by
    have:=HL.out;rw [Da hkl,j6] at this;exact this
   clear HL;generalize lM[k]=a at *;have hal5:=ab wr (.cells #[.int .i64 a.1,.string a.2] 168);have QC:=ar wr #[.int .i64 a.1,.string a.2] 168;have con5:=aM (HR.out.next hal5) a.2;rcases hi:bu a.2 ts with _ | _
   ·rw [hi,bC hi] at con5;have HL3:Hid (j6 ts (lM.drop (k+1))=M):=by have:=HL2.out; rw [hi] at this; exact this
    clear HL2;go_wp2_with fail
    refine con5.mono ?_;rintro e w6 ⟨rfl,h6,hb6⟩;have hxr6:af R wr w6:=(af.of hal5 (by omega)).trans hb6;have H6:Hid (au w6 R tb ts o):=h6;have QA6:=(hxr6.2 _ (lt_of_heap QA) (by omega)).trans QA;clear con5 h6 c0 c1;go_wp2_with fail
    go_roundw
    case rel=>exact ⟨k+1,by omega,by go_num,HL3,hx.trans hxr6,H6,QA6⟩
    case measure=>simp [RowKit.intOf]; omega
   ·rw [hi,bP hi] at con5;have e:M = .ok (a.1,az ts):=by rw [← HL2.out,hi]; rfl
    subst e;clear HL2;go_wp2_with fail
    refine con5.mono ?_;rintro e' w6 ⟨rfl,h6,hb6⟩;have hxr6:af R wr w6:=(af.of hal5 (by omega)).trans hb6;have QC6:=(hb6.2 _ (lt_of_heap QC) (by omega)).trans QC;have k0:w6.cell? ⟨wr.heap.size,0,none⟩=some (.int .i64 a.1):=cell_of (i:=0) QC6 rfl;have H6:Hid (au w6 R tb (az ts) o):=h6;clear con5 h6 c0 c1;go_wp2_with fail
    refine C0 (v:=.int .i64 a.1) (by simp [results,Tryz.results188,go_sem]) rfl ?_;exact Ends.bV rfl (hx.trans hxr6) rfl H6.out
  ·have hkz:¬ (k:Int)<3:=by omega
   have e:M = .error (2,gY ts):=by have:=HL.out; rw [Dh (show lM.length≤k by show 3≤k; omega),j6] at this; exact this.symm
   subst e;obtain ⟨t,r,rfl⟩:=HR.out.gQ.ne;have con7:=eN HR.out 2;clear HL;go_wp2_with fail
   refine con7.mono ?_;rintro e' w7 ⟨rfl,hb7⟩;go_wp2_with fail
   exact ⟨rfl,Ends.err (c:=(2,t.2.2)) rfl (hx.trans (.of hb7 (by have:=hx.size; omega))) (HR.out.next hb7)⟩
def sG:List (Int × ByteArray):=[(3,⟨#[115,101,109,105]⟩),(4,⟨#[97,110,116,105]⟩),(5,⟨#[108,101,102,116]⟩)]
def kg (ts:List Tk):List (Int × ByteArray)→PR Int
 | []=>.ok (0,ts)
 | a :: r=>if bu a.2 ts then bf (aS [⟨#[106,111,105,110]⟩] (az ts)) (fun _ r=>.ok (a.1,r)) else kg ts r
abbrev Ai:Array Value:=#[.int .i64 3,.string ⟨#[115,101,109,105]⟩,.int .i64 4,.string ⟨#[97,110,116,105]⟩,.int .i64 5,.string ⟨#[108,101,102,116]⟩]
theorem vj (w:World):Calls Tryz.prog 144 #[] w fun e w'=>e = .returned (.slice (some ⟨w.heap.size,0,none⟩) 3 3)∧w'=w.alloc (.cells Ai 168):=by
 go_enter Tryz.func144,Tryz.ntmps144;go_wp2_with fail
 exact C0 (results_tmp rfl _ _ _) rfl ⟨by first | rfl | trivial,by first | rfl | trivial⟩
theorem zD {W:World} {g:Nat} {T:TypeId} (h:W.heap[g]? = some (.cells Ai T (0,0))) (k:Nat) (hk:k<sG.length):W.cell? ⟨g,k*2,none⟩=some (.int .i64 sG[k].1)∧W.cell? ⟨g,k*2+1,none⟩=some (.string sG[k].2):=by
 have hk3:k<3:=hk;obtain rfl | rfl | rfl:k=0∨k=1∨k=2:=by omega
 ·exact ⟨cell_of (i:=0) h rfl,cell_of (i:=1) h rfl⟩
 ·exact ⟨cell_of (i:=2) h rfl,cell_of (i:=3) h rfl⟩
 ·exact ⟨cell_of (i:=4) h rfl,cell_of (i:=5) h rfl⟩
theorem oA {w:World} {R tb:Nat} {ts:List Tk} {o:Int} (h:au w R tb ts o):Calls Tryz.prog 217 #[.pointer (some ⟨R,0,none⟩)] w (Ends R tb o w ya (dj ts)):=by
 have hltR:=h.lt;have con0:=aM h ⟨#[106,111,105,110]⟩;rcases h0:bu ⟨#[106,111,105,110]⟩ ts with _ | _
 case true =>
  rw [h0,bP h0] at con0;generalize hM:dj ts=M;have e:M = .ok (2,az ts):=by rw [← hM,dj,h0]; rfl
  subst e;clear hM h;go_enter Tryz.func217,Tryz.ntmps217;go_wp2_with fail
  refine con0.mono ?_;rintro e w1 ⟨rfl,h1,hb1⟩;have H1:Hid (au w1 R tb (az ts) o):=h1;clear con0 h1;go_wp2_with fail
  refine C0 (v:=.int .i64 2) (by simp [results,Tryz.results217,go_sem]) rfl ?_;exact Ends.bV rfl hb1 rfl H1.out
 rw [h0,bC h0] at con0;have hM0:dj ts=kg ts sG:=by rw [dj,h0]; rfl
 rw [hM0];generalize hM:kg ts sG=M;have HM:Hid (kg ts sG=M):=hM;clear h hM hM0;go_enter Tryz.func217,Tryz.ntmps217;go_wp2_with fail
 refine con0.mono ?_;rintro e w0 ⟨rfl,h1,hb1⟩;have ca:=vj w0;have hal4:=ab w0 (.cells Ai 168);have QA4:=ar w0 Ai 168;have H4:Hid (au (w0.alloc (.cells Ai 168)) R tb ts o):=h1.next hal4;have hz1:=hb1.size;clear con0 h1;go_wp2_with fail
 refine ca.mono ?_;rintro e w4 ⟨rfl,rfl⟩;generalize w0.alloc (.cells Ai 168)=w4 at *;have hx4:af R w w4:=hb1.trans (.of hal4 (by omega));clear ca;go_wp2_with fail
 go_loopw [9] (fun i wr=>∃ k:Nat,k≤3∧i = .int .i64 k∧Hid (kg ts (sG.drop k)=M)∧af R w wr∧Hid (au wr R tb ts o)∧wr.heap[w0.heap.size]? = some (.cells Ai 168 (0,0))) (fun i _=>3 - (RowKit.intOf i).toNat)
 case atStart=>exact ⟨0,by omega,rfl,HM,hx4,H4,QA4⟩
 case round =>
  clear HM hx4 H4 QA4;obtain ⟨k,hk,rfl,HL,hx,HR,QA⟩:=hrel;have hzr:=lt_of_heap QA;by_cases hlt:k<3
  ·have hkz:(k:Int)<3:=by omega
   have hkl:k<sG.length:=hlt;obtain ⟨c0,c1⟩:=zD QA k hkl;have HL2:Hid ((if bu sG[k].2 ts=true then bf (aS [⟨#[106,111,105,110]⟩] (az ts)) (fun _ r=>.ok (sG[k].1,r)) else kg ts (sG.drop (k+1)))=M):=by
    have:=HL.out;rw [Da hkl,kg] at this;exact this
   clear HL;generalize sG[k]=a at *;have hal5:=ab wr (.cells #[.int .i64 a.1,.string a.2] 168);have QC:=ar wr #[.int .i64 a.1,.string a.2] 168;have con5:=aM (HR.out.next hal5) a.2;rcases hi:bu a.2 ts with _ | _
   ·rw [hi,bC hi] at con5;have HL3:Hid (kg ts (sG.drop (k+1))=M):=by have:=HL2.out; rw [hi] at this; exact this
    clear HL2;go_wp2_with fail
    refine con5.mono ?_;rintro e w6 ⟨rfl,h6,hb6⟩;have hxr6:af R wr w6:=(af.of hal5 (by omega)).trans hb6;have H6:Hid (au w6 R tb ts o):=h6;have QA6:=(hxr6.2 _ (lt_of_heap QA) (by omega)).trans QA;clear con5 h6 c0 c1;go_wp2_with fail
    go_roundw
    case rel=>exact ⟨k+1,by omega,by go_num,HL3,hx.trans hxr6,H6,QA6⟩
    case measure=>simp [RowKit.intOf]; omega
   ·rw [hi,bP hi] at con5;have HL3:Hid (bf (aS [⟨#[106,111,105,110]⟩] (az ts)) (fun _ r=>.ok (a.1,r))=M):=by have:=HL2.out; rw [hi] at this; exact this
    clear HL2;go_wp2_with fail
    refine con5.mono ?_;rintro e' w6 ⟨rfl,h6,hb6⟩;have hxr6:af R wr w6:=(af.of hal5 (by omega)).trans hb6;have QC6:=(hb6.2 _ (lt_of_heap QC) (by omega)).trans QC;have hal7:=ab w6 (.cells #[.string ⟨#[106,111,105,110]⟩] 9);have con7:=cz (cap:=1) (h6.next hal7) (cj.one w6 ⟨#[106,111,105,110]⟩ 9) (by have:=h6.lt; omega) (by simp);have hz6:=lt_of_heap QC6;generalize aS [⟨#[106,111,105,110]⟩] (az ts)=L at *;clear con5 h6 c0 c1;go_wp2_with fail
    generalize w6.alloc (.cells #[.string ⟨#[106,111,105,110]⟩] 9)=w7 at *;refine con7.mono ?_;rintro e' w8 ⟨hb8,hW⟩;have hx68:af R w6 w8:=(af.of hal7 (by omega)).trans hb8;have hx8:=(hx.trans hxr6).trans hx68;have QC8:=(hx68.2 _ (lt_of_heap QC6) (by omega)).trans QC6;have k0:w8.cell? ⟨wr.heap.size,0,none⟩=some (.int .i64 a.1):=cell_of (i:=0) QC8 rfl;clear con7;rcases L with ce | ⟨u,r8⟩
    ·obtain ⟨rfl,us,hE⟩:=hW;have HEr:Hid (au w8 R tb us o):=hE;clear hE;have e:M = .error ce:=HL3.out.symm;subst e;clear HL3;go_wp2_with fail
     exact ⟨rfl,Ends.err rfl hx8 HEr.out⟩
    obtain ⟨v,rfl,rfl,hR8⟩:=hW;have HR8:Hid (au w8 R tb r8 o):=hR8;have e:M = .ok (a.1,r8):=HL3.out.symm;subst e;clear HL3 hR8;go_wp2_with fail
    refine C0 (v:=.int .i64 a.1) (by simp [results,Tryz.results217,go_sem]) rfl ?_;exact Ends.bV rfl hx8 rfl HR8.out
  ·have hkz:¬ (k:Int)<3:=by omega
   have e:M = .ok (0,ts):=by have:=HL.out; rw [Dh (show sG.length≤k by show 3≤k; omega),kg] at this; exact this.symm
   subst e;clear HL;go_wp2_with fail
   refine C0 (v:=.int .i64 0) (by simp [results,Tryz.results217,go_sem]) rfl ?_;exact Ends.bV rfl hx rfl HR.out
theorem cX {W:World} {g:Nat} {T:TypeId} {c0 c1:Value} (h:W.heap[g]? = some (.cells #[c0,c1] T (0,0))):W.cell? ⟨g,0,none⟩=some c0∧W.cell? ⟨g,1,none⟩=some c1 :=
 ⟨cell_of (i:=0) h rfl,cell_of (i:=1) h rfl⟩
theorem jO {W:World} {g:Nat} {T:TypeId} {c0 c1:Value} (h:W.heap[g]? = some (.cells #[c0,c1] T (0,0))):W.frozen? ⟨g,0,none⟩=false∧W.frozen? ⟨g,1,none⟩=false :=
 ⟨C3 W g 0 _ _ h,C3 W g 1 _ _ h⟩
theorem dH {W:World} {g:Nat} {T:TypeId} {c0 c1:Value} (h:W.heap[g]? = some (.cells #[c0,c1] T (0,0))) (v0 v1:Value):((W.setCell ⟨g,0,none⟩ v0).setCell ⟨g,1,none⟩ v1).heap[g]? = some (.cells #[v0,v1] T (0,0)):=by
 have h:(W.setCell ⟨g,0,none⟩ v0).heap[g]? = some (.cells #[v0,c1] T (0,0)):=C1 W g 0 _ _ v0 h;generalize W.setCell ⟨g,0,none⟩ v0=W0 at h ⊢;have h:(W0.setCell ⟨g,1,none⟩ v1).heap[g]? = some (.cells #[v0,v1] T (0,0)):=C1 W0 g 1 _ _ v1 h;generalize W0.setCell ⟨g,1,none⟩ v1=W1 at h ⊢;exact h
theorem vu {t g:Nat} {W0 W:World} (h:af t W0 W) (hg:W0.heap.size≤g) (ht:t≤W0.heap.size) (v0 v1:Value):af t W0 ((W.setCell ⟨g,0,none⟩ v0).setCell ⟨g,1,none⟩ v1) :=
 ((h.aL g 0 v0 hg ht).aL g 1 v1 hg ht)
theorem iI {g:Nat} {W0 W:World} (h:Below W0.heap.size W0 W) (hg:W0.heap.size≤g) (v0 v1:Value):Below W0.heap.size W0 ((W.setCell ⟨g,0,none⟩ v0).setCell ⟨g,1,none⟩ v1) :=
 ((h.setCell (p:=⟨g,0,none⟩) hg v0).setCell (p:=⟨g,1,none⟩) hg v1)
theorem yk {w W:World} {R tb g:Nat} {rs:List Tk} {o:Int} {T:TypeId} {c0 c1:Value} (Q:W.heap[g]? = some (.cells #[c0,c1] T (0,0))) (hR:au W R tb rs o) (hb:af R w W) (h1:w.heap.size≤g) (h3:R<w.heap.size) (h4:tb<w.heap.size) (v0 v1:Value) :
  ((W.setCell ⟨g,0,none⟩ v0).setCell ⟨g,1,none⟩ v1).heap[g]? = some (.cells #[v0,v1] T (0,0))∧au ((W.setCell ⟨g,0,none⟩ v0).setCell ⟨g,1,none⟩ v1) R tb rs o∧af R w ((W.setCell ⟨g,0,none⟩ v0).setCell ⟨g,1,none⟩ v1)∧aF g W ((W.setCell ⟨g,0,none⟩ v0).setCell ⟨g,1,none⟩ v1):=by
 have hk1:aF g W ((W.setCell ⟨g,0,none⟩ v0).setCell ⟨g,1,none⟩ v1):=(((aF.refl _ _).set 0 v0).set 1 v1)
 exact ⟨dH Q v0 v1,hR.k1 hk1 (by omega) (by omega) (by have:=hR.r2; omega),vu hb h1 (by omega) v0 v1,hk1⟩
theorem pa {W:World} {g:Nat} {T:TypeId} {c0 c1 c2 c3 c4 c5 c6 c7 c8 c9:Value} (h:W.heap[g]? = some (.cells #[c0,c1,c2,c3,c4,c5,c6,c7,c8,c9] T (0,0))):W.cell? ⟨g,0,none⟩=some c0∧W.cell? ⟨g,1,none⟩=some c1∧W.cell? ⟨g,2,none⟩=some c2∧W.cell? ⟨g,3,none⟩=some c3∧W.cell? ⟨g,4,none⟩=some c4∧W.cell? ⟨g,5,none⟩=some c5∧W.cell? ⟨g,6,none⟩=some c6∧W.cell? ⟨g,7,none⟩=some c7∧W.cell? ⟨g,8,none⟩=some c8∧W.cell? ⟨g,9,none⟩=some c9 :=
 ⟨cell_of (i:=0) h rfl,cell_of (i:=1) h rfl,cell_of (i:=2) h rfl,cell_of (i:=3) h rfl,cell_of (i:=4) h rfl,cell_of (i:=5) h rfl,cell_of (i:=6) h rfl,cell_of (i:=7) h rfl,cell_of (i:=8) h rfl,cell_of (i:=9) h rfl⟩
theorem zC {W:World} {g:Nat} {T:TypeId} {c0 c1 c2 c3 c4 c5 c6 c7 c8 c9:Value} (h:W.heap[g]? = some (.cells #[c0,c1,c2,c3,c4,c5,c6,c7,c8,c9] T (0,0))):W.frozen? ⟨g,0,none⟩=false∧W.frozen? ⟨g,1,none⟩=false∧W.frozen? ⟨g,2,none⟩=false∧W.frozen? ⟨g,3,none⟩=false∧W.frozen? ⟨g,4,none⟩=false∧W.frozen? ⟨g,5,none⟩=false∧W.frozen? ⟨g,6,none⟩=false∧W.frozen? ⟨g,7,none⟩=false∧W.frozen? ⟨g,8,none⟩=false∧W.frozen? ⟨g,9,none⟩=false :=
 ⟨C3 W g 0 _ _ h,C3 W g 1 _ _ h,C3 W g 2 _ _ h,C3 W g 3 _ _ h,C3 W g 4 _ _ h,C3 W g 5 _ _ h,C3 W g 6 _ _ h,C3 W g 7 _ _ h,C3 W g 8 _ _ h,C3 W g 9 _ _ h⟩
theorem uq {W:World} {g:Nat} {T:TypeId} {c0 c1 c2 c3 c4 c5 c6 c7 c8 c9:Value} (h:W.heap[g]? = some (.cells #[c0,c1,c2,c3,c4,c5,c6,c7,c8,c9] T (0,0))) (v0 v1 v2 v3 v4 v5 v6 v7 v8 v9:Value):((((((((((W.setCell ⟨g,0,none⟩ v0).setCell ⟨g,1,none⟩ v1).setCell ⟨g,2,none⟩ v2).setCell ⟨g,3,none⟩ v3).setCell ⟨g,4,none⟩ v4).setCell ⟨g,5,none⟩ v5).setCell ⟨g,6,none⟩ v6).setCell ⟨g,7,none⟩ v7).setCell ⟨g,8,none⟩ v8).setCell ⟨g,9,none⟩ v9).heap[g]? = some (.cells #[v0,v1,v2,v3,v4,v5,v6,v7,v8,v9] T (0,0)):=by
 have h:(W.setCell ⟨g,0,none⟩ v0).heap[g]? = some (.cells #[v0,c1,c2,c3,c4,c5,c6,c7,c8,c9] T (0,0)):=C1 W g 0 _ _ v0 h;generalize W.setCell ⟨g,0,none⟩ v0=W0 at h ⊢;have h:(W0.setCell ⟨g,1,none⟩ v1).heap[g]? = some (.cells #[v0,v1,c2,c3,c4,c5,c6,c7,c8,c9] T (0,0)):=C1 W0 g 1 _ _ v1 h;generalize W0.setCell ⟨g,1,none⟩ v1=W1 at h ⊢;have h:(W1.setCell ⟨g,2,none⟩ v2).heap[g]? = some (.cells #[v0,v1,v2,c3,c4,c5,c6,c7,c8,c9] T (0,0)):=C1 W1 g 2 _ _ v2 h;generalize W1.setCell ⟨g,2,none⟩ v2=W2 at h ⊢
 have h:(W2.setCell ⟨g,3,none⟩ v3).heap[g]? = some (.cells #[v0,v1,v2,v3,c4,c5,c6,c7,c8,c9] T (0,0)):=C1 W2 g 3 _ _ v3 h;generalize W2.setCell ⟨g,3,none⟩ v3=W3 at h ⊢;have h:(W3.setCell ⟨g,4,none⟩ v4).heap[g]? = some (.cells #[v0,v1,v2,v3,v4,c5,c6,c7,c8,c9] T (0,0)):=C1 W3 g 4 _ _ v4 h;generalize W3.setCell ⟨g,4,none⟩ v4=W4 at h ⊢;have h:(W4.setCell ⟨g,5,none⟩ v5).heap[g]? = some (.cells #[v0,v1,v2,v3,v4,v5,c6,c7,c8,c9] T (0,0)):=C1 W4 g 5 _ _ v5 h;generalize W4.setCell ⟨g,5,none⟩ v5=W5 at h ⊢
 have h:(W5.setCell ⟨g,6,none⟩ v6).heap[g]? = some (.cells #[v0,v1,v2,v3,v4,v5,v6,c7,c8,c9] T (0,0)):=C1 W5 g 6 _ _ v6 h;generalize W5.setCell ⟨g,6,none⟩ v6=W6 at h ⊢;have h:(W6.setCell ⟨g,7,none⟩ v7).heap[g]? = some (.cells #[v0,v1,v2,v3,v4,v5,v6,v7,c8,c9] T (0,0)):=C1 W6 g 7 _ _ v7 h;generalize W6.setCell ⟨g,7,none⟩ v7=W7 at h ⊢;have h:(W7.setCell ⟨g,8,none⟩ v8).heap[g]? = some (.cells #[v0,v1,v2,v3,v4,v5,v6,v7,v8,c9] T (0,0)):=C1 W7 g 8 _ _ v8 h;generalize W7.setCell ⟨g,8,none⟩ v8=W8 at h ⊢
 have h:(W8.setCell ⟨g,9,none⟩ v9).heap[g]? = some (.cells #[v0,v1,v2,v3,v4,v5,v6,v7,v8,v9] T (0,0)):=C1 W8 g 9 _ _ v9 h;generalize W8.setCell ⟨g,9,none⟩ v9=W9 at h ⊢;exact h
theorem AE {t g:Nat} {W0 W:World} (h:af t W0 W) (hg:W0.heap.size≤g) (ht:t≤W0.heap.size) (v0 v1 v2 v3 v4 v5 v6 v7 v8 v9:Value):af t W0 ((((((((((W.setCell ⟨g,0,none⟩ v0).setCell ⟨g,1,none⟩ v1).setCell ⟨g,2,none⟩ v2).setCell ⟨g,3,none⟩ v3).setCell ⟨g,4,none⟩ v4).setCell ⟨g,5,none⟩ v5).setCell ⟨g,6,none⟩ v6).setCell ⟨g,7,none⟩ v7).setCell ⟨g,8,none⟩ v8).setCell ⟨g,9,none⟩ v9) :=
 ((((((((((h.aL g 0 v0 hg ht).aL g 1 v1 hg ht).aL g 2 v2 hg ht).aL g 3 v3 hg ht).aL g 4 v4 hg ht).aL g 5 v5 hg ht).aL g 6 v6 hg ht).aL g 7 v7 hg ht).aL g 8 v8 hg ht).aL g 9 v9 hg ht)
theorem wM {w W:World} {R tb g:Nat} {rs:List Tk} {o:Int} {T:TypeId} {c0 c1 c2 c3 c4 c5 c6 c7 c8 c9:Value} (Q:W.heap[g]? = some (.cells #[c0,c1,c2,c3,c4,c5,c6,c7,c8,c9] T (0,0))) (hR:au W R tb rs o) (hb:af R w W) (h1:w.heap.size≤g) (h3:R<w.heap.size) (h4:tb<w.heap.size) (v0 v1 v2 v3 v4 v5 v6 v7 v8 v9:Value) :
  ((((((((((W.setCell ⟨g,0,none⟩ v0).setCell ⟨g,1,none⟩ v1).setCell ⟨g,2,none⟩ v2).setCell ⟨g,3,none⟩ v3).setCell ⟨g,4,none⟩ v4).setCell ⟨g,5,none⟩ v5).setCell ⟨g,6,none⟩ v6).setCell ⟨g,7,none⟩ v7).setCell ⟨g,8,none⟩ v8).setCell ⟨g,9,none⟩ v9).heap[g]? = some (.cells #[v0,v1,v2,v3,v4,v5,v6,v7,v8,v9] T (0,0))∧au ((((((((((W.setCell ⟨g,0,none⟩ v0).setCell ⟨g,1,none⟩ v1).setCell ⟨g,2,none⟩ v2).setCell ⟨g,3,none⟩ v3).setCell ⟨g,4,none⟩ v4).setCell ⟨g,5,none⟩ v5).setCell ⟨g,6,none⟩ v6).setCell ⟨g,7,none⟩ v7).setCell ⟨g,8,none⟩ v8).setCell ⟨g,9,none⟩ v9) R tb rs o∧af R w ((((((((((W.setCell ⟨g,0,none⟩ v0).setCell ⟨g,1,none⟩ v1).setCell ⟨g,2,none⟩ v2).setCell ⟨g,3,none⟩ v3).setCell ⟨g,4,none⟩ v4).setCell ⟨g,5,none⟩ v5).setCell ⟨g,6,none⟩ v6).setCell ⟨g,7,none⟩ v7).setCell ⟨g,8,none⟩ v8).setCell ⟨g,9,none⟩ v9)∧aF g W ((((((((((W.setCell ⟨g,0,none⟩ v0).setCell ⟨g,1,none⟩ v1).setCell ⟨g,2,none⟩ v2).setCell ⟨g,3,none⟩ v3).setCell ⟨g,4,none⟩ v4).setCell ⟨g,5,none⟩ v5).setCell ⟨g,6,none⟩ v6).setCell ⟨g,7,none⟩ v7).setCell ⟨g,8,none⟩ v8).setCell ⟨g,9,none⟩ v9):=by
 have hk1:aF g W ((((((((((W.setCell ⟨g,0,none⟩ v0).setCell ⟨g,1,none⟩ v1).setCell ⟨g,2,none⟩ v2).setCell ⟨g,3,none⟩ v3).setCell ⟨g,4,none⟩ v4).setCell ⟨g,5,none⟩ v5).setCell ⟨g,6,none⟩ v6).setCell ⟨g,7,none⟩ v7).setCell ⟨g,8,none⟩ v8).setCell ⟨g,9,none⟩ v9):=(((((((((((aF.refl _ _).set 0 v0).set 1 v1).set 2 v2).set 3 v3).set 4 v4).set 5 v5).set 6 v6).set 7 v7).set 8 v8).set 9 v9)
 exact ⟨uq Q v0 v1 v2 v3 v4 v5 v6 v7 v8 v9,hR.k1 hk1 (by omega) (by omega) (by have:=hR.r2; omega),AE hb h1 (by omega) v0 v1 v2 v3 v4 v5 v6 v7 v8 v9,hk1⟩
theorem vJ {W:World} {g:Nat} {T:TypeId} {c0 c1 c2 c3 c4 c5 c6 c7:Value} (h:W.heap[g]? = some (.cells #[c0,c1,c2,c3,c4,c5,c6,c7] T (0,0))):W.cell? ⟨g,0,none⟩=some c0∧W.cell? ⟨g,1,none⟩=some c1∧W.cell? ⟨g,2,none⟩=some c2∧W.cell? ⟨g,3,none⟩=some c3∧W.cell? ⟨g,4,none⟩=some c4∧W.cell? ⟨g,5,none⟩=some c5∧W.cell? ⟨g,6,none⟩=some c6∧W.cell? ⟨g,7,none⟩=some c7 :=
 ⟨cell_of (i:=0) h rfl,cell_of (i:=1) h rfl,cell_of (i:=2) h rfl,cell_of (i:=3) h rfl,cell_of (i:=4) h rfl,cell_of (i:=5) h rfl,cell_of (i:=6) h rfl,cell_of (i:=7) h rfl⟩
theorem Bz {W:World} {g:Nat} {T:TypeId} {c0 c1 c2 c3 c4 c5 c6 c7:Value} (h:W.heap[g]? = some (.cells #[c0,c1,c2,c3,c4,c5,c6,c7] T (0,0))):W.frozen? ⟨g,0,none⟩=false∧W.frozen? ⟨g,1,none⟩=false∧W.frozen? ⟨g,2,none⟩=false∧W.frozen? ⟨g,3,none⟩=false∧W.frozen? ⟨g,4,none⟩=false∧W.frozen? ⟨g,5,none⟩=false∧W.frozen? ⟨g,6,none⟩=false∧W.frozen? ⟨g,7,none⟩=false :=
 ⟨C3 W g 0 _ _ h,C3 W g 1 _ _ h,C3 W g 2 _ _ h,C3 W g 3 _ _ h,C3 W g 4 _ _ h,C3 W g 5 _ _ h,C3 W g 6 _ _ h,C3 W g 7 _ _ h⟩
theorem xL {W:World} {g:Nat} {T:TypeId} {c0 c1 c2 c3 c4 c5 c6 c7:Value} (h:W.heap[g]? = some (.cells #[c0,c1,c2,c3,c4,c5,c6,c7] T (0,0))) (v0 v1 v2 v3 v4 v5 v6 v7:Value):((((((((W.setCell ⟨g,0,none⟩ v0).setCell ⟨g,1,none⟩ v1).setCell ⟨g,2,none⟩ v2).setCell ⟨g,3,none⟩ v3).setCell ⟨g,4,none⟩ v4).setCell ⟨g,5,none⟩ v5).setCell ⟨g,6,none⟩ v6).setCell ⟨g,7,none⟩ v7).heap[g]? = some (.cells #[v0,v1,v2,v3,v4,v5,v6,v7] T (0,0)):=by
 have h:(W.setCell ⟨g,0,none⟩ v0).heap[g]? = some (.cells #[v0,c1,c2,c3,c4,c5,c6,c7] T (0,0)):=C1 W g 0 _ _ v0 h;generalize W.setCell ⟨g,0,none⟩ v0=W0 at h ⊢;have h:(W0.setCell ⟨g,1,none⟩ v1).heap[g]? = some (.cells #[v0,v1,c2,c3,c4,c5,c6,c7] T (0,0)):=C1 W0 g 1 _ _ v1 h;generalize W0.setCell ⟨g,1,none⟩ v1=W1 at h ⊢;have h:(W1.setCell ⟨g,2,none⟩ v2).heap[g]? = some (.cells #[v0,v1,v2,c3,c4,c5,c6,c7] T (0,0)):=C1 W1 g 2 _ _ v2 h;generalize W1.setCell ⟨g,2,none⟩ v2=W2 at h ⊢
 have h:(W2.setCell ⟨g,3,none⟩ v3).heap[g]? = some (.cells #[v0,v1,v2,v3,c4,c5,c6,c7] T (0,0)):=C1 W2 g 3 _ _ v3 h;generalize W2.setCell ⟨g,3,none⟩ v3=W3 at h ⊢;have h:(W3.setCell ⟨g,4,none⟩ v4).heap[g]? = some (.cells #[v0,v1,v2,v3,v4,c5,c6,c7] T (0,0)):=C1 W3 g 4 _ _ v4 h;generalize W3.setCell ⟨g,4,none⟩ v4=W4 at h ⊢;have h:(W4.setCell ⟨g,5,none⟩ v5).heap[g]? = some (.cells #[v0,v1,v2,v3,v4,v5,c6,c7] T (0,0)):=C1 W4 g 5 _ _ v5 h;generalize W4.setCell ⟨g,5,none⟩ v5=W5 at h ⊢
 have h:(W5.setCell ⟨g,6,none⟩ v6).heap[g]? = some (.cells #[v0,v1,v2,v3,v4,v5,v6,c7] T (0,0)):=C1 W5 g 6 _ _ v6 h;generalize W5.setCell ⟨g,6,none⟩ v6=W6 at h ⊢;have h:(W6.setCell ⟨g,7,none⟩ v7).heap[g]? = some (.cells #[v0,v1,v2,v3,v4,v5,v6,v7] T (0,0)):=C1 W6 g 7 _ _ v7 h;generalize W6.setCell ⟨g,7,none⟩ v7=W7 at h ⊢;exact h
theorem BD {t g:Nat} {W0 W:World} (h:af t W0 W) (hg:W0.heap.size≤g) (ht:t≤W0.heap.size) (v0 v1 v2 v3 v4 v5 v6 v7:Value):af t W0 ((((((((W.setCell ⟨g,0,none⟩ v0).setCell ⟨g,1,none⟩ v1).setCell ⟨g,2,none⟩ v2).setCell ⟨g,3,none⟩ v3).setCell ⟨g,4,none⟩ v4).setCell ⟨g,5,none⟩ v5).setCell ⟨g,6,none⟩ v6).setCell ⟨g,7,none⟩ v7) :=
 ((((((((h.aL g 0 v0 hg ht).aL g 1 v1 hg ht).aL g 2 v2 hg ht).aL g 3 v3 hg ht).aL g 4 v4 hg ht).aL g 5 v5 hg ht).aL g 6 v6 hg ht).aL g 7 v7 hg ht)
theorem yo {w W:World} {R tb g:Nat} {rs:List Tk} {o:Int} {T:TypeId} {c0 c1 c2 c3 c4 c5 c6 c7:Value} (Q:W.heap[g]? = some (.cells #[c0,c1,c2,c3,c4,c5,c6,c7] T (0,0))) (hR:au W R tb rs o) (hb:af R w W) (h1:w.heap.size≤g) (h3:R<w.heap.size) (h4:tb<w.heap.size) (v0 v1 v2 v3 v4 v5 v6 v7:Value) :
  ((((((((W.setCell ⟨g,0,none⟩ v0).setCell ⟨g,1,none⟩ v1).setCell ⟨g,2,none⟩ v2).setCell ⟨g,3,none⟩ v3).setCell ⟨g,4,none⟩ v4).setCell ⟨g,5,none⟩ v5).setCell ⟨g,6,none⟩ v6).setCell ⟨g,7,none⟩ v7).heap[g]? = some (.cells #[v0,v1,v2,v3,v4,v5,v6,v7] T (0,0))∧au ((((((((W.setCell ⟨g,0,none⟩ v0).setCell ⟨g,1,none⟩ v1).setCell ⟨g,2,none⟩ v2).setCell ⟨g,3,none⟩ v3).setCell ⟨g,4,none⟩ v4).setCell ⟨g,5,none⟩ v5).setCell ⟨g,6,none⟩ v6).setCell ⟨g,7,none⟩ v7) R tb rs o∧af R w ((((((((W.setCell ⟨g,0,none⟩ v0).setCell ⟨g,1,none⟩ v1).setCell ⟨g,2,none⟩ v2).setCell ⟨g,3,none⟩ v3).setCell ⟨g,4,none⟩ v4).setCell ⟨g,5,none⟩ v5).setCell ⟨g,6,none⟩ v6).setCell ⟨g,7,none⟩ v7)∧aF g W ((((((((W.setCell ⟨g,0,none⟩ v0).setCell ⟨g,1,none⟩ v1).setCell ⟨g,2,none⟩ v2).setCell ⟨g,3,none⟩ v3).setCell ⟨g,4,none⟩ v4).setCell ⟨g,5,none⟩ v5).setCell ⟨g,6,none⟩ v6).setCell ⟨g,7,none⟩ v7):=by
 have hk1:aF g W ((((((((W.setCell ⟨g,0,none⟩ v0).setCell ⟨g,1,none⟩ v1).setCell ⟨g,2,none⟩ v2).setCell ⟨g,3,none⟩ v3).setCell ⟨g,4,none⟩ v4).setCell ⟨g,5,none⟩ v5).setCell ⟨g,6,none⟩ v6).setCell ⟨g,7,none⟩ v7):=(((((((((aF.refl _ _).set 0 v0).set 1 v1).set 2 v2).set 3 v3).set 4 v4).set 5 v5).set 6 v6).set 7 v7)
 exact ⟨xL Q v0 v1 v2 v3 v4 v5 v6 v7,hR.k1 hk1 (by omega) (by omega) (by have:=hR.r2; omega),BD hb h1 (by omega) v0 v1 v2 v3 v4 v5 v6 v7,hk1⟩
def Ci (_:World) (v:Value) (x:qs):Prop:=v = .agg #[.string x.1,.int .i64 x.2]
def Ct (_:World) (v:Value) (x:Src):Prop:=x.on=jN∧v = .agg #[.int .i64 x.kind,.string x.name,.string x.alias,.int .i64 0,.int .i64 0,.int .i64 0,.string ⟨#[]⟩,.string ⟨#[]⟩,.string ⟨#[]⟩,.slice none 0 0]
def BZ (B:Nat) (W:World) (v:Value) (x:kQ):Prop:=∃ a c,v = .agg #[.int .i64 x.1.k,.int .i64 x.1.v.1,.int .i64 x.1.v.2.1,.string x.1.v.2.2,.string x.1.aH,.string x.1.name,.slice a x.1.ks.length c,.string x.2]∧bQ B W a x.1.ks
theorem nG {w:World} {R tb:Nat} {ts:List Tk} {o:Int} (h:au w R tb ts o):Calls Tryz.prog 157 #[.pointer (some ⟨R,0,none⟩)] w (Ends R tb o w Ci (db ts)):=by
 have hltR:=h.lt;have hltT:=h.j5;have hal:=ab w (.cells #[.string ⟨#[]⟩,.int .i64 0] 69);have QZ0:=ar w #[.string ⟨#[]⟩,.int .i64 0] 69;have hz0:w.heap.size<(w.alloc (.cells #[.string ⟨#[]⟩,.int .i64 0] 69)).heap.size:=lt_of_heap QZ0;have con:=gG (h.next hal);generalize hM:db ts=M;have HM:Hid (bf (cV ts) (fun nn r=>bf (de r) fun tt r2=>.ok ((nn,tt),r2))=M):=hM;generalize cV ts=L at *;clear h hM;go_enter Tryz.func157,Tryz.ntmps157;go_wp2_with fail
 generalize w.alloc (.cells #[.string ⟨#[]⟩,.int .i64 0] 69)=w1 at *;refine con.mono ?_;rintro e w2 ⟨hb2,hW⟩;have hx2:af R w w2:=(af.of hal (by omega)).trans hb2;have QZ2:=(hb2.2 _ (lt_of_heap QZ0) (by omega)).trans QZ0;have hz2:=lt_of_heap QZ2;clear con;rcases L with ce | ⟨nn,r⟩
 ·obtain ⟨rfl,us,hE⟩:=hW;have HEr:Hid (au w2 R tb us o):=hE;clear hE;have e:M = .error ce:=HM.out.symm;subst e;clear HM;go_wp2_with fail
  exact ⟨rfl,Ends.err rfl hx2 HEr.out⟩
 obtain ⟨v,rfl,rfl,hR2⟩:=hW;have HM2:Hid (bf (de r) (fun tt r2=>.ok ((nn,tt),r2))=M):=HM.out;have con3:=nu hR2;generalize de r=L2 at *;clear HM hR2;go_wp2_with fail
 refine con3.mono ?_;rintro e w4 ⟨hb4,hW⟩;have hx4:=hx2.trans hb4;have QZ:=(hb4.2 _ (lt_of_heap QZ2) (by omega)).trans QZ2;clear con3;rcases L2 with ce | ⟨tt,r2⟩
 ·obtain ⟨rfl,us,hE⟩:=hW;have HEr:Hid (au w4 R tb us o):=hE;clear hE;have e:M = .error ce:=HM2.out.symm;subst e;clear HM2;go_wp2_with fail
  exact ⟨rfl,Ends.err rfl hx4 HEr.out⟩
 obtain ⟨v,rfl,rfl,hR4⟩:=hW;have HR4:Hid (au w4 R tb r2 o):=hR4;have e:M = .ok ((nn,tt),r2):=HM2.out.symm;subst e;obtain ⟨z0,z1⟩:=cX QZ;obtain ⟨y0,y1⟩:=jO QZ;clear HM2 hR4;go_wp2_with fail
 obtain ⟨QE,hRE,hbE,hkE⟩:=yk (w:=w) QZ HR4.out hx4 (CX _) hltR hltT (.string nn) (.int .i64 tt);generalize ((w4.setCell ⟨w.heap.size,0,none⟩ (.string nn)).setCell ⟨w.heap.size,1,none⟩ (.int .i64 tt))=wE at *;obtain ⟨x0,x1⟩:=cX QE;exact C0 (v:=.agg #[.string nn,.int .i64 tt]) (by simp [results,Tryz.results157,go_sem,x0,x1]) rfl (Ends.bV (x:=(nn,tt)) rfl hbE rfl hRE)
theorem oh {w:World} {R tb:Nat} {ts:List Tk} {o:Int} (h:au w R tb ts o) (kind:Int):Calls Tryz.prog 216 #[.pointer (some ⟨R,0,none⟩),.int .i64 kind] w (Ends R tb o w Ct (gm kind ts)):=by
 have hltR:=h.lt;have hltT:=h.j5;have hal:=ab w (.cells #[.int .i64 0,.string ⟨#[]⟩,.string ⟨#[]⟩,.int .i64 0,.int .i64 0,.int .i64 0,.string ⟨#[]⟩,.string ⟨#[]⟩,.string ⟨#[]⟩,.slice none 0 0] 105);have QZ0:=ar w #[.int .i64 0,.string ⟨#[]⟩,.string ⟨#[]⟩,.int .i64 0,.int .i64 0,.int .i64 0,.string ⟨#[]⟩,.string ⟨#[]⟩,.string ⟨#[]⟩,.slice none 0 0] 105
 have hz0:w.heap.size<(w.alloc (.cells #[.int .i64 0,.string ⟨#[]⟩,.string ⟨#[]⟩,.int .i64 0,.int .i64 0,.int .i64 0,.string ⟨#[]⟩,.string ⟨#[]⟩,.string ⟨#[]⟩,.slice none 0 0] 105)).heap.size:=lt_of_heap QZ0;have con:=gG (h.next hal);generalize hM:gm kind ts=M;have HM:Hid (bf (cV ts) (fun nn r=>bf (dO r) fun aa r2=>.ok ((⟨kind,nn,aa,jN⟩:Src),r2))=M):=hM;generalize cV ts=L at *;clear h hM;go_enter Tryz.func216,Tryz.ntmps216;go_wp2_with fail
 generalize w.alloc (.cells #[.int .i64 0,.string ⟨#[]⟩,.string ⟨#[]⟩,.int .i64 0,.int .i64 0,.int .i64 0,.string ⟨#[]⟩,.string ⟨#[]⟩,.string ⟨#[]⟩,.slice none 0 0] 105)=w1 at *;refine con.mono ?_;rintro e w2 ⟨hb2,hW⟩;have hx2:af R w w2:=(af.of hal (by omega)).trans hb2;have QZ2:=(hb2.2 _ (lt_of_heap QZ0) (by omega)).trans QZ0;have hz2:=lt_of_heap QZ2;clear con;rcases L with ce | ⟨nn,r⟩
 ·obtain ⟨rfl,us,hE⟩:=hW;have HEr:Hid (au w2 R tb us o):=hE;clear hE;have e:M = .error ce:=HM.out.symm;subst e;clear HM;go_wp2_with fail
  exact ⟨rfl,Ends.err rfl hx2 HEr.out⟩
 obtain ⟨v,rfl,rfl,hR2⟩:=hW;have HM2:Hid (bf (dO r) (fun aa r2=>.ok ((⟨kind,nn,aa,jN⟩:Src),r2))=M):=HM.out;have con3:=nP hR2;generalize dO r=L2 at *;clear HM hR2;go_wp2_with fail
 refine con3.mono ?_;rintro e w4 ⟨hb4,hW⟩;have hx4:=hx2.trans hb4;have QZ:=(hb4.2 _ (lt_of_heap QZ2) (by omega)).trans QZ2;clear con3;rcases L2 with ce | ⟨aa,r2⟩
 ·obtain ⟨rfl,us,hE⟩:=hW;have HEr:Hid (au w4 R tb us o):=hE;clear hE;have e:M = .error ce:=HM2.out.symm;subst e;clear HM2;go_wp2_with fail
  exact ⟨rfl,Ends.err rfl hx4 HEr.out⟩
 obtain ⟨v,rfl,rfl,hR4⟩:=hW;have HR4:Hid (au w4 R tb r2 o):=hR4;have e:M = .ok ((⟨kind,nn,aa,jN⟩:Src),r2):=HM2.out.symm;subst e;obtain ⟨z0,z1,z2,z3,z4,z5,z6,z7,z8,z9⟩:=pa QZ;obtain ⟨y0,y1,y2,y3,y4,y5,y6,y7,y8,y9⟩:=zC QZ;clear HM2 hR4;go_wp2_with fail
 obtain ⟨QE,hRE,hbE,hkE⟩:=wM (w:=w) QZ HR4.out hx4 (CX _) hltR hltT (.int .i64 kind) (.string nn) (.string aa) (.int .i64 0) (.int .i64 0) (.int .i64 0) (.string ⟨#[]⟩) (.string ⟨#[]⟩) (.string ⟨#[]⟩) (.slice none 0 0)
 generalize ((((((((((w4.setCell ⟨w.heap.size,0,none⟩ (.int .i64 kind)).setCell ⟨w.heap.size,1,none⟩ (.string nn)).setCell ⟨w.heap.size,2,none⟩ (.string aa)).setCell ⟨w.heap.size,3,none⟩ (.int .i64 0)).setCell ⟨w.heap.size,4,none⟩ (.int .i64 0)).setCell ⟨w.heap.size,5,none⟩ (.int .i64 0)).setCell ⟨w.heap.size,6,none⟩ (.string ⟨#[]⟩)).setCell ⟨w.heap.size,7,none⟩ (.string ⟨#[]⟩)).setCell ⟨w.heap.size,8,none⟩ (.string ⟨#[]⟩)).setCell ⟨w.heap.size,9,none⟩ (.slice none 0 0))=wE at *;obtain ⟨x0,x1,x2,x3,x4,x5,x6,x7,x8,x9⟩:=pa QE
 exact C0 (v:=.agg #[.int .i64 kind,.string nn,.string aa,.int .i64 0,.int .i64 0,.int .i64 0,.string ⟨#[]⟩,.string ⟨#[]⟩,.string ⟨#[]⟩,.slice none 0 0]) (by simp [results,Tryz.results216,go_sem,x0,x1,x2,x3,x4,x5,x6,x7,x8,x9]) rfl (Ends.bV (x:=(⟨kind,nn,aa,jN⟩:Src)) rfl hbE ⟨rfl,rfl⟩ hRE)
theorem sB {w:World} {R tb:Nat} {ts:List Tk}  (h:au w R tb ts 0):Calls Tryz.prog 192 #[.pointer (some ⟨R,0,none⟩)] w (Ends R tb 0 w (BZ w.heap.size) (fI ts)):=by
 have hltR:=h.lt;have hltT:=h.j5;have hal:=ab w (.cells #[.int .i64 0,.int .i64 0,.int .i64 0,.string ⟨#[]⟩,.string ⟨#[]⟩,.string ⟨#[]⟩,.slice none 0 0,.string ⟨#[]⟩] 75);have QZ0:=ar w #[.int .i64 0,.int .i64 0,.int .i64 0,.string ⟨#[]⟩,.string ⟨#[]⟩,.string ⟨#[]⟩,.slice none 0 0,.string ⟨#[]⟩] 75;have hz0:w.heap.size<(w.alloc (.cells #[.int .i64 0,.int .i64 0,.int .i64 0,.string ⟨#[]⟩,.string ⟨#[]⟩,.string ⟨#[]⟩,.slice none 0 0,.string ⟨#[]⟩] 75)).heap.size:=lt_of_heap QZ0;have con:=pX (h.next hal)
 generalize hM:fI ts=M;have HM:Hid (bf (eP ts) (fun x r=>bf (dO r) fun aa r2=>.ok (((x,aa):kQ),r2))=M):=hM;generalize eP ts=L at *;clear h hM;go_enter Tryz.func192,Tryz.ntmps192;go_wp2_with fail
 generalize w.alloc (.cells #[.int .i64 0,.int .i64 0,.int .i64 0,.string ⟨#[]⟩,.string ⟨#[]⟩,.string ⟨#[]⟩,.slice none 0 0,.string ⟨#[]⟩] 75)=w1 at *;refine con.mono ?_;rintro e w2 ⟨hb2,hW⟩;have hx2:af R w w2:=(af.of hal (by omega)).trans hb2;have QZ2:=(hb2.2 _ (lt_of_heap QZ0) (by omega)).trans QZ0;have hz2:=lt_of_heap QZ2;clear con;rcases L with ce | ⟨x,r⟩
 ·obtain ⟨rfl,us,hE⟩:=hW;have HEr:Hid (au w2 R tb us 0):=hE;clear hE;have e:M = .error ce:=HM.out.symm;subst e;clear HM;go_wp2_with fail
  exact ⟨rfl,Ends.err rfl hx2 HEr.out⟩
 obtain ⟨v,rfl,⟨a,c,rfl,hks⟩,hR2⟩:=hW;have HM2:Hid (bf (dO r) (fun aa r2=>.ok (((x,aa):kQ),r2))=M):=HM.out;have con3:=nP hR2;have HK2:Hid (bQ w1.heap.size w2 a x.ks):=hks;generalize dO r=L2 at *;clear HM hR2;go_wp2_with fail
 refine con3.mono ?_;rintro e w4 ⟨hb4,hW⟩;have hx4:=hx2.trans hb4;have QZ:=(hb4.2 _ (lt_of_heap QZ2) (by omega)).trans QZ2;have HK4:Hid (bQ w1.heap.size w4 a x.ks):=bQ.k1 hb4.k1 (by omega) HK2.out;clear con3;rcases L2 with ce | ⟨aa,r2⟩
 ·obtain ⟨rfl,us,hE⟩:=hW;have HEr:Hid (au w4 R tb us 0):=hE;clear hE;have e:M = .error ce:=HM2.out.symm;subst e;clear HM2;go_wp2_with fail
  exact ⟨rfl,Ends.err rfl hx4 HEr.out⟩
 obtain ⟨v,rfl,rfl,hR4⟩:=hW;have HR4:Hid (au w4 R tb r2 0):=hR4;have e:M = .ok (((x,aa):kQ),r2):=HM2.out.symm;subst e;obtain ⟨z0,z1,z2,z3,z4,z5,z6,z7⟩:=vJ QZ;obtain ⟨y0,y1,y2,y3,y4,y5,y6,y7⟩:=Bz QZ;clear HM2 hR4;go_wp2_with fail
 obtain ⟨QE,hRE,hbE,hkE⟩:=yo (w:=w) QZ HR4.out hx4 (CX _) hltR hltT (.int .i64 x.k) (.int .i64 x.v.1) (.int .i64 x.v.2.1) (.string x.v.2.2) (.string x.aH) (.string x.name) (.slice a x.ks.length c) (.string aa)
 generalize ((((((((w4.setCell ⟨w.heap.size,0,none⟩ (.int .i64 x.k)).setCell ⟨w.heap.size,1,none⟩ (.int .i64 x.v.1)).setCell ⟨w.heap.size,2,none⟩ (.int .i64 x.v.2.1)).setCell ⟨w.heap.size,3,none⟩ (.string x.v.2.2)).setCell ⟨w.heap.size,4,none⟩ (.string x.aH)).setCell ⟨w.heap.size,5,none⟩ (.string x.name)).setCell ⟨w.heap.size,6,none⟩ (.slice a x.ks.length c)).setCell ⟨w.heap.size,7,none⟩ (.string aa))=wE at *;obtain ⟨x0,x1,x2,x3,x4,x5,x6,x7⟩:=vJ QE
 exact C0 (v:=.agg #[.int .i64 x.k,.int .i64 x.v.1,.int .i64 x.v.2.1,.string x.v.2.2,.string x.aH,.string x.name,.slice a x.ks.length c,.string aa]) (by simp [results,Tryz.results192,go_sem,x0,x1,x2,x3,x4,x5,x6,x7]) rfl (Ends.bV (x:=((x,aa):kQ)) rfl hbE ⟨a,c,rfl,bQ.mono (by omega) (bQ.k1 hkE (by omega) HK4.out)⟩ hRE)
end Go.Proofs.YtoknmnngaackkaaGreatDoor
