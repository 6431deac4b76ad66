/- Together: A9, AA, AB, AC, AD, Past, Ext2, FX, I0. -/
import Derived.Deep.Cut
import Derived.Deep.MidRow
import Derived.WalkKit
import Derived.BigQuiet
import Derived.OrdersHeld
import Derived.RegionTactic
import Derived.Test.YtoknmnngaackkaaGreatDoorJJ0
/- within. -/
namespace Go.Proofs.YtoknmnngaackkaaGreatDoor
open Go.RowKit Go.Lib Go.Shelf
set_option maxRecDepth 100000
set_option maxHeartbeats 4000000

theorem cell_lt {W:World} {b o:Nat} {u:Value} (hc:W.cell? ⟨b,o,none⟩=some u):b<W.heap.size:=by
 rcases Nat.lt_or_ge b W.heap.size with h' | h'
 ·exact h'
 ·simp [World.cell?,Array.getElem?_eq_none h'] at hc
theorem cells7 {W:World} {g:Nat} {T:TypeId} {c0 c1 c2 c3 c4 c5 c6:Value} (h:W.heap[g]? = some (.cells #[c0,c1,c2,c3,c4,c5,c6] T (0,0))):W.cell? ⟨g,0,none⟩=some c0∧W.cell? ⟨g,1,none⟩=some c1∧W.cell? ⟨g,2,none⟩=some c2∧W.cell? ⟨g,3,none⟩=some c3∧W.cell? ⟨g,4,none⟩=some c4∧W.cell? ⟨g,5,none⟩=some c5∧W.cell? ⟨g,6,none⟩=some c6 :=
 ⟨cell_of (i:=0) h rfl,cell_of (i:=1) h rfl,cell_of (i:=2) h rfl,cell_of (i:=3) h rfl,cell_of (i:=4) h rfl,cell_of (i:=5) h rfl,cell_of (i:=6) h rfl⟩
theorem froz7 {W:World} {g:Nat} {T:TypeId} {c0 c1 c2 c3 c4 c5 c6:Value} (h:W.heap[g]? = some (.cells #[c0,c1,c2,c3,c4,c5,c6] T (0,0))):W.frozen? ⟨g,0,none⟩=false∧W.frozen? ⟨g,1,none⟩=false∧W.frozen? ⟨g,2,none⟩=false∧W.frozen? ⟨g,3,none⟩=false∧W.frozen? ⟨g,4,none⟩=false∧W.frozen? ⟨g,5,none⟩=false∧W.frozen? ⟨g,6,none⟩=false :=
 ⟨frozen_of_row W g 0 _ _ h,frozen_of_row W g 1 _ _ h,frozen_of_row W g 2 _ _ h,frozen_of_row W g 3 _ _ h,frozen_of_row W g 4 _ _ h,frozen_of_row W g 5 _ _ h,frozen_of_row W g 6 _ _ h⟩
theorem st7_heap {W:World} {g:Nat} {T:TypeId} {c0 c1 c2 c3 c4 c5 c6:Value} (h:W.heap[g]? = some (.cells #[c0,c1,c2,c3,c4,c5,c6] T (0,0))) (v0 v1 v2 v3 v4 v5 v6:Value):(((((((W.setCell ⟨g,0,none⟩ v0).setCell ⟨g,1,none⟩ v1).setCell ⟨g,2,none⟩ v2).setCell ⟨g,3,none⟩ v3).setCell ⟨g,4,none⟩ v4).setCell ⟨g,5,none⟩ v5).setCell ⟨g,6,none⟩ v6).heap[g]? = some (.cells #[v0,v1,v2,v3,v4,v5,v6] T (0,0)):=by
 have h:=heap_setCell_same _ g 0 _ _ v0 h;have h:=heap_setCell_same _ g 1 _ _ v1 h;have h:=heap_setCell_same _ g 2 _ _ v2 h;have h:=heap_setCell_same _ g 3 _ _ v3 h;have h:=heap_setCell_same _ g 4 _ _ v4 h;have h:=heap_setCell_same _ g 5 _ _ v5 h;have h:=heap_setCell_same _ g 6 _ _ v6 h;exact h
theorem st7_x {t g:Nat} {W0 W:World} (h:BelowX t W0 W) (hg:W0.heap.size≤g) (ht:t≤W0.heap.size) (v0 v1 v2 v3 v4 v5 v6:Value):BelowX t W0 (((((((W.setCell ⟨g,0,none⟩ v0).setCell ⟨g,1,none⟩ v1).setCell ⟨g,2,none⟩ v2).setCell ⟨g,3,none⟩ v3).setCell ⟨g,4,none⟩ v4).setCell ⟨g,5,none⟩ v5).setCell ⟨g,6,none⟩ v6) :=
 (((((((h.setNew g 0 _ hg ht).setNew g 1 _ hg ht).setNew g 2 _ hg ht).setNew g 3 _ hg ht).setNew g 4 _ hg ht).setNew g 5 _ hg ht).setNew g 6 _ hg ht)
abbrev z7A:Array Value:=#[.int .i64 0,.int .i64 0,.int .i64 0,.string ⟨#[]⟩,.string ⟨#[]⟩,.string ⟨#[]⟩,.slice none 0 0]
theorem leave_d {w:World} {R tb q:Nat} {ts:List Tk} {o:Int} (h:RdAt w R tb ts o) (hq:w.cell? ⟨q,0,none⟩=some (.pointer (some ⟨R,0,none⟩))) (ho:-1000≤o∧o≤1000) (u:FrameMode) :
  CallsD Tryz.prog 218 #[.pointer (some ⟨q,0,none⟩)] u w fun e u' w'=>u'=u∧(e = .returned (.tuple #[])∧w'=w.setCell ⟨R,1,none⟩ (.int .i64 (o - 1))):=by
 obtain ⟨off,cap,e1,e2,e3⟩:=h.ex;have c1:w.cell? ⟨R,1,none⟩=some (.int .i64 o):=cell_of (i:=1) e1 rfl;have f1:=frozen_of_row w R 1 _ _ e1;clear h e1 e2 e3;go_enter_d Tryz.func218,Tryz.ntmps218
 go_wp2_with fail
 go_end0
 exact ⟨rfl,rfl⟩
theorem within_e {w:World} {R tb q:Nat} {ts:List Tk} {o:Int} (h:RdAt w R tb ts o) (hq:w.cell? ⟨q,0,none⟩=some (.pointer (some ⟨R,0,none⟩))) (hqR:q≠R) (ho:0≤o∧o≤100) (r:PR SX)
  (hf:o+1≤100→∀ W,BelowX R w W→RdAt W R tb ts (o+1)→W.cell? ⟨q,0,none⟩=some (.pointer (some ⟨R,0,none⟩))→Calls Tryz.prog 196 #[.pointer (some ⟨q,0,none⟩)] W (Ends R tb (o+1) W (VX W.heap.size) r)) :
  Calls Tryz.prog 195 #[.pointer (some ⟨R,0,none⟩),.func (.func 196) #[] #[.pointer (some ⟨q,0,none⟩)]] w (Ends R tb o w (VX w.heap.size) (if o+1 > 100 then .error (4,atP ts) else r)):=by
 have hmf:∀ (fn:Fn) (first cap:Array Value) (w:World),(Instr.makeFunc fn first cap).run Tryz.prog w = .ok (.func fn first cap) w:=fun _ _ _ _=>rfl
 obtain ⟨off,cap,e1,e2,e3⟩:=h.ex;have hR:=h.lt;have HTB:w.heap.size+1≠tb:=by have:=e3.lt; omega
 have HR:Hid (RdAt w R tb ts o):=h;have a1:w.cell? ⟨R,1,none⟩=some (.int .i64 o):=cell_of (i:=1) e1 rfl;have f1:=frozen_of_row w R 1 _ _ e1;have HF:Hid _:=hf;clear h e1 e2 e3 hf;generalize hM:(if o+1 > 100 then Except.error (4,atP ts) else r:PR SX)=M;have HM:Hid ((if o+1 > 100 then Except.error (4,atP ts) else r:PR SX)=M):=hM;clear hM;go_enter_defers Tryz.func195,Tryz.ntmps195
 go_upto_region 3 with fail
 have hset:=HR.out.setOpen (o+1);obtain ⟨hR1,hb1⟩:=hset;have hz1:(w.setCell ⟨R,1,none⟩ (.int .i64 (o+1))).heap.size=w.heap.size:=World.size_setCell ..;have HR1:Hid (RdAt (w.setCell ⟨R,1,none⟩ (.int .i64 (o+1))) R tb ts (o+1)):=hR1;clear hR1;generalize w.setCell ⟨R,1,none⟩ (.int .i64 (o+1))=w1 at *;have hA:Below w1.heap.size w1 ((w1.alloc (.cells #[.pointer (some ⟨R,0,none⟩)] 155)).alloc (.cells z7A 55)):=((Below.refl _ _).alloc (Nat.le_refl _) _).alloc (by simp) _
 have Q1:((w1.alloc (.cells #[.pointer (some ⟨R,0,none⟩)] 155)).alloc (.cells z7A 55)).heap[w.heap.size]? = some (.cells #[.pointer (some ⟨R,0,none⟩)] 155 (0,0)):=by
  rw [← hz1];exact (((Below.refl _ _).alloc (Nat.le_refl _) _).block _ (by simp)).trans (heap_new w1 _ _)
 have Q2:((w1.alloc (.cells #[.pointer (some ⟨R,0,none⟩)] 155)).alloc (.cells z7A 55)).heap[w.heap.size+1]? = some (.cells z7A 55 (0,0)):=by
  rw [show w.heap.size+1=(w1.alloc (.cells #[.pointer (some ⟨R,0,none⟩)] 155)).heap.size by simp [hz1]];exact heap_new _ _ _
 generalize ((w1.alloc (.cells #[.pointer (some ⟨R,0,none⟩)] 155)).alloc (.cells z7A 55))=w2 at *;have hb2:BelowX R w w2:=hb1.trans (.of hA (by omega));have hR2:RdAt w2 R tb ts (o+1):=HR1.out.next hA;have HR2:Hid (RdAt w2 R tb ts (o+1)):=hR2;have hq2:w2.cell? ⟨q,0,none⟩=some (.pointer (some ⟨R,0,none⟩)):=by
  have hlt:q<w.heap.size:=cell_lt hq;exact (hb2.cell (p:=⟨q,0,none⟩) hlt hqR).trans hq
 have HQ2:Hid (w2.cell? ⟨q,0,none⟩=some (.pointer (some ⟨R,0,none⟩))):=hq2;obtain ⟨off,cap,e1,e2,e3⟩:=hR2.ex;have d1:w2.cell? ⟨R,1,none⟩=some (.int .i64 (o+1)):=cell_of (i:=1) e1 rfl;have d2:w2.cell? ⟨w.heap.size,0,none⟩=some (.pointer (some ⟨R,0,none⟩)):=cell_of (i:=0) Q1 rfl;have ltR:=hR2.lt;clear hR2 e1 e2 e3 a1 f1 hq hq2 hA hb1;by_cases hbig:o+1 > 100
 ·have hbig':100<o+1:=by omega
  have e:M = .error (4,atP ts):=by rw [← HM.out,if_pos hbig]
  subst e;obtain ⟨t,rs,ets⟩:=HR2.out.toks.ne;subst ets;have con:=rfault_at HR2.out 4;clear HF HM;go_wp2_with fail
  refine con.mono ?_;rintro e w3 ⟨rfl,hb3⟩;have hR3:=HR2.out.next hb3;have q3:w3.cell? ⟨w.heap.size,0,none⟩=some (.pointer (some ⟨R,0,none⟩)):=cell_of (i:=0) ((hb3.block _ (lt_of_heap Q1)).trans Q1) rfl;have dcon:=leave_d hR3 q3 (by omega) (.panicking [thrV 4 (atP (t :: rs))]);have hx:=(hR3.setOpen (o+1 - 1)).2;go_wp2_with fail
  refine leaves_cons (f:=218) (args:=#[.pointer (some ⟨w.heap.size,0,none⟩)]) (by simp) (by simp [go_sem]) ?_;refine dcon.mono ?_;rintro e u' w4 ⟨rfl,rfl,rfl⟩;show Leaves Tryz.prog Tryz.f195 _ _ [] _ _;simp only [Leaves,settle,thrV];exact Ends.err (c:=(4,atP (t :: rs))) rfl ((hb2.trans (.of hb3 (by omega))).trans hx) (by simpa using (hR3.setOpen (o+1 - 1)).1)
 ·have hbig':¬ 100<o+1:=by omega
  have e:M=r:=by rw [← HM.out,if_neg hbig]
  subst e;have con:=HF.out (by omega) w2 hb2 HR2.out HQ2.out;clear HF HM;go_wp2_with fail
  refine con.mono ?_;rintro e w3 ⟨hb3,h3⟩;have Q13:=(hb3.2 _ (lt_of_heap Q1) (by omega)).trans Q1;have Q23:=(hb3.2 _ (lt_of_heap Q2) (by omega)).trans Q2;have q3:w3.cell? ⟨w.heap.size,0,none⟩=some (.pointer (some ⟨R,0,none⟩)):=cell_of (i:=0) Q13 rfl;rcases M with c | ⟨x,rs⟩
  ·obtain ⟨rfl,us,h3⟩:=h3;have hs:=h3.setOpen (o+1 - 1);have dcon:=leave_d h3 q3 (by omega) (.panicking [thrV c.1 c.2]);clear h3;go_wp2_with fail
   refine leaves_cons (f:=218) (args:=#[.pointer (some ⟨w.heap.size,0,none⟩)]) (by simp) (by simp [go_sem]) ?_;refine dcon.mono ?_;rintro e u' w4 ⟨rfl,rfl,rfl⟩;show Leaves Tryz.prog Tryz.f195 _ _ [] _ _;simp only [Leaves,settle,thrV];exact Ends.err (c:=c) rfl ((hb2.trans hb3).trans hs.2) (by simpa using hs.1)
  ·obtain ⟨v,rfl,⟨a,cap,rfl,hks⟩,hR3⟩:=h3;obtain ⟨z0,z1,z2,z3,z4,z5,z6⟩:=cells7 Q23;obtain ⟨y0,y1,y2,y3,y4,y5,y6⟩:=froz7 Q23;have HR3:Hid (RdAt w3 R tb rs (o+1)):=hR3;have HK:Hid (SsAt w2.heap.size w3 a x.ks):=hks;clear hR3 hks;go_wp2_with fail
   have QE:=st7_heap Q23 (.int .i64 x.k) (.int .i64 x.v.1) (.int .i64 x.v.2.1) (.string x.v.2.2) (.string x.tab) (.string x.name) (.slice a x.ks.length cap)
   have hb4:BelowX R w (((((((w3.setCell ⟨w.heap.size+1,0,none⟩ (.int .i64 x.k)).setCell ⟨w.heap.size+1,1,none⟩ (.int .i64 x.v.1)).setCell ⟨w.heap.size+1,2,none⟩ (.int .i64 x.v.2.1)).setCell ⟨w.heap.size+1,3,none⟩ (.string x.v.2.2)).setCell ⟨w.heap.size+1,4,none⟩ (.string x.tab)).setCell ⟨w.heap.size+1,5,none⟩ (.string x.name)).setCell ⟨w.heap.size+1,6,none⟩ (.slice a x.ks.length cap)):=st7_x (hb2.trans hb3) (by omega) (by omega) _ _ _ _ _ _ _
   have hk4:Keeps1 (w.heap.size+1) w3 (((((((w3.setCell ⟨w.heap.size+1,0,none⟩ (.int .i64 x.k)).setCell ⟨w.heap.size+1,1,none⟩ (.int .i64 x.v.1)).setCell ⟨w.heap.size+1,2,none⟩ (.int .i64 x.v.2.1)).setCell ⟨w.heap.size+1,3,none⟩ (.string x.v.2.2)).setCell ⟨w.heap.size+1,4,none⟩ (.string x.tab)).setCell ⟨w.heap.size+1,5,none⟩ (.string x.name)).setCell ⟨w.heap.size+1,6,none⟩ (.slice a x.ks.length cap)):=(((((((Keeps1.refl _ _).set _ _).set _ _).set _ _).set _ _).set _ _).set _ _).set _ _
   generalize (((((((w3.setCell ⟨w.heap.size+1,0,none⟩ (.int .i64 x.k)).setCell ⟨w.heap.size+1,1,none⟩ (.int .i64 x.v.1)).setCell ⟨w.heap.size+1,2,none⟩ (.int .i64 x.v.2.1)).setCell ⟨w.heap.size+1,3,none⟩ (.string x.v.2.2)).setCell ⟨w.heap.size+1,4,none⟩ (.string x.tab)).setCell ⟨w.heap.size+1,5,none⟩ (.string x.name)).setCell ⟨w.heap.size+1,6,none⟩ (.slice a x.ks.length cap))=w4 at *;have hR4:RdAt w4 R tb rs (o+1):=HR3.out.k1 hk4 (by omega) HTB (by have:=HR3.out.r2; omega)
   have q4:w4.cell? ⟨w.heap.size,0,none⟩=some (.pointer (some ⟨R,0,none⟩)):=(World.cell?_of_block (a:=⟨w.heap.size,0,none⟩) (hk4.2 w.heap.size (cell_lt q3) (by omega))).trans q3;have hs:=hR4.setOpen (o+1 - 1);have dcon:=leave_d hR4 q4 (by omega) .returning;refine leaves_cons (f:=218) (args:=#[.pointer (some ⟨w.heap.size,0,none⟩)]) (by simp) (by simp [go_sem]) ?_;refine dcon.mono ?_;rintro e u' w5 ⟨rfl,rfl,rfl⟩;show Leaves Tryz.prog Tryz.f195 _ _ [] _ _;have QE5:=(hs.2.2 _ (lt_of_heap QE) (by omega)).trans QE;have hb5:=hb4.trans hs.2
   have hR5:RdAt (w4.setCell ⟨R,1,none⟩ (.int .i64 (o+1 - 1))) R tb rs o:=by simpa using hs.1
   have hz2:=hb2.size;have HK5:SsAt w.heap.size (w4.setCell ⟨R,1,none⟩ (.int .i64 (o+1 - 1))) a x.ks:=((HK.out.k1 hk4 (by have:=lt_of_heap Q2; omega)).k1 hs.2.k1 (by omega)).mono (by omega);generalize w4.setCell ⟨R,1,none⟩ (.int .i64 (o+1 - 1))=w5 at *;obtain ⟨x0,x1,x2,x3,x4,x5,x6⟩:=cells7 QE5;refine ⟨.agg (sxA x a cap),by simp [results,Tryz.results195,go_sem,x0,x1,x2,x3,x4,x5,x6],?_⟩;exact Ends.good rfl hb5 ⟨a,cap,rfl,HK5⟩ hR5

def infC:List Value:=[.int .i64 5,.string ⟨#[111,114]⟩,.int .i64 1,.int .i64 4,.string ⟨#[97,110,100]⟩,.int .i64 2,.int .i64 6,.string ⟨#[61]⟩,.int .i64 4,.int .i64 7,.string ⟨#[60,62]⟩,.int .i64 4,.int .i64 8,.string ⟨#[60]⟩,.int .i64 4,.int .i64 9,.string ⟨#[60,61]⟩,.int .i64 4,.int .i64 10,.string ⟨#[62]⟩,.int .i64 4,.int .i64 11,.string ⟨#[62,61]⟩,.int .i64 4,.int .i64 12,.string ⟨#[43]⟩,.int .i64 5,.int .i64 13,.string ⟨#[45]⟩,.int .i64 5,.int .i64 14,.string ⟨#[42]⟩,.int .i64 6,.int .i64 15,.string ⟨#[124,124]⟩,.int .i64 7]
theorem Gl.range {W:World} (h:Gl W):W.rangeAt 1 0 infC:=fun j v hj=>by
 have hl:j<36:=by
  rcases Nat.lt_or_ge j 36 with h | h
  ·exact h
  ·rw [List.getElem?_eq_none (by simpa [infC] using h)] at hj; cases hj
 rw [Nat.zero_add,h.inf j hl,← hj];show infC.toArray[j]? = infC[j]?;simp
theorem infA_at (k:Nat) (h:k<12) (w:World):(Instr.index 232 (.agg infC.toArray) (.int .i64 k)).run Tryz.prog w = .ok (.agg #[.int .i64 (infL[k]'(by simpa [infL] using h)).1,.string (infL[k]'(by simpa [infL] using h)).2.1,.int .i64 (infL[k]'(by simpa [infL] using h)).2.2]) w:=by
 rcases k with _ | _ | _ | _ | _ | _ | _ | _ | _ | _ | _ | _ | k
 all_goals first | (exfalso; omega) | kernel_rfl
theorem signF_get (lvl:Int) (ts:List Tk) (k:Nat) (h:k<infL.length):signF lvl ts (infL.drop k)=if infL[k].2.2=lvl∧isP infL[k].2.1 ts=true then (infL[k].1,passP ts) else signF lvl ts (infL.drop (k+1)):=by
 rw [List.drop_eq_getElem_cons h,signF]
theorem sign_at {w:World} {R tb:Nat} {ts:List Tk} {o:Int} (h:RdAt w R tb ts o) (lvl:Int):Calls Tryz.prog 220 #[.pointer (some ⟨R,0,none⟩),.int .i64 lvl] w fun e w'=>e = .returned (.int .i64 (signP lvl ts).1)∧RdAt w' R tb (signP lvl ts).2 o∧BelowX R w w':=by
 have HR:Hid (RdAt w R tb ts o):=h;generalize hM:signP lvl ts=M;have HM:Hid (signF lvl ts infL=M):=hM;have hr:=h.gl.range;clear h hM;go_enter Tryz.func220,Tryz.ntmps220;go_upto_region 1 with fail
 refine wp_region_lit ?_;refine wpList_load_mid rfl 232 _ rfl 1 0 rfl infC (.array 12 201) hr (by kernel_rfl) rfl (by kernel_rfl) ?_;simp only [Act.put,pA,pB,pC];go_wp2_with fail
 clear hr;go_loopw [8] (fun i wr=>∃ k:Nat,k≤12∧i = .int .i64 k∧Hid (signF lvl ts (infL.drop k)=M)∧BelowX R w wr∧Hid (RdAt wr R tb ts o)) (fun i _=>12 - (intOf i).toNat)
 case atStart=>exact ⟨0,by omega,rfl,HM,BelowX.refl _ _,HR⟩
 case round =>
  obtain ⟨k,hk,rfl,HK,hx,HW⟩:=hrel;by_cases hlt:k<12
  ·have hkz:(k:Int)<12:=by omega
   have hid:=infA_at k hlt wr;have hkl:k<infL.length:=by simpa [infL] using hlt
   have HG:=signF_get lvl ts k hkl;have HG2:Hid ((if infL[k].2.2=lvl∧isP infL[k].2.1 ts=true then (infL[k].1,passP ts) else signF lvl ts (infL.drop (k+1)))=M):=HG.symm.trans HK.out;clear HG HK;generalize infL[k]=e at *;have hltR:=HW.out.lt;have hal:Below wr.heap.size wr (wr.alloc (.cells #[.int .i64 e.1,.string e.2.1,.int .i64 e.2.2] 201)):=(Below.refl _ _).alloc (Nat.le_refl _) _;have hq:=heap_new wr #[.int .i64 e.1,.string e.2.1,.int .i64 e.2.2] 201;rcases hl:e.2.2 == lvl with _ | _
   ·have HG3:Hid (signF lvl ts (infL.drop (k+1))=M):=by
     show _=_;rw [← HG2.out,if_neg (fun c=>by rw [c.1] at hl; simp at hl)]
    clear HG2;go_wp2_with fail
    go_roundw
    case rel=>exact ⟨k+1,by omega,by go_num,HG3,hx.trans (.of hal (by omega)),HW.out.next hal⟩
    case measure=>simp [intOf]; omega
   ·have hle:e.2.2=lvl:=by simpa using hl
    rw [hle] at hal hq;have con:=took_at (HW.out.next hal) e.2.1;rcases hi:isP e.2.1 ts with _ | _
    ·have HG3:Hid (signF lvl ts (infL.drop (k+1))=M):=by
      show _=_;rw [← HG2.out,if_neg (fun c=>by rw [hi] at c; exact absurd c.2 (by simp))]
     clear HG2;rw [hi,tookP_f hi] at con;go_wp2_with fail
     refine con.mono ?_;rintro e' w1 ⟨rfl,h1,hx1⟩;have H1:Hid (RdAt w1 R tb ts o):=h1;clear con h1;go_wp2_with fail
     go_roundw
     case rel=>exact ⟨k+1,by omega,by go_num,HG3,(hx.trans (.of hal (by omega))).trans hx1,H1⟩
     case measure=>simp [intOf]; omega
    ·have e2:M=(e.1,passP ts):=by rw [← HG2.out,if_pos ⟨hle,hi⟩]
     subst e2;clear HG2;rw [hi,tookP_t hi] at con;go_wp2_with fail
     refine con.mono ?_;rintro e' w1 ⟨rfl,h1,hx1⟩;have H1:Hid (RdAt w1 R tb (passP ts) o):=h1;have q1:=(hx1.2 _ (lt_of_heap hq) (by omega)).trans hq;have c0:w1.cell? ⟨wr.heap.size,0,none⟩=some (.int .i64 e.1):=cell_of (i:=0) q1 rfl;clear con h1;go_wp2_with fail
     exact bodyPost_ret (results_tmp rfl _ _ _) rfl ⟨by first | rfl | trivial,H1.out,(hx.trans (.of hal (by omega))).trans hx1⟩
  ·have hkz:¬ (k:Int)<12:=by omega
   have e2:M=(0,ts):=by rw [← HK.out,List.drop_eq_nil_of_le (by show 12≤k; omega)]; rfl
   subst e2;clear HK;go_wp2_with fail
   exact bodyPost_ret (results_tmp rfl _ _ _) rfl ⟨by first | rfl | trivial,HW.out,hx⟩

theorem st7_allS {w W:World} {R tb g:Nat} {S:Nat→Prop} {rs:List Tk} {o:Int} {x:SX} {a:Option Addr} {cap:Nat} {c0 c1 c2 c3 c4 c5 c6:Value} (Q:W.heap[g]? = some (.cells #[c0,c1,c2,c3,c4,c5,c6] 55 (0,0))) (hR:RdAt W R tb rs o) (hk:SsS S W a x.ks) (hb:BelowX R w W) (h1:w.heap.size≤g) (h2:¬ S g) (h3:R<w.heap.size) (h4:tb<w.heap.size) :
  (((((((W.setCell ⟨g,0,none⟩ (.int .i64 x.k)).setCell ⟨g,1,none⟩ (.int .i64 x.v.1)).setCell ⟨g,2,none⟩ (.int .i64 x.v.2.1)).setCell ⟨g,3,none⟩ (.string x.v.2.2)).setCell ⟨g,4,none⟩ (.string x.tab)).setCell ⟨g,5,none⟩ (.string x.name)).setCell ⟨g,6,none⟩ (.slice a x.ks.length cap)).heap[g]? = some (.cells (sxA x a cap) 55 (0,0))∧RdAt (((((((W.setCell ⟨g,0,none⟩ (.int .i64 x.k)).setCell ⟨g,1,none⟩ (.int .i64 x.v.1)).setCell ⟨g,2,none⟩ (.int .i64 x.v.2.1)).setCell ⟨g,3,none⟩ (.string x.v.2.2)).setCell ⟨g,4,none⟩ (.string x.tab)).setCell ⟨g,5,none⟩ (.string x.name)).setCell ⟨g,6,none⟩ (.slice a x.ks.length cap)) R tb rs o∧SsS S (((((((W.setCell ⟨g,0,none⟩ (.int .i64 x.k)).setCell ⟨g,1,none⟩ (.int .i64 x.v.1)).setCell ⟨g,2,none⟩ (.int .i64 x.v.2.1)).setCell ⟨g,3,none⟩ (.string x.v.2.2)).setCell ⟨g,4,none⟩ (.string x.tab)).setCell ⟨g,5,none⟩ (.string x.name)).setCell ⟨g,6,none⟩ (.slice a x.ks.length cap)) a x.ks∧BelowX R w (((((((W.setCell ⟨g,0,none⟩ (.int .i64 x.k)).setCell ⟨g,1,none⟩ (.int .i64 x.v.1)).setCell ⟨g,2,none⟩ (.int .i64 x.v.2.1)).setCell ⟨g,3,none⟩ (.string x.v.2.2)).setCell ⟨g,4,none⟩ (.string x.tab)).setCell ⟨g,5,none⟩ (.string x.name)).setCell ⟨g,6,none⟩ (.slice a x.ks.length cap))∧Keeps1 g W (((((((W.setCell ⟨g,0,none⟩ (.int .i64 x.k)).setCell ⟨g,1,none⟩ (.int .i64 x.v.1)).setCell ⟨g,2,none⟩ (.int .i64 x.v.2.1)).setCell ⟨g,3,none⟩ (.string x.v.2.2)).setCell ⟨g,4,none⟩ (.string x.tab)).setCell ⟨g,5,none⟩ (.string x.name)).setCell ⟨g,6,none⟩ (.slice a x.ks.length cap)):=by
 have hk1:Keeps1 g W (((((((W.setCell ⟨g,0,none⟩ (.int .i64 x.k)).setCell ⟨g,1,none⟩ (.int .i64 x.v.1)).setCell ⟨g,2,none⟩ (.int .i64 x.v.2.1)).setCell ⟨g,3,none⟩ (.string x.v.2.2)).setCell ⟨g,4,none⟩ (.string x.tab)).setCell ⟨g,5,none⟩ (.string x.name)).setCell ⟨g,6,none⟩ (.slice a x.ks.length cap)):=(((((((Keeps1.refl _ _).set _ _).set _ _).set _ _).set _ _).set _ _).set _ _).set _ _;exact ⟨st7_heap Q _ _ _ _ _ _ _,hR.k1 hk1 (by omega) (by omega) (by have:=hR.r2; omega),hk.k1 hk1 h2,st7_x hb h1 (by omega) _ _ _ _ _ _ _,hk1⟩
theorem st7_all {w W:World} {R tb g B:Nat} {rs:List Tk} {o:Int} {x:SX} {a:Option Addr} {cap:Nat} {c0 c1 c2 c3 c4 c5 c6:Value} (Q:W.heap[g]? = some (.cells #[c0,c1,c2,c3,c4,c5,c6] 55 (0,0))) (hR:RdAt W R tb rs o) (hk:SsAt B W a x.ks) (hb:BelowX R w W) (h1:w.heap.size≤g) (h2:g<B) (h3:R<w.heap.size) (h4:tb<w.heap.size) :
  (((((((W.setCell ⟨g,0,none⟩ (.int .i64 x.k)).setCell ⟨g,1,none⟩ (.int .i64 x.v.1)).setCell ⟨g,2,none⟩ (.int .i64 x.v.2.1)).setCell ⟨g,3,none⟩ (.string x.v.2.2)).setCell ⟨g,4,none⟩ (.string x.tab)).setCell ⟨g,5,none⟩ (.string x.name)).setCell ⟨g,6,none⟩ (.slice a x.ks.length cap)).heap[g]? = some (.cells (sxA x a cap) 55 (0,0))∧RdAt (((((((W.setCell ⟨g,0,none⟩ (.int .i64 x.k)).setCell ⟨g,1,none⟩ (.int .i64 x.v.1)).setCell ⟨g,2,none⟩ (.int .i64 x.v.2.1)).setCell ⟨g,3,none⟩ (.string x.v.2.2)).setCell ⟨g,4,none⟩ (.string x.tab)).setCell ⟨g,5,none⟩ (.string x.name)).setCell ⟨g,6,none⟩ (.slice a x.ks.length cap)) R tb rs o∧SsAt B (((((((W.setCell ⟨g,0,none⟩ (.int .i64 x.k)).setCell ⟨g,1,none⟩ (.int .i64 x.v.1)).setCell ⟨g,2,none⟩ (.int .i64 x.v.2.1)).setCell ⟨g,3,none⟩ (.string x.v.2.2)).setCell ⟨g,4,none⟩ (.string x.tab)).setCell ⟨g,5,none⟩ (.string x.name)).setCell ⟨g,6,none⟩ (.slice a x.ks.length cap)) a x.ks∧BelowX R w (((((((W.setCell ⟨g,0,none⟩ (.int .i64 x.k)).setCell ⟨g,1,none⟩ (.int .i64 x.v.1)).setCell ⟨g,2,none⟩ (.int .i64 x.v.2.1)).setCell ⟨g,3,none⟩ (.string x.v.2.2)).setCell ⟨g,4,none⟩ (.string x.tab)).setCell ⟨g,5,none⟩ (.string x.name)).setCell ⟨g,6,none⟩ (.slice a x.ks.length cap)):=by
 obtain ⟨p1,p2,p3,p4,_⟩:=st7_allS (cap:=cap) Q hR hk hb h1 (by show ¬ B≤g; omega) h3 h4;exact ⟨p1,p2,p3,p4⟩
/-- A reading of an expression. -/
def CtE (F:Nat) (args:List Value) (p:List Tk→PR SX) (o:Int):Prop:=∀ (w:World) (R tb:Nat) (ts:List Tk),RdAt w R tb ts o→p ts≠fuelE→Calls Tryz.prog F (Value.pointer (some ⟨R,0,none⟩) :: args).toArray w (Ends R tb o w (VX w.heap.size) (p ts))
theorem expr1_at {n:Nat} {o:Int} (hc:CtE 197 [.int .i64 1] (chainP n 1 o) o) {w:World} {R tb q:Nat} {ts:List Tk} (h:RdAt w R tb ts o) (hq:w.cell? ⟨q,0,none⟩=some (.pointer (some ⟨R,0,none⟩))) (hf:chainP n 1 o ts≠fuelE):Calls Tryz.prog 196 #[.pointer (some ⟨q,0,none⟩)] w (Ends R tb o w (VX w.heap.size) (chainP n 1 o ts)):=by
 have hltR:=h.lt;have hltT:=h.ltb;have hltq:=cell_lt hq;have hal:Below w.heap.size w (w.alloc (.cells z7A 55)):=(Below.refl _ _).alloc (Nat.le_refl _) _;have QZ0:=heap_new w z7A 55;have con:=hc (w.alloc (.cells z7A 55)) R tb ts (h.next hal) hf;have hz:=hal.size;have hz':w.heap.size<(w.alloc (.cells z7A 55)).heap.size:=lt_of_heap QZ0;generalize chainP n 1 o ts=M at *;clear hc hf h;go_enter Tryz.func196,Tryz.ntmps196;go_wp2_with fail
 generalize w.alloc (.cells z7A 55)=w1 at *;refine con.mono ?_;rintro e w2 ⟨hb2,hW⟩;have QZ:=(hb2.2 _ (lt_of_heap QZ0) (by omega)).trans QZ0;clear con;rcases M with c | ⟨x,rs⟩
 ·obtain ⟨rfl,us,hE⟩:=hW;have HE:Hid (RdAt w2 R tb us o):=hE;clear hE;go_wp2_with fail
  exact ⟨rfl,Ends.err rfl ((BelowX.of hal (by omega)).trans hb2) HE.out⟩
 ·obtain ⟨v,rfl,⟨a,cap,rfl,hks⟩,hRW⟩:=hW;obtain ⟨z0,z1,z2,z3,z4,z5,z6⟩:=cells7 QZ;obtain ⟨y0,y1,y2,y3,y4,y5,y6⟩:=froz7 QZ;have HRW:Hid (RdAt w2 R tb rs o):=hRW;have HKW:Hid (SsAt _ w2 a x.ks):=hks;clear hRW hks;go_wp2_with fail
  obtain ⟨QE,hRE,hKE,hbE⟩:=st7_all (w:=w) (cap:=cap) QZ HRW.out HKW.out ((BelowX.of hal (by omega)).trans hb2) (by omega) (by omega) hltR hltT;generalize (((((((w2.setCell ⟨w.heap.size,0,none⟩ (.int .i64 x.k)).setCell ⟨w.heap.size,1,none⟩ (.int .i64 x.v.1)).setCell ⟨w.heap.size,2,none⟩ (.int .i64 x.v.2.1)).setCell ⟨w.heap.size,3,none⟩ (.string x.v.2.2)).setCell ⟨w.heap.size,4,none⟩ (.string x.tab)).setCell ⟨w.heap.size,5,none⟩ (.string x.name)).setCell ⟨w.heap.size,6,none⟩ (.slice a x.ks.length cap))=wE at *;obtain ⟨x0,x1,x2,x3,x4,x5,x6⟩:=cells7 QE
  exact bodyPost_ret (v:=.agg (sxA x a cap)) (by simp [results,Tryz.results196,go_sem,x0,x1,x2,x3,x4,x5,x6]) rfl (Ends.good rfl hbE ⟨a,cap,rfl,hKE.mono (by omega)⟩ hRE)
theorem expr_step {n:Nat} {o:Int} (ho:0≤o∧o≤100) (hc:o+1≤100→CtE 197 [.int .i64 1] (chainP n 1 (o+1)) (o+1)):CtE 164 [] (exprP (n+1) o) o:=by
 intro w R tb ts h hf;have hmf:∀ (fn:Fn) (first cap:Array Value) (w:World),(Instr.makeFunc fn first cap).run Tryz.prog w = .ok (.func fn first cap) w:=fun _ _ _ _=>rfl
 rw [exprP] at hf ⊢;have hltR:=h.lt;have hltT:=h.ltb;have hA:Below w.heap.size w ((w.alloc (.cells #[.pointer (some ⟨R,0,none⟩)] 155)).alloc (.cells z7A 55)):=((Below.refl _ _).alloc (Nat.le_refl _) _).alloc (by simp) _;have QB:((w.alloc (.cells #[.pointer (some ⟨R,0,none⟩)] 155)).alloc (.cells z7A 55)).heap[w.heap.size]? = some (.cells #[.pointer (some ⟨R,0,none⟩)] 155 (0,0)):=(((Below.refl _ _).alloc (Nat.le_refl _) _).block _ (by simp)).trans (heap_new w _ _)
 have QZ0:((w.alloc (.cells #[.pointer (some ⟨R,0,none⟩)] 155)).alloc (.cells z7A 55)).heap[w.heap.size+1]? = some (.cells z7A 55 (0,0)):=by
  rw [show w.heap.size+1=(w.alloc (.cells #[.pointer (some ⟨R,0,none⟩)] 155)).heap.size by simp];exact heap_new _ _ _
 have HR:Hid (RdAt w R tb ts o):=h;clear h;have b0:((w.alloc (.cells #[.pointer (some ⟨R,0,none⟩)] 155)).alloc (.cells z7A 55)).cell? ⟨w.heap.size,0,none⟩=some (.pointer (some ⟨R,0,none⟩)):=cell_of (i:=0) QB rfl;have B0:Hid (((w.alloc (.cells #[.pointer (some ⟨R,0,none⟩)] 155)).alloc (.cells z7A 55)).cell? ⟨w.heap.size,0,none⟩=some (.pointer (some ⟨R,0,none⟩))):=b0;clear b0;have con:=within_e (HR.out.next hA) B0.out (by omega) ho (chainP n 1 (o+1) ts) (fun h100 W hbW hRW hqW=>expr1_at (hc h100) hRW hqW (by rw [if_neg (by omega)] at hf; exact hf))
 generalize (if o+1 > 100 then Except.error (4,atP ts) else chainP n 1 (o+1) ts:PR SX)=M at *;have hz':=lt_of_heap QZ0;clear hc hf;go_enter Tryz.func164,Tryz.ntmps164;go_wp2_with fail
 generalize (w.alloc (.cells #[.pointer (some ⟨R,0,none⟩)] 155)).alloc (.cells z7A 55)=w1 at *;refine con.mono ?_;rintro e w2 ⟨hb2,hW⟩;have QZ:=(hb2.2 _ (lt_of_heap QZ0) (by omega)).trans QZ0;clear con;rcases M with c | ⟨x,rs⟩
 ·obtain ⟨rfl,us,hE⟩:=hW;have HE:Hid (RdAt w2 R tb us o):=hE;clear hE;go_wp2_with fail
  exact ⟨rfl,Ends.err rfl ((BelowX.of hA (by omega)).trans hb2) HE.out⟩
 ·obtain ⟨v,rfl,⟨a,cap,rfl,hks⟩,hRW⟩:=hW;obtain ⟨z0,z1,z2,z3,z4,z5,z6⟩:=cells7 QZ;obtain ⟨y0,y1,y2,y3,y4,y5,y6⟩:=froz7 QZ;have HRW:Hid (RdAt w2 R tb rs o):=hRW;have HKW:Hid (SsAt _ w2 a x.ks):=hks;clear hRW hks;go_wp2_with fail
  obtain ⟨QE,hRE,hKE,hbE⟩:=st7_all (w:=w) (cap:=cap) QZ HRW.out HKW.out ((BelowX.of hA (by omega)).trans hb2) (by omega) (by omega) hltR hltT;generalize (((((((w2.setCell ⟨w.heap.size+1,0,none⟩ (.int .i64 x.k)).setCell ⟨w.heap.size+1,1,none⟩ (.int .i64 x.v.1)).setCell ⟨w.heap.size+1,2,none⟩ (.int .i64 x.v.2.1)).setCell ⟨w.heap.size+1,3,none⟩ (.string x.v.2.2)).setCell ⟨w.heap.size+1,4,none⟩ (.string x.tab)).setCell ⟨w.heap.size+1,5,none⟩ (.string x.name)).setCell ⟨w.heap.size+1,6,none⟩ (.slice a x.ks.length cap))=wE at *;obtain ⟨x0,x1,x2,x3,x4,x5,x6⟩:=cells7 QE
  exact bodyPost_ret (v:=.agg (sxA x a cap)) (by simp [results,Tryz.results164,go_sem,x0,x1,x2,x3,x4,x5,x6]) rfl (Ends.good rfl hbE ⟨a,cap,rfl,hKE.mono (by omega)⟩ hRE)
theorem level_step {n:Nat} {lvl o:Int} (hd:lvl=3→CtE 233 [] (deniedP n o) o) (hp:lvl=8→CtE 234 [] (pieceP n o) o) (hc:lvl≠3→lvl≠8→CtE 197 [.int .i64 lvl] (chainP n lvl o) o):CtE 219 [.int .i64 lvl] (levelP (n+1) lvl o) o:=by
 intro w R tb ts h hf;rw [levelP] at hf ⊢;have hltR:=h.lt;have hltT:=h.ltb;have hal:Below w.heap.size w (w.alloc (.cells z7A 55)):=(Below.refl _ _).alloc (Nat.le_refl _) _;have QZ0:=heap_new w z7A 55;have hz':w.heap.size<(w.alloc (.cells z7A 55)).heap.size:=lt_of_heap QZ0;have hR1:=h.next hal;clear h;by_cases h3:lvl=3
 case pos =>
  subst h3;rw [if_pos rfl] at hf ⊢;generalize hMM:deniedP n o ts=M at *;have con:=hd rfl (w.alloc (.cells z7A 55)) R tb ts hR1 (by rw [hMM]; exact hf);rw [hMM] at con;clear hd hp hc hf hMM hR1;go_enter Tryz.func219,Tryz.ntmps219;go_wp2_with fail
  generalize w.alloc (.cells z7A 55)=w1 at *;refine con.mono ?_;rintro e w2 ⟨hb2,hW⟩;have QZ:=(hb2.2 _ (lt_of_heap QZ0) (by omega)).trans QZ0;clear con;rcases M with c | ⟨x,rs⟩
  ·obtain ⟨rfl,us,hE⟩:=hW;have HE:Hid (RdAt w2 R tb us o):=hE;clear hE;go_wp2_with fail
   exact ⟨rfl,Ends.err rfl ((BelowX.of hal (by omega)).trans hb2) HE.out⟩
  ·obtain ⟨v,rfl,⟨a,cap,rfl,hks⟩,hRW⟩:=hW;obtain ⟨z0,z1,z2,z3,z4,z5,z6⟩:=cells7 QZ;obtain ⟨y0,y1,y2,y3,y4,y5,y6⟩:=froz7 QZ;have HRW:Hid (RdAt w2 R tb rs o):=hRW;have HKW:Hid (SsAt _ w2 a x.ks):=hks;clear hRW hks;go_wp2_with fail
   obtain ⟨QE,hRE,hKE,hbE⟩:=st7_all (w:=w) (cap:=cap) QZ HRW.out HKW.out ((BelowX.of hal (by omega)).trans hb2) (by omega) (by omega) hltR hltT;generalize (((((((w2.setCell ⟨w.heap.size,0,none⟩ (.int .i64 x.k)).setCell ⟨w.heap.size,1,none⟩ (.int .i64 x.v.1)).setCell ⟨w.heap.size,2,none⟩ (.int .i64 x.v.2.1)).setCell ⟨w.heap.size,3,none⟩ (.string x.v.2.2)).setCell ⟨w.heap.size,4,none⟩ (.string x.tab)).setCell ⟨w.heap.size,5,none⟩ (.string x.name)).setCell ⟨w.heap.size,6,none⟩ (.slice a x.ks.length cap))=wE at *;obtain ⟨x0,x1,x2,x3,x4,x5,x6⟩:=cells7 QE
   exact bodyPost_ret (v:=.agg (sxA x a cap)) (by simp [results,Tryz.results219,go_sem,x0,x1,x2,x3,x4,x5,x6]) rfl (Ends.good rfl hbE ⟨a,cap,rfl,hKE.mono (by omega)⟩ hRE)
 by_cases h8:lvl=8
 case pos =>
  subst h8;rw [if_neg (by decide),if_pos rfl] at hf ⊢;generalize hMM:pieceP n o ts=M at *;have con:=hp rfl (w.alloc (.cells z7A 55)) R tb ts hR1 (by rw [hMM]; exact hf);rw [hMM] at con;clear hd hp hc hf hMM hR1;go_enter Tryz.func219,Tryz.ntmps219;go_wp2_with fail
  generalize w.alloc (.cells z7A 55)=w1 at *;refine con.mono ?_;rintro e w2 ⟨hb2,hW⟩;have QZ:=(hb2.2 _ (lt_of_heap QZ0) (by omega)).trans QZ0;clear con;rcases M with c | ⟨x,rs⟩
  ·obtain ⟨rfl,us,hE⟩:=hW;have HE:Hid (RdAt w2 R tb us o):=hE;clear hE;go_wp2_with fail
   exact ⟨rfl,Ends.err rfl ((BelowX.of hal (by omega)).trans hb2) HE.out⟩
  ·obtain ⟨v,rfl,⟨a,cap,rfl,hks⟩,hRW⟩:=hW;obtain ⟨z0,z1,z2,z3,z4,z5,z6⟩:=cells7 QZ;obtain ⟨y0,y1,y2,y3,y4,y5,y6⟩:=froz7 QZ;have HRW:Hid (RdAt w2 R tb rs o):=hRW;have HKW:Hid (SsAt _ w2 a x.ks):=hks;clear hRW hks;go_wp2_with fail
   obtain ⟨QE,hRE,hKE,hbE⟩:=st7_all (w:=w) (cap:=cap) QZ HRW.out HKW.out ((BelowX.of hal (by omega)).trans hb2) (by omega) (by omega) hltR hltT;generalize (((((((w2.setCell ⟨w.heap.size,0,none⟩ (.int .i64 x.k)).setCell ⟨w.heap.size,1,none⟩ (.int .i64 x.v.1)).setCell ⟨w.heap.size,2,none⟩ (.int .i64 x.v.2.1)).setCell ⟨w.heap.size,3,none⟩ (.string x.v.2.2)).setCell ⟨w.heap.size,4,none⟩ (.string x.tab)).setCell ⟨w.heap.size,5,none⟩ (.string x.name)).setCell ⟨w.heap.size,6,none⟩ (.slice a x.ks.length cap))=wE at *;obtain ⟨x0,x1,x2,x3,x4,x5,x6⟩:=cells7 QE
   exact bodyPost_ret (v:=.agg (sxA x a cap)) (by simp [results,Tryz.results219,go_sem,x0,x1,x2,x3,x4,x5,x6]) rfl (Ends.good rfl hbE ⟨a,cap,rfl,hKE.mono (by omega)⟩ hRE)
 case neg =>
  rw [if_neg h3,if_neg h8] at hf ⊢;generalize hMM:chainP n lvl o ts=M at *;have con:=hc h3 h8 (w.alloc (.cells z7A 55)) R tb ts hR1 (by rw [hMM]; exact hf);rw [hMM] at con;clear hd hp hc hf hMM hR1;go_enter Tryz.func219,Tryz.ntmps219;go_wp2_with fail
  generalize w.alloc (.cells z7A 55)=w1 at *;refine con.mono ?_;rintro e w2 ⟨hb2,hW⟩;have QZ:=(hb2.2 _ (lt_of_heap QZ0) (by omega)).trans QZ0;clear con;rcases M with c | ⟨x,rs⟩
  ·obtain ⟨rfl,us,hE⟩:=hW;have HE:Hid (RdAt w2 R tb us o):=hE;clear hE;go_wp2_with fail
   exact ⟨rfl,Ends.err rfl ((BelowX.of hal (by omega)).trans hb2) HE.out⟩
  ·obtain ⟨v,rfl,⟨a,cap,rfl,hks⟩,hRW⟩:=hW;obtain ⟨z0,z1,z2,z3,z4,z5,z6⟩:=cells7 QZ;obtain ⟨y0,y1,y2,y3,y4,y5,y6⟩:=froz7 QZ;have HRW:Hid (RdAt w2 R tb rs o):=hRW;have HKW:Hid (SsAt _ w2 a x.ks):=hks;clear hRW hks;go_wp2_with fail
   obtain ⟨QE,hRE,hKE,hbE⟩:=st7_all (w:=w) (cap:=cap) QZ HRW.out HKW.out ((BelowX.of hal (by omega)).trans hb2) (by omega) (by omega) hltR hltT;generalize (((((((w2.setCell ⟨w.heap.size,0,none⟩ (.int .i64 x.k)).setCell ⟨w.heap.size,1,none⟩ (.int .i64 x.v.1)).setCell ⟨w.heap.size,2,none⟩ (.int .i64 x.v.2.1)).setCell ⟨w.heap.size,3,none⟩ (.string x.v.2.2)).setCell ⟨w.heap.size,4,none⟩ (.string x.tab)).setCell ⟨w.heap.size,5,none⟩ (.string x.name)).setCell ⟨w.heap.size,6,none⟩ (.slice a x.ks.length cap))=wE at *;obtain ⟨x0,x1,x2,x3,x4,x5,x6⟩:=cells7 QE
   exact bodyPost_ret (v:=.agg (sxA x a cap)) (by simp [results,Tryz.results219,go_sem,x0,x1,x2,x3,x4,x5,x6]) rfl (Ends.good rfl hbE ⟨a,cap,rfl,hKE.mono (by omega)⟩ hRE)

theorem within_d {w:World} {R tb:Nat} {ts:List Tk} {o:Int} (h:RdAt w R tb ts o) (ho:0≤o∧o≤100) (r:PR SX)
  (hf:o+1≤100→∀ W,BelowX R w W→RdAt W R tb ts (o+1)→Calls Tryz.prog 233 #[.pointer (some ⟨R,0,none⟩)] W (Ends R tb (o+1) W (VX W.heap.size) r)) :
  Calls Tryz.prog 195 #[.pointer (some ⟨R,0,none⟩),.func (.func 233) #[.pointer (some ⟨R,0,none⟩)] #[]] w (Ends R tb o w (VX w.heap.size) (if o+1 > 100 then .error (4,atP ts) else r)):=by
 have hmf:∀ (fn:Fn) (first cap:Array Value) (w:World),(Instr.makeFunc fn first cap).run Tryz.prog w = .ok (.func fn first cap) w:=fun _ _ _ _=>rfl
 obtain ⟨off,cap,e1,e2,e3⟩:=h.ex;have hR:=h.lt;have HTB:w.heap.size+1≠tb:=by have:=e3.lt; omega
 have HR:Hid (RdAt w R tb ts o):=h;have a1:w.cell? ⟨R,1,none⟩=some (.int .i64 o):=cell_of (i:=1) e1 rfl;have f1:=frozen_of_row w R 1 _ _ e1;have HF:Hid _:=hf;clear h e1 e2 e3 hf;generalize hM:(if o+1 > 100 then Except.error (4,atP ts) else r:PR SX)=M;have HM:Hid ((if o+1 > 100 then Except.error (4,atP ts) else r:PR SX)=M):=hM;clear hM;go_enter_defers Tryz.func195,Tryz.ntmps195
 go_upto_region 3 with fail
 have hset:=HR.out.setOpen (o+1);obtain ⟨hR1,hb1⟩:=hset;have hz1:(w.setCell ⟨R,1,none⟩ (.int .i64 (o+1))).heap.size=w.heap.size:=World.size_setCell ..;have HR1:Hid (RdAt (w.setCell ⟨R,1,none⟩ (.int .i64 (o+1))) R tb ts (o+1)):=hR1;clear hR1;generalize w.setCell ⟨R,1,none⟩ (.int .i64 (o+1))=w1 at *;have hA:Below w1.heap.size w1 ((w1.alloc (.cells #[.pointer (some ⟨R,0,none⟩)] 155)).alloc (.cells z7A 55)):=((Below.refl _ _).alloc (Nat.le_refl _) _).alloc (by simp) _
 have Q1:((w1.alloc (.cells #[.pointer (some ⟨R,0,none⟩)] 155)).alloc (.cells z7A 55)).heap[w.heap.size]? = some (.cells #[.pointer (some ⟨R,0,none⟩)] 155 (0,0)):=by
  rw [← hz1];exact (((Below.refl _ _).alloc (Nat.le_refl _) _).block _ (by simp)).trans (heap_new w1 _ _)
 have Q2:((w1.alloc (.cells #[.pointer (some ⟨R,0,none⟩)] 155)).alloc (.cells z7A 55)).heap[w.heap.size+1]? = some (.cells z7A 55 (0,0)):=by
  rw [show w.heap.size+1=(w1.alloc (.cells #[.pointer (some ⟨R,0,none⟩)] 155)).heap.size by simp [hz1]];exact heap_new _ _ _
 generalize ((w1.alloc (.cells #[.pointer (some ⟨R,0,none⟩)] 155)).alloc (.cells z7A 55))=w2 at *;have hb2:BelowX R w w2:=hb1.trans (.of hA (by omega));have hR2:RdAt w2 R tb ts (o+1):=HR1.out.next hA;have HR2:Hid (RdAt w2 R tb ts (o+1)):=hR2;obtain ⟨off,cap,e1,e2,e3⟩:=hR2.ex;have d1:w2.cell? ⟨R,1,none⟩=some (.int .i64 (o+1)):=cell_of (i:=1) e1 rfl;have d2:w2.cell? ⟨w.heap.size,0,none⟩=some (.pointer (some ⟨R,0,none⟩)):=cell_of (i:=0) Q1 rfl;have ltR:=hR2.lt;clear hR2 e1 e2 e3 a1 f1 hA hb1;by_cases hbig:o+1 > 100
 ·have hbig':100<o+1:=by omega
  have e:M = .error (4,atP ts):=by rw [← HM.out,if_pos hbig]
  subst e;obtain ⟨t,rs,ets⟩:=HR2.out.toks.ne;subst ets;have con:=rfault_at HR2.out 4;clear HF HM;go_wp2_with fail
  refine con.mono ?_;rintro e w3 ⟨rfl,hb3⟩;have hR3:=HR2.out.next hb3;have q3:w3.cell? ⟨w.heap.size,0,none⟩=some (.pointer (some ⟨R,0,none⟩)):=cell_of (i:=0) ((hb3.block _ (lt_of_heap Q1)).trans Q1) rfl;have dcon:=leave_d hR3 q3 (by omega) (.panicking [thrV 4 (atP (t :: rs))]);have hx:=(hR3.setOpen (o+1 - 1)).2;go_wp2_with fail
  refine leaves_cons (f:=218) (args:=#[.pointer (some ⟨w.heap.size,0,none⟩)]) (by simp) (by simp [go_sem]) ?_;refine dcon.mono ?_;rintro e u' w4 ⟨rfl,rfl,rfl⟩;show Leaves Tryz.prog Tryz.f195 _ _ [] _ _;simp only [Leaves,settle,thrV];exact Ends.err (c:=(4,atP (t :: rs))) rfl ((hb2.trans (.of hb3 (by omega))).trans hx) (by simpa using (hR3.setOpen (o+1 - 1)).1)
 ·have hbig':¬ 100<o+1:=by omega
  have e:M=r:=by rw [← HM.out,if_neg hbig]
  subst e;have con:=HF.out (by omega) w2 hb2 HR2.out;clear HF HM;go_wp2_with fail
  refine con.mono ?_;rintro e w3 ⟨hb3,h3⟩;have Q13:=(hb3.2 _ (lt_of_heap Q1) (by omega)).trans Q1;have Q23:=(hb3.2 _ (lt_of_heap Q2) (by omega)).trans Q2;have q3:w3.cell? ⟨w.heap.size,0,none⟩=some (.pointer (some ⟨R,0,none⟩)):=cell_of (i:=0) Q13 rfl;rcases M with c | ⟨x,rs⟩
  ·obtain ⟨rfl,us,h3⟩:=h3;have hs:=h3.setOpen (o+1 - 1);have dcon:=leave_d h3 q3 (by omega) (.panicking [thrV c.1 c.2]);clear h3;go_wp2_with fail
   refine leaves_cons (f:=218) (args:=#[.pointer (some ⟨w.heap.size,0,none⟩)]) (by simp) (by simp [go_sem]) ?_;refine dcon.mono ?_;rintro e u' w4 ⟨rfl,rfl,rfl⟩;show Leaves Tryz.prog Tryz.f195 _ _ [] _ _;simp only [Leaves,settle,thrV];exact Ends.err (c:=c) rfl ((hb2.trans hb3).trans hs.2) (by simpa using hs.1)
  ·obtain ⟨v,rfl,⟨a,cap,rfl,hks⟩,hR3⟩:=h3;obtain ⟨z0,z1,z2,z3,z4,z5,z6⟩:=cells7 Q23;obtain ⟨y0,y1,y2,y3,y4,y5,y6⟩:=froz7 Q23;have HR3:Hid (RdAt w3 R tb rs (o+1)):=hR3;have HK:Hid (SsAt w2.heap.size w3 a x.ks):=hks;clear hR3 hks;go_wp2_with fail
   have QE:=st7_heap Q23 (.int .i64 x.k) (.int .i64 x.v.1) (.int .i64 x.v.2.1) (.string x.v.2.2) (.string x.tab) (.string x.name) (.slice a x.ks.length cap)
   have hb4:BelowX R w (((((((w3.setCell ⟨w.heap.size+1,0,none⟩ (.int .i64 x.k)).setCell ⟨w.heap.size+1,1,none⟩ (.int .i64 x.v.1)).setCell ⟨w.heap.size+1,2,none⟩ (.int .i64 x.v.2.1)).setCell ⟨w.heap.size+1,3,none⟩ (.string x.v.2.2)).setCell ⟨w.heap.size+1,4,none⟩ (.string x.tab)).setCell ⟨w.heap.size+1,5,none⟩ (.string x.name)).setCell ⟨w.heap.size+1,6,none⟩ (.slice a x.ks.length cap)):=st7_x (hb2.trans hb3) (by omega) (by omega) _ _ _ _ _ _ _
   have hk4:Keeps1 (w.heap.size+1) w3 (((((((w3.setCell ⟨w.heap.size+1,0,none⟩ (.int .i64 x.k)).setCell ⟨w.heap.size+1,1,none⟩ (.int .i64 x.v.1)).setCell ⟨w.heap.size+1,2,none⟩ (.int .i64 x.v.2.1)).setCell ⟨w.heap.size+1,3,none⟩ (.string x.v.2.2)).setCell ⟨w.heap.size+1,4,none⟩ (.string x.tab)).setCell ⟨w.heap.size+1,5,none⟩ (.string x.name)).setCell ⟨w.heap.size+1,6,none⟩ (.slice a x.ks.length cap)):=(((((((Keeps1.refl _ _).set _ _).set _ _).set _ _).set _ _).set _ _).set _ _).set _ _
   generalize (((((((w3.setCell ⟨w.heap.size+1,0,none⟩ (.int .i64 x.k)).setCell ⟨w.heap.size+1,1,none⟩ (.int .i64 x.v.1)).setCell ⟨w.heap.size+1,2,none⟩ (.int .i64 x.v.2.1)).setCell ⟨w.heap.size+1,3,none⟩ (.string x.v.2.2)).setCell ⟨w.heap.size+1,4,none⟩ (.string x.tab)).setCell ⟨w.heap.size+1,5,none⟩ (.string x.name)).setCell ⟨w.heap.size+1,6,none⟩ (.slice a x.ks.length cap))=w4 at *;have hR4:RdAt w4 R tb rs (o+1):=HR3.out.k1 hk4 (by omega) HTB (by have:=HR3.out.r2; omega)
   have q4:w4.cell? ⟨w.heap.size,0,none⟩=some (.pointer (some ⟨R,0,none⟩)):=(World.cell?_of_block (a:=⟨w.heap.size,0,none⟩) (hk4.2 w.heap.size (cell_lt q3) (by omega))).trans q3;have hs:=hR4.setOpen (o+1 - 1);have dcon:=leave_d hR4 q4 (by omega) .returning;refine leaves_cons (f:=218) (args:=#[.pointer (some ⟨w.heap.size,0,none⟩)]) (by simp) (by simp [go_sem]) ?_;refine dcon.mono ?_;rintro e u' w5 ⟨rfl,rfl,rfl⟩;show Leaves Tryz.prog Tryz.f195 _ _ [] _ _;have QE5:=(hs.2.2 _ (lt_of_heap QE) (by omega)).trans QE;have hb5:=hb4.trans hs.2
   have hR5:RdAt (w4.setCell ⟨R,1,none⟩ (.int .i64 (o+1 - 1))) R tb rs o:=by simpa using hs.1
   have hz2:=hb2.size;have HK5:SsAt w.heap.size (w4.setCell ⟨R,1,none⟩ (.int .i64 (o+1 - 1))) a x.ks:=((HK.out.k1 hk4 (by have:=lt_of_heap Q2; omega)).k1 hs.2.k1 (by omega)).mono (by omega);generalize w4.setCell ⟨R,1,none⟩ (.int .i64 (o+1 - 1))=w5 at *;obtain ⟨x0,x1,x2,x3,x4,x5,x6⟩:=cells7 QE5;refine ⟨.agg (sxA x a cap),by simp [results,Tryz.results195,go_sem,x0,x1,x2,x3,x4,x5,x6],?_⟩;exact Ends.good rfl hb5 ⟨a,cap,rfl,HK5⟩ hR5
theorem SsS.one {S:Nat→Prop} {w:World} {x:SX} {a:Option Addr} {c:Nat} (T:TypeId) (hx:SsS S w a x.ks) (hB:S w.heap.size):SsS S (w.alloc (.cells #[.int .i64 x.k,.int .i64 x.v.1,.int .i64 x.v.2.1,.string x.v.2.2,.string x.tab,.string x.name,.slice a x.ks.length c] T)) (Option.some ⟨w.heap.size,0,none⟩) [x]:=by
 have hq:=heap_new w #[.int .i64 x.k,.int .i64 x.v.1,.int .i64 x.v.2.1,.string x.v.2.2,.string x.tab,.string x.name,.slice a x.ks.length c] T;have hal:Below w.heap.size w (w.alloc (.cells #[.int .i64 x.k,.int .i64 x.v.1,.int .i64 x.v.2.1,.string x.v.2.2,.string x.tab,.string x.name,.slice a x.ks.length c] T)):=(Below.refl _ _).alloc (Nat.le_refl _) _;refine .some _ _ _ (fun _=>a) (fun _=>c) hB (lt_of_heap hq) (fun i hi=>?_) (fun i hi=>?_)
 all_goals obtain rfl:i=0:=by simpa using hi
 ·exact ⟨cell_of (i:=0) hq rfl,cell_of (i:=1) hq rfl,cell_of (i:=2) hq rfl,cell_of (i:=3) hq rfl,cell_of (i:=4) hq rfl,cell_of (i:=5) hq rfl,cell_of (i:=6) hq rfl⟩
 ·exact hx.next hal
theorem SsS.two {S:Nat→Prop} {w:World} {x y:SX} {a b:Option Addr} {c d:Nat} (T:TypeId) (hx:SsS S w a x.ks) (hy:SsS S w b y.ks) (hB:S w.heap.size):SsS S (w.alloc (.cells #[.int .i64 x.k,.int .i64 x.v.1,.int .i64 x.v.2.1,.string x.v.2.2,.string x.tab,.string x.name,.slice a x.ks.length c,.int .i64 y.k,.int .i64 y.v.1,.int .i64 y.v.2.1,.string y.v.2.2,.string y.tab,.string y.name,.slice b y.ks.length d] T)) (Option.some ⟨w.heap.size,0,none⟩) [x,y]:=by
 have hq:=heap_new w #[.int .i64 x.k,.int .i64 x.v.1,.int .i64 x.v.2.1,.string x.v.2.2,.string x.tab,.string x.name,.slice a x.ks.length c,.int .i64 y.k,.int .i64 y.v.1,.int .i64 y.v.2.1,.string y.v.2.2,.string y.tab,.string y.name,.slice b y.ks.length d] T;have hal:Below w.heap.size w (w.alloc (.cells #[.int .i64 x.k,.int .i64 x.v.1,.int .i64 x.v.2.1,.string x.v.2.2,.string x.tab,.string x.name,.slice a x.ks.length c,.int .i64 y.k,.int .i64 y.v.1,.int .i64 y.v.2.1,.string y.v.2.2,.string y.tab,.string y.name,.slice b y.ks.length d] T)):=(Below.refl _ _).alloc (Nat.le_refl _) _
 refine .some _ _ _ (fun i=>if i=0 then a else b) (fun i=>if i=0 then c else d) hB (lt_of_heap hq) (fun i hi=>?_) (fun i hi=>?_)
 all_goals obtain rfl | rfl:i=0∨i=1:=by simp at hi; omega
 ·exact ⟨cell_of (i:=0) hq rfl,cell_of (i:=1) hq rfl,cell_of (i:=2) hq rfl,cell_of (i:=3) hq rfl,cell_of (i:=4) hq rfl,cell_of (i:=5) hq rfl,cell_of (i:=6) hq rfl⟩
 ·exact ⟨cell_of (i:=7) hq rfl,cell_of (i:=8) hq rfl,cell_of (i:=9) hq rfl,cell_of (i:=10) hq rfl,cell_of (i:=11) hq rfl,cell_of (i:=12) hq rfl,cell_of (i:=13) hq rfl⟩
 ·exact hx.next hal
 ·exact hy.next hal
theorem denied_step {n:Nat} {o:Int} (ho:0≤o∧o≤100) (hd:o+1≤100→CtE 233 [] (deniedP n (o+1)) (o+1)) (hc:CtE 243 [] (comparedP n o) o):CtE 233 [] (deniedP (n+1) o) o:=by
 intro w R tb ts h hf;have hmf:∀ (fn:Fn) (first cap:Array Value) (w:World),(Instr.makeFunc fn first cap).run Tryz.prog w = .ok (.func fn first cap) w:=fun _ _ _ _=>rfl
 rw [deniedP] at hf ⊢;have hltR:=h.lt;have hltT:=h.ltb;have hal:Below w.heap.size w (w.alloc (.cells z7A 55)):=(Below.refl _ _).alloc (Nat.le_refl _) _;have QZ0:=heap_new w z7A 55;have hz':w.heap.size<(w.alloc (.cells z7A 55)).heap.size:=lt_of_heap QZ0;have con0:=took_at (h.next hal) ⟨#[110,111,116]⟩;clear h;rcases hi:isP ⟨#[110,111,116]⟩ ts with _ | _
 ·rw [hi,tookP_f hi] at con0;simp only [hi,Bool.false_eq_true,if_false] at hf ⊢;generalize hMM:comparedP n o ts=M at *;go_enter Tryz.func233,Tryz.ntmps233;go_wp2_with fail
  generalize w.alloc (.cells z7A 55)=w1 at *;refine con0.mono ?_;rintro e w3 ⟨rfl,h3,hb3⟩;have con:=hc w3 R tb ts h3 (by rw [hMM]; exact hf);have hz3:=hb3.size;rw [hMM] at con;have QZ3:=(hb3.2 _ (lt_of_heap QZ0) (by omega)).trans QZ0;clear hd hc hf hMM h3 con0;go_wp2_with fail
  refine con.mono ?_;rintro e w2 ⟨hb2,hW⟩;have QZ:=(hb2.2 _ (lt_of_heap QZ3) (by omega)).trans QZ3;clear con;rcases M with c | ⟨x,rs⟩
  ·obtain ⟨rfl,us,hE⟩:=hW;have HE:Hid (RdAt w2 R tb us o):=hE;clear hE;go_wp2_with fail
   exact ⟨rfl,Ends.err rfl (((BelowX.of hal (by omega)).trans hb3).trans hb2) HE.out⟩
  ·obtain ⟨v,rfl,⟨a,cap,rfl,hks⟩,hRW⟩:=hW;obtain ⟨z0,z1,z2,z3,z4,z5,z6⟩:=cells7 QZ;obtain ⟨y0,y1,y2,y3,y4,y5,y6⟩:=froz7 QZ;have HRW:Hid (RdAt w2 R tb rs o):=hRW;have HKW:Hid (SsAt _ w2 a x.ks):=hks;clear hRW hks;go_wp2_with fail
   obtain ⟨QE,hRE,hKE,hbE⟩:=st7_all (w:=w) (cap:=cap) QZ HRW.out HKW.out (((BelowX.of hal (by omega)).trans hb3).trans hb2) (by omega) (by omega) hltR hltT;generalize (((((((w2.setCell ⟨w.heap.size,0,none⟩ (.int .i64 x.k)).setCell ⟨w.heap.size,1,none⟩ (.int .i64 x.v.1)).setCell ⟨w.heap.size,2,none⟩ (.int .i64 x.v.2.1)).setCell ⟨w.heap.size,3,none⟩ (.string x.v.2.2)).setCell ⟨w.heap.size,4,none⟩ (.string x.tab)).setCell ⟨w.heap.size,5,none⟩ (.string x.name)).setCell ⟨w.heap.size,6,none⟩ (.slice a x.ks.length cap))=wE at *;obtain ⟨x0,x1,x2,x3,x4,x5,x6⟩:=cells7 QE
   exact bodyPost_ret (v:=.agg (sxA x a cap)) (by simp [results,Tryz.results233,go_sem,x0,x1,x2,x3,x4,x5,x6]) rfl (Ends.good rfl hbE ⟨a,cap,rfl,hKE.mono (by omega)⟩ hRE)
 ·rw [hi,tookP_t hi] at con0;simp only [hi,if_true] at hf ⊢;generalize hMM:(if o+1 > 100 then Except.error (4,atP (passP ts)) else deniedP n (o+1) (passP ts):PR SX)=M;have hne:o+1≤100→deniedP n (o+1) (passP ts)≠fuelE:=fun h100 hc=>hf (by rw [if_neg (by omega),hc]; rfl)
  clear hf hc;go_enter Tryz.func233,Tryz.ntmps233;go_wp2_with fail
  generalize w.alloc (.cells z7A 55)=w1 at *;refine con0.mono ?_;rintro e w3 ⟨rfl,h3,hb3⟩;have con:=within_d h3 ho (deniedP n (o+1) (passP ts)) (fun h100 W hbW hRW=>hd h100 W R tb _ hRW (hne h100));have hz3:=hb3.size;rw [hMM] at con;have QZ3:=(hb3.2 _ (lt_of_heap QZ0) (by omega)).trans QZ0;clear hd hMM h3 con0 hne;go_wp2_with fail
  refine con.mono ?_;rintro e w2 ⟨hb2,hW⟩;have hz2:=hb2.size;have QZ2:=(hb2.2 _ (lt_of_heap QZ3) (by omega)).trans QZ3;clear con;rcases M with c | ⟨x,rs⟩
  ·obtain ⟨rfl,us,hE⟩:=hW;have HE:Hid (RdAt w2 R tb us o):=hE;clear hE;go_wp2_with fail
   exact ⟨rfl,Ends.err rfl (((BelowX.of hal (by omega)).trans hb3).trans hb2) HE.out⟩
  ·obtain ⟨v,rfl,⟨a,c,rfl,hks⟩,hRW⟩:=hW;have HRW:Hid (RdAt w2 R tb rs o):=hRW;have HKW:Hid (SsAt _ w2 a x.ks):=hks;clear hRW hks;have hal4:Below w2.heap.size w2 (w2.alloc (.cells #[.int .i64 x.k,.int .i64 x.v.1,.int .i64 x.v.2.1,.string x.v.2.2,.string x.tab,.string x.name,.slice a x.ks.length c] 55)):=(Below.refl _ _).alloc (Nat.le_refl _) _;have K4:Hid (SsAt w3.heap.size (w2.alloc (.cells #[.int .i64 x.k,.int .i64 x.v.1,.int .i64 x.v.2.1,.string x.v.2.2,.string x.tab,.string x.name,.slice a x.ks.length c] 55)) (some ⟨w2.heap.size,0,none⟩) [x]):=SsS.one _ HKW.out (by show _≤_; omega)
   have con4:=node_at 3 (some ⟨w2.heap.size,0,none⟩) 1 1 (w2.alloc (.cells #[.int .i64 x.k,.int .i64 x.v.1,.int .i64 x.v.2.1,.string x.v.2.2,.string x.tab,.string x.name,.slice a x.ks.length c] 55));go_wp2_with fail
   generalize w2.alloc (.cells #[.int .i64 x.k,.int .i64 x.v.1,.int .i64 x.v.2.1,.string x.v.2.2,.string x.tab,.string x.name,.slice a x.ks.length c] 55)=w4 at *;refine con4.mono ?_;rintro e w5 ⟨rfl,hb5⟩;have hb25:=chain hal4 hb5;have QZ5:=(hb25.block _ (lt_of_heap QZ2)).trans QZ2;obtain ⟨z0,z1,z2,z3,z4,z5,z6⟩:=cells7 QZ5;obtain ⟨y0,y1,y2,y3,y4,y5,y6⟩:=froz7 QZ5;have K5:=SsAt.next hb5 K4.out;have hx5:BelowX R w w5:=(((BelowX.of hal (by omega)).trans hb3).trans hb2).trans (.of hb25 (by omega));have HR5:Hid (RdAt w5 R tb rs o):=HRW.out.next hb25;clear con4;go_wp2_with fail
   obtain ⟨QE,hRE,hKE,hbE⟩:=st7_all (w:=w) (x:=nd 3 [x]) (a:=some ⟨w2.heap.size,0,none⟩) (cap:=1) QZ5 HR5.out K5 hx5 (by omega) (by omega) hltR hltT;change (((((((w5.setCell ⟨w.heap.size,0,none⟩ (.int .i64 3)).setCell ⟨w.heap.size,1,none⟩ (.int .i64 0)).setCell ⟨w.heap.size,2,none⟩ (.int .i64 0)).setCell ⟨w.heap.size,3,none⟩ (.string ⟨#[]⟩)).setCell ⟨w.heap.size,4,none⟩ (.string ⟨#[]⟩)).setCell ⟨w.heap.size,5,none⟩ (.string ⟨#[]⟩)).setCell ⟨w.heap.size,6,none⟩ (.slice (some ⟨w2.heap.size,0,none⟩) 1 1)).heap[w.heap.size]? = _ at QE
   change RdAt (((((((w5.setCell ⟨w.heap.size,0,none⟩ (.int .i64 3)).setCell ⟨w.heap.size,1,none⟩ (.int .i64 0)).setCell ⟨w.heap.size,2,none⟩ (.int .i64 0)).setCell ⟨w.heap.size,3,none⟩ (.string ⟨#[]⟩)).setCell ⟨w.heap.size,4,none⟩ (.string ⟨#[]⟩)).setCell ⟨w.heap.size,5,none⟩ (.string ⟨#[]⟩)).setCell ⟨w.heap.size,6,none⟩ (.slice (some ⟨w2.heap.size,0,none⟩) 1 1)) R tb rs o at hRE
   change SsAt _ (((((((w5.setCell ⟨w.heap.size,0,none⟩ (.int .i64 3)).setCell ⟨w.heap.size,1,none⟩ (.int .i64 0)).setCell ⟨w.heap.size,2,none⟩ (.int .i64 0)).setCell ⟨w.heap.size,3,none⟩ (.string ⟨#[]⟩)).setCell ⟨w.heap.size,4,none⟩ (.string ⟨#[]⟩)).setCell ⟨w.heap.size,5,none⟩ (.string ⟨#[]⟩)).setCell ⟨w.heap.size,6,none⟩ (.slice (some ⟨w2.heap.size,0,none⟩) 1 1)) _ _ at hKE
   change BelowX R w (((((((w5.setCell ⟨w.heap.size,0,none⟩ (.int .i64 3)).setCell ⟨w.heap.size,1,none⟩ (.int .i64 0)).setCell ⟨w.heap.size,2,none⟩ (.int .i64 0)).setCell ⟨w.heap.size,3,none⟩ (.string ⟨#[]⟩)).setCell ⟨w.heap.size,4,none⟩ (.string ⟨#[]⟩)).setCell ⟨w.heap.size,5,none⟩ (.string ⟨#[]⟩)).setCell ⟨w.heap.size,6,none⟩ (.slice (some ⟨w2.heap.size,0,none⟩) 1 1)) at hbE
   generalize (((((((w5.setCell ⟨w.heap.size,0,none⟩ (.int .i64 3)).setCell ⟨w.heap.size,1,none⟩ (.int .i64 0)).setCell ⟨w.heap.size,2,none⟩ (.int .i64 0)).setCell ⟨w.heap.size,3,none⟩ (.string ⟨#[]⟩)).setCell ⟨w.heap.size,4,none⟩ (.string ⟨#[]⟩)).setCell ⟨w.heap.size,5,none⟩ (.string ⟨#[]⟩)).setCell ⟨w.heap.size,6,none⟩ (.slice (some ⟨w2.heap.size,0,none⟩) 1 1))=wE at *;obtain ⟨x0,x1,x2,x3,x4,x5,x6⟩:=cells7 QE
   exact bodyPost_ret (v:=.agg (sxA (nd 3 [x]) (some ⟨w2.heap.size,0,none⟩) 1)) (by simp [results,Tryz.results233,go_sem,x0,x1,x2,x3,x4,x5,x6]) rfl (Ends.good rfl hbE ⟨_,1,rfl,hKE.mono (by omega)⟩ hRE)
set_option maxHeartbeats 8000000

def SN (B g:Nat) (b:Nat):Prop:=B≤b∧b≠g∧b≠g+1
theorem isNull_at {w:World} {R tb:Nat} {ts:List Tk} {o:Int} {x:SX} {a:Option Addr} {c B:Nat} (h:RdAt w R tb ts o) (hx:SsAt B w a x.ks) (hB:B≤w.heap.size) (hRB:R<B):Calls Tryz.prog 253 #[.pointer (some ⟨R,0,none⟩),.agg (sxA x a c)] w (Ends R tb o w (VX B) (isNullP x ts)):=by
 have hltR:=h.lt;have hltT:=h.ltb;have hA:Below w.heap.size w ((w.alloc (.cells (sxA x a c) 55)).alloc (.cells z7A 55)):=((Below.refl _ _).alloc (Nat.le_refl _) _).alloc (by simp) _;have QB0:((w.alloc (.cells (sxA x a c) 55)).alloc (.cells z7A 55)).heap[w.heap.size]? = some (.cells (sxA x a c) 55 (0,0)):=(((Below.refl _ _).alloc (Nat.le_refl _) _).block _ (by simp)).trans (heap_new w _ _);have QZ0:((w.alloc (.cells (sxA x a c) 55)).alloc (.cells z7A 55)).heap[w.heap.size+1]? = some (.cells z7A 55 (0,0)):=by
  rw [show w.heap.size+1=(w.alloc (.cells (sxA x a c) 55)).heap.size by simp];exact heap_new _ _ _
 have con:=took_at (h.next hA) ⟨#[110,111,116]⟩;have HX:Hid (SsS (SN B w.heap.size) ((w.alloc (.cells (sxA x a c) 55)).alloc (.cells z7A 55)) a x.ks):=SsS.next hA (SsS.mono (fun b h1 h2=>⟨h1,by omega,by omega⟩) hx);have hSR:¬ SN B w.heap.size R:=fun h=>by have:=h.1; omega
 have hz0:=lt_of_heap QZ0;generalize hM:isNullP x ts=M;have HM:Hid (bnd (mustP [⟨#[110,117,108,108]⟩] (tookP ⟨#[110,111,116]⟩ ts)) (fun _ r=>.ok (if isP ⟨#[110,111,116]⟩ ts then nd 3 [nd 16 [x]] else nd 16 [x],r))=M):=hM;clear h hx hM;generalize hdn:isP ⟨#[110,111,116]⟩ ts=dn at *;go_enter Tryz.func253,Tryz.ntmps253;go_wp2_with fail
 generalize (w.alloc (.cells (sxA x a c) 55)).alloc (.cells z7A 55)=w1 at *;refine con.mono ?_;rintro e w2 ⟨rfl,h2,hb2⟩;have hal3:Below w2.heap.size w2 (w2.alloc (.cells #[.string ⟨#[110,117,108,108]⟩] 9)):=(Below.refl _ _).alloc (Nat.le_refl _) _;have con2:=must_at (cap:=1) (h2.next hal3) (StrAt.one w2 ⟨#[110,117,108,108]⟩ 9) (by have:=h2.lt; omega) (by simp);have hx2:BelowX R w w2:=(BelowX.of hA (by omega)).trans hb2;have HX2:=SsS.k1 hb2.k1 hSR HX.out;have QB2:=(hb2.2 _ (lt_of_heap QB0) (by omega)).trans QB0;have QZ2:=(hb2.2 _ (lt_of_heap QZ0) (by omega)).trans QZ0
 have HX2':Hid (SsS (SN B w.heap.size) w2 a x.ks):=HX2;have hz2:=lt_of_heap QZ2;clear con h2 HX2 HX QB0 QZ0;generalize mustP [⟨#[110,117,108,108]⟩] (tookP ⟨#[110,111,116]⟩ ts)=mu at *;go_wp2_with fail
 generalize w2.alloc (.cells #[.string ⟨#[110,117,108,108]⟩] 9)=w3 at *;refine con2.mono ?_;rintro e w4 ⟨hb4,h4⟩;have hx24:BelowX R w2 w4:=(BelowX.of hal3 (by omega)).trans hb4;have hx4:BelowX R w w4:=hx2.trans hx24;clear con2;rcases mu with c1 | ⟨u,rs⟩
 ·obtain ⟨rfl,us,hE⟩:=h4;have HE:Hid (RdAt w4 R tb us o):=hE;clear hE;have e:M = .error c1:=HM.out.symm;subst e;clear HM;go_wp2_with fail
  exact ⟨rfl,Ends.err rfl hx4 HE.out⟩
 obtain ⟨v,rfl,rfl,hR4⟩:=h4;have HR4:Hid (RdAt w4 R tb rs o):=hR4;clear hR4;cases dn
 case false =>
  have e:M = .ok (nd 16 [x],rs):=HM.out.symm;subst e;clear HM;have QB4:=(hx24.2 _ (lt_of_heap QB2) (by omega)).trans QB2;have QZ4:=(hx24.2 _ (lt_of_heap QZ2) (by omega)).trans QZ2;have HX4:Hid (SsS (SN B w.heap.size) w4 a x.ks):=SsS.k1 hx24.k1 hSR HX2'.out;obtain ⟨b0,b1,b2,b3,b4,b5,b6⟩:=cells7 QB4;have hz4:=lt_of_heap QZ4;have hal5:Below w4.heap.size w4 (w4.alloc (.cells #[.int .i64 x.k,.int .i64 x.v.1,.int .i64 x.v.2.1,.string x.v.2.2,.string x.tab,.string x.name,.slice a x.ks.length c] 55)):=(Below.refl _ _).alloc (Nat.le_refl _) _
  have K5:Hid (SsS (SN B w.heap.size) (w4.alloc (.cells #[.int .i64 x.k,.int .i64 x.v.1,.int .i64 x.v.2.1,.string x.v.2.2,.string x.tab,.string x.name,.slice a x.ks.length c] 55)) (some ⟨w4.heap.size,0,none⟩) [x]):=SsS.one _ HX4.out ⟨by omega,by omega,by omega⟩;have con5:=node_at 16 (some ⟨w4.heap.size,0,none⟩) 1 1 (w4.alloc (.cells #[.int .i64 x.k,.int .i64 x.v.1,.int .i64 x.v.2.1,.string x.v.2.2,.string x.tab,.string x.name,.slice a x.ks.length c] 55));clear QB2 QZ2 HX2';go_wp2_with fail
  generalize w4.alloc (.cells #[.int .i64 x.k,.int .i64 x.v.1,.int .i64 x.v.2.1,.string x.v.2.2,.string x.tab,.string x.name,.slice a x.ks.length c] 55)=w5 at *;refine con5.mono ?_;rintro e w6 ⟨rfl,hb6⟩;have hb46:=chain hal5 hb6;have QB6:=(hb46.block _ (lt_of_heap QB4)).trans QB4;have QZ6:=(hb46.block _ (lt_of_heap QZ4)).trans QZ4;have K6:=SsS.next hb6 K5.out;have hx6:BelowX R w w6:=hx4.trans (.of hb46 (by omega));have hR6:=HR4.out.next hb46;clear con5 b0 b1 b2 b3 b4 b5 b6;obtain ⟨b0,b1,b2,b3,b4,b5,b6⟩:=cells7 QB6;obtain ⟨f0,f1,f2,f3,f4,f5,f6⟩:=froz7 QB6;have QZ6':=QZ6
  have K6':Hid (SsS (SN B w.heap.size) w6 (some ⟨w4.heap.size,0,none⟩) [x]):=K6;have H6:Hid (RdAt w6 R tb rs o):=hR6;have hz6:=lt_of_heap QZ6;clear K6 hR6 QB4 QZ4 K5 HX4;go_upto_region 4 with fail
  obtain ⟨QE,hRE,hKE,hbE,hk1⟩:=st7_allS (w:=w) (x:=nd 16 [x]) (a:=some ⟨w4.heap.size,0,none⟩) (cap:=1) QB6 H6.out K6'.out hx6 (by omega) (fun h=>h.2.1 rfl) hltR hltT
  change (((((((w6.setCell ⟨w.heap.size,0,none⟩ (.int .i64 16)).setCell ⟨w.heap.size,1,none⟩ (.int .i64 0)).setCell ⟨w.heap.size,2,none⟩ (.int .i64 0)).setCell ⟨w.heap.size,3,none⟩ (.string ⟨#[]⟩)).setCell ⟨w.heap.size,4,none⟩ (.string ⟨#[]⟩)).setCell ⟨w.heap.size,5,none⟩ (.string ⟨#[]⟩)).setCell ⟨w.heap.size,6,none⟩ (.slice (some ⟨w4.heap.size,0,none⟩) 1 1)).heap[w.heap.size]? = some (.cells #[.int .i64 16,.int .i64 0,.int .i64 0,.string ⟨#[]⟩,.string ⟨#[]⟩,.string ⟨#[]⟩,.slice (some ⟨w4.heap.size,0,none⟩) 1 1] 55 (0,0)) at QE
  change RdAt (((((((w6.setCell ⟨w.heap.size,0,none⟩ (.int .i64 16)).setCell ⟨w.heap.size,1,none⟩ (.int .i64 0)).setCell ⟨w.heap.size,2,none⟩ (.int .i64 0)).setCell ⟨w.heap.size,3,none⟩ (.string ⟨#[]⟩)).setCell ⟨w.heap.size,4,none⟩ (.string ⟨#[]⟩)).setCell ⟨w.heap.size,5,none⟩ (.string ⟨#[]⟩)).setCell ⟨w.heap.size,6,none⟩ (.slice (some ⟨w4.heap.size,0,none⟩) 1 1)) R tb rs o at hRE
  change SsS _ (((((((w6.setCell ⟨w.heap.size,0,none⟩ (.int .i64 16)).setCell ⟨w.heap.size,1,none⟩ (.int .i64 0)).setCell ⟨w.heap.size,2,none⟩ (.int .i64 0)).setCell ⟨w.heap.size,3,none⟩ (.string ⟨#[]⟩)).setCell ⟨w.heap.size,4,none⟩ (.string ⟨#[]⟩)).setCell ⟨w.heap.size,5,none⟩ (.string ⟨#[]⟩)).setCell ⟨w.heap.size,6,none⟩ (.slice (some ⟨w4.heap.size,0,none⟩) 1 1)) _ _ at hKE
  change BelowX R w (((((((w6.setCell ⟨w.heap.size,0,none⟩ (.int .i64 16)).setCell ⟨w.heap.size,1,none⟩ (.int .i64 0)).setCell ⟨w.heap.size,2,none⟩ (.int .i64 0)).setCell ⟨w.heap.size,3,none⟩ (.string ⟨#[]⟩)).setCell ⟨w.heap.size,4,none⟩ (.string ⟨#[]⟩)).setCell ⟨w.heap.size,5,none⟩ (.string ⟨#[]⟩)).setCell ⟨w.heap.size,6,none⟩ (.slice (some ⟨w4.heap.size,0,none⟩) 1 1)) at hbE
  change Keeps1 _ w6 (((((((w6.setCell ⟨w.heap.size,0,none⟩ (.int .i64 16)).setCell ⟨w.heap.size,1,none⟩ (.int .i64 0)).setCell ⟨w.heap.size,2,none⟩ (.int .i64 0)).setCell ⟨w.heap.size,3,none⟩ (.string ⟨#[]⟩)).setCell ⟨w.heap.size,4,none⟩ (.string ⟨#[]⟩)).setCell ⟨w.heap.size,5,none⟩ (.string ⟨#[]⟩)).setCell ⟨w.heap.size,6,none⟩ (.slice (some ⟨w4.heap.size,0,none⟩) 1 1)) at hk1
  generalize (((((((w6.setCell ⟨w.heap.size,0,none⟩ (.int .i64 16)).setCell ⟨w.heap.size,1,none⟩ (.int .i64 0)).setCell ⟨w.heap.size,2,none⟩ (.int .i64 0)).setCell ⟨w.heap.size,3,none⟩ (.string ⟨#[]⟩)).setCell ⟨w.heap.size,4,none⟩ (.string ⟨#[]⟩)).setCell ⟨w.heap.size,5,none⟩ (.string ⟨#[]⟩)).setCell ⟨w.heap.size,6,none⟩ (.slice (some ⟨w4.heap.size,0,none⟩) 1 1))=w7 at *;have QZ7:=(hk1.2 _ (lt_of_heap QZ6) (by omega)).trans QZ6;clear b0 b1 b2 b3 b4 b5 b6 f0 f1 f2 f3 f4 f5 f6 QZ6 QZ6' QB6 hk1;obtain ⟨b0,b1,b2,b3,b4,b5,b6⟩:=cells7 QE;have HR7:Hid (RdAt w7 R tb rs o):=hRE
  have HK7:Hid (SsS (SN B w.heap.size) w7 (some ⟨w4.heap.size,0,none⟩) [x]):=hKE;have hz7:=lt_of_heap QZ7;clear hRE hKE;obtain ⟨z0,z1,z2,z3,z4,z5,z6⟩:=cells7 QZ7;obtain ⟨y0,y1,y2,y3,y4,y5,y6⟩:=froz7 QZ7;go_wp2_with fail
  obtain ⟨QF,hRF,hKF,hbF,_⟩:=st7_allS (w:=w) (x:=nd 16 [x]) (a:=some ⟨w4.heap.size,0,none⟩) (cap:=1) QZ7 HR7.out HK7.out hbE (by omega) (fun h=>h.2.2 rfl) hltR hltT;change (((((((w7.setCell ⟨w.heap.size+1,0,none⟩ (.int .i64 16)).setCell ⟨w.heap.size+1,1,none⟩ (.int .i64 0)).setCell ⟨w.heap.size+1,2,none⟩ (.int .i64 0)).setCell ⟨w.heap.size+1,3,none⟩ (.string ⟨#[]⟩)).setCell ⟨w.heap.size+1,4,none⟩ (.string ⟨#[]⟩)).setCell ⟨w.heap.size+1,5,none⟩ (.string ⟨#[]⟩)).setCell ⟨w.heap.size+1,6,none⟩ (.slice (some ⟨w4.heap.size,0,none⟩) 1 1)).heap[w.heap.size+1]? = _ at QF
  change RdAt (((((((w7.setCell ⟨w.heap.size+1,0,none⟩ (.int .i64 16)).setCell ⟨w.heap.size+1,1,none⟩ (.int .i64 0)).setCell ⟨w.heap.size+1,2,none⟩ (.int .i64 0)).setCell ⟨w.heap.size+1,3,none⟩ (.string ⟨#[]⟩)).setCell ⟨w.heap.size+1,4,none⟩ (.string ⟨#[]⟩)).setCell ⟨w.heap.size+1,5,none⟩ (.string ⟨#[]⟩)).setCell ⟨w.heap.size+1,6,none⟩ (.slice (some ⟨w4.heap.size,0,none⟩) 1 1)) R tb rs o at hRF
  change SsS _ (((((((w7.setCell ⟨w.heap.size+1,0,none⟩ (.int .i64 16)).setCell ⟨w.heap.size+1,1,none⟩ (.int .i64 0)).setCell ⟨w.heap.size+1,2,none⟩ (.int .i64 0)).setCell ⟨w.heap.size+1,3,none⟩ (.string ⟨#[]⟩)).setCell ⟨w.heap.size+1,4,none⟩ (.string ⟨#[]⟩)).setCell ⟨w.heap.size+1,5,none⟩ (.string ⟨#[]⟩)).setCell ⟨w.heap.size+1,6,none⟩ (.slice (some ⟨w4.heap.size,0,none⟩) 1 1)) _ _ at hKF
  change BelowX R w (((((((w7.setCell ⟨w.heap.size+1,0,none⟩ (.int .i64 16)).setCell ⟨w.heap.size+1,1,none⟩ (.int .i64 0)).setCell ⟨w.heap.size+1,2,none⟩ (.int .i64 0)).setCell ⟨w.heap.size+1,3,none⟩ (.string ⟨#[]⟩)).setCell ⟨w.heap.size+1,4,none⟩ (.string ⟨#[]⟩)).setCell ⟨w.heap.size+1,5,none⟩ (.string ⟨#[]⟩)).setCell ⟨w.heap.size+1,6,none⟩ (.slice (some ⟨w4.heap.size,0,none⟩) 1 1)) at hbF
  generalize (((((((w7.setCell ⟨w.heap.size+1,0,none⟩ (.int .i64 16)).setCell ⟨w.heap.size+1,1,none⟩ (.int .i64 0)).setCell ⟨w.heap.size+1,2,none⟩ (.int .i64 0)).setCell ⟨w.heap.size+1,3,none⟩ (.string ⟨#[]⟩)).setCell ⟨w.heap.size+1,4,none⟩ (.string ⟨#[]⟩)).setCell ⟨w.heap.size+1,5,none⟩ (.string ⟨#[]⟩)).setCell ⟨w.heap.size+1,6,none⟩ (.slice (some ⟨w4.heap.size,0,none⟩) 1 1))=wE at *;obtain ⟨x0,x1,x2,x3,x4,x5,x6⟩:=cells7 QF
  exact bodyPost_ret (v:=.agg (sxA (nd 16 [x]) (some ⟨w4.heap.size,0,none⟩) 1)) (by simp [results,Tryz.results253,go_sem,x0,x1,x2,x3,x4,x5,x6]) rfl (Ends.good rfl hbF ⟨_,1,rfl,SsS.mono (fun b h _=>h.1) hKF⟩ hRF)
 case true =>
  have e:M = .ok (nd 3 [nd 16 [x]],rs):=HM.out.symm;subst e;clear HM;have QB4:=(hx24.2 _ (lt_of_heap QB2) (by omega)).trans QB2;have QZ4:=(hx24.2 _ (lt_of_heap QZ2) (by omega)).trans QZ2;have HX4:Hid (SsS (SN B w.heap.size) w4 a x.ks):=SsS.k1 hx24.k1 hSR HX2'.out;obtain ⟨b0,b1,b2,b3,b4,b5,b6⟩:=cells7 QB4;have hz4:=lt_of_heap QZ4;have hal5:Below w4.heap.size w4 (w4.alloc (.cells #[.int .i64 x.k,.int .i64 x.v.1,.int .i64 x.v.2.1,.string x.v.2.2,.string x.tab,.string x.name,.slice a x.ks.length c] 55)):=(Below.refl _ _).alloc (Nat.le_refl _) _
  have K5:Hid (SsS (SN B w.heap.size) (w4.alloc (.cells #[.int .i64 x.k,.int .i64 x.v.1,.int .i64 x.v.2.1,.string x.v.2.2,.string x.tab,.string x.name,.slice a x.ks.length c] 55)) (some ⟨w4.heap.size,0,none⟩) [x]):=SsS.one _ HX4.out ⟨by omega,by omega,by omega⟩;have con5:=node_at 16 (some ⟨w4.heap.size,0,none⟩) 1 1 (w4.alloc (.cells #[.int .i64 x.k,.int .i64 x.v.1,.int .i64 x.v.2.1,.string x.v.2.2,.string x.tab,.string x.name,.slice a x.ks.length c] 55));clear QB2 QZ2 HX2';go_wp2_with fail
  generalize w4.alloc (.cells #[.int .i64 x.k,.int .i64 x.v.1,.int .i64 x.v.2.1,.string x.v.2.2,.string x.tab,.string x.name,.slice a x.ks.length c] 55)=w5 at *;refine con5.mono ?_;rintro e w6 ⟨rfl,hb6⟩;have hb46:=chain hal5 hb6;have QB6:=(hb46.block _ (lt_of_heap QB4)).trans QB4;have QZ6:=(hb46.block _ (lt_of_heap QZ4)).trans QZ4;have K6:=SsS.next hb6 K5.out;have hx6:BelowX R w w6:=hx4.trans (.of hb46 (by omega));have hR6:=HR4.out.next hb46;clear con5 b0 b1 b2 b3 b4 b5 b6;obtain ⟨b0,b1,b2,b3,b4,b5,b6⟩:=cells7 QB6;obtain ⟨f0,f1,f2,f3,f4,f5,f6⟩:=froz7 QB6;have QZ6':=QZ6
  have K6':Hid (SsS (SN B w.heap.size) w6 (some ⟨w4.heap.size,0,none⟩) [x]):=K6;have H6:Hid (RdAt w6 R tb rs o):=hR6;have hz6:=lt_of_heap QZ6;clear K6 hR6 QB4 QZ4 K5 HX4;go_upto_region 4 with fail
  obtain ⟨QE,hRE,hKE,hbE,hk1⟩:=st7_allS (w:=w) (x:=nd 16 [x]) (a:=some ⟨w4.heap.size,0,none⟩) (cap:=1) QB6 H6.out K6'.out hx6 (by omega) (fun h=>h.2.1 rfl) hltR hltT
  change (((((((w6.setCell ⟨w.heap.size,0,none⟩ (.int .i64 16)).setCell ⟨w.heap.size,1,none⟩ (.int .i64 0)).setCell ⟨w.heap.size,2,none⟩ (.int .i64 0)).setCell ⟨w.heap.size,3,none⟩ (.string ⟨#[]⟩)).setCell ⟨w.heap.size,4,none⟩ (.string ⟨#[]⟩)).setCell ⟨w.heap.size,5,none⟩ (.string ⟨#[]⟩)).setCell ⟨w.heap.size,6,none⟩ (.slice (some ⟨w4.heap.size,0,none⟩) 1 1)).heap[w.heap.size]? = some (.cells #[.int .i64 16,.int .i64 0,.int .i64 0,.string ⟨#[]⟩,.string ⟨#[]⟩,.string ⟨#[]⟩,.slice (some ⟨w4.heap.size,0,none⟩) 1 1] 55 (0,0)) at QE
  change RdAt (((((((w6.setCell ⟨w.heap.size,0,none⟩ (.int .i64 16)).setCell ⟨w.heap.size,1,none⟩ (.int .i64 0)).setCell ⟨w.heap.size,2,none⟩ (.int .i64 0)).setCell ⟨w.heap.size,3,none⟩ (.string ⟨#[]⟩)).setCell ⟨w.heap.size,4,none⟩ (.string ⟨#[]⟩)).setCell ⟨w.heap.size,5,none⟩ (.string ⟨#[]⟩)).setCell ⟨w.heap.size,6,none⟩ (.slice (some ⟨w4.heap.size,0,none⟩) 1 1)) R tb rs o at hRE
  change SsS _ (((((((w6.setCell ⟨w.heap.size,0,none⟩ (.int .i64 16)).setCell ⟨w.heap.size,1,none⟩ (.int .i64 0)).setCell ⟨w.heap.size,2,none⟩ (.int .i64 0)).setCell ⟨w.heap.size,3,none⟩ (.string ⟨#[]⟩)).setCell ⟨w.heap.size,4,none⟩ (.string ⟨#[]⟩)).setCell ⟨w.heap.size,5,none⟩ (.string ⟨#[]⟩)).setCell ⟨w.heap.size,6,none⟩ (.slice (some ⟨w4.heap.size,0,none⟩) 1 1)) _ _ at hKE
  change BelowX R w (((((((w6.setCell ⟨w.heap.size,0,none⟩ (.int .i64 16)).setCell ⟨w.heap.size,1,none⟩ (.int .i64 0)).setCell ⟨w.heap.size,2,none⟩ (.int .i64 0)).setCell ⟨w.heap.size,3,none⟩ (.string ⟨#[]⟩)).setCell ⟨w.heap.size,4,none⟩ (.string ⟨#[]⟩)).setCell ⟨w.heap.size,5,none⟩ (.string ⟨#[]⟩)).setCell ⟨w.heap.size,6,none⟩ (.slice (some ⟨w4.heap.size,0,none⟩) 1 1)) at hbE
  change Keeps1 _ w6 (((((((w6.setCell ⟨w.heap.size,0,none⟩ (.int .i64 16)).setCell ⟨w.heap.size,1,none⟩ (.int .i64 0)).setCell ⟨w.heap.size,2,none⟩ (.int .i64 0)).setCell ⟨w.heap.size,3,none⟩ (.string ⟨#[]⟩)).setCell ⟨w.heap.size,4,none⟩ (.string ⟨#[]⟩)).setCell ⟨w.heap.size,5,none⟩ (.string ⟨#[]⟩)).setCell ⟨w.heap.size,6,none⟩ (.slice (some ⟨w4.heap.size,0,none⟩) 1 1)) at hk1
  generalize (((((((w6.setCell ⟨w.heap.size,0,none⟩ (.int .i64 16)).setCell ⟨w.heap.size,1,none⟩ (.int .i64 0)).setCell ⟨w.heap.size,2,none⟩ (.int .i64 0)).setCell ⟨w.heap.size,3,none⟩ (.string ⟨#[]⟩)).setCell ⟨w.heap.size,4,none⟩ (.string ⟨#[]⟩)).setCell ⟨w.heap.size,5,none⟩ (.string ⟨#[]⟩)).setCell ⟨w.heap.size,6,none⟩ (.slice (some ⟨w4.heap.size,0,none⟩) 1 1))=w7 at *;have QZ7:=(hk1.2 _ (lt_of_heap QZ6) (by omega)).trans QZ6;clear b0 b1 b2 b3 b4 b5 b6 f0 f1 f2 f3 f4 f5 f6 QZ6 QZ6' QB6 hk1;obtain ⟨b0,b1,b2,b3,b4,b5,b6⟩:=cells7 QE;have HR7:Hid (RdAt w7 R tb rs o):=hRE
  have HK7:Hid (SsS (SN B w.heap.size) w7 (some ⟨w4.heap.size,0,none⟩) [x]):=hKE;have hz7:=lt_of_heap QZ7;clear hRE hKE;have hal8:Below w7.heap.size w7 (w7.alloc (.cells #[.int .i64 16,.int .i64 0,.int .i64 0,.string ⟨#[]⟩,.string ⟨#[]⟩,.string ⟨#[]⟩,.slice (some ⟨w4.heap.size,0,none⟩) 1 1] 55)):=(Below.refl _ _).alloc (Nat.le_refl _) _
  have K8:Hid (SsS (SN B w.heap.size) (w7.alloc (.cells #[.int .i64 16,.int .i64 0,.int .i64 0,.string ⟨#[]⟩,.string ⟨#[]⟩,.string ⟨#[]⟩,.slice (some ⟨w4.heap.size,0,none⟩) 1 1] 55)) (some ⟨w7.heap.size,0,none⟩) [nd 16 [x]]):=SsS.one (x:=nd 16 [x]) (c:=1) _ HK7.out ⟨by omega,by omega,by omega⟩;have con8:=node_at 3 (some ⟨w7.heap.size,0,none⟩) 1 1 (w7.alloc (.cells #[.int .i64 16,.int .i64 0,.int .i64 0,.string ⟨#[]⟩,.string ⟨#[]⟩,.string ⟨#[]⟩,.slice (some ⟨w4.heap.size,0,none⟩) 1 1] 55));go_wp2_with fail
  generalize w7.alloc (.cells #[.int .i64 16,.int .i64 0,.int .i64 0,.string ⟨#[]⟩,.string ⟨#[]⟩,.string ⟨#[]⟩,.slice (some ⟨w4.heap.size,0,none⟩) 1 1] 55)=w8 at *;refine con8.mono ?_;rintro e w9 ⟨rfl,hb9⟩;have hb79:=chain hal8 hb9;have QZ9:=(hb79.block _ (lt_of_heap QZ7)).trans QZ7;obtain ⟨z0,z1,z2,z3,z4,z5,z6⟩:=cells7 QZ9;obtain ⟨y0,y1,y2,y3,y4,y5,y6⟩:=froz7 QZ9;have K9:Hid (SsS (SN B w.heap.size) w9 (some ⟨w7.heap.size,0,none⟩) [nd 16 [x]]):=SsS.next hb9 K8.out;have hx9:BelowX R w w9:=hbE.trans (.of hb79 (by omega));have H9:Hid (RdAt w9 R tb rs o):=HR7.out.next hb79;clear con8
  go_wp2_with fail
  obtain ⟨QF,hRF,hKF,hbF,_⟩:=st7_allS (w:=w) (x:=nd 3 [nd 16 [x]]) (a:=some ⟨w7.heap.size,0,none⟩) (cap:=1) QZ9 H9.out K9.out hx9 (by omega) (fun h=>h.2.2 rfl) hltR hltT;change (((((((w9.setCell ⟨w.heap.size+1,0,none⟩ (.int .i64 3)).setCell ⟨w.heap.size+1,1,none⟩ (.int .i64 0)).setCell ⟨w.heap.size+1,2,none⟩ (.int .i64 0)).setCell ⟨w.heap.size+1,3,none⟩ (.string ⟨#[]⟩)).setCell ⟨w.heap.size+1,4,none⟩ (.string ⟨#[]⟩)).setCell ⟨w.heap.size+1,5,none⟩ (.string ⟨#[]⟩)).setCell ⟨w.heap.size+1,6,none⟩ (.slice (some ⟨w7.heap.size,0,none⟩) 1 1)).heap[w.heap.size+1]? = _ at QF
  change RdAt (((((((w9.setCell ⟨w.heap.size+1,0,none⟩ (.int .i64 3)).setCell ⟨w.heap.size+1,1,none⟩ (.int .i64 0)).setCell ⟨w.heap.size+1,2,none⟩ (.int .i64 0)).setCell ⟨w.heap.size+1,3,none⟩ (.string ⟨#[]⟩)).setCell ⟨w.heap.size+1,4,none⟩ (.string ⟨#[]⟩)).setCell ⟨w.heap.size+1,5,none⟩ (.string ⟨#[]⟩)).setCell ⟨w.heap.size+1,6,none⟩ (.slice (some ⟨w7.heap.size,0,none⟩) 1 1)) R tb rs o at hRF
  change SsS _ (((((((w9.setCell ⟨w.heap.size+1,0,none⟩ (.int .i64 3)).setCell ⟨w.heap.size+1,1,none⟩ (.int .i64 0)).setCell ⟨w.heap.size+1,2,none⟩ (.int .i64 0)).setCell ⟨w.heap.size+1,3,none⟩ (.string ⟨#[]⟩)).setCell ⟨w.heap.size+1,4,none⟩ (.string ⟨#[]⟩)).setCell ⟨w.heap.size+1,5,none⟩ (.string ⟨#[]⟩)).setCell ⟨w.heap.size+1,6,none⟩ (.slice (some ⟨w7.heap.size,0,none⟩) 1 1)) _ _ at hKF
  change BelowX R w (((((((w9.setCell ⟨w.heap.size+1,0,none⟩ (.int .i64 3)).setCell ⟨w.heap.size+1,1,none⟩ (.int .i64 0)).setCell ⟨w.heap.size+1,2,none⟩ (.int .i64 0)).setCell ⟨w.heap.size+1,3,none⟩ (.string ⟨#[]⟩)).setCell ⟨w.heap.size+1,4,none⟩ (.string ⟨#[]⟩)).setCell ⟨w.heap.size+1,5,none⟩ (.string ⟨#[]⟩)).setCell ⟨w.heap.size+1,6,none⟩ (.slice (some ⟨w7.heap.size,0,none⟩) 1 1)) at hbF
  generalize (((((((w9.setCell ⟨w.heap.size+1,0,none⟩ (.int .i64 3)).setCell ⟨w.heap.size+1,1,none⟩ (.int .i64 0)).setCell ⟨w.heap.size+1,2,none⟩ (.int .i64 0)).setCell ⟨w.heap.size+1,3,none⟩ (.string ⟨#[]⟩)).setCell ⟨w.heap.size+1,4,none⟩ (.string ⟨#[]⟩)).setCell ⟨w.heap.size+1,5,none⟩ (.string ⟨#[]⟩)).setCell ⟨w.heap.size+1,6,none⟩ (.slice (some ⟨w7.heap.size,0,none⟩) 1 1))=wE at *;obtain ⟨x0,x1,x2,x3,x4,x5,x6⟩:=cells7 QF
  exact bodyPost_ret (v:=.agg (sxA (nd 3 [nd 16 [x]]) (some ⟨w7.heap.size,0,none⟩) 1)) (by simp [results,Tryz.results253,go_sem,x0,x1,x2,x3,x4,x5,x6]) rfl (Ends.good rfl hbF ⟨_,1,rfl,SsS.mono (fun b h _=>h.1) hKF⟩ hRF)
end Go.Proofs.YtoknmnngaackkaaGreatDoor
namespace Go.Proofs.YtoknmnngaackkaaGreatDoor
open Go.RowKit

/-- The worlds in which all that lay in w lies as it did. -/
structure Past (w:World) where
 now:World
 ok:Below w.heap.size w now


theorem wp_region_past {P:Program} {id:Nat} {Q:Exit→Act→World→Prop} {a:Act} {w:World} {l:List Oper} (hm:P.follows .mixedOrders=true) (hB:Region.lexB .any l.toArray=true)
  (h:wpQuiet P l.toArray (fun w'=>∃ n:Past w,w'=n.now) (fun a'=>∀ w',(∃ n:Past w,w'=n.now)→Q .normal a' w') l a):(Code.region id l.toArray true).wp P Q a w :=
 wp_region_quiet (C:=fun w'=>∃ n:Past w,w'=n.now) hm hB ⟨⟨w.drew,(Below.refl _ _).drew⟩,rfl⟩ (by simpa using h)

theorem in_past {P:Program} {f:FuncId} {args:Array Value} {w:World} {n:Past w} {v:Value}
  (h:Calls P f args n.now fun e w'=>e = .returned v∧Below n.now.heap.size n.now w'):Calls P f args n.now fun e w''=>e = .returned v∧∃ m:Past w,w''=m.now :=
 h.mono fun _ w' ⟨he,hb⟩=>⟨he,⟨w',chain n.ok hb⟩,rfl⟩

section
variable {P:Program} {ops:Array Oper} {Q:Exit→Act→World→Prop} {md:Region.Mode} {C:World→Prop}

/-- In every world that has grown of the class the operation leaves v in its temporary, and a world that has grown out of that one. -/
def GrowsC (P:Program) (ops:Array Oper) (C:World→Prop) (o:Oper) (v:Value) (a:Act):Prop :=
 (Region.wanted o (yielded ops a.tmps)=true∧∀ n:World,C n→Oper.quietUpon P (fun w'=>Below n.heap.size n w') n v ((execOp a.eval o).run P n)) ∨
 (Region.wanted o (yielded ops a.tmps)=false∧v=undef)

theorem GrowsC.of_same {o:Oper} {v:Value} {a a':Act} (hy:GrowsC P ops C o v a) (he:execOp a'.eval o=execOp a.eval o)
  (hw:Region.wanted o (yielded ops a'.tmps)=Region.wanted o (yielded ops a.tmps)):GrowsC P ops C o v a':=by
 unfold GrowsC at *;rw [he,hw];exact hy
theorem GrowsC.wpOp {i:Nat} {o:Oper} {v:Value} {a:Act} (hi:ops[i]? = some o) (hy:GrowsC P ops C o v a)
  {K:Act→World→Prop} {w:World} (hB:C w) (h:∀ w',Below w.heap.size w w'→K (a.put o.dst v) w'):wpOp P ops Q i K a w:=by
 unfold Go.wpOp;simp only [hi];rcases hy with ⟨hw,hv⟩ | ⟨hw,rfl⟩
 ·simp only [hw,if_true];left;have h3:=hv w hB;unfold Oper.wp;generalize (execOp a.eval o).run P w=r at *;cases r with
  | ok n w' =>
   cases n <;> simp only [Oper.quietUpon] at h3 <;> simp only [Oper.upon]
   case value u =>
    obtain ⟨e1,e2⟩:=h3;rw [e1,e2];exact h _ (Below.refl _ _)
   case skip =>
    obtain ⟨e1,e2⟩:=h3;rw [e1,← e2];exact h _ (Below.refl _ _)
   case enter f args =>
    obtain ⟨e1,hc⟩:=h3;rw [e1];exact hc.mono fun e w'' ⟨he,hw''⟩=>by subst he; exact h _ hw''
  | halt x w'=>simp only [Oper.quietUpon] at h3
 ·simp only [hw,Bool.false_eq_true,if_false];exact h _ (Below.refl _ _)
/-- One operation, apart from another one: whether that one's value is there already makes no difference to it. -/
theorem wpOp_putC {Φ:Act→Prop} {j:Nat} {oi oj:Oper} {v:Value} (hj:ops[j]? = some oj) (hap:oi.apart ops oj=true)
  (hsj:∀ cs b,oj.op ≠ .select cs b) (hQ:∀ c a w,Q (.panic c) (a.put oi.dst v) w→Q (.panic c) a w)
  (keep:∀ (a:Act),Φ a→∀ u,Φ (a.put oj.dst u)) (keepD:∀ (a:Act) (d:Deferred),Φ a→Φ { a with defers:=d :: a.defers })
  {K:Act→World→Prop} {a:Act} {w:World} (hy:Φ a) (h:wpOp P ops Q j K (a.put oi.dst v) w) :
  wpOp P ops Q j (fun a' w'=>Φ a'∧K (a'.put oi.dst v) w') a w:=by
 obtain ⟨h1,h2,_⟩:=Oper.apart_spec hap;unfold wpOp at *;simp only [hj] at *;rw [wanted_put oj a oi.dst v h1] at h
 split
 ·rename_i hw
  simp only [hw,if_true] at h;rcases h with h | ⟨hasks,hlets⟩
  case inr=>exact .inr ⟨by unfold Oper.asks at *; rw [execOp_put oj hsj a oi.dst v h1] at hasks; exact hasks,hlets⟩
  refine .inl ?_;unfold Oper.wp at *;rw [execOp_put oj hsj a oi.dst v h1] at h;generalize (execOp a.eval oj).run P w=r at *;cases r with
  | ok n w' =>
   cases n <;> simp only [Oper.upon] at h ⊢
   case value u=>exact ⟨keep a hy u,by rw [← Act.put_comm a v u h2]; exact h⟩
   case skip=>exact ⟨keep a hy _,by rw [← Act.put_comm a v undef h2]; exact h⟩
   case defer d =>
    refine ⟨keep _ (keepD a d hy) _,?_⟩;rw [← Act.put_comm _ v undef h2,← Act.put_defers];exact h
   case enter f args =>
    refine Calls.mono h fun e w'' he=>?_
    cases e with
    | returned u=>exact ⟨keep a hy u,by rw [← Act.put_comm a v u h2]; exact he⟩
    | panicked c=>exact hQ _ _ _ he
    | outgrown=>exact he
   case row row args=>exact Rows.mono h fun u w'' he=>⟨keep a hy u,by rw [← Act.put_comm a v u h2]; exact he⟩
  | halt x w' =>
   cases x <;> simp only [Oper.upon] at h ⊢
   case panic u=>exact hQ _ _ _ h
 ·rename_i hw
  simp only [hw] at h;exact ⟨keep a hy _,by rw [← Act.put_comm a v undef h2]; exact h⟩
/-- Whatever order is picked from here on, and however the world grows ahead of each operation. -/
def wpY (P:Program) (md:Region.Mode) (ops:Array Oper) (Q:Exit→Act→World→Prop) (C:World→Prop):Nat→Array Bool→Act→World→Prop
 | 0,listed,a,w=>Region.ready md ops listed = []∧∀ w',Below w.heap.size w w'→Q .normal a w'
 | fuel+1,listed,a,w=>∀ w',Below w.heap.size w w'→(Region.ready md ops listed = []→Q .normal a w') ∧
  ∀ i ∈ Region.ready md ops listed,wpOp P ops Q i (fun a' w''=>C w''∧wpY P md ops Q C fuel (listed.setIfInBounds i true) a' w'') a w'

theorem wpY.later:∀ (fuel:Nat) {listed:Array Bool} {a:Act} {w w1:World},wpY P md ops Q C fuel listed a w→Below w.heap.size w w1→wpY P md ops Q C fuel listed a w1
 | 0,_,_,_,_,h,hb=>⟨h.1,fun w' hw'=>h.2 w' (chain hb hw')⟩
 | _+1,_,_,_,_,h,hb=>fun w' hw'=>h w' (chain hb hw')

theorem wpAny_of_wpY:∀ (fuel:Nat) (listed:Array Bool) (a:Act) (w:World),wpY P md ops Q C fuel listed a w→wpAny P md ops Q fuel listed a w
 | 0,_,_,_,h=>⟨h.1,h.2 _ (Below.refl _ _)⟩
 | fuel+1,_,_,w,h=>⟨(h w (Below.refl _ _)).1,fun i hi=>wpOp_mono (fun a' w' h'=>wpAny_of_wpY fuel _ a' w' h'.2) ((h w (Below.refl _ _)).2 i hi)⟩

theorem wpY_first (hC:∀ w w',C w→Below w.heap.size w w'→C w') {i:Nat} {oi:Oper} {v:Value} (hi:ops[i]? = some oi) (hsel:∀ (j:Nat) (o:Oper) cs b,ops[j]? = some o→o.op ≠ .select cs b)
  (hQ:∀ c a w,Q (.panic c) (a.put oi.dst v) w→Q (.panic c) a w) :
  ∀ (fuel:Nat) (listed:Array Bool) (a:Act) (w:World),
   (∀ j oj,ops[j]? = some oj→j≠i→listed.getD j true=false→(∀ e ∈ oj.after,Region.binds md e=true→e.on≠i)→oi.apart ops oj=true) →
   i ∈ Region.ready md ops listed→GrowsC P ops C oi v a→C w →
   wpY P md ops Q C fuel (listed.setIfInBounds i true) (a.put oi.dst v) w→wpY P md ops Q C (fuel+1) listed a w:=by
 intro fuel
 induction fuel with
 | zero =>
  intro listed a w _ hr hy hB H w' hw';refine ⟨fun h=>(by rw [h] at hr; cases hr),fun j hj=>?_⟩;by_cases hji:j=i
  ·subst hji;exact hy.wpOp hi (hC _ _ hB hw') fun w'' hw''=>⟨hC _ _ (hC _ _ hB hw') hw'',H.later 0 (chain hw' hw'')⟩
  ·have:=ready_mono hj hji;rw [H.1] at this;cases this
 | succ fuel ih =>
  intro listed a w hfree hr hy hB H w' hw';refine ⟨fun h=>(by rw [h] at hr; cases hr),fun j hj=>?_⟩;by_cases hji:j=i
  ·subst hji;exact hy.wpOp hi (hC _ _ hB hw') fun w'' hw''=>⟨hC _ _ (hC _ _ hB hw') hw'',H.later (fuel+1) (chain hw' hw'')⟩
  ·have h1:=(H w' hw').2 j (ready_mono hj hji);obtain ⟨hjun,oj,hoj,hall⟩:=mem_ready.1 hj;have hnot:∀ e ∈ oj.after,Region.binds md e=true→e.on≠i:=fun e he hb heq=>by
    have h1:=hall e he hb;have h0:=(mem_ready.1 hr).1;rw [heq] at h1;rcases Nat.lt_or_ge i listed.size with h' | h'
    ·simp [h'] at h0 h1; rw [h0] at h1; cases h1
    ·simp [Array.getElem?_eq_none h'] at h1
   have hap:=hfree j oj hoj hji hjun hnot;obtain ⟨_,_,h3⟩:=Oper.apart_spec hap;have h2:=wpOp_putC (Φ:=GrowsC P ops C oi v) hoj hap (fun cs b=>hsel j oj cs b hoj) hQ
    (fun a hy u=>hy.of_same (execOp_put oi (fun cs b=>hsel i oi cs b hi) a oj.dst u h3) (wanted_put oi a oj.dst u h3)) (fun a d hy=>hy.of_same rfl rfl) hy h1
   have hfree':∀ k ok,ops[k]? = some ok→k≠i→(listed.setIfInBounds j true).getD k true=false →
     (∀ e ∈ ok.after,Region.binds md e=true→e.on≠i)→oi.apart ops ok=true:=fun k ok hk hki hun hno=>by
    refine hfree k ok hk hki ?_ hno;by_cases hjk:j=k
    ·subst hjk; exact hjun
    ·rw [getD_set_ne true hjk] at hun; exact hun
   refine wpOp_mono (fun a' w'' h4=>⟨h4.2.1,ih (listed.setIfInBounds j true) a' w'' hfree' (ready_mono hr (Ne.symm hji)) h4.1 h4.2.1 ?_⟩) h2;rw [Array.setIfInBounds_comm _ _ hji];exact h4.2.2
theorem wpY_take (hC:∀ w w',C w→Below w.heap.size w w'→C w') {i:Nat} {oi:Oper} {v:Value} {fuel:Nat} {listed:Array Bool} {a:Act} {w:World} (d:Option Tmp) (hi:ops[i]? = some oi) (hd:oi.dst=d)
  (hs:Region.noSelect ops=true) (hf:Region.free md ops listed i=true) (hr:(Region.ready md ops listed).contains i=true)
  (hQ:∀ c a w,Q (.panic c) (a.put oi.dst v) w→Q (.panic c) a w) (hy:GrowsC P ops C oi v a) (hB:C w)
  (h:wpY P md ops Q C fuel (listed.setIfInBounds i true) (a.put d v) w):wpY P md ops Q C (fuel+1) listed a w:=by
 subst hd;exact wpY_first hC hi (Region.noSelect_spec hs) hQ fuel listed a w (Region.free_spec hi hf) (by simpa using hr) hy hB h
theorem wpY_step {rs:List Nat} {fuel:Nat} {listed:Array Bool} {a:Act} {w:World} (hr:Region.ready md ops listed=rs) (hne:rs ≠ [])
  (h:∀ w',Below w.heap.size w w'→∀ i ∈ rs,wpOp P ops Q i (fun a' w''=>C w''∧wpY P md ops Q C fuel (listed.setIfInBounds i true) a' w'') a w'):wpY P md ops Q C (fuel+1) listed a w :=
 fun w' hw'=>⟨fun h0=>absurd (hr ▸ h0) hne,hr ▸ h w' hw'⟩
theorem wpY_done {listed:Array Bool} {a:Act} {w:World} (hr:Region.ready md ops listed = []) (h:∀ w',Below w.heap.size w w'→Q .normal a w'):wpY P md ops Q C 0 listed a w:=⟨hr,h⟩

theorem wp_region_cls {id:Nat} {a:Act} {w:World} (C:World→Prop) (hm:P.follows .mixedOrders=true)
  (h:wpY P .any ops Q C ops.size (Array.replicate ops.size false) a w.drew):(Code.region id ops true).wp P Q a w :=
 wp_region_any hm (wpAny_of_wpY _ _ _ _ h)
end

section
variable {P:Program} {ops:Array Oper} {Q:Exit→Act→World→Prop} {md:Region.Mode} {C:World→Prop} {Φ:Nat→World→Value→Prop} {I:Act→World→Prop}

/-- Nothing but the region's own temporaries has changed since. -/
structure Same (ops:Array Oper) (a0 a:Act):Prop where
 size:a.tmps.size=a0.tmps.size
 defers:a.defers=a0.defers
 tmps:∀ t:Tmp,(ops.all fun o=>o.dst != some t)=true→a.tmps.getD t undef=a0.tmps.getD t undef

def FactOf (ops:Array Oper) (Φ:Nat→World→Value→Prop) (i:Nat) (a:Act) (w:World):Prop :=
 ∀ o d,ops[i]? = some o→o.dst=some d→Φ i w (a.tmps.getD d undef)

/-- One operation, in whatever world, by the facts of what it stands behind. -/
def StepOf (P:Program) (md:Region.Mode) (ops:Array Oper) (Q:Exit→Act→World→Prop) (C:World→Prop) (Φ:Nat→World→Value→Prop) (I:Act→World→Prop) (a0:Act) (i:Nat) (o:Oper):Prop :=
 ∀ a w,C w→Same ops a0 a→I a w→(∀ e ∈ o.after,Region.binds md e=true→FactOf ops Φ e.on a w) →
  wpOp P ops Q i (fun a' w'=>∃ v,a'=a.put o.dst v∧Below w.heap.size w w'∧Φ i w' v∧I (a.put o.dst v) w') a w

def StepsOf (P:Program) (md:Region.Mode) (ops:Array Oper) (Q:Exit→Act→World→Prop) (C:World→Prop) (Φ:Nat→World→Value→Prop) (I:Act→World→Prop) (a0:Act):Nat→List Oper→Prop
 | _,[]=>True
 | i,o :: os=>StepOf P md ops Q C Φ I a0 i o∧StepsOf P md ops Q C Φ I a0 (i+1) os

theorem StepsOf.get {a0:Act}:∀ {l:List Oper} {k:Nat},StepsOf P md ops Q C Φ I a0 k l→∀ {i:Nat} {o:Oper},l[i]? = some o→StepOf P md ops Q C Φ I a0 (k+i) o
 | [],_,_,i,o,h=>by simp at h
 | o' :: l,k,H,0,o,h=>by simp at h; subst h; exact H.1
 | o' :: l,k,H,i+1,o,h=>by
  have:=StepsOf.get H.2 (i:=i) (by simpa using h)
  rw [show k+1+i=k+(i+1) by omega] at this
  exact this

/-- Whatever is listed, so is what it stands behind. -/
def Closed (md:Region.Mode) (ops:Array Oper) (listed:Array Bool):Prop :=
 ∀ i o,ops[i]? = some o→listed.getD i false=true→∀ e ∈ o.after,Region.binds md e=true→listed.getD e.on false=true

theorem getD_lt {listed:Array Bool} {i:Nat} (h:i<listed.size) (d:Bool):listed.getD i d=listed[i]:=by simp [Array.getD,h]

end

section
variable {P:Program} {ops:Array Oper} {Q:Exit→Act→World→Prop} {md:Region.Mode} {C:World→Prop} {s:Nat}

/-- Whether s stands behind i. -/
def before (md:Region.Mode) (ops:Array Oper):Nat→Nat→Nat→Bool
 | 0,s,i=>s == i
 | n+1,s,i=>s == i || (match ops[s]? with
  | none=>false
  | some o=>o.after.any fun e=>Region.binds md e && before md ops n e.on i)
theorem before_spec {listed:Array Bool} (hcl:Closed md ops listed):∀ (n s i:Nat),before md ops n s i=true→listed.getD s false=true→listed.getD i false=true
 | 0,s,i,h,hs=>by
  have:s=i:=by simpa [before] using h
  exact this ▸ hs
 | n+1,s,i,h,hs=>by
  rw [before,Bool.or_eq_true] at h
  rcases h with h | h
  ·have:s=i:=by simpa using h
   exact this ▸ hs
  ·cases ho:ops[s]? with
   | none=>rw [ho] at h; cases h
   | some o =>
    rw [ho] at h
    obtain ⟨k,hk,h⟩:=Array.any_eq_true.1 h
    rw [Bool.and_eq_true] at h
    exact before_spec hcl n _ i h.2 (hcl s o ho hs _ (Array.getElem_mem hk) h.1)
def CZ (C:World→Prop) (s:Nat) (listed:Array Bool) (w:World):Prop:=listed.getD s false=false→C w
/-- Whatever order is picked from here on, and however the world grows ahead of each operation. -/
def wpZ (P:Program) (md:Region.Mode) (ops:Array Oper) (Q:Exit→Act→World→Prop) (C:World→Prop) (s:Nat):Nat→Array Bool→Act→World→Prop
 | 0,listed,a,w=>Region.ready md ops listed = []∧∀ w',Below w.heap.size w w'→Q .normal a w'
 | fuel+1,listed,a,w=>∀ w',Below w.heap.size w w'→(Region.ready md ops listed = []→Q .normal a w') ∧
  ∀ i ∈ Region.ready md ops listed,wpOp P ops Q i (fun a' w''=>CZ C s (listed.setIfInBounds i true) w''∧wpZ P md ops Q C s fuel (listed.setIfInBounds i true) a' w'') a w'
theorem wpZ.later:∀ (fuel:Nat) {listed:Array Bool} {a:Act} {w w1:World},wpZ P md ops Q C s fuel listed a w→Below w.heap.size w w1→wpZ P md ops Q C s fuel listed a w1
 | 0,_,_,_,_,h,hb=>⟨h.1,fun w' hw'=>h.2 w' (chain hb hw')⟩
 | _+1,_,_,_,_,h,hb=>fun w' hw'=>h w' (chain hb hw')
theorem wpAny_of_wpZ:∀ (fuel:Nat) (listed:Array Bool) (a:Act) (w:World),wpZ P md ops Q C s fuel listed a w→wpAny P md ops Q fuel listed a w
 | 0,_,_,_,h=>⟨h.1,h.2 _ (Below.refl _ _)⟩
 | fuel+1,_,_,w,h=>⟨(h w (Below.refl _ _)).1,fun i hi=>wpOp_mono (fun a' w' h'=>wpAny_of_wpZ fuel _ a' w' h'.2) ((h w (Below.refl _ _)).2 i hi)⟩
theorem closed_put {listed:Array Bool} {j:Nat} (hcl:Closed md ops listed) (hj:j ∈ Region.ready md ops listed):Closed md ops (listed.setIfInBounds j true):=by
 obtain ⟨h1,oj,hoj,hdep⟩:=mem_ready.1 hj;have up:∀ k,listed.getD k false=true→(listed.setIfInBounds j true).getD k false=true:=fun k hk=>by
  by_cases e:j=k
  ·subst e;have hlt:j<listed.size:=by
    rcases Nat.lt_or_ge j listed.size with h | h
    ·exact h
    ·simp [Array.getD,Nat.not_lt.2 h] at hk
   rw [getD_lt (by simpa using hlt)];simp
  ·rw [getD_set_ne false e]; exact hk
 intro k ok hk hl e he hb;by_cases ej:j=k
 ·subst ej;rw [hoj] at hk;cases hk;exact up _ (hdep e he hb)
 ·rw [getD_set_ne false ej] at hl;exact up _ (hcl k ok hk hl e he hb)
theorem not_listed {listed:Array Bool} {i:Nat} (h:i ∈ Region.ready md ops listed):listed.getD i false=false:=by
 have:=(mem_ready.1 h).1;rcases Nat.lt_or_ge i listed.size with h' | h'
 ·rw [getD_lt h'] at this ⊢; exact this
 ·simp [Array.getD,Nat.not_lt.2 h']
theorem wpZ_first (hC:∀ w w',C w→Below w.heap.size w w'→C w') {i:Nat} {oi:Oper} {v:Value} {N:Nat} (hi:ops[i]? = some oi) (hsel:∀ (j:Nat) (o:Oper) cs b,ops[j]? = some o→o.op ≠ .select cs b)
  (hQ:∀ c a w,Q (.panic c) (a.put oi.dst v) w→Q (.panic c) a w) (hbf:before md ops N s i=true) (his:i≠s) :
  ∀ (fuel:Nat) (listed:Array Bool) (a:Act) (w:World),Closed md ops listed →
   (∀ j oj,ops[j]? = some oj→j≠i→listed.getD j true=false→(∀ e ∈ oj.after,Region.binds md e=true→e.on≠i)→oi.apart ops oj=true) →
   i ∈ Region.ready md ops listed→GrowsC P ops C oi v a→CZ C s listed w →
   wpZ P md ops Q C s fuel (listed.setIfInBounds i true) (a.put oi.dst v) w→wpZ P md ops Q C s (fuel+1) listed a w:=by
 have open_:∀ {listed:Array Bool},Closed md ops listed→i ∈ Region.ready md ops listed→listed.getD s false=false:=fun hcl hr=>by
  cases h:Array.getD _ s false with
  | false=>rfl
  | true =>
   have:=before_spec hcl N s i hbf h;rw [not_listed hr] at this;cases this
 intro fuel
 induction fuel with
 | zero =>
  intro listed a w hcl _ hr hy hB H w' hw';have hB:=hB (open_ hcl hr);refine ⟨fun h=>(by rw [h] at hr; cases hr),fun j hj=>?_⟩;by_cases hji:j=i
  ·subst hji;exact hy.wpOp hi (hC _ _ hB hw') fun w'' hw''=>⟨fun _=>hC _ _ (hC _ _ hB hw') hw'',H.later 0 (chain hw' hw'')⟩
  ·have:=ready_mono hj hji;rw [H.1] at this;cases this
 | succ fuel ih =>
  intro listed a w hcl hfree hr hy hB H w' hw';have hB:=hB (open_ hcl hr);refine ⟨fun h=>(by rw [h] at hr; cases hr),fun j hj=>?_⟩;by_cases hji:j=i
  ·subst hji;exact hy.wpOp hi (hC _ _ hB hw') fun w'' hw''=>⟨fun _=>hC _ _ (hC _ _ hB hw') hw'',H.later (fuel+1) (chain hw' hw'')⟩
  ·have h1:=(H w' hw').2 j (ready_mono hj hji);obtain ⟨hjun,oj,hoj,hall⟩:=mem_ready.1 hj;have hnot:∀ e ∈ oj.after,Region.binds md e=true→e.on≠i:=fun e he hb heq=>by
    have h1:=hall e he hb;have h0:=(mem_ready.1 hr).1;rw [heq] at h1;rcases Nat.lt_or_ge i listed.size with h' | h'
    ·simp [h'] at h0 h1; rw [h0] at h1; cases h1
    ·simp [Array.getElem?_eq_none h'] at h1
   have hap:=hfree j oj hoj hji hjun hnot;obtain ⟨_,_,h3⟩:=Oper.apart_spec hap;have h2:=wpOp_putC (Φ:=GrowsC P ops C oi v) hoj hap (fun cs b=>hsel j oj cs b hoj) hQ
    (fun a hy u=>hy.of_same (execOp_put oi (fun cs b=>hsel i oi cs b hi) a oj.dst u h3) (wanted_put oi a oj.dst u h3)) (fun a d hy=>hy.of_same rfl rfl) hy h1
   have hfree':∀ k ok,ops[k]? = some ok→k≠i→(listed.setIfInBounds j true).getD k true=false →
     (∀ e ∈ ok.after,Region.binds md e=true→e.on≠i)→oi.apart ops ok=true:=fun k ok hk hki hun hno=>by
    refine hfree k ok hk hki ?_ hno;by_cases hjk:j=k
    ·subst hjk; exact hjun
    ·rw [getD_set_ne true hjk] at hun; exact hun
   refine wpOp_mono (fun a' w'' h4=>?_) h2;have hc:CZ C s (listed.setIfInBounds j true) w'':=fun h=>h4.2.1 (by
    rw [Array.setIfInBounds_comm _ _ (Ne.symm hji),getD_set_ne false his];exact h)
   refine ⟨hc,ih (listed.setIfInBounds j true) a' w'' (closed_put hcl hj) hfree' (ready_mono hr (Ne.symm hji)) h4.1 hc ?_⟩;rw [Array.setIfInBounds_comm _ _ hji];exact h4.2.2
/-- Closed by look. -/
def closedB (md:Region.Mode) (ops:Array Oper) (listed:Array Bool):Bool :=
 (List.range ops.size).all fun i=>match ops[i]? with
  | none=>true
  | some o=>!listed.getD i false || o.after.all fun e=>!Region.binds md e || listed.getD e.on false
theorem closedB_spec {listed:Array Bool} (h:closedB md ops listed=true):Closed md ops listed:=fun i o hi hl e he hb=>by
 have h1:=List.all_eq_true.1 h i (List.mem_range.2 (Array.getElem?_eq_some_iff.1 hi).1)
 simp only [hi,hl,Bool.not_true,Bool.false_or] at h1
 have:=Array.all_eq_true_iff_forall_mem.1 h1 e he
 simpa [hb] using this
theorem wpZ_take (hC:∀ w w',C w→Below w.heap.size w w'→C w') {i:Nat} {oi:Oper} {v:Value} {fuel:Nat} {listed:Array Bool} {a:Act} {w:World} (d:Option Tmp) (hi:ops[i]? = some oi) (hd:oi.dst=d)
  (hs:Region.noSelect ops=true) (hf:Region.free md ops listed i=true) (hr:(Region.ready md ops listed).contains i=true) (hcl:closedB md ops listed=true) (hbf:before md ops 12 s i=true) (his:(i != s)=true)
  (hQ:∀ c a w,Q (.panic c) (a.put oi.dst v) w→Q (.panic c) a w) (hy:GrowsC P ops C oi v a) (hB:CZ C s listed w)
  (h:wpZ P md ops Q C s fuel (listed.setIfInBounds i true) (a.put d v) w):wpZ P md ops Q C s (fuel+1) listed a w:=by
 subst hd;exact wpZ_first hC hi (Region.noSelect_spec hs) hQ hbf (by simpa using his) fuel listed a w (closedB_spec hcl) (Region.free_spec hi hf) (by simpa using hr) hy hB h
theorem wpZ_step {rs:List Nat} {fuel:Nat} {listed:Array Bool} {a:Act} {w:World} (hr:Region.ready md ops listed=rs) (hne:rs ≠ [])
  (h:∀ w',Below w.heap.size w w'→∀ i ∈ rs,wpOp P ops Q i (fun a' w''=>CZ C s (listed.setIfInBounds i true) w''∧wpZ P md ops Q C s fuel (listed.setIfInBounds i true) a' w'') a w'):wpZ P md ops Q C s (fuel+1) listed a w :=
 fun w' hw'=>⟨fun h0=>absurd (hr ▸ h0) hne,hr ▸ h w' hw'⟩
theorem wpZ_done {listed:Array Bool} {a:Act} {w:World} (hr:Region.ready md ops listed = []) (h:∀ w',Below w.heap.size w w'→Q .normal a w'):wpZ P md ops Q C s 0 listed a w:=⟨hr,h⟩
theorem wp_region_z {id:Nat} {a:Act} {w:World} (C:World→Prop) (s:Nat) (hm:P.follows .mixedOrders=true)
  (h:wpZ P .any ops Q C s ops.size (Array.replicate ops.size false) a w.drew):(Code.region id ops true).wp P Q a w :=
 wp_region_any hm (wpAny_of_wpZ _ _ _ _ h)
end
end Go.Proofs.YtoknmnngaackkaaGreatDoor
