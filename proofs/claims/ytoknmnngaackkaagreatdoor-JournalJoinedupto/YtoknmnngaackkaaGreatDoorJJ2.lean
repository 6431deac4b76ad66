/- Together: AE, AF, AG, AH, AI, AJ, AK, AL, AM. -/
import Derived.Deep.LoopGhost
import Derived.Laws.AppendOwn
import Derived.Maps.AppendAt
import Derived.Shelf.Strconv.ParseIntPublic10
import Derived.Shelf.Lay
import Derived.Ground.NamesProg
import Derived.Lib.SmallJoins
import Derived.Test.YtoknmnngaackkaaGreatDoorJJ1
/- chain, compared. -/
namespace Go.Proofs.YtoknmnngaackkaaGreatDoor
open Go.RowKit Go.Lib Go.Shelf
set_option maxRecDepth 100000
set_option maxHeartbeats 8000000

def S1 (B g:Nat) (b:Nat):Prop:=B≤b∧b≠g
theorem signF_zero (lvl:Int) (ts:List Tk):∀ l:List (Int × ByteArray × Int),(∀ i ∈ l,i.1≠0)→(signF lvl ts l).1=0→(signF lvl ts l).2=ts
 | [],_,_=>rfl
 | i :: r,hn,h=>by
  rw [signF] at h ⊢
  by_cases hc:i.2.2=lvl∧isP i.2.1 ts=true
  ·rw [if_pos hc] at h
   exact absurd h (hn i (by simp))
  ·rw [if_neg hc] at h ⊢
   exact signF_zero lvl ts r (fun j hj=>hn j (by simp [hj])) h
theorem signP_zero {lvl:Int} {ts:List Tk} (h:(signP lvl ts).1=0):(signP lvl ts).2=ts:=signF_zero lvl ts infL (by decide) h
/-- The loop of a chain, told with its fuel. -/
theorem chain_step {n:Nat} {lvl o:Int} (hl:1≤lvl∧lvl≤7) (hv:∀ m,m≤n→CtE 219 [.int .i64 (lvl+1)] (levelP m (lvl+1) o) o):CtE 197 [.int .i64 lvl] (chainP (n+1) lvl o) o:=by
 intro w R tb ts h hf;rw [chainP] at hf ⊢;have hltR:=h.lt;have hltT:=h.ltb;have hal:Below w.heap.size w (w.alloc (.cells z7A 55)):=(Below.refl _ _).alloc (Nat.le_refl _) _;have QZ0:=heap_new w z7A 55;have hz':w.heap.size<(w.alloc (.cells z7A 55)).heap.size:=lt_of_heap QZ0;have con:=hv n (Nat.le_refl _) (w.alloc (.cells z7A 55)) R tb ts (h.next hal) (fun hc=>hf (by rw [hc]; rfl));have HV:Hid (∀ m,m≤n→CtE 219 [.int .i64 (lvl+1)] (levelP m (lvl+1) o) o):=hv;generalize hM:bnd (levelP n (lvl+1) o ts) (fun x r=>loopP n lvl o x r)=M at *;generalize levelP n (lvl+1) o ts=L at *
 have HM:Hid (bnd L (fun x r=>loopP n lvl o x r)=M):=hM;have HF:Hid (M≠fuelE):=hf;clear h hf hM hv;go_enter Tryz.func197,Tryz.ntmps197;go_wp2_with fail
 generalize w.alloc (.cells z7A 55)=w1 at *;refine con.mono ?_;rintro e w2 ⟨hb2,hW⟩;have QZ2:=(hb2.2 _ (lt_of_heap QZ0) (by omega)).trans QZ0;have hx2:BelowX R w w2:=(BelowX.of hal (by omega)).trans hb2;have hz2:=hb2.size;clear con;rcases L with c | ⟨x,rs⟩
 ·obtain ⟨rfl,us,hE⟩:=hW;have HE:Hid (RdAt w2 R tb us o):=hE;clear hE;have e:M = .error c:=HM.out.symm;subst e;clear HM HF;go_wp2_with fail
  exact ⟨rfl,Ends.err rfl hx2 HE.out⟩
 obtain ⟨v,rfl,⟨a,c,rfl,hks⟩,hRW⟩:=hW;have HL:Hid (loopP n lvl o x rs=M):=HM.out;have hal3:Below w2.heap.size w2 (w2.alloc (.cells (sxA x a c) 55)):=(Below.refl _ _).alloc (Nat.le_refl _) _;have QX3:=heap_new w2 (sxA x a c) 55;have HR3:Hid (RdAt (w2.alloc (.cells (sxA x a c) 55)) R tb rs o):=hRW.next hal3;have HK3:Hid (SsS (S1 (w.heap.size+1) w2.heap.size) (w2.alloc (.cells (sxA x a c) 55)) a x.ks):=SsS.next hal3 (SsS.mono (fun b h1 h2=>⟨by have:w1.heap.size≤b:=h1; omega,by omega⟩) hks);have QZ3:=(hal3.block _ (lt_of_heap QZ2)).trans QZ2
 have hx3:BelowX R w (w2.alloc (.cells (sxA x a c) 55)):=hx2.trans (.of hal3 (by omega));have con4:=sign_at HR3.out lvl;clear HM hRW hks QZ0;generalize hsg:signP lvl rs=sg at *;go_wp2_with fail
 generalize w2.alloc (.cells (sxA x a c) 55)=w3 at *;refine con4.mono ?_;rintro e w4 ⟨rfl,h4,hb4⟩;have HS4:Hid (RdAt w4 R tb sg.2 o):=h4;have QX4:=(hb4.2 _ (lt_of_heap QX3) (by omega)).trans QX3;have QZ4:=(hb4.2 _ (lt_of_heap QZ3) (by omega)).trans QZ3;have HK4:Hid (SsS (S1 (w.heap.size+1) w2.heap.size) w4 a x.ks):=SsS.k1 hb4.k1 (fun h=>by have:=h.1; omega) HK3.out;have hx4:=hx3.trans hb4;subst hsg;clear con4 h4 HK3 QX3 QZ3 HR3 hal3 hb4;go_wp2_with fail
 go_loopg [6] n (fun m kv wr=>m≤n∧∃ (x:SX) (a:Option Addr) (c:Nat) (rs:List Tk),kv = .int .i64 (signP lvl rs).1∧Hid (loopP m lvl o x rs=M)∧BelowX R w wr∧Hid (RdAt wr R tb (signP lvl rs).2 o)∧wr.heap[w2.heap.size]? = some (.cells (sxA x a c) 55 (0,0))∧Hid (SsS (S1 (w.heap.size+1) w2.heap.size) wr a x.ks)∧wr.heap[w.heap.size]? = some (.cells z7A 55 (0,0)))
 case atStart=>exact ⟨Nat.le_refl _,x,a,c,rs,rfl,HL,hx4,HS4,QX4,HK4,QZ4⟩
 case round =>
  clear HL hx4 HS4 QX4 HK4 QZ4;obtain ⟨hgk,x,a,c,rs,rfl,HL,hx,HR,QX,HK,QZ⟩:=hrel;have hzw:=lt_of_heap QX;obtain ⟨m,rfl⟩:∃ m,gk=m+1:=by
   cases gk with
   | zero=>exact absurd HL.out.symm HF.out
   | succ m=>exact ⟨m,rfl⟩
  have HL2:=HL.out;rw [loopP] at HL2;by_cases hs0:(signP lvl rs).1=0
  ·have e:M = .ok (x,rs):=by rw [← HL2,if_pos hs0]
   subst e;have HR2:Hid (RdAt wr R tb rs o):=by have:=HR.out; rw [signP_zero hs0] at this; exact this
   have b0:((signP lvl rs).1 != 0)=false:=by simpa using hs0
   obtain ⟨u0,u1,u2,u3,u4,u5,u6⟩:=cells7 QX;obtain ⟨z0,z1,z2,z3,z4,z5,z6⟩:=cells7 QZ;obtain ⟨y0,y1,y2,y3,y4,y5,y6⟩:=froz7 QZ;clear HL HL2 HR HF;go_wp2_with fail
   obtain ⟨QE,hRE,hKE,hbE,_⟩:=st7_allS (w:=w) (cap:=c) QZ HR2.out HK.out hx (Nat.le_refl _) (fun h=>by have:=h.1; omega) hltR hltT;generalize (((((((wr.setCell ⟨w.heap.size,0,none⟩ (.int .i64 x.k)).setCell ⟨w.heap.size,1,none⟩ (.int .i64 x.v.1)).setCell ⟨w.heap.size,2,none⟩ (.int .i64 x.v.2.1)).setCell ⟨w.heap.size,3,none⟩ (.string x.v.2.2)).setCell ⟨w.heap.size,4,none⟩ (.string x.tab)).setCell ⟨w.heap.size,5,none⟩ (.string x.name)).setCell ⟨w.heap.size,6,none⟩ (.slice a x.ks.length c))=wE at *;obtain ⟨x0,x1,x2,x3,x4,x5,x6⟩:=cells7 QE
   exact bodyPost_ret (v:=.agg (sxA x a c)) (by simp [results,Tryz.results197,go_sem,x0,x1,x2,x3,x4,x5,x6]) rfl (Ends.good rfl hbE ⟨a,c,rfl,SsS.mono (fun b h _=>by have:=h.1; show w.heap.size≤b; omega) hKE⟩ hRE)
  ·rw [if_neg hs0] at HL2;have b0:((signP lvl rs).1 != 0)=true:=by simpa using hs0
   have HL3:Hid (bnd (levelP m (lvl+1) o (signP lvl rs).2) (fun y r=>loopP m lvl o (nd (signP lvl rs).1 [x,y]) r)=M):=HL2;have hne:levelP m (lvl+1) o (signP lvl rs).2≠fuelE:=fun hc=>HF.out (by rw [← HL2,hc]; rfl)
   generalize signP lvl rs=sg at *;obtain ⟨sk,ss⟩:=sg;clear HL HL2;go_upto_region 5 with fail
   have hCC:∀ W W':World,W.heap[w2.heap.size]? = some (.cells (sxA x a c) 55 (0,0))→Below W.heap.size W W'→W'.heap[w2.heap.size]? = some (.cells (sxA x a c) 55 (0,0)):=fun W W' h hb=>(hb.block _ (lt_of_heap h)).trans h
   have hdr:Below wr.heap.size wr wr.drew:=(Below.refl _ _).drew;have CW:=hCC _ _ QX hdr;refine wp_region_z (fun W=>W.heap[w2.heap.size]? = some (.cells (sxA x a c) 55 (0,0))) 8 (by kernel_rfl) ?_;refine wpZ_take hCC (some 19) (i:=0) (v:=.int .i64 sk) rfl rfl (by kernel_rfl) (by kernel_rfl) (by kernel_rfl) (by kernel_rfl) (by kernel_rfl) rfl (fun _ _ _ h=>h) (Or.inl ⟨rfl,fun n hn=>?_⟩) (fun _=>CW) ?_
   ·go_simp
   simp only [Act.put,pA,pB,pC];refine wpZ_take hCC (some 20) (i:=1) (v:=.agg (sxA x a c)) rfl rfl (by kernel_rfl) (by kernel_rfl) (by kernel_rfl) (by kernel_rfl) (by kernel_rfl) rfl (fun _ _ _ h=>h) (Or.inl ⟨rfl,fun n hn=>?_⟩) (fun _=>CW) ?_
   ·obtain ⟨u0,u1,u2,u3,u4,u5,u6⟩:=cells7 hn;go_simp
   simp only [Act.put,pA,pB,pC];refine wpZ_take hCC (some 21) (i:=2) (v:=.pointer (some ⟨R,0,none⟩)) rfl rfl (by kernel_rfl) (by kernel_rfl) (by kernel_rfl) (by kernel_rfl) (by kernel_rfl) rfl (fun _ _ _ h=>h) (Or.inl ⟨rfl,fun n hn=>?_⟩) (fun _=>CW) ?_
   ·go_simp
   simp only [Act.put,pA,pB,pC];refine wpZ_take hCC (some 22) (i:=3) (v:=.int .i64 lvl) rfl rfl (by kernel_rfl) (by kernel_rfl) (by kernel_rfl) (by kernel_rfl) (by kernel_rfl) rfl (fun _ _ _ h=>h) (Or.inl ⟨rfl,fun n hn=>?_⟩) (fun _=>CW) ?_
   ·go_simp
   simp only [Act.put,pA,pB,pC];refine wpZ_take hCC (some 23) (i:=4) (v:=.int .i64 (lvl+1)) rfl rfl (by kernel_rfl) (by kernel_rfl) (by kernel_rfl) (by kernel_rfl) (by kernel_rfl) rfl (fun _ _ _ h=>h) (Or.inl ⟨rfl,fun n hn=>?_⟩) (fun _=>CW) ?_
   ·go_simp;rw [IntKind.wrap_i64];omega
   simp only [Act.put,pA,pB,pC];refine wpZ_step (rs:=[5]) (by kernel_rfl) (by simp) ?_;intro w5 hb5 jj hj;obtain rfl:jj=5:=by simpa using hj
   clear hj;have D5:=chain hdr hb5;have CW5:=hCC _ _ CW hb5;have con:=HV.out m (by omega) w5 R tb ss (HR.out.next D5) hne;generalize levelP m (lvl+1) o ss=L at *;refine wpOp_step rfl (fun K hK=>?_);go_simp;refine con.mono ?_;rintro e w6 ⟨hb6,hW⟩;clear con;have C6:=(hb6.2 _ (lt_of_heap CW5) (by omega)).trans CW5;have hx6:BelowX R w w6:=(hx.trans (.of D5 (by omega))).trans hb6;have hz5:=D5.size;have hz6:=hb6.size;rcases L with ce | ⟨y,r2⟩
   ·obtain ⟨rfl,us,hE⟩:=hW;have e:M = .error ce:=HL3.out.symm;subst e;exact ⟨rfl,Ends.err rfl hx6 hE⟩
   obtain ⟨v,rfl,⟨b,d,rfl,hks⟩,hRW⟩:=hW;have HL4:Hid (loopP m lvl o (nd sk [x,y]) r2=M):=HL3.out;refine hK _ _ ⟨fun _=>C6,?_⟩;clear hK K CW CW5 HL3 hne;refine wpZ_step (rs:=[6]) (by kernel_rfl) (by simp) ?_;intro w7 hb7 jj hj;obtain rfl:jj=6:=by simpa using hj
   clear hj;have C7:=hCC _ _ C6 hb7;have hal8:Below w7.heap.size w7 (w7.alloc (.cells #[.int .i64 x.k,.int .i64 x.v.1,.int .i64 x.v.2.1,.string x.v.2.2,.string x.tab,.string x.name,.slice a x.ks.length c,.int .i64 y.k,.int .i64 y.v.1,.int .i64 y.v.2.1,.string y.v.2.2,.string y.tab,.string y.name,.slice b y.ks.length d] 55)):=(Below.refl _ _).alloc (Nat.le_refl _) _;have hz7:=hb7.size;have KX7:SsS (S1 (w.heap.size+1) w2.heap.size) w7 a x.ks:=SsS.next hb7 (SsS.k1 hb6.k1 (fun h=>by have:=h.1; omega) (SsS.next D5 HK.out))
   have KY7:SsS (S1 (w.heap.size+1) w2.heap.size) w7 b y.ks:=SsS.next hb7 (SsS.mono (fun b h1 h2=>⟨by have:w5.heap.size≤b:=h1; omega,by have:w5.heap.size≤b:=h1; omega⟩) hks);have K8:Hid (SsS (S1 (w.heap.size+1) w2.heap.size) (w7.alloc (.cells #[.int .i64 x.k,.int .i64 x.v.1,.int .i64 x.v.2.1,.string x.v.2.2,.string x.tab,.string x.name,.slice a x.ks.length c,.int .i64 y.k,.int .i64 y.v.1,.int .i64 y.v.2.1,.string y.v.2.2,.string y.tab,.string y.name,.slice b y.ks.length d] 55)) (some ⟨w7.heap.size,0,none⟩) [x,y]):=SsS.two _ KX7 KY7 ⟨by omega,by omega⟩;have C8:=hCC _ _ C7 hal8
   refine wpOp_step rfl (fun K hK=>?_);go_simp;refine hK _ _ ⟨fun _=>C8,?_⟩;clear hK K KX7 KY7 hks;generalize w7.alloc (.cells #[.int .i64 x.k,.int .i64 x.v.1,.int .i64 x.v.2.1,.string x.v.2.2,.string x.tab,.string x.name,.slice a x.ks.length c,.int .i64 y.k,.int .i64 y.v.1,.int .i64 y.v.2.1,.string y.v.2.2,.string y.tab,.string y.name,.slice b y.ks.length d] 55)=w8 at *;refine wpZ_step (rs:=[7]) (by kernel_rfl) (by simp) ?_;intro w9 hb9 jj hj;obtain rfl:jj=7:=by simpa using hj
   clear hj;have C9:=hCC _ _ C8 hb9;have con9:=node_at sk (some ⟨w7.heap.size,0,none⟩) 2 2 w9;refine wpOp_step rfl (fun K hK=>?_);go_simp;refine con9.mono ?_;rintro e w10 ⟨rfl,hb10⟩;have C10:=hCC _ _ C9 hb10;refine hK _ _ ⟨fun _=>C10,?_⟩;clear hK K con9;refine wpZ_step (rs:=[8]) (by kernel_rfl) (by simp) ?_;intro w11 hb11 jj hj;obtain rfl:jj=8:=by simpa using hj
   clear hj;have C11:=hCC _ _ C10 hb11;have D11:Below w7.heap.size w7 w11:=chain hal8 (chain hb9 (chain hb10 hb11));have D6:Below w6.heap.size w6 w11:=chain hb7 D11;have K11:SsS (S1 (w.heap.size+1) w2.heap.size) w11 (some ⟨w7.heap.size,0,none⟩) [x,y]:=SsS.next (chain hb9 (chain hb10 hb11)) K8.out;have R11:=hRW.next D6;have hx11:BelowX R w w11:=hx6.trans (.of D6 (by omega));have QZ11:w11.heap[w.heap.size]? = some (.cells z7A 55 (0,0)):=(D6.block _ (by omega)).trans ((hb6.2 _ (by omega) (by omega)).trans ((D5.block _ (by omega)).trans QZ));obtain ⟨u0,u1,u2,u3,u4,u5,u6⟩:=cells7 C11
   obtain ⟨y0,y1,y2,y3,y4,y5,y6⟩:=froz7 C11;obtain ⟨QE,hRE,hKE,hbE,hk1⟩:=st7_allS (w:=w) (x:=nd sk [x,y]) (a:=some ⟨w7.heap.size,0,none⟩) (cap:=2) C11 R11 K11 hx11 (by omega) (fun h=>h.2 rfl) hltR hltT
   change (((((((w11.setCell ⟨w2.heap.size,0,none⟩ (.int .i64 sk)).setCell ⟨w2.heap.size,1,none⟩ (.int .i64 0)).setCell ⟨w2.heap.size,2,none⟩ (.int .i64 0)).setCell ⟨w2.heap.size,3,none⟩ (.string ⟨#[]⟩)).setCell ⟨w2.heap.size,4,none⟩ (.string ⟨#[]⟩)).setCell ⟨w2.heap.size,5,none⟩ (.string ⟨#[]⟩)).setCell ⟨w2.heap.size,6,none⟩ (.slice (some ⟨w7.heap.size,0,none⟩) 2 2)).heap[w2.heap.size]? = some (.cells #[.int .i64 sk,.int .i64 0,.int .i64 0,.string ⟨#[]⟩,.string ⟨#[]⟩,.string ⟨#[]⟩,.slice (some ⟨w7.heap.size,0,none⟩) 2 2] 55 (0,0)) at QE
   change RdAt (((((((w11.setCell ⟨w2.heap.size,0,none⟩ (.int .i64 sk)).setCell ⟨w2.heap.size,1,none⟩ (.int .i64 0)).setCell ⟨w2.heap.size,2,none⟩ (.int .i64 0)).setCell ⟨w2.heap.size,3,none⟩ (.string ⟨#[]⟩)).setCell ⟨w2.heap.size,4,none⟩ (.string ⟨#[]⟩)).setCell ⟨w2.heap.size,5,none⟩ (.string ⟨#[]⟩)).setCell ⟨w2.heap.size,6,none⟩ (.slice (some ⟨w7.heap.size,0,none⟩) 2 2)) R tb r2 o at hRE
   change SsS _ (((((((w11.setCell ⟨w2.heap.size,0,none⟩ (.int .i64 sk)).setCell ⟨w2.heap.size,1,none⟩ (.int .i64 0)).setCell ⟨w2.heap.size,2,none⟩ (.int .i64 0)).setCell ⟨w2.heap.size,3,none⟩ (.string ⟨#[]⟩)).setCell ⟨w2.heap.size,4,none⟩ (.string ⟨#[]⟩)).setCell ⟨w2.heap.size,5,none⟩ (.string ⟨#[]⟩)).setCell ⟨w2.heap.size,6,none⟩ (.slice (some ⟨w7.heap.size,0,none⟩) 2 2)) _ _ at hKE
   change BelowX R w (((((((w11.setCell ⟨w2.heap.size,0,none⟩ (.int .i64 sk)).setCell ⟨w2.heap.size,1,none⟩ (.int .i64 0)).setCell ⟨w2.heap.size,2,none⟩ (.int .i64 0)).setCell ⟨w2.heap.size,3,none⟩ (.string ⟨#[]⟩)).setCell ⟨w2.heap.size,4,none⟩ (.string ⟨#[]⟩)).setCell ⟨w2.heap.size,5,none⟩ (.string ⟨#[]⟩)).setCell ⟨w2.heap.size,6,none⟩ (.slice (some ⟨w7.heap.size,0,none⟩) 2 2)) at hbE
   change Keeps1 _ w11 (((((((w11.setCell ⟨w2.heap.size,0,none⟩ (.int .i64 sk)).setCell ⟨w2.heap.size,1,none⟩ (.int .i64 0)).setCell ⟨w2.heap.size,2,none⟩ (.int .i64 0)).setCell ⟨w2.heap.size,3,none⟩ (.string ⟨#[]⟩)).setCell ⟨w2.heap.size,4,none⟩ (.string ⟨#[]⟩)).setCell ⟨w2.heap.size,5,none⟩ (.string ⟨#[]⟩)).setCell ⟨w2.heap.size,6,none⟩ (.slice (some ⟨w7.heap.size,0,none⟩) 2 2)) at hk1;refine wpOp_step rfl (fun K hK=>?_);go_simp
   generalize (((((((w11.setCell ⟨w2.heap.size,0,none⟩ (.int .i64 sk)).setCell ⟨w2.heap.size,1,none⟩ (.int .i64 0)).setCell ⟨w2.heap.size,2,none⟩ (.int .i64 0)).setCell ⟨w2.heap.size,3,none⟩ (.string ⟨#[]⟩)).setCell ⟨w2.heap.size,4,none⟩ (.string ⟨#[]⟩)).setCell ⟨w2.heap.size,5,none⟩ (.string ⟨#[]⟩)).setCell ⟨w2.heap.size,6,none⟩ (.slice (some ⟨w7.heap.size,0,none⟩) 2 2))=wE at *;have QZE:=(hk1.2 _ (lt_of_heap QZ11) (by omega)).trans QZ11;refine hK _ _ ⟨fun h=>by simp at h,?_⟩;clear hK K;refine wpZ_done (by kernel_rfl) ?_;intro w12 hb12;have QX12:=(hb12.block _ (lt_of_heap QE)).trans QE
   have QZ12:=(hb12.block _ (lt_of_heap QZE)).trans QZE;have K12:Hid (SsS (S1 (w.heap.size+1) w2.heap.size) w12 (some ⟨w7.heap.size,0,none⟩) [x,y]):=SsS.next hb12 hKE;have R12:=hRE.next hb12;have hx12:BelowX R w w12:=hbE.trans (.of hb12 (by have:=hbE.size; omega));have con12:=sign_at R12 lvl;clear QE QZE hKE hRE hbE hk1 C11 C10 C9 C8 C7 C6 u0 u1 u2 u3 u4 u5 u6 y0 y1 y2 y3 y4 y5 y6 R11 K11 QZ11;generalize hsg:signP lvl r2=sg at *;go_wp2_with fail
   refine con12.mono ?_;rintro e w13 ⟨rfl,h13,hb13⟩;have H13:Hid (RdAt w13 R tb sg.2 o):=h13;have QX13:=(hb13.2 _ (lt_of_heap QX12) (by omega)).trans QX12;have QZ13:=(hb13.2 _ (lt_of_heap QZ12) (by omega)).trans QZ12;have K13:Hid (SsS (S1 (w.heap.size+1) w2.heap.size) w13 (some ⟨w7.heap.size,0,none⟩) [x,y]):=SsS.k1 hb13.k1 (fun h=>by have:=h.1; omega) K12.out;have hx13:=hx12.trans hb13;subst hsg;clear con12 h13;go_wp2_with fail
   go_roundg m
   case measure=>omega
   case rel=>exact ⟨by omega,nd sk [x,y],_,2,r2,rfl,HL4,hx13,H13,QX13,K13,QZ13⟩

theorem compared_step {n:Nat} {o:Int} (hv:CtE 197 [.int .i64 5] (chainP n 5 o) o):CtE 243 [] (comparedP (n+1) o) o:=by
 intro w R tb ts h hf;rw [comparedP] at hf ⊢;have hltR:=h.lt;have hltT:=h.ltb;have hal:Below w.heap.size w (w.alloc (.cells z7A 55)):=(Below.refl _ _).alloc (Nat.le_refl _) _;have QZ0:=heap_new w z7A 55;have hz':w.heap.size<(w.alloc (.cells z7A 55)).heap.size:=lt_of_heap QZ0;have con:=hv (w.alloc (.cells z7A 55)) R tb ts (h.next hal) (fun hc=>hf (by rw [hc]; rfl));have HV:Hid (CtE 197 [.int .i64 5] (chainP n 5 o) o):=hv;generalize hM:bnd (chainP n 5 o ts) _=M at *;have HF:Hid (M≠fuelE):=hf
 have HM:Hid (bnd (chainP n 5 o ts) (fun x r=>if isP ⟨#[105,115]⟩ r=true then isNullP x (passP r) else if (signP 4 r).1=0 then .ok (x,r) else bnd (chainP n 5 o (signP 4 r).2) fun y r2=>.ok (nd (signP 4 r).1 [x,y],r2))=M):=hM;generalize chainP n 5 o ts=L at *;clear h hf hM hv;go_enter Tryz.func243,Tryz.ntmps243;go_wp2_with fail
 generalize w.alloc (.cells z7A 55)=w1 at *;refine con.mono ?_;rintro e w2 ⟨hb2,hW⟩;have QZ2:=(hb2.2 _ (lt_of_heap QZ0) (by omega)).trans QZ0;have hx2:BelowX R w w2:=(BelowX.of hal (by omega)).trans hb2;have hz2:=hb2.size;clear con;rcases L with c | ⟨x,rs⟩
 ·obtain ⟨rfl,us,hE⟩:=hW;have HE:Hid (RdAt w2 R tb us o):=hE;clear hE;have e:M = .error c:=HM.out.symm;subst e;clear HM HF;go_wp2_with fail
  exact ⟨rfl,Ends.err rfl hx2 HE.out⟩
 obtain ⟨v,rfl,⟨a,c,rfl,hks⟩,hRW⟩:=hW;have HL:Hid ((if isP ⟨#[105,115]⟩ rs=true then isNullP x (passP rs) else if (signP 4 rs).1=0 then .ok (x,rs) else bnd (chainP n 5 o (signP 4 rs).2) fun y r2=>.ok (nd (signP 4 rs).1 [x,y],r2))=M):=HM.out;have hal3:Below w2.heap.size w2 (w2.alloc (.cells (sxA x a c) 55)):=(Below.refl _ _).alloc (Nat.le_refl _) _;have QX3:=heap_new w2 (sxA x a c) 55;have HR3:Hid (RdAt (w2.alloc (.cells (sxA x a c) 55)) R tb rs o):=hRW.next hal3
 have HK3:Hid (SsS (S1 (w.heap.size+1) w2.heap.size) (w2.alloc (.cells (sxA x a c) 55)) a x.ks):=SsS.next hal3 (SsS.mono (fun b h1 h2=>⟨by have:w1.heap.size≤b:=h1; omega,by omega⟩) hks);have QZ3:=(hal3.block _ (lt_of_heap QZ2)).trans QZ2;have hx3:BelowX R w (w2.alloc (.cells (sxA x a c) 55)):=hx2.trans (.of hal3 (by omega));have con4:=took_at HR3.out ⟨#[105,115]⟩;clear HM hRW hks QZ0;rcases hi:isP ⟨#[105,115]⟩ rs with _ | _
 case true =>
  rw [hi,tookP_t hi] at con4;have e:isNullP x (passP rs)=M:=by rw [← HL.out,hi]; rfl
  go_wp2_with fail
  generalize w2.alloc (.cells (sxA x a c) 55)=w3 at *;refine con4.mono ?_;rintro e' w4 ⟨rfl,h4,hb4⟩;have QX4:=(hb4.2 _ (lt_of_heap QX3) (by omega)).trans QX3;have QZ4:=(hb4.2 _ (lt_of_heap QZ3) (by omega)).trans QZ3;have K4:=SsS.k1 hb4.k1 (fun h=>by have:=h.1; omega) HK3.out;have con5:=isNull_at (c:=c) (B:=w.heap.size+1) h4 (SsS.mono (fun b h _=>h.1) K4) (by have:=lt_of_heap QX4; omega) (by omega);rw [e] at con5;obtain ⟨u0,u1,u2,u3,u4,u5,u6⟩:=cells7 QX4;have hx4:=hx3.trans hb4;clear con4 h4 K4 HK3 e HL HF;go_wp2_with fail
  refine con5.mono ?_;rintro e' w5 ⟨hb5,hW⟩;have QZ:=(hb5.2 _ (lt_of_heap QZ4) (by omega)).trans QZ4;clear con5;rcases M with c | ⟨x,rs⟩
  ·obtain ⟨rfl,us,hE⟩:=hW;have HE:Hid (RdAt w5 R tb us o):=hE;clear hE;go_wp2_with fail
   exact ⟨rfl,Ends.err rfl (hx4.trans hb5) HE.out⟩
  ·obtain ⟨v,rfl,⟨a,cap,rfl,hks⟩,hRW⟩:=hW;obtain ⟨z0,z1,z2,z3,z4,z5,z6⟩:=cells7 QZ;obtain ⟨y0,y1,y2,y3,y4,y5,y6⟩:=froz7 QZ;have HRW:Hid (RdAt w5 R tb rs o):=hRW;have HKW:Hid (SsAt _ w5 a x.ks):=hks;clear hRW hks;go_wp2_with fail
   obtain ⟨QE,hRE,hKE,hbE⟩:=st7_all (w:=w) (cap:=cap) QZ HRW.out HKW.out (hx4.trans hb5) (by omega) (by omega) hltR hltT;generalize (((((((w5.setCell ⟨w.heap.size,0,none⟩ (.int .i64 x.k)).setCell ⟨w.heap.size,1,none⟩ (.int .i64 x.v.1)).setCell ⟨w.heap.size,2,none⟩ (.int .i64 x.v.2.1)).setCell ⟨w.heap.size,3,none⟩ (.string x.v.2.2)).setCell ⟨w.heap.size,4,none⟩ (.string x.tab)).setCell ⟨w.heap.size,5,none⟩ (.string x.name)).setCell ⟨w.heap.size,6,none⟩ (.slice a x.ks.length cap))=wE at *;obtain ⟨x0,x1,x2,x3,x4,x5,x6⟩:=cells7 QE
   exact bodyPost_ret (v:=.agg (sxA x a cap)) (by simp [results,Tryz.results243,go_sem,x0,x1,x2,x3,x4,x5,x6]) rfl (Ends.good rfl hbE ⟨a,cap,rfl,hKE.mono (by omega)⟩ hRE)
 rw [hi,tookP_f hi] at con4;have HL2:Hid ((if (signP 4 rs).1=0 then .ok (x,rs) else bnd (chainP n 5 o (signP 4 rs).2) fun y r2=>.ok (nd (signP 4 rs).1 [x,y],r2))=M):=by have:=HL.out; rw [hi] at this; exact this
 clear HL;go_wp2_with fail
 generalize w2.alloc (.cells (sxA x a c) 55)=w3 at *;refine con4.mono ?_;rintro e' w4 ⟨rfl,h4,hb4⟩;have QX4:=(hb4.2 _ (lt_of_heap QX3) (by omega)).trans QX3;have QZ4:=(hb4.2 _ (lt_of_heap QZ3) (by omega)).trans QZ3;have HK4:Hid (SsS (S1 (w.heap.size+1) w2.heap.size) w4 a x.ks):=SsS.k1 hb4.k1 (fun h=>by have:=h.1; omega) HK3.out;have hx4:=hx3.trans hb4;have con5:=sign_at h4 4;have H4:Hid (RdAt w4 R tb rs o):=h4;clear con4 h4 HK3 QX3 QZ3;generalize hsg:signP 4 rs=sg at *;go_wp2_with fail
 refine con5.mono ?_;rintro e' wr ⟨rfl,h5,hb5⟩;have QX:=(hb5.2 _ (lt_of_heap QX4) (by omega)).trans QX4;have QZ:=(hb5.2 _ (lt_of_heap QZ4) (by omega)).trans QZ4;have HK:Hid (SsS (S1 (w.heap.size+1) w2.heap.size) wr a x.ks):=SsS.k1 hb5.k1 (fun h=>by have:=h.1; omega) HK4.out;have hx:=hx4.trans hb5;have HR:Hid (RdAt wr R tb sg.2 o):=h5;have hzw:=lt_of_heap QX;clear con5 h5 QX4 QZ4 HK4;by_cases hs0:sg.1=0
 ·have HR2:Hid (RdAt wr R tb rs o):=by
   have:=HR.out;rw [← hsg] at this hs0;rw [signP_zero hs0] at this;exact this
  have e:M = .ok (x,rs):=by rw [← HL2.out,if_pos hs0]
  subst e;have b0:(sg.1 != 0)=false:=by simpa using hs0
  obtain ⟨u0,u1,u2,u3,u4,u5,u6⟩:=cells7 QX;obtain ⟨z0,z1,z2,z3,z4,z5,z6⟩:=cells7 QZ;obtain ⟨y0,y1,y2,y3,y4,y5,y6⟩:=froz7 QZ;clear HL2 HR HF hsg;go_wp2_with fail
  obtain ⟨QE,hRE,hKE,hbE,_⟩:=st7_allS (w:=w) (cap:=c) QZ HR2.out HK.out hx (Nat.le_refl _) (fun h=>by have:=h.1; omega) hltR hltT;generalize (((((((wr.setCell ⟨w.heap.size,0,none⟩ (.int .i64 x.k)).setCell ⟨w.heap.size,1,none⟩ (.int .i64 x.v.1)).setCell ⟨w.heap.size,2,none⟩ (.int .i64 x.v.2.1)).setCell ⟨w.heap.size,3,none⟩ (.string x.v.2.2)).setCell ⟨w.heap.size,4,none⟩ (.string x.tab)).setCell ⟨w.heap.size,5,none⟩ (.string x.name)).setCell ⟨w.heap.size,6,none⟩ (.slice a x.ks.length c))=wE at *;obtain ⟨x0,x1,x2,x3,x4,x5,x6⟩:=cells7 QE
  exact bodyPost_ret (v:=.agg (sxA x a c)) (by simp [results,Tryz.results243,go_sem,x0,x1,x2,x3,x4,x5,x6]) rfl (Ends.good rfl hbE ⟨a,c,rfl,SsS.mono (fun b h _=>by have:=h.1; show w.heap.size≤b; omega) hKE⟩ hRE)
 ·have b0:(sg.1 != 0)=true:=by simpa using hs0
  have HL3:Hid (bnd (chainP n 5 o sg.2) (fun y r2=>.ok (nd sg.1 [x,y],r2))=M):=by have:=HL2.out; rw [if_neg hs0] at this; exact this
  have hne:chainP n 5 o sg.2≠fuelE:=fun hc=>HF.out (by rw [← HL3.out,hc]; rfl)
  clear HL2 hsg;obtain ⟨sk,ss⟩:=sg;go_upto_region 6 with fail
  have hCC:∀ W W':World,W.heap[w2.heap.size]? = some (.cells (sxA x a c) 55 (0,0))→Below W.heap.size W W'→W'.heap[w2.heap.size]? = some (.cells (sxA x a c) 55 (0,0)):=fun W W' h hb=>(hb.block _ (lt_of_heap h)).trans h
  have hdr:Below wr.heap.size wr wr.drew:=(Below.refl _ _).drew;have CW:=hCC _ _ QX hdr;refine wp_region_cls (fun W=>W.heap[w2.heap.size]? = some (.cells (sxA x a c) 55 (0,0))) (by kernel_rfl) ?_;refine wpY_take hCC (some 16) (i:=0) (v:=.int .i64 sk) rfl rfl (by kernel_rfl) (by kernel_rfl) (by kernel_rfl) (fun _ _ _ h=>h) (Or.inl ⟨rfl,fun n hn=>?_⟩) CW ?_
  ·go_simp
  simp only [Act.put,pA,pB,pC];refine wpY_take hCC (some 17) (i:=1) (v:=.agg (sxA x a c)) rfl rfl (by kernel_rfl) (by kernel_rfl) (by kernel_rfl) (fun _ _ _ h=>h) (Or.inl ⟨rfl,fun n hn=>?_⟩) CW ?_
  ·obtain ⟨u0,u1,u2,u3,u4,u5,u6⟩:=cells7 hn;go_simp
  simp only [Act.put,pA,pB,pC];refine wpY_take hCC (some 18) (i:=2) (v:=.pointer (some ⟨R,0,none⟩)) rfl rfl (by kernel_rfl) (by kernel_rfl) (by kernel_rfl) (fun _ _ _ h=>h) (Or.inl ⟨rfl,fun n hn=>?_⟩) CW ?_
  ·go_simp
  simp only [Act.put,pA,pB,pC];refine wpY_step (rs:=[3]) (by kernel_rfl) (by simp) ?_;intro w5 hb5 jj hj;obtain rfl:jj=3:=by simpa using hj
  clear hj;have D5:=chain hdr hb5;have CW5:=hCC _ _ CW hb5;have con:=HV.out w5 R tb ss (HR.out.next D5) hne;generalize chainP n 5 o ss=L at *;refine wpOp_step rfl (fun K hK=>?_);go_simp;refine con.mono ?_;rintro e w6 ⟨hb6,hW⟩;clear con;have C6:=(hb6.2 _ (lt_of_heap CW5) (by omega)).trans CW5;have hx6:BelowX R w w6:=(hx.trans (.of D5 (by omega))).trans hb6;have hz5:=D5.size;have hz6:=hb6.size;rcases L with ce | ⟨y,r2⟩
  ·obtain ⟨rfl,us,hE⟩:=hW;have e:M = .error ce:=HL3.out.symm;subst e;exact ⟨rfl,Ends.err rfl hx6 hE⟩
  obtain ⟨v,rfl,⟨b,d,rfl,hks⟩,hRW⟩:=hW;have e:M = .ok (nd sk [x,y],r2):=HL3.out.symm;subst e;refine hK _ _ ⟨C6,?_⟩;clear hK K CW CW5 HL3 hne;refine wpY_step (rs:=[4]) (by kernel_rfl) (by simp) ?_;intro w7 hb7 jj hj;obtain rfl:jj=4:=by simpa using hj
  clear hj;have C7:=hCC _ _ C6 hb7;have hal8:Below w7.heap.size w7 (w7.alloc (.cells #[.int .i64 x.k,.int .i64 x.v.1,.int .i64 x.v.2.1,.string x.v.2.2,.string x.tab,.string x.name,.slice a x.ks.length c,.int .i64 y.k,.int .i64 y.v.1,.int .i64 y.v.2.1,.string y.v.2.2,.string y.tab,.string y.name,.slice b y.ks.length d] 55)):=(Below.refl _ _).alloc (Nat.le_refl _) _;have hz7:=hb7.size;have KX7:SsS (S1 (w.heap.size+1) w2.heap.size) w7 a x.ks:=SsS.next hb7 (SsS.k1 hb6.k1 (fun h=>by have:=h.1; omega) (SsS.next D5 HK.out))
  have KY7:SsS (S1 (w.heap.size+1) w2.heap.size) w7 b y.ks:=SsS.next hb7 (SsS.mono (fun b h1 h2=>⟨by have:w5.heap.size≤b:=h1; omega,by have:w5.heap.size≤b:=h1; omega⟩) hks);have K8:Hid (SsS (S1 (w.heap.size+1) w2.heap.size) (w7.alloc (.cells #[.int .i64 x.k,.int .i64 x.v.1,.int .i64 x.v.2.1,.string x.v.2.2,.string x.tab,.string x.name,.slice a x.ks.length c,.int .i64 y.k,.int .i64 y.v.1,.int .i64 y.v.2.1,.string y.v.2.2,.string y.tab,.string y.name,.slice b y.ks.length d] 55)) (some ⟨w7.heap.size,0,none⟩) [x,y]):=SsS.two _ KX7 KY7 ⟨by omega,by omega⟩;have C8:=hCC _ _ C7 hal8
  refine wpOp_step rfl (fun K hK=>?_);go_simp;refine hK _ _ ⟨C8,?_⟩;clear hK K KX7 KY7 hks;generalize w7.alloc (.cells #[.int .i64 x.k,.int .i64 x.v.1,.int .i64 x.v.2.1,.string x.v.2.2,.string x.tab,.string x.name,.slice a x.ks.length c,.int .i64 y.k,.int .i64 y.v.1,.int .i64 y.v.2.1,.string y.v.2.2,.string y.tab,.string y.name,.slice b y.ks.length d] 55)=w8 at *;refine wpY_step (rs:=[5]) (by kernel_rfl) (by simp) ?_;intro w9 hb9 jj hj;obtain rfl:jj=5:=by simpa using hj
  clear hj;have C9:=hCC _ _ C8 hb9;have con9:=node_at sk (some ⟨w7.heap.size,0,none⟩) 2 2 w9;refine wpOp_step rfl (fun K hK=>?_);go_simp;refine con9.mono ?_;rintro e w10 ⟨rfl,hb10⟩;have C10:=hCC _ _ C9 hb10;refine hK _ _ ⟨C10,?_⟩;clear hK K con9;refine wpY_step (rs:=[6]) (by kernel_rfl) (by simp) ?_;intro w11 hb11 jj hj;obtain rfl:jj=6:=by simpa using hj
  clear hj;have C11:=hCC _ _ C10 hb11;have D11:Below w7.heap.size w7 w11:=chain hal8 (chain hb9 (chain hb10 hb11));have D6:Below w6.heap.size w6 w11:=chain hb7 D11;have K11:SsS (S1 (w.heap.size+1) w2.heap.size) w11 (some ⟨w7.heap.size,0,none⟩) [x,y]:=SsS.next (chain hb9 (chain hb10 hb11)) K8.out;have R11:=hRW.next D6;have hx11:BelowX R w w11:=hx6.trans (.of D6 (by omega));have QZ11:w11.heap[w.heap.size]? = some (.cells z7A 55 (0,0)):=(D6.block _ (by omega)).trans ((hb6.2 _ (by omega) (by omega)).trans ((D5.block _ (by omega)).trans QZ));obtain ⟨u0,u1,u2,u3,u4,u5,u6⟩:=cells7 QZ11
  obtain ⟨y0,y1,y2,y3,y4,y5,y6⟩:=froz7 QZ11;obtain ⟨QE,hRE,hKE,hbE,hk1⟩:=st7_allS (w:=w) (x:=nd sk [x,y]) (a:=some ⟨w7.heap.size,0,none⟩) (cap:=2) QZ11 R11 K11 hx11 (Nat.le_refl _) (fun h=>by have:=h.1; omega) hltR hltT
  change (((((((w11.setCell ⟨w.heap.size,0,none⟩ (.int .i64 sk)).setCell ⟨w.heap.size,1,none⟩ (.int .i64 0)).setCell ⟨w.heap.size,2,none⟩ (.int .i64 0)).setCell ⟨w.heap.size,3,none⟩ (.string ⟨#[]⟩)).setCell ⟨w.heap.size,4,none⟩ (.string ⟨#[]⟩)).setCell ⟨w.heap.size,5,none⟩ (.string ⟨#[]⟩)).setCell ⟨w.heap.size,6,none⟩ (.slice (some ⟨w7.heap.size,0,none⟩) 2 2)).heap[w.heap.size]? = some (.cells #[.int .i64 sk,.int .i64 0,.int .i64 0,.string ⟨#[]⟩,.string ⟨#[]⟩,.string ⟨#[]⟩,.slice (some ⟨w7.heap.size,0,none⟩) 2 2] 55 (0,0)) at QE
  change RdAt (((((((w11.setCell ⟨w.heap.size,0,none⟩ (.int .i64 sk)).setCell ⟨w.heap.size,1,none⟩ (.int .i64 0)).setCell ⟨w.heap.size,2,none⟩ (.int .i64 0)).setCell ⟨w.heap.size,3,none⟩ (.string ⟨#[]⟩)).setCell ⟨w.heap.size,4,none⟩ (.string ⟨#[]⟩)).setCell ⟨w.heap.size,5,none⟩ (.string ⟨#[]⟩)).setCell ⟨w.heap.size,6,none⟩ (.slice (some ⟨w7.heap.size,0,none⟩) 2 2)) R tb r2 o at hRE
  change SsS _ (((((((w11.setCell ⟨w.heap.size,0,none⟩ (.int .i64 sk)).setCell ⟨w.heap.size,1,none⟩ (.int .i64 0)).setCell ⟨w.heap.size,2,none⟩ (.int .i64 0)).setCell ⟨w.heap.size,3,none⟩ (.string ⟨#[]⟩)).setCell ⟨w.heap.size,4,none⟩ (.string ⟨#[]⟩)).setCell ⟨w.heap.size,5,none⟩ (.string ⟨#[]⟩)).setCell ⟨w.heap.size,6,none⟩ (.slice (some ⟨w7.heap.size,0,none⟩) 2 2)) _ _ at hKE
  change BelowX R w (((((((w11.setCell ⟨w.heap.size,0,none⟩ (.int .i64 sk)).setCell ⟨w.heap.size,1,none⟩ (.int .i64 0)).setCell ⟨w.heap.size,2,none⟩ (.int .i64 0)).setCell ⟨w.heap.size,3,none⟩ (.string ⟨#[]⟩)).setCell ⟨w.heap.size,4,none⟩ (.string ⟨#[]⟩)).setCell ⟨w.heap.size,5,none⟩ (.string ⟨#[]⟩)).setCell ⟨w.heap.size,6,none⟩ (.slice (some ⟨w7.heap.size,0,none⟩) 2 2)) at hbE
  change Keeps1 _ w11 (((((((w11.setCell ⟨w.heap.size,0,none⟩ (.int .i64 sk)).setCell ⟨w.heap.size,1,none⟩ (.int .i64 0)).setCell ⟨w.heap.size,2,none⟩ (.int .i64 0)).setCell ⟨w.heap.size,3,none⟩ (.string ⟨#[]⟩)).setCell ⟨w.heap.size,4,none⟩ (.string ⟨#[]⟩)).setCell ⟨w.heap.size,5,none⟩ (.string ⟨#[]⟩)).setCell ⟨w.heap.size,6,none⟩ (.slice (some ⟨w7.heap.size,0,none⟩) 2 2)) at hk1;refine wpOp_step rfl (fun K hK=>?_);go_simp
  generalize (((((((w11.setCell ⟨w.heap.size,0,none⟩ (.int .i64 sk)).setCell ⟨w.heap.size,1,none⟩ (.int .i64 0)).setCell ⟨w.heap.size,2,none⟩ (.int .i64 0)).setCell ⟨w.heap.size,3,none⟩ (.string ⟨#[]⟩)).setCell ⟨w.heap.size,4,none⟩ (.string ⟨#[]⟩)).setCell ⟨w.heap.size,5,none⟩ (.string ⟨#[]⟩)).setCell ⟨w.heap.size,6,none⟩ (.slice (some ⟨w7.heap.size,0,none⟩) 2 2))=wE at *;have CE:=(hk1.2 _ (lt_of_heap C11) (by omega)).trans C11;refine hK _ _ ⟨CE,?_⟩;clear hK K;refine wpY_done (by kernel_rfl) ?_;intro w12 hb12;have QZ12:=(hb12.block _ (lt_of_heap QE)).trans QE;have K12:=SsS.next hb12 hKE
  have R12:=hRE.next hb12;have hx12:BelowX R w w12:=hbE.trans (.of hb12 (by have:=hbE.size; omega));clear u0 u1 u2 u3 u4 u5 u6 y0 y1 y2 y3 y4 y5 y6;obtain ⟨x0,x1,x2,x3,x4,x5,x6⟩:=cells7 QZ12;have HR12:Hid (RdAt w12 R tb r2 o):=R12;have HK12:Hid (SsS (S1 (w.heap.size+1) w2.heap.size) w12 (some ⟨w7.heap.size,0,none⟩) [x,y]):=K12;clear R12 K12 hRE hKE;go_wp2_with fail
  exact bodyPost_ret (v:=.agg (sxA (nd sk [x,y]) (some ⟨w7.heap.size,0,none⟩) 2)) (by simp [results,Tryz.results243,go_sem,x0,x1,x2,x3,x4,x5,x6]; and_intros <;> rfl) rfl (Ends.good rfl hx12 ⟨_,2,rfl,SsS.mono (fun b h _=>by have:=h.1; show w.heap.size≤b; omega) HK12.out⟩ HR12.out)

theorem agg_step {n:Nat} {kind o:Int} (hv:CtE 164 [] (exprP n o) o):CtE 246 [.int .i64 kind] (aggP (n+1) kind o) o:=by
 intro w R tb ts h hf;rw [aggP] at hf ⊢;have hltR:=h.lt;have hltT:=h.ltb;have hA:Below w.heap.size w (w.alloc (.cells z7A 55)):=(Below.refl _ _).alloc (Nat.le_refl _) _;have QZ1:=heap_new w z7A 55;have hz1:w.heap.size<(w.alloc (.cells z7A 55)).heap.size:=lt_of_heap QZ1;have h1:=h.next hA;have hal2:Below (w.alloc (.cells z7A 55)).heap.size (w.alloc (.cells z7A 55)) ((w.alloc (.cells z7A 55)).alloc (.cells #[.string ⟨#[40]⟩] 9)):=(Below.refl _ _).alloc (Nat.le_refl _) _;have hst:StrAt ((w.alloc (.cells z7A 55)).alloc (.cells #[.string ⟨#[40]⟩] 9)) (w.heap.size+1) 0 [⟨#[40]⟩]:=by
  have:=StrAt.one (w.alloc (.cells z7A 55)) ⟨#[40]⟩ 9;rw [show (w.alloc (.cells z7A 55)).heap.size=w.heap.size+1 by simp] at this;exact this
 have con:=must_at (cap:=1) (h1.next hal2) hst (by omega) (by simp);clear hst;have HV:Hid (CtE 164 [] (exprP n o) o):=hv;generalize hM:bnd (mustP [⟨#[40]⟩] ts) _=M at *;have HF:Hid (M≠fuelE):=hf;have HM:Hid (bnd (mustP [⟨#[40]⟩] ts) (fun _ r=>if kind=20∧isP ⟨#[42]⟩ r=true then bnd (mustP [⟨#[41]⟩] (passP r)) fun _ r2=>.ok (nd 19 [],r2) else bnd (exprP n o r) fun x r2=>bnd (mustP [⟨#[41]⟩] r2) fun _ r3=>.ok (nd kind [x],r3))=M):=hM;generalize mustP [⟨#[40]⟩] ts=L at *;clear h h1 hf hM hv;go_enter Tryz.func246,Tryz.ntmps246;go_wp2_with fail
 generalize (w.alloc (.cells z7A 55)).alloc (.cells #[.string ⟨#[40]⟩] 9)=w1' at *;generalize w.alloc (.cells z7A 55)=w1 at *;refine con.mono ?_;rintro e w2 ⟨hb2,hW⟩;have hx12:BelowX R w1 w2:=(BelowX.of hal2 (by omega)).trans hb2;have QZ2:=(hx12.2 _ (lt_of_heap QZ1) (by omega)).trans QZ1;have hx2:BelowX R w w2:=(BelowX.of hA (by omega)).trans hx12;have hz2:=lt_of_heap QZ2;clear con hal2 hb2;rcases L with ce | ⟨u,rs⟩
 ·obtain ⟨rfl,us,hE⟩:=hW;have HE:Hid (RdAt w2 R tb us o):=hE;clear hE;have e:M = .error ce:=HM.out.symm;subst e;clear HM HF;go_wp2_with fail
  exact ⟨rfl,Ends.err rfl hx2 HE.out⟩
 obtain ⟨v,rfl,rfl,hR2⟩:=hW;have HL:Hid ((if kind=20∧isP ⟨#[42]⟩ rs=true then bnd (mustP [⟨#[41]⟩] (passP rs)) fun _ r2=>.ok (nd 19 [],r2) else bnd (exprP n o rs) fun x r2=>bnd (mustP [⟨#[41]⟩] r2) fun _ r3=>.ok (nd kind [x],r3))=M):=HM.out;have HR2:Hid (RdAt w2 R tb rs o):=hR2;clear HM hR2;by_cases hst:kind=20∧isP ⟨#[42]⟩ rs=true
 case pos =>
  obtain ⟨rfl,hi⟩:=hst;have HL2:Hid (bnd (mustP [⟨#[41]⟩] (passP rs)) (fun _ r2=>.ok (nd 19 [],r2))=M):=by have:=HL.out; rw [if_pos ⟨rfl,hi⟩] at this; exact this
  have con2:=took_at HR2.out ⟨#[42]⟩;rw [hi,tookP_t hi] at con2;clear HL;go_wp2_with fail
  refine con2.mono ?_;rintro e w3 ⟨rfl,h3,hb3⟩;have hal4:Below w3.heap.size w3 (w3.alloc (.cells #[.string ⟨#[41]⟩] 9)):=(Below.refl _ _).alloc (Nat.le_refl _) _;have con3:=must_at (cap:=1) (h3.next hal4) (StrAt.one w3 ⟨#[41]⟩ 9) (by have:=h3.lt; omega) (by simp);have hx3:=hx2.trans hb3;have QZ3:=(hb3.2 _ (lt_of_heap QZ2) (by omega)).trans QZ2;have hz3:=lt_of_heap QZ3;generalize mustP [⟨#[41]⟩] (passP rs)=L2 at *;clear con2 h3;go_wp2_with fail
  generalize w3.alloc (.cells #[.string ⟨#[41]⟩] 9)=w4 at *;refine con3.mono ?_;rintro e w5 ⟨hb5,hW⟩;have hx35:BelowX R w3 w5:=(BelowX.of hal4 (by omega)).trans hb5;have QZ5:=(hx35.2 _ (lt_of_heap QZ3) (by omega)).trans QZ3;have hx5:=hx3.trans hx35;have hz5:=lt_of_heap QZ5;clear con3;rcases L2 with ce | ⟨u2,r2⟩
  ·obtain ⟨rfl,us,hE⟩:=hW;have HE:Hid (RdAt w5 R tb us o):=hE;clear hE;have e:M = .error ce:=HL2.out.symm;subst e;clear HL2 HF;go_wp2_with fail
   exact ⟨rfl,Ends.err rfl hx5 HE.out⟩
  obtain ⟨v,rfl,rfl,hR5⟩:=hW;have e:M = .ok (nd 19 [],r2):=HL2.out.symm;subst e;have HR5:Hid (RdAt w5 R tb r2 o):=hR5;have con6:=node_at 19 none 0 0 w5;clear HL2 HF hR5;go_wp2_with fail
  refine con6.mono ?_;rintro e w8 ⟨rfl,hb8⟩;have QZ8:=(hb8.block _ (lt_of_heap QZ5)).trans QZ5;obtain ⟨z0,z1,z2,z3,z4,z5,z6⟩:=cells7 QZ8;obtain ⟨y0,y1,y2,y3,y4,y5,y6⟩:=froz7 QZ8;have hx8:BelowX R w w8:=hx5.trans (.of hb8 (by omega));have HR8:Hid (RdAt w8 R tb r2 o):=HR5.out.next hb8;clear con6;go_wp2_with fail
  obtain ⟨QE,hRE,hKE,hbE⟩:=st7_all (w:=w) (x:=nd 19 []) (a:=none) (cap:=0) (B:=w.heap.size+1) QZ8 HR8.out (SsS.nil _) hx8 (Nat.le_refl _) (by omega) hltR hltT;change (((((((w8.setCell ⟨w.heap.size,0,none⟩ (.int .i64 19)).setCell ⟨w.heap.size,1,none⟩ (.int .i64 0)).setCell ⟨w.heap.size,2,none⟩ (.int .i64 0)).setCell ⟨w.heap.size,3,none⟩ (.string ⟨#[]⟩)).setCell ⟨w.heap.size,4,none⟩ (.string ⟨#[]⟩)).setCell ⟨w.heap.size,5,none⟩ (.string ⟨#[]⟩)).setCell ⟨w.heap.size,6,none⟩ (.slice none 0 0)).heap[w.heap.size]? = _ at QE
  change RdAt (((((((w8.setCell ⟨w.heap.size,0,none⟩ (.int .i64 19)).setCell ⟨w.heap.size,1,none⟩ (.int .i64 0)).setCell ⟨w.heap.size,2,none⟩ (.int .i64 0)).setCell ⟨w.heap.size,3,none⟩ (.string ⟨#[]⟩)).setCell ⟨w.heap.size,4,none⟩ (.string ⟨#[]⟩)).setCell ⟨w.heap.size,5,none⟩ (.string ⟨#[]⟩)).setCell ⟨w.heap.size,6,none⟩ (.slice none 0 0)) R tb r2 o at hRE
  change SsAt _ (((((((w8.setCell ⟨w.heap.size,0,none⟩ (.int .i64 19)).setCell ⟨w.heap.size,1,none⟩ (.int .i64 0)).setCell ⟨w.heap.size,2,none⟩ (.int .i64 0)).setCell ⟨w.heap.size,3,none⟩ (.string ⟨#[]⟩)).setCell ⟨w.heap.size,4,none⟩ (.string ⟨#[]⟩)).setCell ⟨w.heap.size,5,none⟩ (.string ⟨#[]⟩)).setCell ⟨w.heap.size,6,none⟩ (.slice none 0 0)) _ _ at hKE
  change BelowX R w (((((((w8.setCell ⟨w.heap.size,0,none⟩ (.int .i64 19)).setCell ⟨w.heap.size,1,none⟩ (.int .i64 0)).setCell ⟨w.heap.size,2,none⟩ (.int .i64 0)).setCell ⟨w.heap.size,3,none⟩ (.string ⟨#[]⟩)).setCell ⟨w.heap.size,4,none⟩ (.string ⟨#[]⟩)).setCell ⟨w.heap.size,5,none⟩ (.string ⟨#[]⟩)).setCell ⟨w.heap.size,6,none⟩ (.slice none 0 0)) at hbE
  generalize (((((((w8.setCell ⟨w.heap.size,0,none⟩ (.int .i64 19)).setCell ⟨w.heap.size,1,none⟩ (.int .i64 0)).setCell ⟨w.heap.size,2,none⟩ (.int .i64 0)).setCell ⟨w.heap.size,3,none⟩ (.string ⟨#[]⟩)).setCell ⟨w.heap.size,4,none⟩ (.string ⟨#[]⟩)).setCell ⟨w.heap.size,5,none⟩ (.string ⟨#[]⟩)).setCell ⟨w.heap.size,6,none⟩ (.slice none 0 0))=wE at *;obtain ⟨x0,x1,x2,x3,x4,x5,x6⟩:=cells7 QE;exact bodyPost_ret (v:=.agg (sxA (nd 19 []) none 0)) (by simp [results,Tryz.results246,go_sem,x0,x1,x2,x3,x4,x5,x6]) rfl (Ends.good rfl hbE ⟨_,0,rfl,hKE.mono (by omega)⟩ hRE)
 have HL2:Hid (bnd (exprP n o rs) (fun x r2=>bnd (mustP [⟨#[41]⟩] r2) fun _ r3=>.ok (nd kind [x],r3))=M):=by have:=HL.out; rw [if_neg hst] at this; exact this
 have hne:exprP n o rs≠fuelE:=fun hc=>HF.out (by rw [← HL2.out,hc]; rfl)
 clear HL;rcases hk:kind == 20 with _ | _
 ·have conx:=HV.out w2 R tb rs HR2.out hne;generalize exprP n o rs=L3 at *;go_wp2_with fail
  refine conx.mono ?_;rintro e w5 ⟨hb5,hW⟩;have hx5:=hx2.trans hb5;have QZ5:=(hb5.2 _ (lt_of_heap QZ2) (by omega)).trans QZ2;have hz5:=lt_of_heap QZ5;clear conx hne;rcases L3 with ce | ⟨x,r2⟩
  ·obtain ⟨rfl,us,hE⟩:=hW;have HE:Hid (RdAt w5 R tb us o):=hE;clear hE;have e:M = .error ce:=HL2.out.symm;subst e;clear HL2 HF;go_wp2_with fail
   exact ⟨rfl,Ends.err rfl hx5 HE.out⟩
  obtain ⟨v,rfl,⟨a,c,rfl,hks⟩,hR5⟩:=hW;have HL3:Hid (bnd (mustP [⟨#[41]⟩] r2) (fun _ r3=>.ok (nd kind [x],r3))=M):=HL2.out;have hal6:Below w5.heap.size w5 (w5.alloc (.cells (sxA x a c) 55)):=(Below.refl _ _).alloc (Nat.le_refl _) _;have QX6:=heap_new w5 (sxA x a c) 55;have QZ6:=(hal6.block _ (lt_of_heap QZ5)).trans QZ5;have h6:=hR5.next hal6;have HK6:Hid (SsAt (w.heap.size+1) (w5.alloc (.cells (sxA x a c) 55)) a x.ks):=SsAt.next hal6 (SsAt.mono (by omega) hks)
  have hal7:Below (w5.alloc (.cells (sxA x a c) 55)).heap.size (w5.alloc (.cells (sxA x a c) 55)) ((w5.alloc (.cells (sxA x a c) 55)).alloc (.cells #[.string ⟨#[41]⟩] 9)):=(Below.refl _ _).alloc (Nat.le_refl _) _;have hst7:StrAt ((w5.alloc (.cells (sxA x a c) 55)).alloc (.cells #[.string ⟨#[41]⟩] 9)) (w5.heap.size+1) 0 [⟨#[41]⟩]:=by
   have:=StrAt.one (w5.alloc (.cells (sxA x a c) 55)) ⟨#[41]⟩ 9;rw [show (w5.alloc (.cells (sxA x a c) 55)).heap.size=w5.heap.size+1 by simp] at this;exact this
  have con7:=must_at (cap:=1) (h6.next hal7) hst7 (by omega) (by simp);clear hst7;have hx6:BelowX R w (w5.alloc (.cells (sxA x a c) 55)):=hx5.trans (.of hal6 (by omega));have hz6:=lt_of_heap QX6;generalize mustP [⟨#[41]⟩] r2=L4 at *;clear HL2 hR5 hks h6;go_wp2_with fail
  generalize (w5.alloc (.cells (sxA x a c) 55)).alloc (.cells #[.string ⟨#[41]⟩] 9)=w7 at *;generalize w5.alloc (.cells (sxA x a c) 55)=w6 at *;refine con7.mono ?_;rintro e w8 ⟨hb8,hW⟩;have hx68:BelowX R w6 w8:=(BelowX.of hal7 (by omega)).trans hb8;have hx8:=hx6.trans hx68;have QX8:=(hx68.2 _ (lt_of_heap QX6) (by omega)).trans QX6;have QZ8:=(hx68.2 _ (lt_of_heap QZ6) (by omega)).trans QZ6;have HK8:Hid (SsAt (w.heap.size+1) w8 a x.ks):=SsAt.k1 hx68.k1 (by omega) HK6.out;have hz8:=lt_of_heap QX8;clear con7;rcases L4 with ce | ⟨u4,r4⟩
  ·obtain ⟨rfl,us,hE⟩:=hW;have HE:Hid (RdAt w8 R tb us o):=hE;clear hE;have e:M = .error ce:=HL3.out.symm;subst e;clear HL3 HF;go_wp2_with fail
   exact ⟨rfl,Ends.err rfl hx8 HE.out⟩
  obtain ⟨v,rfl,rfl,hR8⟩:=hW;have e:M = .ok (nd kind [x],r4):=HL3.out.symm;subst e;have HR8:Hid (RdAt w8 R tb r4 o):=hR8;obtain ⟨b0,b1,b2,b3,b4,b5,b6⟩:=cells7 QX8;have hal9:Below w8.heap.size w8 (w8.alloc (.cells #[.int .i64 x.k,.int .i64 x.v.1,.int .i64 x.v.2.1,.string x.v.2.2,.string x.tab,.string x.name,.slice a x.ks.length c] 55)):=(Below.refl _ _).alloc (Nat.le_refl _) _
  have K9:Hid (SsAt (w.heap.size+1) (w8.alloc (.cells #[.int .i64 x.k,.int .i64 x.v.1,.int .i64 x.v.2.1,.string x.v.2.2,.string x.tab,.string x.name,.slice a x.ks.length c] 55)) (some ⟨w8.heap.size,0,none⟩) [x]):=SsS.one _ HK8.out (by show _≤_; omega);have con9:=node_at kind (some ⟨w8.heap.size,0,none⟩) 1 1 (w8.alloc (.cells #[.int .i64 x.k,.int .i64 x.v.1,.int .i64 x.v.2.1,.string x.v.2.2,.string x.tab,.string x.name,.slice a x.ks.length c] 55));clear HL3 HF hR8;go_wp2_with fail
  generalize w8.alloc (.cells #[.int .i64 x.k,.int .i64 x.v.1,.int .i64 x.v.2.1,.string x.v.2.2,.string x.tab,.string x.name,.slice a x.ks.length c] 55)=w9 at *;refine con9.mono ?_;rintro e w10 ⟨rfl,hb10⟩;have hb8x:=chain hal9 hb10;have QZ10:=(hb8x.block _ (lt_of_heap QZ8)).trans QZ8;obtain ⟨z0,z1,z2,z3,z4,z5,z6⟩:=cells7 QZ10;obtain ⟨y0,y1,y2,y3,y4,y5,y6⟩:=froz7 QZ10;have K10:Hid (SsAt (w.heap.size+1) w10 (some ⟨w8.heap.size,0,none⟩) [x]):=SsAt.next hb10 K9.out;have hx10:BelowX R w w10:=hx8.trans (.of hb8x (by omega));have HR10:Hid (RdAt w10 R tb r4 o):=HR8.out.next hb8x
  clear con9 b0 b1 b2 b3 b4 b5 b6;go_wp2_with fail
  obtain ⟨QE,hRE,hKE,hbE⟩:=st7_all (w:=w) (x:=nd kind [x]) (a:=some ⟨w8.heap.size,0,none⟩) (cap:=1) QZ10 HR10.out K10.out hx10 (Nat.le_refl _) (by omega) hltR hltT;change (((((((w10.setCell ⟨w.heap.size,0,none⟩ (.int .i64 kind)).setCell ⟨w.heap.size,1,none⟩ (.int .i64 0)).setCell ⟨w.heap.size,2,none⟩ (.int .i64 0)).setCell ⟨w.heap.size,3,none⟩ (.string ⟨#[]⟩)).setCell ⟨w.heap.size,4,none⟩ (.string ⟨#[]⟩)).setCell ⟨w.heap.size,5,none⟩ (.string ⟨#[]⟩)).setCell ⟨w.heap.size,6,none⟩ (.slice (some ⟨w8.heap.size,0,none⟩) 1 1)).heap[w.heap.size]? = _ at QE
  change RdAt (((((((w10.setCell ⟨w.heap.size,0,none⟩ (.int .i64 kind)).setCell ⟨w.heap.size,1,none⟩ (.int .i64 0)).setCell ⟨w.heap.size,2,none⟩ (.int .i64 0)).setCell ⟨w.heap.size,3,none⟩ (.string ⟨#[]⟩)).setCell ⟨w.heap.size,4,none⟩ (.string ⟨#[]⟩)).setCell ⟨w.heap.size,5,none⟩ (.string ⟨#[]⟩)).setCell ⟨w.heap.size,6,none⟩ (.slice (some ⟨w8.heap.size,0,none⟩) 1 1)) R tb r4 o at hRE
  change SsAt _ (((((((w10.setCell ⟨w.heap.size,0,none⟩ (.int .i64 kind)).setCell ⟨w.heap.size,1,none⟩ (.int .i64 0)).setCell ⟨w.heap.size,2,none⟩ (.int .i64 0)).setCell ⟨w.heap.size,3,none⟩ (.string ⟨#[]⟩)).setCell ⟨w.heap.size,4,none⟩ (.string ⟨#[]⟩)).setCell ⟨w.heap.size,5,none⟩ (.string ⟨#[]⟩)).setCell ⟨w.heap.size,6,none⟩ (.slice (some ⟨w8.heap.size,0,none⟩) 1 1)) _ _ at hKE
  change BelowX R w (((((((w10.setCell ⟨w.heap.size,0,none⟩ (.int .i64 kind)).setCell ⟨w.heap.size,1,none⟩ (.int .i64 0)).setCell ⟨w.heap.size,2,none⟩ (.int .i64 0)).setCell ⟨w.heap.size,3,none⟩ (.string ⟨#[]⟩)).setCell ⟨w.heap.size,4,none⟩ (.string ⟨#[]⟩)).setCell ⟨w.heap.size,5,none⟩ (.string ⟨#[]⟩)).setCell ⟨w.heap.size,6,none⟩ (.slice (some ⟨w8.heap.size,0,none⟩) 1 1)) at hbE
  generalize (((((((w10.setCell ⟨w.heap.size,0,none⟩ (.int .i64 kind)).setCell ⟨w.heap.size,1,none⟩ (.int .i64 0)).setCell ⟨w.heap.size,2,none⟩ (.int .i64 0)).setCell ⟨w.heap.size,3,none⟩ (.string ⟨#[]⟩)).setCell ⟨w.heap.size,4,none⟩ (.string ⟨#[]⟩)).setCell ⟨w.heap.size,5,none⟩ (.string ⟨#[]⟩)).setCell ⟨w.heap.size,6,none⟩ (.slice (some ⟨w8.heap.size,0,none⟩) 1 1))=wE at *;obtain ⟨x0,x1,x2,x3,x4,x5,x6⟩:=cells7 QE
  exact bodyPost_ret (v:=.agg (sxA (nd kind [x]) (some ⟨w8.heap.size,0,none⟩) 1)) (by simp [results,Tryz.results246,go_sem,x0,x1,x2,x3,x4,x5,x6]) rfl (Ends.good rfl hbE ⟨_,1,rfl,hKE.mono (by omega)⟩ hRE)
 ·have hkk:kind=20:=by simpa using hk
  have hi:isP ⟨#[42]⟩ rs=false:=by
   rcases hh:isP ⟨#[42]⟩ rs with _ | _
   ·rfl
   ·exact absurd ⟨hkk,hh⟩ hst
  subst hkk;clear hk hst;have con2:=took_at HR2.out ⟨#[42]⟩;rw [hi,tookP_f hi] at con2;go_wp2_with fail
  refine con2.mono ?_;rintro e w3 ⟨rfl,h3,hb3⟩;have HR3:Hid (RdAt w3 R tb rs o):=h3;have hx3:=hx2.trans hb3;have QZ3:=(hb3.2 _ (lt_of_heap QZ2) (by omega)).trans QZ2;have hz3:=lt_of_heap QZ3;clear con2 h3;have conx:=HV.out w3 R tb rs HR3.out hne;generalize exprP n o rs=L3 at *;go_wp2_with fail
  refine conx.mono ?_;rintro e w5 ⟨hb5,hW⟩;have hx5:=hx3.trans hb5;have QZ5:=(hb5.2 _ (lt_of_heap QZ3) (by omega)).trans QZ3;have hz5:=lt_of_heap QZ5;clear conx hne;rcases L3 with ce | ⟨x,r2⟩
  ·obtain ⟨rfl,us,hE⟩:=hW;have HE:Hid (RdAt w5 R tb us o):=hE;clear hE;have e:M = .error ce:=HL2.out.symm;subst e;clear HL2 HF;go_wp2_with fail
   exact ⟨rfl,Ends.err rfl hx5 HE.out⟩
  obtain ⟨v,rfl,⟨a,c,rfl,hks⟩,hR5⟩:=hW;have HL3:Hid (bnd (mustP [⟨#[41]⟩] r2) (fun _ r3=>.ok (nd 20 [x],r3))=M):=HL2.out;have hal6:Below w5.heap.size w5 (w5.alloc (.cells (sxA x a c) 55)):=(Below.refl _ _).alloc (Nat.le_refl _) _;have QX6:=heap_new w5 (sxA x a c) 55;have QZ6:=(hal6.block _ (lt_of_heap QZ5)).trans QZ5;have h6:=hR5.next hal6;have HK6:Hid (SsAt (w.heap.size+1) (w5.alloc (.cells (sxA x a c) 55)) a x.ks):=SsAt.next hal6 (SsAt.mono (by omega) hks)
  have hal7:Below (w5.alloc (.cells (sxA x a c) 55)).heap.size (w5.alloc (.cells (sxA x a c) 55)) ((w5.alloc (.cells (sxA x a c) 55)).alloc (.cells #[.string ⟨#[41]⟩] 9)):=(Below.refl _ _).alloc (Nat.le_refl _) _;have hst7:StrAt ((w5.alloc (.cells (sxA x a c) 55)).alloc (.cells #[.string ⟨#[41]⟩] 9)) (w5.heap.size+1) 0 [⟨#[41]⟩]:=by
   have:=StrAt.one (w5.alloc (.cells (sxA x a c) 55)) ⟨#[41]⟩ 9;rw [show (w5.alloc (.cells (sxA x a c) 55)).heap.size=w5.heap.size+1 by simp] at this;exact this
  have con7:=must_at (cap:=1) (h6.next hal7) hst7 (by omega) (by simp);clear hst7;have hx6:BelowX R w (w5.alloc (.cells (sxA x a c) 55)):=hx5.trans (.of hal6 (by omega));have hz6:=lt_of_heap QX6;generalize mustP [⟨#[41]⟩] r2=L4 at *;clear HL2 hR5 hks h6;go_wp2_with fail
  generalize (w5.alloc (.cells (sxA x a c) 55)).alloc (.cells #[.string ⟨#[41]⟩] 9)=w7 at *;generalize w5.alloc (.cells (sxA x a c) 55)=w6 at *;refine con7.mono ?_;rintro e w8 ⟨hb8,hW⟩;have hx68:BelowX R w6 w8:=(BelowX.of hal7 (by omega)).trans hb8;have hx8:=hx6.trans hx68;have QX8:=(hx68.2 _ (lt_of_heap QX6) (by omega)).trans QX6;have QZ8:=(hx68.2 _ (lt_of_heap QZ6) (by omega)).trans QZ6;have HK8:Hid (SsAt (w.heap.size+1) w8 a x.ks):=SsAt.k1 hx68.k1 (by omega) HK6.out;have hz8:=lt_of_heap QX8;clear con7;rcases L4 with ce | ⟨u4,r4⟩
  ·obtain ⟨rfl,us,hE⟩:=hW;have HE:Hid (RdAt w8 R tb us o):=hE;clear hE;have e:M = .error ce:=HL3.out.symm;subst e;clear HL3 HF;go_wp2_with fail
   exact ⟨rfl,Ends.err rfl hx8 HE.out⟩
  obtain ⟨v,rfl,rfl,hR8⟩:=hW;have e:M = .ok (nd 20 [x],r4):=HL3.out.symm;subst e;have HR8:Hid (RdAt w8 R tb r4 o):=hR8;obtain ⟨b0,b1,b2,b3,b4,b5,b6⟩:=cells7 QX8;have hal9:Below w8.heap.size w8 (w8.alloc (.cells #[.int .i64 x.k,.int .i64 x.v.1,.int .i64 x.v.2.1,.string x.v.2.2,.string x.tab,.string x.name,.slice a x.ks.length c] 55)):=(Below.refl _ _).alloc (Nat.le_refl _) _
  have K9:Hid (SsAt (w.heap.size+1) (w8.alloc (.cells #[.int .i64 x.k,.int .i64 x.v.1,.int .i64 x.v.2.1,.string x.v.2.2,.string x.tab,.string x.name,.slice a x.ks.length c] 55)) (some ⟨w8.heap.size,0,none⟩) [x]):=SsS.one _ HK8.out (by show _≤_; omega);have con9:=node_at 20 (some ⟨w8.heap.size,0,none⟩) 1 1 (w8.alloc (.cells #[.int .i64 x.k,.int .i64 x.v.1,.int .i64 x.v.2.1,.string x.v.2.2,.string x.tab,.string x.name,.slice a x.ks.length c] 55));clear HL3 HF hR8;go_wp2_with fail
  generalize w8.alloc (.cells #[.int .i64 x.k,.int .i64 x.v.1,.int .i64 x.v.2.1,.string x.v.2.2,.string x.tab,.string x.name,.slice a x.ks.length c] 55)=w9 at *;refine con9.mono ?_;rintro e w10 ⟨rfl,hb10⟩;have hb8x:=chain hal9 hb10;have QZ10:=(hb8x.block _ (lt_of_heap QZ8)).trans QZ8;obtain ⟨z0,z1,z2,z3,z4,z5,z6⟩:=cells7 QZ10;obtain ⟨y0,y1,y2,y3,y4,y5,y6⟩:=froz7 QZ10;have K10:Hid (SsAt (w.heap.size+1) w10 (some ⟨w8.heap.size,0,none⟩) [x]):=SsAt.next hb10 K9.out;have hx10:BelowX R w w10:=hx8.trans (.of hb8x (by omega));have HR10:Hid (RdAt w10 R tb r4 o):=HR8.out.next hb8x
  clear con9 b0 b1 b2 b3 b4 b5 b6;go_wp2_with fail
  obtain ⟨QE,hRE,hKE,hbE⟩:=st7_all (w:=w) (x:=nd 20 [x]) (a:=some ⟨w8.heap.size,0,none⟩) (cap:=1) QZ10 HR10.out K10.out hx10 (Nat.le_refl _) (by omega) hltR hltT;change (((((((w10.setCell ⟨w.heap.size,0,none⟩ (.int .i64 20)).setCell ⟨w.heap.size,1,none⟩ (.int .i64 0)).setCell ⟨w.heap.size,2,none⟩ (.int .i64 0)).setCell ⟨w.heap.size,3,none⟩ (.string ⟨#[]⟩)).setCell ⟨w.heap.size,4,none⟩ (.string ⟨#[]⟩)).setCell ⟨w.heap.size,5,none⟩ (.string ⟨#[]⟩)).setCell ⟨w.heap.size,6,none⟩ (.slice (some ⟨w8.heap.size,0,none⟩) 1 1)).heap[w.heap.size]? = _ at QE
  change RdAt (((((((w10.setCell ⟨w.heap.size,0,none⟩ (.int .i64 20)).setCell ⟨w.heap.size,1,none⟩ (.int .i64 0)).setCell ⟨w.heap.size,2,none⟩ (.int .i64 0)).setCell ⟨w.heap.size,3,none⟩ (.string ⟨#[]⟩)).setCell ⟨w.heap.size,4,none⟩ (.string ⟨#[]⟩)).setCell ⟨w.heap.size,5,none⟩ (.string ⟨#[]⟩)).setCell ⟨w.heap.size,6,none⟩ (.slice (some ⟨w8.heap.size,0,none⟩) 1 1)) R tb r4 o at hRE
  change SsAt _ (((((((w10.setCell ⟨w.heap.size,0,none⟩ (.int .i64 20)).setCell ⟨w.heap.size,1,none⟩ (.int .i64 0)).setCell ⟨w.heap.size,2,none⟩ (.int .i64 0)).setCell ⟨w.heap.size,3,none⟩ (.string ⟨#[]⟩)).setCell ⟨w.heap.size,4,none⟩ (.string ⟨#[]⟩)).setCell ⟨w.heap.size,5,none⟩ (.string ⟨#[]⟩)).setCell ⟨w.heap.size,6,none⟩ (.slice (some ⟨w8.heap.size,0,none⟩) 1 1)) _ _ at hKE
  change BelowX R w (((((((w10.setCell ⟨w.heap.size,0,none⟩ (.int .i64 20)).setCell ⟨w.heap.size,1,none⟩ (.int .i64 0)).setCell ⟨w.heap.size,2,none⟩ (.int .i64 0)).setCell ⟨w.heap.size,3,none⟩ (.string ⟨#[]⟩)).setCell ⟨w.heap.size,4,none⟩ (.string ⟨#[]⟩)).setCell ⟨w.heap.size,5,none⟩ (.string ⟨#[]⟩)).setCell ⟨w.heap.size,6,none⟩ (.slice (some ⟨w8.heap.size,0,none⟩) 1 1)) at hbE
  generalize (((((((w10.setCell ⟨w.heap.size,0,none⟩ (.int .i64 20)).setCell ⟨w.heap.size,1,none⟩ (.int .i64 0)).setCell ⟨w.heap.size,2,none⟩ (.int .i64 0)).setCell ⟨w.heap.size,3,none⟩ (.string ⟨#[]⟩)).setCell ⟨w.heap.size,4,none⟩ (.string ⟨#[]⟩)).setCell ⟨w.heap.size,5,none⟩ (.string ⟨#[]⟩)).setCell ⟨w.heap.size,6,none⟩ (.slice (some ⟨w8.heap.size,0,none⟩) 1 1))=wE at *;obtain ⟨x0,x1,x2,x3,x4,x5,x6⟩:=cells7 QE
  exact bodyPost_ret (v:=.agg (sxA (nd 20 [x]) (some ⟨w8.heap.size,0,none⟩) 1)) (by simp [results,Tryz.results246,go_sem,x0,x1,x2,x3,x4,x5,x6]) rfl (Ends.good rfl hbE ⟨_,1,rfl,hKE.mono (by omega)⟩ hRE)
set_option maxHeartbeats 4000000

theorem wpList_append_at {P:Program} {w:World} {ops:Array Oper} {rest:List Oper} {o:Oper} {a:Act} {Q:Exit→Act→World→Prop} (hgd:o.guard=none) (s x:Operand) (t:TypeId)
  (ho:o.op = .call { callee:=.builtin .append,args:=#[s,x],argTypes:=#[t,t] })
  (base:Nat) (e:TypeId) (i:TypeInfo) (z:Value) (size bytes:Nat) (ht:P.underlying t=some (.slice e)) (hi:P.info? e=some i) (hz:i.zero=some z)
  (hsize:i.size=size) (hby:i.bytes=bytes) (hzs:z.cells.size=size) (hsz:0<size)
  (v:Value) (n:Nat) (xs:List Value) (hs:a.eval s=v) (hown:w.ownsRow base e size v n xs)
  (ad:Addr) (m c:Nat) (news:List Value) (hx:a.eval x = .slice (some ad) m c) (hl:news.length=m*size) (hnews:∀ j u,news[j]? = some u→w.cell? (ad.add j)=some u) (h1:∀ u ∈ news,u.oneCell'=true)
  (h63:n+m≤maxLen) (hbytes:(n+m)*bytes≤140737488355328) (hbase:base≤w.heap.size)
  (h:∀ v' w',w'.ownsRow base e size v' (n+m) (xs ++ news)→w.grownBy w' v.ownBlock→(v'.ownBlock=v.ownBlock∨v'.ownBlock=some w.heap.size)→wpList P ops Q rest (a.put o.dst v') w'):wpList P ops Q (o :: rest) a w:=by
 refine wpList_plain hgd fun K hK=>?_
 obtain ⟨v',w',hr,h2,h3,_,h5⟩:=run_append_own_at (P:=P) w base t o.type e i z size bytes ht hi hz hsize hby hzs hsz v n xs hown ad m c news hl hnews h1 h63 hbytes hbase;unfold Oper.wp;simp [execOp,ho,resolve,invoke,builtin,hs,hx,hr,Result.andThen];exact hK _ _ (h v' w' h2 h3 h5)
theorem addr_addS (b off i:Nat):(⟨b,off,none⟩:Addr).add i=⟨b,off+i,none⟩:=by
 unfold Addr.add; split <;> simp_all
theorem grown_of_below {W w1:World} (hb:Below W.heap.size W w1) (row:Option Nat):W.grownBy w1 row:=⟨hb.os,hb.tape,hb.output,hb.size,fun k hk _=>hb.block k hk⟩
theorem own_next {W w1:World} {base e size n:Nat} {v:Value} {xs:List Value} (h:W.ownsRow base e size v n xs) (hb:Below W.heap.size W w1):w1.ownsRow base e size v n xs:=by
 refine h.kept (grown_of_below hb none) ?_;cases v.ownBlock <;> simp
/-- Blocks that are as they were. -/
def Keeps' (S:Nat→Prop) (W W':World):Prop:=W.heap.size≤W'.heap.size∧∀ b,S b→b<W.heap.size→W'.heap[b]? = W.heap[b]?
theorem Keeps'.cell {S:Nat→Prop} {W W':World} (h:Keeps' S W W') {b o:Nat} {u:Value} (hb:S b) (hc:W.cell? ⟨b,o,none⟩=some u):W'.cell? ⟨b,o,none⟩=some u:=by
 have hlt:b<W.heap.size:=by
  rcases Nat.lt_or_ge b W.heap.size with h' | h'
  ·exact h'
  ·simp [World.cell?,Array.getElem?_eq_none h'] at hc
 rw [World.cell?_of_block (w:=W) (a:=⟨b,o,none⟩) (h.2 b hb hlt)];exact hc
theorem Keeps'.of {S:Nat→Prop} {W W':World} (h:Below W.heap.size W W'):Keeps' S W W':=⟨h.size,fun b _ hb=>h.block b hb⟩
theorem Keeps'.trans {S:Nat→Prop} {a b c:World} (h:Keeps' S a b) (k:Keeps' S b c):Keeps' S a c:=⟨Nat.le_trans h.1 k.1,fun i hi hl=>(k.2 i hi (Nat.lt_of_lt_of_le hl h.1)).trans (h.2 i hi hl)⟩
theorem Keeps'.mono {S S':Nat→Prop} {a b:World} (h:Keeps' S a b) (hs:∀ i,S' i→S i):Keeps' S' a b:=⟨h.1,fun i hi=>h.2 i (hs i hi)⟩
theorem Keeps'.refl (S:Nat→Prop) (a:World):Keeps' S a a:=⟨Nat.le_refl _,fun _ _ _=>rfl⟩
theorem Keeps'.set {S:Nat→Prop} {a b:World} (h:Keeps' S a b) (g o:Nat) (u:Value) (hg:¬ S g):Keeps' S a (b.setCell ⟨g,o,none⟩ u) :=
 ⟨by simpa using h.1,fun i hi hl=>(Below.heap_setCell b ⟨g,o,none⟩ u i (by show i≠g; rintro rfl; exact hg hi)).trans (h.2 i hi hl)⟩
/-- The blocks of S that are there, but for a list's own one. -/
def SXb (S:Nat→Prop) (v:Value) (W:World) (b:Nat):Prop:=S b∧b<W.heap.size∧v.ownBlock≠some b
/-- A list of one's own, of elements of 'size' cells each; En S W x cs: the cells cs are x, whose own lists lie in blocks of S. -/
def OwnE {α:Type} (En:(Nat→Prop)→World→α→List Value→Prop) (e size base:Nat) (S:Nat→Prop) (W:World) (v:Value) (l:List α):Prop :=
 ∃ xs,W.ownsRow base e size v l.length xs∧∀ (i:Nat) (h:i<l.length),∃ cs,cs.length=size∧(∀ j,j<size→xs[i*size+j]? = cs[j]?)∧En (SXb S v W) W l[i] cs
/-- What elements bear. -/
structure EnOk {α:Type} (En:(Nat→Prop)→World→α→List Value→Prop):Prop where
 next:∀ {S:Nat→Prop} {W W':World} {x:α} {cs:List Value},Keeps' S W W'→En S W x cs→En S W' x cs
 mono:∀ {S S':Nat→Prop} {W:World} {x:α} {cs:List Value},(∀ b,S b→b<W.heap.size→S' b)→En S W x cs→En S' W x cs
theorem OwnE.nil {α:Type} (En:(Nat→Prop)→World→α→List Value→Prop) (e size base:Nat) (S:Nat→Prop) (W:World):OwnE En e size base S W (.slice none 0 0) [] :=
 ⟨[],by simpa using World.ownsRow_nil _ _ _ _,fun i hi=>by simp at hi⟩
theorem OwnE.next {α:Type} {En:(Nat→Prop)→World→α→List Value→Prop} (ok:EnOk En) {e size base:Nat} {S:Nat→Prop} {W W1:World} {v:Value} {l:List α} (h:OwnE En e size base S W v l) (hb:Below W.heap.size W W1):OwnE En e size base S W1 v l:=by
 obtain ⟨xs,h1,h2⟩:=h;refine ⟨xs,own_next h1 hb,fun i hi=>?_⟩;obtain ⟨cs,c1,c2,c3⟩:=h2 i hi;exact ⟨cs,c1,c2,ok.mono (fun b hb' _=>⟨hb'.1,Nat.lt_of_lt_of_le hb'.2.1 hb.size,hb'.2.2⟩) (ok.next (Keeps'.of hb) c3)⟩
theorem OwnE.keep {α:Type} {En:(Nat→Prop)→World→α→List Value→Prop} (ok:EnOk En) {e size base:Nat} {S:Nat→Prop} {W W1:World} {v:Value} {l:List α} (h:OwnE En e size base S W v l) (hs:∀ b,base≤b→S b) (hk:Keeps' S W W1):OwnE En e size base S W1 v l:=by
 obtain ⟨xs,h1,h2⟩:=h;refine ⟨xs,?_,fun i hi=>?_⟩
 ·obtain ⟨h0,⟨h1,h2⟩ | ⟨k,cap,cur,h1,h2,h3,h4⟩⟩:=h1
  ·exact ⟨h0,.inl ⟨h1,h2⟩⟩
  ·exact ⟨h0,.inr ⟨k,cap,cur,h1,h2,(hk.2 k (hs k h2) (lt_of_heap h3)).trans h3,h4⟩⟩
 ·obtain ⟨cs,c1,c2,c3⟩:=h2 i hi;exact ⟨cs,c1,c2,ok.mono (fun b hb' _=>⟨hb'.1,Nat.lt_of_lt_of_le hb'.2.1 hk.1,hb'.2.2⟩) (ok.next (hk.mono fun _ h=>h.1) c3)⟩
theorem OwnE.len {α:Type} {En:(Nat→Prop)→World→α→List Value→Prop} {e size base:Nat} {S:Nat→Prop} {W:World} {v:Value} {l:List α} (h:OwnE En e size base S W v l):∃ a cap,v = .slice a l.length cap:=by
 obtain ⟨xs,⟨_,⟨h1,h2⟩ | ⟨k,cap,cur,h1,_⟩⟩,_⟩:=h
 ·exact ⟨none,0,by rw [h1,h2]⟩
 ·exact ⟨_,cap,h1⟩
theorem OwnE.lt {α:Type} {En:(Nat→Prop)→World→α→List Value→Prop} {e size base:Nat} {S:Nat→Prop} {W:World} {v:Value} {l:List α} (h:OwnE En e size base S W v l):∀ g,v.ownBlock=some g→base≤g∧g<W.heap.size:=by
 obtain ⟨xs,h1,_⟩:=h;exact h1.lt
/-- One more. -/
theorem OwnE.push {α:Type} {En:(Nat→Prop)→World→α→List Value→Prop} (ok:EnOk En) {e size base:Nat} {S:Nat→Prop} {W W1:World} {v v':Value} {l:List α} {xs cs:List Value} {y:α}
  (h1:W.ownsRow base e size v l.length xs) (h2:∀ (i:Nat) (h:i<l.length),∃ cs,cs.length=size∧(∀ j,j<size→xs[i*size+j]? = cs[j]?)∧En (SXb S v W) W l[i] cs)
  (hc:cs.length=size) (hy:En (SXb S v W) W y cs) (ho:W1.ownsRow base e size v' (l.length+1) (xs ++ cs)) (hg:W.grownBy W1 v.ownBlock) (hd:v'.ownBlock=v.ownBlock∨v'.ownBlock=some W.heap.size):OwnE En e size base S W1 v' (l ++ [y]):=by
 have hk:Keeps' (SXb S v W) W W1:=⟨hg.size,fun b hb hl=>hg.block b hl (fun e=>hb.2.2 e.symm)⟩
 have mv:∀ {x:α} {cs:List Value},En (SXb S v W) W x cs→En (SXb S v' W1) W1 x cs:=fun h =>
  ok.mono (fun b hb _=>⟨hb.1,Nat.lt_of_lt_of_le hb.2.1 hg.size,fun e=>by
   rcases hd with hd | hd
   ·exact hb.2.2 (hd ▸ e)
   ·rw [hd] at e;have e:=Option.some.inj e;have:=hb.2.1;omega⟩) (ok.next hk h)
 have hx:xs.length=l.length*size:=h1.1;refine ⟨xs ++ cs,by rw [List.length_append]; exact ho,fun i hi=>?_⟩;by_cases hi':i<l.length
 ·obtain ⟨c,c1,c2,c3⟩:=h2 i hi';refine ⟨c,c1,fun j hj=>?_,by rw [List.getElem_append_left hi']; exact mv c3⟩;rw [List.getElem?_append_left (by rw [hx]; have:(i+1)*size≤l.length*size:=Nat.mul_le_mul_right _ hi'; rw [Nat.add_mul,Nat.one_mul] at this; omega)];exact c2 j hj
 ·have:i=l.length:=by simp at hi; omega
  subst this;refine ⟨cs,hc,fun j hj=>?_,by simpa using mv hy⟩;rw [List.getElem?_append_right (by omega),hx]
  congr 1
  omega
/-- Where it lies in the end. -/
theorem OwnE.fin {α:Type} {En:(Nat→Prop)→World→α→List Value→Prop} (ok:EnOk En) {e size base:Nat} {S:Nat→Prop} {W:World} {v:Value} {l:List α} (h:OwnE En e size base S W v l) :
  (l = []∧v = .slice none 0 0)∨∃ g cap,v = .slice (some ⟨g,0,none⟩) l.length cap∧base≤g∧g<W.heap.size∧∀ (i:Nat) (h:i<l.length),∃ cs,cs.length=size∧(∀ j u,cs[j]? = some u→W.cell? ⟨g,i*size+j,none⟩=some u)∧En S W l[i] cs:=by
 obtain ⟨xs,h1,h2⟩:=h;have cells:=fun g hg i u hu=>World.ownsRow.cells h1 (g:=g) hg i u hu
 have hlt:=h1.lt;obtain ⟨hx,⟨e1,e2⟩ | ⟨k,cap,cur,e1,h4⟩⟩:=h1
 ·exact .inl ⟨List.eq_nil_of_length_eq_zero e2,e1⟩
 ·subst e1;have:=hlt k rfl;refine .inr ⟨k,cap,rfl,this.1,this.2,fun i hi=>?_⟩;obtain ⟨cs,c1,c2,c3⟩:=h2 i hi;refine ⟨cs,c1,fun j u hj=>?_,ok.mono (fun b hb _=>hb.1) c3⟩;have hj':j<size:=by
   rcases Nat.lt_or_ge j cs.length with h | h
   ·omega
   ·rw [List.getElem?_eq_none h] at hj; cases hj
  have:=cells k rfl (i*size+j) u ((c2 j hj').trans hj)
  rwa [addr_addS,Nat.zero_add] at this
theorem Keeps1.k {g:Nat} {S:Nat→Prop} {W W':World} (h:Keeps1 g W W') (hg:¬ S g):Keeps' S W W':=⟨h.1,fun b hb hl=>h.2 b hl (by rintro rfl; exact hg hb)⟩
theorem SsS.keep {S:Nat→Prop} {W W':World} (hk:Keeps' S W W') {a:Option Addr} {l:List SX} (h:SsS S W a l):SsS S W' a l:=by
 induction h with
 | nil a=>exact .nil a
 | some b off l ai cap hb hlt hc _ ih =>
  have f:∀ o,W'.cell? ⟨b,o,none⟩=W.cell? ⟨b,o,none⟩:=fun o=>World.cell?_of_block (a:=⟨b,o,none⟩) (hk.2 b hb hlt)
  exact .some b off l ai cap hb (Nat.lt_of_lt_of_le hlt hk.1) (fun i hi=>⟨(f _).trans (hc i hi).c0,(f _).trans (hc i hi).c1,(f _).trans (hc i hi).c2,(f _).trans (hc i hi).c3,(f _).trans (hc i hi).c4,(f _).trans (hc i hi).c5,(f _).trans (hc i hi).c6⟩) ih
/-- An expression's cells. -/
def sxL (x:SX) (a:Option Addr) (c:Nat):List Value:=[.int .i64 x.k,.int .i64 x.v.1,.int .i64 x.v.2.1,.string x.v.2.2,.string x.tab,.string x.name,.slice a x.ks.length c]
def En7 (S:Nat→Prop) (W:World) (x:SX) (cs:List Value):Prop:=∃ a c,cs=sxL x a c∧SsS S W a x.ks
theorem en7:EnOk En7:=⟨fun hk ⟨a,c,e,h⟩=>⟨a,c,e,h.keep hk⟩,fun hs ⟨a,c,e,h⟩=>⟨a,c,e,SsS.mono hs h⟩⟩
theorem sev_of {W:World} {g off:Nat} {x:SX} {a:Option Addr} {c:Nat} (h:∀ j u,(sxL x a c)[j]? = some u→W.cell? ⟨g,off+j,none⟩=some u):Sev W g off x a c :=
 ⟨h 0 _ rfl,h 1 _ rfl,h 2 _ rfl,h 3 _ rfl,h 4 _ rfl,h 5 _ rfl,h 6 _ rfl⟩
theorem OwnE.sxs {e base:Nat} {S:Nat→Prop} {W:World} {v:Value} {l:List SX} (h:OwnE En7 e 7 base S W v l) (hs:∀ b,base≤b→S b):∃ a cap,v = .slice a l.length cap∧SsS S W a l:=by
 rcases h.fin en7 with ⟨rfl,rfl⟩ | ⟨g,cap,rfl,h1,h2,h3⟩
 ·exact ⟨none,0,rfl,.nil _⟩
 ·refine ⟨_,cap,rfl,?_⟩;have:∀ i:Nat,∃ (a:Option Addr) (c:Nat),∀ h:i<l.length,Sev W g (0+i*7) l[i] a c∧SsS S W a l[i].ks:=fun i=>by
   by_cases hi:i<l.length
   ·obtain ⟨cs,_,c2,a,c,rfl,hk⟩:=h3 i hi;exact ⟨a,c,fun _=>⟨sev_of (by simpa using c2),hk⟩⟩
   ·exact ⟨none,0,fun h=>absurd h hi⟩
  obtain ⟨ai,ha⟩:=Classical.axiomOfChoice this;obtain ⟨ci,hc⟩:=Classical.axiomOfChoice ha;exact .some g 0 l ai ci (hs g h1) h2 (fun i hi=>(hc i hi).1) (fun i hi=>(hc i hi).2)

theorem infoSX:(Tryz.prog.info? 55).map (fun i=>(i.zero,i.size,i.bytes))=some (some (.agg z7A),7,96):=by kernel_rfl
theorem info_parts {P:Program} {t:TypeId} {z:Option Value} {s b:Nat} (h:(P.info? t).map (fun i=>(i.zero,i.size,i.bytes))=some (z,s,b)):∃ i,P.info? t=some i∧i.zero=z∧i.size=s∧i.bytes=b:=by
 rcases hi:P.info? t with _ | i
 ·rw [hi] at h; cases h
 ·rw [hi] at h;simp only [Option.map_some,Option.some.injEq,Prod.mk.injEq] at h;exact ⟨i,rfl,h.1,h.2.1,h.2.2⟩
/-- Expressions as they are told. -/
def VXs (B:Nat) (W:World) (v:Value) (l:List SX):Prop:=∃ a cap,v = .slice a l.length cap∧SsAt B W a l
theorem RdAt.low {B:Nat} {W w1:World} {R tb:Nat} {ts:List Tk} {o:Int} (h:RdAt W R tb ts o) (hb:Below B W w1) (h1:R<B) (h2:tb<B):RdAt w1 R tb ts o:=by
 obtain ⟨off,cap,e1,e2,e3⟩:=h.ex;have f:∀ k o,k<B→w1.cell? ⟨k,o,none⟩=W.cell? ⟨k,o,none⟩:=fun k o hk=>World.cell?_of_block (a:=⟨k,o,none⟩) (hb.block k hk)
 have:=h.r2;exact ⟨⟨off,cap,(hb.block _ h1).trans e1,e2,⟨Nat.lt_of_lt_of_le e3.lt hb.size,fun i hi=>(f _ _ h2).trans (e3.c0 i hi),fun i hi=>(f _ _ h2).trans (e3.c1 i hi),fun i hi=>(f _ _ h2).trans (e3.c2 i hi)⟩⟩,h.ne,h.toks,h.small,⟨Nat.lt_of_lt_of_le h.gl.lt hb.size,fun j hj=>(f 1 j (by omega)).trans (h.gl.inf j hj),fun j hj=>(f 0 j (by omega)).trans (h.gl.sig j hj)⟩,h.r2⟩
theorem BelowX.low {t B:Nat} {a b c:World} (h:BelowX t a b) (k:Below B b c) (hB:a.heap.size≤B) (ht:t≤B):BelowX t a c :=
 ⟨h.1.trans (k.mono ht),fun i hi hn=>(k.block i (by omega)).trans (h.2 i hi hn)⟩
theorem behind_step {n:Nat} {o:Int} (hv:∀ m,m≤n→CtE 164 [] (exprP m o) o) {w:World} {R tb b cap:Nat} {ts:List Tk} {s:ByteArray} {l:List ByteArray} (h:RdAt w R tb ts o) (hs:StrAt w b 0 (s :: l)) (hb:b≠R) (hl:1≤l.length∧l.length≤3) (hcap:l.length+1≤cap) (hf:behindP (n+1) o (s :: l) ts≠fuelE) :
  Calls Tryz.prog 245 #[.pointer (some ⟨R,0,none⟩),.slice (some ⟨b,0,none⟩) (s :: l).length cap] w (Ends R tb o w (VXs w.heap.size) (behindP (n+1) o (s :: l) ts)):=by
 rw [behindP] at hf ⊢;obtain ⟨i0,hi,hj0,hj1,hj2⟩:=info_parts infoSX;have hltR:=h.lt;have hltT:=h.ltb;have hltb:=hs.lt;have s0:w.cell? ⟨b,0,none⟩=some (.string s):=hs.c 0 (by simp);have hal1:Below w.heap.size w (w.alloc (.cells #[.string s] 9)):=(Below.refl _ _).alloc (Nat.le_refl _) _;have con:=must_at (cap:=1) (h.next hal1) (StrAt.one w s 9) (by omega) (by simp);have HV:Hid (∀ m,m≤n→CtE 164 [] (exprP m o) o):=hv;have HS:Hid (StrAt w b 0 (s :: l)):=hs;generalize hM:bnd (mustP [s] ts) (fun _ r=>exprsP n o l [] r)=M at *;have HF:Hid (M≠fuelE):=hf
 have HM:Hid (bnd (mustP [s] ts) (fun _ r=>exprsP n o l [] r)=M):=hM;generalize mustP [s] ts=L at *;have hlz:(0:Int)<((s :: l).length:Int):=by simp
 clear h hf hM hv hs;go_enter Tryz.func245,Tryz.ntmps245;go_wp2_with fail
 generalize w.alloc (.cells #[.string s] 9)=w1 at *;refine con.mono ?_;rintro e w2 ⟨hb2,hW⟩;have hx2:BelowX R w w2:=(BelowX.of hal1 (by omega)).trans hb2;clear con s0;rcases L with ce | ⟨u,rs⟩
 ·obtain ⟨rfl,us,hE⟩:=hW;have HE:Hid (RdAt w2 R tb us o):=hE;clear hE;have e:M = .error ce:=HM.out.symm;subst e;clear HM HF;go_wp2_with fail
  exact ⟨rfl,Ends.err rfl hx2 HE.out⟩
 obtain ⟨v,rfl,rfl,hR2⟩:=hW;have HL:Hid (exprsP n o l [] rs=M):=HM.out;have HR2:Hid (RdAt w2 R tb rs o):=hR2;clear HM hR2 hlz;have hcap1:¬ cap=1:=by omega
 have hz2:=hx2.size;go_wp2_with fail
 go_loopg [5,17] n (fun m ow iv wr=>m≤n∧∃ (ov:Value) (k:Nat) (acc:List SX) (us:List Tk),ov=ow∧iv = .int .i64 k∧k≤l.length∧Hid (exprsP m o (l.drop k) acc us=M)∧BelowX R w wr∧Hid (RdAt wr R tb us o)∧Hid (acc.length=k)∧Hid (OwnE En7 55 7 w.heap.size (fun b=>w.heap.size≤b) wr ov acc))
 case atStart=>exact ⟨Nat.le_refl _,_,0,[],rs,rfl,rfl,Nat.zero_le _,HL,hx2,HR2,rfl,OwnE.nil _ _ _ _ _ _⟩
 case round =>
  clear HL hx2 HR2 hz2;obtain ⟨hgk,ov,k,acc,us,rfl,rfl,hk,HL,hx,HR,hacc,HO⟩:=hrel;obtain ⟨m,rfl⟩:∃ m,gk=m+1:=by
   cases gk with
   | zero=>exact absurd (by have:=HL.out; rw [exprsP] at this; exact this.symm) HF.out
   | succ m=>exact ⟨m,rfl⟩
  have hzr:=hx.size;have HL2:=HL.out;by_cases hlt:k<l.length
  ·have hkz:(k:Int)<(l.length:Int):=by omega
   rw [List.drop_eq_getElem_cons hlt,exprsP] at HL2;have c0:wr.cell? ⟨b,1+k,none⟩=some (.string l[k]):=by
    have:=(HS.out.nextX hx hb).c (k+1) (by simp; omega);rw [show 0+(k+1)=1+k by omega] at this
    simpa using this
   have hne:exprP m o us≠fuelE:=fun hc=>HF.out (by rw [← HL2,hc]; rfl)
   have con:=HV.out m (by omega) wr R tb us HR.out hne;have HL3:Hid (bnd (exprP m o us) (fun x r=>bnd (mustP [l[k]] r) fun _ r2=>exprsP m o (l.drop (k+1)) (acc ++ [x]) r2)=M):=HL2;generalize exprP m o us=L at *;clear HL HL2 hne HR;go_wp2_with fail
   refine con.mono ?_;rintro e w3 ⟨hb3,hW⟩;have hx3:=hx.trans hb3;have hz3:=hb3.size;clear con;rcases L with ce | ⟨x,r3⟩
   ·obtain ⟨rfl,us',hE⟩:=hW;have HE:Hid (RdAt w3 R tb us' o):=hE;clear hE;have e:M = .error ce:=HL3.out.symm;subst e;clear HL3 HF;go_wp2_with fail
    exact ⟨rfl,Ends.err rfl hx3 HE.out⟩
   obtain ⟨v,rfl,⟨a,c,rfl,hks⟩,hR3⟩:=hW;have HR3:Hid (RdAt w3 R tb r3 o):=hR3;have HL4:Hid (bnd (mustP [l[k]] r3) (fun _ r2=>exprsP m o (l.drop (k+1)) (acc ++ [x]) r2)=M):=HL3.out;have hal4:Below w3.heap.size w3 (w3.alloc (.cells #[.int .i64 x.k,.int .i64 x.v.1,.int .i64 x.v.2.1,.string x.v.2.2,.string x.tab,.string x.name,.slice a x.ks.length c] 55)):=(Below.refl _ _).alloc (Nat.le_refl _) _;have q4:=heap_new w3 #[.int .i64 x.k,.int .i64 x.v.1,.int .i64 x.v.2.1,.string x.v.2.2,.string x.tab,.string x.name,.slice a x.ks.length c] 55
   have O3:OwnE En7 55 7 w.heap.size (fun b=>w.heap.size≤b) w3 ov acc:=HO.out.keep en7 (fun _ h=>h) (hb3.k1.k (by show ¬ w.heap.size≤R; omega));have hnb:=HO.out.lt;obtain ⟨ys,o4,en4⟩:=O3.next en7 hal4;have HKS:Hid (SsAt wr.heap.size (w3.alloc (.cells #[.int .i64 x.k,.int .i64 x.v.1,.int .i64 x.v.2.1,.string x.v.2.2,.string x.tab,.string x.name,.slice a x.ks.length c] 55)) a x.ks):=SsAt.next hal4 hks
   have EN4:Hid (∀ (i:Nat) (h:i<acc.length),∃ cs,cs.length=7∧(∀ j,j<7→ys[i*7+j]? = cs[j]?)∧En7 (SXb (fun b=>w.heap.size≤b) ov (w3.alloc (.cells #[.int .i64 x.k,.int .i64 x.v.1,.int .i64 x.v.2.1,.string x.v.2.2,.string x.tab,.string x.name,.slice a x.ks.length c] 55))) (w3.alloc (.cells #[.int .i64 x.k,.int .i64 x.v.1,.int .i64 x.v.2.1,.string x.v.2.2,.string x.tab,.string x.name,.slice a x.ks.length c] 55)) acc[i] cs):=en4;clear hR3 HL3 hks O3 en4 c0
   go_wp2_with (first | (at_builtin; refine wpList_append_at rfl _ _ 48 rfl w.heap.size 55 i0 _ 7 96 Tryz.underlying48 hi hj0 hj1 hj2 rfl (by decide) _ _ _ rfl o4 ⟨w3.heap.size,0,none⟩ 1 1 (sxL x a c) rfl rfl ?Ac1 ?Ac2 ?Ac3 ?Ac4 ?Ac5 ?_))
   case Ac1 =>
    intro i u hu;have:i<7:=by
     rcases Nat.lt_or_ge i 7 with h | h
     ·exact h
     ·rw [List.getElem?_eq_none (by simpa [sxL] using h)] at hu; cases hu
    rw [addr_addS,Nat.zero_add];exact cell_of (i:=i) q4 (by rw [← hu]; simp [sxL])
   case Ac2=>intro u hu; simp [sxL] at hu; rcases hu with rfl | rfl | rfl | rfl | rfl | rfl | rfl <;> rfl
   case Ac3=>unfold maxLen; have:=hacc.out; omega
   case Ac4=>have:=hacc.out; omega
   case Ac5=>have:=hacc.out; have:=hal4.size; omega
   intro v' w5 o5 g5 hd5;have z5:=g5.size;have hz4:=hal4.size;have O5:Hid (OwnE En7 55 7 w.heap.size (fun b=>w.heap.size≤b) w5 v' (acc ++ [x])):=OwnE.push en7 o4 EN4.out rfl ⟨a,c,rfl,SsS.mono (fun b h1 h2=>⟨by have:wr.heap.size≤b:=h1; show w.heap.size≤b; omega,h2,fun e=>by have:=(hnb b e).2; have:wr.heap.size≤b:=h1; omega⟩) HKS.out⟩ o5 g5 (by simpa using hd5);have D5:Below w.heap.size w3 w5:=(hal4.mono (by omega)).trans ((Below.refl _ _).grown g5 (by omega) (fun q hq=>by have:=(hnb q hq).1; omega));have hx5:BelowX R w w5:=hx3.low D5 (Nat.le_refl _) (by omega)
   have h5:=HR3.out.low D5 hltR hltT;have hal6:Below w5.heap.size w5 (w5.alloc (.cells #[.string l[k]] 9)):=(Below.refl _ _).alloc (Nat.le_refl _) _;have con6:=must_at (cap:=1) (h5.next hal6) (StrAt.one w5 l[k] 9) (by omega) (by simp);generalize mustP [l[k]] r3=L6 at *;clear o4 EN4 o5 g5 hd5 HO HKS q4 h5 HR3 hal4;go_wp2_with fail
   generalize w5.alloc (.cells #[.string l[k]] 9)=w6 at *;refine con6.mono ?_;rintro e w7 ⟨hb7,hW⟩;have hx57:BelowX R w5 w7:=(BelowX.of hal6 (by omega)).trans hb7;have hx7:=hx5.trans hx57;have O7:Hid (OwnE En7 55 7 w.heap.size (fun b=>w.heap.size≤b) w7 v' (acc ++ [x])):=O5.out.keep en7 (fun _ h=>h) (hx57.k1.k (by show ¬ w.heap.size≤R; omega));clear con6;rcases L6 with ce | ⟨u6,r6⟩
   ·obtain ⟨rfl,us',hE⟩:=hW;have HE:Hid (RdAt w7 R tb us' o):=hE;clear hE;have e:M = .error ce:=HL4.out.symm;subst e;clear HL4 HF;go_wp2_with fail
    exact ⟨rfl,Ends.err rfl hx7 HE.out⟩
   obtain ⟨v,rfl,rfl,hR7⟩:=hW;have HL5:Hid (exprsP m o (l.drop (k+1)) (acc ++ [x]) r6=M):=HL4.out;have HR7:Hid (RdAt w7 R tb r6 o):=hR7;clear HL4 hR7;go_wp2_with fail
   go_roundg m
   case measure=>omega
   case rel=>exact ⟨by omega,_,k+1,acc ++ [x],r6,rfl,by go_num,by omega,HL5,hx7,HR7,by show _=_; simp [hacc.out],O7⟩
  ·have hkz:¬ (k:Int)<(l.length:Int):=by omega
   rw [List.drop_eq_nil_of_le (by omega),exprsP] at HL2;subst HL2;obtain ⟨av,cv,rfl,hks⟩:=HO.out.sxs (fun _ h=>h);have HK:Hid (SsS (fun b=>w.heap.size≤b) wr av acc):=hks;clear HL HF hks HO;go_wp2_with fail
   refine bodyPost_ret (v:=.slice av acc.length cv) (by simp [results,Tryz.results245,go_sem]) rfl ?_;exact Ends.good rfl hx ⟨av,cv,rfl,HK.out⟩ HR.out

theorem columnName_at {w:World} {R tb:Nat} {ts:List Tk} {o:Int} (h:RdAt w R tb ts o):Calls Tryz.prog 247 #[.pointer (some ⟨R,0,none⟩)] w (Ends R tb o w (VX w.heap.size) (columnNameP ts)):=by
 have hltR:=h.lt;have hltT:=h.ltb;have hal:Below w.heap.size w (w.alloc (.cells z7A 55)):=(Below.refl _ _).alloc (Nat.le_refl _) _;have QZ0:=heap_new w z7A 55;have hz':w.heap.size<(w.alloc (.cells z7A 55)).heap.size:=lt_of_heap QZ0;have con:=name_at (h.next hal);generalize hM:columnNameP ts=M;have HM:Hid (bnd (nameP ts) (fun n r=>if isP ⟨#[46]⟩ r=true then bnd (nameP (passP r)) fun m r2=>.ok (.mk 2 v0 n m [],r2) else .ok (.mk 2 v0 eB n [],r))=M):=hM;generalize nameP ts=L at *;clear h hM;go_enter Tryz.func247,Tryz.ntmps247;go_wp2_with fail
 generalize w.alloc (.cells z7A 55)=w1 at *;refine con.mono ?_;rintro e w2 ⟨hb2,hW⟩;have QZ2:=(hb2.2 _ (lt_of_heap QZ0) (by omega)).trans QZ0;have hx2:BelowX R w w2:=(BelowX.of hal (by omega)).trans hb2;have hz2:=lt_of_heap QZ2;clear con;rcases L with ce | ⟨nm,rs⟩
 ·obtain ⟨rfl,us,hE⟩:=hW;have HE:Hid (RdAt w2 R tb us o):=hE;clear hE;have e:M = .error ce:=HM.out.symm;subst e;clear HM;go_wp2_with fail
  exact ⟨rfl,Ends.err rfl hx2 HE.out⟩
 obtain ⟨v,rfl,rfl,hR2⟩:=hW;have HL:Hid ((if isP ⟨#[46]⟩ rs=true then bnd (nameP (passP rs)) fun m r2=>.ok (.mk 2 v0 nm m [],r2) else .ok (.mk 2 v0 eB nm [],rs))=M):=HM.out;have hal3:Below w2.heap.size w2 (w2.alloc (.cells #[.int .i64 2,.int .i64 0,.int .i64 0,.string ⟨#[]⟩,.string ⟨#[]⟩,.string nm,.slice none 0 0] 55)):=(Below.refl _ _).alloc (Nat.le_refl _) _;have QX3:=heap_new w2 #[.int .i64 2,.int .i64 0,.int .i64 0,.string ⟨#[]⟩,.string ⟨#[]⟩,.string nm,.slice none 0 0] 55;have QZ3:=(hal3.block _ (lt_of_heap QZ2)).trans QZ2
 have hx3:BelowX R w (w2.alloc (.cells #[.int .i64 2,.int .i64 0,.int .i64 0,.string ⟨#[]⟩,.string ⟨#[]⟩,.string nm,.slice none 0 0] 55)):=hx2.trans (.of hal3 (by omega));have hz3:=lt_of_heap QX3;have con4:=took_at (hR2.next hal3) ⟨#[46]⟩;clear HM hR2;rcases hi:isP ⟨#[46]⟩ rs with _ | _
 ·rw [hi,tookP_f hi] at con4;have e:M = .ok (.mk 2 v0 eB nm [],rs):=by rw [← HL.out,hi]; rfl
  subst e;clear HL;go_wp2_with fail
  generalize w2.alloc (.cells #[.int .i64 2,.int .i64 0,.int .i64 0,.string ⟨#[]⟩,.string ⟨#[]⟩,.string nm,.slice none 0 0] 55)=w3 at *;refine con4.mono ?_;rintro e' w4 ⟨rfl,h4,hb4⟩;have QX4:=(hb4.2 _ (lt_of_heap QX3) (by omega)).trans QX3;have QZ4:=(hb4.2 _ (lt_of_heap QZ3) (by omega)).trans QZ3;have hx4:=hx3.trans hb4;have HR4:Hid (RdAt w4 R tb rs o):=h4;obtain ⟨u0,u1,u2,u3,u4,u5,u6⟩:=cells7 QX4;obtain ⟨z0,z1,z2,z3,z4,z5,z6⟩:=cells7 QZ4;obtain ⟨y0,y1,y2,y3,y4,y5,y6⟩:=froz7 QZ4;clear con4 h4;go_wp2_with fail
  obtain ⟨QE,hRE,hKE,hbE⟩:=st7_all (w:=w) (x:=.mk 2 v0 eB nm []) (a:=none) (cap:=0) (B:=w.heap.size+1) QZ4 HR4.out (SsS.nil _) hx4 (Nat.le_refl _) (by omega) hltR hltT;change (((((((w4.setCell ⟨w.heap.size,0,none⟩ (.int .i64 2)).setCell ⟨w.heap.size,1,none⟩ (.int .i64 0)).setCell ⟨w.heap.size,2,none⟩ (.int .i64 0)).setCell ⟨w.heap.size,3,none⟩ (.string ⟨#[]⟩)).setCell ⟨w.heap.size,4,none⟩ (.string ⟨#[]⟩)).setCell ⟨w.heap.size,5,none⟩ (.string nm)).setCell ⟨w.heap.size,6,none⟩ (.slice none 0 0)).heap[w.heap.size]? = _ at QE
  change RdAt (((((((w4.setCell ⟨w.heap.size,0,none⟩ (.int .i64 2)).setCell ⟨w.heap.size,1,none⟩ (.int .i64 0)).setCell ⟨w.heap.size,2,none⟩ (.int .i64 0)).setCell ⟨w.heap.size,3,none⟩ (.string ⟨#[]⟩)).setCell ⟨w.heap.size,4,none⟩ (.string ⟨#[]⟩)).setCell ⟨w.heap.size,5,none⟩ (.string nm)).setCell ⟨w.heap.size,6,none⟩ (.slice none 0 0)) R tb rs o at hRE
  change SsAt _ (((((((w4.setCell ⟨w.heap.size,0,none⟩ (.int .i64 2)).setCell ⟨w.heap.size,1,none⟩ (.int .i64 0)).setCell ⟨w.heap.size,2,none⟩ (.int .i64 0)).setCell ⟨w.heap.size,3,none⟩ (.string ⟨#[]⟩)).setCell ⟨w.heap.size,4,none⟩ (.string ⟨#[]⟩)).setCell ⟨w.heap.size,5,none⟩ (.string nm)).setCell ⟨w.heap.size,6,none⟩ (.slice none 0 0)) _ _ at hKE
  change BelowX R w (((((((w4.setCell ⟨w.heap.size,0,none⟩ (.int .i64 2)).setCell ⟨w.heap.size,1,none⟩ (.int .i64 0)).setCell ⟨w.heap.size,2,none⟩ (.int .i64 0)).setCell ⟨w.heap.size,3,none⟩ (.string ⟨#[]⟩)).setCell ⟨w.heap.size,4,none⟩ (.string ⟨#[]⟩)).setCell ⟨w.heap.size,5,none⟩ (.string nm)).setCell ⟨w.heap.size,6,none⟩ (.slice none 0 0)) at hbE
  generalize (((((((w4.setCell ⟨w.heap.size,0,none⟩ (.int .i64 2)).setCell ⟨w.heap.size,1,none⟩ (.int .i64 0)).setCell ⟨w.heap.size,2,none⟩ (.int .i64 0)).setCell ⟨w.heap.size,3,none⟩ (.string ⟨#[]⟩)).setCell ⟨w.heap.size,4,none⟩ (.string ⟨#[]⟩)).setCell ⟨w.heap.size,5,none⟩ (.string nm)).setCell ⟨w.heap.size,6,none⟩ (.slice none 0 0))=wE at *;obtain ⟨x0,x1,x2,x3,x4,x5,x6⟩:=cells7 QE;exact bodyPost_ret (v:=.agg (sxA (.mk 2 v0 eB nm []) none 0)) (by simp [results,Tryz.results247,go_sem,x0,x1,x2,x3,x4,x5,x6]) rfl (Ends.good rfl hbE ⟨_,0,rfl,hKE.mono (by omega)⟩ hRE)
 ·rw [hi,tookP_t hi] at con4;have HL2:Hid (bnd (nameP (passP rs)) (fun m r2=>.ok (.mk 2 v0 nm m [],r2))=M):=by have:=HL.out; rw [hi] at this; exact this
  clear HL;go_wp2_with fail
  generalize w2.alloc (.cells #[.int .i64 2,.int .i64 0,.int .i64 0,.string ⟨#[]⟩,.string ⟨#[]⟩,.string nm,.slice none 0 0] 55)=w3 at *;refine con4.mono ?_;rintro e' wr ⟨rfl,h4,hb4⟩;have QX:=(hb4.2 _ (lt_of_heap QX3) (by omega)).trans QX3;have QZ:=(hb4.2 _ (lt_of_heap QZ3) (by omega)).trans QZ3;have hx:=hx3.trans hb4;have HR:Hid (RdAt wr R tb (passP rs) o):=h4;have hzw:=lt_of_heap QX;clear con4 h4;go_upto_region 3 with fail
  have hCC:∀ W W':World,W.heap[w2.heap.size]? = some (.cells #[.int .i64 2,.int .i64 0,.int .i64 0,.string ⟨#[]⟩,.string ⟨#[]⟩,.string nm,.slice none 0 0] 55 (0,0))→Below W.heap.size W W'→W'.heap[w2.heap.size]? = some (.cells #[.int .i64 2,.int .i64 0,.int .i64 0,.string ⟨#[]⟩,.string ⟨#[]⟩,.string nm,.slice none 0 0] 55 (0,0)):=fun W W' h hb=>(hb.block _ (lt_of_heap h)).trans h
  have hdr:Below wr.heap.size wr wr.drew:=(Below.refl _ _).drew;have CW:=hCC _ _ QX hdr;refine wp_region_z (fun W=>W.heap[w2.heap.size]? = some (.cells #[.int .i64 2,.int .i64 0,.int .i64 0,.string ⟨#[]⟩,.string ⟨#[]⟩,.string nm,.slice none 0 0] 55 (0,0))) 5 (by kernel_rfl) ?_;refine wpZ_take hCC (some 9) (i:=0) (v:=.pointer (some ⟨w2.heap.size,5,none⟩)) rfl rfl (by kernel_rfl) (by kernel_rfl) (by kernel_rfl) (by kernel_rfl) (by kernel_rfl) rfl (fun _ _ _ h=>h) (Or.inl ⟨rfl,fun n hn=>?_⟩) (fun _=>CW) ?_
  ·go_simp
  simp only [Act.put,pA,pB,pC];refine wpZ_take hCC (some 10) (i:=1) (v:=.string nm) rfl rfl (by kernel_rfl) (by kernel_rfl) (by kernel_rfl) (by kernel_rfl) (by kernel_rfl) rfl (fun _ _ _ h=>h) (Or.inl ⟨rfl,fun n hn=>?_⟩) (fun _=>CW) ?_
  ·have u5:n.cell? ⟨w2.heap.size,5,none⟩=some (.string nm):=cell_of (i:=5) hn rfl;go_simp
  simp only [Act.put,pA,pB,pC];refine wpZ_take hCC (some 11) (i:=2) (v:=.pointer (some ⟨R,0,none⟩)) rfl rfl (by kernel_rfl) (by kernel_rfl) (by kernel_rfl) (by kernel_rfl) (by kernel_rfl) rfl (fun _ _ _ h=>h) (Or.inl ⟨rfl,fun n hn=>?_⟩) (fun _=>CW) ?_
  ·go_simp
  simp only [Act.put,pA,pB,pC];refine wpZ_take hCC (some 13) (i:=4) (v:=.pointer (some ⟨w2.heap.size,4,none⟩)) rfl rfl (by kernel_rfl) (by kernel_rfl) (by kernel_rfl) (by kernel_rfl) (by kernel_rfl) rfl (fun _ _ _ h=>h) (Or.inl ⟨rfl,fun n hn=>?_⟩) (fun _=>CW) ?_
  ·go_simp
  simp only [Act.put,pA,pB,pC];refine wpZ_step (rs:=[3]) (by kernel_rfl) (by simp) ?_;intro w5 hb5 jj hj;obtain rfl:jj=3:=by simpa using hj
  clear hj;have D5:=chain hdr hb5;have CW5:=hCC _ _ CW hb5;have con:=name_at (HR.out.next D5);generalize nameP (passP rs)=L at *;refine wpOp_step rfl (fun K hK=>?_);go_simp;refine con.mono ?_;rintro e w6 ⟨hb6,hW⟩;clear con;have C6:=(hb6.2 _ (lt_of_heap CW5) (by omega)).trans CW5;have hx6:BelowX R w w6:=(hx.trans (.of D5 (by omega))).trans hb6;have hz5:=D5.size;have hz6:=hb6.size;have QZ6:=(hb6.2 _ (by omega) (by omega)).trans ((D5.block _ (by omega)).trans QZ);rcases L with ce | ⟨n2,r2⟩
  ·obtain ⟨rfl,us,hE⟩:=hW;have e:M = .error ce:=HL2.out.symm;subst e;exact ⟨rfl,Ends.err rfl hx6 hE⟩
  obtain ⟨v,rfl,rfl,hR6⟩:=hW;have e:M = .ok (.mk 2 v0 nm n2 [],r2):=HL2.out.symm;subst e;refine hK _ _ ⟨fun _=>C6,?_⟩;clear hK K CW CW5 HL2;refine wpZ_step (rs:=[5]) (by kernel_rfl) (by simp) ?_;intro w7 hb7 jj hj;obtain rfl:jj=5:=by simpa using hj
  clear hj;have C7:=hCC _ _ C6 hb7;have c4:w7.cell? ⟨w2.heap.size,4,none⟩=some (.string ⟨#[]⟩):=cell_of (i:=4) C7 rfl;have f4:=frozen_of_row w7 w2.heap.size 4 _ _ C7;have H8:=heap_setCell_same w7 w2.heap.size 4 _ _ (.string nm) C7;have K8:Keeps1 w2.heap.size w7 (w7.setCell ⟨w2.heap.size,4,none⟩ (.string nm)):=(Keeps1.refl _ _).set _ _;have hx7:BelowX R w w7:=hx6.trans (.of hb7 (by omega));have hx8:BelowX R w (w7.setCell ⟨w2.heap.size,4,none⟩ (.string nm)):=hx7.setNew _ _ _ (by omega) (by omega);have R8:=(hR6.next hb7).k1 K8 (by omega) (by omega) (by have:=HR.out.r2; omega)
  refine wpOp_step rfl (fun K hK=>?_);go_simp;generalize w7.setCell ⟨w2.heap.size,4,none⟩ (.string nm)=w8 at *;refine hK _ _ ⟨fun h=>absurd h (by decide),?_⟩;clear hK K c4 f4;refine wpZ_step (rs:=[6]) (by kernel_rfl) (by simp) ?_;intro w9 hb9 jj hj;obtain rfl:jj=6:=by simpa using hj
  clear hj;refine wpOp_step rfl (fun K hK=>?_);go_simp;refine hK _ _ ⟨fun h=>absurd h (by decide),?_⟩;clear hK K;refine wpZ_step (rs:=[7]) (by kernel_rfl) (by simp) ?_;intro w10 hb10 jj hj;obtain rfl:jj=7:=by simpa using hj
  clear hj;have D10:=chain hb9 hb10;have H10:=(D10.block _ (lt_of_heap H8)).trans H8;have c5:w10.cell? ⟨w2.heap.size,5,none⟩=some (.string nm):=cell_of (i:=5) H10 rfl;have f5:=frozen_of_row w10 w2.heap.size 5 _ _ H10;have H11:=heap_setCell_same w10 w2.heap.size 5 _ _ (.string n2) H10;have K11:Keeps1 w2.heap.size w10 (w10.setCell ⟨w2.heap.size,5,none⟩ (.string n2)):=(Keeps1.refl _ _).set _ _;have hx11:BelowX R w (w10.setCell ⟨w2.heap.size,5,none⟩ (.string n2)):=(hx8.trans (.of D10 (by have:=hx8.size; omega))).setNew _ _ _ (by omega) (by omega)
  have R11:=(R8.next D10).k1 K11 (by omega) (by omega) (by have:=HR.out.r2; omega);have QZ7:=(hb7.block _ (by omega)).trans QZ6;have QZ8:=(K8.2 _ (by have:=hb7.size; omega) (by omega)).trans QZ7;have QZ11:=(K11.2 _ (by have:=D10.size; have:=K8.1; have:=hb7.size; omega) (by omega)).trans ((D10.block _ (by have:=K8.1; have:=hb7.size; omega)).trans QZ8);refine wpOp_step rfl (fun K hK=>?_);go_simp;generalize w10.setCell ⟨w2.heap.size,5,none⟩ (.string n2)=w11 at *;refine hK _ _ ⟨fun h=>absurd h (by decide),?_⟩;clear hK K c5 f5;refine wpZ_done (by kernel_rfl) ?_;intro w12 hb12
  have QX12:=(hb12.block _ (lt_of_heap H11)).trans H11;have QZ12:=(hb12.block _ (lt_of_heap QZ11)).trans QZ11;have hx12:BelowX R w w12:=hx11.trans (.of hb12 (by have:=hx11.size; omega));have HR12:Hid (RdAt w12 R tb r2 o):=R11.next hb12;obtain ⟨u0,u1,u2,u3,u4,u5,u6⟩:=cells7 QX12;obtain ⟨z0,z1,z2,z3,z4,z5,z6⟩:=cells7 QZ12;obtain ⟨y0,y1,y2,y3,y4,y5,y6⟩:=froz7 QZ12;clear R8 R11 hR6;go_wp2_with fail
  obtain ⟨QE,hRE,hKE,hbE⟩:=st7_all (w:=w) (x:=.mk 2 v0 nm n2 []) (a:=none) (cap:=0) (B:=w.heap.size+1) QZ12 HR12.out (SsS.nil _) hx12 (Nat.le_refl _) (by omega) hltR hltT;change (((((((w12.setCell ⟨w.heap.size,0,none⟩ (.int .i64 2)).setCell ⟨w.heap.size,1,none⟩ (.int .i64 0)).setCell ⟨w.heap.size,2,none⟩ (.int .i64 0)).setCell ⟨w.heap.size,3,none⟩ (.string ⟨#[]⟩)).setCell ⟨w.heap.size,4,none⟩ (.string nm)).setCell ⟨w.heap.size,5,none⟩ (.string n2)).setCell ⟨w.heap.size,6,none⟩ (.slice none 0 0)).heap[w.heap.size]? = _ at QE
  change RdAt (((((((w12.setCell ⟨w.heap.size,0,none⟩ (.int .i64 2)).setCell ⟨w.heap.size,1,none⟩ (.int .i64 0)).setCell ⟨w.heap.size,2,none⟩ (.int .i64 0)).setCell ⟨w.heap.size,3,none⟩ (.string ⟨#[]⟩)).setCell ⟨w.heap.size,4,none⟩ (.string nm)).setCell ⟨w.heap.size,5,none⟩ (.string n2)).setCell ⟨w.heap.size,6,none⟩ (.slice none 0 0)) R tb r2 o at hRE
  change SsAt _ (((((((w12.setCell ⟨w.heap.size,0,none⟩ (.int .i64 2)).setCell ⟨w.heap.size,1,none⟩ (.int .i64 0)).setCell ⟨w.heap.size,2,none⟩ (.int .i64 0)).setCell ⟨w.heap.size,3,none⟩ (.string ⟨#[]⟩)).setCell ⟨w.heap.size,4,none⟩ (.string nm)).setCell ⟨w.heap.size,5,none⟩ (.string n2)).setCell ⟨w.heap.size,6,none⟩ (.slice none 0 0)) _ _ at hKE
  change BelowX R w (((((((w12.setCell ⟨w.heap.size,0,none⟩ (.int .i64 2)).setCell ⟨w.heap.size,1,none⟩ (.int .i64 0)).setCell ⟨w.heap.size,2,none⟩ (.int .i64 0)).setCell ⟨w.heap.size,3,none⟩ (.string ⟨#[]⟩)).setCell ⟨w.heap.size,4,none⟩ (.string nm)).setCell ⟨w.heap.size,5,none⟩ (.string n2)).setCell ⟨w.heap.size,6,none⟩ (.slice none 0 0)) at hbE
  generalize (((((((w12.setCell ⟨w.heap.size,0,none⟩ (.int .i64 2)).setCell ⟨w.heap.size,1,none⟩ (.int .i64 0)).setCell ⟨w.heap.size,2,none⟩ (.int .i64 0)).setCell ⟨w.heap.size,3,none⟩ (.string ⟨#[]⟩)).setCell ⟨w.heap.size,4,none⟩ (.string nm)).setCell ⟨w.heap.size,5,none⟩ (.string n2)).setCell ⟨w.heap.size,6,none⟩ (.slice none 0 0))=wE at *;obtain ⟨x0,x1,x2,x3,x4,x5,x6⟩:=cells7 QE;exact bodyPost_ret (v:=.agg (sxA (.mk 2 v0 nm n2 []) none 0)) (by simp [results,Tryz.results247,go_sem,x0,x1,x2,x3,x4,x5,x6]) rfl (Ends.good rfl hbE ⟨_,0,rfl,hKE.mono (by omega)⟩ hRE)
end Go.Proofs.YtoknmnngaackkaaGreatDoor
namespace Go.Proofs
open Go.Shelf
shelf_lay LaysC.n174 Nm 174 at Tryz as Tryz.parseI
end Go.Proofs
namespace Go.Proofs.YtoknmnngaackkaaGreatDoor
open Go.RowKit Go.Lib Go.Shelf
theorem parse_at (s:ByteArray) (hs:s.size≤4000) (v:Int) (h:Lib.parseIntB 64 s.data.toList = .ok v) (w:World):Calls Tryz.prog 198 #[.string s,.int .i64 10,.int .i64 64] w fun e w'=>e = .returned (.tuple #[.int .i64 v,.nilIface])∧Below w.heap.size w w':=by
 refine (Any.strconv_ParseInt_10_at64_ok Tryz.parseI s (by omega) v h w).mono ?_;rintro e w' ⟨rfl,hw⟩;refine ⟨rfl,?_⟩;rcases hw with rfl | ⟨t,rfl⟩
 ·exact Below.refl _ _
 ·exact Go.Joins.below_bytesWorld _ _ _ _ (Nat.le_refl _)
def digF (n:Nat) (l:List UInt8):Nat:=l.foldl (fun n c=>n*10+(c.toNat - 48)) n
theorem parseU:∀ (l:List UInt8) (acc:Nat),(∀ c ∈ l,48≤c.toNat∧c.toNat≤57)→(acc+1)*10 ^ l.length≤10 ^ 16→Lib.parseUintM (2 ^ 64 - 1) acc l = .ok (digF acc l)∧digF acc l<10 ^ 16
 | [],acc,_,h=>by
  simp only [List.length_nil,Nat.pow_zero,Nat.mul_one] at h
  exact ⟨rfl,by show acc<_; omega⟩
 | c :: r,acc,hd,h=>by
  have hc:=hd c (by simp)
  have h1:(acc*10+(c.toNat - 48)+1)*10 ^ r.length≤(acc+1)*10 ^ (c :: r).length:=by
   rw [List.length_cons,Nat.pow_succ,Nat.mul_comm (10 ^ r.length) 10,← Nat.mul_assoc];exact Nat.mul_le_mul_right _ (by omega)
  have h2:=parseU r (acc*10+(c.toNat - 48)) (fun x hx=>hd x (by simp [hx])) (Nat.le_trans h1 h);have h3:acc*10+(c.toNat - 48)+1≤10 ^ 16:=by
   refine Nat.le_trans ?_ (Nat.le_trans h1 h);exact Nat.le_mul_of_pos_right _ (Nat.pow_pos (by omega))
  refine ⟨?_,h2.2⟩;rw [Lib.parseUintM,if_pos hc,if_neg (by omega),if_neg (by omega)];exact h2.1
theorem digitsP_eq (s:ByteArray) (hd:∀ c ∈ s.data.toList,48≤c.toNat∧c.toNat≤57):digitsP s=(digF 0 s.data.toList:Nat):=by
 have:∀ (l:List UInt8) (n:Nat),(∀ c ∈ l,48≤c.toNat∧c.toNat≤57)→(l.map fun c=>((c.toNat:Nat):Int)).foldl (fun n c=>n*10+(c - 48)) (n:Int)=(digF n l:Nat):=by
  intro l
  induction l with
  | nil=>intro n _; rfl
  | cons c r ih =>
   intro n hd;have hc:=hd c (by simp);rw [List.map_cons,List.foldl_cons];have:=ih (n*10+(c.toNat - 48)) (fun x hx=>hd x (by simp [hx]));rw [show ((n:Int)*10+((c.toNat:Int) - 48))=((n*10+(c.toNat - 48):Nat):Int) by omega,this];rfl
 exact this s.data.toList 0 hd
theorem parse_ok {t : Tk} (h : TkOk t) (h2 : t.1 = 2) : Lib.parseIntB 64 t.2.1.data.toList = .ok (digitsP t.2.1) ∧ 0 ≤ digitsP t.2.1 ∧ digitsP t.2.1 < 10000000000000000 := by
  obtain ⟨h1, hl, hd⟩ := h.2 h2
  have hle : t.2.1.data.toList.length ≤ 16 := by rw [Array.length_toList]; exact hl
  have hp := parseU t.2.1.data.toList 0 hd (by
    rw [Nat.zero_add, Nat.one_mul]
    exact Nat.pow_le_pow_right (by omega) hle)
  rw [digitsP_eq _ hd]
  refine ⟨?_, by omega, by have := hp.2; omega⟩
  cases hs : t.2.1.data.toList with
  | nil => have : t.2.1.data.toList.length = 0 := by rw [hs]; rfl
           rw [Array.length_toList] at this
           have h1' : 1 ≤ t.2.1.data.size := h1
           omega
  | cons c r =>
    rw [hs] at hp hd
    have hc := hd c (by simp)
    rw [Lib.parseIntB, if_neg (by omega), Lib.parseUintB, if_neg (by simp), hp.1]
    have := hp.2
    simp only
    rw [if_neg (by omega), if_neg (by omega), if_neg (by omega)]
set_option maxRecDepth 100000
set_option maxHeartbeats 8000000

/-- A number as it is told. -/
def VInt (_:World) (v:Value) (n:Int):Prop:=v = .int .i64 n
theorem number_at {w:World} {R tb:Nat} {ts:List Tk} {o:Int} (h:RdAt w R tb ts o) (least most:Int):Calls Tryz.prog 165 #[.pointer (some ⟨R,0,none⟩),.int .i64 least,.int .i64 most] w (Ends R tb o w VInt (numberP least most ts)):=by
 obtain ⟨t,r,rfl⟩:=h.toks.ne;have hltR:=h.lt;have con:=now_at h;have HR:Hid (RdAt w R tb (t :: r) o):=h;generalize hM:numberP least most (t :: r)=M;have HM:Hid (numberP least most (t :: r)=M):=hM;clear h hM;rcases hsg:isP ⟨#[45]⟩ (t :: r) with _ | _
 ·have HM2:Hid ((if (nowP ((t :: r))).1≠2 then .error (2,atP ((t :: r))) else if (digitsP (nowP ((t :: r))).2.1)<least∨most<(digitsP (nowP ((t :: r))).2.1) then .error (3,t.2.2) else .ok (digitsP (nowP ((t :: r))).2.1,passP ((t :: r))))=M):=by
   have:=HM.out;rw [numberP,hsg] at this;exact this
  clear HM;go_enter Tryz.func165,Tryz.ntmps165;go_wp2_with fail
  refine con.mono ?_;rintro e w1 ⟨rfl,hb1⟩;have hf1:=tk_at (.int .i64 t.1) (.string t.2.1) t.2.2 w1;have con2:=took_at (HR.out.next hb1) ⟨#[45]⟩;rw [hsg,tookP_f hsg] at con2;clear con;go_wp2_with fail
  refine con2.mono ?_;rintro e w2 ⟨rfl,h2,hb2⟩;have hx2:BelowX R w w2:=(BelowX.of hb1 (by omega)).trans hb2;have hz2:=hx2.size;clear con2 hf1;generalize (t :: r)=us at *;obtain ⟨u,ur,rfl⟩:=h2.toks.ne;have con3:=now_at h2;have hok:=h2.toks.ok;have H2:Hid (RdAt w2 R tb (u :: ur) o):=h2;clear h2;by_cases hs2:u.1=2
  case neg =>
   have b2:(u.1 != 2)=true:=by simpa using hs2
   have e:M = .error (2,u.2.2):=by rw [← HM2.out,if_pos (by simpa [nowP] using hs2)]; rfl
   subst e;clear HM2;go_wp2_with fail
   refine con3.mono ?_;rintro e w3 ⟨rfl,hb3⟩;have hf3:=tk_sort (.string u.2.1) (.int .i64 u.2.2) u.1 w3;have con4:=rfault_at (H2.out.next hb3) 2;go_wp2_with fail
   refine con4.mono ?_;rintro e w4 ⟨rfl,hb4⟩;go_wp2_with fail
   exact ⟨rfl,Ends.err (c:=(2,u.2.2)) rfl (hx2.trans (.of (chain hb3 hb4) (by omega))) (H2.out.next (chain hb3 hb4))⟩
  have b2:(u.1 != 2)=false:=by simpa using hs2
  obtain ⟨hp,hp0,hp1⟩:=parse_ok hok hs2;have HM3:Hid ((if (digitsP u.2.1)<least∨most<(digitsP u.2.1) then .error (3,t.2.2) else .ok (digitsP u.2.1,passP (u :: ur)))=M):=by
   have:=HM2.out;rw [if_neg (by simpa [nowP] using hs2)] at this;exact this
  have hsz:=hok.1;clear HM2 hok;generalize hdg:digitsP u.2.1=dg at *;go_wp2_with fail
  refine con3.mono ?_;rintro e w3 ⟨rfl,hb3⟩;have hf3:=tk_sort (.string u.2.1) (.int .i64 u.2.2) 2 w3;have con4:=pass_at (H2.out.next hb3);rw [hs2] at con4;clear con3;go_wp2_with fail
  refine con4.mono ?_;rintro e w4 ⟨rfl,h4,hb4⟩;have hf4:=tk_text (.int .i64 2) (.int .i64 u.2.2) u.2.1 w4;have con5:=parse_at u.2.1 hsz dg hp w4;have H4:Hid (RdAt w4 R tb (passP (u :: ur)) o):=h4;have hx4:BelowX R w w4:=(hx2.trans (.of hb3 (by omega))).trans hb4;have hz4:=hx4.size;clear con4 h4 hf3;go_wp2_with fail
  refine con5.mono ?_;rintro e w5 ⟨rfl,hb5⟩;have hx5:BelowX R w w5:=hx4.trans (.of hb5 (by omega));have H5:Hid (RdAt w5 R tb (passP (u :: ur)) o):=H4.out.next hb5;clear con5 hf4;have hmb:-10000000000000000<dg∧dg<10000000000000000:=by omega
  clear hp hdg hsz;by_cases hr1:dg<least
  case pos =>
   have e:M = .error (3,t.2.2):=by rw [← HM3.out,if_pos (.inl hr1)]
   subst e;have con6:=fault_at 3 t.2.2 w5;clear HM3;go_wp2_with fail
   refine con6.mono ?_;rintro e w6 ⟨rfl,hb6⟩;go_wp2_with fail
   exact ⟨rfl,Ends.err (c:=(3,t.2.2)) rfl (hx5.trans (.of hb6 (by have:=hx5.size; omega))) (H5.out.next hb6)⟩
  by_cases hr2:most<dg
  case pos =>
   have e:M = .error (3,t.2.2):=by rw [← HM3.out,if_pos (.inr hr2)]
   subst e;have con6:=fault_at 3 t.2.2 w5;clear HM3;go_wp2_with fail
   refine con6.mono ?_;rintro e w6 ⟨rfl,hb6⟩;go_wp2_with fail
   exact ⟨rfl,Ends.err (c:=(3,t.2.2)) rfl (hx5.trans (.of hb6 (by have:=hx5.size; omega))) (H5.out.next hb6)⟩
  have e:M = .ok (dg,passP (u :: ur)):=by rw [← HM3.out,if_neg (by omega)]
  subst e;clear HM3;go_wp2_with fail
  refine bodyPost_ret (v:=.int .i64 (dg)) (by simp [results,Tryz.results165,go_sem]) rfl ?_;exact Ends.good rfl hx5 rfl H5.out
 ·have HM2:Hid ((if (nowP (passP (t :: r))).1≠2 then .error (2,atP (passP (t :: r))) else if (-digitsP (nowP (passP (t :: r))).2.1)<least∨most<(-digitsP (nowP (passP (t :: r))).2.1) then .error (3,t.2.2) else .ok (-digitsP (nowP (passP (t :: r))).2.1,passP (passP (t :: r))))=M):=by
   have:=HM.out;rw [numberP,hsg] at this;exact this
  clear HM;go_enter Tryz.func165,Tryz.ntmps165;go_wp2_with fail
  refine con.mono ?_;rintro e w1 ⟨rfl,hb1⟩;have hf1:=tk_at (.int .i64 t.1) (.string t.2.1) t.2.2 w1;have con2:=took_at (HR.out.next hb1) ⟨#[45]⟩;rw [hsg,tookP_t hsg] at con2;clear con;go_wp2_with fail
  refine con2.mono ?_;rintro e w2 ⟨rfl,h2,hb2⟩;have hx2:BelowX R w w2:=(BelowX.of hb1 (by omega)).trans hb2;have hz2:=hx2.size;clear con2 hf1;generalize passP (t :: r)=us at *;obtain ⟨u,ur,rfl⟩:=h2.toks.ne;have con3:=now_at h2;have hok:=h2.toks.ok;have H2:Hid (RdAt w2 R tb (u :: ur) o):=h2;clear h2;by_cases hs2:u.1=2
  case neg =>
   have b2:(u.1 != 2)=true:=by simpa using hs2
   have e:M = .error (2,u.2.2):=by rw [← HM2.out,if_pos (by simpa [nowP] using hs2)]; rfl
   subst e;clear HM2;go_wp2_with fail
   refine con3.mono ?_;rintro e w3 ⟨rfl,hb3⟩;have hf3:=tk_sort (.string u.2.1) (.int .i64 u.2.2) u.1 w3;have con4:=rfault_at (H2.out.next hb3) 2;go_wp2_with fail
   refine con4.mono ?_;rintro e w4 ⟨rfl,hb4⟩;go_wp2_with fail
   exact ⟨rfl,Ends.err (c:=(2,u.2.2)) rfl (hx2.trans (.of (chain hb3 hb4) (by omega))) (H2.out.next (chain hb3 hb4))⟩
  have b2:(u.1 != 2)=false:=by simpa using hs2
  obtain ⟨hp,hp0,hp1⟩:=parse_ok hok hs2;have HM3:Hid ((if (-digitsP u.2.1)<least∨most<(-digitsP u.2.1) then .error (3,t.2.2) else .ok (-digitsP u.2.1,passP (u :: ur)))=M):=by
   have:=HM2.out;rw [if_neg (by simpa [nowP] using hs2)] at this;exact this
  have hsz:=hok.1;clear HM2 hok;generalize hdg:digitsP u.2.1=dg at *;go_wp2_with fail
  refine con3.mono ?_;rintro e w3 ⟨rfl,hb3⟩;have hf3:=tk_sort (.string u.2.1) (.int .i64 u.2.2) 2 w3;have con4:=pass_at (H2.out.next hb3);rw [hs2] at con4;clear con3;go_wp2_with fail
  refine con4.mono ?_;rintro e w4 ⟨rfl,h4,hb4⟩;have hf4:=tk_text (.int .i64 2) (.int .i64 u.2.2) u.2.1 w4;have con5:=parse_at u.2.1 hsz dg hp w4;have H4:Hid (RdAt w4 R tb (passP (u :: ur)) o):=h4;have hx4:BelowX R w w4:=(hx2.trans (.of hb3 (by omega))).trans hb4;have hz4:=hx4.size;clear con4 h4 hf3;go_wp2_with fail
  refine con5.mono ?_;rintro e w5 ⟨rfl,hb5⟩;have hx5:BelowX R w w5:=hx4.trans (.of hb5 (by omega));have H5:Hid (RdAt w5 R tb (passP (u :: ur)) o):=H4.out.next hb5;clear con5 hf4;have hmb:-10000000000000000<dg∧dg<10000000000000000:=by omega
  clear hp hdg hsz;by_cases hr1:-dg<least
  case pos =>
   have e:M = .error (3,t.2.2):=by rw [← HM3.out,if_pos (.inl hr1)]
   subst e;have con6:=fault_at 3 t.2.2 w5;clear HM3;go_wp2_with fail
   refine con6.mono ?_;rintro e w6 ⟨rfl,hb6⟩;go_wp2_with fail
   exact ⟨rfl,Ends.err (c:=(3,t.2.2)) rfl (hx5.trans (.of hb6 (by have:=hx5.size; omega))) (H5.out.next hb6)⟩
  by_cases hr2:most < -dg
  case pos =>
   have e:M = .error (3,t.2.2):=by rw [← HM3.out,if_pos (.inr hr2)]
   subst e;have con6:=fault_at 3 t.2.2 w5;clear HM3;go_wp2_with fail
   refine con6.mono ?_;rintro e w6 ⟨rfl,hb6⟩;go_wp2_with fail
   exact ⟨rfl,Ends.err (c:=(3,t.2.2)) rfl (hx5.trans (.of hb6 (by have:=hx5.size; omega))) (H5.out.next hb6)⟩
  have e:M = .ok (-dg,passP (u :: ur)):=by rw [← HM3.out,if_neg (by omega)]
  subst e;clear HM3;go_wp2_with fail
  refine bodyPost_ret (v:=.int .i64 (-dg)) (by simp [results,Tryz.results165,go_sem]) rfl ?_;exact Ends.good rfl hx5 rfl H5.out

theorem cells3 {W:World} {g:Nat} {T:TypeId} {c0 c1 c2:Value} (h:W.heap[g]? = some (.cells #[c0,c1,c2] T (0,0))):W.cell? ⟨g,0,none⟩=some c0∧W.cell? ⟨g,1,none⟩=some c1∧W.cell? ⟨g,2,none⟩=some c2 :=
 ⟨cell_of (i:=0) h rfl,cell_of (i:=1) h rfl,cell_of (i:=2) h rfl⟩
theorem froz3 {W:World} {g:Nat} {T:TypeId} {c0 c1 c2:Value} (h:W.heap[g]? = some (.cells #[c0,c1,c2] T (0,0))):W.frozen? ⟨g,0,none⟩=false∧W.frozen? ⟨g,1,none⟩=false∧W.frozen? ⟨g,2,none⟩=false :=
 ⟨frozen_of_row W g 0 _ _ h,frozen_of_row W g 1 _ _ h,frozen_of_row W g 2 _ _ h⟩
theorem st3_heap {W:World} {g:Nat} {T:TypeId} {c0 c1 c2:Value} (h:W.heap[g]? = some (.cells #[c0,c1,c2] T (0,0))) (v0 v1 v2:Value):(((W.setCell ⟨g,0,none⟩ v0).setCell ⟨g,1,none⟩ v1).setCell ⟨g,2,none⟩ v2).heap[g]? = some (.cells #[v0,v1,v2] T (0,0)):=by
 have h:=heap_setCell_same _ g 0 _ _ v0 h;have h:=heap_setCell_same _ g 1 _ _ v1 h;have h:=heap_setCell_same _ g 2 _ _ v2 h;exact h
theorem st3_x {t g:Nat} {W0 W:World} (h:BelowX t W0 W) (hg:W0.heap.size≤g) (ht:t≤W0.heap.size) (v0 v1 v2:Value):BelowX t W0 (((W.setCell ⟨g,0,none⟩ v0).setCell ⟨g,1,none⟩ v1).setCell ⟨g,2,none⟩ v2) :=
 (((h.setNew g 0 _ hg ht).setNew g 1 _ hg ht).setNew g 2 _ hg ht)
theorem st3_b {g:Nat} {W0 W:World} (h:Below W0.heap.size W0 W) (hg:W0.heap.size≤g) (v0 v1 v2:Value):Below W0.heap.size W0 (((W.setCell ⟨g,0,none⟩ v0).setCell ⟨g,1,none⟩ v1).setCell ⟨g,2,none⟩ v2) :=
 (((h.setCell (p:=⟨g,0,none⟩) hg _).setCell (p:=⟨g,1,none⟩) hg _).setCell (p:=⟨g,2,none⟩) hg _)
/-- A value as it is told. -/
def VVl (_:World) (v:Value) (x:Vl):Prop:=v = .agg #[.int .i64 x.1,.int .i64 x.2.1,.string x.2.2]
theorem inr_at {n:Int} (h1:-1000000000000000≤n) (h2:n≤1000000000000000) (w:World):Calls Tryz.prog 166 #[.int .i64 n] w fun e w'=>e = .returned (.bool true)∧w'=w:=by
 go_enter Tryz.func166,Tryz.ntmps166;go_wp2_with fail
 exact bodyPost_ret (v:=.bool true) (by simp [results,Tryz.results166,go_sem]; try omega) rfl ⟨by first | rfl | trivial,by first | rfl | trivial⟩
theorem vint_at {n:Int} (h1:-1000000000000000≤n) (h2:n≤1000000000000000) (w:World):Calls Tryz.prog 214 #[.int .i64 n] w fun e w'=>e = .returned (.agg #[.int .i64 3,.int .i64 n,.string ⟨#[]⟩])∧Below w.heap.size w w':=by
 have con:=inr_at h1 h2 (w.alloc (.cells #[.int .i64 0,.int .i64 0,.string ⟨#[]⟩] 53));go_enter Tryz.func214,Tryz.ntmps214;go_wp2_with fail
 refine con.mono ?_;rintro e w1 ⟨rfl,rfl⟩;go_wp2_with fail
 exact bodyPost_ret (v:=.agg #[.int .i64 3,.int .i64 n,.string ⟨#[]⟩]) (by simp [results,Tryz.results214,go_sem]) rfl ⟨rfl,(Below.refl _ _).alloc (Nat.le_refl _) _⟩
theorem number_range {least most n:Int} {ts r:List Tk} (h:numberP least most ts = .ok (n,r)):least≤n∧n≤most:=by
 unfold numberP at h;simp only at h;generalize (if isP ⟨#[45]⟩ ts=true then passP ts else ts)=ts1 at h;generalize (if isP ⟨#[45]⟩ ts=true then -digitsP (nowP ts1).2.1 else digitsP (nowP ts1).2.1)=m at h;by_cases h2:(nowP ts1).1≠2
 ·rw [if_pos h2] at h; cases h
 ·rw [if_neg h2] at h;by_cases h3:m<least∨most<m
  ·rw [if_pos h3] at h; cases h
  ·rw [if_neg h3] at h;have e:=(Prod.mk.inj (Except.ok.inj h)).1;omega
theorem st3_all {w W:World} {R tb g:Nat} {rs:List Tk} {o:Int} {T:TypeId} {c0 c1 c2:Value} (Q:W.heap[g]? = some (.cells #[c0,c1,c2] T (0,0))) (hR:RdAt W R tb rs o) (hb:BelowX R w W) (h1:w.heap.size≤g) (h3:R<w.heap.size) (h4:tb<w.heap.size) (v0 v1 v2:Value) :
  (((W.setCell ⟨g,0,none⟩ v0).setCell ⟨g,1,none⟩ v1).setCell ⟨g,2,none⟩ v2).heap[g]? = some (.cells #[v0,v1,v2] T (0,0))∧RdAt (((W.setCell ⟨g,0,none⟩ v0).setCell ⟨g,1,none⟩ v1).setCell ⟨g,2,none⟩ v2) R tb rs o∧BelowX R w (((W.setCell ⟨g,0,none⟩ v0).setCell ⟨g,1,none⟩ v1).setCell ⟨g,2,none⟩ v2):=by
 have hk1:Keeps1 g W (((W.setCell ⟨g,0,none⟩ v0).setCell ⟨g,1,none⟩ v1).setCell ⟨g,2,none⟩ v2):=(((Keeps1.refl _ _).set _ _).set _ _).set _ _;exact ⟨st3_heap Q _ _ _,hR.k1 hk1 (by omega) (by omega) (by have:=hR.r2; omega),st3_x hb h1 (by omega) _ _ _⟩
theorem value_at {w:World} {R tb:Nat} {ts:List Tk} {o:Int} (h:RdAt w R tb ts o):Calls Tryz.prog 190 #[.pointer (some ⟨R,0,none⟩)] w (Ends R tb o w VVl (valueP ts)):=by
 obtain ⟨t,r,rfl⟩:=h.toks.ne;have hltR:=h.lt;have hltT:=h.ltb;have hal:Below w.heap.size w (w.alloc (.cells #[.int .i64 0,.int .i64 0,.string ⟨#[]⟩] 53)):=(Below.refl _ _).alloc (Nat.le_refl _) _;have QZ0:=heap_new w #[.int .i64 0,.int .i64 0,.string ⟨#[]⟩] 53;have hz0:w.heap.size<(w.alloc (.cells #[.int .i64 0,.int .i64 0,.string ⟨#[]⟩] 53)).heap.size:=lt_of_heap QZ0;have con:=now_at (h.next hal);have H1:Hid (RdAt (w.alloc (.cells #[.int .i64 0,.int .i64 0,.string ⟨#[]⟩] 53)) R tb (t :: r) o):=h.next hal;generalize hM:valueP (t :: r)=M;have HM:Hid (valueP (t :: r)=M):=hM;clear h hM
 by_cases hs3:t.1=3
 case pos =>
  have b3:(t.1 == 3)=true:=by simpa using hs3
  have e:M = .ok ((4,0,t.2.1),passP (t :: r)):=by rw [← HM.out,valueP,if_pos (by simpa [nowP] using hs3)]; rfl
  subst e;clear HM;go_enter Tryz.func190,Tryz.ntmps190;go_wp2_with fail
  generalize w.alloc (.cells #[.int .i64 0,.int .i64 0,.string ⟨#[]⟩] 53)=w1 at *;refine con.mono ?_;rintro e w2 ⟨rfl,hb2⟩;have hf2:=tk_sort (.string t.2.1) (.int .i64 t.2.2) 3 w2;have H2:Hid (RdAt w2 R tb (t :: r) o):=H1.out.next hb2;have QZ2:=(hb2.block _ (lt_of_heap QZ0)).trans QZ0;have hx2:BelowX R w w2:=(BelowX.of hal (by omega)).trans (.of hb2 (by omega));have hz2:=lt_of_heap QZ2;clear con;have con3:=pass_at H2.out;rw [hs3] at con3;go_wp2_with fail
  refine con3.mono ?_;rintro e w3 ⟨rfl,h3,hb3⟩;have hf3:=tk_text (.int .i64 3) (.int .i64 t.2.2) t.2.1 w3;have QZ:=(hb3.2 _ (lt_of_heap QZ2) (by omega)).trans QZ2;have HRF:Hid (RdAt w3 R tb (passP (t :: r)) o):=h3;have hxF:=hx2.trans hb3;clear con3 h3 hf2;obtain ⟨z0,z1,z2⟩:=cells3 QZ;obtain ⟨y0,y1,y2⟩:=froz3 QZ;go_wp2_with fail
  obtain ⟨QE,hRE,hbE⟩:=st3_all (w:=w) QZ HRF.out hxF (Nat.le_refl _) hltR hltT (.int .i64 4) (.int .i64 0) (.string t.2.1);generalize (((w3.setCell ⟨w.heap.size,0,none⟩ (.int .i64 4)).setCell ⟨w.heap.size,1,none⟩ (.int .i64 0)).setCell ⟨w.heap.size,2,none⟩ (.string t.2.1))=wE at *;obtain ⟨x0,x1,x2⟩:=cells3 QE;exact bodyPost_ret (v:=.agg #[.int .i64 4,.int .i64 0,.string t.2.1]) (by simp [results,Tryz.results190,go_sem,x0,x1,x2]) rfl (Ends.good (x:=(4,0,t.2.1)) rfl hbE rfl hRE)
 have b3:(t.1 == 3)=false:=by simpa using hs3
 rcases i0:isP ⟨#[110,117,108,108]⟩ (t :: r) with _ | _
 case true =>
  have e:M = .ok ((1,0,eB),passP (t :: r)):=by rw [← HM.out,valueP,if_neg (by simpa [nowP] using hs3),if_pos i0]
  subst e;clear HM;go_enter Tryz.func190,Tryz.ntmps190;go_wp2_with fail
  generalize w.alloc (.cells #[.int .i64 0,.int .i64 0,.string ⟨#[]⟩] 53)=w1 at *;refine con.mono ?_;rintro e w2 ⟨rfl,hb2⟩;have hf2:=tk_sort (.string t.2.1) (.int .i64 t.2.2) t.1 w2;have H2:Hid (RdAt w2 R tb (t :: r) o):=H1.out.next hb2;have QZ2:=(hb2.block _ (lt_of_heap QZ0)).trans QZ0;have hx2:BelowX R w w2:=(BelowX.of hal (by omega)).trans (.of hb2 (by omega));have hz2:=lt_of_heap QZ2;clear con;have HT0:=H2;have QT0:=QZ2;have hxt0:=hx2;have ct0:=took_at HT0.out ⟨#[110,117,108,108]⟩;rw [i0,tookP_t i0] at ct0;go_wp2_with fail
  refine ct0.mono ?_;rintro e wt1 ⟨rfl,ht,hbt1⟩;have HT1:Hid (RdAt wt1 R tb (passP (t :: r)) o):=ht;have QT1:=(hbt1.2 _ (lt_of_heap QT0) (by omega)).trans QT0;have hxt1:=hxt0.trans hbt1;have hzt1:=lt_of_heap QT1;clear ct0 ht;have cv:=null_any wt1;go_wp2_with fail
  refine cv.mono ?_;rintro e wv ⟨rfl,hbv⟩;have QZ:=(hbv.block _ (lt_of_heap QT1)).trans QT1;have HRF:Hid (RdAt wv R tb (passP (t :: r)) o):=HT1.out.next hbv;have hxF:=hxt1.trans (.of hbv (by have:=hxt1.size; omega));clear cv hf2;obtain ⟨z0,z1,z2⟩:=cells3 QZ;obtain ⟨y0,y1,y2⟩:=froz3 QZ;go_wp2_with fail
  obtain ⟨QE,hRE,hbE⟩:=st3_all (w:=w) QZ HRF.out hxF (Nat.le_refl _) hltR hltT (.int .i64 1) (.int .i64 0) (.string ⟨#[]⟩);generalize (((wv.setCell ⟨w.heap.size,0,none⟩ (.int .i64 1)).setCell ⟨w.heap.size,1,none⟩ (.int .i64 0)).setCell ⟨w.heap.size,2,none⟩ (.string ⟨#[]⟩))=wE at *;obtain ⟨x0,x1,x2⟩:=cells3 QE;exact bodyPost_ret (v:=.agg #[.int .i64 1,.int .i64 0,.string ⟨#[]⟩]) (by simp [results,Tryz.results190,go_sem,x0,x1,x2]) rfl (Ends.good (x:=(1,0,eB)) rfl hbE rfl hRE)
 rcases i1:isP ⟨#[116,114,117,101]⟩ (t :: r) with _ | _
 case true =>
  have e:M = .ok ((2,1,eB),passP (t :: r)):=by rw [← HM.out,valueP,if_neg (by simpa [nowP] using hs3),if_neg (by simp [i0]),if_pos i1]
  subst e;clear HM;go_enter Tryz.func190,Tryz.ntmps190;go_wp2_with fail
  generalize w.alloc (.cells #[.int .i64 0,.int .i64 0,.string ⟨#[]⟩] 53)=w1 at *;refine con.mono ?_;rintro e w2 ⟨rfl,hb2⟩;have hf2:=tk_sort (.string t.2.1) (.int .i64 t.2.2) t.1 w2;have H2:Hid (RdAt w2 R tb (t :: r) o):=H1.out.next hb2;have QZ2:=(hb2.block _ (lt_of_heap QZ0)).trans QZ0;have hx2:BelowX R w w2:=(BelowX.of hal (by omega)).trans (.of hb2 (by omega));have hz2:=lt_of_heap QZ2;clear con;have HT0:=H2;have QT0:=QZ2;have hxt0:=hx2;have ct0:=took_at HT0.out ⟨#[110,117,108,108]⟩;rw [i0,tookP_f i0] at ct0;go_wp2_with fail
  refine ct0.mono ?_;rintro e wt1 ⟨rfl,ht,hbt1⟩;have HT1:Hid (RdAt wt1 R tb (t :: r) o):=ht;have QT1:=(hbt1.2 _ (lt_of_heap QT0) (by omega)).trans QT0;have hxt1:=hxt0.trans hbt1;have hzt1:=lt_of_heap QT1;clear ct0 ht;have ct1:=took_at HT1.out ⟨#[116,114,117,101]⟩;rw [i1,tookP_t i1] at ct1;go_wp2_with fail
  refine ct1.mono ?_;rintro e wt2 ⟨rfl,ht,hbt2⟩;have HT2:Hid (RdAt wt2 R tb (passP (t :: r)) o):=ht;have QT2:=(hbt2.2 _ (lt_of_heap QT1) (by omega)).trans QT1;have hxt2:=hxt1.trans hbt2;have hzt2:=lt_of_heap QT2;clear ct1 ht;have cv:=bool_true wt2;go_wp2_with fail
  refine cv.mono ?_;rintro e wv ⟨rfl,hbv⟩;have QZ:=(hbv.block _ (lt_of_heap QT2)).trans QT2;have HRF:Hid (RdAt wv R tb (passP (t :: r)) o):=HT2.out.next hbv;have hxF:=hxt2.trans (.of hbv (by have:=hxt2.size; omega));clear cv hf2;obtain ⟨z0,z1,z2⟩:=cells3 QZ;obtain ⟨y0,y1,y2⟩:=froz3 QZ;go_wp2_with fail
  obtain ⟨QE,hRE,hbE⟩:=st3_all (w:=w) QZ HRF.out hxF (Nat.le_refl _) hltR hltT (.int .i64 2) (.int .i64 1) (.string ⟨#[]⟩);generalize (((wv.setCell ⟨w.heap.size,0,none⟩ (.int .i64 2)).setCell ⟨w.heap.size,1,none⟩ (.int .i64 1)).setCell ⟨w.heap.size,2,none⟩ (.string ⟨#[]⟩))=wE at *;obtain ⟨x0,x1,x2⟩:=cells3 QE;exact bodyPost_ret (v:=.agg #[.int .i64 2,.int .i64 1,.string ⟨#[]⟩]) (by simp [results,Tryz.results190,go_sem,x0,x1,x2]) rfl (Ends.good (x:=(2,1,eB)) rfl hbE rfl hRE)
 rcases i2:isP ⟨#[102,97,108,115,101]⟩ (t :: r) with _ | _
 case true =>
  have e:M = .ok ((2,0,eB),passP (t :: r)):=by rw [← HM.out,valueP,if_neg (by simpa [nowP] using hs3),if_neg (by simp [i0]),if_neg (by simp [i1]),if_pos i2]
  subst e;clear HM;go_enter Tryz.func190,Tryz.ntmps190;go_wp2_with fail
  generalize w.alloc (.cells #[.int .i64 0,.int .i64 0,.string ⟨#[]⟩] 53)=w1 at *;refine con.mono ?_;rintro e w2 ⟨rfl,hb2⟩;have hf2:=tk_sort (.string t.2.1) (.int .i64 t.2.2) t.1 w2;have H2:Hid (RdAt w2 R tb (t :: r) o):=H1.out.next hb2;have QZ2:=(hb2.block _ (lt_of_heap QZ0)).trans QZ0;have hx2:BelowX R w w2:=(BelowX.of hal (by omega)).trans (.of hb2 (by omega));have hz2:=lt_of_heap QZ2;clear con;have HT0:=H2;have QT0:=QZ2;have hxt0:=hx2;have ct0:=took_at HT0.out ⟨#[110,117,108,108]⟩;rw [i0,tookP_f i0] at ct0;go_wp2_with fail
  refine ct0.mono ?_;rintro e wt1 ⟨rfl,ht,hbt1⟩;have HT1:Hid (RdAt wt1 R tb (t :: r) o):=ht;have QT1:=(hbt1.2 _ (lt_of_heap QT0) (by omega)).trans QT0;have hxt1:=hxt0.trans hbt1;have hzt1:=lt_of_heap QT1;clear ct0 ht;have ct1:=took_at HT1.out ⟨#[116,114,117,101]⟩;rw [i1,tookP_f i1] at ct1;go_wp2_with fail
  refine ct1.mono ?_;rintro e wt2 ⟨rfl,ht,hbt2⟩;have HT2:Hid (RdAt wt2 R tb (t :: r) o):=ht;have QT2:=(hbt2.2 _ (lt_of_heap QT1) (by omega)).trans QT1;have hxt2:=hxt1.trans hbt2;have hzt2:=lt_of_heap QT2;clear ct1 ht;have ct2:=took_at HT2.out ⟨#[102,97,108,115,101]⟩;rw [i2,tookP_t i2] at ct2;go_wp2_with fail
  refine ct2.mono ?_;rintro e wt3 ⟨rfl,ht,hbt3⟩;have HT3:Hid (RdAt wt3 R tb (passP (t :: r)) o):=ht;have QT3:=(hbt3.2 _ (lt_of_heap QT2) (by omega)).trans QT2;have hxt3:=hxt2.trans hbt3;have hzt3:=lt_of_heap QT3;clear ct2 ht;have cv:=bool_false wt3;go_wp2_with fail
  refine cv.mono ?_;rintro e wv ⟨rfl,hbv⟩;have QZ:=(hbv.block _ (lt_of_heap QT3)).trans QT3;have HRF:Hid (RdAt wv R tb (passP (t :: r)) o):=HT3.out.next hbv;have hxF:=hxt3.trans (.of hbv (by have:=hxt3.size; omega));clear cv hf2;obtain ⟨z0,z1,z2⟩:=cells3 QZ;obtain ⟨y0,y1,y2⟩:=froz3 QZ;go_wp2_with fail
  obtain ⟨QE,hRE,hbE⟩:=st3_all (w:=w) QZ HRF.out hxF (Nat.le_refl _) hltR hltT (.int .i64 2) (.int .i64 0) (.string ⟨#[]⟩);generalize (((wv.setCell ⟨w.heap.size,0,none⟩ (.int .i64 2)).setCell ⟨w.heap.size,1,none⟩ (.int .i64 0)).setCell ⟨w.heap.size,2,none⟩ (.string ⟨#[]⟩))=wE at *;obtain ⟨x0,x1,x2⟩:=cells3 QE;exact bodyPost_ret (v:=.agg #[.int .i64 2,.int .i64 0,.string ⟨#[]⟩]) (by simp [results,Tryz.results190,go_sem,x0,x1,x2]) rfl (Ends.good (x:=(2,0,eB)) rfl hbE rfl hRE)
 have HM2:Hid (bnd (numberP (-1000000000000000) 1000000000000000 (t :: r)) (fun n r=>.ok ((3,n,eB),r))=M):=by
  have:=HM.out;rw [valueP,if_neg (by simpa [nowP] using hs3),if_neg (by simp [i0]),if_neg (by simp [i1]),if_neg (by simp [i2])] at this;exact this
 clear HM;go_enter Tryz.func190,Tryz.ntmps190;go_wp2_with fail
 generalize w.alloc (.cells #[.int .i64 0,.int .i64 0,.string ⟨#[]⟩] 53)=w1 at *;refine con.mono ?_;rintro e w2 ⟨rfl,hb2⟩;have hf2:=tk_sort (.string t.2.1) (.int .i64 t.2.2) t.1 w2;have H2:Hid (RdAt w2 R tb (t :: r) o):=H1.out.next hb2;have QZ2:=(hb2.block _ (lt_of_heap QZ0)).trans QZ0;have hx2:BelowX R w w2:=(BelowX.of hal (by omega)).trans (.of hb2 (by omega));have hz2:=lt_of_heap QZ2;clear con;have HT0:=H2;have QT0:=QZ2;have hxt0:=hx2;have ct0:=took_at HT0.out ⟨#[110,117,108,108]⟩;rw [i0,tookP_f i0] at ct0;go_wp2_with fail
 refine ct0.mono ?_;rintro e wt1 ⟨rfl,ht,hbt1⟩;have HT1:Hid (RdAt wt1 R tb (t :: r) o):=ht;have QT1:=(hbt1.2 _ (lt_of_heap QT0) (by omega)).trans QT0;have hxt1:=hxt0.trans hbt1;have hzt1:=lt_of_heap QT1;clear ct0 ht;have ct1:=took_at HT1.out ⟨#[116,114,117,101]⟩;rw [i1,tookP_f i1] at ct1;go_wp2_with fail
 refine ct1.mono ?_;rintro e wt2 ⟨rfl,ht,hbt2⟩;have HT2:Hid (RdAt wt2 R tb (t :: r) o):=ht;have QT2:=(hbt2.2 _ (lt_of_heap QT1) (by omega)).trans QT1;have hxt2:=hxt1.trans hbt2;have hzt2:=lt_of_heap QT2;clear ct1 ht;have ct2:=took_at HT2.out ⟨#[102,97,108,115,101]⟩;rw [i2,tookP_f i2] at ct2;go_wp2_with fail
 refine ct2.mono ?_;rintro e wt3 ⟨rfl,ht,hbt3⟩;have HT3:Hid (RdAt wt3 R tb (t :: r) o):=ht;have QT3:=(hbt3.2 _ (lt_of_heap QT2) (by omega)).trans QT2;have hxt3:=hxt2.trans hbt3;have hzt3:=lt_of_heap QT3;clear ct2 ht;have cn:=number_at HT3.out (-1000000000000000) 1000000000000000;have hrg:∀ n r',numberP (-1000000000000000) 1000000000000000 (t :: r) = .ok (n,r') → -1000000000000000≤n∧n≤1000000000000000:=fun _ _ h=>number_range h
 generalize numberP (-1000000000000000) 1000000000000000 (t :: r)=L at *;go_wp2_with fail
 refine cn.mono ?_;rintro e wn ⟨hbn,hW⟩;have hxn:=hxt3.trans hbn;have QN:=(hbn.2 _ (lt_of_heap QT3) (by omega)).trans QT3;clear cn hf2;rcases L with ce | ⟨nn,rs⟩
 ·obtain ⟨rfl,us,hE⟩:=hW;have HE:Hid (RdAt wn R tb us o):=hE;clear hE;have e:M = .error ce:=HM2.out.symm;subst e;clear HM2;go_wp2_with fail
  exact ⟨rfl,Ends.err rfl hxn HE.out⟩
 obtain ⟨v,rfl,rfl,hRn⟩:=hW;have HRn:Hid (RdAt wn R tb rs o):=hRn;have e:M = .ok ((3,nn,eB),rs):=HM2.out.symm;subst e;have hrg2:=hrg nn rs rfl;have cv:=vint_at hrg2.1 hrg2.2 wn;clear HM2 hRn hrg;go_wp2_with fail
 refine cv.mono ?_;rintro e wv ⟨rfl,hbv⟩;have QZ:=(hbv.block _ (lt_of_heap QN)).trans QN;have HRF:Hid (RdAt wv R tb rs o):=HRn.out.next hbv;have hxF:=hxn.trans (.of hbv (by have:=hxn.size; omega));clear cv;obtain ⟨z0,z1,z2⟩:=cells3 QZ;obtain ⟨y0,y1,y2⟩:=froz3 QZ;go_wp2_with fail
 obtain ⟨QE,hRE,hbE⟩:=st3_all (w:=w) QZ HRF.out hxF (Nat.le_refl _) hltR hltT (.int .i64 3) (.int .i64 nn) (.string ⟨#[]⟩);generalize (((wv.setCell ⟨w.heap.size,0,none⟩ (.int .i64 3)).setCell ⟨w.heap.size,1,none⟩ (.int .i64 nn)).setCell ⟨w.heap.size,2,none⟩ (.string ⟨#[]⟩))=wE at *;obtain ⟨x0,x1,x2⟩:=cells3 QE;exact bodyPost_ret (v:=.agg #[.int .i64 3,.int .i64 nn,.string ⟨#[]⟩]) (by simp [results,Tryz.results190,go_sem,x0,x1,x2]) rfl (Ends.good (x:=(3,nn,eB)) rfl hbE rfl hRE)
end Go.Proofs.YtoknmnngaackkaaGreatDoor
