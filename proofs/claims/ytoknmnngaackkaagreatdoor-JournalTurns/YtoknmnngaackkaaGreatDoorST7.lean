/- Together: BT, BU, BV, BW, BX, CD, CC, CE, CF. -/
import Derived.Deep.LoopGhost
import Derived.Deep.MidRow
import Derived.Test.YtoknmnngaackkaaGreatDoorST6
import Derived.Test.YtoknmnngaackkaaGreatDoorST0
import Derived.Test.YtoknmnngaackkaaGreatDoorST4
namespace Go.Proofs.YtoknmnngaackkaaGreatDoor
open Go.RowKit Go.Lib Go.Shelf
set_option maxRecDepth 100000
set_option maxHeartbeats 16000000
set_option maxRecDepth 100000
set_option maxHeartbeats 8000000
theorem mE (l:List cM) (a:Option Addr) (c:Nat) (S:Nat→Prop) (w:World) (hks:bf cy 16 S w a l):Calls Tryz.prog 18 #[.slice a l.length c] w fun e w'=>e = .returned (.agg #[.int .i64 (cL l).1,.int .i64 (cL l).2])∧Below w w w':=by
 have hmf:∀ (fn:Fn) (first cap:Array Value) (w:World),(Instr.makeFunc fn first cap).run Tryz.prog w = .ok (.func fn first cap) w:=fun _ _ _ _=>rfl
 have hal1:=bR w (.cells #[.slice a l.length c] 22);have hal2:Below (w.alloc (.cells #[.slice a l.length c] 22)).heap.size (w.alloc (.cells #[.slice a l.length c] 22)) ((w.alloc (.cells #[.slice a l.length c] 22)).alloc (.cells #[aB,aB] 27)):=bR ..;have QL:=(hal2.block _ (lt_of_heap (aD w #[.slice a l.length c] 22))).trans (aD w #[.slice a l.length c] 22)
 have QF:((w.alloc (.cells #[.slice a l.length c] 22)).alloc (.cells #[aB,aB] 27)).heap[w.heap.size+1]? = some (.cells #[aB,aB] 27 (0,0)):=by
  rw [show w.heap.size+1=(w.alloc (.cells #[.slice a l.length c] 22)).heap.size by simp];exact aD _ _ _
 have hal:=chain hal1 hal2;have con:=Cc l a c (fun _=>True) _ w QL ((hks.mono bJ (fun _ _ _=>trivial)).aM bJ (ay.of hal));generalize cL l=r at *;clear hal1 hal2 hks;go_enter Tryz.func18,Tryz.ntmps18;go_upto_region 1 with fail
 generalize w.alloc _=w1 at *;go_wp2_with fail
 refine cR con fun w2 hb2=>?_;have QF2:=bH hb2 QF;have c0:=cell_of (i:=0) QF2 rfl;have c1:=cell_of (i:=1) QF2 rfl;have f0:=I0 w2 (w+1) 0 _ _ QF2;have f1:=I0 w2 (w+1) 1 _ _ QF2;clear con;go_wp2_with fail
 have QE:=dJ QF2 r.1 r.2;have hbE:=iW (g:=w.heap.size+1) (chain hal hb2) ak r.1 r.2;generalize ((w2.setCell (af (w+1) 0) r.1).setCell (af (w+1) 1) r.2)=wE at *;obtain ⟨x0,x1⟩:=dp QE;exact I7 (v:=.agg #[r.1,r.2]) (by simp [results,Tryz.results18,go_sem,x0,x1]) rfl ⟨rfl,hbE⟩
set_option maxHeartbeats 4000000
theorem uR (f:Int→Bool):∀ (l:List UInt8),∀ c ∈ l.take (eE f l),f ((c.toNat:Nat):Int)=true
 | [],c,h=>by simp at h
 | x :: r,c,h=>by
  unfold eE at h
  rw [JI,fk] at h
  split at h
  ·rename_i hx
   rw [List.take_succ_cons] at h
   rcases List.mem_cons.1 h with rfl | h
   ·exact hx
   ·exact uR f r c h
  ·simp at h
theorem mJ {p:Int}:∀ (l:List UInt8) (k:Nat) (out:List UInt8) {t:Tk} {j:Nat},dI p l k out = .ok (t,j)→t.1=3∧t.2.1.size≤60
 | [],k,out,t,j,h=>by rw [dI] at h; cases h
 | [c],k,out,t,j,h=>by
  rw [dI] at h
  split at h
  ·unfold ki at h
   split at h
   ·cases h
   ·injection h with h; injection h with h _; subst h; exact ⟨rfl,by show (fc out).size≤60; rw [fG]; omega⟩
  ·cases h
 | c :: d :: r,k,out,t,j,h=>by
  rw [dI] at h
  split at h
  ·split at h
   ·exact mJ r (k+2) _ h
   ·unfold ki at h
    split at h
    ·cases h
    ·injection h with h; injection h with h _; subst h; exact ⟨rfl,by show (fc out).size≤60; rw [fG]; omega⟩
  ·exact mJ (d :: r) (k+1) _ h
theorem qp {l:List UInt8} {p:Int}:∀ (gs:List (List UInt8)),(∀ g ∈ gs,g.length≤2)→∀ {t:Tk} {j:Nat},iy l p gs = .ok (t,j)→t.1=4∧t.2.1.size≤2
 | [],_,t,j,h=>by rw [iy] at h; cases h
 | g :: gs,hg,t,j,h=>by
  rw [iy] at h
  split at h
  ·injection h with h; injection h with h _
   subst h
   exact ⟨rfl,by show (fc g).size≤2; rw [fG]; exact hg g (by simp)⟩
  ·exact qp gs (fun g h=>hg g (by simp [h])) h
theorem Eh {l:List UInt8} {p:Int} (hl:l ≠ []) (h4:l.length≤4000) {t:Tk} {j:Nat} (h:eT l p = .ok (t,j)):t.1≠5∧Dl t:=by
 unfold eT at h
 split at h
 ·injection h with h; injection h with h _
  subst h;exact ⟨by show (1:Int)≠5; decide,by show (fc _).size≤4000; rw [fG,Jr]; omega,fun h=>absurd (show (1:Int)=2 from h) (by decide)⟩
 ·split at h
  ·rename_i hc
   unfold iF at h
   split at h
   ·cases h
   ·rename_i h16
    injection h with h; injection h with h _
    subst h;have hp:=nS hl hc;have hle:=jV gp l;refine ⟨by show (2:Int)≠5; decide,by show (fc _).size≤4000; rw [fG,Jr]; omega,fun _=>⟨by show 1≤(fc _).size; rw [fG,Jr]; omega,by show (fc _).size≤16; rw [fG,Jr]; omega,fun c hc=>?_⟩⟩;have hc2:c ∈ l.take (eE gp l):=by simpa [fc] using hc
    have:=uR gp l c hc2;simp only [gp,Jv,decide_eq_true_eq] at this;omega
  ·split at h
   ·obtain ⟨h1,h2⟩:=mJ _ _ _ h;exact ⟨by rw [h1]; decide,by omega,fun h=>by rw [h1] at h; cases h⟩
   ·obtain ⟨h1,h2⟩:=qp iM (by decide) h;exact ⟨by rw [h1]; decide,by omega,fun h=>by rw [h1] at h; cases h⟩
theorem wT:∀ (n:Nat) (l:List UInt8) (p:Int) {ts:List Tk},l.length≤4000→ja n l p = .ok ts→lP ts∧ts.length≤l.length+1
 | 0,l,p,ts,_,h=>by rw [ja] at h; cases h
 | n+1,l,p,ts,h4,h=>by
  by_cases hl:l = []
  ·subst hl
   rw [pD] at h
   injection h with h
   subst h
   exact ⟨.last p,by simp⟩
  ·rw [mT n l p hl] at h
   rcases ht:eT l p with e | ⟨t,j⟩
   ·rw [ht] at h; cases h
   ·rw [ht] at h
    simp only at h
    have hj:=pr hl ht
    obtain ⟨h5,hk⟩:=Eh hl h4 ht
    rcases hg:ja n ((l.drop j).drop (eE eW (l.drop j))) (p+j+eE eW (l.drop j)) with e | rs
    ·rw [hg] at h; cases h
    ·rw [hg] at h
     have e:=Except.ok.inj h
     subst e
     have hlen:((l.drop j).drop (eE eW (l.drop j))).length≤l.length - j:=by simp; omega
     obtain ⟨r1,r2⟩:=wT n _ _ ak hg
     exact ⟨.cons t rs h5 hk r1,by simp; omega⟩
theorem yO {s:ByteArray} (hs:s.size≤4000) {ts:List Tk} (h:jn s = .ok ts):lP ts∧ts.length≤4001:=by
 have hz:s.data.toList.length=s.size:=Ji;have hlen:(s.data.toList.drop (eE eW s.data.toList)).length≤s.data.toList.length:=by simp
 obtain ⟨h1,h2⟩:=wT _ _ _ ak h;exact ⟨h1,by omega⟩
def da (s:ByteArray):Except Er (List cM) :=
 if s.size > 4000 then .error (4,0) else
 match jn s with
 | .error e=>.error e
 | .ok ts=>match bM 61 [] ts with
  | .error e=>.error e
  | .ok (l,_)=>if (cL l).1=0 then .ok l else .error ((cL l).1,0)
def oh (w:World) (r:Except Er (List cM)) (e:Ending) (w':World):Prop :=
 Below w w w'∧match r with
  | .ok x=>∃ a cap,e = .returned (.slice a x.length cap)∧bf cy 16 (fun b=>w.heap.size≤b) w' a x
  | .error c=>e = .panicked [ie c.1 c.2]
theorem oh.err {w w':World} {r:Except Er (List cM)} {c:Er} (hr:r = .error c) (hb:Below w w w'):oh w r (.panicked [ie c.1 c.2]) w':=by subst hr; exact ⟨hb,rfl⟩
theorem Gg {W:World} {S:Nat→Prop} {a:Option Addr} {ts:List Tk} (h:bf Fz 3 S W a ts) (hne:ts ≠ []):∃ b off,a=some ⟨b,off,none⟩∧S b∧oT W b off ts:=by
 rcases h with rfl | ⟨b,off,e,h1,h2,h3⟩
 ·exact absurd rfl hne
 ·refine ⟨b,off,e,h1,h2,fun i hi=>?_,fun i hi=>?_,fun i hi=>?_⟩
  all_goals obtain ⟨cs,_,c2,rfl⟩:=h3 i hi
  ·exact c2 0 _ rfl
  ·exact c2 1 _ rfl
  ·exact c2 2 _ rfl
theorem CA (s:ByteArray) {w:World} (hg:Gl w):Calls Tryz.prog 35 #[s] w (oh w (da s)):=by
 have hw1:=hg.lt;generalize hM:da s=M;rw [da] at hM;by_cases hbig:s.size > 4000
 ·rw [if_pos hbig] at hM;subst hM;have hz:(4000:Int)<(s.size:Int):=by omega
  have con:=fg 4 0 w;clear hbig hg;go_enter Tryz.func35,Tryz.ntmps35;go_wp2_with fail
  refine con.mono ?_;rintro e w2 ⟨rfl,hb2⟩;go_wp2_with fail
  exact ⟨rfl,oh.err (c:=(4,0)) rfl hb2⟩
 rw [if_neg hbig] at hM;have hz:¬ (4000:Int)<(s.size:Int):=by omega
 have con:=xP s ak hg;have hok:=fun ts=>yO (s:=s) ak (ts:=ts)
 generalize jn s=L at *;have HG:=ah hg;have HM:=ah hM;have HO:=ah hok;clear hM hbig hg hok;go_enter Tryz.func35,Tryz.ntmps35;go_wp2_with fail
 refine con.mono ?_;rintro e w2 ⟨hb2,hW⟩;clear con;rcases L with ce | ts
 ·obtain rfl:=hW;have e:=HM.out.symm;subst e;clear HM HO;go_wp2_with fail
  exact ⟨rfl,oh.err rfl hb2⟩
 obtain ⟨a,cap,rfl,hcp,hls⟩:=hW;obtain ⟨htk,hsm⟩:=HO.out ts rfl;obtain ⟨tb,off,rfl,htb,htat⟩:=Gg hls (by obtain ⟨_,_,rfl⟩:=htk.ne; simp);obtain ⟨hal,QR⟩:=dZ w2 #[.slice (some (af tb off)) ts.length cap,aB] 121;have hz2:=hb2.size
 have hR:aR (w2.alloc (.cells #[.slice (some (af tb off)) ts.length cap,aB] 121)) w2 tb ts 0:=⟨⟨off,cap,QR,hcp,htat.next hal⟩,by have:=htat.lt; omega,htk,hsm,(HG.out.next hb2).next hal,by omega⟩
 have con:=qc hR;have hm:=HM.out;simp only at hm;generalize bM 61 [] ts=L at hm con;have HM2:=ah hm;clear hm HM HO hls htat htk hsm hR hcp HG;go_upto_region 4 with fail
 generalize w2.alloc _=w3 at *;go_wp2_with fail
 refine con.mono ?_;rintro e w4 ⟨hb4,hW⟩;have hb:=(chain hb2 hal).trans (hb4.1.mono ak);clear con;rcases L with ce | ⟨l,rr⟩
 ·obtain ⟨rfl,_⟩:=hW;have e:=HM2.out.symm;subst e;clear HM2;go_wp2_with fail
  exact ⟨rfl,oh.err rfl hb⟩
 obtain ⟨v,rfl,⟨al,cl,rfl,hls⟩,_⟩:=hW;have con:=mE l al cl _ w4 hls;have HL:=ah hls;have hm:=HM2.out;simp only at hm;generalize cL l=wr at hm con;have HM3:=ah hm;clear hm HM2 hls;go_wp2_with fail
 refine cR con fun w5 hb5=>?_;clear con;obtain ⟨hal5,QF⟩:=dZ w5 #[wr.1,wr.2] 27;have hbb:=chain hb (chain hb5 hal5);have HL5:=ah ((HL.out.mono bJ (fun b h _=>by have:w3.heap.size≤b:=h; show w.heap.size≤b; have:=hal.size; omega)).aM bJ (ay.of (chain hb5 hal5)));go_upto_region 6 with fail
 generalize w5.alloc _=w6 at *;have c0:=cell_of (i:=0) QF rfl;by_cases h0:wr.1=0
 ·have b0:(wr.1 != 0)=false:=by simpa using h0
  have e:M = .ok l:=by rw [← HM3.out,if_pos h0]
  subst e;clear HM3 h0;go_wp2_with fail
  exact fa rfl rfl ⟨hbb,al,cl,fQ,HL5.out⟩
 ·have b0:(wr.1 != 0)=true:=by simpa using h0
  have e:M = .error (wr.1,0):=by rw [← HM3.out,if_neg h0]
  have E:=ah e;have con:=fg wr.1 0 w6;clear HM3 h0 e;go_wp2_with fail
  refine cR con fun w7 hb7=>?_;go_wp2_with fail
  exact ⟨rfl,oh.err (c:=(wr.1,0)) E.out (chain hbb hb7)⟩
def GF (w:World) (OB:Nat) (r:Except Er (List cM)) (e:Ending) (w':World):Prop :=
 aj OB w w'∧match r with
  | .ok x=>e = .returned (.tuple #[])∧∃ a cap,w'.heap[OB]? = some (.cells #[.slice a x.length cap] 22 (0,0))∧bf cy 16 (fun b=>w.heap.size≤b) w' a x
  | .error c=>e = .panicked [ie c.1 c.2]∧w'.heap[OB]? = some (.cells #[aL] 22 (0,0))
theorem Bk (s:ByteArray) {w:World} (hg:Gl w) {SB OB:Nat} (QS:w.heap[SB]? = some (.cells #[s] 9 (0,0))) (QO:w.heap[OB]? = some (.cells #[aL] 22 (0,0))):Calls Tryz.prog 34 #[af SB 0,af OB 0] w (GF w OB (da s)):=by
 have con:=CA s hg;have s0:=cell_of (i:=0) QS rfl;have hO:=lt_of_heap QO;generalize da s=M at *;clear hg;go_enter Tryz.func34,Tryz.ntmps34;go_wp2_with fail
 refine con.mono ?_;rintro e w2 ⟨hb2,hW⟩;have QO2:=(hb2.block _ hO).trans QO;clear con s0;rcases M with ce | l
 ·obtain rfl:=hW;go_wp2_with fail
  exact ⟨rfl,.of hb2 ak,rfl,QO2⟩
 obtain ⟨a,cap,rfl,hls⟩:=hW;have HL:=ah hls;have c0:=cell_of (i:=0) QO2 rfl;have f0:=I0 w2 OB 0 _ _ QO2;clear hls;go_wp2_with fail
 go_end0
 exact ⟨(aj.of hb2 ak).set 0 _,rfl,a,cap,I5 w2 OB 0 _ _ _ QO2,HL.out.aM bJ (((aI.refl _ _).set 0 _).k (by show ¬ _≤OB; omega))⟩
def jL (r:Except Er (List cM)):Er:=match r with | .ok _=>(0,0) | .error c=>c
def rU (w:World) (OB:Nat) (r:Except Er (List cM)) (w':World):Prop :=
 aj OB w w'∧match r with
  | .ok x=>∃ a cap,w'.heap[OB]? = some (.cells #[.slice a x.length cap] 22 (0,0))∧bf cy 16 (fun b=>w.heap.size≤b) w' a x
  | .error _=>w'.heap[OB]? = some (.cells #[aL] 22 (0,0))
theorem BL (s:ByteArray) {w:World} (hg:Gl w) {SB OB:Nat} (QS:w.heap[SB]? = some (.cells #[s] 9 (0,0))) (QO:w.heap[OB]? = some (.cells #[aL] 22 (0,0))):Calls Tryz.prog 33 #[.func (.func 34) #[] #[af SB 0,af OB 0]] w fun e w'=>e = .returned (.agg #[.int .i64 (jL (da s)).1,.int .i64 (jL (da s)).2])∧rU w OB (da s) w':=by
 have hmf:∀ (fn:Fn) (first cap:Array Value) (w:World),(Instr.makeFunc fn first cap).run Tryz.prog w = .ok (.func fn first cap) w:=fun _ _ _ _=>rfl
 obtain ⟨hal,QF⟩:=dZ w #[aB,aB] 27;have hO:=lt_of_heap QO;have con:=Bk s (hg.next hal) (bH hal QS) ((hal.block _ hO).trans QO);generalize da s=M at *;clear hg QS QO;go_enter_defers Tryz.func33,Tryz.ntmps33
 go_upto_region 1 with fail
 generalize w.alloc _=w1 at *;have hx1:aj OB w w1:=.of hal ak;have hz1:=hal.size;go_wp2_with fail
 refine con.mono ?_;rintro e w2 ⟨hb2,hW⟩;have QF2:=(hb2.2 _ (lt_of_heap QF) ak).trans QF;have hx2:=hx1.trans hb2;clear con;rcases M with ce | l
 ·obtain ⟨rfl,QO2⟩:=hW;have dcon:=xy w ce.1 ce.2 w2 QF2;go_wp2_with fail
  refine leaves_cons (f:=64) (args:=#[af w 0]) (by simp) (by simp [go_sem]) ?_;refine dcon.mono ?_;rintro e u' w4 ⟨rfl,rfl,rfl⟩;have hal4:=bR w2 (.cells #[ce.1,ce.2] 115);have QE:=dJ (bH hal4 QF2) ce.1 ce.2;have hz2:=hx2.size;have hbE:=AW (hx2.trans (.of hal4 ak)) (I6 _) ak ce.1 ce.2
  have hkE:aI w (w2.alloc (.cells #[ce.1,ce.2] 115)) (((w2.alloc (.cells #[ce.1,ce.2] 115)).setCell (af w 0) ce.1).setCell (af w 1) ce.2):=((aI.refl _ _).set 0 _).set 1 _;have QO4:=bH hal4 QO2;have QOE:=(hkE.2 _ (lt_of_heap QO4) ak).trans QO4;generalize ((w2.alloc (.cells #[ce.1,ce.2] 115)).setCell (af w 0) ce.1).setCell (af w 1) ce.2=w4 at *
  have x0:=cell_of (i:=0) QE rfl;have x1:=cell_of (i:=1) QE rfl;have HE:Hid (rU w OB (.error ce) w4):=⟨hbE,QOE⟩
  simp [Leaves,settle,results,Tryz.results33,go_sem,x0,x1];exact ⟨⟨rfl,rfl⟩,HE.out⟩
 ·obtain ⟨rfl,a,cap,QO2,hls⟩:=hW;have HL:=ah hls;have c0:=cell_of (i:=0) QF2 rfl;have c1:=cell_of (i:=1) QF2 rfl;have f0:=I0 w2 w 0 _ _ QF2;have f1:=I0 w2 w 1 _ _ QF2;have hl1:=lt_of_heap QF;clear hls;go_wp2_with fail
  have QE:=dJ QF2 aB aB;have hbE:=AW hx2 (I6 _) ak aB aB;have hkE:aI w w2 ((w2.setCell (af w 0) aB).setCell (af w 1) aB):=((aI.refl _ _).set 0 _).set 1 _;have QOE:=(hkE.2 _ (lt_of_heap QO2) ak).trans QO2;have HLE:=ah (HL.out.aM bJ (hkE.k (by show ¬ _≤w.heap.size; omega)))
  generalize ((w2.setCell (af w 0) aB).setCell (af w 1) aB)=w3 at *;refine leaves_cons (f:=64) (args:=#[af w 0]) (by simp) (by simp [go_sem]) ?_;refine (wZ w w3).mono ?_;rintro e u' w4 ⟨rfl,rfl,rfl⟩;have hal4:=bR w3 (.cells #[aB,aB] 115);have QE4:=bH hal4 QE;have QO4:=bH hal4 QOE;have hz3:=hbE.size
  have hx4:aj OB w (w3.alloc (.cells #[aB,aB] 115)):=hbE.trans (.of hal4 ak);have hl4:=(HLE.out.aM bJ (ay.of hal4)).mono bJ (S':=fun b=>w.heap.size≤b) (fun b h _=>by have:w1.heap.size≤b:=h; show w.heap.size≤b; omega);generalize w3.alloc _=w4 at *;have x0:=cell_of (i:=0) QE4 rfl;have x1:=cell_of (i:=1) QE4 rfl;show Leaves Tryz.prog Tryz.f33 _ _ [] _ _
  exact ⟨.agg #[aB,aB],by simp [results,Tryz.results33,go_sem,x0,x1],rfl,hx4,a,cap,QO4,hl4⟩
def fN (r:Except Er (List cM)):List cM:=match r with | .ok l=>l | .error _=>[]
theorem rU.all {w:World} {OB:Nat} {r:Except Er (List cM)} {w':World} (h:rU w OB r w'):∃ a cap,w'.heap[OB]? = some (.cells #[.slice a (fN r).length cap] 22 (0,0))∧bf cy 16 (fun b=>w.heap.size≤b) w' a (fN r):=by
 rcases r with c | l
 ·exact ⟨none,0,h.2,.inl rfl⟩
 ·exact h.2
theorem lU (s:ByteArray) {w:World} (hg:Gl w):Calls Tryz.prog 17 #[s] w fun e w'=>Below w w w'∧∃ a cap,e = .returned (.tuple #[.slice a (fN (da s)).length cap,.agg #[.int .i64 (jL (da s)).1,.int .i64 (jL (da s)).2]])∧bf cy 16 (fun b=>w.heap.size≤b) w' a (fN (da s)):=by
 have hmf:∀ (fn:Fn) (first cap:Array Value) (w:World),(Instr.makeFunc fn first cap).run Tryz.prog w = .ok (.func fn first cap) w:=fun _ _ _ _=>rfl
 obtain ⟨hal1,Q1⟩:=dZ w #[s] 9;have e1:(w.alloc (.cells #[s] 9)).heap.size=w.heap.size+1:=by simp
 have hal2:Below (w.alloc (.cells #[s] 9)).heap.size (w.alloc (.cells #[s] 9)) ((w.alloc (.cells #[s] 9)).alloc (.cells #[aL] 22)):=bR ..;have Q2:=aD (w.alloc (.cells #[s] 9)) #[aL] 22;have e2:((w.alloc (.cells #[s] 9)).alloc (.cells #[aL] 22)).heap.size=w.heap.size+2:=by simp
 have hal3:Below ((w.alloc (.cells #[s] 9)).alloc (.cells #[aL] 22)).heap.size ((w.alloc (.cells #[s] 9)).alloc (.cells #[aL] 22)) (((w.alloc (.cells #[s] 9)).alloc (.cells #[aL] 22)).alloc (.cells #[aB,aB] 27)):=bR ..;have Q3:=aD ((w.alloc (.cells #[s] 9)).alloc (.cells #[aL] 22)) #[aB,aB] 27;have QS:=((hal3.block _ ak).trans (bH hal2 Q1))
 have QO:=bH hal3 Q2;rw [e1] at QO;have QF:=Q3;rw [e2] at QF;have hal:=chain hal1 (chain hal2 hal3);have HG:Hid _:=hg.next hal;clear hal1 hal2 hal3 Q1 Q2 Q3 e1 e2 hg;generalize hM:da s=M;have HM:=ah hM;generalize hl:fN M=l;generalize hr:jL M=r;have HLl:=ah hl;have HRr:=ah hr;clear hM hl hr;go_enter Tryz.func17,Tryz.ntmps17;go_upto_region 1 with fail
 generalize ((w.alloc (.cells #[s] 9)).alloc (.cells #[aL] 22)).alloc (.cells #[aB,aB] 27)=w1 at *;have con:=BL s HG.out QS QO;rw [HM.out,HRr.out] at con;have hl1:=lt_of_heap QF;clear HG QS;go_wp2_with fail
 refine cR con fun w2 hE=>?_;have hx:=hE.1;have hall:=hE.all;rw [HLl.out] at hall;obtain ⟨a,cap,QO2,hls⟩:=hall;have QF2:=(hx.2 _ hl1 ak).trans QF;have HL:=ah hls;have hb2:=hal.trans (hx.1.mono ak);obtain ⟨c0,c1⟩:=dp QF2;obtain ⟨f0,f1⟩:=kL QF2;clear con hE hls;go_upto_region 2 with fail
 have QE:=dJ QF2 r.1 r.2;have hbE:=iW (g:=w.heap.size+2) hb2 ak r.1 r.2;have hkE:aI (w+2) w2 ((w2.setCell (af (w+2) 0) r.1).setCell (af (w+2) 1) r.2):=((aI.refl _ _).set 0 _).set 1 _;have QOE:=(hkE.2 _ (lt_of_heap QO2) ak).trans QO2;have HLE:=ah (HL.out.aM bJ (hkE.k (by show ¬ _≤w.heap.size+2; omega)))
 generalize ((w2.setCell (af (w+2) 0) r.1).setCell (af (w+2) 1) r.2)=w3 at *;clear c0 c1 f0 f1 QF2 QO2 hkE HL
 have hCC:∀ W W':World,W.heap[w.heap.size+1]? = some (.cells #[.slice a l.length cap] 22 (0,0))∧W.heap[w.heap.size+2]? = some (.cells #[r.1,r.2] 27 (0,0))→Below W W W'→W'.heap[w.heap.size+1]? = some (.cells #[.slice a l.length cap] 22 (0,0))∧W'.heap[w.heap.size+2]? = some (.cells #[r.1,r.2] 27 (0,0)):=fun W W' h hb=>⟨(hb.block _ (lt_of_heap h.1)).trans h.1,(hb.block _ (lt_of_heap h.2)).trans h.2⟩
 have hdr:Below w3 w3 w3.drew:=(I8 _ _).drew;have CW:=hCC _ _ ⟨QOE,QE⟩ hdr;have hl3:=lt_of_heap QE;refine dC (fun W=>W.heap[w.heap.size+1]? = some (.cells #[.slice a l.length cap] 22 (0,0))∧W.heap[w.heap.size+2]? = some (.cells #[r.1,r.2] 27 (0,0))) 3 bm ?_;refine fP hCC 6 0 (.slice a l.length cap) (fun n hn=>?_) (fun _=>CW) ?_
 ·have c0:=cell_of (i:=0) hn.1 rfl;go_simp
 simp only [Act.put,pA,pB,pC];refine fP hCC 7 1 (.agg #[r.1,r.2]) (fun n hn=>?_) (fun _=>CW) ?_
 ·obtain ⟨c0,c1⟩:=dp hn.2;go_simp
 simp only [Act.put,pA,pB,pC];refine pJ 2 bm fun w5 hb5=>?_
 have C5:=hCC _ _ CW hb5;have D5:=chain hdr hb5;have c0:=cell_of (i:=0) C5.1 rfl;have f0:=I0 w5 (w+1) 0 _ _ C5.1;have O6:=I5 w5 (w+1) 0 _ _ (.slice a l.length cap) C5.1;have k6:aI (w+1) w5 ((w5.setCell (af (w+1) 0) (.slice a l.length cap))):=(aI.refl _ _).set 0 _;have F6:=(k6.2 _ (lt_of_heap C5.2) ak).trans C5.2;have hb6:Below w w ((w5.setCell (af (w+1) 0) (.slice a l.length cap))):=(chain hbE D5).setCell (p:=af (w+1) 0) (by show _≤w.heap.size+1; omega) _
 have HL6:=ah ((HLE.out.aM bJ (ay.of D5)).aM bJ (k6.k (by show ¬ _≤w.heap.size+1; omega)));refine wpOp_step rfl (fun K hK=>?_);go_simp;generalize ((w5.setCell (af (w+1) 0) (.slice a l.length cap)))=w5' at *;refine hK _ _ ⟨fun _=>⟨O6,F6⟩,?_⟩;clear hK K c0 f0;refine pJ 3 bm fun w6 hb7=>?_
 have F7:=bH hb7 F6;have O7:=bH hb7 O6;have QE7:=dJ F7 r.1 r.2;have hbE7:=iW (g:=w.heap.size+2) (chain hb6 hb7) ak r.1 r.2;have k7:aI (w+2) w6 ((w6.setCell (af (w+2) 0) r.1).setCell (af (w+2) 1) r.2):=((aI.refl _ _).set 0 _).set 1 _;have OE:=(k7.2 _ (lt_of_heap O7) ak).trans O7
 have HL7:=ah ((HL6.out.aM bJ (ay.of hb7)).aM bJ (k7.k (by show ¬ _≤w.heap.size+2; omega)));obtain ⟨c0,c1⟩:=dp F7;obtain ⟨f0,f1⟩:=kL F7;refine wpOp_step rfl (fun K hK=>?_);go_simp;generalize ((w6.setCell (af (w+2) 0) r.1).setCell (af (w+2) 1) r.2)=w7 at *;refine hK _ _ ⟨fun h=>by simp at h,?_⟩;clear hK K;refine eJ bm ?_;intro w8 hb8
 have O8:=bH hb8 OE;have F8:=bH hb8 QE7;have o0:=cell_of (i:=0) O8 rfl;obtain ⟨y0,y1⟩:=dp F8;have HL8:=ah ((HL7.out.aM bJ (ay.of hb8)).mono bJ (fun b h _=>by have:w1.heap.size≤b:=h; show w.heap.size≤b; omega));go_wp2_with fail
 exact I7 (v:=.tuple #[.slice a l.length cap,.agg #[r.1,r.2]]) (by simp [results,Tryz.results17,go_sem,o0,y0,y1]) rfl ⟨chain hbE7 hb8,a,cap,rfl,HL8.out⟩
end Go.Proofs.YtoknmnngaackkaaGreatDoor
namespace Go.Proofs.YtoknmnngaackkaaGreatDoor
set_option maxRecDepth 100000
set_option maxHeartbeats 16000000
set_option maxRecDepth 100000
set_option maxHeartbeats 1000000
inductive gA:SX→Prop
 | mk {k:Int} {v:Vl} {t n:ByteArray} {ks:List SX}:ks.length≤1000→(∀ y ∈ ks,gA y)→gA (.mk k v t n ks)
theorem gA.ks {x:SX} (h:gA x):x.ks.length≤1000∧∀ y ∈ x.ks,gA y:=by cases h with | mk h1 h2=>exact ⟨h1,h2⟩
theorem qu:gA dM:=.mk (by decide) (by simp)
theorem lE {k:Int} {l:List SX} (h:l.length≤1000) (h2:∀ y ∈ l,gA y):gA (nd k l):=.mk h h2
def nF {α:Type} (P:α→Prop) (l:List α):Prop:=l.length≤1000∧∀ x ∈ l,P x
abbrev Any {α:Type} (_:α):Prop:=True
structure qT (s:dO):Prop where
 items:nF (fun x:kx=>gA x.1) s.items
 sources:nF (fun x:Src=>gA x.on) s.sources
 au:gA s.au
 az:gA s.az
 group:nF gA s.group
structure GR (q:kf):Prop where
 parts:nF qT q.parts
 ops:q.ops.length≤1000
 order:nF gA q.order
structure sQ (s:cM):Prop where
 cF:s.cF.length≤1000
 query:GR s.query
 rows:nF (fun r:List Vl=>r.length≤1000) s.rows
 au:gA s.au
theorem iC {α:Type} {P:α→Prop}:nF P []:=⟨by simp,by simp⟩
theorem AZ:GR iz:=⟨iC,by simp [iz],iC⟩
structure aQ {α:Type} (P:α→Prop) (f:List Tk→PR α):Prop where
 h:∀ {ts x r},f ts = .ok (x,r)→P x
section
variable {α β:Type} {P:α→Prop} {Q:β→Prop}
theorem aQ.err {g:List Tk→Er}:aQ P (fun ts=>.error (g ts)):=⟨fun h=>by cases h⟩
theorem aQ.ok {g:List Tk→α} {p:List Tk→List Tk} (h:∀ ts,P (g ts)):aQ P (fun ts=>.ok (g ts,p ts)):=⟨fun H=>by cases H; exact h _⟩
theorem aQ.one {x:α} (h:P x):aQ P (fun ts=>.ok (x,ts)):=⟨fun H=>by cases H; exact h⟩
theorem aQ.pass {f:List Tk→PR α} {p:List Tk→List Tk} (h:aQ P f):aQ P (fun ts=>f (p ts)):=⟨fun H=>h.h H⟩
theorem aQ.aK {f:List Tk→PR β} {k:β→List Tk→PR α} (h:aQ Q f) (hk:∀ x,Q x→aQ P (k x)):aQ P (fun ts=>Go.Proofs.YtoknmnngaackkaaGreatDoor.aK (f ts) k):=⟨fun {ts x r} H=>by
 rcases hf:f ts with e | ⟨y,r1⟩
 ·rw [hf] at H; cases H
 ·rw [hf] at H; exact (hk y (h.h hf)).h H⟩
theorem aQ.any {f:List Tk→PR α}:aQ Any f:=⟨fun _=>trivial⟩
theorem aQ.fM {c:List Tk→Prop} [DecidablePred c] {f g:List Tk→PR α} (hf:aQ P f) (hg:aQ P g):aQ P (fun ts=>if c ts then f ts else g ts):=⟨fun {ts x r} H=>by
 split at H
 ·exact hf.h H
 ·exact hg.h H⟩
theorem aQ.of {f g:List Tk→PR α} (h:∀ ts,f ts=g ts) (hg:aQ P g):aQ P f:=⟨fun {ts _x _r} H=>hg.h ((h ts) ▸ H)⟩
end
theorem yv {x:SX} (h:gA x):aQ gA (fF x):=by
 refine ⟨fun {ts y r} H=>?_⟩;unfold fF at H;refine (aQ.aK (f:=fun ts=>aV [⟨#[110,117,108,108]⟩] ts) (k:=fun _ r=>.ok (if bK ⟨#[110,111,116]⟩ ts then nd 3 [nd 16 [x]] else nd 16 [x],r)) (Q:=Any) aQ.any (fun _ _=>aQ.one ?_)).h H;have h1:gA (nd 16 [x]):=lE (by simp) (by simpa using h)
 split
 ·exact lE (by simp) (by simpa using h1)
 ·exact h1
theorem vh:aQ gA dD:=.of (fun _=>rfl) (aQ.aK (Q:=Any) .any fun _ _=>aQ.fM (aQ.aK (f:=fun r=>dt (aC r)) (Q:=Any) .any fun _ _=>aQ.one <| .mk (by simp) (by simp)) (aQ.one <| .mk (by simp) (by simp)))
structure IM (n:Nat):Prop where
 expr:∀ o,aQ gA (dy n o)
 level:∀ l o,aQ gA (dj n l o)
 chain:∀ l o,aQ gA (cd n l o)
 loop:∀ l o x,gA x→aQ gA (fI n l o x)
 kM:∀ o,aQ gA (cJ n o)
 kI:∀ o,aQ gA (b7 n o)
 piece:∀ o,aQ gA (cI n o)
 behind:∀ o l,l.length≤5→aQ (nF gA) (cB n o l)
 exprs:∀ o l acc,l.length+acc.length≤5→(∀ x ∈ acc,gA x)→aQ (nF gA) (dk n o l acc)
 agg:∀ k o,aQ gA (ia n k o)
theorem AM {k:Int} {x:SX} (h:gA x):gA (nd k [x]):=lE (by simp) (by simpa using h)
theorem Ap {k:Int} {x y:SX} (h:gA x) (h2:gA y):gA (nd k [x,y]):=lE (by simp) (by simpa using ⟨h,h2⟩)
theorem It:∀ n,IM n
 | 0=>by
  constructor <;> intros
  ·exact .of (fun _=>by rw [dy]) (.err (g:=fun _=>(-1,0)))
  ·exact .of (fun _=>by rw [dj]) (.err (g:=fun _=>(-1,0)))
  ·exact .of (fun _=>by rw [cd]) (.err (g:=fun _=>(-1,0)))
  ·exact .of (fun _=>by rw [fI]) (.err (g:=fun _=>(-1,0)))
  ·exact .of (fun _=>by rw [cJ]) (.err (g:=fun _=>(-1,0)))
  ·exact .of (fun _=>by rw [b7]) (.err (g:=fun _=>(-1,0)))
  ·exact .of (fun _=>by rw [cI]) (.err (g:=fun _=>(-1,0)))
  ·exact .of (fun _=>by rw [cB]) (.err (g:=fun _=>(-1,0)))
  ·exact .of (fun _=>by rw [dk]) (.err (g:=fun _=>(-1,0)))
  ·exact .of (fun _=>by rw [ia]) (.err (g:=fun _=>(-1,0)))
 | n+1=>by
  have ih:=It n
  constructor
  ·intro o; exact .of (fun _=>by rw [dy]) (aQ.fM (c:=fun _=>o+1 > 100) .err (ih.chain _ _))
  ·intro l o; exact .of (fun _=>by rw [dj]) (aQ.fM (c:=fun _=>l=3) (ih.kM _) (aQ.fM (c:=fun _=>l=8) (ih.piece _) (ih.chain _ _)))
  ·intro l o; exact .of (fun _=>by rw [cd]) (aQ.aK (ih.level _ _) fun x hx=>ih.loop _ _ _ hx)
  ·intro l o x hx
   refine ⟨fun {ts y r} H=>?_⟩
   rw [fI] at H
   split at H
   ·cases H; exact hx
   ·exact (aQ.aK (f:=fun ts=>dj n (l+1) o (cC l ts).2) (k:=fun y r=>fI n l o (nd (cC l ts).1 [x,y]) r) (ih.level _ _).pass (fun y hy=>ih.loop _ _ _ (Ap hx hy))).h H
  ·intro o
   refine ⟨fun {ts y r} H=>?_⟩
   rw [cJ] at H
   exact (aQ.fM (c:=fun ts=>bK ⟨#[110,111,116]⟩ ts=true) (f:=fun ts=>aK (if o+1 > 100 then .error (4,iI (aC ts)) else cJ n (o+1) (aC ts)) fun x r=>.ok (nd 3 [x],r)) (g:=fun ts=>b7 n o ts) (aQ.aK (f:=fun ts=>if o+1 > 100 then .error (4,iI (aC ts)) else cJ n (o+1) (aC ts)) (aQ.fM (c:=fun _=>o+1 > 100) .err (ih.kM _).pass) fun x hx=>aQ.one <| AM hx) (ih.kI _)).h H
  ·intro o
   refine ⟨fun {ts y r} H=>?_⟩
   rw [b7] at H
   refine (aQ.aK (f:=fun ts=>cd n 5 o ts) (ih.chain _ _) (fun x hx=>?_)).h H
   refine aQ.fM (yv hx).pass ⟨fun {ts y r} H=>?_⟩
   split at H
   ·cases H; exact hx
   ·exact (aQ.aK (f:=fun r=>cd n 5 o (cC 4 r).2) (k:=fun y r2=>.ok (nd (cC 4 ts).1 [x,y],r2)) (ih.chain _ _).pass (fun y hy=>aQ.one <| Ap hx hy)).h H
  ·intro o
   exact .of (fun _=>by rw [cI]) (aQ.fM (aQ.aK (Q:=Any) .any fun _ _=>aQ.one <| .mk (by simp) (by simp)) (aQ.fM (aQ.aK (f:=fun ts=>dy n o (aC ts)) (ih.expr _).pass fun x hx=>aQ.aK (Q:=Any) .any fun _ _=>aQ.one <| hx) (aQ.fM (aQ.aK (f:=fun ts=>cB n o _ (aC ts)) (ih.behind _ _ (by simp)).pass fun x hx=>aQ.one <| lE hx.1 hx.2) (aQ.fM (aQ.aK (f:=fun ts=>cB n o _ (aC ts)) (ih.behind _ _ (by simp)).pass fun x hx=>aQ.one <| lE hx.1 hx.2) (aQ.fM (ih.agg _ _).pass (aQ.fM (ih.agg _ _).pass (aQ.fM (ih.agg _ _).pass (aQ.fM (ih.agg _ _).pass vh))))))))
  ·intro o l hl
   cases l with
   | nil=>exact .of (fun _=>by rw [cB]) (.err (g:=fun _=>(-1,0)))
   | cons s l=>exact .of (fun _=>by rw [cB]) (aQ.aK (Q:=Any) .any fun _ _=>ih.exprs _ _ _ (by simp at hl ⊢; omega) (by simp))
  ·intro o l acc hl ha
   cases l with
   | nil=>exact .of (fun _=>by rw [dk]) (aQ.one <| ⟨by simp at hl; omega,ha⟩)
   | cons s l=>exact .of (fun _=>by rw [dk]) (aQ.aK (ih.expr _) fun x hx=>aQ.aK (Q:=Any) .any fun _ _=>ih.exprs _ _ _ (by simp at hl ⊢; omega) (fun y hy=>by rcases List.mem_append.1 hy with h | h; exact ha y h; simp at h; subst h; exact hx))
  ·intro k o
   exact .of (fun _=>by rw [ia]) (aQ.aK (Q:=Any) .any fun _ _=>aQ.fM (c:=fun ts=>k=20∧bK ⟨#[42]⟩ ts=true) (aQ.aK (f:=fun r=>aV [⟨#[41]⟩] (aC r)) (Q:=Any) .any fun _ _=>aQ.one <| lE (by simp) (by simp)) (aQ.aK (ih.expr _) fun x hx=>aQ.aK (Q:=Any) .any fun _ _=>aQ.one <| AM hx))
theorem sD:aQ gA eP:=(It DZ).expr 0
theorem BH {α:Type} {P:α→Prop} {one:List Tk→PR α} (h:aQ P one) {most:Int} (hm:most≤1000):∀ n acc,(acc.length:Int)≤1000→(∀ x ∈ acc,P x)→aQ (nF P) (bL one most n acc)
 | 0,acc,_,_=>.of (fun _=>by rw [bL]) (.err (g:=fun _=>(-1,0)))
 | n+1,acc,hl,ha=>by
  refine ⟨fun {ts y r} H=>?_⟩
  rw [bL] at H
  split at H
  ·split at H
   ·cases H
   ·rename_i hlt
    exact (aQ.aK (f:=fun ts=>one (aC ts)) h.pass (fun x hx=>BH h hm n _ (by simp; omega) (fun y hy=>by rcases List.mem_append.1 hy with h | h; exact ha y h; simp at h; subst h; exact hx))).h H
  ·cases H; exact ⟨by omega,ha⟩
theorem iK {α:Type} {P:α→Prop} {one:List Tk→PR α} (h:aQ P one) {most:Int} (hm:most≤1000) (n:Nat):aQ (nF P) (cu one most n):=.of (fun _=>rfl) (aQ.aK h fun x hx=>BH h hm n [x] (by simp) (by simpa using hx))
theorem jw (s:ByteArray):aQ (fun x:Bool × SX=>gA x.2) (bO s):=.of (fun _=>rfl) (aQ.fM (aQ.aK (f:=fun ts=>eP (aC ts)) sD.pass fun _x hx=>aQ.one <| hx) (aQ.one <| qu))
theorem Dv:aQ (fun x:kx=>gA x.1) gH:=.of (fun _=>rfl) (aQ.aK sD fun _x hx=>aQ.aK (Q:=Any) .any fun _ _=>aQ.one <| hx)
theorem yE (k:Int):aQ (fun x:Src=>gA x.on) (fC k):=.of (fun _=>rfl) (aQ.aK (Q:=Any) .any fun _ _=>aQ.aK (Q:=Any) .any fun _ _=>aQ.one <| qu)
theorem ph:∀ n acc,(acc.length:Int)≤1000→(∀ x ∈ acc,gA x.on)→aQ (nF fun x:Src=>gA x.on) (cz n acc)
 | 0,acc,_,_=>.of (fun _=>by rw [cz]) (.err (g:=fun _=>(-1,0)))
 | n+1,acc,hl,ha=>.of (fun _=>by rw [cz]) (aQ.aK (Q:=Any) .any fun kind _=>by
  by_cases hlt:(acc.length:Int) ≥ 4
  ·exact aQ.fM (c:=fun _=>kind=0) (aQ.one <| ⟨by omega,ha⟩) (.of (fun _=>if_pos hlt) (.err (g:=fun r=>(5,iI r))))
  ·exact aQ.fM (c:=fun _=>kind=0) (aQ.one <| ⟨by omega,ha⟩) (.of (fun _=>if_neg hlt) (aQ.aK (Q:=Any) .any fun s _=>aQ.aK (Q:=Any) .any fun _ _=>aQ.aK sD fun x hx=>ph n _ (by simp; omega) (fun y hy=>by rcases List.mem_append.1 hy with h | h; exact ha y h; simp at h; subst h; exact hx))))
theorem vW:aQ (nF fun x:Src=>gA x.on) ez:=.of (fun _=>rfl) (aQ.aK (yE 1) fun s hs=>ph 5 [s] (by simp) (by simpa using hs))
theorem zG:aQ (nF gA) gV:=.of (fun _=>rfl) (aQ.fM (aQ.aK (f:=fun ts=>aV _ (aC ts)) (Q:=Any) .any fun _ _=>iK sD (by decide) _) (aQ.one <| iC))
theorem Bj (st:Bool):aQ (nF fun x:kx=>gA x.1) (gU st):=.of (fun _=>rfl) (aQ.fM (c:=fun _=>st=true) (aQ.one <| iC) (iK Dv (by decide) _))
theorem nv:aQ qT db:=by
 refine .of (fun _=>rfl) (aQ.aK (Q:=Any) .any fun _ _=>?_);refine ⟨fun {ts x r} H=>?_⟩
 refine (aQ.aK (f:=fun ts=>gU (bK ⟨#[42]⟩ (if bK ⟨#[100,105,115,116,105,110,99,116]⟩ ts then aC ts else ts)) (if bK ⟨#[42]⟩ (if bK ⟨#[100,105,115,116,105,110,99,116]⟩ ts then aC ts else ts) then aC (if bK ⟨#[100,105,115,116,105,110,99,116]⟩ ts then aC ts else ts) else (if bK ⟨#[100,105,115,116,105,110,99,116]⟩ ts then aC ts else ts))) ⟨fun H=>(Bj _).h H⟩ (fun its h1=>aQ.aK (Q:=Any) .any fun _ _=>aQ.aK vW fun fs h2=>aQ.aK (jw _) fun hw h3=>aQ.aK zG fun gs h4=>aQ.aK (jw _) fun hh h5=>aQ.one <| ⟨h1,h2,h3,h5,h4⟩)).h H
theorem sx:∀ n ps (ops:List Int),ps.length≤1000→ops.length≤ps.length→(∀ x ∈ ps,qT x)→aQ (fun x:List dO × List Int=>nF qT x.1∧x.2.length≤1000) (cD n ps ops)
 | 0,_,_,_,_,_=>.of (fun _=>by rw [cD]) (.err (g:=fun _=>(-1,0)))
 | n+1,ps,ops,h1,h2,h3=>by
  refine ⟨fun {ts x r} H=>?_⟩
  rw [cD] at H
  split at H
  ·cases H; exact ⟨⟨h1,h3⟩,by show ops.length≤1000; omega⟩
  ·split at H
   ·cases H
   ·rename_i hlt
    exact (aQ.aK (f:=fun ts=>db (bo ts).2) (k:=fun s r=>cD n (ps ++ [s]) (ops ++ [(bo ts).1]) r) nv.pass (fun s hs=>sx n _ _ (by simp; omega) (by simp; omega) (fun y hy=>by rcases List.mem_append.1 hy with h | h; exact h3 y h; simp at h; subst h; exact hs))).h H
theorem tJ:aQ GR gn:=.of (fun _=>rfl) (aQ.aK nv fun s hs=>aQ.aK (sx _ _ _ (by simp) (by simp) (by simpa using hs)) fun po hp=>aQ.fM (aQ.aK (f:=fun ts=>aV _ (aC ts)) (Q:=Any) .any fun _ _=>aQ.aK (iK sD (by decide) _) fun l hl=>aQ.aK (Q:=Any) .any fun _ _=>aQ.aK (Q:=Any) .any fun _ _=>aQ.one <| ⟨hp.1,hp.2,hl⟩) (aQ.one <| ⟨hp.1,hp.2,iC⟩))
theorem vi:aQ sQ fZ:=.of (fun _=>rfl) (aQ.fM (aQ.aK (f:=fun ts=>dt (aC ts)) (Q:=Any) .any fun _ _=>aQ.aK (Q:=Any) .any fun _ _=>aQ.aK tJ fun x hx=>aQ.one <| ⟨by simp,hx,iC,qu⟩) (aQ.aK (Q:=Any) .any fun _ _=>aQ.aK (Q:=Any) .any fun _ _=>aQ.aK (Q:=Any) .any fun _ _=>aQ.aK (iK (P:=Any) aQ.any (by decide) _) fun l hl=>aQ.aK (Q:=Any) .any fun _ _=>aQ.one <| ⟨hl.1,AZ,iC,qu⟩))
theorem E6:aQ (fun r:List Vl=>r.length≤1000) jJ:=.of (fun _=>rfl) (aQ.aK (Q:=Any) .any fun _ _=>aQ.aK (iK (P:=Any) aQ.any (by decide) _) fun l hl=>aQ.aK (Q:=Any) .any fun _ _=>aQ.one <| hl.1)
theorem tE:aQ sQ fD:=.of (fun _=>rfl) (aQ.aK (Q:=Any) .any fun _ _=>aQ.aK (Q:=Any) .any fun _ _=>aQ.aK (Q:=Any) .any fun _ _=>aQ.aK (iK E6 (by decide) _) fun l hl=>aQ.one <| ⟨by simp,AZ,hl,qu⟩)
theorem vw:aQ sQ gL:=.of (fun _=>rfl) (aQ.aK (Q:=Any) .any fun _ _=>aQ.aK (Q:=Any) .any fun _ _=>aQ.aK (jw _) fun hw h=>aQ.one <| ⟨by simp,AZ,iC,h⟩)
theorem rB:aQ sQ cZ:=.of (fun _=>rfl) (aQ.fM vi.pass (aQ.fM tE.pass (aQ.fM vw.pass (aQ.fM (aQ.aK (f:=fun ts=>gn (aC ts)) tJ.pass fun x hx=>aQ.one <| ⟨by simp,hx,iC,qu⟩) .err))))
theorem lh:∀ n acc,acc.length≤60→(∀ x ∈ acc,sQ x)→aQ (nF sQ) (bM n acc)
 | 0,_,_,_=>.of (fun _=>by rw [bM]) (.err (g:=fun _=>(-1,0)))
 | n+1,acc,h1,h2=>by
  refine ⟨fun {ts x r} H=>?_⟩
  rw [bM] at H
  split at H
  ·cases H; exact ⟨by omega,h2⟩
  ·split at H
   ·cases H
   ·exact (aQ.aK rB (fun s hs=>aQ.aK (Q:=Any) .any fun _ _=>lh n _ (by simp; omega) (fun y hy=>by rcases List.mem_append.1 hy with h | h; exact h2 y h; simp at h; subst h; exact hs))).h H
end Go.Proofs.YtoknmnngaackkaaGreatDoor
namespace Go.Proofs.YtoknmnngaackkaaGreatDoor
open Go.RowKit Go.Lib Go.Shelf
set_option maxRecDepth 100000
set_option maxHeartbeats 16000000
set_option maxRecDepth 100000
set_option maxHeartbeats 8000000
abbrev Cm (w:World) (e:Ending) (w':World):Prop:=e = .returned true∧Below w w w'
def AL (l:List SX):Prop:=∀ (a:Option Addr) (ca:Nat) (b:Option Addr) (cb:Nat) (S:Nat→Prop) (w:World),nF gA l→aJ S w a l→aJ S w b l→Calls Tryz.prog 55 #[.slice a l.length ca,.slice b l.length cb] w (Cm w)
def uo (x:SX):Prop:=∀ (a:Option Addr) (ca:Nat) (b:Option Addr) (cb:Nat) (S:Nat→Prop) (w:World),gA x→aJ S w a x.ks→aJ S w b x.ks→Calls Tryz.prog 27 #[.agg (bE x a ca),.agg (bE x b cb)] w (Cm w)
theorem zK (x:SX) (ht:AL x.ks):uo x:=by
 intro a ca b cb S w hx ha hb;have hal1:=bR w (.cells (bE x a ca) 55);have hal2:Below (w.alloc (.cells (bE x a ca) 55)).heap.size (w.alloc (.cells (bE x a ca) 55)) ((w.alloc (.cells (bE x a ca) 55)).alloc (.cells (bE x b cb) 55)):=bR ..;have Q0:=(hal2.block _ (lt_of_heap (aD w (bE x a ca) 55))).trans (aD w _ _)
 have Q1:((w.alloc (.cells (bE x a ca) 55)).alloc (.cells (bE x b cb) 55)).heap[w.heap.size+1]? = some (.cells (bE x b cb) 55 (0,0)):=by
  rw [show w.heap.size+1=(w.alloc (.cells (bE x a ca) 55)).heap.size by simp];exact aD _ _ _
 have hal:=chain hal1 hal2;have con:=ht a ca b cb S _ ⟨hx.ks.1,hx.ks.2⟩ (aJ.next hal ha) (aJ.next hal hb);clear hal1 hal2 ha hb;go_enter Tryz.func27,Tryz.ntmps27;go_upto_region 1 with fail
 generalize ((w.alloc (.cells (bE x a ca) 55)).alloc (.cells (bE x b cb) 55))=w1 at *;have x0:=cell_of (i:=0) Q0 rfl;have x1:=cell_of (i:=1) Q0 rfl;have x2:=cell_of (i:=2) Q0 rfl;have x3:=cell_of (i:=3) Q0 rfl;have x4:=cell_of (i:=4) Q0 rfl;have x5:=cell_of (i:=5) Q0 rfl
 have x6:=cell_of (i:=6) Q0 rfl;have y0:=cell_of (i:=0) Q1 rfl;have y1:=cell_of (i:=1) Q1 rfl;have y2:=cell_of (i:=2) Q1 rfl;have y3:=cell_of (i:=3) Q1 rfl;have y4:=cell_of (i:=4) Q1 rfl
 have y5:=cell_of (i:=5) Q1 rfl;have y6:=cell_of (i:=6) Q1 rfl;clear Q0 Q1;go_wp2_with fail
 refine cR con fun w2 hb2=>?_;go_wp2_with fail
 exact fa rfl rfl ⟨fQ,chain hal hb2⟩
theorem tT (l:List SX) (ih:∀ x ∈ l,uo x):AL l:=by
 intro a ca b cb S w hbd ha hb;have h1000:=hbd.1;have HA:=ah (aJ.mono (fun _ _ _=>trivial) ha);have HB:=ah (aJ.mono (fun _ _ _=>trivial) hb);have IH:Hid (∀ x ∈ l,uo x∧gA x):=fun x hx=>⟨ih x hx,hbd.2 x hx⟩
 clear ha hb ih hbd;go_enter Tryz.func55,Tryz.ntmps55;go_wp2_with fail
 go_loopw [13] (fun i wr=>∃ j:Nat,j≤l.length∧i = .int .i64 j∧Below w w wr) (fun i _=>l.length - (RowKit.intOf i).toNat)
 case atStart=>exact ⟨0,Jc _,rfl,I8 _ _⟩
 case round =>
  obtain ⟨j,hj,rfl,hbr⟩:=hrel;by_cases hlt:j<l.length
  ·obtain ⟨ba,oa,a1,c1,rfl,_,la,sa,ka⟩:=(aJ.next hbr HA.out).elem hlt;obtain ⟨bb,ob,a2,c2,rfl,_,lb,sb,kb⟩:=(aJ.next hbr HB.out).elem hlt;have hjz:(j:Int)<(l.length:Int):=by omega
   have HK:Hid (aJ (fun _=>True) wr a1 l[j].ks∧aJ (fun _=>True) wr a2 l[j].ks):=⟨ka,kb⟩
   have HX:=ah (IH.out _ (Jk hlt));clear ka kb;go_upto_region 6 with fail
   have hCC:∀ W W':World,(qF W ba (oa+j*7) l[j] a1 c1∧qF W bb (ob+j*7) l[j] a2 c2∧ba<W.heap.size∧bb<W.heap.size)→Below W W W'→(qF W' ba (oa+j*7) l[j] a1 c1∧qF W' bb (ob+j*7) l[j] a2 c2∧ba<W'.heap.size∧bb<W'.heap.size):=fun W W' h hb=>⟨h.1.k1 (aI.of (g:=W.heap.size) hb) h.2.2.1 (by have:=h.2.2.1; omega),h.2.1.k1 (aI.of (g:=W.heap.size) hb) h.2.2.2 (by have:=h.2.2.2; omega),Ja h.2.2.1 hb.size,Ja h.2.2.2 hb.size⟩
   have hdr:Below wr wr wr.drew:=(I8 _ _).drew;have CW:=hCC _ _ ⟨sa,sb,la,lb⟩ hdr;clear sa sb la lb;refine bX (fun W=>qF W ba (oa+j*7) l[j] a1 c1∧qF W bb (ob+j*7) l[j] a2 c2∧ba<W.heap.size∧bb<W.heap.size) bm ?_;refine cT hCC 16 0 (.slice (some (af ba oa)) l.length ca) (fun n hn=>?_) CW ?_
   ·go_simp
   simp only [Act.put,pA,pB,pC];refine cT hCC 17 1 j (fun n hn=>?_) CW ?_
   ·go_simp
   simp only [Act.put,pA,pB,pC];refine cT hCC 18 2 (.pointer (some ⟨ba,oa+j*7,none⟩)) (fun n hn=>?_) CW ?_
   ·go_simp
   simp only [Act.put,pA,pB,pC];refine cT hCC 19 3 (.agg (bE l[j] a1 c1)) (fun n hn=>?_) CW ?_
   ·have z0:=hn.1.c0;have z1:=hn.1.c1;have z2:=hn.1.c2;have z3:=hn.1.c3;have z4:=hn.1.c4;have z5:=hn.1.c5;have z6:=hn.1.c6;go_simp
   simp only [Act.put,pA,pB,pC];refine cT hCC 20 4 (.slice (some (af bb ob)) l.length cb) (fun n hn=>?_) CW ?_
   ·go_simp
   simp only [Act.put,pA,pB,pC];refine cT hCC 21 5 j (fun n hn=>?_) CW ?_
   ·go_simp
   simp only [Act.put,pA,pB,pC];refine cT hCC 22 6 (.pointer (some ⟨bb,ob+j*7,none⟩)) (fun n hn=>?_) CW ?_
   ·go_simp
   simp only [Act.put,pA,pB,pC];refine cT hCC 23 7 (.agg (bE l[j] a2 c2)) (fun n hn=>?_) CW ?_
   ·have z0:=hn.2.1.c0;have z1:=hn.2.1.c1;have z2:=hn.2.1.c2;have z3:=hn.2.1.c3;have z4:=hn.2.1.c4;have z5:=hn.2.1.c5;have z6:=hn.2.1.c6;go_simp
   simp only [Act.put,pA,pB,pC];refine pN 8 bm fun w5 hb5=>?_
   have D5:=chain hdr hb5;have CW5:=hCC _ _ CW hb5;have con:=HX.out.1 a1 c1 a2 c2 _ w5 HX.out.2 (aJ.next D5 HK.out.1) (aJ.next D5 HK.out.2);refine wpOp_step rfl (fun K hK=>?_);go_simp;refine cR con fun w6 hb6=>?_;have CW6:=hCC _ _ CW5 hb6;refine hK _ _ ⟨CW6,?_⟩;clear hK K con CW CW5;refine cT hCC 25 9 false (fun n hn=>?_) CW6 ?_
   ·go_simp
   simp only [Act.put,pA,pB,pC];refine eK bm ?_;intro w7 hb7;have A7:=chain hbr (chain D5 (chain hb6 hb7));clear CW6 hCC;go_wp2_with fail
   go_roundw
   case rel=>exact ⟨j+1,by omega,by go_num,A7⟩
   case measure=>simp [RowKit.intOf]; omega
  ·go_wp2_with fail
   exact fa rfl rfl ⟨fQ,hbr⟩
theorem xC:∀ (n:Nat) (x:SX),SizeOf.sizeOf x≤n→uo x
 | 0,.mk k v t m ks,h=>by simp at h
 | n+1,.mk k v t m ks,h=>zK (.mk k v t m ks) (tT ks fun x hx=>xC n x (by have:=List.sizeOf_lt_of_mem hx; simp at h; omega))
theorem jB (x:SX):uo x:=xC _ x (I6 _)
theorem tQ (l:List SX):AL l:=tT l fun x _=>jB x
section
variable {P:Program} {md:Region.Mode} {ops:Array Oper} {Q:Exit→Act→World→Prop} {C:World→Prop}
theorem oM {i:Nat} {o:Oper} {K:Act→World→Prop} {a:Act} {w:World} (ho:ops[i]? = some o) (hg:o.guard=none) (ty:TypeId) (z:Array Value) (hop:o.op = .alloc ty) (hz:∀ w:World,(Instr.alloc ty true (.tuple #[])).run P w = .ok (af w 0) (w.alloc (.cells z ty)))
  (h:K (a.put o.dst (af w 0)) (w.alloc (.cells z ty))):wpOp P ops Q i K a w:=by
 refine wpOp_step ho fun K' hK=>?_
 rw [if_pos (by simp [Region.wanted,hg])];unfold Oper.wp execOp;simp only [hop,hz,Sem.run_bind,Sem.run_pure,Result.andThen_ok];exact hK _ _ h
theorem kA {i:Nat} {o:Oper} {K:Act→World→Prop} {a:Act} {w:World} (ho:ops[i]? = some o) (hg:o.guard=none) (ty:TypeId) (x y:Operand) (hop:o.op = .store ty x y) (hd:o.dst=none) {g:Nat} {old c':Array Value} (hx:a.eval x = .pointer (some (af g 0))) (hy:a.eval y = .agg c') (hq:w.heap[g]? = some (.cells old ty (0,0)))
  (hi:(P.info? ty).map (·.size)=some c'.size) (hs:old.size=c'.size) (h1:c'.all (·.oneCell')=true) (h:K a (w.setRow g c')):wpOp P ops Q i K a w:=by
 refine wpOp_step ho fun K' hK=>?_
 rw [if_pos (by simp [Region.wanted,hg])];have hrun:(Instr.storeAt ty (af g 0) (.agg c')).run P w = .ok () (w.setRow g c'):=by
  simp only [Instr.storeAt,Instr.sureAddr,Sem.run_bind,Sem.run_pure,Result.andThen];exact run_storeVar_row w g ty ty old c' hq hi hs h1
 unfold Oper.wp execOp;simp only [hop,hx,hy,hrun,Sem.run_bind,Sem.run_pure,Result.andThen_ok];refine hK _ _ ?_;rw [hd];exact h
def ko (a:Act) (d:Nat) (g:Nat):Act:=a.put (some d) (af g 0)
theorem jO {a:Act} {d g:Nat} {t:Nat} (h:t≠d):(ko a d g).eval (.tmp t)=a.eval (.tmp t):=by
 show (a.tmps.setIfInBounds d _).getD t undef=a.tmps.getD t undef;simp only [Array.getD_eq_getD_getElem?,Array.getElem?_setIfInBounds,if_neg (Ne.symm h)]
theorem qN {a:Act} {d g:Nat} (h:d<a.tmps.size):(ko a d g).eval (.tmp d) = .pointer (some (af g 0)):=by
 show (a.tmps.setIfInBounds d _).getD d undef=_;simp [Array.getD_eq_getD_getElem?,h]
theorem yB {a:Act} {d e g k:Nat} (h:d≠e):ko (ko a d g) e k=ko (ko a e k) d g:=by
 show ({ tmps:=(a.tmps.setIfInBounds d _).setIfInBounds e _,defers:=a.defers }:Act) = { tmps:=(a.tmps.setIfInBounds e _).setIfInBounds d _,defers:=a.defers }
 congr 1
 apply Array.ext_getElem?;intro i;simp only [Array.getElem?_setIfInBounds,Array.size_setIfInBounds]
 split <;> split <;> simp_all
theorem yu {a:Act} {d g:Nat}:(ko a d g).tmps.size=a.tmps.size:=by show (a.tmps.setIfInBounds d _).size=_; simp
def vk (L:Array Bool) (l:List Nat):Array Bool:=l.foldl (fun L i=>L.setIfInBounds i true) L
def sN (i j k l:Nat):List (List Nat × List Nat):=[([],[i,j]),([i],[j]),([j],[i]),([i,j],[k]),([j,i],[k]),([i,j,k],[l]),([j,i,k],[l]),([i,j,k,l],[]),([j,i,k,l],[])]
def Ij (md:Region.Mode) (ops:Array Oper) (L:Array Bool) (i j k l:Nat):Bool :=
 (sN i j k l).all fun x=>Region.ready md ops (vk L x.1) == x.2
structure Gy (P:Program) (ops:Array Oper) (i j k l d0 d1 t0 t1:Nat) (T:TypeId):Prop where
 a0:∃ o,ops[i]? = some o∧o.guard=none∧o.op = .alloc T∧o.dst=some d0
 a1:∃ o,ops[j]? = some o∧o.guard=none∧o.op = .alloc T∧o.dst=some d1
 s0:∃ o,ops[k]? = some o∧o.guard=none∧o.op = .store T (.tmp d0) (.tmp t0)∧o.dst=none
 s1:∃ o,ops[l]? = some o∧o.guard=none∧o.op = .store T (.tmp d1) (.tmp t1)∧o.dst=none
 ne:d0≠d1∧t0≠d0∧t0≠d1∧t1≠d0∧t1≠d1
theorem BZ {L:Array Bool} {i j:Nat} {fuel:Nat} {a:Act} {w:World} (hr:Region.ready md ops L = [i,j]) (h0:∀ w',Below w w w'→wpOp P ops Q i (fun a' w''=>C w''∧nK P md ops Q C fuel (L.setIfInBounds i true) a' w'') a w') (h1:∀ w',Below w w w'→wpOp P ops Q j (fun a' w''=>C w''∧nK P md ops Q C fuel (L.setIfInBounds j true) a' w'') a w'):nK P md ops Q C (fuel+1) L a w:=by
 refine oU hr (by simp) fun w' hb n hn=>?_
 rcases List.mem_cons.1 hn with rfl | hn
 ·exact h0 w' hb
 ·rw [List.mem_singleton.1 hn]; exact h1 w' hb
theorem lN {L:Array Bool} {i:Nat} {fuel:Nat} {a:Act} {w:World} (hr:Region.ready md ops L = [i]) (h0:∀ w',Below w w w'→wpOp P ops Q i (fun a' w''=>C w''∧nK P md ops Q C fuel (L.setIfInBounds i true) a' w'') a w'):nK P md ops Q C (fuel+1) L a w:=by
 refine oU hr (by simp) fun w' hb n hn=>?_
 rw [List.mem_singleton.1 hn]; exact h0 w' hb
theorem su {L:Array Bool} {a:Act} {w:World} (i j k l:Nat) {d0 d1 t0 t1:Nat} {T:TypeId} (ok:Gy P ops i j k l d0 d1 t0 t1 T) (six:Ij md ops L i j k l=true) (z c0 c1:Array Value) (hz:∀ w:World,(Instr.alloc T true (.tuple #[])).run P w = .ok (af w 0) (w.alloc (.cells z T)))
  (v0:a.eval (.tmp t0) = .agg c0) (v1:a.eval (.tmp t1) = .agg c1) (l0:d0<a.tmps.size) (l1:d1<a.tmps.size) (hi0:(P.info? T).map (·.size)=some z.size) (s0:c0.size=z.size) (s1:c1.size=z.size) (w0:c0.all (·.oneCell')=true) (w1:c1.all (·.oneCell')=true)
  (hC:∀ w',Below w w w'→C w')
  (fin:∀ (A B:Nat) (W:World),w.heap.size≤A→w.heap.size≤B→A≠B→Below w w W→W.heap[A]? = some (.cells c0 T (0,0))→W.heap[B]? = some (.cells c1 T (0,0))→Q .normal (ko (ko a d0 A) d1 B) W):nK P md ops Q C 4 L a w:=by
 obtain ⟨⟨o0,e0,g0,p0,n0⟩,⟨o1,e1,g1,p1,n1⟩,⟨o2,e2,g2,p2,n2⟩,⟨o3,e3,g3,p3,n3⟩,ne1,ne2,ne3,ne4,ne5⟩:=ok
 have R:∀ x ∈ sN i j k l,Region.ready md ops (vk L x.1)=x.2:=fun x hx=>by simpa using List.all_eq_true.1 six x hx
 have bal:∀ {W:World} {o:Obj},Below W W (W.alloc o):=fun {W o}=>bR ..
 have A0:∀ {K:Act→World→Prop} {b:Act} {W:World},K (ko b d0 W) (W.alloc (.cells z T))→wpOp P ops Q i K b W:=fun {K b W} h=>oM e0 g0 T z p0 hz (by rw [n0]; exact h)
 have A1:∀ {K:Act→World→Prop} {b:Act} {W:World},K (ko b d1 W) (W.alloc (.cells z T))→wpOp P ops Q j K b W:=fun {K b W} h=>oM e1 g1 T z p1 hz (by rw [n1]; exact h)
 have S0:∀ {K:Act→World→Prop} {b:Act} {W:World} {A:Nat},b.eval (.tmp d0) = .pointer (some (af A 0))→b.eval (.tmp t0) = .agg c0→W.heap[A]? = some (.cells z T (0,0))→K b (W.setRow A c0)→wpOp P ops Q k K b W:=fun h1 h2 h3 h=>kA e2 g2 T _ _ p2 n2 h1 h2 h3 (by rw [hi0,s0]) s0.symm w0 h
 have S1:∀ {K:Act→World→Prop} {b:Act} {W:World} {A:Nat},b.eval (.tmp d1) = .pointer (some (af A 0))→b.eval (.tmp t1) = .agg c1→W.heap[A]? = some (.cells z T (0,0))→K b (W.setRow A c1)→wpOp P ops Q l K b W:=fun h1 h2 h3 h=>kA e3 g3 T _ _ p3 n3 h1 h2 h3 (by rw [hi0,s1]) s1.symm w1 h
 have new:∀ {W W2:World} {o:Array Value},Below (W.alloc (.cells o T)).heap.size (W.alloc (.cells o T)) W2→W2.heap[W.heap.size]? = some (.cells o T (0,0)):=fun {W W2 o} hb=>(hb.block _ (lt_of_heap (aD W o T))).trans (aD W o T)
 have aM:∀ {W W2:World} {A:Nat} {o:Array Value},W.heap[A]? = some (.cells o T (0,0))→Below W W W2→W2.heap[A]? = some (.cells o T (0,0)):=fun h hb=>(hb.block _ (lt_of_heap h)).trans h
 have row:∀ {W:World} {A:Nat} {o c:Array Value},W.heap[A]? = some (.cells o T (0,0))→(W.setRow A c).heap[A]? = some (.cells c T (0,0)):=fun h=>setRow_heap _ _ _ _ _ _ h
 have oth:∀ {W:World} {A B:Nat} {c o:Array Value},A≠B→W.heap[B]? = some (.cells o T (0,0))→(W.setRow A c).heap[B]? = some (.cells o T (0,0)):=fun hn h=>(setRow_other _ _ _ _ (Ne.symm hn)).trans h
 have bset:∀ {W:World} {A:Nat} {c:Array Value},Below w w W→w.heap.size≤A→Below w w (W.setRow A c):=fun hb ha=>below_setRow hb ha _
 have lk:∀ {W:World},Below w w W→w.heap.size≤W.heap.size:=fun hb=>hb.size
 have fz:∀ {W:World} {A:Nat} {c:Array Value},(W.setRow A c).heap.size=W.heap.size:=by intro W A c; simp
 have ev0:∀ {b:Act} {A B:Nat},b=ko (ko a d0 A) d1 B→b.eval (.tmp d0) = .pointer (some (af A 0))∧b.eval (.tmp t0) = .agg c0∧b.eval (.tmp d1) = .pointer (some (af B 0))∧b.eval (.tmp t1) = .agg c1:=fun {b A B} e=>by
  subst e
  exact ⟨by rw [jO ne1,qN l0],by rw [jO ne3,jO ne2,v0],qN (by rw [yu]; exact l1),by rw [jO ne5,jO ne4,v1]⟩
 have both:∀ {o:List Nat} {A B:Nat} {W:World},(o = [i,j]∨o = [j,i])→w.heap.size≤A→w.heap.size≤B→A≠B→Below w w W→W.heap[A]? = some (.cells z T (0,0))→W.heap[B]? = some (.cells z T (0,0))→nK P md ops Q C 2 (vk L o) (ko (ko a d0 A) d1 B) W:=by
  intro o A B W ho hA hB hn hb qA qB
  obtain ⟨x0,x1,x2,x3⟩:=ev0 (A:=A) (B:=B) rfl
  have r1:Region.ready md ops (vk L o) = [k]:=by rcases ho with rfl | rfl <;> exact R (_,_) (by simp [sN])
  have r2:Region.ready md ops (vk L (o ++ [k])) = [l]:=by rcases ho with rfl | rfl <;> exact R (_,_) (by simp [sN])
  have r4:Region.ready md ops (vk L (o ++ [k] ++ [l])) = []:=by rcases ho with rfl | rfl <;> exact R (_,_) (by simp [sN])
  simp only [vk,List.foldl_append,List.foldl_cons,List.foldl_nil] at r1 r2 r4 ⊢
  refine lN r1 fun w2 hb2=>?_
  have b2:=hb.trans (hb2.mono (lk hb))
  refine S0 x0 x1 (aM qA hb2) ⟨hC _ (bset b2 hA),lN r2 fun w3 hb3=>?_⟩
  have b3:=(bset (c:=c0) b2 hA).trans (hb3.mono (by rw [fz]; exact lk b2))
  refine S1 x2 x3 (aM (oth hn (aM qB hb2)) hb3) ⟨hC _ (bset b3 hB),eK r4 fun w4 hb4=>fin A B w4 hA hB hn ((bset b3 hB).trans (hb4.mono (by rw [fz]; exact lk b3))) ?_ ?_⟩
  ·exact aM (oth (Ne.symm hn) (aM (row (aM qA hb2)) hb3)) hb4
  ·exact aM (row (aM (oth hn (aM qB hb2)) hb3)) hb4
 have e1':=R ([],[i,j]) (by simp [sN])
 refine BZ e1' (fun w2 hb2=>A0 ?_) (fun w2 hb2=>A1 ?_)
 ·have b2:Below w w (w2.alloc (.cells z T)):=hb2.trans (bal.mono (lk hb2))
  have hA:=lk hb2
  refine ⟨hC _ b2,lN (R ([i],[j]) (by simp [sN])) fun w3 hb3=>A1 ?_⟩
  have b3:=b2.trans (hb3.mono (lk b2))
  have b3':Below w w (w3.alloc (.cells z T)):=b3.trans (bal.mono (lk b3))
  have qA:=new (o:=z) hb3
  exact ⟨hC _ b3',both (.inl rfl) hA (lk b3) (by have:=lt_of_heap qA; omega) b3' (aM qA bal) (aD _ _ _)⟩
 ·have b2:Below w w (w2.alloc (.cells z T)):=hb2.trans (bal.mono (lk hb2))
  have hA:=lk hb2
  refine ⟨hC _ b2,lN (R ([j],[i]) (by simp [sN])) fun w3 hb3=>A0 ?_⟩
  have b3:=b2.trans (hb3.mono (lk b2))
  have b3':Below w w (w3.alloc (.cells z T)):=b3.trans (bal.mono (lk b3))
  have qA:=new (o:=z) hb3
  rw [yB (Ne.symm ne1)]
  exact ⟨hC _ b3',both (.inr rfl) (lk b3) hA (by have:=lt_of_heap qA; omega) b3' (aD _ _ _) (aM qA bal)⟩
end
def gB (W:World) (g:Nat) (cs:Array Value) (T:TypeId):Prop:=W.heap[g]? = some (.cells cs T (0,0))
theorem gB.nx {W W':World} {g:Nat} {cs:Array Value} {T:TypeId} (h:gB W g cs T) (hb:Below W W W'):gB W' g cs T:=bH hb h
theorem gB.c {W:World} {g:Nat} {cs:Array Value} {T:TypeId} (h:gB W g cs T) (i:Nat) {u:Value} (hu:cs[i]? = some u):W.cell? (af g i)=some u:=cell_of (i:=i) h hu
def ix (W:World) (b off:Nat) (cs:List Value):Prop:=b<W.heap.size∧∀ j u,cs[j]? = some u→W.cell? ⟨b,off+j,none⟩=some u
theorem ix.nx {W W':World} {b off:Nat} {cs:List Value} (h:ix W b off cs) (hb:Below W W W'):ix W' b off cs:=⟨Ja h.1 hb.size,fun j u hj=>(hb.cell (p:=⟨b,off+j,none⟩) h.1).trans (h.2 j u hj)⟩
theorem bf.get {α:Type} {En:jP α} {size:Nat} {S:Nat→Prop} {W:World} {a:Option Addr} {l:List α} (h:bf En size S W a l) {i:Nat} (hi:i<l.length):∃ b off cs,a=some ⟨b,off,none⟩∧ix W b (off+i*size) cs∧En S W l[i] cs:=by
 rcases h with rfl | ⟨b,off,e,_,h2,h3⟩
 ·simp at hi
 ·obtain ⟨cs,_,c2,c3⟩:=h3 i hi;exact ⟨b,off,cs,e,⟨h2,c2⟩,c3⟩
theorem bf.nx {α:Type} {En:jP α} (ok:fW En) {size:Nat} {S:Nat→Prop} {W W':World} {a:Option Addr} {l:List α} (h:bf En size S W a l) (hb:Below W W W'):bf En size S W' a l:=h.aM ok (ay.of hb)
structure pI {α:Type} (En:jP α) (size:Nat) (W:World) (a b:Option Addr) (l:List α):Prop where
 one:bf En size (fun _=>True) W a l
 two:bf En size (fun _=>True) W b l
theorem pI.nx {α:Type} {En:jP α} (ok:fW En) {size:Nat} {W W':World} {a b:Option Addr} {l:List α} (h:pI En size W a b l) (hb:Below W W W'):pI En size W' a b l:=⟨h.1.nx ok hb,h.2.nx ok hb⟩
structure Dd (W:World) (a b:Option Addr) (l:List SX):Prop where
 one:aJ (fun _=>True) W a l
 two:aJ (fun _=>True) W b l
theorem Dd.nx {W W':World} {a b:Option Addr} {l:List SX} (h:Dd W a b l) (hb:Below W W W'):Dd W' a b l:=⟨aJ.next hb h.1,aJ.next hb h.2⟩
theorem pI.ss {W:World} {a b:Option Addr} {l:List SX} (h:pI fu 7 W a b l):Dd W a b l:=⟨h.1.Da,h.2.Da⟩
theorem ix.pre {W:World} {b off:Nat} {cs:List Value} (h:ix W b off cs) (n:Nat):ix W b off (cs.take n):=⟨h.1,fun j u hj=>h.2 j u (by
 rw [List.getElem?_take] at hj
 split at hj
 ·exact hj
 ·cases hj)⟩
theorem dA {P:Program} {ops:Array Oper} {C:World→Prop} {o:Oper} {a:Act} (hw:Region.wanted o (yielded ops a.tmps)=true) (ty:TypeId) (x:Operand) (ho:o.op = .load ty x) (b off:Nat) (cs:List Value) (hx:a.eval x = .pointer (some (af b off))) {d:TypeDesc} (hu:P.underlying ty=some d) (hd:d.isRow=true) (hi:(P.info? ty).map (·.size)=some cs.length) (h:∀ n,C n→ix n b off cs):gW P ops C o (.agg cs.toArray) a:=Or.inl ⟨hw,fun n hn=>by
 have hr:=run_loadAt_mid (P:=P) n b off ty cs d (h n hn).2 hu hd hi
 unfold execOp
 simp only [ho,hx,hr,Sem.run_bind,Sem.run_pure,Result.andThen_ok]
 exact ⟨rfl,rfl⟩⟩
end Go.Proofs.YtoknmnngaackkaaGreatDoor
