/- Together: IR, IS, IT. -/
import Derived.Deep.CutBlock
import Derived.Deep.DeepCutAuto
import Derived.SizedLaws
import Derived.Test.YtjebpkhkjkjphaaGreatM14
import Derived.Test.YtjebpkhkjkjphaaGreatM11
import Derived.Test.YtjebpkhkjkjphaaGreatM8
namespace Go.Proofs.YtjebpkhkjkjphaaGreat
open Go.RowKit
set_option maxRecDepth 100000
set_option maxHeartbeats 16000000
theorem rH (row:List Vl):∀ x:Ex,bq row (cx x)=bq row x :=
 Ex.ind fun k v c ks ih=>by
  unfold cx
  rw [il,bq,bq,gA,gA,cw,Ix]
  rw [show ks.map (bq row ∘ il (fun c=>c))=ks.map (bq row) from Ih fun x hx=>ih x hx]
  unfold kf
  by_cases h1:k=1
  ·rw [if_pos h1,if_pos h1,if_pos h1,mr]
  rw [if_neg h1,if_neg h1]
  by_cases h2:k=2
  ·rw [if_pos h2,if_pos h2,if_pos h2]
  ·rw [if_neg h2,if_neg h2]
theorem BW (x:Ex):bW (cx x)=bW x:=by
 funext row
 unfold bW;rw [rH]
theorem Cq (xs:List Ex):dU (bB (fun c=>c) xs)=dU xs:=by
 funext row
 unfold dU;rw [cw,Ix];exact Ih fun x _=>rH row x
theorem wN (af:List Int) (x:Ex):cz af (cx x)=cz af x:=by unfold cz; rw [fH]
theorem th (af:List Int):∀ xs:List Ex,cV af (bB (fun c=>c) xs)=cV af xs
 | []=>by rw [bB]
 | x :: r=>by
  rw [bB,cV,cV,th af r]
  have:=fH af x
  unfold cx at this
  rw [this]
theorem rD (af:List Int) (xs:List Ex):bj af (bB (fun c=>c) xs)=bj af xs:=by unfold bj; rw [dr,th]
theorem CQ (af:List Int) (g:Ag):bT af (jw g)=bT af g:=by
 unfold bT jw;simp only;by_cases h:g.1=1
 ·rw [if_pos h,if_pos h]
 ·rw [if_neg h,if_neg h,if_neg h];have:=fH af g.2;unfold cx at this;rw [this]
theorem xB (af:List Int):∀ gs:List Ag,cN af (gs.map jw)=cN af gs
 | []=>rfl
 | g :: r=>by rw [I0,cN,cN,CQ,xB af r]
theorem AO (g:Ag):eY (jw g)=eY g:=by
 unfold eY jw;simp only;by_cases h:g.1=1
 ·rw [if_pos h,if_pos h]
 ·rw [if_neg h,if_neg h,if_neg h]
  funext row
  exact rH row g.2
theorem Fg (g:Ag):gU (jw g)=gU g:=by
 funext rows
 unfold gU;rw [AO];rfl
theorem tx (xs:List Ex) (z:List Zp):bc (bB (fun c=>c) xs) z=bc xs z:=by
 unfold bc gX;rw [Cq]
theorem Al (xs:List Ex) (L:List Kp):dR (bB (fun c=>c) xs) L=dR xs L:=by
 unfold dR;rw [dr]
theorem AI (xs:List Ex) (gs:List Ag) (L:List Kp):cJ (bB (fun c=>c) xs) (gs.map jw) L=cJ xs gs L:=by
 unfold cJ;rw [Al];refine Ih fun p _=>?_
 rw [Ix]
 congr 2
 exact Ih fun g _=>congrFun (Fg g) p.2
theorem Cb (af:List Int) (x:Ex) (z:List Zp):fR af (cx x) z=fR af x z:=by unfold fR; rw [wN]
theorem C0 (xs:List Ex) (z:List Zp):lG (bB (fun c=>c) xs) z=lG xs z:=by unfold lG; rw [Cq]
theorem Ea (af:List Int) (xs:List Ex) (z:List Zp):j6 af (bB (fun c=>c) xs) z=j6 af xs z:=by unfold j6; rw [rD,C0]
theorem xY (af:List Int) (xs:List Ex) (gs:List Ag) (z:List Zp):dx af (bB (fun c=>c) xs) (gs.map jw) z=dx af xs gs z:=by unfold dx; rw [dr,Ik,rD,xB,tx,AI]
theorem Eb (af:List Int) (xs:List Ex) (n:Int) (z:List Zp):j9 af (bB (fun c=>c) xs) n z=j9 af xs n z:=by unfold j9; rw [rD,tx]
theorem As (what n:Nat) (x:Ex) (a b:List Zp):fS what n (cx x) a b=fS what n x a b:=by
 unfold fS AV ek dh Ev wY FJ;simp only [BW]
theorem AE (what:Nat) (l r:List Int) (x:Ex) (a b:List Zp):fC what l r (cx x) a b=fC what l r x a b:=by
 unfold fC ib;rw [wN,As]
theorem Ca {ts:List (List Int)} {k n:Int} {x:Ex} {xs:List Ex} {gs:List Ag} {cs:List (List Int)} (hl:cs.length=dI k) (hk:1≤k∧k≤13) :
  ep ts k (if k=1∨k=13 then n else 0) (if k=2∨4≤k∧k≤7 then il (fun c=>c) x else yE) (if k=3∨k=12∨k=13 then bB (fun c=>c) xs else []) (if k=12 then gs.map jw else []) cs=ep ts k n x xs gs cs:=by
 unfold dI at hl;unfold ep
 match cs,hl with
 | [],hl =>
  have h1:k=1:=by
   by_cases e:k=1
   ·exact e
   ·rw [if_neg e] at hl;by_cases e2:4≤k∧k≤9
    ·rw [if_pos e2] at hl; cases hl
    ·rw [if_neg e2] at hl; cases hl
  simp only [h1,true_or,if_true]
 | [c],hl =>
  simp only;unfold fm;by_cases h2:k=2
  ·rw [if_pos h2,if_pos h2,if_pos (.inl h2)];exact Cb c x []
  rw [if_neg h2,if_neg h2];by_cases h3:k=3
  ·rw [if_pos h3,if_pos h3,if_pos (.inl h3)];exact Ea c xs []
  rw [if_neg h3,if_neg h3];by_cases h12:k=12
  ·rw [if_pos h12,if_pos h12,if_pos h12,if_pos (show k=3∨k=12∨k=13 by omega)];exact xY c xs gs []
  rw [if_neg h12,if_neg h12];by_cases h13:k=13
  ·rw [if_pos h13,if_pos h13,if_pos (show k=3∨k=12∨k=13 by omega),if_pos (show k=1∨k=13 by omega)];exact Eb c xs n []
  ·rw [if_neg h13,if_neg h13]
 | l :: r :: s,hl =>
  simp only;unfold ni;by_cases h8:k=8∨k=9
  ·rw [if_pos h8,if_pos h8]
  ·rw [if_neg h8,if_neg h8];have h4:4≤k∧k≤9:=by
    by_cases e:k=1
    ·rw [if_pos e] at hl; cases hl
    ·rw [if_neg e] at hl;by_cases e2:4≤k∧k≤9
     ·exact e2
     ·rw [if_neg e2] at hl; cases hl
   rw [if_pos (show k=2∨4≤k∧k≤7 by omega)];exact AE 0 l r x [] []
theorem pX {ts:List (List Int)}:∀ (l:List Pl),(∀ p ∈ l,eV ts p→∀ m d,aS ts (cX p) m d=aS ts p m d)→(∀ p ∈ l,eV ts p)→∀ m d,aP ts (bN l) m d=aP ts l m d
 | [],_,_,m,d=>by rw [bN]
 | p :: r,h,hs,m,d=>by
  rw [bN,aP,aP,h p (by simp) (hs p (by simp)),pX r (fun q hq=>h q (by simp [hq])) (fun q hq=>hs q (by simp [hq]))]
theorem BN {ts:List (List Int)}:∀ (p:Pl),eV ts p→∀ m d,aS ts (cX p) m d=aS ts p m d :=
 Pl.ind fun k n x xs gs ks ih hs m d=>by
  obtain ⟨hk,hks,_⟩:=bS hs
  have hl:ks.length=dI k:=by rw [eV] at hs; exact hs.2.1
  have hc:aU ts (bN ks)=aU ts ks:=by
   rw [cn,cn,dq,Ix];exact Ih fun r hr=>jB r (hks r hr)
  rw [cX,aS,aS,sm,pX ks (fun p hp=>ih p hp) hks,hc,Ca (by rw [cn,Ik]; exact hl) hk]
theorem CI {ts:List (List Int)} {p:Pl} (h:eV ts p):bu ts (cX p)=bu ts p:=by unfold bu; rw [BN p h]
theorem vU {ts:List (List Int)} {p:Pl} (h:eV ts p):de ts (de ts p)=de ts p:=by
 have hr:=(lR bK p h).2;unfold de;by_cases c:bu ts (cX (fq bK ts p))=0
 ·rw [if_pos c];have e:cX (fq bK ts (cX (fq bK ts p)))=cX (fq bK ts p):=by rw [ED _ hr,CY Cd,qT]
  rw [e,if_pos c]
 ·rw [if_neg c];have e:cX (fq bK ts (cX p))=cX (fq bK ts p):=by rw [ED _ h,qT]
  rw [e,if_neg c,qT]
theorem zi {ts:List (List Int)} {p:Pl} (h:eV ts p):aj ts (de ts p)=aj ts p:=by
 have hr:=lR bK p h;unfold de
 split
 ·rw [jB _ hr.2,hr.1]
 ·exact jB p h
theorem um {ts:List (List Int)} {p:Pl} (h:eV ts p) (hl:bu ts p=0):bu ts (de ts p)=0:=by
 unfold de
 split
 ·assumption
 ·rw [CI h]; exact hl
theorem FR {af:List Int} (h16:af.length≤16):∀ (x:Ex) (t:Int),fI af x=some t→dz eD x :=
 Ex.ind fun k v c ks ih t h=>by
  rw [fI] at h
  by_cases hw:k<1∨18<k∨ks.length≠dw k
  ·rw [if_pos hw] at h; cases h
  rw [if_neg hw] at h
  have hl:ks.length=dw k:=by
   by_cases e:ks.length=dw k
   ·exact e
   ·exact absurd (.inr (.inr e)) hw
  cases hk:eK af ks with
  | none=>simp [hk] at h
  | some us =>
   rw [dz];refine ⟨by rw [hl]; exact oM k,fun e=>?_,fM.2 fun x hx=>?_⟩
   ·subst e;simp only [hk,Option.bind_some,dG,j8] at h;by_cases hc:c<0∨(af.length:Int)≤c
    ·simp [hc] at h
    ·exact ⟨⟨by omega,by omega⟩,Hs (by rw [hl]; rfl)⟩
   ·obtain ⟨u,hu⟩:=pY hk x hx;exact ih x hx u hu
theorem uF {af:List Int} {x:Ex} (h:(ak af x).2=0):dz eD x:=by
 have g:=(ow af x).1 h;exact FR g.GQ x _ g.ty
theorem wz {af:List Int} {x:Ex} (h:cz af x=0):dz eD x:=by
 unfold cz at h;by_cases c:(ak af x).2=0
 ·exact uF c
 ·rw [if_pos c] at h; exact absurd h c
theorem sS {af:List Int}:∀ {xs:List Ex},cV af xs=0→∀ x ∈ xs,dz eD x
 | [],_,x,hx=>by cases hx
 | y :: r,h,x,hx=>by
  rw [cV] at h
  by_cases c:(ak af y).2=0
  ·rw [if_pos c] at h
   rcases List.mem_cons.1 hx with rfl | hx
   ·exact uF c
   ·exact sS h x hx
  ·rw [if_neg c] at h; exact absurd h c
theorem DL {af:List Int} {xs:List Ex} (h:bj af xs=0):xs.length≤100000∧∀ x ∈ xs,dz eD x:=by
 unfold bj at h;by_cases c:8<xs.length
 ·rw [if_pos c] at h; cases h
 ·rw [if_neg c] at h; exact ⟨by omega,sS h⟩
theorem wP {af:List Int}:∀ {gs:List Ag},cN af gs=0→∀ g ∈ gs,g.1≠1→dz eD g.2
 | [],_,g,hg=>by cases hg
 | y :: r,h,g,hg=>by
  rw [cN] at h
  by_cases c:bT af y=0
  ·rw [if_pos c] at h
   rcases List.mem_cons.1 hg with rfl | hg
   ·intro h1
    unfold bT at c
    rw [if_neg h1] at c
    by_cases c2:g.1<2∨5<g.1
    ·rw [if_pos c2] at c; cases c
    rw [if_neg c2] at c
    by_cases c3:(ak af g.2).2=0
    ·exact uF c3
    ·rw [if_pos c3] at c; exact absurd c c3
   ·exact wP h g hg
  ·rw [if_neg c] at h; exact absurd h c
theorem kS {k n:Int} {x:Ex} {xs:List Ex} {gs:List Ag} {ks:List Pl} (h1:1≤k∧k≤13) (h2:ks.length≤2) (h3:k=2∨4≤k∧k≤7→dz eD x) (h4:k=3∨k=12∨k=13→xs.length≤100000∧∀ x ∈ xs,dz eD x) (h5:k=12→gs.length≤100000∧∀ g ∈ gs,g.1≠1→dz eD g.2) (h6:∀ r ∈ ks,kG r):kG (.mk k n x xs gs ks):=by
 rw [kG];exact ⟨h1,h2,h3,h4,h5,jJ.2 h6⟩
theorem nL {ts:List (List Int)}:∀ (p:Pl) (m d:Int),(aS ts p m d).1=0→kG p∧Ah p :=
 Pl.ind fun k n x xs gs ks ih m d hl=>by
  obtain ⟨h1,h2,h3,_⟩:=eU hl
  obtain ⟨hln,hk1,hk2,_,_⟩:=gG h1
  have hkids:∀ r ∈ ks,kG r∧Ah r:=fun r hr=>by
   obtain ⟨m',hm'⟩:=gK h2 r hr
   exact ih r hr m' (d+1) hm'
  have h2':ks.length≤2:=by rw [hln]; exact kU k
  have hx:k=2∨4≤k∧k≤7→dz eD x:=fun e=>by
   unfold dI at hln
   rw [if_neg (by omega)] at hln
   rcases e with e | e
   ·rw [if_neg (by omega)] at hln
    match ks,hln,h3 with
    | [p],_,h3 =>
     simp only [aU,ep,fm] at h3
     rw [if_pos e] at h3
     exact wz (Cj h3).1
   ·rw [if_pos (by omega)] at hln
    match ks,hln,h3 with
    | [p,q],_,h3 =>
     simp only [aU,ep,ni] at h3
     rw [if_neg (by omega)] at h3
     exact wz (AG h3).1.cond
  have hone:k=3∨k=12∨k=13→∃ c,fm k n x xs gs c=0:=fun e=>by
   unfold dI at hln
   rw [if_neg (by omega),if_neg (by omega)] at hln
   match ks,hln,h3 with
   | [p],_,h3=>exact ⟨_,by simpa [aU,ep] using h3⟩
  have hxs:k=3∨k=12∨k=13→xs.length≤100000∧∀ x ∈ xs,dz eD x:=fun e=>by
   obtain ⟨c,h⟩:=hone e
   unfold fm at h
   rw [if_neg (by omega)] at h
   have hL:bj c xs=0:=by
    rcases e with e | e | e
    ·rw [if_pos e] at h
     unfold j6 at h
     by_cases cc:bj c xs=0
     ·exact cc
     ·rw [if_pos cc] at h; exact absurd h cc
    ·rw [if_neg (by omega),if_pos e] at h
     unfold dx at h
     by_cases c8:8<xs.length+gs.length
     ·rw [if_pos c8] at h; cases h
     rw [if_neg c8] at h
     by_cases cc:bj c xs=0
     ·exact cc
     ·rw [if_pos cc] at h; exact absurd h cc
    ·rw [if_neg (by omega),if_neg (by omega),if_pos e] at h
     unfold j9 at h
     by_cases cc:bj c xs=0
     ·exact cc
     ·rw [if_pos cc] at h; exact absurd h cc
   exact DL hL
  have hgs:k=12→gs.length≤100000∧∀ g ∈ gs,g.1≠1→dz eD g.2:=fun e=>by
   obtain ⟨c,h⟩:=hone (.inr (.inl e))
   unfold fm at h
   rw [if_neg (by omega),if_neg (by omega),if_pos e] at h
   unfold dx at h
   by_cases c8:8<xs.length+gs.length
   ·rw [if_pos c8] at h; cases h
   rw [if_neg c8] at h
   by_cases cc:bj c xs=0
   ·rw [if_neg (by simp [cc])] at h
    by_cases cg:cN c gs=0
    ·exact ⟨by omega,wP cg⟩
    ·rw [if_pos cg] at h; exact absurd h cg
   ·rw [if_pos cc] at h; exact absurd h cc
  refine ⟨kS ⟨hk1,hk2⟩ h2' hx hxs hgs fun r hr=>(hkids r hr).1,?_⟩
  rw [Ah]
  exact ⟨fun e=>hx (.inl e),kN.2 fun r hr=>(hkids r hr).2⟩
theorem CC {x y:Ex} (hx:dz eD x) (hy:dz eD y):dz eD (gR 4 x y):=by
 unfold gR;rw [dz,tz,tz,tz];exact ⟨by simp,fun e=>absurd e (by decide),hx,hy,trivial⟩
theorem rz {x:Ex} {p:Pl} (hx:dz eD x) (hp:kG p):kG (da x p):=by
 unfold da;exact kS (by omega) (by simp) (fun _=>hx) (fun e=>by omega) (fun e=>by omega) fun r hr=>by rw [List.mem_singleton.1 hr]; exact hp
theorem C4 {ts:List (List Int)}:∀ (p:Pl) (x:Ex),kG p→dz eD x→kG (az bK ts p x) :=
 Pl.ind fun k n y xs gs ks ih x hw hx=>by
  have hw0:=hw
  rw [kG] at hw
  obtain ⟨h1,h2,h3,h4,h5,h6⟩:=hw
  have h6:=jJ.1 h6
  rw [az]
  by_cases ht:bQ x=true
  ·rw [if_pos ht]; exact hw0
  rw [if_neg ht]
  by_cases k2:k=2
  ·rw [if_pos k2]
   split
   ·exact kS h1 h2 (fun e=>CC (h3 e) hx) h4 h5 h6
   ·exact rz hx hw0
  rw [if_neg k2]
  by_cases k8:k=8∨k=9∨k=10∨k=11
  ·rw [if_pos k8]
   refine kS h1 (by rw [iE,Ik]; exact h2) h3 h4 h5 fun r hr=>?_
   obtain ⟨s,hs,rfl⟩:=jX hr
   exact ih s hs x (h6 s hs) hx
  rw [if_neg k8]
  have head:kG (.mk k n y xs gs (dF bK ts ks x)):=by
   refine kS h1 (by cases ks <;> first | (simp [dF]; done) | simpa [dF] using h2) h3 h4 h5 fun r hr=>?_
   rcases ix hr with h | ⟨s,hs,rfl⟩
   ·exact h6 r h
   ·exact ih s hs x (h6 s hs) hx
  by_cases k5:k=5∨k=6
  ·rw [if_pos k5]; exact head
  rw [if_neg k5]
  by_cases k4:k=4
  ·rw [if_pos k4]
   split
   ·exact head
   split
   ·rename_i c2
    have hb:=xe (n:=((fb ts ks).length:Int)) (by omega) x hx c2
    refine kS h1 ?_ h3 h4 h5 fun r hr=>?_
    ·match ks,h2 with
     | [],_=>simp [jz]
     | [a],_=>simp [jz,dF]
     | [a,b],_=>simp [jz,dF]
    ·rcases lZ hr with h | ⟨s,hs,rfl⟩
     ·exact h6 r h
     ·exact ih s hs _ (h6 s hs) hb
   split
   ·exact kS h1 h2 (fun e=>CC (h3 e) hx) h4 h5 h6
   ·exact rz hx hw0
  ·rw [if_neg k4]; exact rz hx hw0
theorem GC {ts:List (List Int)}:∀ (p:Pl),kG p→Ah p→kG (fq bK ts p) :=
 Pl.ind fun k n y xs gs ks ih hw hf=>by
  rw [kG] at hw
  obtain ⟨h1,h2,h3,h4,h5,h6⟩:=hw
  have h6:=jJ.1 h6
  rw [Ah] at hf
  obtain ⟨f1,f2⟩:=hf
  have f2:=kN.1 f2
  have hks:∀ r ∈ fu bK ts ks,kG r:=fun r hr=>by
   obtain ⟨s,hs,rfl⟩:=lv hr
   exact ih s hs (h6 s hs) (f2 s hs)
  have hlen:(fu bK ts ks).length≤2:=by rw [jR,Ik]; exact h2
  rw [fq]
  generalize fu bK ts ks=l at hks hlen
  have same:kG (.mk k n y xs gs l):=kS h1 hlen h3 h4 h5 hks
  unfold j5
  split
  ·rename_i p
   have hp:=hks p (by simp)
   by_cases k2:k=2
   ·rw [if_pos k2]; exact C4 p y hp (f1 k2)
   rw [if_neg k2]
   split
   ·exact hp
   split
   ·have hq:=hp.q
    exact kS h1 hq.two h3 h4 h5 hq.ks
   ·exact same
  ·exact same
theorem Bq:∀ p:Pl,cF p→cF (cX p) :=
 Pl.ind fun k n x xs gs ks ih h=>by
  cases h with
  | mk _ _ _ _ _ _ hn hx hg hk =>
   rw [cX]
   refine .mk _ _ _ _ _ _ ?_ ?_ ?_ fun p hp=>?_
   ·split
    ·exact hn
    ·omega
   ·split
    ·rw [dr]; exact hx
    ·simp
   ·split
    ·rw [Ik]; exact hg
    ·simp
   ·rw [dq] at hp
    obtain ⟨q,hq,rfl⟩:=List.mem_map.1 hp
    exact ih q hq (hk q hq)
theorem rm {x:Ex} {p:Pl} (h:cF p):cF (da x p):=.mk _ _ _ _ _ _ (by omega) (by simp) (by simp) fun r hr=>by rw [List.mem_singleton.1 hr]; exact h
theorem DQ {ts:List (List Int)}:∀ (p:Pl) (x:Ex),cF p→cF (az bK ts p x) :=
 Pl.ind fun k n y xs gs ks ih x h=>by
  have h0:=h
  cases h with
  | mk _ _ _ _ _ _ hn hx hg hk =>
   have one:∀ {Y:Ex} {l:List Pl},(∀ r ∈ l,cF r)→cF (.mk k n Y xs gs l):=fun h=>.mk _ _ _ _ _ _ hn hx hg h
   rw [az]
   repeat' split
   ·exact h0
   ·exact one hk
   ·exact rm h0
   ·exact one fun r hr=>by
     obtain ⟨s,hs,rfl⟩:=jX hr
     exact ih s hs x (hk s hs)
   ·exact one fun r hr=>by
     rcases ix hr with h | ⟨s,hs,rfl⟩
     ·exact hk r h
     ·exact ih s hs x (hk s hs)
   ·exact one fun r hr=>by
     rcases ix hr with h | ⟨s,hs,rfl⟩
     ·exact hk r h
     ·exact ih s hs x (hk s hs)
   ·exact one fun r hr=>by
     rcases lZ hr with h | ⟨s,hs,rfl⟩
     ·exact hk r h
     ·exact ih s hs _ (hk s hs)
   ·exact one hk
   ·exact rm h0
   ·exact rm h0
theorem Ez {ts:List (List Int)}:∀ (p:Pl),cF p→cF (fq bK ts p) :=
 Pl.ind fun k n y xs gs ks ih h=>by
  cases h with
  | mk _ _ _ _ _ _ hn hx hg hk =>
   have hks:∀ r ∈ fu bK ts ks,cF r:=fun r hr=>by
    obtain ⟨s,hs,rfl⟩:=lv hr
    exact ih s hs (hk s hs)
   rw [fq]
   generalize fu bK ts ks=l at hks
   unfold j5
   split
   ·rename_i p
    have hp:=hks p (by simp)
    repeat' split
    ·exact DQ p y hp
    ·exact hp
    ·exact .mk _ _ _ _ _ _ hn hx hg hp.ks
    ·exact .mk _ _ _ _ _ _ hn hx hg hks
   ·exact .mk _ _ _ _ _ _ hn hx hg hks
theorem uu {ts:List (List Int)} {p:Pl} (hok:cF p) (h:bu ts p=0):qC ts p:=by
 obtain ⟨h1,h2⟩:=eH h;have hw:=nL p 0 1 h2;exact ⟨GN h1 p 0 1 (by omega) (by omega) h2,mG p 0 1 h2,hw.2,hw.1,GC p hw.1 hw.2,Bq _ (Ez p hok)⟩
theorem DK {ts:List (List Int)} {p:Pl} (hok:cF p):cF (de ts p):=by
 unfold de
 split
 ·exact Bq _ (Ez p hok)
 ·exact Bq p hok
end Go.Proofs.YtjebpkhkjkjphaaGreat
namespace Go.Proofs.YtjebpkhkjkjphaaGreat
open Go.RowKit Go.Lib Go.Shelf
set_option maxRecDepth 100000
set_option maxHeartbeats 16000000
theorem ov {W:World} {b off:Nat} {x:Ex} {a:Option Addr} {c:Nat} (h:ik W b off x.k x.v x.c a x.ks.length c):At W b off (lK x a c):=fun j u hj=>by
 match j,hj with
 | 0,hj=>cases hj; exact h.c0
 | 1,hj=>cases hj; exact h.c1
 | 2,hj=>cases hj; exact h.c2
 | 3,hj=>cases hj; exact h.c3
 | 4,hj=>cases hj; exact h.c4
 | 5,hj=>cases hj; exact h.c5
 | n+6,hj=>simp [lK] at hj
def CH (x:Ex):Prop:=∀ (a:Option Addr) (ca:Nat) (b:Option Addr) (cb:Nat) (w:World),dz eD x→aO w.heap.size w a x.ks→aO w.heap.size w b x.ks →
 Calls Tryz.prog 19 #[iY x.k x.v x.c a x.ks.length ca,iY x.k x.v x.c b x.ks.length cb] w fun e w'=>e = .returned (.bool true)∧Below w.heap.size w w'
theorem uy (x:Ex) (ih:∀ y ∈ x.ks,CH y):CH x:=by
 intro a ca b cb w hw ha hb;have hw3:x.ks.length≤3∧∀ y ∈ x.ks,dz eD y:=by
  obtain ⟨k,v,c,ks⟩:=x;rw [dz] at hw;exact ⟨hw.1,fM.1 hw.2.2⟩
 have h3:=hw3.1;have IH:Hid (∀ y ∈ x.ks,CH y∧dz eD y):=fun y hy=>⟨ih y hy,hw3.2 y hy⟩
 have HA:Hid (aO w.heap.size w a x.ks):=ha;have HB:Hid (aO w.heap.size w b x.ks):=hb;clear hw hw3 ih ha hb;have A:Below w.heap.size w ((w.alloc (.cells (aW x a ca) 27)).alloc (.cells (aW x b cb) 27)):=(((He w.heap.size w).alloc (Hd _) (.cells (aW x a ca) 27)).alloc (by simp only [Hg]; omega) (.cells (aW x b cb) 27))
 have Z:w.heap.size+2≤((w.alloc (.cells (aW x a ca) 27)).alloc (.cells (aW x b cb) 27)).heap.size:=by simp only [Hg]; omega
 have Q0:((w.alloc (.cells (aW x a ca) 27)).alloc (.cells (aW x b cb) 27)).heap[w.heap.size]? = some (.cells (aW x a ca) 27 (0,0)):=by
  rw [aD _ _ (by simp only [Hg]; omega)];exact aw w (aW x a ca) 27 rfl
 have Q1:((w.alloc (.cells (aW x a ca) 27)).alloc (.cells (aW x b cb) 27)).heap[w.heap.size+1]? = some (.cells (aW x b cb) 27 (0,0)):=by
  exact aw (w.alloc (.cells (aW x a ca) 27)) (aW x b cb) 27 (by simp only [Hg])
 have kV:x.k=2∨x.k=1∨(x.k≠2∧x.k≠1):=by omega
 have HTR:Hid (x.k=2∨x.k=1∨(x.k≠2∧x.k≠1)):=kV;clear kV;go_enter Tryz.func19,Tryz.ntmps19;go_upto_region 1 with fail
 generalize ((w.alloc (.cells (aW x a ca) 27)).alloc (.cells (aW x b cb) 27))=w2 at *;obtain ⟨x0,x1,x2,x3,x4,x5⟩:=cU Q0;obtain ⟨y0,y1,y2,y3,y4,y5⟩:=cU Q1;have bs:((x.k == 2)=true∧(x.k == 1)=false)∨((x.k == 2)=false∧(x.k == 1)=true)∨((x.k == 2)=false∧(x.k == 1)=false):=by
  have:=HTR.out;simp only [beq_iff_eq,beq_eq_false_iff_ne];omega
 clear HTR;rcases bs with ⟨b1,b2⟩ | ⟨b1,b2⟩ | ⟨b1,b2⟩
 all_goals go_upto_region 3 with fail
 all_goals (
  clear b1 b2 x0 x1 x2 x3 x4 y0 y1 y2 y3 y4;go_wp2_with fail
  clear x5 y5;go_loopw [47] (fun i wr=>∃ j:Nat,j≤x.ks.length∧i = .int .i64 j∧wr.heap[w.heap.size]? = some (.cells (aW x a ca) 27 (0,0))∧wr.heap[w.heap.size+1]? = some (.cells (aW x b cb) 27 (0,0))∧Below w.heap.size w wr) (fun i _=>x.ks.length - (intOf i).toNat)
  case atStart=>exact ⟨0,Hl _,rfl,Q0,Q1,A⟩
  case round =>
   clear Q0 Q1 A Z;obtain ⟨j,hj,rfl,Q0,Q1,hbr⟩:=hrel;by_cases hlt:j<x.ks.length
   ·obtain ⟨ba,oa,a1,c1,rfl,la,sa,ka⟩:=(aO.next hbr (Hd _) HA.out).elem hlt;obtain ⟨bb,ob,a2,c2,rfl,lb,sb,kb⟩:=(aO.next hbr (Hd _) HB.out).elem hlt;have hzr:=hbr.size;have hjz:(j:Int)<(x.ks.length:Int):=by omega
    have HIH:Hid (CH x.ks[j]∧dz eD x.ks[j]):=IH.out _ (Hm hlt);have HK:Hid (aO w.heap.size wr a1 x.ks[j].ks∧aO w.heap.size wr a2 x.ks[j].ks):=⟨ka,kb⟩
    have ta:At wr ba (oa+j*6) (lK x.ks[j] a1 c1):=ov sa;have tb:At wr bb (ob+j*6) (lK x.ks[j] a2 c2):=ov sb;clear sa sb ka kb;go_upto_region 6 with fail
    have hCC:∀ W W':World,(W.heap[w.heap.size]? = some (.cells (aW x (some ⟨ba,oa,none⟩) ca) 27 (0,0))∧W.heap[w.heap.size+1]? = some (.cells (aW x (some ⟨bb,ob,none⟩) cb) 27 (0,0))∧At W ba (oa+j*6) (lK x.ks[j] a1 c1)∧At W bb (ob+j*6) (lK x.ks[j] a2 c2)∧ba<W.heap.size∧bb<W.heap.size)→Below W.heap.size W W'→(W'.heap[w.heap.size]? = some (.cells (aW x (some ⟨ba,oa,none⟩) ca) 27 (0,0))∧W'.heap[w.heap.size+1]? = some (.cells (aW x (some ⟨bb,ob,none⟩) cb) 27 (0,0))∧At W' ba (oa+j*6) (lK x.ks[j] a1 c1)∧At W' bb (ob+j*6) (lK x.ks[j] a2 c2)∧ba<W'.heap.size∧bb<W'.heap.size):=fun W W' h hb=>⟨(hb.block _ (ae h.1)).trans h.1,(hb.block _ (ae h.2.1)).trans h.2.1,fun i u hi=>(hb.cell (p:=⟨ba,_,none⟩) h.2.2.2.2.1).trans (h.2.2.1 i u hi),fun i u hi=>(hb.cell (p:=⟨bb,_,none⟩) h.2.2.2.2.2).trans (h.2.2.2.1 i u hi),Hi h.2.2.2.2.1 hb.size,Hi h.2.2.2.2.2 hb.size⟩
    have hdr:Below wr.heap.size wr wr.drew:=(He _ _).drew;have CW:=hCC _ _ ⟨Q0,Q1,ta,tb,by omega,by omega⟩ hdr;refine aG (fun W=>W.heap[w.heap.size]? = some (.cells (aW x (some ⟨ba,oa,none⟩) ca) 27 (0,0))∧W.heap[w.heap.size+1]? = some (.cells (aW x (some ⟨bb,ob,none⟩) cb) 27 (0,0))∧At W ba (oa+j*6) (lK x.ks[j] a1 c1)∧At W bb (ob+j*6) (lK x.ks[j] a2 c2)∧ba<W.heap.size∧bb<W.heap.size) (by kernel_rfl) ?_
    refine ab hCC 50 (i:=0) (v:=.pointer (some ⟨w.heap.size,5,none⟩)) (fun n hn=>?_) CW ?_
    ·go_simp
    simp only [Act.put,pA,pB,pC];refine ab hCC 51 (i:=1) (v:=.slice (some ⟨ba,oa,none⟩) x.ks.length ca) (fun n hn=>?_) CW ?_
    ·have hc:n.cell? ⟨w.heap.size,5,none⟩=some (.slice (some ⟨ba,oa,none⟩) x.ks.length ca):=cell_of (i:=5) hn.1 rfl;go_simp
    simp only [Act.put,pA,pB,pC];refine ab hCC 52 (i:=2) (v:=.int .i64 j) (fun n hn=>?_) CW ?_
    ·go_simp
    simp only [Act.put,pA,pB,pC];refine ab hCC 53 (i:=3) (v:=.pointer (some ⟨ba,oa+j*6,none⟩)) (fun n hn=>?_) CW ?_
    ·go_simp
    simp only [Act.put,pA,pB,pC];refine ab hCC 54 (i:=4) (v:=.agg (aW x.ks[j] a1 c1)) (fun n hn=>?_) CW ?_
    ·have hc0:n.cell? ⟨ba,oa+j*6,none⟩=some (.int .i64 x.ks[j].k):=hn.2.2.1 0 _ rfl;have hc1:n.cell? ⟨ba,oa+j*6+1,none⟩=some (.int .i64 x.ks[j].v.1):=hn.2.2.1 1 _ rfl;have hc2:n.cell? ⟨ba,oa+j*6+2,none⟩=some (.int .i64 x.ks[j].v.2.1):=hn.2.2.1 2 _ rfl;have hc3:n.cell? ⟨ba,oa+j*6+3,none⟩=some (.string x.ks[j].v.2.2):=hn.2.2.1 3 _ rfl;have hc4:n.cell? ⟨ba,oa+j*6+4,none⟩=some (.int .i64 x.ks[j].c):=hn.2.2.1 4 _ rfl;have hc5:n.cell? ⟨ba,oa+j*6+5,none⟩=some (.slice a1 x.ks[j].ks.length c1):=hn.2.2.1 5 _ rfl;go_simp
    simp only [Act.put,pA,pB,pC];refine ab hCC 55 (i:=5) (v:=.pointer (some ⟨w.heap.size+1,5,none⟩)) (fun n hn=>?_) CW ?_
    ·go_simp
    simp only [Act.put,pA,pB,pC];refine ab hCC 56 (i:=6) (v:=.slice (some ⟨bb,ob,none⟩) x.ks.length cb) (fun n hn=>?_) CW ?_
    ·have hc:n.cell? ⟨w.heap.size+1,5,none⟩=some (.slice (some ⟨bb,ob,none⟩) x.ks.length cb):=cell_of (i:=5) hn.2.1 rfl;go_simp
    simp only [Act.put,pA,pB,pC];refine ab hCC 57 (i:=7) (v:=.int .i64 j) (fun n hn=>?_) CW ?_
    ·go_simp
    simp only [Act.put,pA,pB,pC];refine ab hCC 58 (i:=8) (v:=.pointer (some ⟨bb,ob+j*6,none⟩)) (fun n hn=>?_) CW ?_
    ·go_simp
    simp only [Act.put,pA,pB,pC];refine ab hCC 59 (i:=9) (v:=.agg (aW x.ks[j] a2 c2)) (fun n hn=>?_) CW ?_
    ·have hc0:n.cell? ⟨bb,ob+j*6,none⟩=some (.int .i64 x.ks[j].k):=hn.2.2.2.1 0 _ rfl;have hc1:n.cell? ⟨bb,ob+j*6+1,none⟩=some (.int .i64 x.ks[j].v.1):=hn.2.2.2.1 1 _ rfl;have hc2:n.cell? ⟨bb,ob+j*6+2,none⟩=some (.int .i64 x.ks[j].v.2.1):=hn.2.2.2.1 2 _ rfl;have hc3:n.cell? ⟨bb,ob+j*6+3,none⟩=some (.string x.ks[j].v.2.2):=hn.2.2.2.1 3 _ rfl;have hc4:n.cell? ⟨bb,ob+j*6+4,none⟩=some (.int .i64 x.ks[j].c):=hn.2.2.2.1 4 _ rfl;have hc5:n.cell? ⟨bb,ob+j*6+5,none⟩=some (.slice a2 x.ks[j].ks.length c2):=hn.2.2.2.1 5 _ rfl;go_simp
    simp only [Act.put,pA,pB,pC];refine au (rs:=[10]) (by kernel_rfl) (by simp) ?_;intro w5 hb5 jj hj;obtain rfl:jj=10:=by simpa using hj
    clear hj;have D5:=chain hdr hb5;have B5:=chain hbr D5;have CW5:=hCC _ _ CW hb5;have con:=HIH.out.1 a1 c1 a2 c2 w5 HIH.out.2 ((aO.next D5 hzr HK.out.1).up B5.size) ((aO.next D5 hzr HK.out.2).up B5.size);refine wpOp_step rfl (fun K hK=>?_);go_simp;refine con.mono ?_;rintro e w6 ⟨rfl,hb6⟩;have CW6:=hCC _ _ CW5 hb6;refine hK _ _ ⟨CW6,?_⟩;clear hK K con CW CW5;refine ab hCC 61 (i:=11) (v:=.bool false) (fun n hn=>?_) CW6 ?_
    ·go_simp
    simp only [Act.put,pA,pB,pC];refine bd (by kernel_rfl) ?_;intro w7 hb7;have D7:=chain D5 (chain hb6 hb7);have Q07:=(D7.block _ (ae Q0)).trans Q0;have Q17:=(D7.block _ (ae Q1)).trans Q1;have A7:=chain hbr D7;clear CW6 hCC ta tb;go_wp2_with fail
    go_roundw
    case rel=>exact ⟨j+1,by omega,by go_num,Q07,Q17,A7⟩
    case measure=>simp [intOf]; omega
   ·go_wp2_with fail
    go_ret;exact ⟨rfl,hbr⟩
  )
theorem oL:∀ x,CH x:=Ex.ind fun k v c ks ih=>uy (.mk k v c ks) ih
end Go.Proofs.YtjebpkhkjkjphaaGreat
