/- Together: EV, QA, QB, QC, QD, EIm, QE, QF, QG. -/
import Derived.Test.YtohjlfhmnmcndaaGreatM14
import Derived.Test.YtohjlfhmnmcndaaGreatM12
namespace Go.Proofs.YtohjlfhmnmcndaaGreat
set_option maxRecDepth 100000
set_option maxHeartbeats 16000000
theorem One.len {z:List Zp} (h:One z):z.length≤100000:=by have:=((bD z).1 h.right).1; omega
theorem rS:∀ {z:List Zp},kg z=true→∀ q,0≤wt z q
 | [],_,_=>Oo _
 | x :: r,h,q=>by
  unfold kg at h
  rw [Pc,NQ] at h
  have h1:=of_decide_eq_true h.1
  have h2:=rS (z:=r) h.2 q
  rw [wt]
  split <;> omega
theorem JS {l:List (List Zp)} (h:ij l=true) (i:Nat) (q:List Vl):0≤wt (l.getD i []) q:=by
 unfold ij at h;rw [OY] at h;rcases NY i l.length with hi | hi
 ·have e:l.getD i []=l[i]:=by simp [hi]
  rw [e];exact rS (h _ (Ns hi)) q
 ·have e:l.getD i [] = []:=by simp [hi]
  rw [e];exact Oo _
theorem oB (l:List (List Zp)) (z:List Zp) (i:Nat):(l ++ [z]).getD i []=if i<l.length then l.getD i [] else if i=l.length then z else []:=by
 by_cases h:i<l.length
 ·rw [if_pos h];simp [List.getD_eq_getElem?_getD,List.getElem?_append_left h]
 ·rw [if_neg h];by_cases h2:i=l.length
  ·subst h2;simp
  ·rw [if_neg h2];simp [List.getD_eq_getElem?_getD];rw [NW (by simp; omega)];rfl
theorem rC:∀ {b a:List Zp},fL a→fL b→(∀ x ∈ a,∃ y ∈ b,aG y.1 x.1=0)→a.length≤b.length
 | [],a,_,_,h=>by
  have:a = []:=List.eq_nil_iff_forall_not_mem.2 fun x hx=>by
   obtain ⟨y,hy,_⟩:=h x hx
   cases hy
  subst this
  exact Nj _
 | y :: b,[],_,_,_=>Nr _
 | y :: b,x :: a,ha,hb,h=>by
  have ha':=List.pairwise_cons.1 ha
  have hb':=List.pairwise_cons.1 hb
  obtain ⟨y',hy',c⟩:=h x (by simp)
  rcases List.mem_cons.1 hy' with e | hx
  ·subst e
   have:=rC (b:=b) (a:=a) ha'.2 hb'.2 fun z hz=>by
    obtain ⟨z',hz',c'⟩:=h z (by simp [hz])
    rcases List.mem_cons.1 hz' with e | hz''
    ·subst e
     have h1:=ha'.1 z hz
     rw [← fh c] at h1
     omega
    ·exact ⟨z',hz'',c'⟩
   simpa using this
  ·have:=rC (b:=b) (a:=x :: a) ha hb'.2 fun z hz=>by
    obtain ⟨z',hz',c'⟩:=h z hz
    rcases List.mem_cons.1 hz' with e | hz''
    ·subst e
     exfalso
     have h1:=hb'.1 y' hx
     rw [fh c',sI c] at h1
     rcases List.mem_cons.1 hz with e | hz3
     ·subst e
      rw [dF] at h1
      omega
     ·have h2:=ha'.1 z hz3
      have h3:=aZ x.1 z.1
      omega
    ·exact ⟨z',hz'',c'⟩
   simp only [N4] at this ⊢
   omega
theorem Mh {z:List Zp} {q:List Vl} (h:wt z q≠0):∃ y ∈ z,aG y.1 q=0:=by
 rcases Classical.em (∃ y ∈ z,aG y.1 q=0) with h1 | h1
 ·exact h1
 ·exact absurd (wU fun x hx c=>h1 ⟨x,hx,c⟩) h
theorem cN {a b:List Zp} (h:aH b=0) (A:∀ q,0≤wt a q∧wt a q≤wt b q):aH a=0:=by
 obtain ⟨h1,h2⟩:=uN h;have sa:=dH a;have sb:=dH b;have key:∀ x ∈ canon a,∃ y ∈ canon b,aG y.1 x.1=0∧0<x.2∧x.2≤y.2:=fun x hx=>by
  have e:=xf sa.gj x hx;have n:=sa.ne x hx;have A1:=A x.1;rw [← dO a,← dO b,e] at A1;obtain ⟨y,hy,c⟩:=Mh (z:=canon b) (q:=x.1) (by omega);have e2:=xf sb.gj y hy;rw [xX c] at e2;exact ⟨y,hy,c,by omega,by omega⟩
 have l:=rC sa.gj sb.gj fun x hx=>by
  obtain ⟨y,hy,c,_⟩:=key x hx;exact ⟨y,hy,c⟩
 have o:mI (canon a)=false:=xq fun j hj=>by
  obtain ⟨y,hy,_,p,q⟩:=key _ (Ns hj);have:=BZ h1 y hy;rw [gr] at this ⊢;omega
 unfold aH;rw [if_neg (by rw [o]; simp),if_neg (by omega)]
mutual
def gO:Pl→Bool
 | .mk k _ _ _ _ ks=>(k != 9) && gF ks
def gF:List Pl→Bool
 | []=>true
 | p :: r=>gO p && gF r
end
theorem pD:∀ {l:List Pl},gF l=true→∀ p ∈ l,gO p=true
 | q :: r,h,p,hp=>by
  rw [gF,NQ] at h
  rcases List.mem_cons.1 hp with rfl | hp
  ·exact h.1
  ·exact pD h.2 p hp
theorem CK:∀ {z:List Zp},(∀ x ∈ z,0≤x.2)→∀ q,0≤wt z q
 | [],_,_=>Oo _
 | x :: r,h,q=>by
  have h1:=h x (by simp)
  have h2:=CK (z:=r) (fun y hy=>h y (by simp [hy])) q
  rw [wt]
  split <;> omega
theorem yK:∀ (n:Int) (l:List Kp),0≤n→(∀ x ∈ l,0<x.2.2)→∀ y ∈ jg n l,0≤y.2
 | _,[],_,_,y,hy=>by cases hy
 | n,x :: r,hn,h,y,hy=>by
  rw [jg] at hy
  have h1:=h x (by simp)
  rcases List.mem_cons.1 hy with rfl | hy
  ·show 0≤min x.2.2 n
   omega
  ·exact yK _ r (by omega) (fun z hz=>h z (by simp [hz])) y hy
theorem uD {z:List Zp} (h:∀ x ∈ z,0≤x.2) (q:List Vl):0≤wt (canon z) q:=by
 rw [dO];exact CK h q
theorem G2 {ts:List (List Int)} {a:List (List Zp)} (A:∀ (i:Nat) q,0≤wt (a.getD i []) q):∀ (p:Pl),gO p=true→∀ (m d:Int),(aQ ts p m d).1=0→(aB ts a p).1=0→∀ q,0≤wt (aB ts a p).2 q :=
 Pl.ind fun k n x xs gs ks ih hlin m d hl h1 q=>by
  obtain ⟨hk,hln,hlk⟩:=fS hl
  rw [gO,NQ] at hlin
  have hks:=pD hlin.2
  have k9:k≠9:=by have:=hlin.1; simpa using this
  match ks,hln with
  | [],_ =>
   rw [iO] at h1
   rw [iO]
   simp only at h1 ⊢
   rw [iK h1]
   exact A _ q
  | [p],hln =>
   obtain ⟨m',hm'⟩:=hlk p (by simp)
   obtain ⟨a1,e1⟩:=yM h1
   have W:=ih p (by simp) (hks p (by simp)) m' (d+1) hm' a1
   rw [e1] at h1 ⊢
   simp only [aT] at h1 ⊢
   by_cases k2:k=2
   ·rw [if_pos k2] at h1 ⊢
    rw [jT h1]
    have:=W q
    split <;> omega
   rw [if_neg k2] at h1 ⊢
   by_cases k3:k=3
   ·rw [if_pos k3] at h1 ⊢
    rw [mB h1]
    exact kD (nV xs q) (fun _=>sE _) W
   rw [if_neg k3] at h1 ⊢
   by_cases k10:k=10
   ·rw [if_pos k10] at h1 ⊢
    rw [om rfl h1]
    exact (DS (Oo _)).1
   rw [if_neg k10] at h1 ⊢
   by_cases k11:k=11
   ·rw [if_pos k11] at h1 ⊢
    rw [om rfl h1]
    exact (vt (Oo _)).1
   rw [if_neg k11] at h1 ⊢
   by_cases k12:k=12
   ·rw [if_pos k12] at h1 ⊢
    simp only at h1 ⊢
    unfold fp
    rw [if_pos h1]
    refine uD (fun y hy=>?_) q
    obtain ⟨_,_,rfl⟩:=List.mem_map.1 hy
    exact Int.le_of_lt Int.one_pos
   rw [if_neg k12] at h1 ⊢
   simp only at h1 ⊢
   obtain ⟨_,n0,_,_⟩:=Jh h1
   unfold mV
   rw [if_pos h1]
   exact uD (yK n _ n0.1 (fun y hy=>(eJ.1 hy).1.2)) q
  | [l,r],hln =>
   obtain ⟨m1,hm1⟩:=hlk l (by simp)
   obtain ⟨m2,hm2⟩:=hlk r (by simp)
   obtain ⟨a1,b1,e1⟩:=xH h1
   have W1:=ih l (by simp) (hks l (by simp)) m1 (d+1) hm1 a1
   have W2:=ih r (by simp) (hks r (by simp)) m2 (d+1) hm2 b1
   rw [e1] at h1 ⊢
   simp only [aT] at h1 ⊢
   have J:=fun q=>(join_mono (x:=x) W1 (fun _=>Oo _) W2 (fun _=>Oo _) q).1
   by_cases k4:k=4
   ·rw [if_pos k4] at h1 ⊢
    rw [cq h1]
    exact J q
   rw [if_neg k4] at h1 ⊢
   by_cases k5:k=5
   ·rw [if_pos k5] at h1 ⊢
    rw [cq h1]
    show 0≤wt (jk x _ _) q
    rw [mj]
    have:=W1 q
    split <;> omega
   rw [if_neg k5] at h1 ⊢
   have AN:∀ q,0≤wt (ir x (aB ts a l).2 (aB ts a r).2) q:=fun q=>by
    rw [Kf]
    have:=W1 q
    split <;> omega
   by_cases k6:k=6
   ·rw [if_pos k6] at h1 ⊢
    rw [cq h1]
    exact AN q
   rw [if_neg k6] at h1 ⊢
   by_cases k7:k=7
   ·rw [if_pos k7] at h1 ⊢
    rw [cq h1]
    show 0≤wt (pR x _ _ _) q
    unfold pR
    rw [dG,Gs]
    have h2:=J q
    have h3:=kD (g:=fun r'=>if aG (r' ++ gy (ah ts r).length) q=0 then 1 else 0) (fun u v h=>by simp only [fh (jz h (dF _))]) (fun _=>sE _) AN
    omega
   rw [if_neg k7] at h1 ⊢
   by_cases k8:k=8
   ·rw [if_pos k8] at h1 ⊢
    rw [(hZ h1).2.2.2.2]
    have:=W1 q
    have:=W2 q
    omega
   ·exfalso
    simp only [N4,OV] at hln
    unfold cJ at hln
    by_cases c1:k=1
    ·rw [if_pos c1] at hln; omega
    ·rw [if_neg c1] at hln
     by_cases c2:4≤k∧k≤9
     ·omega
     ·rw [if_neg c2] at hln; omega
  | _ :: _ :: _ :: _,hln =>
   have:=gh k
   simp only [N4] at hln
   omega
def nA (ts:List (List Int)) (p p':Pl) (data:List (List Zp)):List Zp × Int × Int:=nG (fun _ y=>hM (bN ts p) (data ++ [y]) p') (fun _ y=>dE (bN ts p) (data ++ [y]) p') 50 0 (dE ts data p) (dE ts data p)
mutual
def lE (k:Int):Pl→Bool
 | .mk kd n _ _ _ ks=>if kd=1 then decide (n=k) else if kd=2∨kd=3 then Dx k ks else if kd=4 then LF k ks else if kd=5 then KL k ks else false
def Dx (k:Int):List Pl→Bool
 | []=>false
 | p :: _=>lE k p
def LF (k:Int):List Pl→Bool
 | []=>false
 | p :: r=>(lE k p && !jR k r) || (!jS k p && Dx k r)
def KL (k:Int):List Pl→Bool
 | []=>false
 | p :: r=>lE k p && !jR k r
end
structure EI (e1 e2 e3:Int × List Zp):Prop where
 ok:e1.1=0
 Jv:e2.1=0
 nn:∀ q,0≤wt e1.2 q
 KV:∀ q,0≤wt e2.2 q
 sum:∀ q,wt e3.2 q=wt e1.2 q+wt e2.2 q
theorem EI.le {e1 e2 e3:Int × List Zp} (h:EI e1 e2 e3) (q:List Vl):wt e1.2 q≤wt e3.2 q:=by have:=h.sum q; have:=h.KV q; omega
theorem EI.Ng {e1 e2 e3:Int × List Zp} (h:EI e1 e2 e3) (q:List Vl):wt e2.2 q≤wt e3.2 q:=by have:=h.sum q; have:=h.nn q; omega
theorem B7 {c:List Int} {x:Ex} {z z':List Zp} (h:eV c x z=0) (hz:eU c z'):eV c x z'=0:=by
 unfold eV;rw [(yd h).1,(dK _ _).2 hz];simp
theorem Ho {c:List Int} {xs:List Ex} {z z':List Zp} (h:iv c xs z=0) (hz:eU c z') (hg:aH (jC xs z')=0):iv c xs z'=0:=by
 unfold iv;rw [(wL h).1,(dK _ _).2 hz,hg];simp
theorem mH {w:Nat} {l r:List Int} {x:Ex} {a b a' b':List Zp} (h:bY w l r x a b=0) (ha:eU l a') (hb:eU r b') (hg:aH (fP w r.length x a' b')=0):bY w l r x a' b'=0:=by
 have t:=(iW h).1;unfold bY;rw [(wi l r x a' b').2 ⟨t.len,t.cond,ha,hb⟩,hg];simp
theorem Dz {x:Ex} {a1 a2 a3 b:List Zp} (h:∀ q,wt a3 q=wt a1 q+wt a2 q) (q:List Vl):wt (bH x a3 b) q=wt (bH x a1 b) q+wt (bH x a2 b) q:=by
 rw [gf,gf,gf];exact rm h (je x q b)
theorem Fg {x:Ex} {a b1 b2 b3:List Zp} (h:∀ q,wt b3 q=wt b1 q+wt b2 q) (q:List Vl):wt (bH x a b3) q=wt (bH x a b1) q+wt (bH x a b2) q:=by
 rw [gf,gf,gf,← Jb];exact vF fun y _=>rm h (kt x q y.1)
theorem JZ {ts:List (List Int)} {k:Nat} {d1 d2 d3:List (List Zp)} (D1:bG ts d1=0) (D2:bG ts d2=0) (S1:Ca (fun i=>i≠k) d1 d3) (S2:Ca (fun i=>i≠k) d2 d3) (A3:∀ (i:Nat) q,0≤wt (d3.getD i []) q) (N1:∀ q,0≤wt (d1.getD k []) q) (N2:∀ q,0≤wt (d2.getD k []) q) (S:∀ q,wt (d3.getD k []) q=wt (d1.getD k []) q+wt (d2.getD k []) q) :
  ∀ (p:Pl),lE k p=true→gO p=true→∀ (m d:Int),(aQ ts p m d).1=0→(aB ts d3 p).1=0→EI (aB ts d1 p) (aB ts d2 p) (aB ts d3 p) :=
 Pl.ind fun kd n x xs gs ks ih hp hs m d hl h3=>by
  obtain ⟨hk,hln,hlk⟩:=fS hl
  rw [gO,NQ] at hs
  have hss:=pD hs.2
  rw [lE] at hp
  have nt:∀ r,(∃ m' d',(aQ ts r m' d').1=0)→jS k r=false→aB ts d1 r=aB ts d3 r∧aB ts d2 r=aB ts d3 r:=fun r ⟨m',d',hm⟩ hsp=>⟨pT S1 r (Il r m' d' hm hsp),pT S2 r (Il r m' d' hm hsp)⟩
  match ks,hln with
  | [],hln =>
   have k1:kd=1:=by
    simp only [OV] at hln;unfold cJ at hln;by_cases c:kd=1
    ·exact c
    ·rw [if_neg c] at hln;by_cases c2:4≤kd∧kd≤9
     ·rw [if_pos c2] at hln; cases hln
     ·rw [if_neg c2] at hln; cases hln
   rw [if_pos k1] at hp;have hn:n=(k:Int):=of_decide_eq_true hp;subst hn;rw [iO] at h3;rw [iO,iO,iO];simp only [Int.toNat_natCast] at h3 ⊢;have g1:=cN h3 fun q=>⟨N1 q,by have:=S q; have:=N2 q; omega⟩
   have g2:=cN h3 fun q=>⟨N2 q,by have:=S q; have:=N1 q; omega⟩
   exact ⟨g1,g2,fun q=>by rw [iK g1]; exact N1 q,fun q=>by rw [iK g2]; exact N2 q,fun q=>by rw [iK g1,iK g2,iK h3]; exact S q⟩
  | [r],hln =>
   obtain ⟨m',hm'⟩:=hlk r (by simp);obtain ⟨a3,e3⟩:=yM h3;have k1:¬ kd=1:=by
    intro c;rw [c] at hln;cases hln
   have k4:¬ (kd=4∨kd=5):=by
    intro c;simp only [N4,OV] at hln;unfold cJ at hln;rw [if_neg k1,if_pos (by omega)] at hln;omega
   have k23:kd=2∨kd=3:=by
    rw [if_neg k1] at hp;by_cases c:kd=2∨kd=3
    ·exact c
    ·rw [if_neg c,if_neg (by omega),if_neg (by omega)] at hp;cases hp
   rw [if_neg k1,if_pos k23,Dx] at hp;have L:=ih r (by simp) hp (hss r (by simp)) m' (d+1) hm' a3;have o1:=gp D1 r m' (d+1) hm' L.ok;have o2:=gp D2 r m' (d+1) hm' L.Jv;have f1:=fV (ts:=ts) (data:=d1) (p:=.mk kd n x xs gs [r]) (fun u hu=>by simp [Pl.ks] at hu; subst hu; exact L.ok);have f2:=fV (ts:=ts) (data:=d2) (p:=.mk kd n x xs gs [r]) (fun u hu=>by simp [Pl.ks] at hu; subst hu; exact L.Jv);simp only [Pl.k,Pl.n,Pl.x,Pl.xs,Pl.gs,Pl.ks,NO,NS] at f1 f2;rw [e3] at h3 ⊢;rw [f1,f2];simp only [aT] at h3 ⊢;rcases k23 with rfl | rfl
   ·rw [if_pos rfl] at h3 ⊢;rw [if_pos rfl,if_pos rfl];have g1:=B7 h3 o1.wW;have g2:=B7 h3 o2.wW;refine ⟨g1,g2,fun q=>?_,fun q=>?_,fun q=>?_⟩
    ·rw [jT g1]; have:=L.nn q; split <;> omega
    ·rw [jT g2]; have:=L.KV q; split <;> omega
    ·rw [jT g1,jT g2,jT h3,L.sum q]; split <;> simp
   ·rw [if_neg (by decide),if_pos rfl] at h3 ⊢;rw [if_neg (by decide),if_pos rfl,if_neg (by decide),if_pos rfl];have G:=(wL h3).2.2;have n1:∀ q,0≤wt (jC xs (aB ts d1 r).2) q:=fun q=>by rw [iS]; exact kD (nV xs q) (fun _=>sE _) L.nn
    have n2:∀ q,0≤wt (jC xs (aB ts d2 r).2) q:=fun q=>by rw [iS]; exact kD (nV xs q) (fun _=>sE _) L.KV
    have sm:∀ q,wt (jC xs (aB ts d3 r).2) q=wt (jC xs (aB ts d1 r).2) q+wt (jC xs (aB ts d2 r).2) q:=fun q=>by rw [iS,iS,iS]; exact rm L.sum (nV xs q)
    have g1:=Ho h3 o1.wW (cN G fun q=>⟨n1 q,by have:=sm q; have:=n2 q; omega⟩);have g2:=Ho h3 o2.wW (cN G fun q=>⟨n2 q,by have:=sm q; have:=n1 q; omega⟩);refine ⟨g1,g2,fun q=>?_,fun q=>?_,fun q=>?_⟩
    ·rw [mB g1,← iS]; exact n1 q
    ·rw [mB g2,← iS]; exact n2 q
    ·rw [mB g1,mB g2,mB h3,← iS,← iS,← iS]; exact sm q
  | [l,r],hln =>
   obtain ⟨m1,hm1⟩:=hlk l (by simp);obtain ⟨m2,hm2⟩:=hlk r (by simp);obtain ⟨a3,b3,e3⟩:=xH h3;have k1:¬ kd=1:=by
    intro c;rw [c] at hln;cases hln
   have k23:¬ (kd=2∨kd=3):=by
    intro c;simp only [N4,OV] at hln;unfold cJ at hln;rw [if_neg k1,if_neg (by omega)] at hln;omega
   rw [if_neg k1,if_neg k23] at hp;have own:∀ (data:List (List Zp)),(aB ts data l).1=0→(aB ts data r).1=0→aB ts data (.mk kd n x xs gs [l,r])=aT data kd n x xs gs [ah ts l,ah ts r] [(aB ts data l).2,(aB ts data r).2]:=fun data h h'=>by
    have:=fV (ts:=ts) (data:=data) (p:=.mk kd n x xs gs [l,r]) (fun u hu=>by
     simp [Pl.ks] at hu;rcases hu with rfl | rfl
     ·exact h
     ·exact h')
    simpa [Pl.k,Pl.n,Pl.x,Pl.xs,Pl.gs,Pl.ks] using this
   have nnl:∀ q,0≤wt (aB ts d3 l).2 q:=G2 A3 l (hss l (by simp)) m1 (d+1) hm1 a3
   have nnr:∀ q,0≤wt (aB ts d3 r).2 q:=G2 A3 r (hss r (by simp)) m2 (d+1) hm2 b3
   have rs:jR k [r]=jS k r:=by rw [jR,jR]; cases jS k r <;> rfl
   rw [e3] at h3 ⊢;by_cases k4:kd=4
   ·rw [if_pos k4,LF,Bool.or_eq_true,NQ,NQ,Dx,rs] at hp;subst k4;simp only [aT,if_true] at h3 ⊢;have G:=(iW h3).2;rcases hp with ⟨hl1,hr1⟩ | ⟨hl1,hr1⟩
    ·have L:=ih l (by simp) hl1 (hss l (by simp)) m1 (d+1) hm1 a3;obtain ⟨er1,er2⟩:=nt r ⟨m2,d+1,hm2⟩ (by simpa using hr1);have o1:=gp D1 l m1 (d+1) hm1 L.ok;have o2:=gp D2 l m1 (d+1) hm1 L.Jv;rw [own d1 L.ok (by rw [er1]; exact b3),own d2 L.Jv (by rw [er2]; exact b3),er1,er2];simp only [aT,if_true];have hb:=(iW h3).1.right;have n1:=fun q=>(join_mono (x:=x) L.nn (fun _=>Oo _) nnr (fun _=>Oo _) q).1
     have n2:=fun q=>(join_mono (x:=x) L.KV (fun _=>Oo _) nnr (fun _=>Oo _) q).1
     have sm:=fun q=>Dz (x:=x) (b:=(aB ts d3 r).2) L.sum q
     have g1:=mH h3 o1.wW hb (cN G fun q=>⟨n1 q,by have:=sm q; have:=n2 q; show wt (bH x _ _) q≤wt (bH x _ _) q; omega⟩);have g2:=mH h3 o2.wW hb (cN G fun q=>⟨n2 q,by have:=sm q; have:=n1 q; show wt (bH x _ _) q≤wt (bH x _ _) q; omega⟩);exact ⟨g1,g2,fun q=>by rw [cq g1]; exact n1 q,fun q=>by rw [cq g2]; exact n2 q,fun q=>by rw [cq g1,cq g2,cq h3]; exact sm q⟩
    ·have L:=ih r (by simp) hr1 (hss r (by simp)) m2 (d+1) hm2 b3;obtain ⟨er1,er2⟩:=nt l ⟨m1,d+1,hm1⟩ (by simpa using hl1);have o1:=gp D1 r m2 (d+1) hm2 L.ok;have o2:=gp D2 r m2 (d+1) hm2 L.Jv;rw [own d1 (by rw [er1]; exact a3) L.ok,own d2 (by rw [er2]; exact a3) L.Jv,er1,er2];simp only [aT,if_true];have hb:=(iW h3).1.left;have n1:=fun q=>(join_mono (x:=x) nnl (fun _=>Oo _) L.nn (fun _=>Oo _) q).1
     have n2:=fun q=>(join_mono (x:=x) nnl (fun _=>Oo _) L.KV (fun _=>Oo _) q).1
     have sm:=fun q=>Fg (x:=x) (a:=(aB ts d3 l).2) L.sum q
     have g1:=mH h3 hb o1.wW (cN G fun q=>⟨n1 q,by have:=sm q; have:=n2 q; show wt (bH x _ _) q≤wt (bH x _ _) q; omega⟩);have g2:=mH h3 hb o2.wW (cN G fun q=>⟨n2 q,by have:=sm q; have:=n1 q; show wt (bH x _ _) q≤wt (bH x _ _) q; omega⟩);exact ⟨g1,g2,fun q=>by rw [cq g1]; exact n1 q,fun q=>by rw [cq g2]; exact n2 q,fun q=>by rw [cq g1,cq g2,cq h3]; exact sm q⟩
   ·rw [if_neg k4] at hp;by_cases k5:kd=5
    ·rw [if_pos k5,KL,NQ,rs] at hp;subst k5;simp only [aT,show ¬ (5:Int)=4 by decide,if_false,if_true] at h3 ⊢;have G:=(iW h3).2;have L:=ih l (by simp) hp.1 (hss l (by simp)) m1 (d+1) hm1 a3;obtain ⟨er1,er2⟩:=nt r ⟨m2,d+1,hm2⟩ (by simpa using hp.2);have o1:=gp D1 l m1 (d+1) hm1 L.ok;have o2:=gp D2 l m1 (d+1) hm1 L.Jv;rw [own d1 L.ok (by rw [er1]; exact b3),own d2 L.Jv (by rw [er2]; exact b3),er1,er2];simp only [aT,show ¬ (5:Int)=4 by decide,if_false,if_true];have hb:=(iW h3).1.right
     have n1:∀ q,0≤wt (jk x (aB ts d1 l).2 (aB ts d3 r).2) q:=fun q=>by rw [mj]; have:=L.nn q; split <;> omega
     have n2:∀ q,0≤wt (jk x (aB ts d2 l).2 (aB ts d3 r).2) q:=fun q=>by rw [mj]; have:=L.KV q; split <;> omega
     have sm:∀ q,wt (jk x (aB ts d3 l).2 (aB ts d3 r).2) q=wt (jk x (aB ts d1 l).2 (aB ts d3 r).2) q+wt (jk x (aB ts d2 l).2 (aB ts d3 r).2) q:=fun q=>by rw [mj,mj,mj,L.sum q]; split <;> simp
     have g1:=mH h3 o1.wW hb (cN G fun q=>⟨n1 q,by have:=sm q; have:=n2 q; show wt (jk x _ _) q≤wt (jk x _ _) q; omega⟩);have g2:=mH h3 o2.wW hb (cN G fun q=>⟨n2 q,by have:=sm q; have:=n1 q; show wt (jk x _ _) q≤wt (jk x _ _) q; omega⟩);exact ⟨g1,g2,fun q=>by rw [cq g1]; exact n1 q,fun q=>by rw [cq g2]; exact n2 q,fun q=>by rw [cq g1,cq g2,cq h3]; exact sm q⟩
    ·rw [if_neg k5] at hp;cases hp
  | _ :: _ :: _ :: _,hln =>
   have:=gh kd;simp only [N4] at hln;omega
theorem DU {x m m':List Zp} (h:bh 1 x m=0) (hm:aF m'=0) (hx:∀ q,0≤wt x q) (A:∀ q,0≤wt m' q∧wt m' q≤wt m q):bh 1 x m'=0:=by
 obtain ⟨h1,h2,h3,_⟩:=pP h;unfold bh;rw [if_pos h1,if_pos hm];refine cN h3 fun q=>?_
 rw [dG,dG,rP hm,rP h2];have:=hx q;have:=A q;omega
section
variable {ts:List (List Int)} {p p':Pl} {data:List (List Zp)}
theorem vl (hd:bG ts data=0) {x y:List Zp} (hx:bG (bN ts p) (data ++ [x])=0) (ox:One x) (oy:One y) (h:∀ q,wt y q≤wt x q):bG (bN ts p) (data ++ [y])=0:=by
 have hl:=(j8 hd).1;obtain ⟨h1,h2⟩:=j8 hx;refine GY (by simpa [bN] using hl) fun i hi hi'=>?_
 by_cases e:i<data.length
 ·have:=h2 i hi (by simp; omega);rw [Ny e] at this ⊢;exact this
 ·have hi2:i=data.length:=by simp at hi'; omega
  subst hi2;have:=h2 data.length hi (by simp);simp only [Ob (Nj data.length),Nat.sub_self,Oa] at this ⊢;rw [dK] at this ⊢;exact ⟨this.iu,oy.right,fun r hr=>this.fit r (oy.sub ox h r hr)⟩
theorem vp (data:List (List Zp)) (x y:List Zp):Ca (fun i=>i≠data.length) (data ++ [x]) (data ++ [y]):=fun i hi=>by
 rw [oB,oB,if_neg (c:=i=data.length) hi,if_neg (c:=i=data.length) hi]
theorem lU (data:List (List Zp)) (x:List Zp):(data ++ [x]).getD data.length []=x:=by rw [oB,if_neg (by omega),if_pos rfl]
theorem Ii (hd:bG ts data=0) (ht:ij data=true) (hp:lE (data.length:Int) p'=true) (hs:gO p'=true) {x0 y x:List Zp} (o0:One x0) (oy:One y) (ox:One x) (S:∀ q,wt x q=wt x0 q+wt y q) (hx:hM (bN ts p) (data ++ [x]) p'=0) :
  hM (bN ts p) (data ++ [y]) p'=0∧EI (aB (bN ts p) (data ++ [x0]) p') (aB (bN ts p) (data ++ [y]) p') (aB (bN ts p) (data ++ [x]) p'):=by
 obtain ⟨l1,l2,l3,_⟩:=rU hx;have d0:=vl hd l2 ox o0 fun q=>by have:=S q; have:=oy.kN q; omega
 have dy:=vl hd l2 ox oy fun q=>by have:=S q; have:=o0.kN q; omega
 have L:=JZ (k:=data.length) d0 dy (vp data x0 x) (vp data y x) (fun i q=>by
  rw [oB]
  split
  ·exact JS ht i q
  ·split
   ·exact ox.kN q
   ·exact Oo _) (fun q=>by rw [lU]; exact o0.kN q) (fun q=>by rw [lU]; exact oy.kN q) (fun q=>by rw [lU,lU,lU]; exact S q) p' hp hs 0 1 (cD l1).2 l3
 refine ⟨?_,L⟩;rw [(qT l1 dy).1];exact L.Jv
def MW (ts:List (List Int)) (p p':Pl) (data:List (List Zp)) (x y:List Zp):Prop:=y=x∨∃ x0,One x0∧One y∧(∀ q,wt x q=wt x0 q+wt y q)∧hM (bN ts p) (data ++ [x0]) p'=0∧∀ q,wt (dE (bN ts p) (data ++ [x0]) p') q≤wt x q
theorem Bk (hd:bG ts data=0) (ht:ij data=true) (hp:lE (data.length:Int) p'=true) (hs:gO p'=true) {x y:List Zp} (ox:One x) (hc:MW ts p p' data x y) (h1:hM (bN ts p) (data ++ [x]) p'=0) (h2:bh 1 x (dE (bN ts p) (data ++ [x]) p')=0) :
  hM (bN ts p) (data ++ [y]) p'=0∧bh 1 x (dE (bN ts p) (data ++ [y]) p')=0∧fk x (dE (bN ts p) (data ++ [y]) p')=fk x (dE (bN ts p) (data ++ [x]) p'):=by
 rcases hc with rfl | ⟨x0,o0,oy,S,e0,hD⟩
 ·exact ⟨h1,h2,rfl⟩
 obtain ⟨ey,L⟩:=Ii hd ht hp hs o0 oy ox S h1;have zx:=(rU h1).2.2.2;have zy:=(rU ey).2.2.2;have z0:=(rU e0).2.2.2;have dx:=Af h1;have dy:=Af ey;have d0:=Af e0;have b:bh 1 x (dE (bN ts p) (data ++ [y]) p')=0:=DU h2 (jv ey).right ox.kN fun q=>⟨(jv ey).kN q,by
  rw [dx,dy,zx,zy];exact (vt (L.Ng q)).2⟩
 refine ⟨ey,b,kz _ _ (oe b).set (oe h2).set fun q=>?_⟩;rw [rN b,rN h2];have a1:=ox.qP q;have a2:=(jv ey).qP q;have a3:=(jv h1).qP q;have a4:=hD q;have a5:=L.sum q;have a6:=L.nn q;have a7:=L.KV q;rw [d0,z0] at a4;rw [dy,zy] at a2 ⊢;rw [dx,zx] at a3 ⊢;unfold fg at *
 split at a4 <;> (repeat' split) <;> omega
theorem Cl (hd:bG ts data=0) (ht:ij data=true) (hp:lE (data.length:Int) p'=true) (hs:gO p'=true):∀ (n:Nat) (r:Int) (x y z:List Zp),One x→MW ts p p' data x y→(nG (fun x _=>hM (bN ts p) (data ++ [x]) p') (fun x _=>dE (bN ts p) (data ++ [x]) p') n r x z).2.2=0 →
  nG (fun _ y=>hM (bN ts p) (data ++ [y]) p') (fun _ y=>dE (bN ts p) (data ++ [y]) p') n r x y=nG (fun x _=>hM (bN ts p) (data ++ [x]) p') (fun x _=>dE (bN ts p) (data ++ [x]) p') n r x z
 | 0,_,_,_,_,_,_,_=>rfl
 | n+1,r,x,y,z,ox,hc,h=>by
  rw [nG] at h
  by_cases h1:hM (bN ts p) (data ++ [x]) p'=0
  rotate_left
  ·rw [if_pos h1] at h
   exact absurd h h1
  rw [if_neg (by simpa using h1)] at h
  by_cases h2:bh 1 x (dE (bN ts p) (data ++ [x]) p')=0
  rotate_left
  ·rw [if_pos h2] at h
   exact absurd h h2
  rw [if_neg (by simpa using h2)] at h
  obtain ⟨q1,q2,q3⟩:=Bk hd ht hp hs ox hc h1 h2
  rw [nG,nG]
  simp only [h1,h2,q1,q2,q3,ne_eq,not_true_eq_false,if_false]
  by_cases h3:(fk x (dE (bN ts p) (data ++ [x]) p')).length=x.length
  ·rw [if_pos h3,if_pos h3]
  rw [if_neg h3] at h
  rw [if_neg h3,if_neg h3]
  by_cases h4:bh (-1) (fk x (dE (bN ts p) (data ++ [x]) p')) x=0
  rotate_left
  ·rw [if_pos h4,if_pos h4]
  rw [if_neg (by simpa using h4)] at h
  rw [if_neg (by simpa using h4),if_neg (by simpa using h4)]
  have ou:=oe h2
  have od:=jv h1
  obtain ⟨_,_,s1,s2,s3⟩:=hZ h4
  have um:=zv ox h2 od.kN
  refine Cl hd ht hp hs n (r+1) _ _ _ ou (.inr ⟨x,ox,⟨s2,s1,fun q=>?_⟩,fun q=>?_,h1,fun q=>?_⟩) h
  ·have a1:=s3 q
   have a2:=um q
   have a3:=ox.qP q
   have a4:=ou.qP q
   omega
  ·have:=s3 q
   omega
  ·have a1:=rN h2 q
   have a2:=od.qP q
   have a3:=ox.qP q
   rw [a1]
   unfold fg
   split <;> omega
theorem Bx (h:(eW ts p p' data).2.2=0) (hp:lE (data.length:Int) p'=true) (hs:gO p'=true) (ht:ij data=true):(nA ts p p' data).2.2=0∧(nA ts p p' data).1=(eW ts p p' data).1:=by
 have h0:=h
 unfold eW at h
 by_cases h1:eA ts p p' data=0
 rotate_left
 ·rw [if_pos h1] at h
  exact absurd h h1
 rw [if_neg (by simpa using h1)] at h
 by_cases h2:hM ts data p=0
 rotate_left
 ·rw [if_pos h2] at h
  exact absurd h h2
 rw [if_neg (by simpa using h2)] at h
 have e:=Cl (pk h1).2.2.2 ht hp hs 50 0 _ _ _ (jv h2) (.inl rfl) h
 have e2:nA ts p p' data=eW ts p p' data:=by
  unfold nA eW
  rw [if_neg (by simpa using h1),if_neg (by simpa using h2)]
  exact e
 rw [e2]
 exact ⟨h0,rfl⟩
end
end Go.Proofs.YtohjlfhmnmcndaaGreat
namespace Go.Proofs.YtohjlfhmnmcndaaGreat
open Go.RowKit Go.Lib Go.Shelf
set_option maxRecDepth 100000
set_option maxHeartbeats 16000000
def kI (k:Int) (p:Pl):Bool:=p.k == 1 && p.n == k
theorem ru (p:Pl) (q:Pw) (k:Int) (w:World):Calls Tryz.prog 59 #[bP p q,.int .i64 k] w fun e w'=>e = .returned (.bool (kI k p))∧Below w.heap.size w w':=by
 have hA:=bT w p q;have EL:=dI w p q;obtain ⟨y0,y1,⟨y2,y3,y4,y5,y6,y7⟩,y8,y9,y10⟩:=EL.el;simp only [Np] at y1 y2 y3 y4 y5 y6 y7 y8 y9 y10;obtain ⟨r,hr⟩:∃ r,kI k p=r:=⟨_,rfl⟩
 rw [hr];have HR:Hid (kI k p=r):=hr;unfold bP;clear EL hr;go_enter Tryz.func59,Tryz.ntmps59;go_upto_region 1 with fail
 generalize w.alloc (bK p q)=wA at *;cases hk:(p.k == 1) with
 | false =>
  have e:r=false:=by rw [← HR.out]; unfold kI; rw [hk]; rfl
  subst e;clear HR;go_wp2
  go_ret;exact ⟨rfl,hA⟩
 | true =>
  cases hn:(p.n == k) with
  | false =>
   have e:r=false:=by rw [← HR.out]; unfold kI; rw [hk,hn]; rfl
   subst e;clear HR;go_wp2
   go_ret;exact ⟨rfl,hA⟩
  | true =>
   have e:r=true:=by rw [← HR.out]; unfold kI; rw [hk,hn]; rfl
   subst e;clear HR;go_wp2
   go_ret;exact ⟨rfl,hA⟩
mutual
def iz (k:Int):Pl→Bool
 | .mk kd n _ _ _ ks=>if kd=2∨kd=3∨kd=5 then po k ks else if kd=4 then AW k ks else kd == 1 && n == k
def po (k:Int):List Pl→Bool
 | []=>false
 | p :: _=>iz k p
def AW (k:Int):List Pl→Bool
 | []=>false
 | p :: r=>iz k p || po k r
end
def Cy (ts:List (List Int)) (k:Int) (p:Pl):Prop:=∀ (q:Pw) (m d:Int) (w:World),(aQ ts p m d).1=0→ja w.heap.size w p q→Calls Tryz.prog 60 #[bP p q,.int .i64 k] w fun e w'=>e = .returned (.bool (iz k p))∧Below w.heap.size w w'
theorem Lc (k:Int) (p:Pl):iz k p=if p.k=2∨p.k=3∨p.k=5 then po k p.ks else if p.k=4 then AW k p.ks else kI k p:=by cases p; rw [iz]; rfl
theorem Jl {k:Int} {l:List Pl} (h:0<l.length):po k l=iz k l[0]:=by
 match l,h with
 | p :: r,_=>rw [po]; rfl
theorem J6 {k:Int} {l:List Pl} (h:1<l.length):AW k l=(iz k l[0] || iz k l[1]):=by
 match l,h with
 | p :: r :: s,_=>rw [AW,po]; rfl
theorem Ha (ts:List (List Int)) (k:Int) (p:Pl) (ih:∀ r ∈ p.ks,Cy ts k r):Cy ts k p:=by
 rintro ⟨xa,xc,sa,sc,ga,gc,ka,kc⟩ m d w hlk hp;have HLk:Hid (∀ r ∈ p.ks,∃ m',(aQ ts r m' (d+1)).1=0):=by
  cases p with
  | mk kd n x xs gs ks=>exact (fS hlk).2.2
 have HKl:Hid (p.ks.length=cJ p.k):=by
  cases p with
  | mk kd n x xs gs ks=>exact (fS hlk).2.1
 clear hlk;have hA:=bT w p ⟨xa,xc,sa,sc,ga,gc,ka,kc⟩;have EL:=dI w p ⟨xa,xc,sa,sc,ga,gc,ka,kc⟩;have IH:Hid (∀ r ∈ p.ks,Cy ts k r):=ih;have HE:Hid (iz k p=if p.k=2∨p.k=3∨p.k=5 then po k p.ks else if p.k=4 then AW k p.ks else kI k p):=Lc k p;generalize hr:iz k p=r at HE ⊢;have PB:=(ja.next hp hA (Nj _)).up hA.size;have hks:ft w.heap.size w ka p.ks:=hp.ks;clear hr ih hp;obtain ⟨y0,y1,⟨y2,y3,y4,y5,y6,y7⟩,y8,y9,y10⟩:=EL.el;simp only [Np] at y1 y2 y3 y4 y5 y6 y7 y8 y9 y10;have ELX:=EL;clear EL;unfold bP;(try dsimp only at y7 y8 y9 y10);(try dsimp only)
 go_enter Tryz.func60,Tryz.ntmps60;go_upto_region 1 with fail
 generalize w.alloc (bK p ⟨xa,xc,sa,sc,ga,gc,ka,kc⟩)=wA at *;by_cases h235:p.k=2∨p.k=3∨p.k=5
 ·have hl:0<p.ks.length:=by
   rw [HKl.out];unfold cJ
   split
   ·omega
   ·split <;> omega
  have e:r=iz k p.ks[0]:=by rw [HE.out,if_pos h235,Jl hl]
  obtain ⟨b,off,q1,rfl,hbl,E1,PB1⟩:=(ft.next hA (Nj _) hks).elem hl;obtain ⟨m',hm'⟩:=HLk.out p.ks[0] (Ns hl);have con:=IH.out p.ks[0] (Ns hl) q1 m' (d+1) wA hm' (PB1.up hA.size);rw [← e] at con;have hlz:(0:Int)<(p.ks.length:Int):=by omega
  obtain ⟨x0,x1,⟨x2,x3,x4,x5,x6,x7⟩,x8,x9,x10⟩:=E1;simp only [Nat.zero_mul,Oz] at x0 x1 x2 x3 x4 x5 x6 x7 x8 x9 x10;have hc:((p.k == 2)=true)∨((p.k == 2)=false∧(p.k == 3)=true)∨((p.k == 2)=false∧(p.k == 3)=false∧(p.k == 5)=true):=by
   simp only [beq_iff_eq,beq_eq_false_iff_ne];omega
  clear h235 HE IH HLk HKl PB1 e hm' ELX PB;unfold bP at con;rcases hc with h2 | ⟨h2,h3⟩ | ⟨h2,h3,h5⟩
  all_goals
   go_wp2_with fail
   refine con.mono ?_;rintro e w5 ⟨rfl,hb5⟩;clear con;go_wp2_with fail
   go_ret;exact ⟨rfl,chain hA hb5⟩
 have n2:(p.k == 2)=false:=by simp; omega
 have n3:(p.k == 3)=false:=by simp; omega
 have n5:(p.k == 5)=false:=by simp; omega
 by_cases h4:p.k=4
 ·have hl:1<p.ks.length:=by
   rw [HKl.out,h4];decide
  have hl0:0<p.ks.length:=by omega
  have e:r=(iz k p.ks[0] || iz k p.ks[1]):=by rw [HE.out,if_neg h235,if_pos h4,J6 hl]
  obtain ⟨b,off,q1,rfl,hbl,E1,PB1⟩:=(ft.next hA (Nj _) hks).elem hl0;obtain ⟨m',hm'⟩:=HLk.out p.ks[0] (Ns hl0);have con:=IH.out p.ks[0] (Ns hl0) q1 m' (d+1) wA hm' (PB1.up hA.size);have n4:(p.k == 4)=true:=by simpa using h4
  have hlz:(0:Int)<(p.ks.length:Int):=by omega
  have hlz1:(1:Int)<(p.ks.length:Int):=by omega
  obtain ⟨x0,x1,⟨x2,x3,x4,x5,x6,x7⟩,x8,x9,x10⟩:=E1;simp only [Nat.zero_mul,Oz] at x0 x1 x2 x3 x4 x5 x6 x7 x8 x9 x10;have HER:Hid (r=(iz k p.ks[0] || iz k p.ks[1])):=e;clear h4 h235 HE HKl PB1 e hm' PB y0 y1 y2 y3 y4 y5 y6 y7 y8 y9 y10;generalize iz k p.ks[0]=b0 at *;unfold bP at con;obtain ⟨y0,y1,_,_,_,y10⟩:=ELX.el;simp only [Np] at y0 y1 y10;go_wp2_with fail
  refine con.mono ?_;rintro e w5 ⟨rfl,hb5⟩;clear con x0 x1 x2 x3 x4 x5 x6 x7 x8 x9 x10 y0 y1 y10;have hA5:=chain hA hb5;cases b0 with
  | true =>
   have e:r=true:=by rw [HER.out]; rfl
   subst e;go_wp2_with fail
   go_ret;exact ⟨rfl,hA5⟩
  | false =>
   have e:r=iz k p.ks[1]:=by rw [HER.out]; rfl
   obtain ⟨b',off',q2,e',hbl',E2,PB2⟩:=(ft.next hA5 (Nj _) hks).elem hl;injection e' with e'
   injection e' with e1 e2
   subst e1 e2;obtain ⟨m',hm'⟩:=HLk.out p.ks[1] (Ns hl);have con:=IH.out p.ks[1] (Ns hl) q2 m' (d+1) w5 hm' (PB2.up hA5.size);rw [← e] at con;obtain ⟨x0,x1,⟨x2,x3,x4,x5,x6,x7⟩,x8,x9,x10⟩:=E2;simp only [Nat.one_mul] at x0 x1 x2 x3 x4 x5 x6 x7 x8 x9 x10;have ELX5:=ELX.next hb5;obtain ⟨y0,y1,_,_,_,y10⟩:=ELX5.el;simp only [Np] at y0 y1 y10;clear HER IH HLk PB2 e hm' ELX ELX5;unfold bP at con;go_wp2_with fail
   refine con.mono ?_;rintro e w6 ⟨rfl,hb6⟩;clear con;go_wp2_with fail
   go_ret;exact ⟨rfl,chain hA5 hb6⟩
 have n4:(p.k == 4)=false:=by simpa using h4
 have e:r=kI k p:=by rw [HE.out,if_neg h235,if_neg h4]
 have con:=ru p ⟨xa,xc,sa,sc,ga,gc,ka,kc⟩ k wA;rw [← e] at con;clear h4 h235 HE IH HLk HKl e PB ELX;unfold bP at con;(try dsimp only at con);go_wp2_with fail
 refine con.mono ?_;rintro e w5 ⟨rfl,hb5⟩;clear con;go_wp2_with fail
 go_ret;exact ⟨rfl,chain hA hb5⟩
theorem Ey (ts:List (List Int)) (k:Int):∀ p,Cy ts k p:=Pl.ind fun kd n x xs gs ks ih=>Ha ts k (.mk kd n x xs gs ks) ih
inductive iU:Pl→Prop
 | mk (k n:Int) (x:Ex) (xs:List Ex) (gs:List Ag) (ks:List Pl) (hl:ks.length≤100000000000000) (hk:∀ p ∈ ks,iU p):iU (.mk k n x xs gs ks)
theorem iU.len {p:Pl} (h:iU p):p.ks.length≤100000000000000:=by cases h with | mk _ _ _ _ _ _ hl _=>exact hl
theorem iU.ks {p:Pl} (h:iU p):∀ q ∈ p.ks,iU q:=by cases h with | mk _ _ _ _ _ _ _ hk=>exact hk
theorem B4 {ts:List (List Int)}:∀ (p:Pl) (m d:Int),(aQ ts p m d).1=0→iU p :=
 Pl.ind fun k n x xs gs ks ih m d h=>by
  obtain ⟨_,h2,h3⟩:=fS h
  refine .mk _ _ _ _ _ _ (by rw [h2]; have:=gh k; omega) fun p hp=>?_
  obtain ⟨m',hm⟩:=h3 p hp
  exact ih p hp m' (d+1) hm
structure sO (b1 b2:Nat) (w W:World):Prop where
 os:W.os=w.os
 tape:W.tape=w.tape
 output:W.output=w.output
 size:w.heap.size≤W.heap.size
 bm:∀ k,k<w.heap.size→k≠b1→k≠b2→W.heap[k]? = w.heap[k]?
theorem sO.refl (b1 b2:Nat) (w:World):sO b1 b2 w w:=⟨rfl,rfl,rfl,Nj _,fun _ _ _ _=>rfl⟩
theorem sO.of {b1 b2:Nat} {w W:World} (h:Below w.heap.size w W):sO b1 b2 w W:=⟨h.os,h.tape,h.output,h.size,fun k hk _ _=>h.block k hk⟩
theorem sO.trans {b1 b2:Nat} {a b c:World} (h:sO b1 b2 a b) (k:sO b1 b2 b c):sO b1 b2 a c :=
 ⟨k.os.trans h.os,k.tape.trans h.tape,k.output.trans h.output,Nw h.size k.size,fun i hi h1 h2=>(k.bm i (Nn hi h.size) h1 h2).trans (h.bm i hi h1 h2)⟩
theorem sO.below {b1 b2 lo:Nat} {w W:World} (h:sO b1 b2 w W) (h1:lo≤b1) (h2:lo≤b2) (hl:lo≤w.heap.size):Below lo w W:=⟨h.os,h.tape,h.output,h.size,fun k hk=>h.bm k (by omega) (by omega) (by omega)⟩
theorem sO.el {b1 b2 b:Nat} {w W:World} {p:Pl} {q:Pw} (h:sO b1 b2 w W) (E:oZ w b p q) (h1:b≠b1) (h2:b≠b2):oZ W b p q:=by
 have hc:∀ o,W.cell? ⟨b,o,none⟩=w.cell? ⟨b,o,none⟩:=fun o=>NA (w:=w) (a:=⟨b,o,none⟩) (h.bm b E.lt h1 h2)
 obtain ⟨y0,y1,⟨y2,y3,y4,y5,y6,y7⟩,y8,y9,y10⟩:=E.el;exact ⟨⟨(hc _).trans y0,(hc _).trans y1,⟨(hc _).trans y2,(hc _).trans y3,(hc _).trans y4,(hc _).trans y5,(hc _).trans y6,(hc _).trans y7⟩,(hc _).trans y8,(hc _).trans y9,(hc _).trans y10⟩,Nn E.lt h.size⟩
theorem sO.set {b1 b2 b:Nat} {w W:World} (h:sO b1 b2 w W) (hb:b=b1∨b=b2) (u:Value):sO b1 b2 w (W.setCell ⟨b,0,none⟩ u) :=
 have X:=(au.refl b W).set 0 u
 h.trans ⟨X.1.os,X.1.tape,X.1.output,X.1.size,fun k hk h1 h2=>X.2 k hk (by rcases hb with rfl | rfl <;> assumption)⟩
structure Fh (b3 b5 b6:Nat) (k:Int) (i j:Nat) (W:World):Prop where
 q3:W.heap[b3]? = some (.cells #[.int .i64 k] 3 (0,0))
 q5:W.heap[b5]? = some (.cells #[.int .i64 i] 3 (0,0))
 q6:W.heap[b6]? = some (.cells #[.int .i64 j] 3 (0,0))
theorem Fh.next {b3 b5 b6:Nat} {k:Int} {i j:Nat} {W W':World} (h:Fh b3 b5 b6 k i j W) (hb:Below W.heap.size W W'):Fh b3 b5 b6 k i j W':=⟨(hb.block _ (ae h.q3)).trans h.q3,(hb.block _ (ae h.q5)).trans h.q5,(hb.block _ (ae h.q6)).trans h.q6⟩
def fN (b:Bool):Nat:=if b then 1 else 0
theorem Dt (b3 b5 b6:Nat) (n35:b3≠b5) (n36:b3≠b6) (n56:b5≠b6) (k:Int) (p:Pl) (q:Pw) (i j:Nat) (w:World) (hc:Fh b3 b5 b6 k i j w) (hi:i≤1000000) (hj:j≤1000000) :
  Calls Tryz.prog 58 #[bP p q,.pointer (some ⟨b3,0,none⟩),.pointer (some ⟨b5,0,none⟩),.pointer (some ⟨b6,0,none⟩)] w fun e w'=>e = .returned (.tuple #[])∧Fh b3 b5 b6 k (i+fN (kI k p)) (j+fN (p.k == 9)) w'∧sO b5 b6 w w':=by
 have hA:=bT w p q;have EL:=dI w p q;have CN:=hc.next hA;obtain ⟨y0,y1,⟨y2,y3,y4,y5,y6,y7⟩,y8,y9,y10⟩:=EL.el;simp only [Np] at y1 y2 y3 y4 y5 y6 y7 y8 y9 y10;have HT9:Hid ((p.k == 9)=true→kI k p=false):=fun h=>by
  have:p.k=9:=by simpa using h
  unfold kI;rw [this];rfl
 clear hc;generalize htb:kI k p=tb;have HTB:Hid (kI k p=tb):=htb;rw [htb] at HT9;clear htb;obtain ⟨b9,h9⟩:∃ b9,(p.k == 9)=b9:=⟨_,rfl⟩
 rw [h9] at HT9 ⊢;unfold bP;go_enter Tryz.func58,Tryz.ntmps58;go_upto_region 1 with fail
 generalize w.alloc (bK p q)=wA at *;have con:=ru p q k wA;rw [HTB.out] at con;have c3:=cell_of (i:=0) CN.q3 rfl;unfold bP at con;go_wp2_with fail
 refine con.mono ?_;rintro e w1 ⟨rfl,hb⟩;clear con c3 y0 y1 y2 y3 y4 y5 y6 y7 y8 y9 y10;replace CN:=CN.next hb;replace EL:=EL.next hb;have X1:sO b5 b6 w w1:=sO.of (chain hA hb);have c5:=cell_of (i:=0) CN.q5 rfl;have c6:=cell_of (i:=0) CN.q6 rfl;have f5:=No w1 b5 0 _ _ CN.q5;have f6:=No w1 b6 0 _ _ CN.q6;cases tb with
 | true =>
  have e9:b9=false:=by
   cases h:b9 with
   | false=>rfl
   | true=>exact absurd (HT9.out h) (by decide)
  subst e9;have N5:=heap_setCell_same w1 b5 0 #[.int .i64 i] 3 (.int .i64 (i+1:Int)) CN.q5;have N3:=(NR w1 ⟨b5,0,none⟩ (.int .i64 (i+1:Int)) b3 n35).trans CN.q3;have N6:=(NR w1 ⟨b5,0,none⟩ (.int .i64 (i+1:Int)) b6 (Ne.symm n56)).trans CN.q6;have XX:=X1.set (.inl rfl) (.int .i64 (i+1:Int));have C2:Fh b3 b5 b6 k (i+fN true) (j+fN false) (w1.setCell ⟨b5,0,none⟩ (.int .i64 (i+1:Int))):=⟨N3,N5,N6⟩
  clear N5 N3 N6 HT9 HTB EL CN X1 h9;go_wp2_with fail
  exact bodyPost_end (v:=.tuple #[]) (by simp [results,Tryz.results58,go_sem]) rfl ⟨rfl,C2,XX⟩
 | false =>
  obtain ⟨y0,_,_,_,_,_⟩:=EL.el;cases b9 with
  | true =>
   have N6:=heap_setCell_same w1 b6 0 #[.int .i64 j] 3 (.int .i64 (j+1:Int)) CN.q6;have N3:=(NR w1 ⟨b6,0,none⟩ (.int .i64 (j+1:Int)) b3 n36).trans CN.q3;have N5:=(NR w1 ⟨b6,0,none⟩ (.int .i64 (j+1:Int)) b5 n56).trans CN.q5;have XX:=X1.set (.inr rfl) (.int .i64 (j+1:Int));have C2:Fh b3 b5 b6 k (i+fN false) (j+fN true) (w1.setCell ⟨b6,0,none⟩ (.int .i64 (j+1:Int))):=⟨N3,N5,N6⟩
   clear N5 N3 N6 HT9 HTB EL CN X1;go_wp2_with fail
   exact bodyPost_end (v:=.tuple #[]) (by simp [results,Tryz.results58,go_sem]) rfl ⟨rfl,C2,XX⟩
  | false =>
   have C2:Fh b3 b5 b6 k (i+fN false) (j+fN false) w1:=CN;clear HT9 HTB EL CN;go_wp2_with fail
   exact bodyPost_end (v:=.tuple #[]) (by simp [results,Tryz.results58,go_sem]) rfl ⟨rfl,C2,X1⟩
mutual
def nT (k:Int):Pl→Nat
 | .mk kd n _ _ _ ks=>fN (kd == 1 && n == k)+ji k ks
def ji (k:Int):List Pl→Nat
 | []=>0
 | p :: r=>nT k p+ji k r
end
mutual
def xu:Pl→Nat
 | .mk kd _ _ _ _ ks=>fN (kd == 9)+ki ks
def ki:List Pl→Nat
 | []=>0
 | p :: r=>xu p+ki r
end
theorem KK (k:Int) (p:Pl):nT k p=fN (kI k p)+ji k p.ks:=by cases p; rw [nT]; rfl
theorem LR (p:Pl):xu p=fN (p.k == 9)+ki p.ks:=by cases p; rw [xu]; rfl
theorem ve (k:Int):∀ {l:List Pl} {j:Nat} (h:j<l.length),ji k (l.take (j+1))=ji k (l.take j)+nT k l[j]∧ji k (l.take (j+1))≤ji k l
 | p :: r,0,_=>by simp [ji]
 | p :: r,j+1,h=>by
  have:=ve k (l:=r) (j:=j) (by simpa using h)
  simp only [OX,ji,Ot]
  omega
theorem vz:∀ {l:List Pl} {j:Nat} (h:j<l.length),ki (l.take (j+1))=ki (l.take j)+xu l[j]∧ki (l.take (j+1))≤ki l
 | p :: r,0,_=>by simp [ki]
 | p :: r,j+1,h=>by
  have:=vz (l:=r) (j:=j) (by simpa using h)
  simp only [OX,ki,Ot]
  omega
def CB (b3 b5 b6 lo:Nat) (k:Int) (p:Pl):Prop:=∀ (q:Pw) (i j:Nat) (w:World),iU p→ja lo w p q→lo≤w.heap.size→Fh b3 b5 b6 k i j w→i+nT k p≤1000000→j+xu p≤1000000→Calls Tryz.prog 57 #[bP p q,.func (.func 58) #[] #[.pointer (some ⟨b3,0,none⟩),.pointer (some ⟨b5,0,none⟩),.pointer (some ⟨b6,0,none⟩)]] w fun e w'=>e = .returned (.tuple #[])∧Fh b3 b5 b6 k (i+nT k p) (j+xu p) w'∧sO b5 b6 w w'
theorem Gi (b3 b5 b6 lo:Nat) (n35:b3≠b5) (n36:b3≠b6) (n56:b5≠b6) (h5:lo≤b5) (h6:lo≤b6) (k:Int) (p:Pl) (ih:∀ r ∈ p.ks,CB b3 b5 b6 lo k r):CB b3 b5 b6 lo k p:=by
 rintro ⟨xa,xc,sa,sc,ga,gc,ka,kc⟩ i j w hlk hp hlo hc hi hj;have HLk:Hid (∀ r ∈ p.ks,iU r):=hlk.ks;have hl2:=hlk.len;clear hlk;have hA:=bT w p ⟨xa,xc,sa,sc,ga,gc,ka,kc⟩;have EL:=dI w p ⟨xa,xc,sa,sc,ga,gc,ka,kc⟩;have IH:Hid (∀ r ∈ p.ks,CB b3 b5 b6 lo k r):=ih;have CN:=hc.next hA;have l3:=ae hc.q3;have l5:=ae hc.q5;have l6:=ae hc.q6;have HT:Hid (nT k p=fN (kI k p)+ji k p.ks):=KK k p;have HS:Hid (xu p=fN (p.k == 9)+ki p.ks):=LR p;have hks:ft lo w ka p.ks:=hp.ks;rw [HT.out] at hi;rw [HS.out] at hj;generalize hr1:i+nT k p=r1
 generalize hr2:j+xu p=r2;have HR1:Hid (r1=i+fN (kI k p)+ji k p.ks):=by show _=_; rw [← hr1,HT.out]; omega
 have HR2:Hid (r2=j+fN (p.k == 9)+ki p.ks):=by show _=_; rw [← hr2,HS.out]; omega
 clear hr1 hr2 ih hp hc HT HS;obtain ⟨y0,y1,⟨y2,y3,y4,y5,y6,y7⟩,y8,y9,y10⟩:=EL.el;simp only [Np] at y1 y2 y3 y4 y5 y6 y7 y8 y9 y10;unfold bP;(try dsimp only at y7 y8 y9 y10);(try dsimp only);go_enter Tryz.func57,Tryz.ntmps57;go_upto_region 1 with fail
 generalize w.alloc (bK p ⟨xa,xc,sa,sc,ga,gc,ka,kc⟩)=wA at *;have con:=Dt b3 b5 b6 n35 n36 n56 k p ⟨xa,xc,sa,sc,ga,gc,ka,kc⟩ i j wA CN (by omega) (by omega);generalize hi1:i+fN (kI k p)=i1 at *;generalize hj1:j+fN (p.k == 9)=j1 at *;unfold bP at con;(try dsimp only at con);go_wp2_with fail
 refine con.mono ?_;rintro e w1 ⟨rfl,C1,X1⟩;clear con y0 y1 y2 y3 y4 y5 y6 y7 y8 y9 y10 CN;have XA:sO b5 b6 w w1:=(sO.of hA).trans X1;have EL1:=X1.el EL (by omega) (by omega);obtain ⟨y0,y1,_,_,_,y10⟩:=EL1.el;simp only [Np] at y0 y1 y10;have HI1:Hid (i+fN (kI k p)=i1):=hi1;have HJ1:Hid (j+fN (p.k == 9)=j1):=hj1;clear hi1 hj1 EL X1;go_upto_region 3 with fail
 clear y0 y1 y10;go_loopw [12] (fun n wr=>∃ x:Nat,x≤p.ks.length∧n = .int .i64 x∧Fh b3 b5 b6 k (i1+ji k (p.ks.take x)) (j1+ki (p.ks.take x)) wr∧sO b5 b6 w wr) (fun n _=>p.ks.length - (intOf n).toNat)
 case atStart=>exact ⟨0,Nr _,rfl,C1,XA⟩
 case round =>
  obtain ⟨x,hx,rfl,CR,XR⟩:=hrel;clear C1 XA EL1;by_cases hlt:x<p.ks.length;rotate_left
  ·have e:x=p.ks.length:=by omega
   have hjn:¬ (x:Int)<(p.ks.length:Int):=by omega
   rw [e,NL,← HR1.out,← HR2.out] at CR;clear e;go_wp2_with fail
   exact bodyPost_end (v:=.tuple #[]) (by simp [results,Tryz.results57,go_sem]) rfl ⟨rfl,CR,XR⟩
  have hbl0:=XR.below h5 h6 hlo;obtain ⟨b,off,q1,rfl,hbl,E1,PB⟩:=(ft.next hbl0 (Nj _) hks).elem hlt;obtain ⟨y0,y1,⟨y2,y3,y4,y5,y6,y7⟩,y8,y9,y10⟩:=E1;have hjz:(x:Int)<(p.ks.length:Int):=by omega
  obtain ⟨t1,t2⟩:=ve k hlt;obtain ⟨t3,t4⟩:=vz hlt;have hal:=bT wr p.ks[x] q1;have EK:=dI wr p.ks[x] q1;have hsz:=XR.size;have con:=IH.out p.ks[x] (Ns hlt) q1 (i1+ji k (p.ks.take x)) (j1+ki (p.ks.take x)) (wr.alloc (bK p.ks[x] q1)) (HLk.out _ (Ns hlt)) (PB.next (hal.mono (by omega)) (Nj _)) (by have:=hal.size; omega) (CR.next hal) (by have:=HI1.out; omega) (by have:=HJ1.out; omega);rw [Nat.add_assoc,← t1,Nat.add_assoc,← t3] at con;unfold bP at con;clear PB t1 t2 t3 t4;go_upto_region 5 with fail
  clear y0 y1 y2 y3 y4 y5 y6 y7 y8 y9 y10;generalize wr.alloc (bK p.ks[x] q1)=wk at *;obtain ⟨y0,y1,⟨y2,y3,y4,y5,y6,y7⟩,y8,y9,y10⟩:=EK.el;simp only [Np] at y1 y2 y3 y4 y5 y6 y7 y8 y9 y10;go_wp2_with fail
  refine con.mono ?_;rintro e w5 ⟨rfl,C5,X5⟩;clear con y0 y1 y2 y3 y4 y5 y6 y7 y8 y9 y10 EK;have X6:=XR.trans ((sO.of hal).trans X5);go_wp2_with fail
  go_roundw
  case rel=>exact ⟨x+1,by omega,by go_num,C5,X6⟩
  case measure=>simp [intOf]; omega
theorem EU (b3 b5 b6 lo:Nat) (n35:b3≠b5) (n36:b3≠b6) (n56:b5≠b6) (h5:lo≤b5) (h6:lo≤b6) (k:Int):∀ p,CB b3 b5 b6 lo k p:=Pl.ind fun kd n x xs gs ks ih=>Gi b3 b5 b6 lo n35 n36 n56 h5 h6 k (.mk kd n x xs gs ks) ih
theorem BP (b:Bool):fN b≤1:=by unfold fN; split <;> omega
theorem FR {ts:List (List Int)} {k:Int}:∀ (ks:List Pl),(∀ p ∈ ks,∀ (m d:Int),(aQ ts p m d).1=0→m+nT k p≤(aQ ts p m d).2∧m+xu p≤(aQ ts p m d).2)→∀ (m d:Int),(aW ts ks m d).1=0→m+ji k ks≤(aW ts ks m d).2∧m+ki ks≤(aW ts ks m d).2
 | [],_,m,d,_=>by simp [aW,ji,ki]
 | p :: r,h,m,d,h1=>by
  obtain ⟨a1,a2,a3⟩:=lJ h1
  have b1:=h p (by simp) m d a1
  have b2:=FR r (fun p hp=>h p (by simp [hp])) _ d a2
  rw [a3,ji,ki]
  omega
theorem KD {ts:List (List Int)} {k:Int}:∀ (p:Pl) (m d:Int),(aQ ts p m d).1=0→m+nT k p≤(aQ ts p m d).2∧m+xu p≤(aQ ts p m d).2 :=
 Pl.ind fun kd n x xs gs ks ih m d h=>by
  obtain ⟨_,a2,_,a4⟩:=fO h
  have b:=FR ks ih (m+1) (d+1) a2
  have c1:=BP (kd == 1 && n == k)
  have c2:=BP (kd == 9)
  rw [a4,nT,xu]
  omega
def lR (k:Int) (p:Pl):Bool:=nT k p == 1 && xu p == 0 && iz k p
theorem Hb (ts:List (List Int)) (k:Int) (p:Pl) (q:Pw) (w:World) (hlk:aX ts p=0) (hp:ja w.heap.size w p q) :
  Calls Tryz.prog 30 #[bP p q,.int .i64 k] w fun e w'=>e = .returned (.bool (lR k p))∧Below w.heap.size w w':=by
 have hl:=(cD hlk).2;have hks:=B4 p 0 1 hl;have n60:=(qS ts p 0 1 hl).2;have cn:=KD (k:=k) p 0 1 hl;have z1:(w.alloc (bK p q)).heap.size=w.heap.size+1:=by simp
 have z2:((w.alloc (bK p q)).alloc (.cells #[.int .i64 k] 3)).heap.size=w.heap.size+2:=by simp
 have z3:(((w.alloc (bK p q)).alloc (.cells #[.int .i64 k] 3)).alloc (.cells #[.int .i64 0] 3)).heap.size=w.heap.size+3:=by simp
 have k1:=bT w p q;have k2:Below (w.alloc (bK p q)).heap.size (w.alloc (bK p q)) ((w.alloc (bK p q)).alloc (.cells #[.int .i64 k] 3)):=(Nk _ _).alloc (Nj _) _;have k3:Below ((w.alloc (bK p q)).alloc (.cells #[.int .i64 k] 3)).heap.size ((w.alloc (bK p q)).alloc (.cells #[.int .i64 k] 3)) (((w.alloc (bK p q)).alloc (.cells #[.int .i64 k] 3)).alloc (.cells #[.int .i64 0] 3)):=(Nk _ _).alloc (Nj _) _
 have k4:Below (((w.alloc (bK p q)).alloc (.cells #[.int .i64 k] 3)).alloc (.cells #[.int .i64 0] 3)).heap.size (((w.alloc (bK p q)).alloc (.cells #[.int .i64 k] 3)).alloc (.cells #[.int .i64 0] 3)) ((((w.alloc (bK p q)).alloc (.cells #[.int .i64 k] 3)).alloc (.cells #[.int .i64 0] 3)).alloc (.cells #[.int .i64 0] 3)):=(Nk _ _).alloc (Nj _) _;have EL:=(dI w p q).next (chain k2 (chain k3 k4));have Q3:=aw (w.alloc (bK p q)) #[.int .i64 k] 3;have Q5:=aw ((w.alloc (bK p q)).alloc (.cells #[.int .i64 k] 3)) #[.int .i64 ((0:Nat):Int)] 3
 have Q6:=aw (((w.alloc (bK p q)).alloc (.cells #[.int .i64 k] 3)).alloc (.cells #[.int .i64 0] 3)) #[.int .i64 ((0:Nat):Int)] 3;replace Q3:=((chain k3 k4).block _ (ae Q3)).trans Q3;replace Q5:=(k4.block _ (ae Q5)).trans Q5;rw [z1] at Q3;rw [z2] at Q5;rw [z3] at Q6;have CN:Fh (w.heap.size+1) (w.heap.size+2) (w.heap.size+3) k 0 0 ((((w.alloc (bK p q)).alloc (.cells #[.int .i64 k] 3)).alloc (.cells #[.int .i64 0] 3)).alloc (.cells #[.int .i64 0] 3)):=⟨Q3,Q5,Q6⟩
 have hA:=chain k1 (chain k2 (chain k3 k4));have PB:=hp.next hA (Nj _);have con:=EU (w.heap.size+1) (w.heap.size+2) (w.heap.size+3) w.heap.size (by omega) (by omega) (by omega) (by omega) (by omega) k p q 0 0 ((((w.alloc (bK p q)).alloc (.cells #[.int .i64 k] 3)).alloc (.cells #[.int .i64 0] 3)).alloc (.cells #[.int .i64 0] 3)) hks PB hA.size CN (by omega) (by omega);have HLE:Hid (aX ts p=0):=hlk;have HPL:Hid (lR k p=(nT k p == 1 && xu p == 0 && iz k p)):=rfl;generalize lR k p=r at *;simp only [Np] at con;generalize nT k p=c1 at *
 generalize xu p=c2 at *;obtain ⟨y0,y1,⟨y2,y3,y4,y5,y6,y7⟩,y8,y9,y10⟩:=EL.el;simp only [Np] at y1 y2 y3 y4 y5 y6 y7 y8 y9 y10;clear z1 z2 z3 k1 k2 k3 k4 Q3 Q5 Q6 CN hl hks hlk PB;unfold bP at con ⊢;go_enter Tryz.func30,Tryz.ntmps30;go_upto_region 2 with fail
 generalize (((w.alloc (bK p q)).alloc (.cells #[.int .i64 k] 3)).alloc (.cells #[.int .i64 0] 3)).alloc (.cells #[.int .i64 0] 3)=wA at *;go_wp2_with fail
 refine con.mono ?_;rintro e w1 ⟨rfl,C1,X1⟩;clear con y0 y1 y2 y3 y4 y5 y6 y7 y8 y9 y10;have hs:=hA.size;have EL1:=X1.el EL (by omega) (by omega);have B1:Below w.heap.size w w1:=hA.trans (X1.below (by omega) (by omega) hs);have PB1:=(hp.next B1 (Nj _)).up B1.size;have d3:=cell_of (i:=0) C1.q3 rfl;have d5:=cell_of (i:=0) C1.q5 rfl;have d6:=cell_of (i:=0) C1.q6 rfl;clear X1 EL hA C1;cases h1:(c1 == 1) with
 | false =>
  have e:r=false:=by rw [HPL.out,h1]; rfl
  have hz:((c1:Int) == 1)=false:=by simp at h1 ⊢; omega
  subst e;clear HPL h1;go_wp2
  go_ret;exact ⟨rfl,B1⟩
 | true =>
  have hz:((c1:Int) == 1)=true:=by simp at h1 ⊢; omega
  cases h2:(c2 == 0) with
  | false =>
   have e:r=false:=by rw [HPL.out,h1,h2]; rfl
   have hz2:((c2:Int) == 0)=false:=by simp at h2 ⊢; omega
   subst e;clear HPL h1 h2;go_wp2
   go_ret;exact ⟨rfl,B1⟩
  | true =>
   have hz2:((c2:Int) == 0)=true:=by simp at h2 ⊢; omega
   have e:r=iz k p:=by rw [HPL.out,h1,h2]; rfl
   have con:=Ey ts k p q 0 1 w1 (cD HLE.out).2 PB1;rw [← e] at con;obtain ⟨y0,y1,⟨y2,y3,y4,y5,y6,y7⟩,y8,y9,y10⟩:=EL1.el;simp only [Np] at y1 y2 y3 y4 y5 y6 y7 y8 y9 y10;unfold bP at con;clear HPL h1 h2 e EL1 PB1;go_wp2_with fail
   refine con.mono ?_;rintro e w2 ⟨rfl,hb⟩;clear con;go_wp2
   go_ret;exact ⟨rfl,chain B1 hb⟩
theorem MN:∀ args w,(callFunc 31 args).run Tryz.prog w = .ok (.enter 31 args) w:=enters_of Tryz.func31 (by kernel_rfl) rfl
theorem Es (g:Nat) (cb:Array Value) (fE:List Zp→Int) (fZ:List Zp→List Zp) (B:Nat) (w:World) (eg:∀ args w,(callFunc g args).run Tryz.prog w = .ok (.enter g args) w) (hm:lQ g cb fE fZ w) (hB:w.cell? ⟨B,0,none⟩=some (.func (.func g) #[] cb)) :
  wz 31 #[.pointer (some ⟨B,0,none⟩)] (fun _ y=>fE y) (fun _ y=>fZ y) w:=by
 intro x y xa xc ya yc W zx nx zy ny hb;have con:=hm y ya yc W zy ny hb;have hc:=(hb.cell (p:=⟨B,0,none⟩) (Nt _ _ hB)).trans hB;clear hm hB zx zy hb nx ny;dsimp only;generalize fE y=ee at *;generalize fZ y=ez at *;show Calls Tryz.prog 31 #[.slice xa x.length xc,.slice ya y.length yc,.pointer (some ⟨B,0,none⟩)] W _;go_enter Tryz.func31,Tryz.ntmps31;go_wp2_with (go_at_fn g; refine con.mono ?_; rintro e w1 ⟨v1,rfl,O1,hb1⟩)
 exact Nl (v:=.tuple #[v1,.int .i64 ee]) (by simp [results,Tryz.results31,go_sem]) rfl ⟨_,rfl,O1,hb1⟩
def lD (ts:List (List Int)) (p p':Pl) (data:List (List Zp)):List Zp × Int:=if eA ts p p' data≠0 then ([],eA ts p p' data) else if lR (ts.length:Int) p'=false then ([],8) else if hM ts data p≠0 then ([],hM ts data p) else ((nA ts p p' data).1,(nA ts p p' data).2.2)
theorem Gy (ts:List (List Int)) (p:Pl) (q:Pw) (p':Pl) (q':Pw) (data:List (List Zp)) (ta:Option Addr) (tc:Nat) (da:Option Addr) (dc:Nat) (w:World) (hT:rB w ta ts) (hp:pM w p q) (hk:cz p) (hp':pM w p' q') (hk':cz p') (hD:gL w da data) :
  Calls Tryz.prog 10 #[.slice ta ts.length tc,bP p q,bP p' q',.slice da data.length dc] w fun e w'=>∃ v,e = .returned (.tuple #[v,.int .i64 (lD ts p p' data).2])∧bZ w.heap.size w' v (lD ts p p' data).1∧Below w.heap.size w w':=by
 have hA:=jM w p q p' q';have EL:=zL w p q p' q';have ER:=yO w p q p' q';have HK:Hid (cz p):=hk;have HK':Hid (cz p'):=hk';have TX:=hT.next hA;have PX:=hp.next hA;have PX':=hp'.next hA;have DX:=hD.next hA;generalize hR:lD ts p p' data=R;have HR:Hid (lD ts p p' data=R):=hR;have con:=yj ts p q p' q' data ta tc da dc _ TX PX hk PX' hk' DX;have HWL:Hid (eA ts p p' data=0→data.length≤8):=wh;generalize hwe:eA ts p p' data=we at con;have HWE:Hid (eA ts p p' data=we):=hwe;clear hk hk' hT hp hp' hD hwe hR;obtain ⟨y0,y1,⟨y2,y3,y4,y5,y6,y7⟩,y8,y9,y10⟩:=EL.el
 obtain ⟨z0,z1,⟨z2,z3,z4,z5,z6,z7⟩,z8,z9,z10⟩:=ER.el;simp only [Np] at y1 y2 y3 y4 y5 y6 y7 y8 y9 y10 z1 z2 z3 z4 z5 z6 z7 z8 z9 z10;unfold bP at con ⊢;go_enter Tryz.func10,Tryz.ntmps10;go_upto_region 1 with fail
 generalize (w.alloc (bK p q)).alloc (bK p' q')=wA at *;by_cases h0:we=0;rotate_left
 ·have e1:R=([],we):=by rw [← HR.out]; unfold lD; rw [HWE.out,if_pos h0]
  subst e1;have hb0:(we != 0)=true:=by simpa using h0
  clear HR HWE HWL;go_wp2_with fail
  refine con.mono ?_;rintro e w1 ⟨⟨_,hre⟩,hb1⟩;obtain rfl:=hre h0;go_wp2_with fail
  exact Nl (v:=.tuple #[.slice none 0 0,.int .i64 we]) (by simp [results,Tryz.results10,go_sem]) rfl ⟨_,rfl,dY _ _,chain hA hb1⟩
 have HW0:Hid (eA ts p p' data=0):=by show _=_; rw [HWE.out,h0]
 have d8:=HWL.out HW0.out;subst h0;clear HWE HWL;generalize hwi:bN ts p=wide at con;have HWI:Hid (bN ts p=wide):=hwi;clear hwi;go_wp2_with fail
 refine con.mono ?_;rintro e w1 ⟨⟨hre,_⟩,hb1⟩;obtain ⟨a1,c1,rfl,T1⟩:=hre rfl;clear con y0 y1 y2 y3 y4 y5 y6 y7 y8 y9 y10 z0 z1 z2 z3 z4 z5 z6 z7 z8 z9 z10;have hA1:=chain hA hb1;replace TX:=TX.next hb1;replace PX:=PX.next hb1;replace PX':=PX'.next hb1;replace DX:=DX.next hb1;replace EL:=EL.next hb1;replace ER:=ER.next hb1;have con:=Hb (bN ts p) (ts.length:Int) p' q' w1 (pk HW0.out).2.1 PX';generalize hpb:lR (ts.length:Int) p'=pb at con;have HPB:Hid (lR (ts.length:Int) p'=pb):=hpb;clear hpb;obtain ⟨z0,z1,⟨z2,z3,z4,z5,z6,z7⟩,z8,z9,z10⟩:=ER.el
 simp only [Np] at z1 z2 z3 z4 z5 z6 z7 z8 z9 z10;unfold bP at con;go_wp2_with fail
 refine con.mono ?_;rintro e w1b ⟨rfl,hb1⟩;clear con z0 z1 z2 z3 z4 z5 z6 z7 z8 z9 z10;replace hA1:=chain hA1 hb1;replace TX:=TX.next hb1;replace PX:=PX.next hb1;replace PX':=PX'.next hb1;replace DX:=DX.next hb1;replace EL:=EL.next hb1;replace ER:=ER.next hb1;replace T1:=rB.next T1 hb1;cases pb with
 | false =>
  have e1:R=([],8):=by rw [← HR.out]; unfold lD; rw [HW0.out,HPB.out,if_neg (by simp),if_pos rfl]
  subst e1;go_wp2_with fail
  exact Nl (v:=.tuple #[.slice none 0 0,.int .i64 8]) (by simp [results,Tryz.results10,go_sem]) rfl ⟨_,rfl,dY _ _,hA1⟩
 | true =>
 have con:=sW ts data p q ta tc da dc w1b TX DX PX HK.out;generalize hee:hM ts data p=ee at con;generalize hdz:dE ts data p=dz at con;have HEE:Hid (hM ts data p=ee):=hee;have HDZ:Hid (dE ts data p=dz):=hdz;clear hee hdz;obtain ⟨y0,y1,⟨y2,y3,y4,y5,y6,y7⟩,y8,y9,y10⟩:=EL.el;simp only [Np] at y1 y2 y3 y4 y5 y6 y7 y8 y9 y10;unfold bP at con;go_wp2_with fail
 refine con.mono ?_;rintro e w2 ⟨v2,rfl,O2,hb2⟩;clear con y0 y1 y2 y3 y4 y5 y6 y7 y8 y9 y10 EL PX;obtain ⟨a2,c2,rfl,Z2,n2⟩:=O2.xK;have hA2:=chain hA1 hb2;by_cases h0:ee=0;rotate_left
 ·have e1:R=([],ee):=by rw [← HR.out]; unfold lD; rw [HW0.out,HPB.out,HEE.out,if_neg (by simp),if_neg (by simp),if_pos h0]
  subst e1;have hb0:(ee != 0)=true:=by simpa using h0
  clear HR HEE HDZ O2 Z2 HW0;go_wp2_with fail
  exact Nl (v:=.tuple #[.slice none 0 0,.int .i64 ee]) (by simp [results,Tryz.results10,go_sem]) rfl ⟨_,rfl,dY _ _,hA2⟩
 have HR1:Hid (R=((nG (fun _ y=>hM wide (data ++ [y]) p') (fun _ y=>dE wide (data ++ [y]) p') 50 0 dz dz).1,(nG (fun _ y=>hM wide (data ++ [y]) p') (fun _ y=>dE wide (data ++ [y]) p') 50 0 dz dz).2.2)):=by
  show _=_;rw [← HR.out]; unfold lD; rw [HW0.out,HPB.out,HEE.out,h0]; unfold nA; rw [HWI.out,HDZ.out];simp only [ne_eq,not_true_eq_false,if_false,Bool.true_eq_false]
 subst h0;clear HR HEE HDZ HW0 HWI O2;replace T1:=rB.next T1 hb2;replace PX':=PX'.next hb2;replace DX:=DX.next hb2;replace ER:=ER.next hb2;have con:=uC wide p' q' data a1 c1 da dc w2 T1 PX' HK'.out DX d8;obtain ⟨z0,z1,⟨z2,z3,z4,z5,z6,z7⟩,z8,z9,z10⟩:=ER.el;simp only [Np] at z1 z2 z3 z4 z5 z6 z7 z8 z9 z10;unfold bP at con;go_wp2_with fail
 refine con.mono ?_;rintro e w3 ⟨rfl,TK,hb3⟩;clear con z0 z1 z2 z3 z4 z5 z6 z7 z8 z9 z10 ER PX';have hal:=aa w3 (.cells #[.func (.func 53) #[] #[.pointer (some ⟨w2.heap.size,0,none⟩),.pointer (some ⟨w2.heap.size+1,0,none⟩),.pointer (some ⟨w2.heap.size+2,0,none⟩)]] 49)
 have F4:(w3.alloc (.cells #[.func (.func 53) #[] #[.pointer (some ⟨w2.heap.size,0,none⟩),.pointer (some ⟨w2.heap.size+1,0,none⟩),.pointer (some ⟨w2.heap.size+2,0,none⟩)]] 49)).cell? ⟨w3.heap.size,0,none⟩=some (.func (.func 53) #[] #[.pointer (some ⟨w2.heap.size,0,none⟩),.pointer (some ⟨w2.heap.size+1,0,none⟩),.pointer (some ⟨w2.heap.size+2,0,none⟩)]):=cell_of (i:=0) (aw w3 #[.func (.func 53) #[] #[.pointer (some ⟨w2.heap.size,0,none⟩),.pointer (some ⟨w2.heap.size+1,0,none⟩),.pointer (some ⟨w2.heap.size+2,0,none⟩)]] 49) rfl;have FD:=Es 53 _ _ _ w3.heap.size _ Mr (TK.next hal) F4
 have con:=yL 31 #[.pointer (some ⟨w3.heap.size,0,none⟩)] _ _ dz a2 c2 _ MN FD (Z2.next (chain hb3 hal)) n2;generalize nG (fun _ y=>hM wide (data ++ [y]) p') (fun _ y=>dE wide (data ++ [y]) p') 50 0 dz dz=G at con HR1;obtain ⟨g1,g2,g3⟩:=G;have eR:R=(g1,g3):=HR1.out;subst eR;dsimp only at con;have hA4:=chain hA2 (chain hb3 hal);clear HR1 FD TK hb3 F4 Z2;go_upto_region 10 with fail
 generalize w3.alloc (.cells #[.func (.func 53) #[] #[.pointer (some ⟨w2.heap.size,0,none⟩),.pointer (some ⟨w2.heap.size+1,0,none⟩),.pointer (some ⟨w2.heap.size+2,0,none⟩)]] 49)=w4 at *;go_wp2_with fail
 refine con.mono ?_;rintro e w5 ⟨v5,rfl,O5,hb5⟩;clear con;have O5':=O5.mono hA4.size;go_wp2_with fail
 exact Nl (v:=.tuple #[v5,.int .i64 g3]) (by simp [results,Tryz.results10,go_sem]) rfl ⟨_,rfl,O5',chain hA4 hb5⟩
end Go.Proofs.YtohjlfhmnmcndaaGreat
