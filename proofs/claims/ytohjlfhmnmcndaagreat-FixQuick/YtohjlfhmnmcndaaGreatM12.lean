/- Together: PF, G8, NK, L1, LQ, E2, NL, NM, NO. -/
import Derived.Laws.StructEq
import Derived.Test.YtohjlfhmnmcndaaGreatM9
import Derived.Test.YtohjlfhmnmcndaaGreatM10
import Derived.Test.YtohjlfhmnmcndaaGreatM11
import Derived.Test.YtohjlfhmnmcndaaGreatM7
import Derived.Test.YtohjlfhmnmcndaaGreatM3
namespace Go.Proofs.YtohjlfhmnmcndaaGreat
open Go.RowKit
set_option maxRecDepth 100000
set_option maxHeartbeats 16000000
def Mt:List Vl→Int:=fun _=>1
theorem qR.irrefl (x:Kp):¬ qR x x:=fun h=>qR.not h h
def KP:List Zp→Int
 | []=>0
 | x :: r=>(if 0<x.2 then x.2 else 0)+KP r
theorem Jh {cols:List Int} {xs:List Ex} {n:Int} {z:List Zp} (h:kh cols xs n z=0):aP cols xs=0∧(0≤n∧n≤50)∧eU cols z∧aH (jg n (ba xs z))=0:=by
 unfold kh at h;by_cases h1:aP cols xs=0
 ·rw [if_neg (by simpa using h1)] at h;by_cases h2:n<0∨50<n
  ·rw [if_pos h2] at h; omega
  ·rw [if_neg h2] at h;by_cases h3:bz cols z=0
   ·rw [if_neg (by simpa using h3)] at h;exact ⟨h1,by omega,(dK _ _).1 h3,h⟩
   ·rw [if_pos h3] at h; exact absurd h h3
 ·rw [if_pos h1] at h; exact absurd h h1
structure MG (cols:List Int) (key:Int) (n:Int) (z t:List Zp):Prop where
 k0:0≤key
 k1:key<cols.length
 n0:0≤n∧n≤50
 wW:eU cols z
 set:gG t
 len:t.length≤400
 row:∀ y ∈ t,1≤y.2∧y.2≤wt z y.1∧y.1.length=cols.length
 w6:∀ y ∈ t,y.2≤1000000
 kind:∀ y ∈ t,1≤(y.1.getD key.toNat fH).1∧(y.1.getD key.toNat fH).1≤4
 MY:∀ y ∈ z,1≤(y.1.getD key.toNat fH).1∧(y.1.getD key.toNat fH).1≤4
 sum:fK Mt t=min n (KP z)
 rest:∀ r ∈ z,0<r.2→wt t r.1<r.2→fK Mt t=n∧∀ y ∈ t,0≤cZ (r.1.getD key.toNat fH) (y.1.getD key.toNat fH)
def CA (k:Nat) (r:List Vl):Int:=((bq r).getD k fH).2.1
structure M3 (xs:List Ex) (z t:List Zp):Prop where
 len:t.length≤401
 row:∀ y ∈ t,y.2=1∧y.1.length=xs.length+1∧0≤CA xs.length y.1∧CA xs.length y.1≤400000000
 num:∀ y ∈ t,(y.1.getD xs.length fH).2.1=CA xs.length y.1
 sum:fK (CA xs.length) t=KP z
 one:xs.length=0→t.length=1
theorem Ev {cols:List Int} {xs:List Ex} {gs:List Ag} {z:List Zp} (h:df cols xs gs z=0):eU cols z∧aH (cR xs gs (ba xs z))=0:=by
 unfold df at h
 split at h
 ·cases h
 ·split at h
  ·rename_i h1; exact absurd h h1
  ·split at h
   ·rename_i h1; exact absurd h h1
   ·split at h
    ·rename_i h1; exact absurd h h1
    ·rename_i h1
     exact ⟨(dK _ _).1 (Classical.byContradiction h1),h⟩
structure CF (cols:List Int) (z:List Zp):Prop where
 set:gG z
 wW:eU cols z
theorem rQ {cols:List Int} {r:List Vl} (h:cL cols r):cL cols (bq r):=by
 refine ⟨by rw [iE]; exact h.len,fun i hi=>?_⟩;have hi':i<r.length:=by rwa [iE] at hi
 have e:(bq r)[i]=cB r[i]:=by simp [bq]
 rw [e,lX];exact h.one i hi'
theorem gD {cols:List Int} {L:List Zp} (h8:cols.length≤8) (hg:aH L=0) (hf:∀ x ∈ L,cL cols x.1):CF cols (canon L) :=
 ⟨dH L,h8,qs (fun y hy=>IG (hf y hy) h8) hg,fun y hy=>by
  obtain ⟨x,hx,e⟩:=vQ L y hy
  rw [e]
  exact rQ (hf x hx)⟩
theorem Jc {c:List Int} {x:Ex} {z:List Zp} (h:eV c x z=0):CF c (iq c x z):=by
 have hz:=(yd h).2;have e:iq c x z=canon (lK x z):=by unfold iq; rw [if_pos h]
 rw [e];exact gD hz.iu (pW hz.set _) fun y hy=>hz.fit y (List.mem_filter.1 hy).1
theorem Gb {c:List Int} {x:Ex} {r:List Vl} (h:(an c x).2=0) (hf:cL c r):Of (an c x).1 (bB r x):=qX hf x _ (AK h)
theorem yz {c:List Int} {xs:List Ex} {r:List Vl} (h:∀ x ∈ xs,(an c x).2=0) (hf:cL c r):cL (dP c xs) (dV xs r):=by
 refine ⟨by simp [dP,dV],fun i hi=>?_⟩;have hi':i<xs.length:=by simpa [dV] using hi
 have e1:(dV xs r)[i]=bB r xs[i]:=by simp [dV]
 have e2:(dP c xs).getD i 0=(an c xs[i]).1:=by simp [dP,List.getD_eq_getElem?_getD,hi']
 rw [e1,e2];exact Gb (h _ (Ns hi')) hf
theorem LB {c:List Int} {xs:List Ex} {z:List Zp} (h:iv c xs z=0):CF (dP c xs) (nd c xs z):=by
 obtain ⟨h1,h2,h3⟩:=wL h;have e:nd c xs z=canon (jC xs z):=by unfold nd; rw [if_pos h]
 obtain ⟨l8,lt⟩:=nU h1;rw [e];refine gD (by simpa [dP] using l8) h3 fun y hy=>?_
 obtain ⟨p,hp,rfl⟩:=List.mem_map.1 hy;exact yz lt (h2.fit p hp)
theorem Gg {c:List Int} {z:List Zp} (f:Int→Int) (hf:∀ x,hJ x=true→hJ (f x)=true) (h:eU c z):CF c (gS f z):=by
 have hw:=(bD z).1 h.set;have e:gS f z=aR f z:=by unfold gS; rw [if_pos h.set]
 have hs:=kH f z hw.2.2;rw [e];refine ⟨hs,h.iu,?_,fun y hy=>?_⟩
 ·rw [bD];refine ⟨Nw (iV f z) hw.1,fun y hy=>?_,hs.gj⟩;obtain ⟨x,hx,rfl,h0⟩:=eF f z y hy;exact ⟨(gZ _).2 (hw.2.1 x hx).1,h0,hf _ (hw.2.1 x hx).2.2⟩
 ·obtain ⟨x,hx,rfl,_⟩:=eF f z y hy;exact rQ (h.fit x hx)
theorem Jt {x:Int} (h:hJ x=true):hJ (lL x)=true:=by
 rw [gr] at *;unfold lL
 split <;> omega
theorem Ct {x:Int} (_h:hJ x=true):hJ (fg x)=true:=by
 rw [gr];unfold fg
 split <;> omega
theorem Ln {c:List Int} {xs:List Ex} {n:Int} {z:List Zp} (h:kh c xs n z=0):CF c (mV c xs n z):=by
 have e:mV c xs n z=canon (jg n (ba xs z)):=by unfold mV; rw [if_pos h]
 unfold kh at h;by_cases h1:aP c xs=0
 ·rw [if_neg (by simpa using h1)] at h;by_cases h2:n<0∨50<n
  ·rw [if_pos h2] at h; cases h
  ·rw [if_neg h2] at h;by_cases h3:bz c z=0
   ·rw [if_neg (by simpa using h3)] at h;have hz:=(dK _ _).1 h3;rw [e];refine gD hz.iu h fun y hy=>?_
    obtain ⟨⟨x,hx,e⟩,_⟩:=tI n _ (by omega) (fun x hx=>(eJ.1 hx).1.2) y hy;rw [e];exact hz.fit _ (eJ.1 hx).1.1
   ·rw [if_pos h3] at h; exact absurd h h3
 ·rw [if_pos h1] at h; exact absurd h h1
theorem wv {l r:List Int} {a b:List Vl} (h:cL l a) (k:cL r b):cL (l ++ r) (a ++ b):=tN h k
theorem EP (r:List Int):cL r (gy r.length):=by
 refine ⟨by simp [gy],fun i hi=>?_⟩;have e:(gy r.length)[i]=(1,0,⟨#[]⟩):=by simp [gy]
 rw [e];exact ⟨rfl,.inl rfl⟩
theorem rh {what:Nat} {l r:List Int} {x:Ex} {a b:List Zp} (h:bY what l r x a b=0):CF (if what=1∨what=2 then l else l ++ r) (dg what l r x a b):=by
 obtain ⟨hT,hg⟩:=iW h;have e:dg what l r x a b=canon (fP what r.length x a b):=by unfold dg; rw [if_pos h]
 have jn:∀ y ∈ bH x a b,cL (l ++ r) y.1:=fun y hy=>by
  unfold bH at hy;obtain ⟨p,hp,hy⟩:=List.mem_flatMap.1 hy;unfold cS at hy;obtain ⟨q,hq,rfl⟩:=List.mem_map.1 hy;exact wv (hT.left.fit p hp) (hT.right.fit q (List.mem_filter.1 hq).1)
 have h8:(l ++ r).length≤8:=by rw [Nx]; exact hT.len
 rw [e];by_cases w1:what=1
 ·rw [if_pos (.inl w1)];refine gD hT.left.iu hg fun y hy=>?_
  unfold fP at hy;rw [if_neg (by omega),if_pos w1] at hy;exact hT.left.fit y (List.mem_filter.1 hy).1
 by_cases w2:what=2
 ·rw [if_pos (.inr w2)];refine gD hT.left.iu hg fun y hy=>?_
  unfold fP at hy;rw [if_neg (by omega),if_neg w1,if_pos w2] at hy;exact hT.left.fit y (List.mem_filter.1 hy).1
 rw [if_neg (by omega)];refine gD h8 hg fun y hy=>?_
 unfold fP at hy;by_cases w0:what=0
 ·rw [if_pos w0] at hy;exact jn y hy
 ·rw [if_neg w0,if_neg w1,if_neg w2] at hy;rcases List.mem_append.1 hy with hy | hy
  ·exact jn y hy
  ·obtain ⟨p,hp,rfl⟩:=List.mem_map.1 hy;exact wv (hT.left.fit p (List.mem_filter.1 hp).1) (EP r)
theorem vU:∀ {l r:List Int},fw l r=0→∀ (i:Nat),i<l.length→i<r.length→gE (l.getD i 0) (r.getD i 0)=some ((bC l r).getD i 0)
 | a :: l,b :: r,h,i,h1,h2=>by
  rw [fw] at h
  have h0:(bI a b).2=0:=by
   by_cases c:(bI a b).2=0
   ·exact c
   ·rw [if_pos c] at h; exact absurd h c
  rw [if_neg (by simp [h0])] at h;cases i with
  | zero =>
   simp only [bC,List.getD_cons_zero];unfold bI at h0 ⊢;cases ht:gE a b with
   | none=>rw [ht] at h0; cases h0
   | some t=>rfl
  | succ i =>
   simp only [bC,List.getD_cons_succ];exact vU h i (by simpa using h1) (by simpa using h2)
theorem qU {l r:List Int} (hl:l.length=r.length) (ht:fw l r=0) {a:List Vl} (h:cL l a∨cL r a):cL (bC l r) a:=by
 have hn:=eK hl;have len:a.length=l.length:=by rcases h with h | h <;> rw [h.len]; exact hl.symm
 refine ⟨by rw [hn]; exact len,fun i hi=>?_⟩;have hg:=vU ht i (by omega) (by omega);rcases h with h | h
 ·exact wb hg (h.one i hi)
 ·exact wV hg (h.one i hi)
theorem pP {t:Int} {a b:List Zp} (h:bh t a b=0):aF a=0∧aF b=0∧aH (a ++ aR (cY t) b)=0∧cM t a b=canon (a ++ aR (cY t) b):=by
 have e:cM t a b=canon (a ++ aR (cY t) b):=by unfold cM; rw [if_pos h]
 unfold bh at h;by_cases h1:aF a=0
 ·rw [if_pos h1] at h;by_cases h2:aF b=0
  ·rw [if_pos h2] at h;exact ⟨h1,h2,h,e⟩
  ·rw [if_neg h2] at h; exact absurd h h2
 ·rw [if_neg h1] at h; exact absurd h h1
theorem zD {t:Int} {c:List Int} {a b:List Zp} (h:bh t a b=0) (h8:c.length≤8) (ha:∀ x ∈ a,cL c x.1) (hb:∀ x ∈ b,cL c x.1):CF c (cM t a b):=by
 obtain ⟨_,_,h3,e⟩:=pP h;rw [e];refine gD h8 h3 fun y hy=>?_
 rcases List.mem_append.1 hy with hy | hy
 ·exact ha y hy
 ·obtain ⟨x,hx,rfl,_⟩:=eF _ _ y hy;exact rQ (hb x hx)
theorem Ko {t:Int}:∀ {l:List Wp},(∀ p ∈ l,Of t p.1)→Of t (Ef l)
 | [],_=>⟨rfl,.inl rfl⟩
 | p :: r,h=>by
  unfold Ef
  have aux:∀ (r:List Wp) (m:Vl),Of t m→(∀ p ∈ r,Of t p.1)→Of t (r.foldl (fun m x=>if cZ x.1 m<0 then x.1 else m) m):=by
   intro r
   induction r with
   | nil=>intro m hm _; exact hm
   | cons x r ih =>
    intro m hm hr;refine ih _ ?_ fun p hp=>hr p (by simp [hp])
    dsimp only
    split
    ·exact hr x (by simp)
    ·exact hm
  exact aux r p.1 (h p (by simp)) fun q hq=>h q (by simp [hq])
theorem Jx {t:Int}:∀ {l:List Wp},(∀ p ∈ l,Of t p.1)→Of t (EX l)
 | [],_=>⟨rfl,.inl rfl⟩
 | p :: r,h=>by
  unfold EX
  have aux:∀ (r:List Wp) (m:Vl),Of t m→(∀ p ∈ r,Of t p.1)→Of t (r.foldl (fun m x=>if 0<cZ x.1 m then x.1 else m) m):=by
   intro r
   induction r with
   | nil=>intro m hm _; exact hm
   | cons x r ih =>
    intro m hm hr;refine ih _ ?_ fun p hp=>hr p (by simp [hp])
    dsimp only
    split
    ·exact hr x (by simp)
    ·exact hm
  exact aux r p.1 (h p (by simp)) fun q hq=>h q (by simp [hq])
theorem of_int {n:Int} (h:-1000000000000000≤n∧n≤1000000000000000):Of 3 (3,n,⟨#[]⟩):=by
 refine ⟨?_,.inr rfl⟩;unfold aY aI;simp;omega
theorem LO {c:List Int} {g:Ag} {rows:List Zp} (h:bX c g=0) (hr:BY c rows):Of (oo c g) (jd g rows):=by
 have hw:=hr.known (qA h);unfold jd fx oo;by_cases h3:g.1=3
 ·rw [if_pos h3,if_neg (by omega)];unfold Jm
  split
  ·exact ⟨rfl,.inl rfl⟩
  ·split
   ·rename_i hi
    exact of_int (yI hi)
   ·exact ⟨rfl,.inl rfl⟩
 ·rw [if_neg h3];by_cases h45:g.1=4∨g.1=5
  ·rw [if_pos h45];have hty:(an c g.2).2=0:=by
    unfold bX at h;rw [if_neg (by omega),if_neg (by omega)] at h;by_cases q:(an c g.2).2=0
    ·exact q
    ·rw [if_pos q] at h; exact absurd h q
   have hk:∀ p ∈ cT (fU g) rows,Of (an c g.2).1 p.1:=fun p hp=>by
    unfold cT at hp;obtain ⟨q,hq,e⟩:=List.mem_filterMap.1 hp;have em:fU g q.1=bB q.1 g.2:=by unfold fU; rw [if_neg (by omega)]
    rw [em] at e;by_cases q1:(bB q.1 g.2).1=1
    ·rw [if_pos q1] at e; cases e
    ·rw [if_neg q1] at e;have:=NU e;rw [← this];exact Gb hty (hr.fit q hq)
   by_cases h4:g.1=4
   ·rw [if_pos h4]; exact Ko hk
   ·rw [if_neg h4,if_pos (by omega)]; exact Jx hk
  ·rw [if_neg h45,if_neg (by omega),if_neg (by omega)];have hb:=Jy hw.wt;have hl:=hw.len;exact of_int (by omega)
theorem vh {c:List Int}:∀ {gs:List Ag},bV c gs=0→∀ g ∈ gs,bX c g=0
 | g :: r,h,x,hx=>by
  rw [bV] at h
  by_cases c0:bX c g=0
  ·rw [if_pos c0] at h
   rcases List.mem_cons.1 hx with rfl | hx
   ·exact c0
   ·exact vh h x hx
  ·rw [if_neg c0] at h; exact absurd h c0
theorem CS {c:List Int} {xs:List Ex} {gs:List Ag} {z:List Zp} (h:df c xs gs z=0):xs.length+gs.length≤8∧aP c xs=0∧bV c gs=0∧eU c z∧aH (cR xs gs (ba xs z))=0:=by
 have h0:=Ev h;unfold df at h;by_cases h8:8<xs.length+gs.length
 ·rw [if_pos h8] at h; cases h
 rw [if_neg h8] at h;by_cases h1:aP c xs=0
 ·rw [if_neg (by simpa using h1)] at h;by_cases h2:bV c gs=0
  ·exact ⟨by omega,h1,h2,h0.1,h0.2⟩
  ·rw [if_pos h2] at h; exact absurd h h2
 ·rw [if_pos h1] at h; exact absurd h h1
theorem F8 {c:List Int} {xs:List Ex} {gs:List Ag} {z:List Zp} (h:df c xs gs z=0):CF (dP c xs ++ gs.map (oo c)) (fp c xs gs z):=by
 obtain ⟨h8,h1,h2,hz,hg⟩:=CS h;have e:fp c xs gs z=canon (cR xs gs (ba xs z)):=by unfold fp; rw [if_pos h]
 rw [e];refine gD (by simpa [dP] using h8) hg fun y hy=>?_
 unfold cR at hy;obtain ⟨p,hp,rfl⟩:=List.mem_map.1 hy;have hpk:=(xQ (xs:=xs) hz).2 p hp;refine wv ?_ ⟨by simp,fun i hi=>?_⟩
 ·unfold fq at hp
  split at hp
  ·rename_i hc
   rw [List.mem_singleton.1 hp];have hx:xs = []:=Nu hc.1;subst hx;exact ⟨rfl,fun i hi=>by simp at hi⟩
  ·obtain ⟨_,x,hx,e⟩:=uM _ p hp;have hm:=eJ.1 hx;rw [e,hm.2];exact yz (nU h1).2 (hz.fit _ hm.1.1)
 ·have hi':i<gs.length:=by simpa using hi
  have e1:(gs.map fun g=>jd g p.2)[i]=jd gs[i] p.2:=by simp
  have e2:(gs.map (oo c)).getD i 0=oo c gs[i]:=by simp [List.getD_eq_getElem?_getD,hi']
  rw [e1,e2];exact LO (vh h2 _ (Ns hi')) hpk.1
theorem Kb {ts:List (List Int)} {data:List (List Zp)} {k n:Int} {x:Ex} {xs:List Ex} {gs:List Ag} {cs:List (List Int)} {zs:List (List Zp)} (hq:1≤k∧k≤13) (hlen:cs.length=cJ k) (hD:bG ts data=0)
  (hzl:zs.length=cs.length) (hzs:∀ (i:Nat) (h:i<cs.length) (h':i<zs.length),CF cs[i] zs[i]) (hE:fC ts k n x xs gs cs=0) (h:(aT data k n x xs gs cs zs).1=0):CF (iR ts k n xs gs cs) (aT data k n x xs gs cs zs).2:=by
 unfold cJ at hlen
 match cs,zs,hzl with
 | [],[],_ =>
  simp only [fC] at hE;simp only [aT,iR] at h ⊢;have hr:¬ (n<0∨(ts.length:Int)≤n):=fun c=>by rw [if_pos c] at hE; cases hE
  obtain ⟨d1,d2⟩:=j8 hD;have hn:n.toNat<ts.length:=by omega
  have hn':n.toNat<data.length:=by omega
  have hz:=(dK _ _).1 (d2 n.toNat hn hn');rw [NT,NF hn,Option.getD_some];rw [NT,NF hn',Option.getD_some] at h ⊢;have e:bg data[n.toNat]=canon data[n.toNat]:=by unfold bg; rw [if_pos h]
  rw [e];exact gD hz.iu h hz.fit
 | [c],[z],_ =>
  have hz:=hzs 0 (by simp) (by simp);simp only [Oa] at hz;have hk:¬ k=1∧¬ (4≤k∧k≤9):=by
   refine ⟨fun c=>?_,fun c=>?_⟩
   ·rw [if_pos c] at hlen; simp at hlen
   ·rw [if_neg (by omega),if_pos c] at hlen; simp at hlen
  simp only [aT,iR,qM] at h ⊢;by_cases k2:k=2
  ·rw [if_pos k2] at h ⊢;rw [if_neg (by omega),if_neg (by omega)];exact Jc h
  rw [if_neg k2] at h ⊢;by_cases k3:k=3
  ·rw [if_pos k3] at h ⊢;rw [if_pos k3];exact LB h
  rw [if_neg k3] at h ⊢;by_cases k10:k=10
  ·rw [if_pos k10,if_neg k3,if_neg (by omega)];exact Gg lL (fun x hx=>Jt hx) hz.wW
  rw [if_neg k10] at h ⊢;by_cases k11:k=11
  ·rw [if_pos k11,if_neg k3,if_neg (by omega)];exact Gg fg (fun x hx=>Ct hx) hz.wW
  rw [if_neg k11] at h ⊢;by_cases k12:k=12
  ·rw [if_pos k12] at h ⊢;rw [if_neg k3,if_pos k12];exact F8 h
  rw [if_neg k12] at h ⊢;rw [if_neg k3,if_neg k12];exact Ln h
 | [l,r],[a,b],_ =>
  have ha:=hzs 0 (by simp) (by simp);have hb:=hzs 1 (by simp) (by simp);simp only [Oa,Ot] at ha hb;have hk:4≤k∧k≤9:=by
   by_cases c:k=1
   ·rw [if_pos c] at hlen; simp at hlen
   ·rw [if_neg c] at hlen;by_cases c':4≤k∧k≤9
    ·exact c'
    ·rw [if_neg c'] at hlen; simp at hlen
  simp only [fC,tV] at hE;simp only [aT,iR,qI] at h ⊢;by_cases k4:k=4
  ·rw [if_pos k4] at h ⊢;rw [if_neg (by omega),if_neg (by omega)];exact rh h
  rw [if_neg k4] at h ⊢;by_cases k5:k=5
  ·rw [if_pos k5] at h ⊢;rw [if_neg (by omega),if_pos (by omega)];exact rh h
  rw [if_neg k5] at h ⊢;by_cases k6:k=6
  ·rw [if_pos k6] at h ⊢;rw [if_neg (by omega),if_pos (by omega)];exact rh h
  rw [if_neg k6] at h ⊢;by_cases k7:k=7
  ·rw [if_pos k7] at h ⊢;rw [if_neg (by omega),if_neg (by omega)];exact rh h
  rw [if_neg k7] at h ⊢;have k89:k=8∨k=9:=by omega
  rw [if_pos k89] at hE ⊢;have ht:l.length=r.length∧fw l r=0:=by
   unfold hY at hE;by_cases c:l.length=r.length
   ·rw [if_neg (by simp [c])] at hE; exact ⟨c,hE⟩
   ·rw [if_pos c] at hE; cases hE
  have h8:(bC l r).length≤8:=by rw [eK ht.1]; exact ha.wW.iu
  by_cases k8:k=8
  ·rw [if_pos k8] at h ⊢;exact zD h h8 (fun y hy=>qU ht.1 ht.2 (.inl (ha.wW.fit y hy))) (fun y hy=>qU ht.1 ht.2 (.inr (hb.wW.fit y hy)))
  ·rw [if_neg k8] at h ⊢;exact zD h h8 (fun y hy=>qU ht.1 ht.2 (.inl (ha.wW.fit y hy))) (fun y hy=>qU ht.1 ht.2 (.inr (hb.wW.fit y hy)))
 | _ :: _ :: _ :: _,_,_ =>
  split at hlen
  ·simp at hlen
  ·split at hlen <;> simp at hlen
theorem nh {ts:List (List Int)} {data:List (List Zp)} {p:Pl} (h:(aB ts data p).1=0):∀ r ∈ p.ks,(aB ts data r).1=0:=by
 intro r hr;obtain ⟨j,hj,rfl⟩:=Ov hr
 induction j using Nat.strongRecOn with
 | ind j ih =>
  by_cases c:(aB ts data p.ks[j]).1=0
  ·exact c
  ·have hb:=ni hj (fun i hi hij=>ih i hij hi (Ns hi)) c;rw [uO hb c] at h;exact absurd h c
theorem gp {ts:List (List Int)} {data:List (List Zp)} (hD:bG ts data=0):∀ (p:Pl) (m d:Int),(aQ ts p m d).1=0→(aB ts data p).1=0→CF (ah ts p) (aB ts data p).2 :=
 Pl.ind fun k n x xs gs ks ih m d hl he=>by
  obtain ⟨h1,h2,h3,_⟩:=fO hl
  obtain ⟨hln,hk1,hk2,_,_⟩:=iY h1
  have hk:=nh he
  simp only [Pl.ks] at hk
  have e:=fV (ts:=ts) (data:=data) (p:=.mk k n x xs gs ks) hk
  simp only [Pl.k,Pl.n,Pl.x,Pl.xs,Pl.gs,Pl.ks] at e
  rw [e] at he ⊢
  rw [ah,dR]
  rw [dR] at h3
  refine Kb ⟨hk1,hk2⟩ (by rw [Od]; exact hln) hD (by rw [Od,Od]) (fun i hi hi'=>?_) h3 he
  have hi2:i<ks.length:=by simpa using hi
  rw [Oe,Oe]
  obtain ⟨m',hm'⟩:=gN h2 ks[i] (Ns hi2)
  exact ih ks[i] (Ns hi2) m' (d+1) hm' (hk _ (Ns hi2))
theorem rU {ts:List (List Int)} {data:List (List Zp)} {p:Pl} (h:hM ts data p=0):aX ts p=0∧bG ts data=0∧(aB ts data p).1=0∧yr ts data p=(aB ts data p).2:=by
 by_cases c:aX ts p=0
 ·by_cases c':bG ts data=0
  ·obtain ⟨e1,e2⟩:=qT (p:=p) c c';exact ⟨c,c',e1 ▸ h,e2⟩
  ·rw [(sd c c').1] at h; exact absurd h c'
 ·rw [(sw c).1] at h; exact absurd h c
theorem Ij {ts:List (List Int)} {data:List (List Zp)} {p:Pl} (h:hM ts data p=0):CF (ah ts p) (yr ts data p):=by
 obtain ⟨h1,h2,h3,h4⟩:=rU h;rw [h4];exact gp h2 p 0 1 (cD h1).2 h3
end Go.Proofs.YtohjlfhmnmcndaaGreat
namespace Go.Proofs.YtohjlfhmnmcndaaGreat
open Go.RowKit Go.Lib Go.Shelf
set_option maxRecDepth 100000
set_option maxHeartbeats 16000000
def zA:List Zp:=[([(3,1,⟨#[]⟩)],2),([(3,2,⟨#[]⟩)],1)]
def sA:List Zp:=[([(3,1,⟨#[]⟩)],4),([(3,2,⟨#[]⟩)],2)]
def M4:Ex:=.mk 0 fH 0 []
def et (n:Int):Pl:=.mk 1 n M4 [] [] []
def pO:Pw:=⟨none,0,none,0,none,0,none,0⟩
theorem Lp (n:Int):bP (et n) pO = .agg #[.int .i64 1,.int .i64 n,.int .i64 0,.int .i64 0,.int .i64 0,.string ⟨#[]⟩,.int .i64 0,.slice none 0 0,.slice none 0 0,.slice none 0 0,.slice none 0 0]:=rfl
theorem MJ (B:Nat) (W:World) (n:Int):ja B W (et n) pO:=⟨.nil _,.nil _,.inl rfl,.nil _⟩
theorem Lh {B:Nat} (w:World) {p:Pl} {q:Pw} (hB:B≤w.heap.size) (h:ja B w p q):ft (w.heap.size+1) (w.alloc (.cells (eS p q) 31)) (some ⟨w.heap.size,0,none⟩) [p]:=by
 have Q:=aw w (eS p q) 31;have hb:=aa w (.cells (eS p q) 31);have h':=(h.next hb hB).up (show B≤w.heap.size+1 by omega);refine .some w.heap.size 0 [p] (fun _=>q) (by omega) ?_ ?_ ?_ ?_ ?_
 ·intro i hi
  match i,hi with
  | 0,_=>exact ⟨cell_of (i:=0) Q rfl,cell_of (i:=1) Q rfl,⟨cell_of (i:=2) Q rfl,cell_of (i:=3) Q rfl,cell_of (i:=4) Q rfl,cell_of (i:=5) Q rfl,cell_of (i:=6) Q rfl,cell_of (i:=7) Q rfl⟩,cell_of (i:=8) Q rfl,cell_of (i:=9) Q rfl,cell_of (i:=10) Q rfl⟩
 ·intro i hi
  match i,hi with
  | 0,_=>exact h'.x
 ·intro i hi
  match i,hi with
  | 0,_=>exact h'.xs
 ·intro i hi
  match i,hi with
  | 0,_=>exact h'.gs
 ·intro i hi
  match i,hi with
  | 0,_=>exact h'.ks
theorem Lv {B:Nat} (w:World) {p p':Pl} {q q':Pw} (hB:B≤w.heap.size) (h:ja B w p q) (k:ja B w p' q'):ft (w.heap.size+1) (w.alloc (.cells #[.int .i64 p.k,.int .i64 p.n,.int .i64 p.x.k,.int .i64 p.x.v.1,.int .i64 p.x.v.2.1,.string p.x.v.2.2,.int .i64 p.x.c,.slice q.xa p.x.ks.length q.xc,.slice q.sa p.xs.length q.sc,.slice q.ga p.gs.length q.gc,.slice q.ka p.ks.length q.kc,.int .i64 p'.k,.int .i64 p'.n,.int .i64 p'.x.k,.int .i64 p'.x.v.1,.int .i64 p'.x.v.2.1,.string p'.x.v.2.2,.int .i64 p'.x.c,.slice q'.xa p'.x.ks.length q'.xc,.slice q'.sa p'.xs.length q'.sc,.slice q'.ga p'.gs.length q'.gc,.slice q'.ka p'.ks.length q'.kc] 31)) (some ⟨w.heap.size,0,none⟩) [p,p']:=by
 have Q:=aw w #[.int .i64 p.k,.int .i64 p.n,.int .i64 p.x.k,.int .i64 p.x.v.1,.int .i64 p.x.v.2.1,.string p.x.v.2.2,.int .i64 p.x.c,.slice q.xa p.x.ks.length q.xc,.slice q.sa p.xs.length q.sc,.slice q.ga p.gs.length q.gc,.slice q.ka p.ks.length q.kc,.int .i64 p'.k,.int .i64 p'.n,.int .i64 p'.x.k,.int .i64 p'.x.v.1,.int .i64 p'.x.v.2.1,.string p'.x.v.2.2,.int .i64 p'.x.c,.slice q'.xa p'.x.ks.length q'.xc,.slice q'.sa p'.xs.length q'.sc,.slice q'.ga p'.gs.length q'.gc,.slice q'.ka p'.ks.length q'.kc] 31
 have hb:=aa w (.cells #[.int .i64 p.k,.int .i64 p.n,.int .i64 p.x.k,.int .i64 p.x.v.1,.int .i64 p.x.v.2.1,.string p.x.v.2.2,.int .i64 p.x.c,.slice q.xa p.x.ks.length q.xc,.slice q.sa p.xs.length q.sc,.slice q.ga p.gs.length q.gc,.slice q.ka p.ks.length q.kc,.int .i64 p'.k,.int .i64 p'.n,.int .i64 p'.x.k,.int .i64 p'.x.v.1,.int .i64 p'.x.v.2.1,.string p'.x.v.2.2,.int .i64 p'.x.c,.slice q'.xa p'.x.ks.length q'.xc,.slice q'.sa p'.xs.length q'.sc,.slice q'.ga p'.gs.length q'.gc,.slice q'.ka p'.ks.length q'.kc] 31)
 have h':=(h.next hb hB).up (show B≤w.heap.size+1 by omega);have k':=(k.next hb hB).up (show B≤w.heap.size+1 by omega);refine .some w.heap.size 0 [p,p'] (fun i=>if i=0 then q else q') (by omega) ?_ ?_ ?_ ?_ ?_
 ·intro i hi
  match i,hi with
  | 0,_=>exact ⟨cell_of (i:=0) Q rfl,cell_of (i:=1) Q rfl,⟨cell_of (i:=2) Q rfl,cell_of (i:=3) Q rfl,cell_of (i:=4) Q rfl,cell_of (i:=5) Q rfl,cell_of (i:=6) Q rfl,cell_of (i:=7) Q rfl⟩,cell_of (i:=8) Q rfl,cell_of (i:=9) Q rfl,cell_of (i:=10) Q rfl⟩
  | 1,_=>exact ⟨cell_of (i:=11) Q rfl,cell_of (i:=12) Q rfl,⟨cell_of (i:=13) Q rfl,cell_of (i:=14) Q rfl,cell_of (i:=15) Q rfl,cell_of (i:=16) Q rfl,cell_of (i:=17) Q rfl,cell_of (i:=18) Q rfl⟩,cell_of (i:=19) Q rfl,cell_of (i:=20) Q rfl,cell_of (i:=21) Q rfl⟩
 ·intro i hi
  match i,hi with
  | 0,_=>exact h'.x
  | 1,_=>exact k'.x
 ·intro i hi
  match i,hi with
  | 0,_=>exact h'.xs
  | 1,_=>exact k'.xs
 ·intro i hi
  match i,hi with
  | 0,_=>exact h'.gs
  | 1,_=>exact k'.gs
 ·intro i hi
  match i,hi with
  | 0,_=>exact h'.ks
  | 1,_=>exact k'.ks
theorem Ls {w:World} {a:Option Addr} {c:List Int} {cap:Nat} (h:bc w.heap.size w a c):fy (w.heap.size+1) (w.alloc (.cells #[.slice a c.length cap] 45)) (some ⟨w.heap.size,0,none⟩) [c]:=by
 have hb:=aa w (.cells #[.slice a c.length cap] 45);refine .inr ⟨w.heap.size,0,fun _=>a,fun _=>cap,rfl,by omega,fun i hi=>?_⟩
 match i,hi with
 | 0,_=>exact ⟨by simp,(h.next hb (Nj _)).up (by omega)⟩
theorem K0 {w:World} {a:Option Addr} {z:List Zp} {cap:Nat} (h:aL w a z) (hn:a=none→cap=0):gL (w.alloc (.cells #[.slice a z.length cap] 34)) (some ⟨w.heap.size,0,none⟩) [z]:=by
 have hb:=aa w (.cells #[.slice a z.length cap] 34);refine .inr ⟨w.heap.size,0,fun _=>a,fun _=>cap,rfl,by simp,fun i hi=>?_⟩
 match i,hi with
 | 0,_=>exact ⟨by simp,h.next hb,hn⟩
theorem LN (w:World) (n:Int):bc (w.heap.size+1) (w.alloc (.cells #[.int .i64 n] 3)) (some ⟨w.heap.size,0,none⟩) [n] :=
 ⟨by unfold maxLen; simp,.inr ⟨w.heap.size,0,rfl,by omega,fun i hi=>by
  match i,hi with
  | 0,_=>simp⟩⟩
def rB (w:World) (a:Option Addr) (ts:List (List Int)):Prop:=fy w.heap.size w a ts
theorem rB.next {w w1:World} {a:Option Addr} {ts:List (List Int)} (h:rB w a ts) (hb:Below w.heap.size w w1):rB w1 a ts:=(fy.next h hb (Nj _)).up hb.size
def pM (w:World) (p:Pl) (q:Pw):Prop:=ja w.heap.size w p q
theorem pM.next {w w1:World} {p:Pl} {q:Pw} (h:pM w p q) (hb:Below w.heap.size w w1):pM w1 p q:=(ja.next h hb (Nj _)).up hb.size
def Km (w:World) (a:Option Addr) (ks:List Pl):Prop:=ft w.heap.size w a ks
theorem Km.next {w w1:World} {a:Option Addr} {ks:List Pl} (h:Km w a ks) (hb:Below w.heap.size w w1):Km w1 a ks:=(ft.next hb (Nj _) h).up hb.size
def IX (w:World) (a:Option Addr) (l:List Int):Prop:=bc w.heap.size w a l
theorem IX.next {w w1:World} {a:Option Addr} {l:List Int} (h:IX w a l) (hb:Below w.heap.size w w1):IX w1 a l:=(bc.next h hb (Nj _)).up hb.size
structure oZ (w:World) (b:Nat) (p:Pl) (q:Pw):Prop where
 el:gY w b 0 p q
 lt:b<w.heap.size
theorem oZ.next {w w1:World} {b:Nat} {p:Pl} {q:Pw} (h:oZ w b p q) (hb:Below w.heap.size w w1):oZ w1 b p q:=⟨h.el.next hb h.lt,Nn h.lt hb.size⟩
theorem rB.one {w:World} {a:Option Addr} {c:List Int} (cap:Nat) (h:IX w a c):rB (w.alloc (.cells #[.slice a c.length cap] 45)) (some ⟨w.heap.size,0,none⟩) [c]:=by
 have:=Ls (cap:=cap) h;unfold rB
 rwa [show (w.alloc (.cells #[.slice a c.length cap] 45)).heap.size=w.heap.size+1 by simp]
theorem IX.one (w:World) (n:Int):IX (w.alloc (.cells #[.int .i64 n] 3)) (some ⟨w.heap.size,0,none⟩) [n]:=by
 have:=LN w n;unfold IX
 rwa [show (w.alloc (.cells #[.int .i64 n] 3)).heap.size=w.heap.size+1 by simp]
theorem Km.two (w:World) {p p':Pl} {q q':Pw} (h:pM w p q) (k:pM w p' q'):Km (w.alloc (.cells #[.int .i64 p.k,.int .i64 p.n,.int .i64 p.x.k,.int .i64 p.x.v.1,.int .i64 p.x.v.2.1,.string p.x.v.2.2,.int .i64 p.x.c,.slice q.xa p.x.ks.length q.xc,.slice q.sa p.xs.length q.sc,.slice q.ga p.gs.length q.gc,.slice q.ka p.ks.length q.kc,.int .i64 p'.k,.int .i64 p'.n,.int .i64 p'.x.k,.int .i64 p'.x.v.1,.int .i64 p'.x.v.2.1,.string p'.x.v.2.2,.int .i64 p'.x.c,.slice q'.xa p'.x.ks.length q'.xc,.slice q'.sa p'.xs.length q'.sc,.slice q'.ga p'.gs.length q'.gc,.slice q'.ka p'.ks.length q'.kc] 31)) (some ⟨w.heap.size,0,none⟩) [p,p']:=by
 have:=Lv w (Nj _) h k;unfold Km
 rwa [show (w.alloc (.cells #[.int .i64 p.k,.int .i64 p.n,.int .i64 p.x.k,.int .i64 p.x.v.1,.int .i64 p.x.v.2.1,.string p.x.v.2.2,.int .i64 p.x.c,.slice q.xa p.x.ks.length q.xc,.slice q.sa p.xs.length q.sc,.slice q.ga p.gs.length q.gc,.slice q.ka p.ks.length q.kc,.int .i64 p'.k,.int .i64 p'.n,.int .i64 p'.x.k,.int .i64 p'.x.v.1,.int .i64 p'.x.v.2.1,.string p'.x.v.2.2,.int .i64 p'.x.c,.slice q'.xa p'.x.ks.length q'.xc,.slice q'.sa p'.xs.length q'.sc,.slice q'.ga p'.gs.length q'.gc,.slice q'.ka p'.ks.length q'.kc] 31)).heap.size=w.heap.size+1 by simp]
theorem Km.one (w:World) {p:Pl} {q:Pw} (h:pM w p q):Km (w.alloc (.cells (eS p q) 31)) (some ⟨w.heap.size,0,none⟩) [p]:=by
 have:=Lh w (Nj _) h;unfold Km
 rwa [show (w.alloc (.cells (eS p q) 31)).heap.size=w.heap.size+1 by simp]
def zB (n:Int):List Zp:=[([(3,7,⟨#[]⟩)],n)]
def ME:Value→Option Addr
 | .slice a _ _=>a
 | _=>none
def Mz:Value→Nat
 | .slice _ _ c=>c
 | _=>0
theorem GI {W:World} {a:Option Addr} {n:Nat} {f:Nat→Value} (hn:a=none→n=0) (h1:∀ i,i<n→(f i).oneCell'=true) (h:∀ ad,a=some ad→∀ i,i<n→W.cell? (ad.add i)=some (f i)):Raw W a n 1 ((List.range n).map f):=by
 refine ⟨by simp,?_,hn,?_⟩
 ·intro u hu;obtain ⟨i,hi,rfl⟩:=List.mem_map.1 hu;exact h1 i (List.mem_range.1 hi)
 ·intro ad e j u hj;have hlt:j<n:=by
   rcases NY j n with h | h
   ·exact h
   ·rw [NW (by simpa using h)] at hj; cases hj
  rw [h ad e j hlt]
  simpa [hlt] using hj
theorem wR {W:World} {B1:Nat} {e:TypeId} {v:Value} {n:Nat} {xs:List Value} (ho:W.ownsRow B1 e 1 v n xs):(n=0∧v = .slice none 0 0)∨∃ g cap,v = .slice (some ⟨g,0,none⟩) n cap∧g<W.heap.size∧∀ (i:Nat) (h:i<xs.length),W.cell? ⟨g,i,none⟩=some xs[i]:=by
 have ho':=ho;obtain ⟨hx,⟨rfl,h0⟩ | ⟨g,cap,cur,rfl,hg,hh,hn,hc,hs,ht⟩⟩:=ho
 ·exact .inl ⟨h0,rfl⟩
 ·refine .inr ⟨g,cap,rfl,(ho'.lt g rfl).2,fun i hi=>?_⟩;have:=ho'.cellAt i (by omega);rw [this];simp [hi]
theorem fy.raw {B:Nat} {W:World} {a:Option Addr} {l:List (List Int)} (h:fy B W a l):∃ f:Nat→Value,Raw W a l.length 1 ((List.range l.length).map f)∧∀ (i:Nat) (hi:i<l.length),∃ ai ci,f i = .slice ai l[i].length ci∧bc B W ai l[i]:=by
 rcases h with h | ⟨b,off,ai,ci,e,hlt,h⟩
 ·subst h;exact ⟨fun _=>.slice none 0 0,⟨by simp,by simp,fun _=>rfl,fun _ _ j u hj=>by simp at hj⟩,fun i hi=>by simp at hi⟩
 ·subst e;refine ⟨fun i=>.slice (ai i) (l.getD i []).length (ci i),GI (by intro e; cases e) (fun _ _=>rfl) ?_,fun i hi=>⟨ai i,ci i,by simp [hi],(h i hi).2⟩⟩;intro ad e i hi;cases e;rw [iL,(h i hi).1];simp [hi]
theorem gL.raw {W:World} {a:Option Addr} {l:List (List Zp)} (h:gL W a l):∃ f:Nat→Value,Raw W a l.length 1 ((List.range l.length).map f)∧∀ (i:Nat) (hi:i<l.length),∃ ai ci,f i = .slice ai l[i].length ci∧aL W ai l[i]∧(ai=none→ci=0):=by
 rcases h with h | ⟨b,off,ai,ci,e,hlt,h⟩
 ·subst h;exact ⟨fun _=>.slice none 0 0,⟨by simp,by simp,fun _=>rfl,fun _ _ j u hj=>by simp at hj⟩,fun i hi=>by simp at hi⟩
 ·subst e;refine ⟨fun i=>.slice (ai i) (l.getD i []).length (ci i),GI (by intro e; cases e) (fun _ _=>rfl) ?_,fun i hi=>⟨ai i,ci i,by simp [hi],(h i hi).2⟩⟩;intro ad e i hi;cases e;rw [iL,(h i hi).1];simp [hi]
theorem BX (w:World) (v:Value) (hv:v.oneCell'=true) (T:TypeId):Raw (w.alloc (.cells #[v] T)) (some ⟨w.heap.size,0,none⟩) 1 1 [v]:=by
 refine ⟨rfl,by intro u hu; simp at hu; subst hu; exact hv,(by intro e; cases e),fun ad e j u hj=>?_⟩;cases e
 match j,hj with
 | 0,hj =>
  simp at hj;subst hj;rw [iL];exact cell_of (i:=0) (aw w #[v] T) rfl
theorem CI {W:World} {a:Option Addr} {l:List (List Int)} {c:List Int} {f:Nat→Value} {ca:Option Addr} {cc g:Nat} (ea:a=some ⟨g,0,none⟩) (hg:g<W.heap.size) (h:∀ (i:Nat) (hi:i<((List.range l.length).map f ++ [Value.slice ca c.length cc]).length),W.cell? ⟨g,i,none⟩=some ((List.range l.length).map f ++ [Value.slice ca c.length cc])[i])
  (hf:∀ (i:Nat) (hi:i<l.length),∃ ai ci,f i = .slice ai l[i].length ci∧bc W.heap.size W ai l[i]) (hc:bc W.heap.size W ca c):fy W.heap.size W a (l ++ [c]):=by
 refine .inr ⟨g,0,fun i=>if i<l.length then ME (f i) else ca,fun i=>if i<l.length then Mz (f i) else cc,ea,hg,fun i hi=>?_⟩;have hx:i<((List.range l.length).map f ++ [Value.slice ca c.length cc]).length:=by simpa using hi
 have h1:=h i hx;rw [Np,h1];by_cases hlt:i<l.length
 ·obtain ⟨ai,ci,e,hi'⟩:=hf i hlt;have e2:(l ++ [c])[i]=l[i]:=Ny hlt;have e1:((List.range l.length).map f ++ [Value.slice ca c.length cc])[i]=f i:=by rw [Ny (by simpa using hlt)]; simp
  simp only [e1,e2,e,if_pos hlt,ME,Mz];exact ⟨trivial,hi'⟩
 ·have ei:i=l.length:=by simp at hi; omega
  subst ei;simp [hc]
theorem ID {W:World} {a:Option Addr} {l:List (List Zp)} {c:List Zp} {f:Nat→Value} {ca:Option Addr} {cc g:Nat} (ea:a=some ⟨g,0,none⟩) (hg:g<W.heap.size) (h:∀ (i:Nat) (hi:i<((List.range l.length).map f ++ [Value.slice ca c.length cc]).length),W.cell? ⟨g,i,none⟩=some ((List.range l.length).map f ++ [Value.slice ca c.length cc])[i])
  (hf:∀ (i:Nat) (hi:i<l.length),∃ ai ci,f i = .slice ai l[i].length ci∧aL W ai l[i]∧(ai=none→ci=0)) (hc:aL W ca c) (hcn:ca=none→cc=0):gL W a (l ++ [c]):=by
 refine .inr ⟨g,0,fun i=>if i<l.length then ME (f i) else ca,fun i=>if i<l.length then Mz (f i) else cc,ea,hg,fun i hi=>?_⟩;have hx:i<((List.range l.length).map f ++ [Value.slice ca c.length cc]).length:=by simpa using hi
 have h1:=h i hx;rw [Np,h1];by_cases hlt:i<l.length
 ·obtain ⟨ai,ci,e,hi'⟩:=hf i hlt;have e2:(l ++ [c])[i]=l[i]:=Ny hlt;have e1:((List.range l.length).map f ++ [Value.slice ca c.length cc])[i]=f i:=by rw [Ny (by simpa using hlt)]; simp
  simp only [e1,e2,e,if_pos hlt,ME,Mz];exact ⟨trivial,hi'⟩
 ·have ei:i=l.length:=by simp at hi; omega
  subst ei;simp [hc];exact hcn
theorem Fw (ts:List (List Int)) (cols:List Int) (ta:Option Addr) (tc:Nat) (ca:Option Addr) (cc:Nat) (w:World) (hT:fy w.heap.size w ta ts) (hC:bc w.heap.size w ca cols) (hl:ts.length≤8) :
  Calls Tryz.prog 51 #[.slice (some ⟨w.heap.size+1,0,none⟩) 2 2] ((w.alloc (.cells #[.slice ca cols.length cc] 45)).alloc (.cells #[.slice ta ts.length tc,.slice (some ⟨w.heap.size,0,none⟩) 1 1] 22)) fun e w'=>∃ a c,e = .returned (.slice a (ts ++ [cols]).length c)∧fy w'.heap.size w' a (ts ++ [cols])∧Below w.heap.size w w':=by
 obtain ⟨f,hr,hf⟩:=hT.raw;have hA:=aa w (.cells #[.slice ca cols.length cc] 45);have PC:=gA.new tc 1 (hr.next hA) (BX w (.slice ca cols.length cc) rfl 45) 22;have hz:(w.alloc (.cells #[.slice ca cols.length cc] 45)).heap.size=w.heap.size+1:=by simp
 have hB:Below w.heap.size w ((w.alloc (.cells #[.slice ca cols.length cc] 45)).alloc (.cells #[.slice ta ts.length tc,.slice (some ⟨w.heap.size,0,none⟩) 1 1] 22)):=hA.alloc (by omega) _;rw [hz] at PC;refine (Ap _ _ _ _ _ _ PC (by omega)).mono ?_;rintro e w' ⟨v,rfl,ho,hb⟩;have hb':=chain hB hb;rcases wR ho with ⟨h0,_⟩ | ⟨g,cap,rfl,hg,hc⟩
 ·omega
 refine ⟨_,cap,by simp,CI rfl hg hc (fun i hi=>?_) ((hC.next hb' (Nj _)).up hb'.size),hb'⟩;obtain ⟨ai,ci,e,h⟩:=hf i hi;exact ⟨ai,ci,e,(h.next hb' (Nj _)).up hb'.size⟩
theorem EZ (l r:List Int) (la:Option Addr) (lc:Nat) (ra:Option Addr) (rc:Nat) (w:World) (hl:bc w.heap.size w la l) (hr:bc w.heap.size w ra r) (ER:Hid (r.length=l.length)) (h8:l.length≤1000) :
  Calls Tryz.prog 52 #[.slice la l.length lc,.slice ra r.length rc] w fun e w'=>e = .returned (.bool (decide (l=r)))∧Below w.heap.size w w':=by
 have hne:((l.length:Int) != (r.length:Int))=false:=by simp [ER.out]
 obtain ⟨bb,hbb⟩:∃ bb,decide (l=r)=bb:=⟨_,rfl⟩
 have HB:Hid (decide (l=r)=bb):=hbb;rw [hbb];clear hbb;go_enter Tryz.func52,Tryz.ntmps52;go_wp2_with fail
 clear hne;go_loopw [13] (fun i wr=>∃ j:Nat,j≤l.length∧i = .int .i64 j∧Hid (∀ k,k<j→l[k]? = r[k]?)∧Below w.heap.size w wr) (fun i _=>l.length - (intOf i).toNat)
 case atStart=>exact ⟨0,Nr _,rfl,fun k hk=>by omega,Nk _ _⟩
 case round =>
  obtain ⟨j,hj,rfl,HT,hb⟩:=hrel;by_cases hlt:j<l.length
  ·have hjl:=hlt;have hjr:j<r.length:=by rw [ER.out]; exact hlt
   obtain ⟨b1,o1,rfl,hb1,c1⟩:=(hl.next hb (Nj _)).elem hjl;obtain ⟨b2,o2,rfl,hb2,c2⟩:=(hr.next hb (Nj _)).elem hjr;have hjz:(j:Int)<(l.length:Int):=by omega
   have hjq:(j:Int)<(r.length:Int):=by rw [ER.out]; omega
   have hj0:(0:Int)≤(j:Int):=by omega
   have HBad:Hid (¬ l[j]=r[j]→bb=false):=fun c=>by
    rw [← HB.out];refine decide_eq_false fun e=>c ?_
    subst e;rfl
   have HOk:Hid (l[j]=r[j]→∀ k,k<j+1→l[k]? = r[k]?):=fun c k hk=>by
    rcases NY k j with h | h
    ·exact HT.out k h
    ·obtain rfl:k=j:=by omega
     rw [NF hjl,NF hjr,c]
   clear HT;generalize l[j]=lj at *;generalize r[j]=rj at *;have p1:=ag c1;have p2:=ag c2;haveI:Nonempty (bW wr):=⟨⟨_,Nk _ _⟩⟩
   go_wp2_with fail
   refine aq (by kernel_rfl) (by kernel_rfl) ?_
   repeat (go_big_quiet_step (first | fail))
   refine wpQuiet_nil ?_;rintro w5 ⟨⟨v5,hb5⟩,h5⟩;obtain rfl:w5=v5:=h5;clear p1 p2 this c1 c2;by_cases h0:lj=rj
   ·have HT':Hid (∀ k,k<j+1→l[k]? = r[k]?):=HOk.out h0;subst h0;clear HBad HOk;go_wp2
    go_roundw
    case rel=>exact ⟨j+1,by omega,by go_num,HT',chain hb hb5⟩
    case measure=>simp [intOf]; omega
   ·have e:=HBad.out h0;subst e;have hne:(lj != rj)=true:=by simpa using h0
    clear HBad HOk;go_wp2
    go_ret;exact ⟨rfl,chain hb hb5⟩
  ·have hjn:¬ (j:Int)<(l.length:Int):=by omega
   have e:bb=true:=by
    rw [← HB.out];refine decide_eq_true (List.ext_getElem? fun k=>?_);rcases NY k j with h | h
    ·exact HT.out k h
    ·rw [NW (by omega),NW (by rw [ER.out]; omega)]
   subst e;go_wp2
   go_ret;exact ⟨rfl,hb⟩
end Go.Proofs.YtohjlfhmnmcndaaGreat
namespace Go.Proofs.YtohjlfhmnmcndaaGreat
open Go.RowKit
set_option maxRecDepth 100000
set_option maxHeartbeats 16000000
theorem rP {t:Int} {q:List Zp} (h:aF q=0) (k:List Vl):wt (aR (cY t) q) k=t*wt q k:=by
 rw [j6 (cY t) (by simp [cY]) k q ((bD q).1 h).2.2];rfl
theorem hZ {t:Int} {p q:List Zp} (h:bh t p q=0):aF p=0∧aF q=0∧gG (cM t p q)∧aF (cM t p q)=0∧∀ k,wt (cM t p q) k=wt p k+t*wt q k:=by
 obtain ⟨h1,h2,h3,e⟩:=pP h;rw [e];refine ⟨h1,h2,dH _,qs (fun y hy=>?_) h3,fun k=>?_⟩
 ·rcases List.mem_append.1 hy with hy | hy
  ·exact (((bD p).1 h1).2.1 y hy).1
  ·obtain ⟨x,hx,rfl,_⟩:=eF _ _ y hy;exact (gZ _).2 (((bD q).1 h2).2.1 x hx).1
 ·rw [dO,dG,rP h2]
theorem CF.right {c:List Int} {z:List Zp} (h:CF c z):aF z=0:=h.wW.set
theorem xZ {a b:List Zp} (h:canon a=canon b):aH a=aH b∧bg a=bg b:=by
 have e:aH a=aH b:=by unfold aH; rw [h]
 exact ⟨e,by unfold bg; rw [e,h]⟩
def Ca (S:Nat→Prop) (a b:List (List Zp)):Prop:=∀ i,S i→canon (a.getD i [])=canon (b.getD i [])
mutual
def LU (S:Nat→Prop):Pl→Prop
 | .mk _ n _ _ _ ks=>(ks = []→S n.toNat)∧It S ks
def It (S:Nat→Prop):List Pl→Prop
 | []=>True
 | p :: r=>LU S p∧It S r
end
theorem th {S:Nat→Prop}:∀ {l:List Pl},It S l↔∀ p ∈ l,LU S p
 | []=>by simp [It]
 | p :: r=>by rw [It,th]; simp
theorem yR {a b:List (List Zp)} {k n:Int} {x:Ex} {xs:List Ex} {gs:List Ag} {cs:List (List Int)} {zs:List (List Zp)} (hl:cs.length=zs.length) (h:cs = []→canon (a.getD n.toNat [])=canon (b.getD n.toNat [])):aT a k n x xs gs cs zs=aT b k n x xs gs cs zs:=by
 match cs,zs,hl with
 | [],[],_ =>
  obtain ⟨e1,e2⟩:=xZ (h rfl);simp only [aT];rw [e1,e2]
 | [_],[_],_=>rfl
 | _ :: _ :: _,_ :: _ :: _,_=>rfl
theorem pT {ts:List (List Int)} {a b:List (List Zp)} {S:Nat→Prop} (h:Ca S a b):∀ p,LU S p→aB ts a p=aB ts b p :=
 Pl.ind fun k n x xs gs ks ih hI=>by
  rw [LU,th] at hI
  have hs:∀ (l:List Pl),(∀ p ∈ l,aB ts a p=aB ts b p)→cW ts a l=cW ts b l:=by
   intro l
   induction l with
   | nil=>intro _; rw [cW,cW]
   | cons p r ih' =>
    intro hp;rw [cW,cW,hp p (by simp),ih' fun q hq=>hp q (by simp [hq])]
  have e:=hs ks fun p hp=>ih p hp (hI.2 p hp)
  rw [aB,aB,e];by_cases c:(cW ts b ks).1=0
  ·rw [if_neg (by simpa using c),if_neg (by simpa using c)];have hk:∀ (l:List Pl),(cW ts b l).1=0→(cW ts b l).2.length=l.length:=by
    intro l
    induction l with
    | nil=>intro _; rw [cW]; rfl
    | cons p r ih' =>
     intro h0;rw [cW] at h0 ⊢;by_cases c0:(aB ts b p).1=0
     ·rw [if_neg (by simpa using c0)] at h0 ⊢;simp only [N4];rw [ih' h0]
     ·rw [if_pos c0] at h0; exact absurd h0 c0
   refine yR (by rw [dR,Od,hk ks c]) fun hc=>h _ (hI.1 ?_)
   rw [dR] at hc;exact List.map_eq_nil_iff.1 hc
  ·rw [if_pos c,if_pos c]
structure Cn (data more now:List (List Zp)):Prop where
 len:more.length=data.length
 K9:now.length=data.length
 err:∀ (i:Nat) (h:i<data.length) (h':i<more.length),bh 1 data[i] more[i]=0
 get:∀ (i:Nat) (h:i<data.length) (h':i<more.length) (h'':i<now.length),now[i]=cM 1 data[i] more[i]
theorem Cn.wt {data more now:List (List Zp)} (h:Cn data more now) (i:Nat) (k:List Vl):wt (now.getD i []) k=wt (data.getD i []) k+wt (more.getD i []) k:=by
 by_cases hi:i<data.length
 ·have h1:i<more.length:=by rw [h.len]; exact hi
  have h2:i<now.length:=by rw [h.K9]; exact hi
  rw [NT,NT,NT,NF hi,NF h1,NF h2,Option.getD_some,Option.getD_some,Option.getD_some,h.get i hi h1 h2,(hZ (h.err i hi h1)).2.2.2.2 k,Int.one_mul]
 ·have h1:¬ i<more.length:=by rw [h.len]; exact hi
  have h2:¬ i<now.length:=by rw [h.K9]; exact hi
  rw [NT,NT,NT,NW (by omega),NW (by omega),NW (by omega)];rfl
theorem Cn.set {data more now:List (List Zp)} (h:Cn data more now) (i:Nat) (hi:i<now.length):gG now[i]:=by
 have h0:i<data.length:=by rw [← h.K9]; exact hi
 have h1:i<more.length:=by rw [h.len]; exact h0
 rw [h.get i h0 h1 hi];exact (hZ (h.err i h0 h1)).2.2.1
theorem uH:∀ {l:List (List Int)} {r:List (List Zp)},(∀ (i:Nat) (h:i<l.length) (h':i<r.length),bz l[i] r[i]=0)→cV l r=0
 | [],_,_=>by rw [cV]; intro a l b r h; cases h
 | _ :: _,[],_=>by rw [cV]; intro a l b r _ h; cases h
 | c :: l,z :: r,h=>by
  have h0:=h 0 (by simp) (by simp)
  simp only [Oa] at h0
  rw [cV,if_neg (by simp [h0])]
  exact uH fun i h1 h2=>h (i+1) (by simpa using h1) (by simpa using h2)
theorem GY {ts:List (List Int)} {data:List (List Zp)} (hl:data.length=ts.length) (h:∀ (i:Nat) (h:i<ts.length) (h':i<data.length),bz ts[i] data[i]=0):bG ts data=0:=by
 unfold bG;rw [if_neg (by simp [hl])];exact uH h
theorem yM {ts:List (List Int)} {data:List (List Zp)} {k n:Int} {x:Ex} {xs:List Ex} {gs:List Ag} {p:Pl} (h:(aB ts data (.mk k n x xs gs [p])).1=0) :
  (aB ts data p).1=0∧aB ts data (.mk k n x xs gs [p])=aT data k n x xs gs [ah ts p] [(aB ts data p).2]:=by
 have hk:=nh h;simp only [Pl.ks,Oh,forall_eq] at hk;refine ⟨hk,?_⟩;have e:=fV (ts:=ts) (data:=data) (p:=.mk k n x xs gs [p]) (by simpa [Pl.ks] using hk)
 simpa [Pl.k,Pl.n,Pl.x,Pl.xs,Pl.gs,Pl.ks] using e
theorem xH {ts:List (List Int)} {data:List (List Zp)} {k n:Int} {x:Ex} {xs:List Ex} {gs:List Ag} {p q:Pl} (h:(aB ts data (.mk k n x xs gs [p,q])).1=0) :
  (aB ts data p).1=0∧(aB ts data q).1=0∧aB ts data (.mk k n x xs gs [p,q])=aT data k n x xs gs [ah ts p,ah ts q] [(aB ts data p).2,(aB ts data q).2]:=by
 have hk:=nh h;simp only [Pl.ks,NH,List.not_mem_nil,or_false,forall_eq_or_imp,forall_eq] at hk;refine ⟨hk.1,hk.2,?_⟩;have e:=fV (ts:=ts) (data:=data) (p:=.mk k n x xs gs [p,q]) (by simpa [Pl.ks] using hk)
 simpa [Pl.k,Pl.n,Pl.x,Pl.xs,Pl.gs,Pl.ks] using e
theorem iO {ts:List (List Int)} {data:List (List Zp)} {k n:Int} {x:Ex} {xs:List Ex} {gs:List Ag}:aB ts data (.mk k n x xs gs [])=(aH (data.getD n.toNat []),bg (data.getD n.toNat [])):=by
 have e:=fV (ts:=ts) (data:=data) (p:=.mk k n x xs gs []) (by simp [Pl.ks])
 simpa [Pl.k,Pl.n,Pl.x,Pl.xs,Pl.gs,Pl.ks,aT] using e
theorem fS {ts:List (List Int)} {k n:Int} {x:Ex} {xs:List Ex} {gs:List Ag} {ks:List Pl} {m d:Int} (h:(aQ ts (.mk k n x xs gs ks) m d).1=0):(1≤k∧k≤13)∧ks.length=cJ k∧∀ r ∈ ks,∃ m',(aQ ts r m' (d+1)).1=0:=by
 obtain ⟨h1,h2,_,_⟩:=fO h;obtain ⟨hln,hk1,hk2,_,_⟩:=iY h1;exact ⟨⟨hk1,hk2⟩,hln,gN h2⟩
mutual
theorem iK {z:List Zp} (h:aH z=0) (k:List Vl):wt (bg z) k=wt z k:=by
 unfold bg
 rw [if_pos h,dO]
end
theorem yt {z:List Zp} (h:¬ aH z=0):bg z = []:=by unfold bg; rw [if_neg h]
theorem Dy {data:List (List Zp)} {k n:Int} {x:Ex} {xs:List Ex} {gs:List Ag} {cs:List (List Int)} {zs:List (List Zp)} (h:¬ (aT data k n x xs gs cs zs).1=0):(aT data k n x xs gs cs zs).2 = []:=by
 have hg:¬ aH (data.getD n.toNat [])=0→bg (data.getD n.toNat []) = []:=yt
 match cs,zs,h with
 | [c],[z],h =>
  simp only [aT] at h ⊢;by_cases k2:k=2
  ·rw [if_pos k2] at h ⊢; unfold iq; rw [if_neg h]
  rw [if_neg k2] at h ⊢;by_cases k3:k=3
  ·rw [if_pos k3] at h ⊢; unfold nd; rw [if_neg h]
  rw [if_neg k3] at h ⊢;by_cases k10:k=10
  ·rw [if_pos k10] at h ⊢; unfold gS; rw [if_neg h]
  rw [if_neg k10] at h ⊢;by_cases k11:k=11
  ·rw [if_pos k11] at h ⊢; unfold gS; rw [if_neg h]
  rw [if_neg k11] at h ⊢;by_cases k12:k=12
  ·rw [if_pos k12] at h ⊢; unfold fp; rw [if_neg h]
  rw [if_neg k12] at h ⊢;unfold mV; rw [if_neg h]
 | l :: r :: cr,a :: b :: zr,h =>
  simp only [aT] at h ⊢;by_cases k4:k=4
  ·rw [if_pos k4] at h ⊢; unfold dg; rw [if_neg h]
  rw [if_neg k4] at h ⊢;by_cases k5:k=5
  ·rw [if_pos k5] at h ⊢; unfold dg; rw [if_neg h]
  rw [if_neg k5] at h ⊢;by_cases k6:k=6
  ·rw [if_pos k6] at h ⊢; unfold dg; rw [if_neg h]
  rw [if_neg k6] at h ⊢;by_cases k7:k=7
  ·rw [if_pos k7] at h ⊢; unfold dg; rw [if_neg h]
  rw [if_neg k7] at h ⊢;by_cases k8:k=8
  ·rw [if_pos k8] at h ⊢; unfold cM; rw [if_neg h]
  rw [if_neg k8] at h ⊢;unfold cM; rw [if_neg h]
 | [],_,h=>exact hg h
 | [_],[],h=>exact hg h
 | [_],_ :: _ :: _,h=>exact hg h
 | _ :: _ :: _,[],h=>exact hg h
 | _ :: _ :: _,[_],h=>exact hg h
theorem A7 {ts:List (List Int)} {data:List (List Zp)} {p:Pl} (h:¬ (aB ts data p).1=0):(aB ts data p).2 = []:=by
 cases p with
 | mk k n x xs gs ks =>
  rw [aB] at h ⊢;by_cases c:(cW ts data ks).1=0
  ·rw [if_neg (by simpa using c)] at h ⊢;exact Dy h
  ·rw [if_pos c]
theorem IK {ts:List (List Int)} {data:List (List Zp)} {p:Pl} (h:¬ hM ts data p=0):yr ts data p = []:=by
 by_cases c:aX ts p=0
 ·by_cases c':bG ts data=0
  ·obtain ⟨e1,e2⟩:=qT (p:=p) c c';rw [e2];rw [e1] at h;exact A7 h
  ·exact (sd c c').2
 ·exact (sw c).2
mutual
def jS (k:Int):Pl→Bool
 | .mk kd n _ _ _ ks=>if kd=1 then decide (n=k) else jR k ks
def jR (k:Int):List Pl→Bool
 | []=>false
 | p :: r=>if jS k p then true else jR k r
end
theorem tM {k:Int}:∀ {l:List Pl},jR k l=false→∀ p ∈ l,jS k p=false
 | q :: r,h,p,hp=>by
  rw [jR] at h
  by_cases c:jS k q=true
  ·rw [if_pos c] at h; cases h
  ·rw [if_neg c] at h
   rcases List.mem_cons.1 hp with rfl | hp
   ·simpa using c
   ·exact tM h p hp
theorem Il {ts:List (List Int)} {k:Nat}:∀ (p:Pl) (m d:Int),(aQ ts p m d).1=0→jS k p=false→LU (fun i=>i≠k) p :=
 Pl.ind fun kd n x xs gs ks ih m d hl hs=>by
  obtain ⟨hk,hln,hlk⟩:=fS hl
  obtain ⟨_,_,hE,_⟩:=fO hl
  rw [LU,th]
  rw [jS] at hs
  by_cases c:kd=1
  ·rw [if_pos c] at hs
   have hn:¬ n=k:=by simpa using hs
   have h0:ks = []:=Nu (by rw [hln]; unfold cJ; rw [if_pos c])
   subst h0
   refine ⟨fun _=>?_,fun p hp=>by cases hp⟩
   simp only [kQ,fC] at hE
   have hr:¬ (n<0∨(ts.length:Int)≤n):=fun c'=>by rw [if_pos c'] at hE; cases hE
   show n.toNat≠k
   omega
  ·rw [if_neg c] at hs
   refine ⟨fun h0=>?_,fun p hp=>?_⟩
   ·subst h0
    exfalso
    unfold cJ at hln
    rw [if_neg c] at hln
    split at hln <;> simp at hln
   ·obtain ⟨m',hm'⟩:=hlk p hp
    exact ih p hp m' (d+1) hm' (tM hs p hp)
end Go.Proofs.YtohjlfhmnmcndaaGreat
