/- Together: PF, G8, NK, L1, LQ, E2, NL, NM, NO. -/
import Derived.Laws.StructEq
import Derived.Test.YtohjlfhmnmcndaaGreatD9
import Derived.Test.YtohjlfhmnmcndaaGreatD10
import Derived.Test.YtohjlfhmnmcndaaGreatD11
import Derived.Test.YtohjlfhmnmcndaaGreatD7
import Derived.Test.YtohjlfhmnmcndaaGreatD3
/- The first rows come first: plain facts. -/
namespace Go.Proofs.YtohjlfhmnmcndaaGreat
open Go.RowKit

def oneW:List Vl→Int:=fun _=>1
theorem StK.irrefl (x:Kp):¬ StK x x:=fun h=>StK.not h h
/-- How many rows there are that are there. -/
def posW:List Zp→Int
 | []=>0
 | x :: r=>(if 0<x.2 then x.2 else 0)+posW r
theorem topE_ok {cols:List Int} {xs:List Ex} {n:Int} {z:List Zp} (h:topE cols xs n z=0):listE cols xs=0∧(0≤n∧n≤50)∧InpOk cols z∧gatherE (topL n (inOrd xs z))=0:=by
 unfold topE at h;by_cases h1:listE cols xs=0
 ·rw [if_neg (by simpa using h1)] at h;by_cases h2:n<0∨50<n
  ·rw [if_pos h2] at h; omega
  ·rw [if_neg h2] at h;by_cases h3:inpE cols z=0
   ·rw [if_neg (by simpa using h3)] at h;exact ⟨h1,by omega,(inpE_ok _ _).1 h3,h⟩
   ·rw [if_pos h3] at h; exact absurd h h3
 ·rw [if_pos h1] at h; exact absurd h h1
structure FirstOk (cols:List Int) (key:Int) (n:Int) (z t:List Zp):Prop where
 k0:0≤key
 k1:key<cols.length
 n0:0≤n∧n≤50
 inp:InpOk cols z
 set:IsSet t
 len:t.length≤400
 row:∀ y ∈ t,1≤y.2∧y.2≤wt z y.1∧y.1.length=cols.length
 w6:∀ y ∈ t,y.2≤1000000
 kind:∀ y ∈ t,1≤(y.1.getD key.toNat vl0).1∧(y.1.getD key.toNat vl0).1≤4
 kindz:∀ y ∈ z,1≤(y.1.getD key.toNat vl0).1∧(y.1.getD key.toNat vl0).1≤4
 sum:tot oneW t=min n (posW z)
 rest:∀ r ∈ z,0<r.2→wt t r.1<r.2→tot oneW t=n∧∀ y ∈ t,0≤cmpP (r.1.getD key.toNat vl0) (y.1.getD key.toNat vl0)

/-- The number at a place, as far as its kind has one. -/
def numAt (k:Nat) (r:List Vl):Int:=((bareL r).getD k vl0).2.1
structure CntOk (xs:List Ex) (z t:List Zp):Prop where
 len:t.length≤401
 row:∀ y ∈ t,y.2=1∧y.1.length=xs.length+1∧0≤numAt xs.length y.1∧numAt xs.length y.1≤400000000
 num:∀ y ∈ t,(y.1.getD xs.length vl0).2.1=numAt xs.length y.1
 sum:tot (numAt xs.length) t=posW z
 one:xs.length=0→t.length=1
theorem groupE_ok {cols:List Int} {xs:List Ex} {gs:List Ag} {z:List Zp} (h:groupE cols xs gs z=0):InpOk cols z∧gatherE (groupL xs gs (inOrd xs z))=0:=by
 unfold groupE at h
 split at h
 ·cases h
 ·split at h
  ·rename_i h1; exact absurd h h1
  ·split at h
   ·rename_i h1; exact absurd h h1
   ·split at h
    ·rename_i h1; exact absurd h h1
    ·rename_i h1
     exact ⟨(inpE_ok _ _).1 (Classical.byContradiction h1),h⟩

/-- A set of such columns. -/
structure ZOk (cols:List Int) (z:List Zp):Prop where
 set:IsSet z
 inp:InpOk cols z
theorem fit_bare {cols:List Int} {r:List Vl} (h:FitP cols r):FitP cols (bareL r):=by
 refine ⟨by rw [bareL_length]; exact h.len,fun i hi=>?_⟩;have hi':i<r.length:=by rwa [bareL_length] at hi
 have e:(bareL r)[i]=bareP r[i]:=by simp [bareL]
 rw [e,wrong_bareX];exact h.one i hi'
theorem canon_ok {cols:List Int} {L:List Zp} (h8:cols.length≤8) (hg:gatherE L=0) (hf:∀ x ∈ L,FitP cols x.1):ZOk cols (canon L) :=
 ⟨canon_set L,h8,wrong_canon (fun y hy=>fit_row (hf y hy) h8) hg,fun y hy=>by
  obtain ⟨x,hx,e⟩:=canon_row L y hy
  rw [e]
  exact fit_bare (hf x hx)⟩
theorem filt_ok {c:List Int} {x:Ex} {z:List Zp} (h:filtE c x z=0):ZOk c (filtZ c x z):=by
 have hz:=(filtE_ok h).2;have e:filtZ c x z=canon (filtL x z):=by unfold filtZ; rw [if_pos h]
 rw [e];exact canon_ok hz.cols8 (filt_gather hz.set _) fun y hy=>hz.fit y (List.mem_filter.1 hy).1
theorem of_top {c:List Int} {x:Ex} {r:List Vl} (h:(typeTop c x).2=0) (hf:FitP c r):Of (typeTop c x).1 (valX r x):=valX_of hf x _ (typ_of h)
theorem rowX_fit {c:List Int} {xs:List Ex} {r:List Vl} (h:∀ x ∈ xs,(typeTop c x).2=0) (hf:FitP c r):FitP (typs c xs) (rowX xs r):=by
 refine ⟨by simp [typs,rowX],fun i hi=>?_⟩;have hi':i<xs.length:=by simpa [rowX] using hi
 have e1:(rowX xs r)[i]=valX r xs[i]:=by simp [rowX]
 have e2:(typs c xs).getD i 0=(typeTop c xs[i]).1:=by simp [typs,List.getD_eq_getElem?_getD,hi']
 rw [e1,e2];exact of_top (h _ (List.getElem_mem hi')) hf
theorem map_ok {c:List Int} {xs:List Ex} {z:List Zp} (h:mapE c xs z=0):ZOk (typs c xs) (mapZ c xs z):=by
 obtain ⟨h1,h2,h3⟩:=mapE_ok h;have e:mapZ c xs z=canon (mapL xs z):=by unfold mapZ; rw [if_pos h]
 obtain ⟨l8,lt⟩:=listE_ok h1;rw [e];refine canon_ok (by simpa [typs] using l8) h3 fun y hy=>?_
 obtain ⟨p,hp,rfl⟩:=List.mem_map.1 hy;exact rowX_fit lt (h2.fit p hp)
theorem set_ok {c:List Int} {z:List Zp} (f:Int→Int) (hf:∀ x,inW x=true→inW (f x)=true) (h:InpOk c z):ZOk c (setZ f z):=by
 have hw:=(wrongZ_iff z).1 h.set;have e:setZ f z=weighL f z:=by unfold setZ; rw [if_pos h.set]
 have hs:=weighL_set f z hw.2.2;rw [e];refine ⟨hs,h.cols8,?_,fun y hy=>?_⟩
 ·rw [wrongZ_iff];refine ⟨Nat.le_trans (weighL_len f z) hw.1,fun y hy=>?_,hs.rise⟩;obtain ⟨x,hx,rfl,h0⟩:=weighL_mem f z y hy;exact ⟨(wrongRow_bare _).2 (hw.2.1 x hx).1,h0,hf _ (hw.2.1 x hx).2.2⟩
 ·obtain ⟨x,hx,rfl,_⟩:=weighL_mem f z y hy;exact fit_bare (h.fit x hx)
theorem posF_in {x:Int} (h:inW x=true):inW (posF x)=true:=by
 rw [inW_iff] at *;unfold posF
 split <;> omega
theorem oneF_in {x:Int} (_h:inW x=true):inW (oneF x)=true:=by
 rw [inW_iff];unfold oneF
 split <;> omega
theorem top_ok {c:List Int} {xs:List Ex} {n:Int} {z:List Zp} (h:topE c xs n z=0):ZOk c (topZ c xs n z):=by
 have e:topZ c xs n z=canon (topL n (inOrd xs z)):=by unfold topZ; rw [if_pos h]
 unfold topE at h;by_cases h1:listE c xs=0
 ·rw [if_neg (by simpa using h1)] at h;by_cases h2:n<0∨50<n
  ·rw [if_pos h2] at h; cases h
  ·rw [if_neg h2] at h;by_cases h3:inpE c z=0
   ·rw [if_neg (by simpa using h3)] at h;have hz:=(inpE_ok _ _).1 h3;rw [e];refine canon_ok hz.cols8 h fun y hy=>?_
    obtain ⟨⟨x,hx,e⟩,_⟩:=topL_mem n _ (by omega) (fun x hx=>(inOrd_mem.1 hx).1.2) y hy;rw [e];exact hz.fit _ (inOrd_mem.1 hx).1.1
   ·rw [if_pos h3] at h; exact absurd h h3
 ·rw [if_pos h1] at h; exact absurd h h1
theorem fit_app {l r:List Int} {a b:List Vl} (h:FitP l a) (k:FitP r b):FitP (l ++ r) (a ++ b):=fit_append h k
theorem fit_nulls (r:List Int):FitP r (nulls r.length):=by
 refine ⟨by simp [nulls],fun i hi=>?_⟩;have e:(nulls r.length)[i]=(1,0,⟨#[]⟩):=by simp [nulls]
 rw [e];exact ⟨rfl,.inl rfl⟩
theorem pair_ok {what:Nat} {l r:List Int} {x:Ex} {a b:List Zp} (h:pairE what l r x a b=0):ZOk (if what=1∨what=2 then l else l ++ r) (pairZ what l r x a b):=by
 obtain ⟨hT,hg⟩:=pairE_ok h;have e:pairZ what l r x a b=canon (nameL what r.length x a b):=by unfold pairZ; rw [if_pos h]
 have jn:∀ y ∈ joinL x a b,FitP (l ++ r) y.1:=fun y hy=>by
  unfold joinL at hy;obtain ⟨p,hp,hy⟩:=List.mem_flatMap.1 hy;unfold pairsOf at hy;obtain ⟨q,hq,rfl⟩:=List.mem_map.1 hy;exact fit_app (hT.left.fit p hp) (hT.right.fit q (List.mem_filter.1 hq).1)
 have h8:(l ++ r).length≤8:=by rw [List.length_append]; exact hT.len
 rw [e];by_cases w1:what=1
 ·rw [if_pos (.inl w1)];refine canon_ok hT.left.cols8 hg fun y hy=>?_
  unfold nameL at hy;rw [if_neg (by omega),if_pos w1] at hy;exact hT.left.fit y (List.mem_filter.1 hy).1
 by_cases w2:what=2
 ·rw [if_pos (.inr w2)];refine canon_ok hT.left.cols8 hg fun y hy=>?_
  unfold nameL at hy;rw [if_neg (by omega),if_neg w1,if_pos w2] at hy;exact hT.left.fit y (List.mem_filter.1 hy).1
 rw [if_neg (by omega)];refine canon_ok h8 hg fun y hy=>?_
 unfold nameL at hy;by_cases w0:what=0
 ·rw [if_pos w0] at hy;exact jn y hy
 ·rw [if_neg w0,if_neg w1,if_neg w2] at hy;rcases List.mem_append.1 hy with hy | hy
  ·exact jn y hy
  ·obtain ⟨p,hp,rfl⟩:=List.mem_map.1 hy;exact fit_app (hT.left.fit p (List.mem_filter.1 hp).1) (fit_nulls r)
theorem togsE_get:∀ {l r:List Int},togsE l r=0→∀ (i:Nat),i<l.length→i<r.length→tog (l.getD i 0) (r.getD i 0)=some ((togsL l r).getD i 0)
 | a :: l,b :: r,h,i,h1,h2=>by
  rw [togsE] at h
  have h0:(togR a b).2=0:=by
   by_cases c:(togR a b).2=0
   ·exact c
   ·rw [if_pos c] at h; exact absurd h c
  rw [if_neg (by simp [h0])] at h;cases i with
  | zero =>
   simp only [togsL,List.getD_cons_zero];unfold togR at h0 ⊢;cases ht:tog a b with
   | none=>rw [ht] at h0; cases h0
   | some t=>rfl
  | succ i =>
   simp only [togsL,List.getD_cons_succ];exact togsE_get h i (by simpa using h1) (by simpa using h2)
theorem fit_tog {l r:List Int} (hl:l.length=r.length) (ht:togsE l r=0) {a:List Vl} (h:FitP l a∨FitP r a):FitP (togsL l r) a:=by
 have hn:=togsL_len hl;have len:a.length=l.length:=by rcases h with h | h <;> rw [h.len]; exact hl.symm
 refine ⟨by rw [hn]; exact len,fun i hi=>?_⟩;have hg:=togsE_get ht i (by omega) (by omega);rcases h with h | h
 ·exact of_tog1 hg (h.one i hi)
 ·exact of_tog2 hg (h.one i hi)
theorem bothE_inv {t:Int} {a b:List Zp} (h:bothE t a b=0):wrongZ a=0∧wrongZ b=0∧gatherE (a ++ weighL (timesF t) b)=0∧bothZ t a b=canon (a ++ weighL (timesF t) b):=by
 have e:bothZ t a b=canon (a ++ weighL (timesF t) b):=by unfold bothZ; rw [if_pos h]
 unfold bothE at h;by_cases h1:wrongZ a=0
 ·rw [if_pos h1] at h;by_cases h2:wrongZ b=0
  ·rw [if_pos h2] at h;exact ⟨h1,h2,h,e⟩
  ·rw [if_neg h2] at h; exact absurd h h2
 ·rw [if_neg h1] at h; exact absurd h h1
theorem both_fit {t:Int} {c:List Int} {a b:List Zp} (h:bothE t a b=0) (h8:c.length≤8) (ha:∀ x ∈ a,FitP c x.1) (hb:∀ x ∈ b,FitP c x.1):ZOk c (bothZ t a b):=by
 obtain ⟨_,_,h3,e⟩:=bothE_inv h;rw [e];refine canon_ok h8 h3 fun y hy=>?_
 rcases List.mem_append.1 hy with hy | hy
 ·exact ha y hy
 ·obtain ⟨x,hx,rfl,_⟩:=weighL_mem _ _ y hy;exact fit_bare (hb x hx)
/-! ### groups -/
theorem minP_of {t:Int}:∀ {l:List Wp},(∀ p ∈ l,Of t p.1)→Of t (minP l)
 | [],_=>⟨rfl,.inl rfl⟩
 | p :: r,h=>by
  unfold minP
  have aux:∀ (r:List Wp) (m:Vl),Of t m→(∀ p ∈ r,Of t p.1)→Of t (r.foldl (fun m x=>if cmpP x.1 m<0 then x.1 else m) m):=by
   intro r
   induction r with
   | nil=>intro m hm _; exact hm
   | cons x r ih =>
    intro m hm hr;refine ih _ ?_ fun p hp=>hr p (by simp [hp])
    dsimp only
    split
    ·exact hr x (by simp)
    ·exact hm
  exact aux r p.1 (h p (by simp)) fun q hq=>h q (by simp [hq])
theorem maxP_of {t:Int}:∀ {l:List Wp},(∀ p ∈ l,Of t p.1)→Of t (maxP l)
 | [],_=>⟨rfl,.inl rfl⟩
 | p :: r,h=>by
  unfold maxP
  have aux:∀ (r:List Wp) (m:Vl),Of t m→(∀ p ∈ r,Of t p.1)→Of t (r.foldl (fun m x=>if 0<cmpP x.1 m then x.1 else m) m):=by
   intro r
   induction r with
   | nil=>intro m hm _; exact hm
   | cons x r ih =>
    intro m hm hr;refine ih _ ?_ fun p hp=>hr p (by simp [hp])
    dsimp only
    split
    ·exact hr x (by simp)
    ·exact hm
  exact aux r p.1 (h p (by simp)) fun q hq=>h q (by simp [hq])
theorem of_int {n:Int} (h:-1000000000000000≤n∧n≤1000000000000000):Of 3 (3,n,⟨#[]⟩):=by
 refine ⟨?_,.inr rfl⟩;unfold wrongP wrongF;simp;omega
theorem agg_of {c:List Int} {g:Ag} {rows:List Zp} (h:measE c g=0) (hr:ROk c rows):Of (aggT c g) (aggP g rows):=by
 have hw:=hr.known (measF_right h);unfold aggP totP aggT;by_cases h3:g.1=3
 ·rw [if_pos h3,if_neg (by omega)];unfold sumP
  split
  ·exact ⟨rfl,.inl rfl⟩
  ·split
   ·rename_i hi
    exact of_int (inB_t hi)
   ·exact ⟨rfl,.inl rfl⟩
 ·rw [if_neg h3];by_cases h45:g.1=4∨g.1=5
  ·rw [if_pos h45];have hty:(typeTop c g.2).2=0:=by
    unfold measE at h;rw [if_neg (by omega),if_neg (by omega)] at h;by_cases q:(typeTop c g.2).2=0
    ·exact q
    ·rw [if_pos q] at h; exact absurd h q
   have hk:∀ p ∈ knownL (measF g) rows,Of (typeTop c g.2).1 p.1:=fun p hp=>by
    unfold knownL at hp;obtain ⟨q,hq,e⟩:=List.mem_filterMap.1 hp;have em:measF g q.1=valX q.1 g.2:=by unfold measF; rw [if_neg (by omega)]
    rw [em] at e;by_cases q1:(valX q.1 g.2).1=1
    ·rw [if_pos q1] at e; cases e
    ·rw [if_neg q1] at e;have:=Option.some.inj e;rw [← this];exact of_top hty (hr.fit q hq)
   by_cases h4:g.1=4
   ·rw [if_pos h4]; exact minP_of hk
   ·rw [if_neg h4,if_pos (by omega)]; exact maxP_of hk
  ·rw [if_neg h45,if_neg (by omega),if_neg (by omega)];have hb:=sumW_bd hw.wt;have hl:=hw.len;exact of_int (by omega)
theorem aggsE_all {c:List Int}:∀ {gs:List Ag},aggsE c gs=0→∀ g ∈ gs,measE c g=0
 | g :: r,h,x,hx=>by
  rw [aggsE] at h
  by_cases c0:measE c g=0
  ·rw [if_pos c0] at h
   rcases List.mem_cons.1 hx with rfl | hx
   ·exact c0
   ·exact aggsE_all h x hx
  ·rw [if_neg c0] at h; exact absurd h c0
theorem group_inv {c:List Int} {xs:List Ex} {gs:List Ag} {z:List Zp} (h:groupE c xs gs z=0):xs.length+gs.length≤8∧listE c xs=0∧aggsE c gs=0∧InpOk c z∧gatherE (groupL xs gs (inOrd xs z))=0:=by
 have h0:=groupE_ok h;unfold groupE at h;by_cases h8:8<xs.length+gs.length
 ·rw [if_pos h8] at h; cases h
 rw [if_neg h8] at h;by_cases h1:listE c xs=0
 ·rw [if_neg (by simpa using h1)] at h;by_cases h2:aggsE c gs=0
  ·exact ⟨by omega,h1,h2,h0.1,h0.2⟩
  ·rw [if_pos h2] at h; exact absurd h h2
 ·rw [if_pos h1] at h; exact absurd h h1
theorem group_ok {c:List Int} {xs:List Ex} {gs:List Ag} {z:List Zp} (h:groupE c xs gs z=0):ZOk (typs c xs ++ gs.map (aggT c)) (groupZ c xs gs z):=by
 obtain ⟨h8,h1,h2,hz,hg⟩:=group_inv h;have e:groupZ c xs gs z=canon (groupL xs gs (inOrd xs z)):=by unfold groupZ; rw [if_pos h]
 rw [e];refine canon_ok (by simpa [typs] using h8) hg fun y hy=>?_
 unfold groupL at hy;obtain ⟨p,hp,rfl⟩:=List.mem_map.1 hy;have hpk:=(parts_ok (xs:=xs) hz).2 p hp;refine fit_app ?_ ⟨by simp,fun i hi=>?_⟩
 ·unfold partsG at hp
  split at hp
  ·rename_i hc
   rw [List.mem_singleton.1 hp];have hx:xs = []:=List.eq_nil_of_length_eq_zero hc.1;subst hx;exact ⟨rfl,fun i hi=>by simp at hi⟩
  ·obtain ⟨_,x,hx,e⟩:=partL_mem _ p hp;have hm:=inOrd_mem.1 hx;rw [e,hm.2];exact rowX_fit (listE_ok h1).2 (hz.fit _ hm.1.1)
 ·have hi':i<gs.length:=by simpa using hi
  have e1:(gs.map fun g=>aggP g p.2)[i]=aggP gs[i] p.2:=by simp
  have e2:(gs.map (aggT c)).getD i 0=aggT c gs[i]:=by simp [List.getD_eq_getElem?_getD,hi']
  rw [e1,e2];exact agg_of (aggsE_all h2 _ (List.getElem_mem hi')) hpk.1
/-! ### plans -/
theorem node_ok {ts:List (List Int)} {data:List (List Zp)} {k n:Int} {x:Ex} {xs:List Ex} {gs:List Ag} {cs:List (List Int)} {zs:List (List Zp)} (hq:1≤k∧k≤13) (hlen:cs.length=kidsQ k) (hD:dataE ts data=0)
  (hzl:zs.length=cs.length) (hzs:∀ (i:Nat) (h:i<cs.length) (h':i<zs.length),ZOk cs[i] zs[i]) (hE:nodeE ts k n x xs gs cs=0) (h:(nodeZ data k n x xs gs cs zs).1=0):ZOk (nodeC ts k n xs gs cs) (nodeZ data k n x xs gs cs zs).2:=by
 unfold kidsQ at hlen
 match cs,zs,hzl with
 | [],[],_ =>
  simp only [nodeE] at hE;simp only [nodeZ,nodeC] at h ⊢;have hr:¬ (n<0∨(ts.length:Int)≤n):=fun c=>by rw [if_pos c] at hE; cases hE
  obtain ⟨d1,d2⟩:=dataE_ok hD;have hn:n.toNat<ts.length:=by omega
  have hn':n.toNat<data.length:=by omega
  have hz:=(inpE_ok _ _).1 (d2 n.toNat hn hn');rw [List.getD_eq_getElem?_getD,List.getElem?_eq_getElem hn,Option.getD_some];rw [List.getD_eq_getElem?_getD,List.getElem?_eq_getElem hn',Option.getD_some] at h ⊢;have e:gatherZ data[n.toNat]=canon data[n.toNat]:=by unfold gatherZ; rw [if_pos h]
  rw [e];exact canon_ok hz.cols8 h hz.fit
 | [c],[z],_ =>
  have hz:=hzs 0 (by simp) (by simp);simp only [List.getElem_cons_zero] at hz;have hk:¬ k=1∧¬ (4≤k∧k≤9):=by
   refine ⟨fun c=>?_,fun c=>?_⟩
   ·rw [if_pos c] at hlen; simp at hlen
   ·rw [if_neg (by omega),if_pos c] at hlen; simp at hlen
  simp only [nodeZ,nodeC,oneC] at h ⊢;by_cases k2:k=2
  ·rw [if_pos k2] at h ⊢;rw [if_neg (by omega),if_neg (by omega)];exact filt_ok h
  rw [if_neg k2] at h ⊢;by_cases k3:k=3
  ·rw [if_pos k3] at h ⊢;rw [if_pos k3];exact map_ok h
  rw [if_neg k3] at h ⊢;by_cases k10:k=10
  ·rw [if_pos k10,if_neg k3,if_neg (by omega)];exact set_ok posF (fun x hx=>posF_in hx) hz.inp
  rw [if_neg k10] at h ⊢;by_cases k11:k=11
  ·rw [if_pos k11,if_neg k3,if_neg (by omega)];exact set_ok oneF (fun x hx=>oneF_in hx) hz.inp
  rw [if_neg k11] at h ⊢;by_cases k12:k=12
  ·rw [if_pos k12] at h ⊢;rw [if_neg k3,if_pos k12];exact group_ok h
  rw [if_neg k12] at h ⊢;rw [if_neg k3,if_neg k12];exact top_ok h
 | [l,r],[a,b],_ =>
  have ha:=hzs 0 (by simp) (by simp);have hb:=hzs 1 (by simp) (by simp);simp only [List.getElem_cons_zero,List.getElem_cons_succ] at ha hb;have hk:4≤k∧k≤9:=by
   by_cases c:k=1
   ·rw [if_pos c] at hlen; simp at hlen
   ·rw [if_neg c] at hlen;by_cases c':4≤k∧k≤9
    ·exact c'
    ·rw [if_neg c'] at hlen; simp at hlen
  simp only [nodeE,twoQ] at hE;simp only [nodeZ,nodeC,twoC] at h ⊢;by_cases k4:k=4
  ·rw [if_pos k4] at h ⊢;rw [if_neg (by omega),if_neg (by omega)];exact pair_ok h
  rw [if_neg k4] at h ⊢;by_cases k5:k=5
  ·rw [if_pos k5] at h ⊢;rw [if_neg (by omega),if_pos (by omega)];exact pair_ok h
  rw [if_neg k5] at h ⊢;by_cases k6:k=6
  ·rw [if_pos k6] at h ⊢;rw [if_neg (by omega),if_pos (by omega)];exact pair_ok h
  rw [if_neg k6] at h ⊢;by_cases k7:k=7
  ·rw [if_pos k7] at h ⊢;rw [if_neg (by omega),if_neg (by omega)];exact pair_ok h
  rw [if_neg k7] at h ⊢;have k89:k=8∨k=9:=by omega
  rw [if_pos k89] at hE ⊢;have ht:l.length=r.length∧togsE l r=0:=by
   unfold togE at hE;by_cases c:l.length=r.length
   ·rw [if_neg (by simp [c])] at hE; exact ⟨c,hE⟩
   ·rw [if_pos c] at hE; cases hE
  have h8:(togsL l r).length≤8:=by rw [togsL_len ht.1]; exact ha.inp.cols8
  by_cases k8:k=8
  ·rw [if_pos k8] at h ⊢;exact both_fit h h8 (fun y hy=>fit_tog ht.1 ht.2 (.inl (ha.inp.fit y hy))) (fun y hy=>fit_tog ht.1 ht.2 (.inr (hb.inp.fit y hy)))
  ·rw [if_neg k8] at h ⊢;exact both_fit h h8 (fun y hy=>fit_tog ht.1 ht.2 (.inl (ha.inp.fit y hy))) (fun y hy=>fit_tog ht.1 ht.2 (.inr (hb.inp.fit y hy)))
 | _ :: _ :: _ :: _,_,_ =>
  split at hlen
  ·simp at hlen
  ·split at hlen <;> simp at hlen
theorem evalQ_kids {ts:List (List Int)} {data:List (List Zp)} {p:Pl} (h:(evalQ ts data p).1=0):∀ r ∈ p.ks,(evalQ ts data r).1=0:=by
 intro r hr;obtain ⟨j,hj,rfl⟩:=List.getElem_of_mem hr
 induction j using Nat.strongRecOn with
 | ind j ih =>
  by_cases c:(evalQ ts data p.ks[j]).1=0
  ·exact c
  ·have hb:=evalsQ_bad hj (fun i hi hij=>ih i hij hi (List.getElem_mem hi)) c;rw [evalQ_bad hb c] at h;exact absurd h c
theorem evalQ_ok {ts:List (List Int)} {data:List (List Zp)} (hD:dataE ts data=0):∀ (p:Pl) (m d:Int),(lookX ts p m d).1=0→(evalQ ts data p).1=0→ZOk (colsP ts p) (evalQ ts data p).2 :=
 Pl.ind fun k n x xs gs ks ih m d hl he=>by
  obtain ⟨h1,h2,h3,_⟩:=lookX_node hl
  obtain ⟨hln,hk1,hk2,_,_⟩:=nodeQ_zero h1
  have hk:=evalQ_kids he
  simp only [Pl.ks] at hk
  have e:=evalQ_own (ts:=ts) (data:=data) (p:=.mk k n x xs gs ks) hk
  simp only [Pl.k,Pl.n,Pl.x,Pl.xs,Pl.gs,Pl.ks] at e
  rw [e] at he ⊢
  rw [colsP,colsPs_map]
  rw [colsPs_map] at h3
  refine node_ok ⟨hk1,hk2⟩ (by rw [List.length_map]; exact hln) hD (by rw [List.length_map,List.length_map]) (fun i hi hi'=>?_) h3 he
  have hi2:i<ks.length:=by simpa using hi
  rw [List.getElem_map,List.getElem_map]
  obtain ⟨m',hm'⟩:=looksX_all h2 ks[i] (List.getElem_mem hi2)
  exact ih ks[i] (List.getElem_mem hi2) m' (d+1) hm' (hk _ (List.getElem_mem hi2))
theorem ev_inv {ts:List (List Int)} {data:List (List Zp)} {p:Pl} (h:evE ts data p=0):lookE ts p=0∧dataE ts data=0∧(evalQ ts data p).1=0∧evZ ts data p=(evalQ ts data p).2:=by
 by_cases c:lookE ts p=0
 ·by_cases c':dataE ts data=0
  ·obtain ⟨e1,e2⟩:=evE_own (p:=p) c c';exact ⟨c,c',e1 ▸ h,e2⟩
  ·rw [(evE_data c c').1] at h; exact absurd h c'
 ·rw [(evE_look c).1] at h; exact absurd h c
theorem ev_ok {ts:List (List Int)} {data:List (List Zp)} {p:Pl} (h:evE ts data p=0):ZOk (colsP ts p) (evZ ts data p):=by
 obtain ⟨h1,h2,h3,h4⟩:=ev_inv h;rw [h4];exact evalQ_ok h2 p 0 1 (lookE_ok h1).2 h3
end Go.Proofs.YtohjlfhmnmcndaaGreat
namespace Go.Proofs.YtohjlfhmnmcndaaGreat
open Go.RowKit Go.Lib Go.Shelf

def zA:List Zp:=[([(3,1,⟨#[]⟩)],2),([(3,2,⟨#[]⟩)],1)]
def sA:List Zp:=[([(3,1,⟨#[]⟩)],4),([(3,2,⟨#[]⟩)],2)]

def ex0:Ex:=.mk 0 vl0 0 []
def tabP (n:Int):Pl:=.mk 1 n ex0 [] [] []
def pw0:Pw:=⟨none,0,none,0,none,0,none,0⟩
theorem tabV (n:Int):plV (tabP n) pw0 = .agg #[.int .i64 1,.int .i64 n,.int .i64 0,.int .i64 0,.int .i64 0,.string ⟨#[]⟩,.int .i64 0,.slice none 0 0,.slice none 0 0,.slice none 0 0,.slice none 0 0]:=rfl
theorem tabB (B:Nat) (W:World) (n:Int):PlB B W (tabP n) pw0:=⟨.nil _,.nil _,.inl rfl,.nil _⟩
/-- One plan, two plans in a list. -/
theorem pl_one {B:Nat} (w:World) {p:Pl} {q:Pw} (hB:B≤w.heap.size) (h:PlB B w p q):PlAt (w.heap.size+1) (w.alloc (.cells (pvA p q) 31)) (some ⟨w.heap.size,0,none⟩) [p]:=by
 have Q:=heap_new w (pvA p q) 31;have hb:Below w.heap.size w (w.alloc (.cells (pvA p q) 31)):=(Below.refl _ _).alloc (Nat.le_refl _) _;have h':=(h.next hb hB).up (show B≤w.heap.size+1 by omega);refine .some w.heap.size 0 [p] (fun _=>q) (by omega) ?_ ?_ ?_ ?_ ?_
 ·intro i hi
  match i,hi with
  | 0,_=>exact ⟨cell_of (i:=0) Q rfl,cell_of (i:=1) Q rfl,⟨cell_of (i:=2) Q rfl,cell_of (i:=3) Q rfl,cell_of (i:=4) Q rfl,cell_of (i:=5) Q rfl,cell_of (i:=6) Q rfl,cell_of (i:=7) Q rfl⟩,cell_of (i:=8) Q rfl,cell_of (i:=9) Q rfl,cell_of (i:=10) Q rfl⟩
 ·intro i hi
  match i,hi with
  | 0,_=>exact h'.x
 ·intro i hi
  match i,hi with
  | 0,_=>exact h'.xs
 ·intro i hi
  match i,hi with
  | 0,_=>exact h'.gs
 ·intro i hi
  match i,hi with
  | 0,_=>exact h'.ks
theorem pl_two {B:Nat} (w:World) {p p':Pl} {q q':Pw} (hB:B≤w.heap.size) (h:PlB B w p q) (k:PlB B w p' q'):PlAt (w.heap.size+1) (w.alloc (.cells #[.int .i64 p.k,.int .i64 p.n,.int .i64 p.x.k,.int .i64 p.x.v.1,.int .i64 p.x.v.2.1,.string p.x.v.2.2,.int .i64 p.x.c,.slice q.xa p.x.ks.length q.xc,.slice q.sa p.xs.length q.sc,.slice q.ga p.gs.length q.gc,.slice q.ka p.ks.length q.kc,.int .i64 p'.k,.int .i64 p'.n,.int .i64 p'.x.k,.int .i64 p'.x.v.1,.int .i64 p'.x.v.2.1,.string p'.x.v.2.2,.int .i64 p'.x.c,.slice q'.xa p'.x.ks.length q'.xc,.slice q'.sa p'.xs.length q'.sc,.slice q'.ga p'.gs.length q'.gc,.slice q'.ka p'.ks.length q'.kc] 31)) (some ⟨w.heap.size,0,none⟩) [p,p']:=by
 have Q:=heap_new w #[.int .i64 p.k,.int .i64 p.n,.int .i64 p.x.k,.int .i64 p.x.v.1,.int .i64 p.x.v.2.1,.string p.x.v.2.2,.int .i64 p.x.c,.slice q.xa p.x.ks.length q.xc,.slice q.sa p.xs.length q.sc,.slice q.ga p.gs.length q.gc,.slice q.ka p.ks.length q.kc,.int .i64 p'.k,.int .i64 p'.n,.int .i64 p'.x.k,.int .i64 p'.x.v.1,.int .i64 p'.x.v.2.1,.string p'.x.v.2.2,.int .i64 p'.x.c,.slice q'.xa p'.x.ks.length q'.xc,.slice q'.sa p'.xs.length q'.sc,.slice q'.ga p'.gs.length q'.gc,.slice q'.ka p'.ks.length q'.kc] 31
 have hb:Below w.heap.size w (w.alloc (.cells #[.int .i64 p.k,.int .i64 p.n,.int .i64 p.x.k,.int .i64 p.x.v.1,.int .i64 p.x.v.2.1,.string p.x.v.2.2,.int .i64 p.x.c,.slice q.xa p.x.ks.length q.xc,.slice q.sa p.xs.length q.sc,.slice q.ga p.gs.length q.gc,.slice q.ka p.ks.length q.kc,.int .i64 p'.k,.int .i64 p'.n,.int .i64 p'.x.k,.int .i64 p'.x.v.1,.int .i64 p'.x.v.2.1,.string p'.x.v.2.2,.int .i64 p'.x.c,.slice q'.xa p'.x.ks.length q'.xc,.slice q'.sa p'.xs.length q'.sc,.slice q'.ga p'.gs.length q'.gc,.slice q'.ka p'.ks.length q'.kc] 31)):=(Below.refl _ _).alloc (Nat.le_refl _) _
 have h':=(h.next hb hB).up (show B≤w.heap.size+1 by omega);have k':=(k.next hb hB).up (show B≤w.heap.size+1 by omega);refine .some w.heap.size 0 [p,p'] (fun i=>if i=0 then q else q') (by omega) ?_ ?_ ?_ ?_ ?_
 ·intro i hi
  match i,hi with
  | 0,_=>exact ⟨cell_of (i:=0) Q rfl,cell_of (i:=1) Q rfl,⟨cell_of (i:=2) Q rfl,cell_of (i:=3) Q rfl,cell_of (i:=4) Q rfl,cell_of (i:=5) Q rfl,cell_of (i:=6) Q rfl,cell_of (i:=7) Q rfl⟩,cell_of (i:=8) Q rfl,cell_of (i:=9) Q rfl,cell_of (i:=10) Q rfl⟩
  | 1,_=>exact ⟨cell_of (i:=11) Q rfl,cell_of (i:=12) Q rfl,⟨cell_of (i:=13) Q rfl,cell_of (i:=14) Q rfl,cell_of (i:=15) Q rfl,cell_of (i:=16) Q rfl,cell_of (i:=17) Q rfl,cell_of (i:=18) Q rfl⟩,cell_of (i:=19) Q rfl,cell_of (i:=20) Q rfl,cell_of (i:=21) Q rfl⟩
 ·intro i hi
  match i,hi with
  | 0,_=>exact h'.x
  | 1,_=>exact k'.x
 ·intro i hi
  match i,hi with
  | 0,_=>exact h'.xs
  | 1,_=>exact k'.xs
 ·intro i hi
  match i,hi with
  | 0,_=>exact h'.gs
  | 1,_=>exact k'.gs
 ·intro i hi
  match i,hi with
  | 0,_=>exact h'.ks
  | 1,_=>exact k'.ks
theorem tb_one {w:World} {a:Option Addr} {c:List Int} {cap:Nat} (h:IsAt w.heap.size w a c):TbAt (w.heap.size+1) (w.alloc (.cells #[.slice a c.length cap] 45)) (some ⟨w.heap.size,0,none⟩) [c]:=by
 have hb:Below w.heap.size w (w.alloc (.cells #[.slice a c.length cap] 45)):=(Below.refl _ _).alloc (Nat.le_refl _) _;refine .inr ⟨w.heap.size,0,fun _=>a,fun _=>cap,rfl,by omega,fun i hi=>?_⟩
 match i,hi with
 | 0,_=>exact ⟨by simp,(h.next hb (Nat.le_refl _)).up (by omega)⟩
theorem dt_one {w:World} {a:Option Addr} {z:List Zp} {cap:Nat} (h:ZsAt w a z) (hn:a=none→cap=0):DtAt (w.alloc (.cells #[.slice a z.length cap] 34)) (some ⟨w.heap.size,0,none⟩) [z]:=by
 have hb:Below w.heap.size w (w.alloc (.cells #[.slice a z.length cap] 34)):=(Below.refl _ _).alloc (Nat.le_refl _) _;refine .inr ⟨w.heap.size,0,fun _=>a,fun _=>cap,rfl,by simp,fun i hi=>?_⟩
 match i,hi with
 | 0,_=>exact ⟨by simp,h.next hb,hn⟩
theorem is_one (w:World) (n:Int):IsAt (w.heap.size+1) (w.alloc (.cells #[.int .i64 n] 3)) (some ⟨w.heap.size,0,none⟩) [n] :=
 ⟨by unfold maxLen; simp,.inr ⟨w.heap.size,0,rfl,by omega,fun i hi=>by
  match i,hi with
  | 0,_=>simp⟩⟩
def TbX (w:World) (a:Option Addr) (ts:List (List Int)):Prop:=TbAt w.heap.size w a ts
theorem TbX.next {w w1:World} {a:Option Addr} {ts:List (List Int)} (h:TbX w a ts) (hb:Below w.heap.size w w1):TbX w1 a ts:=(TbAt.next h hb (Nat.le_refl _)).up hb.size
def PlX (w:World) (p:Pl) (q:Pw):Prop:=PlB w.heap.size w p q
theorem PlX.next {w w1:World} {p:Pl} {q:Pw} (h:PlX w p q) (hb:Below w.heap.size w w1):PlX w1 p q:=(PlB.next h hb (Nat.le_refl _)).up hb.size
def PsX (w:World) (a:Option Addr) (ks:List Pl):Prop:=PlAt w.heap.size w a ks
theorem PsX.next {w w1:World} {a:Option Addr} {ks:List Pl} (h:PsX w a ks) (hb:Below w.heap.size w w1):PsX w1 a ks:=(PlAt.next hb (Nat.le_refl _) h).up hb.size
def IX (w:World) (a:Option Addr) (l:List Int):Prop:=IsAt w.heap.size w a l
theorem IX.next {w w1:World} {a:Option Addr} {l:List Int} (h:IX w a l) (hb:Below w.heap.size w w1):IX w1 a l:=(IsAt.next h hb (Nat.le_refl _)).up hb.size
structure ElX (w:World) (b:Nat) (p:Pl) (q:Pw):Prop where
 el:Elv w b 0 p q
 lt:b<w.heap.size
theorem ElX.next {w w1:World} {b:Nat} {p:Pl} {q:Pw} (h:ElX w b p q) (hb:Below w.heap.size w w1):ElX w1 b p q:=⟨h.el.next hb h.lt,Nat.lt_of_lt_of_le h.lt hb.size⟩
theorem TbX.one {w:World} {a:Option Addr} {c:List Int} (cap:Nat) (h:IX w a c):TbX (w.alloc (.cells #[.slice a c.length cap] 45)) (some ⟨w.heap.size,0,none⟩) [c]:=by
 have:=tb_one (cap:=cap) h;unfold TbX
 rwa [show (w.alloc (.cells #[.slice a c.length cap] 45)).heap.size=w.heap.size+1 by simp]
theorem IX.one (w:World) (n:Int):IX (w.alloc (.cells #[.int .i64 n] 3)) (some ⟨w.heap.size,0,none⟩) [n]:=by
 have:=is_one w n;unfold IX
 rwa [show (w.alloc (.cells #[.int .i64 n] 3)).heap.size=w.heap.size+1 by simp]
theorem PsX.two (w:World) {p p':Pl} {q q':Pw} (h:PlX w p q) (k:PlX w p' q'):PsX (w.alloc (.cells #[.int .i64 p.k,.int .i64 p.n,.int .i64 p.x.k,.int .i64 p.x.v.1,.int .i64 p.x.v.2.1,.string p.x.v.2.2,.int .i64 p.x.c,.slice q.xa p.x.ks.length q.xc,.slice q.sa p.xs.length q.sc,.slice q.ga p.gs.length q.gc,.slice q.ka p.ks.length q.kc,.int .i64 p'.k,.int .i64 p'.n,.int .i64 p'.x.k,.int .i64 p'.x.v.1,.int .i64 p'.x.v.2.1,.string p'.x.v.2.2,.int .i64 p'.x.c,.slice q'.xa p'.x.ks.length q'.xc,.slice q'.sa p'.xs.length q'.sc,.slice q'.ga p'.gs.length q'.gc,.slice q'.ka p'.ks.length q'.kc] 31)) (some ⟨w.heap.size,0,none⟩) [p,p']:=by
 have:=pl_two w (Nat.le_refl _) h k;unfold PsX
 rwa [show (w.alloc (.cells #[.int .i64 p.k,.int .i64 p.n,.int .i64 p.x.k,.int .i64 p.x.v.1,.int .i64 p.x.v.2.1,.string p.x.v.2.2,.int .i64 p.x.c,.slice q.xa p.x.ks.length q.xc,.slice q.sa p.xs.length q.sc,.slice q.ga p.gs.length q.gc,.slice q.ka p.ks.length q.kc,.int .i64 p'.k,.int .i64 p'.n,.int .i64 p'.x.k,.int .i64 p'.x.v.1,.int .i64 p'.x.v.2.1,.string p'.x.v.2.2,.int .i64 p'.x.c,.slice q'.xa p'.x.ks.length q'.xc,.slice q'.sa p'.xs.length q'.sc,.slice q'.ga p'.gs.length q'.gc,.slice q'.ka p'.ks.length q'.kc] 31)).heap.size=w.heap.size+1 by simp]
theorem PsX.one (w:World) {p:Pl} {q:Pw} (h:PlX w p q):PsX (w.alloc (.cells (pvA p q) 31)) (some ⟨w.heap.size,0,none⟩) [p]:=by
 have:=pl_one w (Nat.le_refl _) h;unfold PsX
 rwa [show (w.alloc (.cells (pvA p q) 31)).heap.size=w.heap.size+1 by simp]
/-! ### plain -/
def zB (n:Int):List Zp:=[([(3,7,⟨#[]⟩)],n)]

def saV:Value→Option Addr
 | .slice a _ _=>a
 | _=>none
def scV:Value→Nat
 | .slice _ _ c=>c
 | _=>0
theorem raw_sl {W:World} {a:Option Addr} {n:Nat} {f:Nat→Value} (hn:a=none→n=0) (h1:∀ i,i<n→(f i).oneCell'=true) (h:∀ ad,a=some ad→∀ i,i<n→W.cell? (ad.add i)=some (f i)):Raw W a n 1 ((List.range n).map f):=by
 refine ⟨by simp,?_,hn,?_⟩
 ·intro u hu;obtain ⟨i,hi,rfl⟩:=List.mem_map.1 hu;exact h1 i (List.mem_range.1 hi)
 ·intro ad e j u hj;have hlt:j<n:=by
   rcases Nat.lt_or_ge j n with h | h
   ·exact h
   ·rw [List.getElem?_eq_none (by simpa using h)] at hj; cases hj
  rw [h ad e j hlt]
  simpa [hlt] using hj
theorem own_sls {W:World} {B1:Nat} {e:TypeId} {v:Value} {n:Nat} {xs:List Value} (ho:W.ownsRow B1 e 1 v n xs):(n=0∧v = .slice none 0 0)∨∃ g cap,v = .slice (some ⟨g,0,none⟩) n cap∧g<W.heap.size∧∀ (i:Nat) (h:i<xs.length),W.cell? ⟨g,i,none⟩=some xs[i]:=by
 have ho':=ho;obtain ⟨hx,⟨rfl,h0⟩ | ⟨g,cap,cur,rfl,hg,hh,hn,hc,hs,ht⟩⟩:=ho
 ·exact .inl ⟨h0,rfl⟩
 ·refine .inr ⟨g,cap,rfl,(ho'.lt g rfl).2,fun i hi=>?_⟩;have:=ho'.cellAt i (by omega);rw [this];simp [hi]
theorem TbAt.raw {B:Nat} {W:World} {a:Option Addr} {l:List (List Int)} (h:TbAt B W a l):∃ f:Nat→Value,Raw W a l.length 1 ((List.range l.length).map f)∧∀ (i:Nat) (hi:i<l.length),∃ ai ci,f i = .slice ai l[i].length ci∧IsAt B W ai l[i]:=by
 rcases h with h | ⟨b,off,ai,ci,e,hlt,h⟩
 ·subst h;exact ⟨fun _=>.slice none 0 0,⟨by simp,by simp,fun _=>rfl,fun _ _ j u hj=>by simp at hj⟩,fun i hi=>by simp at hi⟩
 ·subst e;refine ⟨fun i=>.slice (ai i) (l.getD i []).length (ci i),raw_sl (by intro e; cases e) (fun _ _=>rfl) ?_,fun i hi=>⟨ai i,ci i,by simp [hi],(h i hi).2⟩⟩;intro ad e i hi;cases e;rw [addr_addJ,(h i hi).1];simp [hi]
theorem DtAt.raw {W:World} {a:Option Addr} {l:List (List Zp)} (h:DtAt W a l):∃ f:Nat→Value,Raw W a l.length 1 ((List.range l.length).map f)∧∀ (i:Nat) (hi:i<l.length),∃ ai ci,f i = .slice ai l[i].length ci∧ZsAt W ai l[i]∧(ai=none→ci=0):=by
 rcases h with h | ⟨b,off,ai,ci,e,hlt,h⟩
 ·subst h;exact ⟨fun _=>.slice none 0 0,⟨by simp,by simp,fun _=>rfl,fun _ _ j u hj=>by simp at hj⟩,fun i hi=>by simp at hi⟩
 ·subst e;refine ⟨fun i=>.slice (ai i) (l.getD i []).length (ci i),raw_sl (by intro e; cases e) (fun _ _=>rfl) ?_,fun i hi=>⟨ai i,ci i,by simp [hi],(h i hi).2⟩⟩;intro ad e i hi;cases e;rw [addr_addJ,(h i hi).1];simp [hi]
theorem raw_one (w:World) (v:Value) (hv:v.oneCell'=true) (T:TypeId):Raw (w.alloc (.cells #[v] T)) (some ⟨w.heap.size,0,none⟩) 1 1 [v]:=by
 refine ⟨rfl,by intro u hu; simp at hu; subst hu; exact hv,(by intro e; cases e),fun ad e j u hj=>?_⟩;cases e
 match j,hj with
 | 0,hj =>
  simp at hj;subst hj;rw [addr_addJ];exact cell_of (i:=0) (heap_new w #[v] T) rfl
theorem tb_snoc {W:World} {a:Option Addr} {l:List (List Int)} {c:List Int} {f:Nat→Value} {ca:Option Addr} {cc g:Nat} (ea:a=some ⟨g,0,none⟩) (hg:g<W.heap.size) (h:∀ (i:Nat) (hi:i<((List.range l.length).map f ++ [Value.slice ca c.length cc]).length),W.cell? ⟨g,i,none⟩=some ((List.range l.length).map f ++ [Value.slice ca c.length cc])[i])
  (hf:∀ (i:Nat) (hi:i<l.length),∃ ai ci,f i = .slice ai l[i].length ci∧IsAt W.heap.size W ai l[i]) (hc:IsAt W.heap.size W ca c):TbAt W.heap.size W a (l ++ [c]):=by
 refine .inr ⟨g,0,fun i=>if i<l.length then saV (f i) else ca,fun i=>if i<l.length then scV (f i) else cc,ea,hg,fun i hi=>?_⟩;have hx:i<((List.range l.length).map f ++ [Value.slice ca c.length cc]).length:=by simpa using hi
 have h1:=h i hx;rw [Nat.zero_add,h1];by_cases hlt:i<l.length
 ·obtain ⟨ai,ci,e,hi'⟩:=hf i hlt;have e2:(l ++ [c])[i]=l[i]:=List.getElem_append_left hlt;have e1:((List.range l.length).map f ++ [Value.slice ca c.length cc])[i]=f i:=by rw [List.getElem_append_left (by simpa using hlt)]; simp
  simp only [e1,e2,e,if_pos hlt,saV,scV];exact ⟨trivial,hi'⟩
 ·have ei:i=l.length:=by simp at hi; omega
  subst ei;simp [hc]
theorem dt_snoc {W:World} {a:Option Addr} {l:List (List Zp)} {c:List Zp} {f:Nat→Value} {ca:Option Addr} {cc g:Nat} (ea:a=some ⟨g,0,none⟩) (hg:g<W.heap.size) (h:∀ (i:Nat) (hi:i<((List.range l.length).map f ++ [Value.slice ca c.length cc]).length),W.cell? ⟨g,i,none⟩=some ((List.range l.length).map f ++ [Value.slice ca c.length cc])[i])
  (hf:∀ (i:Nat) (hi:i<l.length),∃ ai ci,f i = .slice ai l[i].length ci∧ZsAt W ai l[i]∧(ai=none→ci=0)) (hc:ZsAt W ca c) (hcn:ca=none→cc=0):DtAt W a (l ++ [c]):=by
 refine .inr ⟨g,0,fun i=>if i<l.length then saV (f i) else ca,fun i=>if i<l.length then scV (f i) else cc,ea,hg,fun i hi=>?_⟩;have hx:i<((List.range l.length).map f ++ [Value.slice ca c.length cc]).length:=by simpa using hi
 have h1:=h i hx;rw [Nat.zero_add,h1];by_cases hlt:i<l.length
 ·obtain ⟨ai,ci,e,hi'⟩:=hf i hlt;have e2:(l ++ [c])[i]=l[i]:=List.getElem_append_left hlt;have e1:((List.range l.length).map f ++ [Value.slice ca c.length cc])[i]=f i:=by rw [List.getElem_append_left (by simpa using hlt)]; simp
  simp only [e1,e2,e,if_pos hlt,saV,scV];exact ⟨trivial,hi'⟩
 ·have ei:i=l.length:=by simp at hi; omega
  subst ei;simp [hc];exact hcn
/-- The tables, and one more. -/
theorem wideT_at (ts:List (List Int)) (cols:List Int) (ta:Option Addr) (tc:Nat) (ca:Option Addr) (cc:Nat) (w:World) (hT:TbAt w.heap.size w ta ts) (hC:IsAt w.heap.size w ca cols) (hl:ts.length≤8) :
  Calls Tryz.prog 51 #[.slice (some ⟨w.heap.size+1,0,none⟩) 2 2] ((w.alloc (.cells #[.slice ca cols.length cc] 45)).alloc (.cells #[.slice ta ts.length tc,.slice (some ⟨w.heap.size,0,none⟩) 1 1] 22)) fun e w'=>∃ a c,e = .returned (.slice a (ts ++ [cols]).length c)∧TbAt w'.heap.size w' a (ts ++ [cols])∧Below w.heap.size w w':=by
 obtain ⟨f,hr,hf⟩:=hT.raw;have hA:Below w.heap.size w (w.alloc (.cells #[.slice ca cols.length cc] 45)):=(Below.refl _ _).alloc (Nat.le_refl _) _;have PC:=PairC.new tc 1 (hr.next hA) (raw_one w (.slice ca cols.length cc) rfl 45) 22;have hz:(w.alloc (.cells #[.slice ca cols.length cc] 45)).heap.size=w.heap.size+1:=by simp
 have hB:Below w.heap.size w ((w.alloc (.cells #[.slice ca cols.length cc] 45)).alloc (.cells #[.slice ta ts.length tc,.slice (some ⟨w.heap.size,0,none⟩) 1 1] 22)):=hA.alloc (by omega) _;rw [hz] at PC;refine (concatT_at _ _ _ _ _ _ PC (by omega)).mono ?_;rintro e w' ⟨v,rfl,ho,hb⟩;have hb':=chain hB hb;rcases own_sls ho with ⟨h0,_⟩ | ⟨g,cap,rfl,hg,hc⟩
 ·omega
 refine ⟨_,cap,by simp,tb_snoc rfl hg hc (fun i hi=>?_) ((hC.next hb' (Nat.le_refl _)).up hb'.size),hb'⟩;obtain ⟨ai,ci,e,h⟩:=hf i hi;exact ⟨ai,ci,e,(h.next hb' (Nat.le_refl _)).up hb'.size⟩
set_option maxRecDepth 100000 in
set_option maxHeartbeats 2000000 in
theorem equalI_at (l r:List Int) (la:Option Addr) (lc:Nat) (ra:Option Addr) (rc:Nat) (w:World) (hl:IsAt w.heap.size w la l) (hr:IsAt w.heap.size w ra r) (ER:Hid (r.length=l.length)) (h8:l.length≤1000) :
  Calls Tryz.prog 52 #[.slice la l.length lc,.slice ra r.length rc] w fun e w'=>e = .returned (.bool (decide (l=r)))∧Below w.heap.size w w':=by
 have hne:((l.length:Int) != (r.length:Int))=false:=by simp [ER.out]
 obtain ⟨bb,hbb⟩:∃ bb,decide (l=r)=bb:=⟨_,rfl⟩
 have HB:Hid (decide (l=r)=bb):=hbb;rw [hbb];clear hbb;go_enter Tryz.func52,Tryz.ntmps52;go_wp2_with fail
 clear hne;go_loopw [13] (fun i wr=>∃ j:Nat,j≤l.length∧i = .int .i64 j∧Hid (∀ k,k<j→l[k]? = r[k]?)∧Below w.heap.size w wr) (fun i _=>l.length - (intOf i).toNat)
 case atStart=>exact ⟨0,Nat.zero_le _,rfl,fun k hk=>by omega,Below.refl _ _⟩
 case round =>
  obtain ⟨j,hj,rfl,HT,hb⟩:=hrel;by_cases hlt:j<l.length
  ·have hjl:=hlt;have hjr:j<r.length:=by rw [ER.out]; exact hlt
   obtain ⟨b1,o1,rfl,hb1,c1⟩:=(hl.next hb (Nat.le_refl _)).elem hjl;obtain ⟨b2,o2,rfl,hb2,c2⟩:=(hr.next hb (Nat.le_refl _)).elem hjr;have hjz:(j:Int)<(l.length:Int):=by omega
   have hjq:(j:Int)<(r.length:Int):=by rw [ER.out]; omega
   have hj0:(0:Int)≤(j:Int):=by omega
   have HBad:Hid (¬ l[j]=r[j]→bb=false):=fun c=>by
    rw [← HB.out];refine decide_eq_false fun e=>c ?_
    subst e;rfl
   have HOk:Hid (l[j]=r[j]→∀ k,k<j+1→l[k]? = r[k]?):=fun c k hk=>by
    rcases Nat.lt_or_ge k j with h | h
    ·exact HT.out k h
    ·obtain rfl:k=j:=by omega
     rw [List.getElem?_eq_getElem hjl,List.getElem?_eq_getElem hjr,c]
   clear HT;generalize l[j]=lj at *;generalize r[j]=rj at *;have p1:=past_cell c1;have p2:=past_cell c2;haveI:Nonempty (Past wr):=⟨⟨_,Below.refl _ _⟩⟩
   go_wp2_with fail
   refine wp_region_past (by kernel_rfl) (by kernel_rfl) ?_
   repeat (go_big_quiet_step (first | fail))
   refine wpQuiet_nil ?_;rintro w5 ⟨⟨v5,hb5⟩,h5⟩;obtain rfl:w5=v5:=h5;clear p1 p2 this c1 c2;by_cases h0:lj=rj
   ·have HT':Hid (∀ k,k<j+1→l[k]? = r[k]?):=HOk.out h0;subst h0;clear HBad HOk;go_wp2
    go_roundw
    case rel=>exact ⟨j+1,by omega,by go_num,HT',chain hb hb5⟩
    case measure=>simp [intOf]; omega
   ·have e:=HBad.out h0;subst e;have hne:(lj != rj)=true:=by simpa using h0
    clear HBad HOk;go_wp2
    go_ret;exact ⟨rfl,chain hb hb5⟩
  ·have hjn:¬ (j:Int)<(l.length:Int):=by omega
   have e:bb=true:=by
    rw [← HB.out];refine decide_eq_true (List.ext_getElem? fun k=>?_);rcases Nat.lt_or_ge k j with h | h
    ·exact HT.out k h
    ·rw [List.getElem?_eq_none (by omega),List.getElem?_eq_none (by rw [ER.out]; omega)]
   subst e;go_wp2
   go_ret;exact ⟨rfl,hb⟩
end Go.Proofs.YtohjlfhmnmcndaaGreat
namespace Go.Proofs.YtohjlfhmnmcndaaGreat
open Go.RowKit

theorem times_wt {t:Int} {q:List Zp} (h:wrongZ q=0) (k:List Vl):wt (weighL (timesF t) q) k=t*wt q k:=by
 rw [weighL_wt (timesF t) (by simp [timesF]) k q ((wrongZ_iff q).1 h).2.2];rfl
theorem both_inv {t:Int} {p q:List Zp} (h:bothE t p q=0):wrongZ p=0∧wrongZ q=0∧IsSet (bothZ t p q)∧wrongZ (bothZ t p q)=0∧∀ k,wt (bothZ t p q) k=wt p k+t*wt q k:=by
 obtain ⟨h1,h2,h3,e⟩:=bothE_inv h;rw [e];refine ⟨h1,h2,canon_set _,wrong_canon (fun y hy=>?_) h3,fun k=>?_⟩
 ·rcases List.mem_append.1 hy with hy | hy
  ·exact (((wrongZ_iff p).1 h1).2.1 y hy).1
  ·obtain ⟨x,hx,rfl,_⟩:=weighL_mem _ _ y hy;exact (wrongRow_bare _).2 (((wrongZ_iff q).1 h2).2.1 x hx).1
 ·rw [canon_wt,wt_append,times_wt h2]
theorem ZOk.right {c:List Int} {z:List Zp} (h:ZOk c z):wrongZ z=0:=h.inp.set
theorem gather_same {a b:List Zp} (h:canon a=canon b):gatherE a=gatherE b∧gatherZ a=gatherZ b:=by
 have e:gatherE a=gatherE b:=by unfold gatherE; rw [h]
 exact ⟨e,by unfold gatherZ; rw [e,h]⟩
/-- Tables of the same rows, but for what is not asked. -/
def SameT (S:Nat→Prop) (a b:List (List Zp)):Prop:=∀ i,S i→canon (a.getD i [])=canon (b.getD i [])
mutual
/-- The tables that a plan speaks of are among these. -/
def InT (S:Nat→Prop):Pl→Prop
 | .mk _ n _ _ _ ks=>(ks = []→S n.toNat)∧InTs S ks
def InTs (S:Nat→Prop):List Pl→Prop
 | []=>True
 | p :: r=>InT S p∧InTs S r
end
theorem InTs_mem {S:Nat→Prop}:∀ {l:List Pl},InTs S l↔∀ p ∈ l,InT S p
 | []=>by simp [InTs]
 | p :: r=>by rw [InTs,InTs_mem]; simp
theorem nodeZ_congr {a b:List (List Zp)} {k n:Int} {x:Ex} {xs:List Ex} {gs:List Ag} {cs:List (List Int)} {zs:List (List Zp)} (hl:cs.length=zs.length) (h:cs = []→canon (a.getD n.toNat [])=canon (b.getD n.toNat [])):nodeZ a k n x xs gs cs zs=nodeZ b k n x xs gs cs zs:=by
 match cs,zs,hl with
 | [],[],_ =>
  obtain ⟨e1,e2⟩:=gather_same (h rfl);simp only [nodeZ];rw [e1,e2]
 | [_],[_],_=>rfl
 | _ :: _ :: _,_ :: _ :: _,_=>rfl
theorem evalQ_congr {ts:List (List Int)} {a b:List (List Zp)} {S:Nat→Prop} (h:SameT S a b):∀ p,InT S p→evalQ ts a p=evalQ ts b p :=
 Pl.ind fun k n x xs gs ks ih hI=>by
  rw [InT,InTs_mem] at hI
  have hs:∀ (l:List Pl),(∀ p ∈ l,evalQ ts a p=evalQ ts b p)→evalsQ ts a l=evalsQ ts b l:=by
   intro l
   induction l with
   | nil=>intro _; rw [evalsQ,evalsQ]
   | cons p r ih' =>
    intro hp;rw [evalsQ,evalsQ,hp p (by simp),ih' fun q hq=>hp q (by simp [hq])]
  have e:=hs ks fun p hp=>ih p hp (hI.2 p hp)
  rw [evalQ,evalQ,e];by_cases c:(evalsQ ts b ks).1=0
  ·rw [if_neg (by simpa using c),if_neg (by simpa using c)];have hk:∀ (l:List Pl),(evalsQ ts b l).1=0→(evalsQ ts b l).2.length=l.length:=by
    intro l
    induction l with
    | nil=>intro _; rw [evalsQ]; rfl
    | cons p r ih' =>
     intro h0;rw [evalsQ] at h0 ⊢;by_cases c0:(evalQ ts b p).1=0
     ·rw [if_neg (by simpa using c0)] at h0 ⊢;simp only [List.length_cons];rw [ih' h0]
     ·rw [if_pos c0] at h0; exact absurd h0 c0
   refine nodeZ_congr (by rw [colsPs_map,List.length_map,hk ks c]) fun hc=>h _ (hI.1 ?_)
   rw [colsPs_map] at hc;exact List.map_eq_nil_iff.1 hc
  ·rw [if_pos c,if_pos c]
structure AppOk (data more now:List (List Zp)):Prop where
 len:more.length=data.length
 nlen:now.length=data.length
 err:∀ (i:Nat) (h:i<data.length) (h':i<more.length),bothE 1 data[i] more[i]=0
 get:∀ (i:Nat) (h:i<data.length) (h':i<more.length) (h'':i<now.length),now[i]=bothZ 1 data[i] more[i]
theorem AppOk.wt {data more now:List (List Zp)} (h:AppOk data more now) (i:Nat) (k:List Vl):wt (now.getD i []) k=wt (data.getD i []) k+wt (more.getD i []) k:=by
 by_cases hi:i<data.length
 ·have h1:i<more.length:=by rw [h.len]; exact hi
  have h2:i<now.length:=by rw [h.nlen]; exact hi
  rw [List.getD_eq_getElem?_getD,List.getD_eq_getElem?_getD,List.getD_eq_getElem?_getD,List.getElem?_eq_getElem hi,List.getElem?_eq_getElem h1,List.getElem?_eq_getElem h2,Option.getD_some,Option.getD_some,Option.getD_some,h.get i hi h1 h2,(both_inv (h.err i hi h1)).2.2.2.2 k,Int.one_mul]
 ·have h1:¬ i<more.length:=by rw [h.len]; exact hi
  have h2:¬ i<now.length:=by rw [h.nlen]; exact hi
  rw [List.getD_eq_getElem?_getD,List.getD_eq_getElem?_getD,List.getD_eq_getElem?_getD,List.getElem?_eq_none (by omega),List.getElem?_eq_none (by omega),List.getElem?_eq_none (by omega)];rfl
theorem AppOk.set {data more now:List (List Zp)} (h:AppOk data more now) (i:Nat) (hi:i<now.length):IsSet now[i]:=by
 have h0:i<data.length:=by rw [← h.nlen]; exact hi
 have h1:i<more.length:=by rw [h.len]; exact h0
 rw [h.get i h0 h1 hi];exact (both_inv (h.err i h0 h1)).2.2.1
/-! ### how it changes -/
theorem datasE_of:∀ {l:List (List Int)} {r:List (List Zp)},(∀ (i:Nat) (h:i<l.length) (h':i<r.length),inpE l[i] r[i]=0)→datasE l r=0
 | [],_,_=>by rw [datasE]; intro a l b r h; cases h
 | _ :: _,[],_=>by rw [datasE]; intro a l b r _ h; cases h
 | c :: l,z :: r,h=>by
  have h0:=h 0 (by simp) (by simp)
  simp only [List.getElem_cons_zero] at h0
  rw [datasE,if_neg (by simp [h0])]
  exact datasE_of fun i h1 h2=>h (i+1) (by simpa using h1) (by simpa using h2)
theorem dataE_of {ts:List (List Int)} {data:List (List Zp)} (hl:data.length=ts.length) (h:∀ (i:Nat) (h:i<ts.length) (h':i<data.length),inpE ts[i] data[i]=0):dataE ts data=0:=by
 unfold dataE;rw [if_neg (by simp [hl])];exact datasE_of h

theorem eval_one {ts:List (List Int)} {data:List (List Zp)} {k n:Int} {x:Ex} {xs:List Ex} {gs:List Ag} {p:Pl} (h:(evalQ ts data (.mk k n x xs gs [p])).1=0) :
  (evalQ ts data p).1=0∧evalQ ts data (.mk k n x xs gs [p])=nodeZ data k n x xs gs [colsP ts p] [(evalQ ts data p).2]:=by
 have hk:=evalQ_kids h;simp only [Pl.ks,List.mem_singleton,forall_eq] at hk;refine ⟨hk,?_⟩;have e:=evalQ_own (ts:=ts) (data:=data) (p:=.mk k n x xs gs [p]) (by simpa [Pl.ks] using hk)
 simpa [Pl.k,Pl.n,Pl.x,Pl.xs,Pl.gs,Pl.ks] using e
theorem eval_two {ts:List (List Int)} {data:List (List Zp)} {k n:Int} {x:Ex} {xs:List Ex} {gs:List Ag} {p q:Pl} (h:(evalQ ts data (.mk k n x xs gs [p,q])).1=0) :
  (evalQ ts data p).1=0∧(evalQ ts data q).1=0∧evalQ ts data (.mk k n x xs gs [p,q])=nodeZ data k n x xs gs [colsP ts p,colsP ts q] [(evalQ ts data p).2,(evalQ ts data q).2]:=by
 have hk:=evalQ_kids h;simp only [Pl.ks,List.mem_cons,List.not_mem_nil,or_false,forall_eq_or_imp,forall_eq] at hk;refine ⟨hk.1,hk.2,?_⟩;have e:=evalQ_own (ts:=ts) (data:=data) (p:=.mk k n x xs gs [p,q]) (by simpa [Pl.ks] using hk)
 simpa [Pl.k,Pl.n,Pl.x,Pl.xs,Pl.gs,Pl.ks] using e
theorem eval_none {ts:List (List Int)} {data:List (List Zp)} {k n:Int} {x:Ex} {xs:List Ex} {gs:List Ag}:evalQ ts data (.mk k n x xs gs [])=(gatherE (data.getD n.toNat []),gatherZ (data.getD n.toNat [])):=by
 have e:=evalQ_own (ts:=ts) (data:=data) (p:=.mk k n x xs gs []) (by simp [Pl.ks])
 simpa [Pl.k,Pl.n,Pl.x,Pl.xs,Pl.gs,Pl.ks,nodeZ] using e
theorem look_kids {ts:List (List Int)} {k n:Int} {x:Ex} {xs:List Ex} {gs:List Ag} {ks:List Pl} {m d:Int} (h:(lookX ts (.mk k n x xs gs ks) m d).1=0):(1≤k∧k≤13)∧ks.length=kidsQ k∧∀ r ∈ ks,∃ m',(lookX ts r m' (d+1)).1=0:=by
 obtain ⟨h1,h2,_,_⟩:=lookX_node h;obtain ⟨hln,hk1,hk2,_,_⟩:=nodeQ_zero h1;exact ⟨⟨hk1,hk2⟩,hln,looksX_all h2⟩
/-! ### what is linear -/
mutual
theorem gather_wt {z:List Zp} (h:gatherE z=0) (k:List Vl):wt (gatherZ z) k=wt z k:=by
 unfold gatherZ
 rw [if_pos h,canon_wt]
end

/-! ### what is wrong has no rows -/
theorem gatherZ_bad {z:List Zp} (h:¬ gatherE z=0):gatherZ z = []:=by unfold gatherZ; rw [if_neg h]
theorem nodeZ_bad {data:List (List Zp)} {k n:Int} {x:Ex} {xs:List Ex} {gs:List Ag} {cs:List (List Int)} {zs:List (List Zp)} (h:¬ (nodeZ data k n x xs gs cs zs).1=0):(nodeZ data k n x xs gs cs zs).2 = []:=by
 have hg:¬ gatherE (data.getD n.toNat [])=0→gatherZ (data.getD n.toNat []) = []:=gatherZ_bad
 match cs,zs,h with
 | [c],[z],h =>
  simp only [nodeZ] at h ⊢;by_cases k2:k=2
  ·rw [if_pos k2] at h ⊢; unfold filtZ; rw [if_neg h]
  rw [if_neg k2] at h ⊢;by_cases k3:k=3
  ·rw [if_pos k3] at h ⊢; unfold mapZ; rw [if_neg h]
  rw [if_neg k3] at h ⊢;by_cases k10:k=10
  ·rw [if_pos k10] at h ⊢; unfold setZ; rw [if_neg h]
  rw [if_neg k10] at h ⊢;by_cases k11:k=11
  ·rw [if_pos k11] at h ⊢; unfold setZ; rw [if_neg h]
  rw [if_neg k11] at h ⊢;by_cases k12:k=12
  ·rw [if_pos k12] at h ⊢; unfold groupZ; rw [if_neg h]
  rw [if_neg k12] at h ⊢;unfold topZ; rw [if_neg h]
 | l :: r :: cr,a :: b :: zr,h =>
  simp only [nodeZ] at h ⊢;by_cases k4:k=4
  ·rw [if_pos k4] at h ⊢; unfold pairZ; rw [if_neg h]
  rw [if_neg k4] at h ⊢;by_cases k5:k=5
  ·rw [if_pos k5] at h ⊢; unfold pairZ; rw [if_neg h]
  rw [if_neg k5] at h ⊢;by_cases k6:k=6
  ·rw [if_pos k6] at h ⊢; unfold pairZ; rw [if_neg h]
  rw [if_neg k6] at h ⊢;by_cases k7:k=7
  ·rw [if_pos k7] at h ⊢; unfold pairZ; rw [if_neg h]
  rw [if_neg k7] at h ⊢;by_cases k8:k=8
  ·rw [if_pos k8] at h ⊢; unfold bothZ; rw [if_neg h]
  rw [if_neg k8] at h ⊢;unfold bothZ; rw [if_neg h]
 | [],_,h=>exact hg h
 | [_],[],h=>exact hg h
 | [_],_ :: _ :: _,h=>exact hg h
 | _ :: _ :: _,[],h=>exact hg h
 | _ :: _ :: _,[_],h=>exact hg h
theorem evalQ_none {ts:List (List Int)} {data:List (List Zp)} {p:Pl} (h:¬ (evalQ ts data p).1=0):(evalQ ts data p).2 = []:=by
 cases p with
 | mk k n x xs gs ks =>
  rw [evalQ] at h ⊢;by_cases c:(evalsQ ts data ks).1=0
  ·rw [if_neg (by simpa using c)] at h ⊢;exact nodeZ_bad h
  ·rw [if_pos c]
theorem ev_none {ts:List (List Int)} {data:List (List Zp)} {p:Pl} (h:¬ evE ts data p=0):evZ ts data p = []:=by
 by_cases c:lookE ts p=0
 ·by_cases c':dataE ts data=0
  ·obtain ⟨e1,e2⟩:=evE_own (p:=p) c c';rw [e2];rw [e1] at h;exact evalQ_none h
  ·exact (evE_data c c').2
 ·exact (evE_look c).2
/-! ### what is not spoken of -/
mutual
def spkB (k:Int):Pl→Bool
 | .mk kd n _ _ _ ks=>if kd=1 then decide (n=k) else spksB k ks
def spksB (k:Int):List Pl→Bool
 | []=>false
 | p :: r=>if spkB k p then true else spksB k r
end
theorem spksB_none {k:Int}:∀ {l:List Pl},spksB k l=false→∀ p ∈ l,spkB k p=false
 | q :: r,h,p,hp=>by
  rw [spksB] at h
  by_cases c:spkB k q=true
  ·rw [if_pos c] at h; cases h
  ·rw [if_neg c] at h
   rcases List.mem_cons.1 hp with rfl | hp
   ·simpa using c
   ·exact spksB_none h p hp
theorem spk_in {ts:List (List Int)} {k:Nat}:∀ (p:Pl) (m d:Int),(lookX ts p m d).1=0→spkB k p=false→InT (fun i=>i≠k) p :=
 Pl.ind fun kd n x xs gs ks ih m d hl hs=>by
  obtain ⟨hk,hln,hlk⟩:=look_kids hl
  obtain ⟨_,_,hE,_⟩:=lookX_node hl
  rw [InT,InTs_mem]
  rw [spkB] at hs
  by_cases c:kd=1
  ·rw [if_pos c] at hs
   have hn:¬ n=k:=by simpa using hs
   have h0:ks = []:=List.eq_nil_of_length_eq_zero (by rw [hln]; unfold kidsQ; rw [if_pos c])
   subst h0
   refine ⟨fun _=>?_,fun p hp=>by cases hp⟩
   simp only [colsPs,nodeE] at hE
   have hr:¬ (n<0∨(ts.length:Int)≤n):=fun c'=>by rw [if_pos c'] at hE; cases hE
   show n.toNat≠k
   omega
  ·rw [if_neg c] at hs
   refine ⟨fun h0=>?_,fun p hp=>?_⟩
   ·subst h0
    exfalso
    unfold kidsQ at hln
    rw [if_neg c] at hln
    split at hln <;> simp at hln
   ·obtain ⟨m',hm'⟩:=hlk p hp
    exact ih p hp m' (d+1) hm' (spksB_none hs p hp)
end Go.Proofs.YtohjlfhmnmcndaaGreat
