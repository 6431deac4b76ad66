/- Together: QB, QC, PB, PC, QD, EIm, QE, QF, QG. -/
import Derived.Test.YtohjlfhmnmcndaaGreatD15
import Derived.Test.YtohjlfhmnmcndaaGreatD0
/- Plainly: Quick. -/
namespace Go.Proofs.YtohjlfhmnmcndaaGreat

/-- What Quick tells. -/
def quickR (ts:List (List Int)) (p p':Pl) (data:List (List Zp)):List Zp × Int × Int:=grP (fun _ y=>evE (widL ts p) (data ++ [y]) p') (fun _ y=>dstZ (widL ts p) (data ++ [y]) p') 50 0 (dstZ ts data p) (dstZ ts data p)
mutual
/-- A table stands below filters, maps, joins, and the first kid of who has a partner, alone. -/
def pthB (k:Int):Pl→Bool
 | .mk kd n _ _ _ ks=>if kd=1 then decide (n=k) else if kd=2∨kd=3 then hedB k ks else if kd=4 then twoB k ks else if kd=5 then semB k ks else false
def hedB (k:Int):List Pl→Bool
 | []=>false
 | p :: _=>pthB k p
def twoB (k:Int):List Pl→Bool
 | []=>false
 | p :: r=>(pthB k p && !spksB k r) || (!spkB k p && hedB k r)
def semB (k:Int):List Pl→Bool
 | []=>false
 | p :: r=>pthB k p && !spksB k r
end
/-- What a plain step makes: less of less, and of two the sum. -/
structure LinZ (e1 e2 e3:Int × List Zp):Prop where
 ok:e1.1=0
 ok':e2.1=0
 nn:∀ q,0≤wt e1.2 q
 nn':∀ q,0≤wt e2.2 q
 sum:∀ q,wt e3.2 q=wt e1.2 q+wt e2.2 q
theorem LinZ.le {e1 e2 e3:Int × List Zp} (h:LinZ e1 e2 e3) (q:List Vl):wt e1.2 q≤wt e3.2 q:=by have:=h.sum q; have:=h.nn' q; omega
theorem LinZ.le' {e1 e2 e3:Int × List Zp} (h:LinZ e1 e2 e3) (q:List Vl):wt e2.2 q≤wt e3.2 q:=by have:=h.sum q; have:=h.nn q; omega
theorem filt_of {c:List Int} {x:Ex} {z z':List Zp} (h:filtE c x z=0) (hz:InpOk c z'):filtE c x z'=0:=by
 unfold filtE;rw [(filtE_ok h).1,(inpE_ok _ _).2 hz];simp
theorem map_of {c:List Int} {xs:List Ex} {z z':List Zp} (h:mapE c xs z=0) (hz:InpOk c z') (hg:gatherE (mapL xs z')=0):mapE c xs z'=0:=by
 unfold mapE;rw [(mapE_ok h).1,(inpE_ok _ _).2 hz,hg];simp
theorem pair_of {w:Nat} {l r:List Int} {x:Ex} {a b a' b':List Zp} (h:pairE w l r x a b=0) (ha:InpOk l a') (hb:InpOk r b') (hg:gatherE (nameL w r.length x a' b')=0):pairE w l r x a' b'=0:=by
 have t:=(pairE_ok h).1;unfold pairE;rw [(twoE_ok l r x a' b').2 ⟨t.len,t.cond,ha,hb⟩,hg];simp
theorem join_sumL {x:Ex} {a1 a2 a3 b:List Zp} (h:∀ q,wt a3 q=wt a1 q+wt a2 q) (q:List Vl):wt (joinL x a3 b) q=wt (joinL x a1 b) q+wt (joinL x a2 b) q:=by
 rw [join_tot,join_tot,join_tot];exact tot_lin h (resp_pair2 x q b)
theorem join_sumR {x:Ex} {a b1 b2 b3:List Zp} (h:∀ q,wt b3 q=wt b1 q+wt b2 q) (q:List Vl):wt (joinL x a b3) q=wt (joinL x a b1) q+wt (joinL x a b2) q:=by
 rw [join_tot,join_tot,join_tot,← tot_add];exact tot_congr fun y _=>tot_lin h (resp_pair1 x q y.1)
/-- A plain step. -/
theorem lin_all {ts:List (List Int)} {k:Nat} {d1 d2 d3:List (List Zp)} (D1:dataE ts d1=0) (D2:dataE ts d2=0) (S1:SameT (fun i=>i≠k) d1 d3) (S2:SameT (fun i=>i≠k) d2 d3) (A3:∀ (i:Nat) q,0≤wt (d3.getD i []) q) (N1:∀ q,0≤wt (d1.getD k []) q) (N2:∀ q,0≤wt (d2.getD k []) q) (S:∀ q,wt (d3.getD k []) q=wt (d1.getD k []) q+wt (d2.getD k []) q) :
  ∀ (p:Pl),pthB k p=true→nosB p=true→∀ (m d:Int),(lookX ts p m d).1=0→(evalQ ts d3 p).1=0→LinZ (evalQ ts d1 p) (evalQ ts d2 p) (evalQ ts d3 p) :=
 Pl.ind fun kd n x xs gs ks ih hp hs m d hl h3=>by
  obtain ⟨hk,hln,hlk⟩:=look_kids hl
  rw [nosB,Bool.and_eq_true] at hs
  have hss:=nossB_all hs.2
  rw [pthB] at hp
  have nt:∀ r,(∃ m' d',(lookX ts r m' d').1=0)→spkB k r=false→evalQ ts d1 r=evalQ ts d3 r∧evalQ ts d2 r=evalQ ts d3 r:=fun r ⟨m',d',hm⟩ hsp=>⟨evalQ_congr S1 r (spk_in r m' d' hm hsp),evalQ_congr S2 r (spk_in r m' d' hm hsp)⟩
  match ks,hln with
  | [],hln =>
   have k1:kd=1:=by
    simp only [List.length_nil] at hln;unfold kidsQ at hln;by_cases c:kd=1
    ·exact c
    ·rw [if_neg c] at hln;by_cases c2:4≤kd∧kd≤9
     ·rw [if_pos c2] at hln; cases hln
     ·rw [if_neg c2] at hln; cases hln
   rw [if_pos k1] at hp;have hn:n=(k:Int):=of_decide_eq_true hp;subst hn;rw [eval_none] at h3;rw [eval_none,eval_none,eval_none];simp only [Int.toNat_natCast] at h3 ⊢;have g1:=gather_mono h3 fun q=>⟨N1 q,by have:=S q; have:=N2 q; omega⟩
   have g2:=gather_mono h3 fun q=>⟨N2 q,by have:=S q; have:=N1 q; omega⟩
   exact ⟨g1,g2,fun q=>by rw [gather_wt g1]; exact N1 q,fun q=>by rw [gather_wt g2]; exact N2 q,fun q=>by rw [gather_wt g1,gather_wt g2,gather_wt h3]; exact S q⟩
  | [r],hln =>
   obtain ⟨m',hm'⟩:=hlk r (by simp);obtain ⟨a3,e3⟩:=eval_one h3;have k1:¬ kd=1:=by
    intro c;rw [c] at hln;cases hln
   have k4:¬ (kd=4∨kd=5):=by
    intro c;simp only [List.length_cons,List.length_nil] at hln;unfold kidsQ at hln;rw [if_neg k1,if_pos (by omega)] at hln;omega
   have k23:kd=2∨kd=3:=by
    rw [if_neg k1] at hp;by_cases c:kd=2∨kd=3
    ·exact c
    ·rw [if_neg c,if_neg (by omega),if_neg (by omega)] at hp;cases hp
   rw [if_neg k1,if_pos k23,hedB] at hp;have L:=ih r (by simp) hp (hss r (by simp)) m' (d+1) hm' a3;have o1:=evalQ_ok D1 r m' (d+1) hm' L.ok;have o2:=evalQ_ok D2 r m' (d+1) hm' L.ok';have f1:=evalQ_own (ts:=ts) (data:=d1) (p:=.mk kd n x xs gs [r]) (fun u hu=>by simp [Pl.ks] at hu; subst hu; exact L.ok);have f2:=evalQ_own (ts:=ts) (data:=d2) (p:=.mk kd n x xs gs [r]) (fun u hu=>by simp [Pl.ks] at hu; subst hu; exact L.ok');simp only [Pl.k,Pl.n,Pl.x,Pl.xs,Pl.gs,Pl.ks,List.map_cons,List.map_nil] at f1 f2;rw [e3] at h3 ⊢;rw [f1,f2];simp only [nodeZ] at h3 ⊢;rcases k23 with rfl | rfl
   ·rw [if_pos rfl] at h3 ⊢;rw [if_pos rfl,if_pos rfl];have g1:=filt_of h3 o1.inp;have g2:=filt_of h3 o2.inp;refine ⟨g1,g2,fun q=>?_,fun q=>?_,fun q=>?_⟩
    ·rw [filtZ_wt g1]; have:=L.nn q; split <;> omega
    ·rw [filtZ_wt g2]; have:=L.nn' q; split <;> omega
    ·rw [filtZ_wt g1,filtZ_wt g2,filtZ_wt h3,L.sum q]; split <;> simp
   ·rw [if_neg (by decide),if_pos rfl] at h3 ⊢;rw [if_neg (by decide),if_pos rfl,if_neg (by decide),if_pos rfl];have G:=(mapE_ok h3).2.2;have n1:∀ q,0≤wt (mapL xs (evalQ ts d1 r).2) q:=fun q=>by rw [wt_map]; exact tot_pos (resp_map xs q) (fun _=>ite01 _) L.nn
    have n2:∀ q,0≤wt (mapL xs (evalQ ts d2 r).2) q:=fun q=>by rw [wt_map]; exact tot_pos (resp_map xs q) (fun _=>ite01 _) L.nn'
    have sm:∀ q,wt (mapL xs (evalQ ts d3 r).2) q=wt (mapL xs (evalQ ts d1 r).2) q+wt (mapL xs (evalQ ts d2 r).2) q:=fun q=>by rw [wt_map,wt_map,wt_map]; exact tot_lin L.sum (resp_map xs q)
    have g1:=map_of h3 o1.inp (gather_mono G fun q=>⟨n1 q,by have:=sm q; have:=n2 q; omega⟩);have g2:=map_of h3 o2.inp (gather_mono G fun q=>⟨n2 q,by have:=sm q; have:=n1 q; omega⟩);refine ⟨g1,g2,fun q=>?_,fun q=>?_,fun q=>?_⟩
    ·rw [mapZ_wt g1,← wt_map]; exact n1 q
    ·rw [mapZ_wt g2,← wt_map]; exact n2 q
    ·rw [mapZ_wt g1,mapZ_wt g2,mapZ_wt h3,← wt_map,← wt_map,← wt_map]; exact sm q
  | [l,r],hln =>
   obtain ⟨m1,hm1⟩:=hlk l (by simp);obtain ⟨m2,hm2⟩:=hlk r (by simp);obtain ⟨a3,b3,e3⟩:=eval_two h3;have k1:¬ kd=1:=by
    intro c;rw [c] at hln;cases hln
   have k23:¬ (kd=2∨kd=3):=by
    intro c;simp only [List.length_cons,List.length_nil] at hln;unfold kidsQ at hln;rw [if_neg k1,if_neg (by omega)] at hln;omega
   rw [if_neg k1,if_neg k23] at hp;have own:∀ (data:List (List Zp)),(evalQ ts data l).1=0→(evalQ ts data r).1=0→evalQ ts data (.mk kd n x xs gs [l,r])=nodeZ data kd n x xs gs [colsP ts l,colsP ts r] [(evalQ ts data l).2,(evalQ ts data r).2]:=fun data h h'=>by
    have:=evalQ_own (ts:=ts) (data:=data) (p:=.mk kd n x xs gs [l,r]) (fun u hu=>by
     simp [Pl.ks] at hu;rcases hu with rfl | rfl
     ·exact h
     ·exact h')
    simpa [Pl.k,Pl.n,Pl.x,Pl.xs,Pl.gs,Pl.ks] using this
   have nnl:∀ q,0≤wt (evalQ ts d3 l).2 q:=nos_wt A3 l (hss l (by simp)) m1 (d+1) hm1 a3
   have nnr:∀ q,0≤wt (evalQ ts d3 r).2 q:=nos_wt A3 r (hss r (by simp)) m2 (d+1) hm2 b3
   have rs:spksB k [r]=spkB k r:=by rw [spksB,spksB]; cases spkB k r <;> rfl
   rw [e3] at h3 ⊢;by_cases k4:kd=4
   ·rw [if_pos k4,twoB,Bool.or_eq_true,Bool.and_eq_true,Bool.and_eq_true,hedB,rs] at hp;subst k4;simp only [nodeZ,if_true] at h3 ⊢;have G:=(pairE_ok h3).2;rcases hp with ⟨hl1,hr1⟩ | ⟨hl1,hr1⟩
    ·have L:=ih l (by simp) hl1 (hss l (by simp)) m1 (d+1) hm1 a3;obtain ⟨er1,er2⟩:=nt r ⟨m2,d+1,hm2⟩ (by simpa using hr1);have o1:=evalQ_ok D1 l m1 (d+1) hm1 L.ok;have o2:=evalQ_ok D2 l m1 (d+1) hm1 L.ok';rw [own d1 L.ok (by rw [er1]; exact b3),own d2 L.ok' (by rw [er2]; exact b3),er1,er2];simp only [nodeZ,if_true];have hb:=(pairE_ok h3).1.right;have n1:=fun q=>(join_mono (x:=x) L.nn (fun _=>Int.le_refl _) nnr (fun _=>Int.le_refl _) q).1
     have n2:=fun q=>(join_mono (x:=x) L.nn' (fun _=>Int.le_refl _) nnr (fun _=>Int.le_refl _) q).1
     have sm:=fun q=>join_sumL (x:=x) (b:=(evalQ ts d3 r).2) L.sum q
     have g1:=pair_of h3 o1.inp hb (gather_mono G fun q=>⟨n1 q,by have:=sm q; have:=n2 q; show wt (joinL x _ _) q≤wt (joinL x _ _) q; omega⟩);have g2:=pair_of h3 o2.inp hb (gather_mono G fun q=>⟨n2 q,by have:=sm q; have:=n1 q; show wt (joinL x _ _) q≤wt (joinL x _ _) q; omega⟩);exact ⟨g1,g2,fun q=>by rw [pairZ_wt g1]; exact n1 q,fun q=>by rw [pairZ_wt g2]; exact n2 q,fun q=>by rw [pairZ_wt g1,pairZ_wt g2,pairZ_wt h3]; exact sm q⟩
    ·have L:=ih r (by simp) hr1 (hss r (by simp)) m2 (d+1) hm2 b3;obtain ⟨er1,er2⟩:=nt l ⟨m1,d+1,hm1⟩ (by simpa using hl1);have o1:=evalQ_ok D1 r m2 (d+1) hm2 L.ok;have o2:=evalQ_ok D2 r m2 (d+1) hm2 L.ok';rw [own d1 (by rw [er1]; exact a3) L.ok,own d2 (by rw [er2]; exact a3) L.ok',er1,er2];simp only [nodeZ,if_true];have hb:=(pairE_ok h3).1.left;have n1:=fun q=>(join_mono (x:=x) nnl (fun _=>Int.le_refl _) L.nn (fun _=>Int.le_refl _) q).1
     have n2:=fun q=>(join_mono (x:=x) nnl (fun _=>Int.le_refl _) L.nn' (fun _=>Int.le_refl _) q).1
     have sm:=fun q=>join_sumR (x:=x) (a:=(evalQ ts d3 l).2) L.sum q
     have g1:=pair_of h3 hb o1.inp (gather_mono G fun q=>⟨n1 q,by have:=sm q; have:=n2 q; show wt (joinL x _ _) q≤wt (joinL x _ _) q; omega⟩);have g2:=pair_of h3 hb o2.inp (gather_mono G fun q=>⟨n2 q,by have:=sm q; have:=n1 q; show wt (joinL x _ _) q≤wt (joinL x _ _) q; omega⟩);exact ⟨g1,g2,fun q=>by rw [pairZ_wt g1]; exact n1 q,fun q=>by rw [pairZ_wt g2]; exact n2 q,fun q=>by rw [pairZ_wt g1,pairZ_wt g2,pairZ_wt h3]; exact sm q⟩
   ·rw [if_neg k4] at hp;by_cases k5:kd=5
    ·rw [if_pos k5,semB,Bool.and_eq_true,rs] at hp;subst k5;simp only [nodeZ,show ¬ (5:Int)=4 by decide,if_false,if_true] at h3 ⊢;have G:=(pairE_ok h3).2;have L:=ih l (by simp) hp.1 (hss l (by simp)) m1 (d+1) hm1 a3;obtain ⟨er1,er2⟩:=nt r ⟨m2,d+1,hm2⟩ (by simpa using hp.2);have o1:=evalQ_ok D1 l m1 (d+1) hm1 L.ok;have o2:=evalQ_ok D2 l m1 (d+1) hm1 L.ok';rw [own d1 L.ok (by rw [er1]; exact b3),own d2 L.ok' (by rw [er2]; exact b3),er1,er2];simp only [nodeZ,show ¬ (5:Int)=4 by decide,if_false,if_true];have hb:=(pairE_ok h3).1.right
     have n1:∀ q,0≤wt (semiL x (evalQ ts d1 l).2 (evalQ ts d3 r).2) q:=fun q=>by rw [semi_wt]; have:=L.nn q; split <;> omega
     have n2:∀ q,0≤wt (semiL x (evalQ ts d2 l).2 (evalQ ts d3 r).2) q:=fun q=>by rw [semi_wt]; have:=L.nn' q; split <;> omega
     have sm:∀ q,wt (semiL x (evalQ ts d3 l).2 (evalQ ts d3 r).2) q=wt (semiL x (evalQ ts d1 l).2 (evalQ ts d3 r).2) q+wt (semiL x (evalQ ts d2 l).2 (evalQ ts d3 r).2) q:=fun q=>by rw [semi_wt,semi_wt,semi_wt,L.sum q]; split <;> simp
     have g1:=pair_of h3 o1.inp hb (gather_mono G fun q=>⟨n1 q,by have:=sm q; have:=n2 q; show wt (semiL x _ _) q≤wt (semiL x _ _) q; omega⟩);have g2:=pair_of h3 o2.inp hb (gather_mono G fun q=>⟨n2 q,by have:=sm q; have:=n1 q; show wt (semiL x _ _) q≤wt (semiL x _ _) q; omega⟩);exact ⟨g1,g2,fun q=>by rw [pairZ_wt g1]; exact n1 q,fun q=>by rw [pairZ_wt g2]; exact n2 q,fun q=>by rw [pairZ_wt g1,pairZ_wt g2,pairZ_wt h3]; exact sm q⟩
    ·rw [if_neg k5] at hp;cases hp
  | _ :: _ :: _ :: _,hln =>
   have:=kidsQ_le kd;simp only [List.length_cons] at hln;omega

theorem both_less {x m m':List Zp} (h:bothE 1 x m=0) (hm:wrongZ m'=0) (hx:∀ q,0≤wt x q) (A:∀ q,0≤wt m' q∧wt m' q≤wt m q):bothE 1 x m'=0:=by
 obtain ⟨h1,h2,h3,_⟩:=bothE_inv h;unfold bothE;rw [if_pos h1,if_pos hm];refine gather_mono h3 fun q=>?_
 rw [wt_append,wt_append,times_wt hm,times_wt h2];have:=hx q;have:=A q;omega
section
variable {ts:List (List Int)} {p p':Pl} {data:List (List Zp)}
theorem wide_data (hd:dataE ts data=0) {x y:List Zp} (hx:dataE (widL ts p) (data ++ [x])=0) (ox:One x) (oy:One y) (h:∀ q,wt y q≤wt x q):dataE (widL ts p) (data ++ [y])=0:=by
 have hl:=(dataE_ok hd).1;obtain ⟨h1,h2⟩:=dataE_ok hx;refine dataE_of (by simpa [widL] using hl) fun i hi hi'=>?_
 by_cases e:i<data.length
 ·have:=h2 i hi (by simp; omega);rw [List.getElem_append_left e] at this ⊢;exact this
 ·have hi2:i=data.length:=by simp at hi'; omega
  subst hi2;have:=h2 data.length hi (by simp);simp only [List.getElem_append_right (Nat.le_refl data.length),Nat.sub_self,List.getElem_cons_zero] at this ⊢;rw [inpE_ok] at this ⊢;exact ⟨this.cols8,oy.right,fun r hr=>this.fit r (oy.sub ox h r hr)⟩
theorem same_snoc (data:List (List Zp)) (x y:List Zp):SameT (fun i=>i≠data.length) (data ++ [x]) (data ++ [y]):=fun i hi=>by
 rw [snoc_get,snoc_get,if_neg (c:=i=data.length) hi,if_neg (c:=i=data.length) hi]
theorem last_get (data:List (List Zp)) (x:List Zp):(data ++ [x]).getD data.length []=x:=by rw [snoc_get,if_neg (by omega),if_pos rfl]
/-- The step of two parts. -/
theorem step_lin (hd:dataE ts data=0) (ht:theB data=true) (hp:pthB (data.length:Int) p'=true) (hs:nosB p'=true) {x0 y x:List Zp} (o0:One x0) (oy:One y) (ox:One x) (S:∀ q,wt x q=wt x0 q+wt y q) (hx:evE (widL ts p) (data ++ [x]) p'=0) :
  evE (widL ts p) (data ++ [y]) p'=0∧LinZ (evalQ (widL ts p) (data ++ [x0]) p') (evalQ (widL ts p) (data ++ [y]) p') (evalQ (widL ts p) (data ++ [x]) p'):=by
 obtain ⟨l1,l2,l3,_⟩:=ev_inv hx;have d0:=wide_data hd l2 ox o0 fun q=>by have:=S q; have:=oy.nonneg q; omega
 have dy:=wide_data hd l2 ox oy fun q=>by have:=S q; have:=o0.nonneg q; omega
 have L:=lin_all (k:=data.length) d0 dy (same_snoc data x0 x) (same_snoc data y x) (fun i q=>by
  rw [snoc_get]
  split
  ·exact the_get ht i q
  ·split
   ·exact ox.nonneg q
   ·exact Int.le_refl _) (fun q=>by rw [last_get]; exact o0.nonneg q) (fun q=>by rw [last_get]; exact oy.nonneg q) (fun q=>by rw [last_get,last_get,last_get]; exact S q) p' hp hs 0 1 (lookE_ok l1).2 l3
 refine ⟨?_,L⟩;rw [(evE_own l1 dy).1];exact L.ok'
/-- Rows that stand there, and those that are new. -/
def Cov (ts:List (List Int)) (p p':Pl) (data:List (List Zp)) (x y:List Zp):Prop:=y=x∨∃ x0,One x0∧One y∧(∀ q,wt x q=wt x0 q+wt y q)∧evE (widL ts p) (data ++ [x0]) p'=0∧∀ q,wt (dstZ (widL ts p) (data ++ [x0]) p') q≤wt x q
theorem quick_step (hd:dataE ts data=0) (ht:theB data=true) (hp:pthB (data.length:Int) p'=true) (hs:nosB p'=true) {x y:List Zp} (ox:One x) (hc:Cov ts p p' data x y) (h1:evE (widL ts p) (data ++ [x]) p'=0) (h2:bothE 1 x (dstZ (widL ts p) (data ++ [x]) p')=0) :
  evE (widL ts p) (data ++ [y]) p'=0∧bothE 1 x (dstZ (widL ts p) (data ++ [y]) p')=0∧uniZ x (dstZ (widL ts p) (data ++ [y]) p')=uniZ x (dstZ (widL ts p) (data ++ [x]) p'):=by
 rcases hc with rfl | ⟨x0,o0,oy,S,e0,hD⟩
 ·exact ⟨h1,h2,rfl⟩
 obtain ⟨ey,L⟩:=step_lin hd ht hp hs o0 oy ox S h1;have zx:=(ev_inv h1).2.2.2;have zy:=(ev_inv ey).2.2.2;have z0:=(ev_inv e0).2.2.2;have dx:=dst_wt h1;have dy:=dst_wt ey;have d0:=dst_wt e0;have b:bothE 1 x (dstZ (widL ts p) (data ++ [y]) p')=0:=both_less h2 (one_dst ey).right ox.nonneg fun q=>⟨(one_dst ey).nonneg q,by
  rw [dx,dy,zx,zy];exact (oneF_mono (L.le' q)).2⟩
 refine ⟨ey,b,set_unique _ _ (one_uni b).set (one_uni h2).set fun q=>?_⟩;rw [uni_wt b,uni_wt h2];have a1:=ox.wt01 q;have a2:=(one_dst ey).wt01 q;have a3:=(one_dst h1).wt01 q;have a4:=hD q;have a5:=L.sum q;have a6:=L.nn q;have a7:=L.nn' q;rw [d0,z0] at a4;rw [dy,zy] at a2 ⊢;rw [dx,zx] at a3 ⊢;unfold oneF at *
 split at a4 <;> (repeat' split) <;> omega
theorem gr_same (hd:dataE ts data=0) (ht:theB data=true) (hp:pthB (data.length:Int) p'=true) (hs:nosB p'=true):∀ (n:Nat) (r:Int) (x y z:List Zp),One x→Cov ts p p' data x y→(grP (fun x _=>evE (widL ts p) (data ++ [x]) p') (fun x _=>dstZ (widL ts p) (data ++ [x]) p') n r x z).2.2=0 →
  grP (fun _ y=>evE (widL ts p) (data ++ [y]) p') (fun _ y=>dstZ (widL ts p) (data ++ [y]) p') n r x y=grP (fun x _=>evE (widL ts p) (data ++ [x]) p') (fun x _=>dstZ (widL ts p) (data ++ [x]) p') n r x z
 | 0,_,_,_,_,_,_,_=>rfl
 | n+1,r,x,y,z,ox,hc,h=>by
  rw [grP] at h
  by_cases h1:evE (widL ts p) (data ++ [x]) p'=0
  rotate_left
  ·rw [if_pos h1] at h
   exact absurd h h1
  rw [if_neg (by simpa using h1)] at h
  by_cases h2:bothE 1 x (dstZ (widL ts p) (data ++ [x]) p')=0
  rotate_left
  ·rw [if_pos h2] at h
   exact absurd h h2
  rw [if_neg (by simpa using h2)] at h
  obtain ⟨q1,q2,q3⟩:=quick_step hd ht hp hs ox hc h1 h2
  rw [grP,grP]
  simp only [h1,h2,q1,q2,q3,ne_eq,not_true_eq_false,if_false]
  by_cases h3:(uniZ x (dstZ (widL ts p) (data ++ [x]) p')).length=x.length
  ·rw [if_pos h3,if_pos h3]
  rw [if_neg h3] at h
  rw [if_neg h3,if_neg h3]
  by_cases h4:bothE (-1) (uniZ x (dstZ (widL ts p) (data ++ [x]) p')) x=0
  rotate_left
  ·rw [if_pos h4,if_pos h4]
  rw [if_neg (by simpa using h4)] at h
  rw [if_neg (by simpa using h4),if_neg (by simpa using h4)]
  have ou:=one_uni h2
  have od:=one_dst h1
  obtain ⟨_,_,s1,s2,s3⟩:=both_inv h4
  have um:=uni_more ox h2 od.nonneg
  refine gr_same hd ht hp hs n (r+1) _ _ _ ou (.inr ⟨x,ox,⟨s2,s1,fun q=>?_⟩,fun q=>?_,h1,fun q=>?_⟩) h
  ·have a1:=s3 q
   have a2:=um q
   have a3:=ox.wt01 q
   have a4:=ou.wt01 q
   omega
  ·have:=s3 q
   omega
  ·have a1:=uni_wt h2 q
   have a2:=od.wt01 q
   have a3:=ox.wt01 q
   rw [a1]
   unfold oneF
   split <;> omega
theorem quick_same (h:(fixR ts p p' data).2.2=0) (hp:pthB (data.length:Int) p'=true) (hs:nosB p'=true) (ht:theB data=true):(quickR ts p p' data).2.2=0∧(quickR ts p p' data).1=(fixR ts p p' data).1:=by
 have h0:=h
 unfold fixR at h
 by_cases h1:widE ts p p' data=0
 rotate_left
 ·rw [if_pos h1] at h
  exact absurd h h1
 rw [if_neg (by simpa using h1)] at h
 by_cases h2:evE ts data p=0
 rotate_left
 ·rw [if_pos h2] at h
  exact absurd h h2
 rw [if_neg (by simpa using h2)] at h
 have e:=gr_same (wid_ok h1).2.2.2 ht hp hs 50 0 _ _ _ (one_dst h2) (.inl rfl) h
 have e2:quickR ts p p' data=fixR ts p p' data:=by
  unfold quickR fixR
  rw [if_neg (by simpa using h1),if_neg (by simpa using h2)]
  exact e
 rw [e2]
 exact ⟨h0,rfl⟩
end

theorem cmp_lnk (a b c d:Int):cmpL (lnk a b) (lnk c d)=if a<c then -1 else if c<a then 1 else if b<d then -1 else if d<b then 1 else 0:=by
 unfold lnk cmpL cmpP cmpV cmpI;simp only [ne_eq,not_true_eq_false,if_false,or_true,if_true];by_cases h1:a<c
 ·simp [h1]
 by_cases h2:c<a
 ·simp [h1,h2]
 simp only [h1,h2,if_false,if_true,cmpL];unfold cmpP cmpV cmpI;simp only [ne_eq,not_true_eq_false,if_false,or_true,if_true];by_cases h3:b<d
 ·simp [h3]
 by_cases h4:d<b
 ·simp [h3,h4]
 simp [h3,h4]
theorem lnk_eq {a b c d:Int}:cmpL (lnk a b) (lnk c d)=0↔a=c∧b=d:=by
 rw [cmp_lnk];constructor
 ·intro h;by_cases h1:a<c
  ·simp [h1] at h
  by_cases h2:c<a
  ·simp [h1,h2] at h
  by_cases h3:b<d
  ·simp [h1,h2,h3] at h
  by_cases h4:d<b
  ·simp [h1,h2,h3,h4] at h
  omega
 ·rintro ⟨rfl,rfl⟩;simp
theorem lnk_bare (a b:Int):bareL (lnk a b)=lnk a b:=by simp [bareL,lnk,bareP,bareN,bareS]
theorem lnk_fit {i j:Nat} (hi:i<10) (hj:j<10):FitP [3,3] (lnk i j):=by
 refine ⟨rfl,fun n hn=>?_⟩
 match n,hn with
 | 0,_=>exact ⟨by simp [lnk,wrongP,wrongF]; omega,.inr rfl⟩
 | 1,_=>exact ⟨by simp [lnk,wrongP,wrongF]; omega,.inr rfl⟩
/-- The pairs that a relation has. -/
def relL (S:Nat→Nat→Bool):List Zp:=((List.range 100).filter fun n=>S (n / 10) (n % 10)).map fun n=>(lnk (n / 10:Nat) (n % 10:Nat),1)
theorem rel_mem {S:Nat→Nat→Bool} {x:Zp}:x ∈ relL S↔∃ i j:Nat,i<10∧j<10∧S i j=true∧x=(lnk i j,1):=by
 unfold relL;rw [List.mem_map];constructor
 ·rintro ⟨n,hn,rfl⟩;obtain ⟨h1,h2⟩:=List.mem_filter.1 hn;have:=List.mem_range.1 h1;exact ⟨n / 10,n % 10,by omega,by omega,h2,rfl⟩
 ·rintro ⟨i,j,hi,hj,h,rfl⟩;have e1:(i*10+j) / 10=i:=by omega
  have e2:(i*10+j) % 10=j:=by omega
  refine ⟨i*10+j,List.mem_filter.2 ⟨List.mem_range.2 (by omega),?_⟩,?_⟩
  ·rw [e1,e2]; exact h
  ·rw [e1,e2]
theorem rel_rise (S:Nat→Nat→Bool):Rise (relL S):=by
 unfold Rise relL;rw [List.pairwise_map];refine (List.pairwise_lt_range.filter _).imp fun {a b} h=>?_
 show cmpL (lnk _ _) (lnk _ _)<0;rw [cmp_lnk];by_cases h1:a / 10<b / 10
 ·rw [if_pos (by omega)]; omega
 ·rw [if_neg (by omega),if_neg (by omega),if_pos (by omega)]; omega
theorem rel_set (S:Nat→Nat→Bool):IsSet (relL S):=⟨rel_rise S,fun x hx=>by
 obtain ⟨_,_,_,_,_,rfl⟩:=rel_mem.1 hx
 show (1:Int)≠0
 decide,fun x hx=>by
 obtain ⟨_,_,_,_,_,rfl⟩:=rel_mem.1 hx
 exact lnk_bare _ _⟩
theorem rel_len (S:Nat→Nat→Bool):(relL S).length≤100:=by
 unfold relL;rw [List.length_map];have:=List.length_filter_le (fun n=>S (n / 10) (n % 10)) (List.range 100)
 simpa using this
theorem rel_inp (S:Nat→Nat→Bool):InpOk [3,3] (relL S):=by
 refine ⟨by decide,(wrongZ_iff _).2 ⟨by have:=rel_len S; omega,fun x hx=>?_,rel_rise S⟩,fun x hx=>?_⟩
 ·obtain ⟨i,j,hi,hj,_,rfl⟩:=rel_mem.1 hx;exact ⟨fit_row (lnk_fit hi hj) (by decide),by show (1:Int)≠0; decide,by show inW 1=true; decide⟩
 ·obtain ⟨i,j,hi,hj,_,rfl⟩:=rel_mem.1 hx;exact lnk_fit hi hj
theorem rel_wt (S:Nat→Nat→Bool) {i j:Nat} (hi:i<10) (hj:j<10):wt (relL S) (lnk i j)=if S i j=true then 1 else 0:=by
 by_cases h:S i j=true
 ·rw [if_pos h];exact wt_mem (rel_rise S) _ (rel_mem.2 ⟨i,j,hi,hj,h,rfl⟩)
 ·rw [if_neg h];refine wt_none fun x hx c=>?_
  obtain ⟨i',j',_,_,h',rfl⟩:=rel_mem.1 hx;obtain ⟨e1,e2⟩:=lnk_eq.1 c;obtain rfl:i'=i:=by omega
  obtain rfl:j'=j:=by omega
  exact h h'
/-- No pair of places. -/
def OffL (q:List Vl):Prop:=∀ i j:Nat,i<10→j<10→¬ cmpL (lnk i j) q=0
theorem rel_off (S:Nat→Nat→Bool) {q:List Vl} (h:OffL q):wt (relL S) q=0:=wt_none fun x hx c=>by
 obtain ⟨i,j,hi,hj,_,rfl⟩:=rel_mem.1 hx
 exact h i j hi hj c
theorem at_or_off (q:List Vl):(∃ i j:Nat,i<10∧j<10∧cmpL (lnk i j) q=0)∨OffL q:=by
 by_cases h:∃ i j:Nat,i<10∧j<10∧cmpL (lnk i j) q=0
 ·exact .inl h
 ·exact .inr fun i j hi hj c=>h ⟨i,j,hi,hj,c⟩
theorem rel_eq {z:List Zp} {S:Nat→Nat→Bool} (h:IsSet z) (h1:∀ i j:Nat,i<10→j<10→wt z (lnk i j)=if S i j=true then 1 else 0) (h2:∀ q,OffL q→wt z q=0):z=relL S:=set_unique _ _ h (rel_set S) fun q=>by
 rcases at_or_off q with ⟨i,j,hi,hj,c⟩ | h
 ·rw [← wt_congr c,← wt_congr c,h1 i j hi hj,rel_wt S hi hj]
 ·rw [h2 q h,rel_off S h]
theorem rel_one (S:Nat→Nat→Bool):One (relL S):=⟨(rel_inp S).set,rel_set S,fun q=>by
 rcases at_or_off q with ⟨i,j,hi,hj,c⟩ | h
 ·rw [← wt_congr c,rel_wt S hi hj]
  split <;> simp
 ·exact .inl (rel_off S h)⟩
theorem rel_congr {S T:Nat→Nat→Bool} (h:∀ i j,i<10→j<10→S i j=T i j):relL S=relL T:=rel_eq (rel_set S) (fun i j hi hj=>by rw [rel_wt S hi hj,h i j hi hj]) fun _ hq=>rel_off S hq
/-! ### sums -/
theorem tot_len:∀ {l:List Zp},(∀ x ∈ l,1≤x.2)→(l.length:Int)≤tot (fun _=>1) l
 | [],_=>Int.le_refl _
 | x :: r,h=>by
  have h1:=h x (by simp)
  have h2:=tot_len (l:=r) fun y hy=>h y (by simp [hy])
  rw [tot,List.length_cons]
  omega
theorem wt_le_tot {l:List Zp} (h:∀ x ∈ l,1≤x.2) (q:List Vl):0≤wt l q∧wt l q≤tot (fun _=>1) l:=by
 have h0:∀ x ∈ l,0≤x.2:=fun x hx=>by have:=h x hx; omega
 rw [wt_tot];refine ⟨tot_nonneg (fun _=>ite01 _) h0,tot_le (fun r=>?_) h0⟩;show (if _ then (1:Int) else 0)≤1
 split <;> omega
theorem canon_mem {l:List Zp} {x:Zp} (hx:x ∈ canon l):x.2=wt l x.1:=by rw [← canon_wt,wt_mem (canon_set l).rise x hx]
theorem small_gather {l:List Zp} (h:∀ x ∈ l,1≤x.2) (ht:tot (fun _=>1) l≤400):gatherE l=0:=by
 have h1:∀ x ∈ canon l,1≤x.2:=fun x hx=>by
  have e:=canon_mem hx;have:=(wt_le_tot h x.1).1;have:=(canon_set l).ne x hx;omega
 have hc:=tot_len h1;rw [tot_canon (fun _ _ _=>rfl)] at hc;have ho:outW (canon l)=false:=outW_ok fun j hj=>by
  have e:=canon_mem (List.getElem_mem hj);have:=wt_le_tot h (canon l)[j].1;rw [inW_iff];omega
 unfold gatherE;rw [ho,if_neg (by decide),if_neg (by omega)]
theorem pos_tot {g:List Vl→Int} (g0:∀ r,0≤g r):∀ {l:List Zp},(∀ x ∈ l,1≤x.2)→(0<tot g l↔∃ x ∈ l,0<g x.1)
 | [],_=>by simp [tot]
 | x :: r,h=>by
  have h1:=h x (by simp)
  have ih:=pos_tot g0 (l:=r) fun y hy=>h y (by simp [hy])
  have h2:=tot_nonneg g0 (z:=r) fun y hy=>by have:=h y (by simp [hy]); omega
  have h3:=g0 x.1
  have h4:0≤g x.1*x.2:=Int.mul_nonneg h3 (by omega)
  rw [tot]
  constructor
  ·intro k
   by_cases c:0<g x.1
   ·exact ⟨x,by simp,c⟩
   ·have e:g x.1=0:=by omega
    rw [e,Int.zero_mul] at k
    obtain ⟨y,hy,k⟩:=ih.1 (by omega)
    exact ⟨y,by simp [hy],k⟩
  ·rintro ⟨y,hy,k⟩
   rcases List.mem_cons.1 hy with rfl | hy
   ·have:=Int.mul_pos k (show (0:Int)<y.2 by omega)
    omega
   ·have:=ih.2 ⟨y,hy,k⟩
    omega
theorem tot_scale (g:List Vl→Int) (c:Int):∀ l:List Zp,tot (fun s=>g s*c) l=tot g l*c
 | []=>by simp [tot]
 | x :: r=>by
  rw [tot,tot,tot_scale g c r,Int.add_mul,Int.mul_assoc,Int.mul_comm c x.2,Int.mul_assoc]
theorem tot_swap (g:List Vl→List Vl→Int) (b:List Zp):∀ a:List Zp,tot (fun r=>tot (fun s=>g r s) b) a=tot (fun s=>tot (fun r=>g r s) a) b
 | []=>by simp only [tot,tot_zero]
 | x :: r=>by
  rw [tot,tot_swap g b r,← tot_scale,← tot_add]
  rfl
theorem pairsOf_all (x:Ex) (g:List Vl→Int) (p:Zp):∀ b:List Zp,tot g (pairsOf x p b)=tot (fun s=>if holdsP x (p.1 ++ s)=true then g (p.1 ++ s) else 0) b*p.2
 | []=>by simp [pairsOf,tot]
 | y :: t=>by
  have ih:=pairsOf_all x g p t
  unfold pairsOf at ih ⊢
  rw [tot,Int.add_mul,← ih,List.filter_cons]
  by_cases h:holdsP x (p.1 ++ y.1)=true
  ·rw [if_pos h,List.map_cons,tot,if_pos h]
   simp only
   rw [Int.mul_assoc,Int.mul_comm y.2]
  ·rw [if_neg h,if_neg h]
   simp
theorem join_all (x:Ex) (g:List Vl→Int) (b:List Zp):∀ a:List Zp,tot g (joinL x a b)=tot (fun r=>tot (fun s=>if holdsP x (r ++ s)=true then g (r ++ s) else 0) b) a
 | []=>rfl
 | p :: t=>by
  have ih:=join_all x g b t
  unfold joinL at ih ⊢
  rw [List.flatMap_cons,tot_append,tot,ih,pairsOf_all]
theorem join_pos {x:Ex} {a b:List Zp} (ha:∀ x ∈ a,1≤x.2) (hb:∀ x ∈ b,1≤x.2):∀ y ∈ joinL x a b,1≤y.2:=fun y hy=>by
 unfold joinL pairsOf at hy
 obtain ⟨p,hp,hy⟩:=List.mem_flatMap.1 hy
 obtain ⟨q,hq,rfl⟩:=List.mem_map.1 hy
 have h1:=ha p hp
 have h2:=hb q (List.mem_filter.1 hq).1
 have:=Int.mul_pos (show (0:Int)<p.2 by omega) (show (0:Int)<q.2 by omega)
 show 1≤p.2*q.2
 omega

/-- A set of edges. -/
structure Edg (d:List Zp) (E:Nat→Nat→Bool):Prop where
 set:IsSet d
 mem:∀ x ∈ d,∃ i j:Nat,i<10∧j<10∧E i j=true∧x.1=lnk i j∧1≤x.2
 has:∀ i j:Nat,E i j=true→∃ w,(lnk i j,w) ∈ d
 ten:Ten E
 sum:tot (fun _=>1) d≤30
section
variable {d:List Zp} {E:Nat→Nat→Bool}
theorem Edg.pos (h:Edg d E):∀ x ∈ d,1≤x.2:=fun x hx=>by
 obtain ⟨_,_,_,_,_,_,h⟩:=h.mem x hx
 exact h
theorem Edg.inp (h:Edg d E):InpOk [3,3] d:=by
 have hl:=tot_len h.pos;have hs:=h.sum;refine ⟨by decide,(wrongZ_iff _).2 ⟨by omega,fun x hx=>?_,h.set.rise⟩,fun x hx=>?_⟩
 ·obtain ⟨i,j,hi,hj,_,e,hp⟩:=h.mem x hx;have hw:=wt_le_tot h.pos x.1;rw [wt_mem h.set.rise x hx] at hw;refine ⟨by rw [e]; exact fit_row (lnk_fit hi hj) (by decide),by omega,?_⟩;rw [inW_iff];omega
 ·obtain ⟨i,j,hi,hj,_,e,_⟩:=h.mem x hx;rw [e];exact lnk_fit hi hj
theorem Edg.gat (h:Edg d E):gatherE d=0:=small_gather h.pos (by have:=h.sum; omega)
theorem canon_selfP {z:List Zp} (h:IsSet z):canon z=z:=set_unique _ _ (canon_set z) h fun q=>canon_wt z q
theorem Edg.wt (h:Edg d E) {i j:Nat} (hi:i<10) (hj:j<10):oneF (wt d (lnk i j))=if E i j=true then 1 else 0:=by
 by_cases c:E i j=true
 ·obtain ⟨w,hw⟩:=h.has i j c;have e:=wt_mem h.set.rise _ hw;have hp:=h.pos _ hw;simp only at e hp;rw [if_pos c,e];unfold oneF;rw [if_pos (by omega)]
 ·rw [if_neg c,wt_none]
  ·rfl
  ·intro x hx k;obtain ⟨i',j',_,_,h1,e,_⟩:=h.mem x hx;rw [e] at k;obtain ⟨e1,e2⟩:=lnk_eq.1 k;obtain rfl:i'=i:=by omega
   obtain rfl:j'=j:=by omega
   exact c h1
theorem Edg.off (h:Edg d E) {q:List Vl} (hq:OffL q):Go.Proofs.YtohjlfhmnmcndaaGreat.wt d q=0:=wt_none fun x hx c=>by
 obtain ⟨i,j,hi,hj,_,e,_⟩:=h.mem x hx
 rw [e] at c
 exact hq i j hi hj c
theorem tab_data (hd:InpOk [3,3] d):dataE [[3,3]] [d]=0:=dataE_of rfl fun i hi _=>by
 obtain rfl:i=0:=by simp at hi; omega
 exact (inpE_ok _ _).2 hd
theorem two_data {x:List Zp} (hd:InpOk [3,3] d) (hx:InpOk [3,3] x):dataE [[3,3],[3,3]] [d,x]=0:=dataE_of rfl fun i hi _=>by
 match i,hi with
 | 0,_=>exact (inpE_ok _ _).2 hd
 | 1,_=>exact (inpE_ok _ _).2 hx
theorem seed_ok (h:Edg d E):evE [[3,3]] [d] (tabP 0)=0∧dstZ [[3,3]] [d] (tabP 0)=relL E:=by
 have hl:lookE [[3,3]] (tabP 0)=0:=by decide +kernel
 obtain ⟨e1,e2⟩:=evE_own hl (tab_data h.inp);have en:evalQ [[3,3]] [d] (tabP 0)=(gatherE d,gatherZ d):=eval_none;rw [en] at e1 e2;have e0:evE [[3,3]] [d] (tabP 0)=0:=e1.trans h.gat;refine ⟨e0,rel_eq (one_dst e0).set (fun i j hi hj=>?_) fun q hq=>?_⟩
 ·rw [dst_wt e0,e2,gather_wt h.gat];exact h.wt hi hj
 ·rw [dst_wt e0,e2,gather_wt h.gat,h.off hq];rfl
theorem holds_eq (i k k' j:Int):holdsP eqX (lnk i k ++ lnk k' j)=decide (k=k'):=by
 have e:valX (lnk i k ++ lnk k' j) eqX=eqP (3,k,⟨#[]⟩) (3,k',⟨#[]⟩):=rfl;unfold holdsP;rw [e];unfold eqP eqT;by_cases h:k=k'
 ·subst h;have tb:tellB 3 3=true:=by decide
  simp [tb,cmpV,cmpI,tri,clsP,cls,tk,tn]
 ·have:¬ cmpV 3 k ⟨#[]⟩ 3 k' ⟨#[]⟩=0:=by
   unfold cmpV cmpI;simp only [ne_eq,not_true_eq_false,if_false,or_true,if_true]
   split <;> (try split) <;> omega
  simp [h,this,tri,clsP,cls,tk,tn]
theorem row_eq (i k k' j:Int):rowX [colX 0,colX 3] (lnk i k ++ lnk k' j)=lnk i j:=by
 have h:rowX [colX 0,colX 3] (lnk i k ++ lnk k' j)=lnk i j:=rfl;rw [h]
theorem ends_len (k:Nat) (hk:k<10):((List.range 100).filter fun n=>decide (n % 10=k)).length=10:=by
 have:∀ k<10,((List.range 100).filter fun n=>decide (n % 10=k)).length=10:=by decide +kernel
 exact this k hk
theorem tot_rel (S:Nat→Nat→Bool) (g:List Vl→Int) (c:Nat→Bool) (hg:∀ n,g (lnk (n / 10:Nat) (n % 10:Nat))=if c n then 1 else 0):tot g (relL S)≤((List.range 100).filter c).length:=by
 unfold relL;generalize List.range 100=l
 induction l with
 | nil=>simp [tot]
 | cons n r ih =>
  rw [List.filter_cons,List.filter_cons];have hn:=hg n;by_cases h1:S (n / 10) (n % 10)=true <;> by_cases h2:c n=true
  ·rw [if_pos h1,if_pos h2,List.map_cons,tot,hn,if_pos h2,List.length_cons];omega
  ·rw [if_pos h1,if_neg h2,List.map_cons,tot,hn,if_neg h2];omega
  ·rw [if_neg h1,if_pos h2,List.length_cons];omega
  ·rw [if_neg h1,if_neg h2];exact ih
theorem tot_bound {g:List Vl→Int} {c:Int} (c0:0≤c):∀ {l:List Zp},(∀ x ∈ l,g x.1≤c∧1≤x.2)→tot g l≤c*tot (fun _=>1) l
 | [],_=>by simp [tot]
 | x :: r,h=>by
  obtain ⟨h1,h2⟩:=h x (by simp)
  have ih:=tot_bound c0 (l:=r) fun y hy=>h y (by simp [hy])
  have h3:=Int.mul_le_mul_of_nonneg_right h1 (show 0≤x.2 by omega)
  rw [tot,tot,Int.mul_add,Int.one_mul]
  omega
theorem join_sum (h:Edg d E) (S:Nat→Nat→Bool):tot (fun _=>1) (joinL eqX (relL S) d)≤300:=by
 rw [join_all,tot_swap];have hb:tot (fun s=>tot (fun r=>if holdsP eqX (r ++ s)=true then (1:Int) else 0) (relL S)) d≤10*tot (fun _=>1) d:=by
  refine tot_bound (by omega) fun x hx=>?_
  obtain ⟨k,j,hk,hj,_,e,hp⟩:=h.mem x hx;refine ⟨?_,hp⟩;rw [e];have:=tot_rel S (fun r=>if holdsP eqX (r ++ lnk k j)=true then (1:Int) else 0) (fun n=>decide (n % 10=k)) fun n=>by
   simp only [holds_eq,decide_eq_true_eq];by_cases c:n % 10=k
   ·rw [if_pos (by omega),if_pos c]
   ·rw [if_neg (by omega),if_neg c]
  rw [ends_len k hk] at this;exact this
 have:=h.sum;omega
theorem rel_pos (S:Nat→Nat→Bool):∀ x ∈ relL S,1≤x.2:=fun x hx=>by
 obtain ⟨_,_,_,_,_,rfl⟩:=rel_mem.1 hx
 show (1:Int)≤1
 decide
theorem tot_ones:∀ {l:List Zp},(∀ x ∈ l,x.2=1)→tot (fun _=>1) l=l.length
 | [],_=>rfl
 | x :: r,h=>by
  rw [tot,tot_ones fun y hy=>h y (by simp [hy]),h x (by simp),List.length_cons]
  omega
theorem rel_ones (S:Nat→Nat→Bool):∀ x ∈ relL S,x.2=1:=fun x hx=>by
 obtain ⟨_,_,_,_,_,rfl⟩:=rel_mem.1 hx
 rfl
theorem rel_gat (S:Nat→Nat→Bool):gatherE (relL S)=0:=small_gather (rel_pos S) (by
 rw [tot_ones (rel_ones S)]
 have:=rel_len S
 omega)
theorem map_sum (xs:List Ex):∀ z:List Zp,tot (fun _=>1) (mapL xs z)=tot (fun _=>1) z
 | []=>rfl
 | x :: r=>by
  show tot _ ((rowX xs x.1,x.2) :: mapL xs r)=_
  rw [tot,tot,map_sum xs r]
theorem canon_pos1 {l:List Zp} (h:∀ x ∈ l,1≤x.2):∀ x ∈ canon l,1≤x.2:=fun x hx=>by
 have e:=canon_mem hx
 have:=(wt_le_tot h x.1).1
 have:=(canon_set l).ne x hx
 omega
theorem step_ok (h:Edg d E) (S:Nat→Nat→Bool):evE [[3,3],[3,3]] [d,relL S] stpP=0∧dstZ [[3,3],[3,3]] [d,relL S] stpP=relL (stpR E S):=by
 have hl:lookE [[3,3],[3,3]] stpP=0:=by decide +kernel
 have hI:=rel_inp S
 obtain ⟨e1,e2⟩:=evE_own hl (two_data h.inp hI)
 have t1:evalQ [[3,3],[3,3]] [d,relL S] (tabP 1)=(0,relL S):=by
  have en:evalQ [[3,3],[3,3]] [d,relL S] (tabP 1)=(gatherE (relL S),gatherZ (relL S)):=eval_none
  rw [en]
  unfold gatherZ
  rw [if_pos (rel_gat S),rel_gat S,canon_selfP (rel_set S)]
 have t0:evalQ [[3,3],[3,3]] [d,relL S] (tabP 0)=(0,d):=by
  have en:evalQ [[3,3],[3,3]] [d,relL S] (tabP 0)=(gatherE d,gatherZ d):=eval_none
  rw [en]
  unfold gatherZ
  rw [if_pos h.gat,h.gat,canon_selfP h.set]
 have hp:pairE 0 [3,3] [3,3] eqX (relL S) d=0:=by
  unfold pairE
  have:twoE [3,3] [3,3] eqX (relL S) d=0:=(twoE_ok _ _ _ _ _).2 ⟨by decide,by decide +kernel,hI,h.inp⟩
  rw [this]
  exact small_gather (join_pos (rel_pos S) h.pos) (by have:=join_sum h S; show tot _ (joinL _ _ _)≤_; omega)
 have pz:pairZ 0 [3,3] [3,3] eqX (relL S) d=canon (joinL eqX (relL S) d):=by
  unfold pairZ
  rw [if_pos hp]
  rfl
 have tj:evalQ [[3,3],[3,3]] [d,relL S] joiP=(0,canon (joinL eqX (relL S) d)):=by
  have e:=evalQ_own (ts:=[[3,3],[3,3]]) (data:=[d,relL S]) (p:=joiP) (by
   intro r hr
   simp [joiP,Pl.ks] at hr
   rcases hr with rfl | rfl
   ·rw [t1]
   ·rw [t0])
  rw [e]
  simp only [joiP,Pl.k,Pl.x,Pl.ks,List.map_cons,List.map_nil,t0,t1,nodeZ,if_true]
  have c1:colsP [[3,3],[3,3]] (tabP 1) = [3,3]:=by decide +kernel
  have c0:colsP [[3,3],[3,3]] (tabP 0) = [3,3]:=by decide +kernel
  rw [c1,c0,hp,pz]
 have jp:=canon_pos1 (join_pos (x:=eqX) (rel_pos S) h.pos)
 have jo:ZOk [3,3,3,3] (canon (joinL eqX (relL S) d)):=by
  have:=pair_ok hp
  rw [pz] at this
  exact this
 have hm:mapE [3,3,3,3] [colX 0,colX 3] (canon (joinL eqX (relL S) d))=0:=by
  unfold mapE
  have h1:listE [3,3,3,3] [colX 0,colX 3]=0:=by decide +kernel
  have h2:=(inpE_ok _ _).2 jo.inp
  rw [h1,h2]
  refine small_gather (fun y hy=>?_) ?_
  ·obtain ⟨p,hp,rfl⟩:=List.mem_map.1 hy
   exact jp p hp
  ·rw [map_sum,tot_canon (fun _ _ _=>rfl)]
   have:=join_sum h S
   omega
 have ts:evalQ [[3,3],[3,3]] [d,relL S] stpP=(0,mapZ [3,3,3,3] [colX 0,colX 3] (canon (joinL eqX (relL S) d))):=by
  have e:=evalQ_own (ts:=[[3,3],[3,3]]) (data:=[d,relL S]) (p:=stpP) (by
   intro r hr
   simp [stpP,Pl.ks] at hr
   subst hr
   rw [tj])
  rw [e]
  simp only [stpP,Pl.k,Pl.n,Pl.x,Pl.xs,Pl.gs,Pl.ks,List.map_cons,List.map_nil,tj,nodeZ,if_true]
  have c1:colsP [[3,3],[3,3]] joiP = [3,3,3,3]:=by decide +kernel
  rw [c1,hm]
  simp
 rw [ts] at e1 e2
 have key:∀ q,wt (mapZ [3,3,3,3] [colX 0,colX 3] (canon (joinL eqX (relL S) d))) q=tot (fun r=>tot (fun s=>if holdsP eqX (r ++ s)=true then (if cmpL (rowX [colX 0,colX 3] (r ++ s)) q=0 then 1 else 0) else 0) d) (relL S):=fun q=>by
  rw [mapZ_wt hm,tot_canon (resp_map _ q),join_all]
 have nn:∀ (q r s:List Vl),(0:Int)≤if holdsP eqX (r ++ s)=true then (if cmpL (rowX [colX 0,colX 3] (r ++ s)) q=0 then 1 else 0) else 0:=fun q r s=>by
  split
  ·exact ite01 _
  ·exact Int.le_refl _
 have hpos:∀ x ∈ d,0≤x.2:=fun x hx=>by have:=h.pos x hx; omega
 have pos:∀ q,0<wt (mapZ [3,3,3,3] [colX 0,colX 3] (canon (joinL eqX (relL S) d))) q↔∃ i k j:Nat,i<10∧j<10∧k<10∧S i k=true∧E k j=true∧cmpL (lnk i j) q=0:=fun q=>by
  rw [key,pos_tot (fun r=>tot_nonneg (fun s=>nn q r s) hpos) (rel_pos S)]
  constructor
  ·rintro ⟨x,hx,h1⟩
   obtain ⟨y,hy,h2⟩:=(pos_tot (nn q x.1) h.pos).1 h1
   obtain ⟨i,k,hi,hk,h3,rfl⟩:=rel_mem.1 hx
   obtain ⟨k',j,hk',hj,h4,e,_⟩:=h.mem y hy
   rw [e] at h2
   simp only [holds_eq,row_eq,decide_eq_true_eq] at h2
   split at h2
   ·rename_i c
    obtain rfl:k=k':=by omega
    by_cases c2:cmpL (lnk i j) q=0
    ·exact ⟨i,k,j,hi,hj,hk,h3,h4,c2⟩
    ·rw [if_neg c2] at h2
     omega
   ·omega
  ·rintro ⟨i,k,j,hi,hj,hk,h3,h4,c⟩
   obtain ⟨w,hw⟩:=h.has k j h4
   refine ⟨_,rel_mem.2 ⟨i,k,hi,hk,h3,rfl⟩,(pos_tot (nn q _) h.pos).2 ⟨_,hw,?_⟩⟩
   simp [holds_eq,row_eq,c]
 refine ⟨e1,rel_eq (one_dst e1).set (fun i j hi hj=>?_) fun q hq=>?_⟩
 ·rw [dst_wt e1,e2]
  unfold oneF
  by_cases c:stpR E S i j=true
  ·obtain ⟨k,hk,h1,h2⟩:=stpR_iff.1 c
   rw [if_pos c,if_pos ((pos _).2 ⟨i,k,j,hi,hj,hk,h1,h2,cmpL_refl _⟩)]
  ·rw [if_neg c,if_neg]
   intro hp
   obtain ⟨i',k,j',_,_,hk,h1,h2,h3⟩:=(pos _).1 hp
   obtain ⟨a1,a2⟩:=lnk_eq.1 h3
   obtain rfl:i'=i:=by omega
   obtain rfl:j'=j:=by omega
   exact c (stpR_iff.2 ⟨k,hk,h1,h2⟩)
 ·rw [dst_wt e1,e2]
  unfold oneF
  rw [if_neg]
  intro hp
  obtain ⟨i,k,j,hi,hj,_,_,_,h3⟩:=(pos _).1 hp
  exact hq i j hi hj h3
end
end Go.Proofs.YtohjlfhmnmcndaaGreat
namespace Go.Proofs.YtohjlfhmnmcndaaGreat
open Go.RowKit Go.Lib Go.Shelf

def isTB (k:Int) (p:Pl):Bool:=p.k == 1 && p.n == k

set_option maxRecDepth 100000 in
set_option maxHeartbeats 2000000 in
theorem isTable_at (p:Pl) (q:Pw) (k:Int) (w:World):Calls Tryz.prog 59 #[plV p q,.int .i64 k] w fun e w'=>e = .returned (.bool (isTB k p))∧Below w.heap.size w w':=by
 have hA:=plBx_below w p q;have EL:=plBx_el w p q;obtain ⟨y0,y1,⟨y2,y3,y4,y5,y6,y7⟩,y8,y9,y10⟩:=EL.el;simp only [Nat.zero_add] at y1 y2 y3 y4 y5 y6 y7 y8 y9 y10;obtain ⟨r,hr⟩:∃ r,isTB k p=r:=⟨_,rfl⟩
 rw [hr];have HR:Hid (isTB k p=r):=hr;unfold plV;clear EL hr;go_enter Tryz.func59,Tryz.ntmps59;go_upto_region 1 with fail
 generalize w.alloc (plBx p q)=wA at *;cases hk:(p.k == 1) with
 | false =>
  have e:r=false:=by rw [← HR.out]; unfold isTB; rw [hk]; rfl
  subst e;clear HR;go_wp2
  go_ret;exact ⟨rfl,hA⟩
 | true =>
  cases hn:(p.n == k) with
  | false =>
   have e:r=false:=by rw [← HR.out]; unfold isTB; rw [hk,hn]; rfl
   subst e;clear HR;go_wp2
   go_ret;exact ⟨rfl,hA⟩
  | true =>
   have e:r=true:=by rw [← HR.out]; unfold isTB; rw [hk,hn]; rfl
   subst e;clear HR;go_wp2
   go_ret;exact ⟨rfl,hA⟩
mutual
/-- A way goes down to a table. -/
def ledB (k:Int):Pl→Bool
 | .mk kd n _ _ _ ks=>if kd=2∨kd=3∨kd=5 then ledH k ks else if kd=4 then ledT k ks else kd == 1 && n == k
def ledH (k:Int):List Pl→Bool
 | []=>false
 | p :: _=>ledB k p
def ledT (k:Int):List Pl→Bool
 | []=>false
 | p :: r=>ledB k p || ledH k r
end
def LedAt (ts:List (List Int)) (k:Int) (p:Pl):Prop:=∀ (q:Pw) (m d:Int) (w:World),(lookX ts p m d).1=0→PlB w.heap.size w p q→Calls Tryz.prog 60 #[plV p q,.int .i64 k] w fun e w'=>e = .returned (.bool (ledB k p))∧Below w.heap.size w w'
theorem led_eq (k:Int) (p:Pl):ledB k p=if p.k=2∨p.k=3∨p.k=5 then ledH k p.ks else if p.k=4 then ledT k p.ks else isTB k p:=by cases p; rw [ledB]; rfl
theorem led_one {k:Int} {l:List Pl} (h:0<l.length):ledH k l=ledB k l[0]:=by
 match l,h with
 | p :: r,_=>rw [ledH]; rfl
theorem led_two {k:Int} {l:List Pl} (h:1<l.length):ledT k l=(ledB k l[0] || ledB k l[1]):=by
 match l,h with
 | p :: r :: s,_=>rw [ledT,ledH]; rfl
set_option maxRecDepth 100000 in
set_option maxHeartbeats 16000000 in
theorem leads_at (ts:List (List Int)) (k:Int) (p:Pl) (ih:∀ r ∈ p.ks,LedAt ts k r):LedAt ts k p:=by
 rintro ⟨xa,xc,sa,sc,ga,gc,ka,kc⟩ m d w hlk hp;have HLk:Hid (∀ r ∈ p.ks,∃ m',(lookX ts r m' (d+1)).1=0):=by
  cases p with
  | mk kd n x xs gs ks=>exact (look_kids hlk).2.2
 have HKl:Hid (p.ks.length=kidsQ p.k):=by
  cases p with
  | mk kd n x xs gs ks=>exact (look_kids hlk).2.1
 clear hlk;have hA:=plBx_below w p ⟨xa,xc,sa,sc,ga,gc,ka,kc⟩;have EL:=plBx_el w p ⟨xa,xc,sa,sc,ga,gc,ka,kc⟩;have IH:Hid (∀ r ∈ p.ks,LedAt ts k r):=ih;have HE:Hid (ledB k p=if p.k=2∨p.k=3∨p.k=5 then ledH k p.ks else if p.k=4 then ledT k p.ks else isTB k p):=led_eq k p;generalize hr:ledB k p=r at HE ⊢;have PB:=(PlB.next hp hA (Nat.le_refl _)).up hA.size;have hks:PlAt w.heap.size w ka p.ks:=hp.ks;clear hr ih hp;obtain ⟨y0,y1,⟨y2,y3,y4,y5,y6,y7⟩,y8,y9,y10⟩:=EL.el;simp only [Nat.zero_add] at y1 y2 y3 y4 y5 y6 y7 y8 y9 y10;have ELX:=EL;clear EL;unfold plV;(try dsimp only at y7 y8 y9 y10);(try dsimp only)
 go_enter Tryz.func60,Tryz.ntmps60;go_upto_region 1 with fail
 generalize w.alloc (plBx p ⟨xa,xc,sa,sc,ga,gc,ka,kc⟩)=wA at *;by_cases h235:p.k=2∨p.k=3∨p.k=5
 ·have hl:0<p.ks.length:=by
   rw [HKl.out];unfold kidsQ
   split
   ·omega
   ·split <;> omega
  have e:r=ledB k p.ks[0]:=by rw [HE.out,if_pos h235,led_one hl]
  obtain ⟨b,off,q1,rfl,hbl,E1,PB1⟩:=(PlAt.next hA (Nat.le_refl _) hks).elem hl;obtain ⟨m',hm'⟩:=HLk.out p.ks[0] (List.getElem_mem hl);have con:=IH.out p.ks[0] (List.getElem_mem hl) q1 m' (d+1) wA hm' (PB1.up hA.size);rw [← e] at con;have hlz:(0:Int)<(p.ks.length:Int):=by omega
  obtain ⟨x0,x1,⟨x2,x3,x4,x5,x6,x7⟩,x8,x9,x10⟩:=E1;simp only [Nat.zero_mul,Nat.add_zero] at x0 x1 x2 x3 x4 x5 x6 x7 x8 x9 x10;have hc:((p.k == 2)=true)∨((p.k == 2)=false∧(p.k == 3)=true)∨((p.k == 2)=false∧(p.k == 3)=false∧(p.k == 5)=true):=by
   simp only [beq_iff_eq,beq_eq_false_iff_ne];omega
  clear h235 HE IH HLk HKl PB1 e hm' ELX PB;unfold plV at con;rcases hc with h2 | ⟨h2,h3⟩ | ⟨h2,h3,h5⟩
  all_goals
   go_wp2_with fail
   refine con.mono ?_;rintro e w5 ⟨rfl,hb5⟩;clear con;go_wp2_with fail
   go_ret;exact ⟨rfl,chain hA hb5⟩
 have n2:(p.k == 2)=false:=by simp; omega
 have n3:(p.k == 3)=false:=by simp; omega
 have n5:(p.k == 5)=false:=by simp; omega
 by_cases h4:p.k=4
 ·have hl:1<p.ks.length:=by
   rw [HKl.out,h4];decide
  have hl0:0<p.ks.length:=by omega
  have e:r=(ledB k p.ks[0] || ledB k p.ks[1]):=by rw [HE.out,if_neg h235,if_pos h4,led_two hl]
  obtain ⟨b,off,q1,rfl,hbl,E1,PB1⟩:=(PlAt.next hA (Nat.le_refl _) hks).elem hl0;obtain ⟨m',hm'⟩:=HLk.out p.ks[0] (List.getElem_mem hl0);have con:=IH.out p.ks[0] (List.getElem_mem hl0) q1 m' (d+1) wA hm' (PB1.up hA.size);have n4:(p.k == 4)=true:=by simpa using h4
  have hlz:(0:Int)<(p.ks.length:Int):=by omega
  have hlz1:(1:Int)<(p.ks.length:Int):=by omega
  obtain ⟨x0,x1,⟨x2,x3,x4,x5,x6,x7⟩,x8,x9,x10⟩:=E1;simp only [Nat.zero_mul,Nat.add_zero] at x0 x1 x2 x3 x4 x5 x6 x7 x8 x9 x10;have HER:Hid (r=(ledB k p.ks[0] || ledB k p.ks[1])):=e;clear h4 h235 HE HKl PB1 e hm' PB y0 y1 y2 y3 y4 y5 y6 y7 y8 y9 y10;generalize ledB k p.ks[0]=b0 at *;unfold plV at con;obtain ⟨y0,y1,_,_,_,y10⟩:=ELX.el;simp only [Nat.zero_add] at y0 y1 y10;go_wp2_with fail
  refine con.mono ?_;rintro e w5 ⟨rfl,hb5⟩;clear con x0 x1 x2 x3 x4 x5 x6 x7 x8 x9 x10 y0 y1 y10;have hA5:=chain hA hb5;cases b0 with
  | true =>
   have e:r=true:=by rw [HER.out]; rfl
   subst e;go_wp2_with fail
   go_ret;exact ⟨rfl,hA5⟩
  | false =>
   have e:r=ledB k p.ks[1]:=by rw [HER.out]; rfl
   obtain ⟨b',off',q2,e',hbl',E2,PB2⟩:=(PlAt.next hA5 (Nat.le_refl _) hks).elem hl;injection e' with e'
   injection e' with e1 e2
   subst e1 e2;obtain ⟨m',hm'⟩:=HLk.out p.ks[1] (List.getElem_mem hl);have con:=IH.out p.ks[1] (List.getElem_mem hl) q2 m' (d+1) w5 hm' (PB2.up hA5.size);rw [← e] at con;obtain ⟨x0,x1,⟨x2,x3,x4,x5,x6,x7⟩,x8,x9,x10⟩:=E2;simp only [Nat.one_mul] at x0 x1 x2 x3 x4 x5 x6 x7 x8 x9 x10;have ELX5:=ELX.next hb5;obtain ⟨y0,y1,_,_,_,y10⟩:=ELX5.el;simp only [Nat.zero_add] at y0 y1 y10;clear HER IH HLk PB2 e hm' ELX ELX5;unfold plV at con;go_wp2_with fail
   refine con.mono ?_;rintro e w6 ⟨rfl,hb6⟩;clear con;go_wp2_with fail
   go_ret;exact ⟨rfl,chain hA5 hb6⟩
 have n4:(p.k == 4)=false:=by simpa using h4
 have e:r=isTB k p:=by rw [HE.out,if_neg h235,if_neg h4]
 have con:=isTable_at p ⟨xa,xc,sa,sc,ga,gc,ka,kc⟩ k wA;rw [← e] at con;clear h4 h235 HE IH HLk HKl e PB ELX;unfold plV at con;(try dsimp only at con);go_wp2_with fail
 refine con.mono ?_;rintro e w5 ⟨rfl,hb5⟩;clear con;go_wp2_with fail
 go_ret;exact ⟨rfl,chain hA hb5⟩
theorem leads_all (ts:List (List Int)) (k:Int):∀ p,LedAt ts k p:=Pl.ind fun kd n x xs gs ks ih=>leads_at ts k (.mk kd n x xs gs ks) ih

/-- Plans whose lists of kids are no longer than any can be. -/
inductive PlKs:Pl→Prop
 | mk (k n:Int) (x:Ex) (xs:List Ex) (gs:List Ag) (ks:List Pl) (hl:ks.length≤100000000000000) (hk:∀ p ∈ ks,PlKs p):PlKs (.mk k n x xs gs ks)
theorem PlKs.len {p:Pl} (h:PlKs p):p.ks.length≤100000000000000:=by cases h with | mk _ _ _ _ _ _ hl _=>exact hl
theorem PlKs.ks {p:Pl} (h:PlKs p):∀ q ∈ p.ks,PlKs q:=by cases h with | mk _ _ _ _ _ _ _ hk=>exact hk
theorem look_ks {ts:List (List Int)}:∀ (p:Pl) (m d:Int),(lookX ts p m d).1=0→PlKs p :=
 Pl.ind fun k n x xs gs ks ih m d h=>by
  obtain ⟨_,h2,h3⟩:=look_kids h
  refine .mk _ _ _ _ _ _ (by rw [h2]; have:=kidsQ_le k; omega) fun p hp=>?_
  obtain ⟨m',hm⟩:=h3 p hp
  exact ih p hp m' (d+1) hm

/-- All but two blocks is as it was. -/
structure Ex2 (b1 b2:Nat) (w W:World):Prop where
 os:W.os=w.os
 tape:W.tape=w.tape
 output:W.output=w.output
 size:w.heap.size≤W.heap.size
 blk:∀ k,k<w.heap.size→k≠b1→k≠b2→W.heap[k]? = w.heap[k]?
theorem Ex2.refl (b1 b2:Nat) (w:World):Ex2 b1 b2 w w:=⟨rfl,rfl,rfl,Nat.le_refl _,fun _ _ _ _=>rfl⟩
theorem Ex2.of {b1 b2:Nat} {w W:World} (h:Below w.heap.size w W):Ex2 b1 b2 w W:=⟨h.os,h.tape,h.output,h.size,fun k hk _ _=>h.block k hk⟩
theorem Ex2.trans {b1 b2:Nat} {a b c:World} (h:Ex2 b1 b2 a b) (k:Ex2 b1 b2 b c):Ex2 b1 b2 a c :=
 ⟨k.os.trans h.os,k.tape.trans h.tape,k.output.trans h.output,Nat.le_trans h.size k.size,fun i hi h1 h2=>(k.blk i (Nat.lt_of_lt_of_le hi h.size) h1 h2).trans (h.blk i hi h1 h2)⟩
theorem Ex2.below {b1 b2 lo:Nat} {w W:World} (h:Ex2 b1 b2 w W) (h1:lo≤b1) (h2:lo≤b2) (hl:lo≤w.heap.size):Below lo w W:=⟨h.os,h.tape,h.output,h.size,fun k hk=>h.blk k (by omega) (by omega) (by omega)⟩
theorem Ex2.el {b1 b2 b:Nat} {w W:World} {p:Pl} {q:Pw} (h:Ex2 b1 b2 w W) (E:ElX w b p q) (h1:b≠b1) (h2:b≠b2):ElX W b p q:=by
 have hc:∀ o,W.cell? ⟨b,o,none⟩=w.cell? ⟨b,o,none⟩:=fun o=>World.cell?_of_block (w:=w) (a:=⟨b,o,none⟩) (h.blk b E.lt h1 h2)
 obtain ⟨y0,y1,⟨y2,y3,y4,y5,y6,y7⟩,y8,y9,y10⟩:=E.el;exact ⟨⟨(hc _).trans y0,(hc _).trans y1,⟨(hc _).trans y2,(hc _).trans y3,(hc _).trans y4,(hc _).trans y5,(hc _).trans y6,(hc _).trans y7⟩,(hc _).trans y8,(hc _).trans y9,(hc _).trans y10⟩,Nat.lt_of_lt_of_le E.lt h.size⟩
theorem Ex2.set {b1 b2 b:Nat} {w W:World} (h:Ex2 b1 b2 w W) (hb:b=b1∨b=b2) (u:Value):Ex2 b1 b2 w (W.setCell ⟨b,0,none⟩ u) :=
 have X:=(BelowX.refl b W).set 0 u
 h.trans ⟨X.1.os,X.1.tape,X.1.output,X.1.size,fun k hk h1 h2=>X.2 k hk (by rcases hb with rfl | rfl <;> assumption)⟩
/-- The counts lie in two variables. -/
structure Cnt (b3 b5 b6:Nat) (k:Int) (i j:Nat) (W:World):Prop where
 q3:W.heap[b3]? = some (.cells #[.int .i64 k] 3 (0,0))
 q5:W.heap[b5]? = some (.cells #[.int .i64 i] 3 (0,0))
 q6:W.heap[b6]? = some (.cells #[.int .i64 j] 3 (0,0))
theorem Cnt.next {b3 b5 b6:Nat} {k:Int} {i j:Nat} {W W':World} (h:Cnt b3 b5 b6 k i j W) (hb:Below W.heap.size W W'):Cnt b3 b5 b6 k i j W':=⟨(hb.block _ (lt_of_heap h.q3)).trans h.q3,(hb.block _ (lt_of_heap h.q5)).trans h.q5,(hb.block _ (lt_of_heap h.q6)).trans h.q6⟩
def oneB (b:Bool):Nat:=if b then 1 else 0

set_option maxRecDepth 100000 in
set_option maxHeartbeats 4000000 in
theorem plain1_at (b3 b5 b6:Nat) (n35:b3≠b5) (n36:b3≠b6) (n56:b5≠b6) (k:Int) (p:Pl) (q:Pw) (i j:Nat) (w:World) (hc:Cnt b3 b5 b6 k i j w) (hi:i≤1000000) (hj:j≤1000000) :
  Calls Tryz.prog 58 #[plV p q,.pointer (some ⟨b3,0,none⟩),.pointer (some ⟨b5,0,none⟩),.pointer (some ⟨b6,0,none⟩)] w fun e w'=>e = .returned (.tuple #[])∧Cnt b3 b5 b6 k (i+oneB (isTB k p)) (j+oneB (p.k == 9)) w'∧Ex2 b5 b6 w w':=by
 have hA:=plBx_below w p q;have EL:=plBx_el w p q;have CN:=hc.next hA;obtain ⟨y0,y1,⟨y2,y3,y4,y5,y6,y7⟩,y8,y9,y10⟩:=EL.el;simp only [Nat.zero_add] at y1 y2 y3 y4 y5 y6 y7 y8 y9 y10;have HT9:Hid ((p.k == 9)=true→isTB k p=false):=fun h=>by
  have:p.k=9:=by simpa using h
  unfold isTB;rw [this];rfl
 clear hc;generalize htb:isTB k p=tb;have HTB:Hid (isTB k p=tb):=htb;rw [htb] at HT9;clear htb;obtain ⟨b9,h9⟩:∃ b9,(p.k == 9)=b9:=⟨_,rfl⟩
 rw [h9] at HT9 ⊢;unfold plV;go_enter Tryz.func58,Tryz.ntmps58;go_upto_region 1 with fail
 generalize w.alloc (plBx p q)=wA at *;have con:=isTable_at p q k wA;rw [HTB.out] at con;have c3:=cell_of (i:=0) CN.q3 rfl;unfold plV at con;go_wp2_with fail
 refine con.mono ?_;rintro e w1 ⟨rfl,hb⟩;clear con c3 y0 y1 y2 y3 y4 y5 y6 y7 y8 y9 y10;replace CN:=CN.next hb;replace EL:=EL.next hb;have X1:Ex2 b5 b6 w w1:=Ex2.of (chain hA hb);have c5:=cell_of (i:=0) CN.q5 rfl;have c6:=cell_of (i:=0) CN.q6 rfl;have f5:=frozen_of_row w1 b5 0 _ _ CN.q5;have f6:=frozen_of_row w1 b6 0 _ _ CN.q6;cases tb with
 | true =>
  have e9:b9=false:=by
   cases h:b9 with
   | false=>rfl
   | true=>exact absurd (HT9.out h) (by decide)
  subst e9;have N5:=heap_setCell_same w1 b5 0 #[.int .i64 i] 3 (.int .i64 (i+1:Int)) CN.q5;have N3:=(Below.heap_setCell w1 ⟨b5,0,none⟩ (.int .i64 (i+1:Int)) b3 n35).trans CN.q3;have N6:=(Below.heap_setCell w1 ⟨b5,0,none⟩ (.int .i64 (i+1:Int)) b6 (Ne.symm n56)).trans CN.q6;have XX:=X1.set (.inl rfl) (.int .i64 (i+1:Int));have C2:Cnt b3 b5 b6 k (i+oneB true) (j+oneB false) (w1.setCell ⟨b5,0,none⟩ (.int .i64 (i+1:Int))):=⟨N3,N5,N6⟩
  clear N5 N3 N6 HT9 HTB EL CN X1 h9;go_wp2_with fail
  exact bodyPost_end (v:=.tuple #[]) (by simp [results,Tryz.results58,go_sem]) rfl ⟨rfl,C2,XX⟩
 | false =>
  obtain ⟨y0,_,_,_,_,_⟩:=EL.el;cases b9 with
  | true =>
   have N6:=heap_setCell_same w1 b6 0 #[.int .i64 j] 3 (.int .i64 (j+1:Int)) CN.q6;have N3:=(Below.heap_setCell w1 ⟨b6,0,none⟩ (.int .i64 (j+1:Int)) b3 n36).trans CN.q3;have N5:=(Below.heap_setCell w1 ⟨b6,0,none⟩ (.int .i64 (j+1:Int)) b5 n56).trans CN.q5;have XX:=X1.set (.inr rfl) (.int .i64 (j+1:Int));have C2:Cnt b3 b5 b6 k (i+oneB false) (j+oneB true) (w1.setCell ⟨b6,0,none⟩ (.int .i64 (j+1:Int))):=⟨N3,N5,N6⟩
   clear N5 N3 N6 HT9 HTB EL CN X1;go_wp2_with fail
   exact bodyPost_end (v:=.tuple #[]) (by simp [results,Tryz.results58,go_sem]) rfl ⟨rfl,C2,XX⟩
  | false =>
   have C2:Cnt b3 b5 b6 k (i+oneB false) (j+oneB false) w1:=CN;clear HT9 HTB EL CN;go_wp2_with fail
   exact bodyPost_end (v:=.tuple #[]) (by simp [results,Tryz.results58,go_sem]) rfl ⟨rfl,C2,X1⟩
mutual
/-- How often a table stands in a plan; how often something is taken away. -/
def cnT (k:Int):Pl→Nat
 | .mk kd n _ _ _ ks=>oneB (kd == 1 && n == k)+cnTs k ks
def cnTs (k:Int):List Pl→Nat
 | []=>0
 | p :: r=>cnT k p+cnTs k r
end
mutual
def cnS:Pl→Nat
 | .mk kd _ _ _ _ ks=>oneB (kd == 9)+cnSs ks
def cnSs:List Pl→Nat
 | []=>0
 | p :: r=>cnS p+cnSs r
end
theorem cnT_eq (k:Int) (p:Pl):cnT k p=oneB (isTB k p)+cnTs k p.ks:=by cases p; rw [cnT]; rfl
theorem cnS_eq (p:Pl):cnS p=oneB (p.k == 9)+cnSs p.ks:=by cases p; rw [cnS]; rfl
theorem cnTs_take (k:Int):∀ {l:List Pl} {j:Nat} (h:j<l.length),cnTs k (l.take (j+1))=cnTs k (l.take j)+cnT k l[j]∧cnTs k (l.take (j+1))≤cnTs k l
 | p :: r,0,_=>by simp [cnTs]
 | p :: r,j+1,h=>by
  have:=cnTs_take k (l:=r) (j:=j) (by simpa using h)
  simp only [List.take_succ_cons,cnTs,List.getElem_cons_succ]
  omega
theorem cnSs_take:∀ {l:List Pl} {j:Nat} (h:j<l.length),cnSs (l.take (j+1))=cnSs (l.take j)+cnS l[j]∧cnSs (l.take (j+1))≤cnSs l
 | p :: r,0,_=>by simp [cnSs]
 | p :: r,j+1,h=>by
  have:=cnSs_take (l:=r) (j:=j) (by simpa using h)
  simp only [List.take_succ_cons,cnSs,List.getElem_cons_succ]
  omega
def VisAt (b3 b5 b6 lo:Nat) (k:Int) (p:Pl):Prop:=∀ (q:Pw) (i j:Nat) (w:World),PlKs p→PlB lo w p q→lo≤w.heap.size→Cnt b3 b5 b6 k i j w→i+cnT k p≤1000000→j+cnS p≤1000000→Calls Tryz.prog 57 #[plV p q,.func (.func 58) #[] #[.pointer (some ⟨b3,0,none⟩),.pointer (some ⟨b5,0,none⟩),.pointer (some ⟨b6,0,none⟩)]] w fun e w'=>e = .returned (.tuple #[])∧Cnt b3 b5 b6 k (i+cnT k p) (j+cnS p) w'∧Ex2 b5 b6 w w'
set_option maxRecDepth 100000 in
set_option maxHeartbeats 16000000 in
theorem visit_at (b3 b5 b6 lo:Nat) (n35:b3≠b5) (n36:b3≠b6) (n56:b5≠b6) (h5:lo≤b5) (h6:lo≤b6) (k:Int) (p:Pl) (ih:∀ r ∈ p.ks,VisAt b3 b5 b6 lo k r):VisAt b3 b5 b6 lo k p:=by
 rintro ⟨xa,xc,sa,sc,ga,gc,ka,kc⟩ i j w hlk hp hlo hc hi hj;have HLk:Hid (∀ r ∈ p.ks,PlKs r):=hlk.ks;have hl2:=hlk.len;clear hlk;have hA:=plBx_below w p ⟨xa,xc,sa,sc,ga,gc,ka,kc⟩;have EL:=plBx_el w p ⟨xa,xc,sa,sc,ga,gc,ka,kc⟩;have IH:Hid (∀ r ∈ p.ks,VisAt b3 b5 b6 lo k r):=ih;have CN:=hc.next hA;have l3:=lt_of_heap hc.q3;have l5:=lt_of_heap hc.q5;have l6:=lt_of_heap hc.q6;have HT:Hid (cnT k p=oneB (isTB k p)+cnTs k p.ks):=cnT_eq k p;have HS:Hid (cnS p=oneB (p.k == 9)+cnSs p.ks):=cnS_eq p;have hks:PlAt lo w ka p.ks:=hp.ks;rw [HT.out] at hi;rw [HS.out] at hj;generalize hr1:i+cnT k p=r1
 generalize hr2:j+cnS p=r2;have HR1:Hid (r1=i+oneB (isTB k p)+cnTs k p.ks):=by show _=_; rw [← hr1,HT.out]; omega
 have HR2:Hid (r2=j+oneB (p.k == 9)+cnSs p.ks):=by show _=_; rw [← hr2,HS.out]; omega
 clear hr1 hr2 ih hp hc HT HS;obtain ⟨y0,y1,⟨y2,y3,y4,y5,y6,y7⟩,y8,y9,y10⟩:=EL.el;simp only [Nat.zero_add] at y1 y2 y3 y4 y5 y6 y7 y8 y9 y10;unfold plV;(try dsimp only at y7 y8 y9 y10);(try dsimp only);go_enter Tryz.func57,Tryz.ntmps57;go_upto_region 1 with fail
 generalize w.alloc (plBx p ⟨xa,xc,sa,sc,ga,gc,ka,kc⟩)=wA at *;have con:=plain1_at b3 b5 b6 n35 n36 n56 k p ⟨xa,xc,sa,sc,ga,gc,ka,kc⟩ i j wA CN (by omega) (by omega);generalize hi1:i+oneB (isTB k p)=i1 at *;generalize hj1:j+oneB (p.k == 9)=j1 at *;unfold plV at con;(try dsimp only at con);go_wp2_with fail
 refine con.mono ?_;rintro e w1 ⟨rfl,C1,X1⟩;clear con y0 y1 y2 y3 y4 y5 y6 y7 y8 y9 y10 CN;have XA:Ex2 b5 b6 w w1:=(Ex2.of hA).trans X1;have EL1:=X1.el EL (by omega) (by omega);obtain ⟨y0,y1,_,_,_,y10⟩:=EL1.el;simp only [Nat.zero_add] at y0 y1 y10;have HI1:Hid (i+oneB (isTB k p)=i1):=hi1;have HJ1:Hid (j+oneB (p.k == 9)=j1):=hj1;clear hi1 hj1 EL X1;go_upto_region 3 with fail
 clear y0 y1 y10;go_loopw [12] (fun n wr=>∃ x:Nat,x≤p.ks.length∧n = .int .i64 x∧Cnt b3 b5 b6 k (i1+cnTs k (p.ks.take x)) (j1+cnSs (p.ks.take x)) wr∧Ex2 b5 b6 w wr) (fun n _=>p.ks.length - (intOf n).toNat)
 case atStart=>exact ⟨0,Nat.zero_le _,rfl,C1,XA⟩
 case round =>
  obtain ⟨x,hx,rfl,CR,XR⟩:=hrel;clear C1 XA EL1;by_cases hlt:x<p.ks.length;rotate_left
  ·have e:x=p.ks.length:=by omega
   have hjn:¬ (x:Int)<(p.ks.length:Int):=by omega
   rw [e,List.take_length,← HR1.out,← HR2.out] at CR;clear e;go_wp2_with fail
   exact bodyPost_end (v:=.tuple #[]) (by simp [results,Tryz.results57,go_sem]) rfl ⟨rfl,CR,XR⟩
  have hbl0:=XR.below h5 h6 hlo;obtain ⟨b,off,q1,rfl,hbl,E1,PB⟩:=(PlAt.next hbl0 (Nat.le_refl _) hks).elem hlt;obtain ⟨y0,y1,⟨y2,y3,y4,y5,y6,y7⟩,y8,y9,y10⟩:=E1;have hjz:(x:Int)<(p.ks.length:Int):=by omega
  obtain ⟨t1,t2⟩:=cnTs_take k hlt;obtain ⟨t3,t4⟩:=cnSs_take hlt;have hal:=plBx_below wr p.ks[x] q1;have EK:=plBx_el wr p.ks[x] q1;have hsz:=XR.size;have con:=IH.out p.ks[x] (List.getElem_mem hlt) q1 (i1+cnTs k (p.ks.take x)) (j1+cnSs (p.ks.take x)) (wr.alloc (plBx p.ks[x] q1)) (HLk.out _ (List.getElem_mem hlt)) (PB.next (hal.mono (by omega)) (Nat.le_refl _)) (by have:=hal.size; omega) (CR.next hal) (by have:=HI1.out; omega) (by have:=HJ1.out; omega);rw [Nat.add_assoc,← t1,Nat.add_assoc,← t3] at con;unfold plV at con;clear PB t1 t2 t3 t4;go_upto_region 5 with fail
  clear y0 y1 y2 y3 y4 y5 y6 y7 y8 y9 y10;generalize wr.alloc (plBx p.ks[x] q1)=wk at *;obtain ⟨y0,y1,⟨y2,y3,y4,y5,y6,y7⟩,y8,y9,y10⟩:=EK.el;simp only [Nat.zero_add] at y1 y2 y3 y4 y5 y6 y7 y8 y9 y10;go_wp2_with fail
  refine con.mono ?_;rintro e w5 ⟨rfl,C5,X5⟩;clear con y0 y1 y2 y3 y4 y5 y6 y7 y8 y9 y10 EK;have X6:=XR.trans ((Ex2.of hal).trans X5);go_wp2_with fail
  go_roundw
  case rel=>exact ⟨x+1,by omega,by go_num,C5,X6⟩
  case measure=>simp [intOf]; omega
theorem visit_all (b3 b5 b6 lo:Nat) (n35:b3≠b5) (n36:b3≠b6) (n56:b5≠b6) (h5:lo≤b5) (h6:lo≤b6) (k:Int):∀ p,VisAt b3 b5 b6 lo k p:=Pl.ind fun kd n x xs gs ks ih=>visit_at b3 b5 b6 lo n35 n36 n56 h5 h6 k (.mk kd n x xs gs ks) ih

theorem oneB_le (b:Bool):oneB b≤1:=by unfold oneB; split <;> omega
theorem cns_le {ts:List (List Int)} {k:Int}:∀ (ks:List Pl),(∀ p ∈ ks,∀ (m d:Int),(lookX ts p m d).1=0→m+cnT k p≤(lookX ts p m d).2∧m+cnS p≤(lookX ts p m d).2)→∀ (m d:Int),(looksX ts ks m d).1=0→m+cnTs k ks≤(looksX ts ks m d).2∧m+cnSs ks≤(looksX ts ks m d).2
 | [],_,m,d,_=>by simp [looksX,cnTs,cnSs]
 | p :: r,h,m,d,h1=>by
  obtain ⟨a1,a2,a3⟩:=looksX_cons h1
  have b1:=h p (by simp) m d a1
  have b2:=cns_le r (fun p hp=>h p (by simp [hp])) _ d a2
  rw [a3,cnTs,cnSs]
  omega
theorem cn_le {ts:List (List Int)} {k:Int}:∀ (p:Pl) (m d:Int),(lookX ts p m d).1=0→m+cnT k p≤(lookX ts p m d).2∧m+cnS p≤(lookX ts p m d).2 :=
 Pl.ind fun kd n x xs gs ks ih m d h=>by
  obtain ⟨_,a2,_,a4⟩:=lookX_node h
  have b:=cns_le ks ih (m+1) (d+1) a2
  have c1:=oneB_le (kd == 1 && n == k)
  have c2:=oneB_le (kd == 9)
  rw [a4,cnT,cnS]
  omega
def plnB (k:Int) (p:Pl):Bool:=cnT k p == 1 && cnS p == 0 && ledB k p

set_option maxRecDepth 100000 in
set_option maxHeartbeats 8000000 in
theorem plain_at (ts:List (List Int)) (k:Int) (p:Pl) (q:Pw) (w:World) (hlk:lookE ts p=0) (hp:PlB w.heap.size w p q) :
  Calls Tryz.prog 30 #[plV p q,.int .i64 k] w fun e w'=>e = .returned (.bool (plnB k p))∧Below w.heap.size w w':=by
 have hl:=(lookE_ok hlk).2;have hks:=look_ks p 0 1 hl;have n60:=(lookX_n ts p 0 1 hl).2;have cn:=cn_le (k:=k) p 0 1 hl;have z1:(w.alloc (plBx p q)).heap.size=w.heap.size+1:=by simp
 have z2:((w.alloc (plBx p q)).alloc (.cells #[.int .i64 k] 3)).heap.size=w.heap.size+2:=by simp
 have z3:(((w.alloc (plBx p q)).alloc (.cells #[.int .i64 k] 3)).alloc (.cells #[.int .i64 0] 3)).heap.size=w.heap.size+3:=by simp
 have k1:=plBx_below w p q;have k2:Below (w.alloc (plBx p q)).heap.size (w.alloc (plBx p q)) ((w.alloc (plBx p q)).alloc (.cells #[.int .i64 k] 3)):=(Below.refl _ _).alloc (Nat.le_refl _) _;have k3:Below ((w.alloc (plBx p q)).alloc (.cells #[.int .i64 k] 3)).heap.size ((w.alloc (plBx p q)).alloc (.cells #[.int .i64 k] 3)) (((w.alloc (plBx p q)).alloc (.cells #[.int .i64 k] 3)).alloc (.cells #[.int .i64 0] 3)):=(Below.refl _ _).alloc (Nat.le_refl _) _
 have k4:Below (((w.alloc (plBx p q)).alloc (.cells #[.int .i64 k] 3)).alloc (.cells #[.int .i64 0] 3)).heap.size (((w.alloc (plBx p q)).alloc (.cells #[.int .i64 k] 3)).alloc (.cells #[.int .i64 0] 3)) ((((w.alloc (plBx p q)).alloc (.cells #[.int .i64 k] 3)).alloc (.cells #[.int .i64 0] 3)).alloc (.cells #[.int .i64 0] 3)):=(Below.refl _ _).alloc (Nat.le_refl _) _;have EL:=(plBx_el w p q).next (chain k2 (chain k3 k4));have Q3:=heap_new (w.alloc (plBx p q)) #[.int .i64 k] 3;have Q5:=heap_new ((w.alloc (plBx p q)).alloc (.cells #[.int .i64 k] 3)) #[.int .i64 ((0:Nat):Int)] 3
 have Q6:=heap_new (((w.alloc (plBx p q)).alloc (.cells #[.int .i64 k] 3)).alloc (.cells #[.int .i64 0] 3)) #[.int .i64 ((0:Nat):Int)] 3;replace Q3:=((chain k3 k4).block _ (lt_of_heap Q3)).trans Q3;replace Q5:=(k4.block _ (lt_of_heap Q5)).trans Q5;rw [z1] at Q3;rw [z2] at Q5;rw [z3] at Q6;have CN:Cnt (w.heap.size+1) (w.heap.size+2) (w.heap.size+3) k 0 0 ((((w.alloc (plBx p q)).alloc (.cells #[.int .i64 k] 3)).alloc (.cells #[.int .i64 0] 3)).alloc (.cells #[.int .i64 0] 3)):=⟨Q3,Q5,Q6⟩
 have hA:=chain k1 (chain k2 (chain k3 k4));have PB:=hp.next hA (Nat.le_refl _);have con:=visit_all (w.heap.size+1) (w.heap.size+2) (w.heap.size+3) w.heap.size (by omega) (by omega) (by omega) (by omega) (by omega) k p q 0 0 ((((w.alloc (plBx p q)).alloc (.cells #[.int .i64 k] 3)).alloc (.cells #[.int .i64 0] 3)).alloc (.cells #[.int .i64 0] 3)) hks PB hA.size CN (by omega) (by omega);have HLE:Hid (lookE ts p=0):=hlk;have HPL:Hid (plnB k p=(cnT k p == 1 && cnS p == 0 && ledB k p)):=rfl;generalize plnB k p=r at *;simp only [Nat.zero_add] at con;generalize cnT k p=c1 at *
 generalize cnS p=c2 at *;obtain ⟨y0,y1,⟨y2,y3,y4,y5,y6,y7⟩,y8,y9,y10⟩:=EL.el;simp only [Nat.zero_add] at y1 y2 y3 y4 y5 y6 y7 y8 y9 y10;clear z1 z2 z3 k1 k2 k3 k4 Q3 Q5 Q6 CN hl hks hlk PB;unfold plV at con ⊢;go_enter Tryz.func30,Tryz.ntmps30;go_upto_region 2 with fail
 generalize (((w.alloc (plBx p q)).alloc (.cells #[.int .i64 k] 3)).alloc (.cells #[.int .i64 0] 3)).alloc (.cells #[.int .i64 0] 3)=wA at *;go_wp2_with fail
 refine con.mono ?_;rintro e w1 ⟨rfl,C1,X1⟩;clear con y0 y1 y2 y3 y4 y5 y6 y7 y8 y9 y10;have hs:=hA.size;have EL1:=X1.el EL (by omega) (by omega);have B1:Below w.heap.size w w1:=hA.trans (X1.below (by omega) (by omega) hs);have PB1:=(hp.next B1 (Nat.le_refl _)).up B1.size;have d3:=cell_of (i:=0) C1.q3 rfl;have d5:=cell_of (i:=0) C1.q5 rfl;have d6:=cell_of (i:=0) C1.q6 rfl;clear X1 EL hA C1;cases h1:(c1 == 1) with
 | false =>
  have e:r=false:=by rw [HPL.out,h1]; rfl
  have hz:((c1:Int) == 1)=false:=by simp at h1 ⊢; omega
  subst e;clear HPL h1;go_wp2
  go_ret;exact ⟨rfl,B1⟩
 | true =>
  have hz:((c1:Int) == 1)=true:=by simp at h1 ⊢; omega
  cases h2:(c2 == 0) with
  | false =>
   have e:r=false:=by rw [HPL.out,h1,h2]; rfl
   have hz2:((c2:Int) == 0)=false:=by simp at h2 ⊢; omega
   subst e;clear HPL h1 h2;go_wp2
   go_ret;exact ⟨rfl,B1⟩
  | true =>
   have hz2:((c2:Int) == 0)=true:=by simp at h2 ⊢; omega
   have e:r=ledB k p:=by rw [HPL.out,h1,h2]; rfl
   have con:=leads_all ts k p q 0 1 w1 (lookE_ok HLE.out).2 PB1;rw [← e] at con;obtain ⟨y0,y1,⟨y2,y3,y4,y5,y6,y7⟩,y8,y9,y10⟩:=EL1.el;simp only [Nat.zero_add] at y1 y2 y3 y4 y5 y6 y7 y8 y9 y10;unfold plV at con;clear HPL h1 h2 e EL1 PB1;go_wp2_with fail
   refine con.mono ?_;rintro e w2 ⟨rfl,hb⟩;clear con;go_wp2
   go_ret;exact ⟨rfl,chain B1 hb⟩

theorem egQk:∀ args w,(callFunc 31 args).run Tryz.prog w = .ok (.enter 31 args) w:=enters_of Tryz.func31 (by kernel_rfl) rfl

set_option maxRecDepth 100000 in
set_option maxHeartbeats 4000000 in
theorem quick1_at (g:Nat) (cb:Array Value) (fE:List Zp→Int) (fZ:List Zp→List Zp) (B:Nat) (w:World) (eg:∀ args w,(callFunc g args).run Tryz.prog w = .ok (.enter g args) w) (hm:TakesQ g cb fE fZ w) (hB:w.cell? ⟨B,0,none⟩=some (.func (.func g) #[] cb)) :
  FindsQ 31 #[.pointer (some ⟨B,0,none⟩)] (fun _ y=>fE y) (fun _ y=>fZ y) w:=by
 intro x y xa xc ya yc W zx nx zy ny hb;have con:=hm y ya yc W zy ny hb;have hc:=(hb.cell (p:=⟨B,0,none⟩) (World.block_lt_of_cell? _ _ hB)).trans hB;clear hm hB zx zy hb nx ny;dsimp only;generalize fE y=ee at *;generalize fZ y=ez at *;show Calls Tryz.prog 31 #[.slice xa x.length xc,.slice ya y.length yc,.pointer (some ⟨B,0,none⟩)] W _;go_enter Tryz.func31,Tryz.ntmps31;go_wp2_with (go_at_fn g; refine con.mono ?_; rintro e w1 ⟨v1,rfl,O1,hb1⟩)
 exact bodyPost_ret (v:=.tuple #[v1,.int .i64 ee]) (by simp [results,Tryz.results31,go_sem]) rfl ⟨_,rfl,O1,hb1⟩
/-- What Quick tells. -/
def qckR (ts:List (List Int)) (p p':Pl) (data:List (List Zp)):List Zp × Int:=if widE ts p p' data≠0 then ([],widE ts p p' data) else if plnB (ts.length:Int) p'=false then ([],8) else if evE ts data p≠0 then ([],evE ts data p) else ((quickR ts p p' data).1,(quickR ts p p' data).2.2)

set_option maxRecDepth 100000 in
set_option maxHeartbeats 16000000 in
theorem quick_at (ts:List (List Int)) (p:Pl) (q:Pw) (p':Pl) (q':Pw) (data:List (List Zp)) (ta:Option Addr) (tc:Nat) (da:Option Addr) (dc:Nat) (w:World) (hT:TbX w ta ts) (hp:PlX w p q) (hk:PlOk p) (hp':PlX w p' q') (hk':PlOk p') (hD:DtAt w da data) :
  Calls Tryz.prog 10 #[.slice ta ts.length tc,plV p q,plV p' q',.slice da data.length dc] w fun e w'=>∃ v,e = .returned (.tuple #[v,.int .i64 (qckR ts p p' data).2])∧OwnZ w.heap.size w' v (qckR ts p p' data).1∧Below w.heap.size w w':=by
 have hA:=twW_below w p q p' q';have EL:=twW_1 w p q p' q';have ER:=twW_2 w p q p' q';have HK:Hid (PlOk p):=hk;have HK':Hid (PlOk p'):=hk';have TX:=hT.next hA;have PX:=hp.next hA;have PX':=hp'.next hA;have DX:=hD.next hA;generalize hR:qckR ts p p' data=R;have HR:Hid (qckR ts p p' data=R):=hR;have con:=fwide_at ts p q p' q' data ta tc da dc _ TX PX hk PX' hk' DX;have HWL:Hid (widE ts p p' data=0→data.length≤8):=wid_len;generalize hwe:widE ts p p' data=we at con;have HWE:Hid (widE ts p p' data=we):=hwe;clear hk hk' hT hp hp' hD hwe hR;obtain ⟨y0,y1,⟨y2,y3,y4,y5,y6,y7⟩,y8,y9,y10⟩:=EL.el
 obtain ⟨z0,z1,⟨z2,z3,z4,z5,z6,z7⟩,z8,z9,z10⟩:=ER.el;simp only [Nat.zero_add] at y1 y2 y3 y4 y5 y6 y7 y8 y9 y10 z1 z2 z3 z4 z5 z6 z7 z8 z9 z10;unfold plV at con ⊢;go_enter Tryz.func10,Tryz.ntmps10;go_upto_region 1 with fail
 generalize (w.alloc (plBx p q)).alloc (plBx p' q')=wA at *;by_cases h0:we=0;rotate_left
 ·have e1:R=([],we):=by rw [← HR.out]; unfold qckR; rw [HWE.out,if_pos h0]
  subst e1;have hb0:(we != 0)=true:=by simpa using h0
  clear HR HWE HWL;go_wp2_with fail
  refine con.mono ?_;rintro e w1 ⟨⟨_,hre⟩,hb1⟩;obtain rfl:=hre h0;go_wp2_with fail
  exact bodyPost_ret (v:=.tuple #[.slice none 0 0,.int .i64 we]) (by simp [results,Tryz.results10,go_sem]) rfl ⟨_,rfl,ownZ_nil _ _,chain hA hb1⟩
 have HW0:Hid (widE ts p p' data=0):=by show _=_; rw [HWE.out,h0]
 have d8:=HWL.out HW0.out;subst h0;clear HWE HWL;generalize hwi:widL ts p=wide at con;have HWI:Hid (widL ts p=wide):=hwi;clear hwi;go_wp2_with fail
 refine con.mono ?_;rintro e w1 ⟨⟨hre,_⟩,hb1⟩;obtain ⟨a1,c1,rfl,T1⟩:=hre rfl;clear con y0 y1 y2 y3 y4 y5 y6 y7 y8 y9 y10 z0 z1 z2 z3 z4 z5 z6 z7 z8 z9 z10;have hA1:=chain hA hb1;replace TX:=TX.next hb1;replace PX:=PX.next hb1;replace PX':=PX'.next hb1;replace DX:=DX.next hb1;replace EL:=EL.next hb1;replace ER:=ER.next hb1;have con:=plain_at (widL ts p) (ts.length:Int) p' q' w1 (wid_ok HW0.out).2.1 PX';generalize hpb:plnB (ts.length:Int) p'=pb at con;have HPB:Hid (plnB (ts.length:Int) p'=pb):=hpb;clear hpb;obtain ⟨z0,z1,⟨z2,z3,z4,z5,z6,z7⟩,z8,z9,z10⟩:=ER.el
 simp only [Nat.zero_add] at z1 z2 z3 z4 z5 z6 z7 z8 z9 z10;unfold plV at con;go_wp2_with fail
 refine con.mono ?_;rintro e w1b ⟨rfl,hb1⟩;clear con z0 z1 z2 z3 z4 z5 z6 z7 z8 z9 z10;replace hA1:=chain hA1 hb1;replace TX:=TX.next hb1;replace PX:=PX.next hb1;replace PX':=PX'.next hb1;replace DX:=DX.next hb1;replace EL:=EL.next hb1;replace ER:=ER.next hb1;replace T1:=TbX.next T1 hb1;cases pb with
 | false =>
  have e1:R=([],8):=by rw [← HR.out]; unfold qckR; rw [HW0.out,HPB.out,if_neg (by simp),if_pos rfl]
  subst e1;go_wp2_with fail
  exact bodyPost_ret (v:=.tuple #[.slice none 0 0,.int .i64 8]) (by simp [results,Tryz.results10,go_sem]) rfl ⟨_,rfl,ownZ_nil _ _,hA1⟩
 | true =>
 have con:=fdist_at ts data p q ta tc da dc w1b TX DX PX HK.out;generalize hee:evE ts data p=ee at con;generalize hdz:dstZ ts data p=dz at con;have HEE:Hid (evE ts data p=ee):=hee;have HDZ:Hid (dstZ ts data p=dz):=hdz;clear hee hdz;obtain ⟨y0,y1,⟨y2,y3,y4,y5,y6,y7⟩,y8,y9,y10⟩:=EL.el;simp only [Nat.zero_add] at y1 y2 y3 y4 y5 y6 y7 y8 y9 y10;unfold plV at con;go_wp2_with fail
 refine con.mono ?_;rintro e w2 ⟨v2,rfl,O2,hb2⟩;clear con y0 y1 y2 y3 y4 y5 y6 y7 y8 y9 y10 EL PX;obtain ⟨a2,c2,rfl,Z2,n2⟩:=O2.zs2;have hA2:=chain hA1 hb2;by_cases h0:ee=0;rotate_left
 ·have e1:R=([],ee):=by rw [← HR.out]; unfold qckR; rw [HW0.out,HPB.out,HEE.out,if_neg (by simp),if_neg (by simp),if_pos h0]
  subst e1;have hb0:(ee != 0)=true:=by simpa using h0
  clear HR HEE HDZ O2 Z2 HW0;go_wp2_with fail
  exact bodyPost_ret (v:=.tuple #[.slice none 0 0,.int .i64 ee]) (by simp [results,Tryz.results10,go_sem]) rfl ⟨_,rfl,ownZ_nil _ _,hA2⟩
 have HR1:Hid (R=((grP (fun _ y=>evE wide (data ++ [y]) p') (fun _ y=>dstZ wide (data ++ [y]) p') 50 0 dz dz).1,(grP (fun _ y=>evE wide (data ++ [y]) p') (fun _ y=>dstZ wide (data ++ [y]) p') 50 0 dz dz).2.2)):=by
  show _=_;rw [← HR.out]; unfold qckR; rw [HW0.out,HPB.out,HEE.out,h0]; unfold quickR; rw [HWI.out,HDZ.out];simp only [ne_eq,not_true_eq_false,if_false,Bool.true_eq_false]
 subst h0;clear HR HEE HDZ HW0 HWI O2;replace T1:=TbX.next T1 hb2;replace PX':=PX'.next hb2;replace DX:=DX.next hb2;replace ER:=ER.next hb2;have con:=taking_at wide p' q' data a1 c1 da dc w2 T1 PX' HK'.out DX d8;obtain ⟨z0,z1,⟨z2,z3,z4,z5,z6,z7⟩,z8,z9,z10⟩:=ER.el;simp only [Nat.zero_add] at z1 z2 z3 z4 z5 z6 z7 z8 z9 z10;unfold plV at con;go_wp2_with fail
 refine con.mono ?_;rintro e w3 ⟨rfl,TK,hb3⟩;clear con z0 z1 z2 z3 z4 z5 z6 z7 z8 z9 z10 ER PX';have hal:Below w3.heap.size w3 (w3.alloc (.cells #[.func (.func 53) #[] #[.pointer (some ⟨w2.heap.size,0,none⟩),.pointer (some ⟨w2.heap.size+1,0,none⟩),.pointer (some ⟨w2.heap.size+2,0,none⟩)]] 49)):=(Below.refl _ _).alloc (Nat.le_refl _) _
 have F4:(w3.alloc (.cells #[.func (.func 53) #[] #[.pointer (some ⟨w2.heap.size,0,none⟩),.pointer (some ⟨w2.heap.size+1,0,none⟩),.pointer (some ⟨w2.heap.size+2,0,none⟩)]] 49)).cell? ⟨w3.heap.size,0,none⟩=some (.func (.func 53) #[] #[.pointer (some ⟨w2.heap.size,0,none⟩),.pointer (some ⟨w2.heap.size+1,0,none⟩),.pointer (some ⟨w2.heap.size+2,0,none⟩)]):=cell_of (i:=0) (heap_new w3 #[.func (.func 53) #[] #[.pointer (some ⟨w2.heap.size,0,none⟩),.pointer (some ⟨w2.heap.size+1,0,none⟩),.pointer (some ⟨w2.heap.size+2,0,none⟩)]] 49) rfl;have FD:=quick1_at 53 _ _ _ w3.heap.size _ egTk (TK.next hal) F4
 have con:=grown_at 31 #[.pointer (some ⟨w3.heap.size,0,none⟩)] _ _ dz a2 c2 _ egQk FD (Z2.next (chain hb3 hal)) n2;generalize grP (fun _ y=>evE wide (data ++ [y]) p') (fun _ y=>dstZ wide (data ++ [y]) p') 50 0 dz dz=G at con HR1;obtain ⟨g1,g2,g3⟩:=G;have eR:R=(g1,g3):=HR1.out;subst eR;dsimp only at con;have hA4:=chain hA2 (chain hb3 hal);clear HR1 FD TK hb3 F4 Z2;go_upto_region 10 with fail
 generalize w3.alloc (.cells #[.func (.func 53) #[] #[.pointer (some ⟨w2.heap.size,0,none⟩),.pointer (some ⟨w2.heap.size+1,0,none⟩),.pointer (some ⟨w2.heap.size+2,0,none⟩)]] 49)=w4 at *;go_wp2_with fail
 refine con.mono ?_;rintro e w5 ⟨v5,rfl,O5,hb5⟩;clear con;have O5':=O5.mono hA4.size;go_wp2_with fail
 exact bodyPost_ret (v:=.tuple #[v5,.int .i64 g3]) (by simp [results,Tryz.results10,go_sem]) rfl ⟨_,rfl,O5',chain hA4 hb5⟩
end Go.Proofs.YtohjlfhmnmcndaaGreat
