import Derived.Test.YtoefpglknaiaeaaGreatMW21
set_option maxHeartbeats 16000000
set_option maxRecDepth 100000
namespace Go.Proofs.YtoefpglknaiaeaaGreat
open Go.RowKit
theorem mF (xs:List Ex) (r:List Vl):(bp xs r).length=xs.length:=by unfold bp; rw [Nt]
theorem qi (ps:List Pt) (p:Pt) (r:Zp):iP (ps ++ [p]) r=ps ++ [(p.1,p.2 ++ [r])]:=by
 unfold iP;rw [dif_neg (by simp)];simp
theorem Be (ps:List Pt) (x:Kp):iP (cY ps x) x.2=ps ++ [(x.1,[x.2])]∨∃ init last,ps=init ++ [last]∧aF last.1 x.1=0∧iP (cY ps x) x.2=init ++ [(last.1,last.2 ++ [x.2])]:=by
 unfold cY
 split
 ·left; rw [qi]; rfl
 ·rename_i h
  split
  ·rename_i hc
   right;have hne:ps ≠ []:=fun e=>h (by rw [e]; rfl)
   have e:=(List.dropLast_concat_getLast hne).symm;have e2:=List.getLast_eq_getElem hne;refine ⟨ps.dropLast,ps.getLast hne,e,by rw [e2]; exact hc,?_⟩
   conv=>lhs; rw [e]
   rw [qi]
  ·left; rw [qi]; rfl
structure oQ (f:Zp→List Vl) (ps:List Pt) (D:List Zp):Prop where
 flat:ps.flatMap (fun p=>p.2)=D
 some:∀ p ∈ ps,p.2 ≠ []
 key:∀ p ∈ ps,∀ r ∈ p.2,aF (f r) p.1=0
theorem oQ.step {f:Zp→List Vl} {ps:List Pt} {D:List Zp} (h:oQ f ps D) {x:Kp} (hx:x.1=f x.2):oQ f (iP (cY ps x) x.2) (D ++ [x.2]):=by
 rcases Be ps x with e | ⟨init,last,e0,hc,e⟩
 ·rw [e];refine ⟨by rw [List.flatMap_append,h.flat]; simp,?_,?_⟩
  ·intro p hp;rcases List.mem_append.1 hp with hp | hp
   ·exact h.some p hp
   ·rw [List.mem_singleton.1 hp]; simp
  ·intro p hp r hr;rcases List.mem_append.1 hp with hp | hp
   ·exact h.key p hp r hr
   ·rw [List.mem_singleton.1 hp] at hr ⊢;rw [List.mem_singleton.1 hr,← hx];exact fm _
 ·rw [e];subst e0;refine ⟨?_,?_,?_⟩
  ·have:=h.flat;rw [List.flatMap_append] at this ⊢;rw [← this];simp
  ·intro p hp;rcases List.mem_append.1 hp with hp | hp
   ·exact h.some p (by simp [hp])
   ·rw [List.mem_singleton.1 hp]; simp
  ·intro p hp r hr;rcases List.mem_append.1 hp with hp | hp
   ·exact h.key p (by simp [hp]) r hr
   ·rw [List.mem_singleton.1 hp] at hr ⊢;rcases List.mem_append.1 hr with hr | hr
    ·exact h.key last (by simp) r hr
    ·rw [List.mem_singleton.1 hr,← hx];have:=bm last.1 x.1;show aF x.1 last.1=0;omega
theorem oQ.all {f:Zp→List Vl}:∀ (L:List Kp) (ps:List Pt) (D:List Zp),(∀ x ∈ L,x.1=f x.2)→oQ f ps D→oQ f (L.foldl (fun ps x=>iP (cY ps x) x.2) ps) (D ++ L.map fun x=>x.2)
 | [],ps,D,_,h=>by simpa using h
 | x :: r,ps,D,hL,h=>by
  have:=oQ.all r _ _ (fun y hy=>hL y (by simp [hy])) (h.step (hL x (by simp)))
  simpa using this
theorem nh (xs:List Ex) (z:List Zp):oQ (fun r=>bp xs r.1) (dJ (aY xs z)) ((aY xs z).map fun x=>x.2):=by
 have:=oQ.all (f:=fun r=>bp xs r.1) (aY xs z) [] [] (fun x hx=>(dL.1 hx).2) ⟨rfl,fun p hp=>by simp at hp,fun p hp=>by simp at hp⟩
 simpa [dJ] using this
def cO (xs:List Ex) (z:List Zp) (h:List Vl):List Zp:=z.filter fun r=>decide (0<r.2) && decide (aF (bp xs r.1) h=0)
theorem yV {xs:List Ex} {z:List Zp} {h h':List Vl} (e:aF h h'=0):cO xs z h=cO xs z h':=by
 unfold cO
 congr 1
 funext r
 rw [sf e]
theorem pq {f:Zp→List Vl}:∀ (ps:List Pt) (p:Pt),(∀ p ∈ ps,∀ r ∈ p.2,aF (f r) p.1=0)→ps.Pairwise (fun p q=>aF p.1 q.1<0)→p ∈ ps→(ps.flatMap fun p=>p.2).filter (fun r=>decide (aF (f r) p.1=0))=p.2
 | q :: t,p,hk,hr,hp=>by
  obtain ⟨r1,r2⟩:=List.pairwise_cons.1 hr
  rw [Ol,Ob]
  rcases List.mem_cons.1 hp with rfl | hp
  ·rw [List.filter_eq_self.2 fun r hr=>by simpa using hk p (by simp) r hr]
   have:(t.flatMap fun p=>p.2).filter (fun r=>decide (aF (f r) p.1=0)) = []:=by
    rw [List.filter_eq_nil_iff];intro r hr;obtain ⟨q,hq,hr⟩:=List.mem_flatMap.1 hr;have e1:=hk q (by simp [hq]) r hr;have e2:=r1 q hq;rw [fQ e1];have:=bm p.1 q.1;simp;omega
   rw [this,M8]
  ·have:q.2.filter (fun r=>decide (aF (f r) p.1=0)) = []:=by
    rw [List.filter_eq_nil_iff];intro r hr;have e1:=hk q (by simp) r hr;have e2:=r1 p hp;rw [fQ e1];simp;omega
   rw [this,List.nil_append];exact pq t p (fun p hp=>hk p (by simp [hp])) r2 hp
theorem C6 {xs:List Ex} {z:List Zp} (hz:fh z) {p:Pt} (hp:p ∈ dJ (aY xs z)):p.2=cO xs z p.1:=by
 have hI:=nh xs z;have h1:=pq _ p hI.key (sJ hz) hp;rw [hI.flat] at h1;have e1:((aY xs z).map fun x=>x.2).filter (fun r=>decide (aF (bp xs r.1) p.1=0))=((aY xs z).filter fun x=>decide (aF x.1 p.1=0)).map fun x=>x.2:=by
  rw [List.filter_map]
  congr 1
  refine List.filter_congr fun x hx=>?_
  have:=(dL.1 hx).2;simp only [Function.comp];rw [← this]
 have e2:(aY xs z).filter (fun x=>decide (aF x.1 p.1=0))=(dq xs z).filter fun x=>decide (aF x.1 p.1=0):=by
  refine mH _ _ ((gm xs z).filter _) ((gM hz).filter _) ?_;have hw:=(lE (xs:=xs) hz).filter fun x=>decide (aF x.1 p.1=0)
  refine hw.imp_of_mem fun {x y} hx hy hr=>.inr ⟨?_,hr⟩
  have h1:aF x.1 p.1=0:=by simpa using (List.mem_filter.1 hx).2
  have h2:aF y.1 p.1=0:=by simpa using (List.mem_filter.1 hy).2
  rw [fQ h1];have:=bm y.1 p.1;omega
 rw [← h1,e1,e2];unfold dq cO;rw [List.filter_map,List.map_map,List.filter_filter];have:((fun x:Kp=>x.2) ∘ fun p=>(bp xs p.1,p))=id:=rfl;rw [this,List.map_id];refine List.filter_congr fun r _=>?_
 simp only [Function.comp];rw [Bool.and_comm]
def iN (xs:List Ex) (H:List (List Vl)) (r:Zp):List (List Vl):=if r.2≤0∨∃ h ∈ H,aF h (bp xs r.1)=0 then H else H ++ [bp xs r.1]
def cQ (xs:List Ex) (z:List Zp):List (List Vl):=z.foldl (iN xs) (if xs.length=0 then [[]] else [])
theorem zg (xs:List Ex) {z:List Zp} {k:Nat} (h:k<z.length):cQ xs (z.take (k+1))=iN xs (cQ xs (z.take k)) z[k]:=by
 unfold cQ;rw [MJ h,Oi];rfl
structure CL (xs:List Ex) (H:List (List Vl)) (D:List Zp):Prop where
 zU:∀ h ∈ H,(h = []∧xs.length=0)∨∃ r ∈ D,0<r.2∧h=bp xs r.1
 to:∀ r ∈ D,0<r.2→∃ h ∈ H,aF h (bp xs r.1)=0
 apart:H.Pairwise fun a b=>aF a b≠0
 zero:xs.length=0 → [] ∈ H
 len:H.length≤D.length+1
 size:xs.length≠0→H.length≤D.length
theorem CL.step {xs:List Ex} {H:List (List Vl)} {D:List Zp} (h:CL xs H D) (r:Zp):CL xs (iN xs H r) (D ++ [r]):=by
 unfold iN
 split
 ·rename_i hc
  refine ⟨fun a ha=>?_,fun s hs hp=>?_,h.apart,h.zero,by have:=h.len; simp; omega,fun hx=>by have:=h.size hx; simp; omega⟩
  ·rcases h.zU a ha with h1 | ⟨r',h1,h2⟩
   ·exact .inl h1
   ·exact .inr ⟨r',by simp [h1],h2⟩
  ·rcases List.mem_append.1 hs with hs | hs
   ·exact h.to s hs hp
   ·rw [List.mem_singleton.1 hs] at hp ⊢;rcases hc with hc | hc
    ·omega
    ·exact hc
 ·rename_i hc
  have hpos:0<r.2:=by
   by_cases h0:r.2≤0
   ·exact absurd (.inl h0) hc
   ·omega
  refine ⟨fun a ha=>?_,fun s hs hp=>?_,?_,fun hx=>by simp [h.zero hx],by have:=h.len; simp; omega,fun hx=>by have:=h.size hx; simp; omega⟩
  ·rcases List.mem_append.1 ha with ha | ha
   ·rcases h.zU a ha with h1 | ⟨r',h1,h2⟩
    ·exact .inl h1
    ·exact .inr ⟨r',by simp [h1],h2⟩
   ·exact .inr ⟨r,by simp,hpos,List.mem_singleton.1 ha⟩
  ·rcases List.mem_append.1 hs with hs | hs
   ·obtain ⟨a,ha,e⟩:=h.to s hs hp;exact ⟨a,by simp [ha],e⟩
   ·exact ⟨bp xs r.1,by simp,by rw [List.mem_singleton.1 hs]; exact fm _⟩
  ·refine List.pairwise_append.2 ⟨h.apart,List.pairwise_singleton _ _,fun a ha b hb e=>?_⟩;rw [List.mem_singleton.1 hb] at e;exact hc (.inr ⟨a,ha,e⟩)
theorem qn (xs:List Ex) (z:List Zp):CL xs (cQ xs z) z:=by
 have aux:∀ (z D:List Zp) (H:List (List Vl)),CL xs H D→CL xs (z.foldl (iN xs) H) (D ++ z):=by
  intro z
  induction z with
  | nil=>intro D H h; simpa using h
  | cons r t ih =>
   intro D H h;have:=ih _ _ (h.step r)
   simpa using this
 have:=aux z [] (if xs.length=0 then [[]] else []) (by
  split
  ·rename_i h0
   exact ⟨fun a ha=>.inl ⟨by simpa using ha,h0⟩,fun r hr=>by simp at hr,by simp,fun _=>by simp,by simp,fun h=>absurd h0 h⟩
  ·rename_i h0
   exact ⟨fun a ha=>by simp at ha,fun r hr=>by simp at hr,by simp,fun h=>absurd h h0,by simp,fun _=>by simp⟩)
 simpa [cQ] using this
def pK (xs:List Ex) (gs:List Ag) (z:List Zp) (H:List (List Vl)):List Zp:=H.map fun h=>(h ++ gs.map fun g=>fF g (cO xs z h),1)
theorem nI:∀ {a b:List Vl} (x:List Vl),aF a b=0→aF (a ++ x) (b ++ x)=0
 | [],[],x,_=>fm x
 | [],_ :: _,_,h=>by simp [aF] at h
 | _ :: _,[],_,h=>by simp [aF] at h
 | u :: r,v :: t,x,h=>by
  unfold aF at h
  simp only [Nu]
  unfold aF
  split at h
  ·rename_i e
   rw [if_pos e]
   exact nI x h
  ·rename_i e
   exact absurd h e
theorem GC {l t:List Zp} (hl:l.Pairwise fun x y=>aF x.1 y.1≠0) (ht:t.Pairwise fun x y=>aF x.1 y.1≠0) (h:∀ x ∈ l,∃ y ∈ t,y.2=x.2∧aF x.1 y.1=0) (h':∀ y ∈ t,∃ x ∈ l,aF x.1 y.1=0) (q:List Vl):wt l q=wt t q:=by
 by_cases c:∃ x ∈ l,aF x.1 q=0
 ·obtain ⟨x,hx,e⟩:=c;obtain ⟨y,hy,e2,e3⟩:=h x hx;rw [← jz e l,sv hl x hx,← jz e t,jz e3 t,sv ht y hy,e2]
 ·rw [oN fun x hx hc=>c ⟨x,hx,hc⟩,oN fun y hy hc=>?_];obtain ⟨x,hx,e⟩:=h' y hy;exact c ⟨x,hx,by rw [fQ e]; exact hc⟩
theorem sQ {xs:List Ex} {z:List Zp} (hz:fh z):(dN xs (aY xs z)).Pairwise (fun p q=>aF p.1 q.1≠0)∧∀ p ∈ dN xs (aY xs z),p.2=cO xs z p.1∧p.1.length=xs.length∧(xs.length=0∨∃ r ∈ z,0<r.2∧aF (bp xs r.1) p.1=0):=by
 unfold dN;have hI:=nh xs z
 split
 ·rename_i h0
  have hn:=MH h0.2;refine ⟨List.pairwise_singleton _ _,fun p hp=>?_⟩;rw [List.mem_singleton.1 hp];refine ⟨?_,h0.1.symm,.inl h0.1⟩;have:=hI.flat;rw [hn] at this;have hL:aY xs z = []:=by simpa using this.symm
  show ([]:List Zp)=_;unfold cO
  symm
  rw [List.filter_eq_nil_iff];intro r hr hc;have hp:0<r.2:=by
   simp at hc;exact hc.1
  have:(bp xs r.1,r) ∈ aY xs z:=dL.2 ⟨⟨hr,hp⟩,rfl⟩;rw [hL] at this;cases this
 ·refine ⟨(sJ hz).imp fun {p q} h=>by omega,fun p hp=>?_⟩;have e:=C6 hz hp;obtain ⟨r,hr⟩:=List.exists_mem_of_ne_nil _ (hI.some p hp);have hk:=hI.key p hp r hr;rw [e] at hr;unfold cO at hr;have hr:=List.mem_filter.1 hr;have hp:0<r.2:=by
   have:=hr.2;simp at this;exact this.1
  exact ⟨e,by rw [← zG hk,mF],.inr ⟨r,hr.1,hp,hk⟩⟩
theorem Bh {xs:List Ex} {z:List Zp} {r:Zp} (hr:r ∈ z) (hp:0<r.2):∃ p ∈ dN xs (aY xs z),aF (bp xs r.1) p.1=0:=by
 have hI:=nh xs z;have hm:(bp xs r.1,r) ∈ aY xs z:=dL.2 ⟨⟨hr,hp⟩,rfl⟩;have hf:r ∈ (dJ (aY xs z)).flatMap fun p=>p.2:=by
  rw [hI.flat];exact List.mem_map.2 ⟨_,hm,rfl⟩
 obtain ⟨p,hp,hr⟩:=List.mem_flatMap.1 hf;refine ⟨p,?_,hI.key p hp r hr⟩;unfold dN;rw [if_neg fun h=>by
  have:=MH h.2;rw [this] at hp;cases hp]
 exact hp
theorem CN {xs:List Ex} {z:List Zp} (gs:List Ag) (hz:fh z):canon (pK xs gs z (cQ xs z))=canon (dZ xs gs (aY xs z)):=by
 have hH:=qn xs z;obtain ⟨ha,hp⟩:=sQ (xs:=xs) hz;have hlen:∀ h ∈ cQ xs z,h.length=xs.length:=fun h hh=>by
  rcases hH.zU h hh with ⟨rfl,e⟩ | ⟨r,_,_,rfl⟩
  ·exact e.symm
  ·exact mF _ _
 have key:∀ h ∈ cQ xs z,∀ p ∈ dN xs (aY xs z),aF h p.1=0→aF (h ++ gs.map fun g=>fF g (cO xs z h)) (p.1 ++ gs.map fun g=>fF g p.2)=0:=fun h hh p hp' e=>by
  rw [(hp p hp').1,yV e];exact nI _ e
 refine iS fun q=>GC ?_ ?_ ?_ ?_ q
 ·unfold pK;rw [N4];exact hH.apart.imp_of_mem fun {a b} h1 h2 hc e=>hc (sP (by rw [hlen a h1,hlen b h2]) e)
 ·unfold dZ;rw [N4];exact ha.imp_of_mem fun {a b} h1 h2 hc e=>hc (sP (by rw [(hp a h1).2.1,(hp b h2).2.1]) e)
 ·intro x hx;obtain ⟨h,hh,rfl⟩:=List.mem_map.1 hx;have:∃ p ∈ dN xs (aY xs z),aF h p.1=0:=by
   rcases hH.zU h hh with ⟨rfl,e⟩ | ⟨r,hr,hr0,rfl⟩
   ·have:dN xs (aY xs z) ≠ []:=by
     unfold dN
     split
     ·simp
     ·rename_i hc
      intro e2;rw [e2] at hc;exact hc ⟨e,rfl⟩
    obtain ⟨p,hp'⟩:=List.exists_mem_of_ne_nil _ this;have:p.1 = []:=MH (by rw [(hp p hp').2.1,e]);exact ⟨p,hp',by rw [this]; exact fm _⟩
   ·exact Bh hr hr0
  obtain ⟨p,hp',e⟩:=this;exact ⟨_,List.mem_map.2 ⟨p,hp',rfl⟩,rfl,key h hh p hp' e⟩
 ·intro y hy;obtain ⟨p,hp',rfl⟩:=List.mem_map.1 hy;have:∃ h ∈ cQ xs z,aF h p.1=0:=by
   rcases (hp p hp').2.2 with e | ⟨r,hr,hr0,e⟩
   ·have:p.1 = []:=MH (by rw [(hp p hp').2.1,e]);exact ⟨[],hH.zero e,by rw [this]; exact fm _⟩
   ·obtain ⟨h,hh,e2⟩:=hH.to r hr hr0;exact ⟨h,hh,by rw [fQ e2]; exact e⟩
  obtain ⟨h,hh,e⟩:=this;exact ⟨_,List.mem_map.2 ⟨h,hh,rfl⟩,key h hh p hp' e⟩
theorem we {l:List Zp} (hl:l.Pairwise fun x y=>aF x.1 y.1≠0) (h1:∀ x ∈ l,x.2=1) (hn:l.length≤400):aR l=0:=by
 have hset:gJ (canon l):=eM _;unfold aR;rw [if_neg,if_neg]
 ·have:=eY l;omega
 ·intro ho;have:∃ y ∈ canon l,gV y.2=false:=by
   unfold lS at ho
   simpa using ho
  obtain ⟨y,hy,hw⟩:=this;have e1:=sW hset.i7 y hy;rw [gS] at e1;obtain ⟨x,hx,e2⟩:=Ca (l:=l) (q:=y.1) (by rw [e1]; exact hset.ne y hy);rw [← jz e2 l,sv hl x hx,h1 x hx] at e1;have hin:gV y.2=true:=by rw [cK]; omega
  rw [hin] at hw;cases hw
theorem xR:∀ (ps:List Pt),(∀ p ∈ ps,p.2 ≠ [])→ps.length≤(ps.flatMap fun p=>p.2).length
 | [],_=>by simp
 | p :: t,h=>by
  have ih:=xR t fun q hq=>h q (by simp [hq])
  have:0<p.2.length:=List.length_pos_iff.2 (h p (by simp))
  rw [Ol,ME,Ng]
  omega
theorem Fc (xs:List Ex) (z:List Zp) (h4:z.length≤400):(dN xs (aY xs z)).length≤400:=by
 have hI:=nh xs z;have h1:=xR _ hI.some;rw [hI.flat,Nt] at h1;have:=jv xs z;unfold dN
 split
 ·simp
 ·omega
theorem wL {xs:List Ex} {z:List Zp} (gs:List Ag) (hz:fh z) (h4:z.length≤400):aR (dZ xs gs (aY xs z))=0:=by
 obtain ⟨ha,hp⟩:=sQ (xs:=xs) hz;refine we ?_ ?_ ?_
 ·unfold dZ;rw [N4];exact ha.imp_of_mem fun {a b} h1 h2 hc e=>hc (sP (by rw [(hp a h1).2.1,(hp b h2).2.1]) e)
 ·intro x hx;obtain ⟨p,hp',rfl⟩:=List.mem_map.1 hx;rfl
 ·unfold dZ;rw [Nt];exact Fc xs z h4
open Go.Lib Go.Shelf _root_.Go.Proofs.Tryz
theorem dC.next {W w1:World} {g:Nat} {l:List Int} (h:dC W g l) (hb:Below W W w1):dC w1 g l :=
 ⟨My h.lt hb.size,fun i hi=>(hb.cell (p:=ah g i) h.lt).trans (h.c i hi),fun i=>(hb.frozen (p:=ah g i) h.lt).trans (h.f i)⟩
structure sj (w W:World) (a7:Array Value) (b:Nat) (s:List Int) (v:Vl):Prop where
 qa:W.heap[w.heap.size]? = some (.cells a7 123 (0,0))
 qr:W.heap[w.heap.size+1]? = some (.cells #[aD,aD,()] 24 (0,0))
 so:dC W (w.heap.size+1+1) s
 gt:w.heap.size+1+1<b
 lt:b<W.heap.size
 c0:W.cell? (ah b 0)=some (.int .i64 v.1)
 c1:W.cell? (ah b 1)=some (.int .i64 v.2.1)
 c2:W.cell? (ah b 2)=some (.string v.2.2)
 f:∀ i,W.frozen? (ah b i)=false
 low:Below w w W
theorem sj.next {w W w1:World} {a7:Array Value} {b:Nat} {s:List Int} {v:Vl} (h:sj w W a7 b s v) (hb:Below W W w1):sj w w1 a7 b s v :=
 ⟨(hb.block _ (an h.qa)).trans h.qa,(hb.block _ (an h.qr)).trans h.qr,h.so.next hb,h.gt,My h.lt hb.size,(hb.cell (p:=ah b 0) h.lt).trans h.c0,(hb.cell (p:=ah b 1) h.lt).trans h.c1,(hb.cell (p:=ah b 2) h.lt).trans h.c2,fun i=>(hb.frozen (p:=ah b i) h.lt).trans (h.f i),chain h.low hb⟩
theorem sj.put {w W w1:World} {a7:Array Value} {b:Nat} {s L:List Int} {v:Vl} (h:sj w W a7 b s v) (hX:aw (w.heap.size+1+1) W w1) (ho:dC w1 (w.heap.size+1+1) L):sj w w1 a7 b L v:=by
 have hn:=Nat.ne_of_gt h.gt;exact ⟨(hX.2 _ (an h.qa) ag).trans h.qa,(hX.2 _ (an h.qr) ag).trans h.qr,ho,h.gt,My h.lt hX.size,(hX.cell (p:=ah b 0) h.lt hn).trans h.c0,(hX.cell (p:=ah b 1) h.lt hn).trans h.c1,(hX.cell (p:=ah b 2) h.lt hn).trans h.c2,fun i=>(hX.frozen (p:=ah b i) h.lt hn).trans (h.f i),h.low.trans (hX.below ag)⟩
theorem sj.LI {w W:World} {a7:Array Value} {b:Nat} {s:List Int} {v:Vl} (h:sj w W a7 b s v) (u:Vl):sj w (((W.setCell (ah b 0) u.1).setCell (ah b 1) u.2.1).setCell (ah b 2) u.2.2) a7 b s u:=by
 have hg:=h.gt;have X:=(((aw.refl b W).set 0 u.1).set 1 u.2.1).set 2 u.2.2;refine ⟨(X.2 _ (an h.qa) ag).trans h.qa,(X.2 _ (an h.qr) ag).trans h.qr,h.so.mx X ag,h.gt,by simpa using h.lt,?_,?_,?_,fun i=>by rw [Na,Na,Na]; exact h.f i,h.low.trans (X.below ag)⟩
 ·simp [go_sem,h.c0]
 ·simp [go_sem,h.c1]
 ·simp [go_sem,h.c2]
theorem Em {cols:List Int} {g:Ag} (h:dh cols g=0):1≤g.1∧g.1≤5∧(g.1≠1→(ax cols g.2).2=0):=by
 unfold dh at h;by_cases h1:g.1=1
 ·exact ⟨by omega,by omega,fun c=>absurd h1 c⟩
 ·rw [if_neg h1] at h;by_cases h2:g.1<2∨5<g.1
  ·rw [if_pos h2] at h; cases h
  ·rw [if_neg h2] at h;refine ⟨by omega,by omega,fun _=>?_⟩;by_cases h3:(ax cols g.2).2=0
   ·exact h3
   ·rw [if_pos h3] at h; exact absurd h h3
theorem AA (f:List Vl→Vl) {rows:List Zp} {k:Nat} (h:k<rows.length) (hn:¬ (f rows[k].1).1=1):bK f (rows.take (k+1))=bK f (rows.take k) ++ [(f rows[k].1,rows[k].2)]:=by
 rw [mc f h,if_neg hn]
theorem CZ {cols:List Int} (kd:Int) (x:Ex) (hm:dh cols (kd,x)=0) (rows:List Zp) (hr:Fv cols rows) (xa:Option Addr) (xcap:Nat) (a:Option Addr) (cap:Nat) (w:World) (hk0:aU w w xa x.ks) (h:aK w a rows) :
  Calls prog 153 #[.agg #[kd,x.k,x.v.1,x.v.2.1,x.v.2.2,x.c,.slice xa x.ks.length xcap],.slice a rows.length cap] w fun e w'=>e = .returned (dV (fF (kd,x) rows))∧Below w w w':=by
 obtain ⟨hg1,hg5,HTy0⟩:=Em hm;have HTy:=aB HTy0;have HMr:=aB (mi hm);have HOk:=aB (hr.known HMr.out);have HR:=aB hr;have hl4:=hr.len;have HM:Hid (kd≠1→∀ row,gQ (kd,x) row=bQ row x):=fun c row=>by unfold gQ; rw [if_neg c]
 have HM1:Hid (kd=1→∀ row,gQ (kd,x) row=(2,1,⟨#[]⟩)):=fun c row=>by unfold gQ; rw [if_pos c]
 generalize hres:fF (kd,x) rows=res;have HRes:Hid (res=tO kd (bK (gQ (kd,x)) rows)):=by
  show _=_;rw [← hres,Ib (k:=kd) hg1 hg5 HOk.out.wt HOk.out.len];rfl
 generalize hff:gQ (kd,x)=ff at *;clear HTy0 hr hres hm hff;obtain ⟨hal1,q1⟩:=iV w #[kd,x.k,x.v.1,x.v.2.1,x.v.2.2,x.c,.slice xa x.ks.length xcap] 123
 have z1:(w.alloc (.cells #[kd,x.k,x.v.1,x.v.2.1,x.v.2.2,x.c,.slice xa x.ks.length xcap] 123)).heap.size=w.heap.size+1:=by simp
 unfold dV;go_enter func153,ntmps153;go_wp2_with fail
 generalize w.alloc _=W1 at *;obtain ⟨hal2,q2⟩:=iV W1 #[aD,aD,()] 24;have z2:(W1.alloc (.cells #[aD,aD,()] 24)).heap.size=W1.heap.size+1:=by simp
 generalize W1.alloc _=W2 at *;have hal3:=aN W2 (.cells #[aD,aD,aD,aD,aD,aD,aD,aD,aD] 213);have q3:dC (W2.alloc (.cells #[aD,aD,aD,aD,aD,aD,aD,aD,aD] 213)) W2 (List.replicate 9 0):=dC.new W2 9 213
 have z3:(W2.alloc (.cells #[aD,aD,aD,aD,aD,aD,aD,aD,aD] 213)).heap.size=W2.heap.size+1:=by simp
 generalize W2.alloc (.cells #[aD,aD,aD,aD,aD,aD,aD,aD,aD] 213)=W3 at *;refine bC (bP W3) fun w1 hb1=>?_;dsimp only;have hal4:=aN w1 (.cells #[(1:Int),aD,()] 24);have q4:=bq w1 #[(1:Int),aD,()] 24;have zb:w.heap.size+1+1<w1.heap.size:=by have:=hb1.size; omega
 have HI0:sj w (w1.alloc (.cells #[(1:Int),aD,()] 24)) #[kd,x.k,x.v.1,x.v.2.1,x.v.2.2,x.c,.slice xa x.ks.length xcap] w1.heap.size (List.replicate 9 0) (1,0,⟨#[]⟩):=by
  have hA1:=chain (chain hal2 hal3) (chain hb1 hal4);have hA2:=chain hal3 (chain hb1 hal4);refine ⟨(hA1.block _ (an q1)).trans q1,?_,?_,zb,an q4,cell_of (i:=0) q4 rfl,cell_of (i:=1) q4 rfl,cell_of (i:=2) q4 rfl,fun i=>MB _ w1 i _ _ q4,chain hal1 hA1⟩
  ·rw [← z1]; exact (hA2.block _ (an q2)).trans q2
  ·rw [← z1,← z2]; exact q3.next (chain hb1 hal4)
 clear hal1 hal2 hal3 q1 q2 q3 z1 z2 z3 hb1 hal4 q4;go_wp2_with fail
 generalize w1.alloc _=W4 at *;generalize w1.heap.size=bb at *;have hk1:kd=1∨¬ kd=1:=Decidable.em _
 go_loopw [5,8,16] (fun vc vs vi wr=>∃ (k:Nat) (c:Int) (sb:Bool) (s:List Int) (v:Vl),k≤rows.length∧vi = .int .i64 k∧vc = .int .i64 c∧vs = .bool sb∧Hid (c=gW (bK ff (rows.take k)))∧(0≤c∧c≤1000000*(k:Int))∧Hid (kd≠1→gq s=jc (bK ff (rows.take k))∧(sb=true↔0<(bK ff (rows.take k)).length)∧v=fW kd (bK ff (rows.take k)))∧Hid (s.length=9∧∀ (j:Nat) (h:j<s.length),-(1000000000*(k:Int))≤s[j]∧s[j]≤1000000000*(k:Int))∧sj w wr #[kd,x.k,x.v.1,x.v.2.1,x.v.2.2,x.c,.slice xa x.ks.length xcap] bb s v) (fun _ _ i _=>rows.length - (intOf i).toNat)
 case atStart =>
  refine ⟨0,0,false,_,_,MD _,rfl,rfl,rfl,rfl,by omega,?_,?_,HI0⟩
  ·intro _;exact ⟨rfl,by simp [bK],(Dc kd).symm⟩
  ·refine ⟨rfl,fun j hj=>?_⟩;rw [List.getElem_replicate];omega
 case round =>
  obtain ⟨k,c,sb,s,v,hk,rfl,rfl,rfl,HC,hcb,HV,HS,HI⟩:=hrel;have hAr:=HI.low;have p0:=cell_of (i:=0) HI.qa rfl;by_cases hlt:k<rows.length
  ·obtain ⟨b,off,rfl,hbl,c1,ar,cr,c0,sr⟩:=(h.next hAr).elem hlt;obtain ⟨hal,q0⟩:=iV wr #[.slice ar rows[k].1.length cr,.int .i64 rows[k].2] 47;have HIk:=HI.next hal;have hAk:=chain hAr hal;have hwt:=HR.out.wt rows[k] (MC hlt);have HFt:=aB (HR.out.fit rows[k] (MC hlt));have HSr:=aB (sr.next hal)
   have hcw:IntKind.i64.wrap (c+rows[k].2)=c+rows[k].2:=IntWalk.i64_in _ ⟨by omega,by omega⟩;have hrn:=Nat.ne_of_gt HI.so.lt;clear p0 sr HI;go_upto_region 8 with fail
   clear c0 c1;generalize wr.alloc _=wk at *;have p0:=cell_of (i:=0) HIk.qa rfl;have r1:=cell_of (i:=1) q0 rfl;rcases hk1 with hk1 | hk1
   ·have hkb:(kd == 1)=true:=by simpa using hk1
    have HC':Hid (c+rows[k].2=gW (bK ff (rows.take (k+1)))):=by
     show _=_;rw [AA ff hlt (by rw [HM1.out hk1]; decide),vX,← HC.out]
    have HS':Hid (s.length=9∧∀ (j:Nat) (h:j<s.length),-(1000000000*((k+1:Nat):Int))≤s[j]∧s[j]≤1000000000*((k+1:Nat):Int)):=⟨HS.out.1,fun j hj=>by have:=HS.out.2 j hj; omega⟩
    have hc':0≤c+rows[k].2∧c+rows[k].2≤1000000*((k+1:Nat):Int):=by omega
    have HV':Hid (kd≠1→gq s=jc (bK ff (rows.take (k+1)))∧(sb=true↔0<(bK ff (rows.take (k+1))).length)∧v=fW kd (bK ff (rows.take (k+1)))):=fun hn=>absurd hk1 hn
    clear HV HS HC hk1;go_wp2_with fail
    go_roundw
    case rel=>exact ⟨k+1,c+rows[k].2,sb,s,v,by omega,by go_num,rfl,rfl,HC',hc',HV',HS',HIk⟩
    case measure=>simp [intOf]; omega
   ·have hkb:(kd == 1)=false:=by rw [beq_eq_false_iff_ne]; exact hk1
    have p1:=cell_of (i:=1) HIk.qa rfl;have p2:=cell_of (i:=2) HIk.qa rfl;have p3:=cell_of (i:=3) HIk.qa rfl;have p4:=cell_of (i:=4) HIk.qa rfl;have p5:=cell_of (i:=5) HIk.qa rfl;have p6:=cell_of (i:=6) HIk.qa rfl
    have r0:=cell_of (i:=0) q0 rfl;have con:=Ay HFt.out x _ (mw (HTy.out hk1)) w xa xcap ar cr wk (aU.next hAk (Mx _) hk0) hAk.size HSr.out;have hvr:=HMr.out _ HFt.out;have hfv:ff rows[k].1=bQ rows[k].1 x:=HM.out hk1 _;have HK1:Hid (bK ff (rows.take (k+1))=bK ff (rows.take k) ++ (if (bQ rows[k].1 x).1=1 then [] else [(bQ rows[k].1 x,rows[k].2)])):=by
     show _=_;rw [mc ff hlt,hfv]
    rw [hfv] at hvr;have HVr:=aB hvr;clear hfv hvr;generalize bQ rows[k].1 x=u at *;generalize bK ff (rows.take k)=acc at *;have HVn:=HV.out hk1;have HVa:=aB HVn.1;have HVb:=aB HVn.2.1;have HVc:=aB HVn.2.2;clear HV HVn;unfold dV at con;unfold fN at con;go_wp2_with fail
    refine bC con fun w2 hb2=>?_;clear con p0 p1 p2 p3 p4 p5 p6 r0 r1;dsimp only;obtain ⟨hal2,qv⟩:=iV w2 #[u.1,u.2.1,u.2.2] 24;have hb3:=chain hb2 hal2;have HI3:=HIk.next hb3;have qr:=iX hb3 q0;have hvn:w2.heap.size≠w.heap.size+1+1:=by
     have:=HIk.so.lt;have:=hb2.size;omega
    clear HIk q0 hb2 hal2;go_upto_region 11 with fail
    generalize w2.alloc _=w3 at *;have v0:=cell_of (i:=0) qv rfl;have v1:=cell_of (i:=1) qv rfl;have r1:=cell_of (i:=1) qr rfl;by_cases hu:u.1=1
    ·have hub:(u.1 == 1)=true:=by simpa using hu
     have HK1':Hid (bK ff (rows.take (k+1))=acc):=by show _=_; rw [HK1.out,if_pos hu,M8]
     have HS':Hid (s.length=9∧∀ (j:Nat) (h:j<s.length),-(1000000000*((k+1:Nat):Int))≤s[j]∧s[j]≤1000000000*((k+1:Nat):Int)):=⟨HS.out.1,fun j hj=>by have:=HS.out.2 j hj; omega⟩
     have hc':0≤c∧c≤1000000*((k+1:Nat):Int):=by omega
     clear HK1 HS hu;go_wp2_with fail
     go_roundw
     case rel=>exact ⟨k+1,c,sb,s,v,by omega,by go_num,rfl,rfl,by rw [HK1'.out]; exact HC,hc',by rw [HK1'.out]; exact fun _=>⟨HVa.out,HVb.out,HVc.out⟩,HS',HI3⟩
     case measure=>simp [intOf]; omega
    ·have hub:(u.1 == 1)=false:=by rw [beq_eq_false_iff_ne]; exact hu
     have HK1':Hid (bK ff (rows.take (k+1))=acc ++ [(u,rows[k].2)]):=by show _=_; rw [HK1.out,if_neg hu]
     have hnb:=H9 HVr.out.1 HVr.out.2;have hkz:(k:Int)≤400:=by omega
     have con:=DI (1000000000*(k:Int)) ⟨by omega,by omega⟩ (w.heap.size+1+1) s u.2.1 rows[k].2 w3 HI3.so HS.out.1 hnb hwt HS.out.2;have hkk:=Jq HVr.out.1;have HC':Hid (c+rows[k].2=gW (bK ff (rows.take (k+1)))):=by
      show _=_;rw [HK1'.out,vX,← HC.out]
     have hc':0≤c+rows[k].2∧c+rows[k].2≤1000000*((k+1:Nat):Int):=by omega
     clear HK1 hu HC;go_wp2_with fail
     refine con.mono ?_;rintro e w4 ⟨rfl,L,HP,HO,hX⟩;clear con v0 v1 r1;have HI4:=HI3.put hX HO;have qv4:=(hX.2 _ (an qv) hvn).trans qv;have v0:=cell_of (i:=0) qv4 rfl;have v1:=cell_of (i:=1) qv4 rfl;have v2:=cell_of (i:=2) qv4 rfl;have b0:=HI4.c0;have b1:=HI4.c1;have b2:=HI4.c2;have HPd:=aB HP;clear HP HO hX HI3 qv qr
     have con:=dz u.1 u.2.1 v.1 v.2.1 u.2.2 v.2.2 w4 hkk.1 hkk.2;have HO1:Hid (dP u v=cR u.1 u.2.1 u.2.2 v.1 v.2.1 v.2.2):=rfl;generalize cR u.1 u.2.1 u.2.2 v.1 v.2.1 v.2.2=o at *;dsimp only;go_wp2_with fail
     refine bC con fun w5 hb5=>?_;clear con v0 v1 v2 b0 b1 b2;have HI5:=HI4.next hb5;have qv5:=iX hb5 qv4;have p0:=cell_of (i:=0) HI5.qa rfl;have v0:=cell_of (i:=0) qv5 rfl;have v1:=cell_of (i:=1) qv5 rfl;have v2:=cell_of (i:=2) qv5 rfl;have b0:=HI5.c0;have b1:=HI5.c1;have b2:=HI5.c2;have f0:=HI5.f 0;have f1:=HI5.f 1;have f2:=HI5.f 2
     clear HI4 qv4 hb5;have HSn:Hid (L.length=9∧∀ (j:Nat) (h:j<L.length),-(1000000000*((k+1:Nat):Int))≤L[j]∧L[j]≤1000000000*((k+1:Nat):Int)):=⟨HPd.out.len,fun j hj=>by have:=HPd.out.bd j hj; omega⟩
     have HVn:Hid (gq L=jc (bK ff (rows.take (k+1)))):=by
      show _=_;rw [HK1'.out,DG,HPd.out.val,HVa.out]
     have HLn:Hid (0<(bK ff (rows.take (k+1))).length):=by show _<_; rw [HK1'.out]; simp
     clear HPd HS HVa HVr;dsimp only;have take:(fW kd (bK ff (rows.take (k+1)))=u∧(sb=false∨(sb=true∧kd=4∧o<0)∨(sb=true∧kd=5∧0<o)))∨(fW kd (bK ff (rows.take (k+1)))=v∧sb=true∧((kd=4∧¬ o<0)∨(kd=5∧¬ 0<o)∨(¬ kd=4∧¬ kd=5))):=by
      cases sb with
      | false =>
       have e:acc = []:=by
        have:¬ 0<acc.length:=fun c=>by have:=HVb.out.2 c; cases this
        exact MH ag
       left;refine ⟨?_,.inl rfl⟩;rw [HK1'.out,e];exact Ej kd _
      | true =>
       have e:=AI kd (HVb.out.1 rfl) (u,rows[k].2);rw [← HK1'.out,← HVc.out,HO1.out] at e;by_cases c1:(kd=4∧o<0)∨(kd=5∧0<o)
       ·rw [if_pos c1] at e;left;exact ⟨e,.inr (c1.imp (fun c=>⟨rfl,c⟩) (fun c=>⟨rfl,c⟩))⟩
       ·rw [if_neg c1] at e;right;refine ⟨e,rfl,?_⟩;by_cases h4:kd=4
        ·exact .inl ⟨h4,fun c=>c1 (.inl ⟨h4,c⟩)⟩
        ·by_cases h5:kd=5
         ·exact .inr (.inl ⟨h5,fun c=>c1 (.inr ⟨h5,c⟩)⟩)
         ·exact .inr (.inr ⟨h4,h5⟩)
     rcases take with ⟨eb,hcase⟩ | ⟨eb,rfl,hcase⟩
     ·have HVx:Hid (kd≠1→gq L=jc (bK ff (rows.take (k+1)))∧(true=true↔0<(bK ff (rows.take (k+1))).length)∧u=fW kd (bK ff (rows.take (k+1)))):=fun _=>⟨HVn.out,⟨fun _=>HLn.out,fun _=>rfl⟩,eb.symm⟩
      have HI6:=HI5.LI u;clear HVn HLn eb HVb HVc HK1' HO1 hkk hnb;rcases hcase with rfl | ⟨rfl,rfl,ho⟩ | ⟨rfl,rfl,ho⟩
      all_goals (
       go_wp2_with fail
       go_roundw
       case rel=>exact ⟨k+1,c+rows[k].2,true,L,u,by omega,by go_num,rfl,rfl,HC',hc',HVx,HSn,HI6⟩
       case measure=>simp [intOf]; omega)
     ·have HVx:Hid (kd≠1→gq L=jc (bK ff (rows.take (k+1)))∧(true=true↔0<(bK ff (rows.take (k+1))).length)∧v=fW kd (bK ff (rows.take (k+1)))):=fun _=>⟨HVn.out,⟨fun _=>HLn.out,fun _=>rfl⟩,eb.symm⟩
      clear HVn HLn eb HVb HVc HK1' HO1 hkk hnb;rcases hcase with ⟨rfl,ho⟩ | ⟨rfl,ho⟩ | ⟨h4,h5⟩
      rotate_left;rotate_left;have h4b:(kd == 4)=false:=by rw [beq_eq_false_iff_ne]; exact h4
      have h5b:(kd == 5)=false:=by rw [beq_eq_false_iff_ne]; exact h5
      clear h4 h5
      all_goals
       go_wp2_with fail
       go_roundw
       case rel=>exact ⟨k+1,c+rows[k].2,true,L,v,by omega,by go_num,rfl,rfl,HC',hc',HVx,HSn,HI5⟩
       case measure=>simp [intOf]; omega
  ·have e:k=rows.length:=by omega
   subst e;rw [MM] at HC HV;have hcase:(kd=1∨kd=2)∨(kd=3∧sb=true)∨(¬ kd=1∧¬ kd=2∧¬ (kd=3∧sb=true)):=by
    by_cases c1:kd=1∨kd=2
    ·exact .inl c1
    ·by_cases c2:kd=3∧sb=true
     ·exact .inr (.inl c2)
     ·exact .inr (.inr ⟨fun e=>c1 (.inl e),fun e=>c1 (.inr e),c2⟩)
   rcases hcase with hcase | ⟨rfl,rfl⟩ | ⟨n1,n2,n3⟩
   ·have er:res=oh c:=by rw [HRes.out]; unfold tO; rw [if_pos hcase,← HC.out]
    have con:=ph c wr;rw [← er] at con;unfold dV at con;clear HRes er HC HV HS HTy HMr HOk HR HM HM1;have hc2:kd=1∨(¬ kd=1∧kd=2):=by omega
    rcases hc2 with rfl | ⟨hn1,rfl⟩
    all_goals (
     go_wp2_with fail
     refine bC con fun w2 hb2=>?_;clear con p0;have HI2:=HI.next hb2;have qr:=HI2.qr;have hLow:=HI2.low;have d0:=cell_of (i:=0) qr rfl;have d1:=cell_of (i:=1) qr rfl;have d2:=cell_of (i:=2) qr rfl;have f0:=MB w2 (w+1) 0 _ _ qr;have f1:=MB w2 (w+1) 1 _ _ qr
     have f2:=MB w2 (w+1) 2 _ _ qr;have hE:=((hLow.setCell (p:=ah (w+1) 0) (NL _) res.1).setCell (p:=ah (w+1) 1) (NL _) res.2.1).setCell (p:=ah (w+1) 2) (NL _) res.2.2;clear HI HI2 qr hLow;dsimp only;go_wp2_with fail
     exact MA (v:=.agg #[.int .i64 res.1,.int .i64 res.2.1,.string res.2.2]) (by simp [results,results153,go_sem,d0,d1,d2]) rfl ⟨rfl,hE⟩)
   ·have er:res=oh (jc (bK ff rows)):=by
     rw [HRes.out];unfold tO;rw [if_neg ag,if_pos ⟨rfl,(HV.out ag).2.1.1 rfl⟩]
    have hsl:(rows.length:Int)≤400:=by omega
    have con:=Fa (1000000000*(rows.length:Int)) ⟨by omega,by omega⟩ (w.heap.size+1+1) s wr HI.so HS.out.1 HS.out.2;rw [(HV.out ag).1,← er] at con;unfold dV at con;clear HRes er HC HV HS HTy HMr HOk HR HM HM1;go_wp2_with fail
    refine bC con fun w2 hX2=>?_;clear con p0;have qr:=(hX2.2 _ (an HI.qr) ag).trans HI.qr;have hLow:=HI.low.trans (hX2.below ag);have d0:=cell_of (i:=0) qr rfl;have d1:=cell_of (i:=1) qr rfl;have d2:=cell_of (i:=2) qr rfl;have f0:=MB w2 (w+1) 0 _ _ qr;have f1:=MB w2 (w+1) 1 _ _ qr
    have f2:=MB w2 (w+1) 2 _ _ qr;have hE:=((hLow.setCell (p:=ah (w+1) 0) (NL _) res.1).setCell (p:=ah (w+1) 1) (NL _) res.2.1).setCell (p:=ah (w+1) 2) (NL _) res.2.2;clear HI qr hLow;dsimp only;go_wp2_with fail
    exact MA (v:=.agg #[.int .i64 res.1,.int .i64 res.2.1,.string res.2.2]) (by simp [results,results153,go_sem,d0,d1,d2]) rfl ⟨rfl,hE⟩
   ·have er:res=v:=by
     rw [HRes.out];unfold tO;have hv:=HV.out n1;rw [if_neg ag,if_neg,hv.2.2];rintro ⟨c1,c2⟩;exact n3 ⟨c1,hv.2.1.2 c2⟩
    subst er;clear HRes HC HV HS HTy HMr HOk HR HM HM1;have qr:=HI.qr;have hLow:=HI.low;have b0:=HI.c0;have b1:=HI.c1;have b2:=HI.c2;have d0:=cell_of (i:=0) qr rfl;have d1:=cell_of (i:=1) qr rfl;have d2:=cell_of (i:=2) qr rfl;have f0:=MB wr (w+1) 0 _ _ qr;have f1:=MB wr (w+1) 1 _ _ qr
    have f2:wr.frozen? (ah (w+1) 2)=false:=MB wr (w+1) 2 _ _ qr;have hE:=((hLow.setCell (p:=ah (w+1) 0) (NL _) res.1).setCell (p:=ah (w+1) 1) (NL _) res.2.1).setCell (p:=ah (w+1) 2) (NL _) res.2.2;clear HI qr hLow;have n1b:(kd == 1)=false:=by rw [beq_eq_false_iff_ne]; exact n1
    have n2b:(kd == 2)=false:=by rw [beq_eq_false_iff_ne]; exact n2
    have h3:kd=3∨¬ kd=3:=Decidable.em _;rcases h3 with rfl | h3
    ·have hs:sb=false:=by
      cases sb
      ·rfl
      ·exact absurd ⟨rfl,rfl⟩ n3
     subst hs;go_wp2_with fail
     exact MA (v:=.agg #[res.1,res.2.1,res.2.2]) (by simp [results,results153,go_sem,d0,d1,d2]) rfl ⟨rfl,hE⟩
    ·have n3b:(kd == 3)=false:=by rw [beq_eq_false_iff_ne]; exact h3
     go_wp2_with fail
     exact MA (v:=.agg #[.int .i64 res.1,.int .i64 res.2.1,.string res.2.2]) (by simp [results,results153,go_sem,d0,d1,d2]) rfl ⟨rfl,hE⟩
end Go.Proofs.YtoefpglknaiaeaaGreat
namespace Go.Proofs.YtoefpglknaiaeaaGreat
open Go.RowKit Go.Lib Go.Shelf
theorem Lb:(Tryz.prog.info? 45).map (fun i=>(i.zero,i.size,i.bytes))=some (some (.slice none 0 0),1,24):=by kernel_rfl
def Ho (W:World) (xs:List Value) (H:List (List Vl)):Prop:=xs.length=H.length∧∀ i (hi:i<H.length),∃ ka kc,xs[i]? = some (.slice ka H[i].length kc)∧aZ W ka H[i]∧fi W ka
def lW (base:Nat) (W:World) (v:Value) (H:List (List Vl)):Prop:=∃ xs,W.ownsRow base 45 1 v H.length xs∧Ho W xs H
theorem lW.nil (base:Nat) (W:World):lW base W bX []:=⟨[],by simpa using M4 _ _ _ _,rfl,fun i hi=>by simp at hi⟩
theorem Ho.next {W w1:World} {xs:List Value} {H:List (List Vl)} (h:Ho W xs H) (hb:Below W W w1):Ho w1 xs H:=by
 obtain ⟨h2,h3⟩:=h;refine ⟨h2,fun i hi=>?_⟩;obtain ⟨ka,kc,e0,e1,e2⟩:=h3 i hi;exact ⟨ka,kc,e0,e1.next hb,e2.next hb⟩
theorem lW.next {W w1:World} {base:Nat} {v:Value} {H:List (List Vl)} (h:lW base W v H) (hb:Below W W w1):lW base w1 v H:=by
 obtain ⟨xs,h1,h2⟩:=h;exact ⟨xs,aL h1 hb,h2.next hb⟩
theorem vW {W w1:World} {base n:Nat} {v:Value} {xs:List Value} {a:Option Addr} {r:List Vl} (h:aZ W a r) (ht:fi W a) (ho:W.ownsRow base 45 1 v n xs) (hg:W.grownBy w1 v.ownBlock):aZ w1 a r∧fi w1 a:=by
 have key:∀ b off,a=some ⟨b,off,none⟩→w1.heap[b]? = W.heap[b]?:=by
  intro b off e;obtain ⟨c,z,h1⟩:=ht b off e;have hlt:=an h1;refine hg.block b hlt ?_;obtain ⟨_,⟨rfl,_⟩ | ⟨g,cap,cur,rfl,_,hh,_⟩⟩:=ho
  ·simp [Value.ownBlock]
  ·simp only [Value.ownBlock];intro e;injection e with e
   subst e;rw [hh] at h1;simp at h1
 refine ⟨⟨h.1,?_⟩,?_⟩
 ·rcases h.2 with h | ⟨b,off,e,hr,hlt⟩
  ·exact .inl h
  ·refine .inr ⟨b,off,e,fun i hi=>?_,My hlt hg.size⟩;have k:=key b off e;obtain ⟨c0,c1,c2⟩:=hr i hi;exact ⟨(MP (a:=⟨b,_,none⟩) k).trans c0,(MP (a:=⟨b,_,none⟩) k).trans c1,(MP (a:=⟨b,_,none⟩) k).trans c2⟩
 ·intro b off e;obtain ⟨c,z,h1⟩:=ht b off e;exact ⟨c,z,(key b off e).trans h1⟩
theorem lW.push {W w1:World} {base:Nat} {v v':Value} {xs:List Value} {H:List (List Vl)} {ka:Option Addr} {kc:Nat} {x:List Vl}
  (ho:W.ownsRow base 45 1 v H.length xs) (he:Ho W xs H) (hs:aZ W ka x) (ht:fi W ka)
  (ho':w1.ownsRow base 45 1 v' (H.length+1) (xs ++ [.slice ka x.length kc])) (hg:W.grownBy w1 v.ownBlock):lW base w1 v' (H ++ [x]):=by
 have lx:=he.1;refine ⟨_,by simpa using ho',by simp [he.1],?_⟩;intro i hi;by_cases hi':i<H.length
 ·obtain ⟨ka',kc',h1,h4,h5⟩:=he.2 i hi';have g:=vW h4 h5 ho hg;rw [MV hi'];exact ⟨ka',kc',by rw [MT ag,h1],g⟩
 ·have:i=H.length:=by simp at hi; omega
  subst this;have g:=vW hs ht ho hg;refine ⟨ka,kc,?_,?_⟩
  ·rw [MU ag]; simp [lx]
  ·simpa using g
theorem lW.elem {W:World} {base:Nat} {v:Value} {H:List (List Vl)} (h:lW base W v H):∃ a c,v = .slice a H.length c∧∀ i (hi:i<H.length),∃ b off ka kc,a=some ⟨b,off,none⟩∧W.cell? ⟨b,off+i,none⟩=some (.slice ka H[i].length kc)∧aZ W ka H[i]∧fi W ka:=by
 obtain ⟨xs,ho,he⟩:=h;have ho':=ho;obtain ⟨a,c,rfl⟩:=eX ho;refine ⟨a,c,rfl,fun i hi=>?_⟩;obtain ⟨ka,kc,e0,e1,e2⟩:=he.2 i hi;obtain ⟨_,⟨hn,h0⟩ | ⟨g,c1,cur,hv,h1,h2,h3⟩⟩:=ho
 ·rw [h0] at hi; cases hi
 ·cases hv;refine ⟨g,0,ka,kc,rfl,?_,e1,e2⟩;rw [ho'.cellAt _ ag,← e0]
  congr 1
  omega
theorem Dz {xs:List Ex} {gs:List Ag} {z:List Zp} {H:List (List Vl)} {k:Nat} (h:k<H.length):pK xs gs z (H.take (k+1))=pK xs gs z (H.take k) ++ [(H[k] ++ gs.map (fun g=>fF g (cO xs z H[k])),1)]:=by
 unfold pK;rw [MJ h,Nc];rfl
open _root_.Go.Proofs.Tryz
theorem lW.at {W:World} {base:Nat} {a:Option Addr} {n c:Nat} {H:List (List Vl)} (h:lW base W (.slice a n c) H) {i:Nat} (hi:i<H.length):∃ b off ka kc,a=some ⟨b,off,none⟩∧W.cell? ⟨b,off+i,none⟩=some (.slice ka H[i].length kc)∧aZ W ka H[i]∧fi W ka:=by
 obtain ⟨a',c',e,he⟩:=h.elem;injection e with e1 e2 e3
 subst e1;exact he i hi
theorem mf {cols:List Int} {xs:List Ex} {l:List Zp} (hx:bM cols xs=0) (hO:gN cols l) (D:List Zp) (hD:∀ r ∈ D,r ∈ l):∀ h ∈ cQ xs D,bZ h=true∧h.length=xs.length:=fun h hh=>by
 rcases (qn xs D).zU h hh with ⟨rfl,e⟩ | ⟨r,hr,_,rfl⟩
 ·exact ⟨rfl,e.symm⟩
 ·exact ⟨od hx (hO.fit r (hD r hr)),mF _ _⟩
theorem tz (xs:List Ex) (l:List Zp) (h:l.length≤400):(cQ xs l).length≤401:=MO (qn xs l).len (Nat.succ_le_succ h)
theorem Dp (xs:List Ex) (l:List Zp) (k:Nat) (h:l.length≤400):(cQ xs (l.take k)).length≤401:=tz xs _ (MO (by rw [MR]; exact Nat.min_le_right _ _) h)
theorem CH (w:World):lW w.heap.size (w.alloc (.cells #[.slice none 0 0] 45)) (.slice (some ⟨w.heap.size,0,none⟩) 1 1) [[]]:=by
 refine ⟨[.slice none 0 0],?_,rfl,fun i hi=>?_⟩
 ·exact World.ownsRow_lit (e:=45) (size:=1) w #[.slice none 0 0] 1 (Mx _) (by decide) rfl
 ·have e0:i=0:=by simpa using hi
  subst e0;exact ⟨none,0,rfl,⟨MD _,.inl rfl⟩,fun b off e=>by cases e⟩
theorem Av {xs:List Ex} {z:List Zp} {h:List Vl} {k:Nat} (hk:k<z.length):cO xs (z.take (k+1)) h=cO xs (z.take k) h ++ (if 0<z[k].2∧aF (bp xs z[k].1) h=0 then [z[k]] else []):=by
 unfold cO;rw [MJ hk,Ob]
 congr 1
 by_cases c:0<z[k].2∧aF (bp xs z[k].1) h=0
 ·rw [if_pos c]; simp [c.1,c.2]
 ·rw [if_neg c];simp only [List.filter_cons,List.filter_nil];rw [if_neg (by simpa using c)]
theorem yb {cols:List Int} {xs:List Ex} {z:List Zp} (hO:gN cols z) (h:List Vl):Fv cols (cO xs z h):=by
 refine ⟨MO (Nn _ _) (dg hO),fun p hp=>hO.fit p (List.mem_filter.1 hp).1,fun p hp=>?_⟩;have h1:=List.mem_filter.1 hp;have h2:0<p.2:=by
  have:=h1.2;simp at this;exact this.1
 have:=jb hO p h1.1;rw [cK] at this;omega
theorem wg {P:Vl→Prop} (f:Vl→Wp→Vl) (hf:∀ m x,f m x=m∨f m x=x.1):∀ (r:List Wp) (m:Vl),P m→(∀ x ∈ r,P x.1)→P (r.foldl f m)
 | [],m,h,_=>h
 | x :: r,m,h,hr=>by
  rw [NA]
  refine wg f hf r _ ?_ fun y hy=>hr y (by simp [hy])
  rcases hf m x with e | e
  ·rw [e]; exact h
  ·rw [e]; exact hr x (by simp)
theorem Fl {k:Int} {l:List Wp} (h:JV l):aJ (eQ k l)=0:=by
 unfold eQ
 split
 ·unfold CG
  split
  ·simp [aJ,aO]
  ·split
   ·rename_i hb
    have:-1000000000000000≤jc l∧jc l≤1000000000000000:=by simpa [kO] using hb
    simp [aJ,aO,this.1,this.2]
   ·simp [aJ,aO]
 ·split
  ·match l,h with
   | [],_=>simp [BJ,aJ,aO]
   | p :: r,h=>exact wg (P:=fun v=>aJ v=0) _ (fun m x=>by by_cases c:dP x.1 m<0 <;> simp [c]) r p.1 (h.right p (by simp)) fun x hx=>h.right x (by simp [hx])
  ·split
   ·match l,h with
    | [],_=>simp [BU,aJ,aO]
    | p :: r,h=>exact wg (P:=fun v=>aJ v=0) _ (fun m x=>by by_cases c:0<dP x.1 m <;> simp [c]) r p.1 (h.right p (by simp)) fun x hx=>h.right x (by simp [hx])
   ·have:=Cb h.wt;have:=h.len;have h1:-1000000000000000≤gW l:=by omega
    have h2:gW l≤1000000000000000:=by omega
    simp [countP,aJ,aO,h1,h2]
theorem EZ {cols:List Int} {g:Ag} (hm:dh cols g=0) {rows:List Zp} (hr:Fv cols rows):aJ (fF g rows)=0:=Fl (hr.known (mi hm))
theorem wI {cols:List Int} {xs:List Ex} {gs:List Ag} {l:List Zp} (hx:bM cols xs=0) (hO:gN cols l) (hm:∀ g ∈ gs,dh cols g=0) {h:List Vl} (hh:h ∈ cQ xs l):bZ (h ++ gs.map fun g=>fF g (cO xs l h))=true:=by
 refine pw (mf hx hO l (fun r hr=>hr) h hh).1 ?_;unfold bZ;rw [List.all_map,NZ];intro g hg;have:=EZ (hm g hg) (yb (xs:=xs) hO h)
 simpa [aJ] using this
theorem th {cols:List Int}:∀ {gs:List Ag},dF cols gs=0→∀ g ∈ gs,dh cols g=0
 | [],_,g,hg=>by cases hg
 | g' :: r,h,g,hg=>by
  unfold dF at h
  by_cases h0:dh cols g'=0
  ·rw [if_pos h0] at h
   rcases List.mem_cons.1 hg with rfl | hg
   ·exact h0
   ·exact th h g hg
  ·rw [if_neg h0] at h; exact absurd h h0
theorem yA (cols:List Int) (xs:List Ex) (gs:List Ag) (hsum:xs.length+gs.length≤9223372036854775807) (ca:Option Addr) (ccap:Nat) (xa:Option Addr) (xcap:Nat) (ga:Option Addr) (gcap:Nat) (a:Option Addr) (cap:Nat) (l:List Zp) (w:World) (hc:bf w.heap.size w ca cols) (hx:aU w.heap.size w xa xs) (hg:iO w.heap.size w ga gs) (h:aK w a l) :
  Calls prog 107 #[.slice ca cols.length ccap,.slice xa xs.length xcap,.slice ga gs.length gcap,.slice a l.length cap] w fun e w'=>∃ v,e = .returned (.tuple #[v,.int .i64 (dx cols xs gs l)])∧(∃ ua uc,v = .slice ua (ei cols xs gs l).length uc∧aK w' ua (ei cols xs gs l))∧Below w.heap.size w w':=by
 obtain ⟨ih,hih,hh0,hh1,hh2⟩:=info_parts Lb;obtain ⟨iz,hiz,hz0,hz1,hz2⟩:=info_parts Tryz.fK;obtain ⟨iv,hiv,hv0,hv1,hv2⟩:=info_parts sZ;generalize hfz:ei cols xs gs l=fz;generalize hfe:dx cols xs gs l=fe;have HZ:Hid (ei cols xs gs l=fz):=hfz;have HE:Hid (dx cols xs gs l=fe):=hfe;clear hfz hfe;have hlen0:xs.length≤9223372036854775807:=by omega
 have hW:IntKind.i64.wrap ((xs.length:Int)+(gs.length:Int))=(xs.length:Int)+(gs.length:Int):=IntWalk.i64_in _ ⟨by omega,by omega⟩;go_enter func107,ntmps107;by_cases hmany:8<xs.length+gs.length
 ·have hmz:8<(xs.length:Int)+(gs.length:Int):=by omega
  have e0:fe=5:=by rw [← HE.out]; unfold dx; rw [if_pos hmany]
  have e1:fz = []:=by rw [← HZ.out]; unfold ei; rw [HE.out,e0,if_neg (by decide)]
  subst e0 e1;go_wp2_with fail
  exact MA (v:=.tuple #[.slice none 0 0,.int .i64 5]) (by simp [results,results107,go_sem]) rfl ⟨_,rfl,⟨_,_,rfl,⟨by simp,.inl rfl⟩⟩,Mz _ _⟩
 have hmz:¬ 8<(xs.length:Int)+(gs.length:Int):=by omega
 have HMany:Hid (¬ 8<xs.length+gs.length):=hmany;have con:=my cols xs ca ccap xa xcap w hx hc;generalize hte:bM cols xs=te at con;have HTe:Hid (bM cols xs=te):=hte;clear hte;go_wp2_with fail
 refine con.mono ?_;rintro e w2 ⟨u,rfl,hA2⟩;clear con hmz hW;dsimp only;by_cases ht:te=0;rotate_left
 ·have hE:fe=te:=by rw [← HE.out]; unfold dx; rw [if_neg HMany.out,HTe.out,if_pos ht]
  have hZ:fz = []:=by rw [← HZ.out]; unfold ei; rw [HE.out,hE,if_neg ht]
  have htb:(te != 0)=true:=by simpa using ht
  subst hE hZ;clear HE HZ HTe;go_wp2_with fail
  exact MA (v:=.tuple #[.slice none 0 0,.int .i64 fe]) (by simp [results,results107,go_sem]) rfl ⟨_,rfl,⟨_,_,rfl,⟨by simp,.inl rfl⟩⟩,hA2⟩
 subst ht;have con:=sB cols gs ca ccap ga gcap w2 ((iO.next hA2 (Mx _) hg).up hA2.size) ((hc.next hA2 (Mx _)).up hA2.size) (by have:=HMany.out; omega);generalize hae:dF cols gs=ae at con;have HAe:Hid (dF cols gs=ae):=hae;clear hae;go_wp2_with fail
 refine con.mono ?_;rintro e w3 ⟨u3,rfl,hb3⟩;clear con;have hA3:=chain hA2 hb3;dsimp only;by_cases ha:ae=0;rotate_left
 ·have hE:fe=ae:=by rw [← HE.out]; unfold dx; rw [if_neg HMany.out,HTe.out,HAe.out,if_neg (by simp),if_pos ha]
  have hZ:fz = []:=by rw [← HZ.out]; unfold ei; rw [HE.out,hE,if_neg ha]
  have htb:(ae != 0)=true:=by simpa using ha
  subst hE hZ;clear HE HZ HTe HAe;go_wp2_with fail
  exact MA (v:=.tuple #[.slice none 0 0,.int .i64 fe]) (by simp [results,results107,go_sem]) rfl ⟨_,rfl,⟨_,_,rfl,⟨by simp,.inl rfl⟩⟩,hA3⟩
 subst ha;have con:=eV cols ca ccap a cap l w3 ((hc.next hA3 (Mx _)).up hA3.size) (h.next hA3);generalize hie:bV cols l=ie at con;have HIe:Hid (bV cols l=ie):=hie;clear hie;go_wp2_with fail
 refine con.mono ?_;rintro e w4 ⟨rfl,hb4⟩;clear con;have hA4:=chain hA3 hb4;dsimp only;by_cases hii:ie=0;rotate_left
 ·have hE:fe=ie:=by rw [← HE.out]; unfold dx; rw [if_neg HMany.out,HTe.out,HAe.out,HIe.out,if_neg (by simp),if_neg (by simp),if_pos hii]
  have hZ:fz = []:=by rw [← HZ.out]; unfold ei; rw [HE.out,hE,if_neg hii]
  have htb:(ie != 0)=true:=by simpa using hii
  subst hE hZ;clear HE HZ HTe HAe HIe;go_wp2_with fail
  exact MA (v:=.tuple #[.slice none 0 0,.int .i64 fe]) (by simp [results,results107,go_sem]) rfl ⟨_,rfl,⟨_,_,rfl,⟨by simp,.inl rfl⟩⟩,hA4⟩
 subst hii;have HO:Hid (gN cols l):=(gj cols l).1 HIe.out;have hl4:=dg HO.out;have HRise:Hid (fh l):=((cq l).1 HO.out.set).2.2;have e0:fe=0:=by rw [← HE.out]; unfold dx; rw [if_neg HMany.out,HTe.out,HAe.out,HIe.out,if_neg (by simp),if_neg (by simp),if_neg (by simp)]; exact wL gs HRise.out hl4
 have e1:fz=canon (pK xs gs l (cQ xs l)):=by rw [← HZ.out]; unfold ei; rw [HE.out,e0,if_pos rfl,CN gs HRise.out]
 subst e0;have HZe:Hid (fz=canon (pK xs gs l (cQ xs l))):=e1;have HMs:Hid (∀ g ∈ gs,dh cols g=0):=th HAe.out;have hx8:xs.length+gs.length≤8:=by have:=HMany.out; omega
 clear HE HZ e1 HIe HAe HMany hb4 hb3 hA2 hA3 hsum hlen0 hmany;have hbase:Below w4.heap.size w4 w4:=Mz _ _;have start:xs.length=0∨¬ xs.length=0:=Decidable.em _;rcases start with hx0 | hx0
 have hxb:((xs.length:Int) == 0)=true:=by simp [hx0]
 have hal0:=aa w4 (.cells #[.slice none 0 0] 45);have HS:lW w4.heap.size (w4.alloc (.cells #[.slice none 0 0] 45)) (.slice (some ⟨w4.heap.size,0,none⟩) 1 1) (cQ xs (l.take 0)):=by
  have e:cQ xs (l.take 0) = [[]]:=by simp [cQ,hx0]
  rw [e];exact CH w4
 go_wp2_with fail
 generalize w4.alloc (.cells #[.slice none 0 0] 45)=wS at *;rotate_left;have hxb:((xs.length:Int) == 0)=false:=by rw [beq_eq_false_iff_ne]; omega
 have HS:lW w4.heap.size w4 (.slice none 0 0) (cQ xs (l.take 0)):=by
  have e:cQ xs (l.take 0) = []:=by simp [cQ,hx0]
  rw [e];exact lW.nil _ _
 have hal0:=hbase;go_wp2_with fail
 all_goals
  try rw [hxb]
  clear hxb hx0;go_loopw [15,67] (fun v i wr=>∃ k:Nat,k≤l.length∧i = .int .i64 k∧lW w4.heap.size wr v (cQ xs (l.take k))∧Below w4.heap.size w4 wr) (fun _ i _=>l.length - (intOf i).toNat)
  case atStart=>exact ⟨0,MD _,rfl,HS,hal0⟩
  case round =>
   obtain ⟨k,hk,rfl,HH,hb⟩:=hrel;clear HS hal0;obtain ⟨wo,hwo⟩:∃ z,z=wr:=⟨_,rfl⟩
   subst hwo;have hAo:=chain hA4 hb;by_cases hlt:k<l.length
   ·have hHl:=Dp xs l k hl4;have HRt:Hid (∀ h ∈ cQ xs (l.take k),bZ h=true∧h.length=xs.length):=mf HTe.out HO.out _ fun r hr=>N6 hr
    have HTk:Hid (cQ xs (l.take (k+1))=iN xs (cQ xs (l.take k)) l[k]):=zg xs hlt;generalize cQ xs (l.take k)=H at *;have HHx:=HH;obtain ⟨ha,hcap,rfl,_⟩:=HHx.elem;clear HHx;obtain ⟨bb,off,rfl,hbl,c1,ar,cr,c0,sr⟩:=(h.next hAo).elem hlt;have hal:=aa wo (.cells #[.slice ar l[k].1.length cr,.int .i64 l[k].2] 47);have q0:=bq wo #[.slice ar l[k].1.length cr,.int .i64 l[k].2] 47;have HFt:Hid (dX cols l[k].1):=HO.out.fit l[k] (MC hlt);have hAk:=chain hAo hal;have HHk:=HH.next hal
    have HSr:Hid (aZ (wo.alloc (.cells #[.slice ar l[k].1.length cr,.int .i64 l[k].2] 47)) ar l[k].1):=sr.next hal;clear sr HH;go_upto_region 18 with fail
    clear c0 c1;generalize wo.alloc (.cells #[.slice ar l[k].1.length cr,.int .i64 l[k].2] 47)=wk at *;have con:=gP (cols:=cols) xs HTe.out l[k].1 HFt.out xa xcap ar cr wk ((aU.next hAk (Mx _) hx).up hAk.size) HSr.out;have p0:wk.cell? ⟨wo.heap.size,0,none⟩=some (.slice ar l[k].1.length cr):=cell_of (i:=0) q0 rfl;go_wp2_with fail
    refine con.mono ?_;rintro e w5 ⟨v5,rfl,O5,hb5⟩;clear con p0;obtain ⟨a5,c5,rfl,S5,T5,_⟩:=dQ O5 (by rw [mF]);clear O5;have q5:=(hb5.block _ (an q0)).trans q0;have p1:w5.cell? ⟨wo.heap.size,1,none⟩=some (.int .i64 l[k].2):=cell_of (i:=1) q5 rfl;have HH5:=HHk.next hb5;have hb45:=chain hb (chain hal hb5);clear HHk q0 q5 HSr;go_wp2_with fail
    go_loopw [19,80] (fun t j wr=>∃ (i:Nat) (tb:Bool),i≤H.length∧j = .int .i64 i∧t = .bool tb∧Hid (tb=true↔(l[k].2≤0∨∃ h ∈ H.take i,aF h (bp xs l[k].1)=0))∧Below w5.heap.size w5 wr) (fun _ j _=>H.length - (intOf j).toNat)
    case atStart=>exact ⟨0,decide (l[k].2≤0),MD _,rfl,rfl,(show _↔_ by simp),Mz _ _⟩
    case round =>
     obtain ⟨i,tb,hi,rfl,rfl,HB,hbi⟩:=hrel;by_cases hil:i<H.length
     ·obtain ⟨b1,o1,ka,kc,rfl,cE,sE,tE⟩:=(HH5.next hbi).at hil;have hiz:(i:Int)<(H.length:Int):=by omega
      have HT1:Hid ((∃ h ∈ H.take (i+1),aF h (bp xs l[k].1)=0)↔((∃ h ∈ H.take i,aF h (bp xs l[k].1)=0)∨aF H[i] (bp xs l[k].1)=0)):=by
       show _↔_;rw [MJ hil];simp only [M3,MY];constructor
       ·rintro ⟨h,h1 | rfl,h2⟩
        ·exact .inl ⟨h,h1,h2⟩
        ·exact .inr h2
       ·rintro (⟨h,h1,h2⟩ | h2)
        ·exact ⟨h,.inl h1,h2⟩
        ·exact ⟨H[i],.inr rfl,h2⟩
      cases tb with
      | true =>
       have HB':Hid (true=true↔(l[k].2≤0∨∃ h ∈ H.take (i+1),aF h (bp xs l[k].1)=0)):=by
        show _↔_;rw [HT1.out];have:=HB.out.1 rfl;exact ⟨fun _=>this.imp id .inl,fun _=>rfl⟩
       clear HB HT1;go_wp2_with fail
       go_roundw
       case rel=>exact ⟨i+1,true,by omega,by go_num,rfl,HB',hbi⟩
       case measure=>simp [intOf]; omega
      | false =>
       have con:=eW ka a5 kc c5 H[i] (bp xs l[k].1) wr sE (S5.next hbi) (HRt.out H[i] (MC hil)).1;have HN:Hid (¬ (l[k].2≤0∨∃ h ∈ H.take i,aF h (bp xs l[k].1)=0)):=fun c=>by have:=HB.out.2 c; cases this
       generalize hcv:aF H[i] (bp xs l[k].1)=cv at *;clear HB;go_wp2_with fail
       refine con.mono ?_;rintro e w6 ⟨rfl,hb6⟩;clear con;dsimp only;by_cases hz:cv=0
       ·have hzb:(cv == 0)=true:=by simpa using hz
        have HB':Hid (true=true↔(l[k].2≤0∨∃ h ∈ H.take (i+1),aF h (bp xs l[k].1)=0)):=by
         show _↔_;rw [HT1.out];exact ⟨fun _=>.inr (.inr hz),fun _=>rfl⟩
        clear HT1 HN hz hcv;go_wp2_with fail
        go_roundw
        case rel=>exact ⟨i+1,true,by omega,by go_num,rfl,HB',chain hbi hb6⟩
        case measure=>simp [intOf]; omega
       ·have hzb:(cv == 0)=false:=by rw [beq_eq_false_iff_ne]; exact hz
        have HB':Hid (false=true↔(l[k].2≤0∨∃ h ∈ H.take (i+1),aF h (bp xs l[k].1)=0)):=by
         show _↔_;rw [HT1.out];refine ⟨fun c=>(by cases c),fun c=>?_⟩;rcases c with c | c | c
         ·exact absurd (.inl c) HN.out
         ·exact absurd (.inr c) HN.out
         ·exact absurd c hz
        clear HT1 HN hz hcv;go_wp2_with fail
        go_roundw
        case rel=>exact ⟨i+1,false,by omega,by go_num,rfl,HB',chain hbi hb6⟩
        case measure=>simp [intOf]; omega
     ·have e:i=H.length:=by omega
      subst e;rw [MM] at HB;have hbw:=chain hb45 hbi;cases tb with
      | true =>
       have HE':Hid (cQ xs (l.take (k+1))=H):=by
        show _=_;rw [HTk.out];unfold iN;rw [if_pos (HB.out.1 rfl)]
       clear HB HTk;go_wp2_with fail
       go_roundw
       case rel=>exact ⟨k+1,by omega,by go_num,by rw [HE'.out]; exact HH5.next hbi,hbw⟩
       case measure=>simp [intOf]; omega
      | false =>
       have HE':Hid (cQ xs (l.take (k+1))=H ++ [bp xs l[k].1]):=by
        show _=_;rw [HTk.out];unfold iN;rw [if_neg fun c=>by have:=HB.out.2 c; cases this]
       clear HB HTk;obtain ⟨ys,Oh,Eh⟩:=HH5.next hbi;have S6:=S5.next hbi;have T6:=T5.next hbi;have hzw:=hbw.size;have pJ:∀ u ∈ [Value.slice a5 (bp xs l[k].1).length c5],u.oneCell'=true:=by intro u hu; simp at hu; subst hu; rfl
       have at1:∀ i u,[Value.slice a5 (bp xs l[k].1).length c5][i]? = some u→(wr.alloc (.cells #[.slice a5 (bp xs l[k].1).length c5] 45)).cell? ((⟨wr.heap.size,0,none⟩:Addr).add i)=some u:=by
        intro i u hu
        match i,hu with
        | 0,hu=>simp at hu; subst hu; simp [Addr.add]
       have len1:H.length+1≤maxLen:=by unfold maxLen; omega
       have byt1:(H.length+1)*24≤140737488355328:=by omega
       have bas1:w4.heap.size≤(wr.alloc (.cells #[.slice a5 (bp xs l[k].1).length c5] 45)).heap.size:=by simp; omega
       have hal6:=aa wr (.cells #[.slice a5 (bp xs l[k].1).length c5] 45);have OA:=aL Oh hal6;have EA:=Eh.next hal6;have SA:=S6.next hal6;have TA:=T6.next hal6;clear S6 T6 Oh Eh HH5 S5 T5;go_wp2_with (first | (at_builtin; refine MX _ rfl _ _ 177 rfl w4.heap.size 45 ih _ 1 24 underlying177 hih hh0 hh1 hh2 rfl (by decide) _ _ _ rfl OA ⟨wr.heap.size,0,none⟩ 1 1 [.slice a5 (bp xs l[k].1).length c5] rfl rfl at1 pJ len1 byt1 bas1 ?_))
       intro v' w7 o7 g7 _;have hb7:Below w4.heap.size w4 w7:=hbw.trans (((Mz _ _).alloc (by omega) _).grown g7 (by simp; omega) (fun q hq=>(OA.lt q hq).1));have HH7:lW w4.heap.size w7 v' (H ++ [bp xs l[k].1]):=lW.push OA EA SA TA o7 g7;clear g7 o7 OA EA SA TA pJ at1;go_wp2_with fail
       go_roundw
       case rel=>exact ⟨k+1,by omega,by go_num,by rw [HE'.out]; exact HH7,hb7⟩
       case measure=>simp [intOf]; omega
   ·have e:k=l.length:=by omega
    subst e;rw [MM] at HH;have hHl:=tz xs l hl4;have HRt:Hid (∀ h ∈ cQ xs l,bZ h=true∧h.length=xs.length):=mf HTe.out HO.out _ fun r hr=>hr
    have HRw:Hid (∀ h ∈ cQ xs l,bZ (h ++ gs.map fun g=>fF g (cO xs l h))=true):=fun h hh=>wI HTe.out HO.out HMs.out hh
    generalize cQ xs l=H at *;obtain ⟨ha,hcap,rfl,_⟩:=HH.elem;go_wp2_with fail
    go_loopw [22,101] (fun v i wr=>∃ k:Nat,k≤H.length∧i = .int .i64 k∧Acc wr v (pK xs gs l (H.take k))∧iL k (pK xs gs l (H.take k))∧Below wo.heap.size wo wr) (fun _ i _=>H.length - (intOf i).toNat)
    case atStart=>exact ⟨0,MD _,rfl,Acc.nil _,⟨MD _,fun y hy=>by cases hy⟩,Mz _ _⟩
    case round =>
     obtain ⟨k,hkH,rfl,HA,HP,hbC⟩:=hrel;obtain ⟨wc,hwc⟩:∃ z,z=wr:=⟨_,rfl⟩
     subst hwc;obtain ⟨uc,huc⟩:∃ z,z=u22:=⟨_,rfl⟩
     subst huc;have hAc:=chain hAo hbC;by_cases hltH:k<H.length
     ·obtain ⟨b1,o1,ka,kc,rfl,cE,sE,tE⟩:=(HH.next hbC).at hltH;have hkz:(k:Int)<(H.length:Int):=by omega
      obtain ⟨hr1,hr2⟩:=HRt.out H[k] (MC hltH);have HR1:Hid (bZ H[k]=true):=hr1;have HRr:Hid (bZ (H[k] ++ gs.map fun g=>fF g (cO xs l H[k]))=true):=HRw.out H[k] (MC hltH);have HTk:Hid (pK xs gs l (H.take (k+1))=pK xs gs l (H.take k) ++ [(H[k] ++ gs.map (fun g=>fF g (cO xs l H[k])),1)]):=Dz hltH;have HPk:Hid (iL k (pK xs gs l (H.take k))):=HP;have HL:Hid (H[k].length=xs.length):=hr2;have hhd8:H[k].length+gs.length≤8:=by omega
      clear hr1 hr2 HP;generalize pK xs gs l (H.take k)=pre at *;generalize H[k]=hd at *;go_upto_region 32 with fail
      clear cE;go_wp2_with fail
      go_loopw [25,107] (fun v i wr=>∃ j:Nat,j≤l.length∧i = .int .i64 j∧(∃ ys,wr.ownsRow wc.heap.size 47 2 v (cO xs (l.take j) hd).length ys∧iy wc ys (cO xs (l.take j) hd))∧Below wc.heap.size wc wr) (fun _ i _=>l.length - (intOf i).toNat)
      case atStart=>exact ⟨0,MD _,rfl,⟨[],M4 _ _ _ _,⟨rfl,fun i hi=>by simp [cO] at hi⟩⟩,Mz _ _⟩
      case round =>
       obtain ⟨j,hj,rfl,⟨ys,OD,ED⟩,hbD⟩:=hrel;have hAD:=chain hAc hbD;by_cases hjl:j<l.length
       ·obtain ⟨bb,off,rfl,hbl,d1,ar,cr,d0,src0⟩:=(h.next hAc).elem hjl;have c1:=(hbD.cell (p:=⟨bb,_,none⟩) hbl).trans d1;have c0:=(hbD.cell (p:=⟨bb,_,none⟩) hbl).trans d0;have sr:=src0.next hbD;clear d0 d1;have hal:=aa wr (.cells #[.slice ar l[j].1.length cr,.int .i64 l[j].2] 47);have q0:=bq wr #[.slice ar l[j].1.length cr,.int .i64 l[j].2] 47;have HFt:Hid (dX cols l[j].1):=HO.out.fit l[j] (MC hjl)
        have HTj:Hid (cO xs (l.take (j+1)) hd=cO xs (l.take j) hd ++ (if 0<l[j].2∧aF (bp xs l[j].1) hd=0 then [l[j]] else [])):=Av hjl;have hRl:(cO xs (l.take j) hd).length≤400:=by
         have:=Nn (fun r:Zp=>decide (0<r.2) && decide (aF (bp xs r.1) hd=0)) (l.take j);rw [MR] at this;unfold cO;omega
        generalize cO xs (l.take j) hd=acc at *;have hAk:=chain hAD hal;have hbk:=chain hbD hal;have OD1:=aL OD hal;have HSr:Hid (aZ (wr.alloc (.cells #[.slice ar l[j].1.length cr,.int .i64 l[j].2] 47)) ar l[j].1):=sr.next hal;clear sr OD;go_upto_region 36 with fail
        clear c0 c1;generalize wr.alloc (.cells #[.slice ar l[j].1.length cr,.int .i64 l[j].2] 47)=wk at *;have p0:wk.cell? ⟨wr.heap.size,0,none⟩=some (.slice ar l[j].1.length cr):=cell_of (i:=0) q0 rfl;have p1:wk.cell? ⟨wr.heap.size,1,none⟩=some (.int .i64 l[j].2):=cell_of (i:=1) q0 rfl;by_cases hw:0<l[j].2
        ·have con:=gP (cols:=cols) xs HTe.out l[j].1 HFt.out xa xcap ar cr wk ((aU.next hAk (Mx _) hx).up hAk.size) HSr.out;go_wp2_with fail
         refine con.mono ?_;rintro e w5 ⟨v5,rfl,O5,hb5⟩;clear con p0 p1;obtain ⟨a5,c5,rfl,S5,T5,_⟩:=dQ O5 (by rw [mF]);clear O5;have q5:=(hb5.block _ (an q0)).trans q0;have OD5:=aL OD1 hb5;have hb5c:=chain hbk hb5;have con:=eW a5 ka c5 kc (bp xs l[j].1) hd w5 S5 (sE.next hb5c) (od HTe.out HFt.out);generalize hcv:aF (bp xs l[j].1) hd=cv at *;dsimp only;go_wp2_with fail
         refine con.mono ?_;rintro e w6 ⟨rfl,hb6⟩;clear con;have q6:=(hb6.block _ (an q5)).trans q5;have p0:w6.cell? ⟨wr.heap.size,0,none⟩=some (.slice ar l[j].1.length cr):=cell_of (i:=0) q6 rfl;have p1:w6.cell? ⟨wr.heap.size,1,none⟩=some (.int .i64 l[j].2):=cell_of (i:=1) q6 rfl;have OD6:=aL OD5 hb6;have hb6c:=chain hb5c hb6;have hz6:=hb6c.size;clear OD5 OD1 q0 q5 S5 T5 HSr;dsimp only;by_cases hz:cv=0
         ·have hzb:(cv == 0)=true:=by simpa using hz
          have HT':Hid (cO xs (l.take (j+1)) hd=acc ++ [l[j]]):=by show _=_; rw [HTj.out,if_pos ⟨hw,hz⟩]
          clear HTj hz hcv;go_wp2_with (first | (at_builtin; refine MX _ rfl _ _ 38 rfl wc.heap.size 47 iz _ 2 32 underlying38 hiz hz0 hz1 hz2 rfl (by decide) _ _ _ rfl (OD6.alloc _) ⟨w6.heap.size,0,none⟩ 1 1 [.slice ar l[j].1.length cr,.int .i64 l[j].2] rfl rfl ?Ac1 ?Ac2 ?Ac3 ?Ac4 ?Ac5 ?_))
          case Ac1 =>
           intro i u hu
           match i,hu with
           | 0,hu=>simp at hu; subst hu; simp [Addr.add]
           | 1,hu=>simp at hu; subst hu; simp [Addr.add]
          case Ac2=>intro u hu; simp at hu; rcases hu with rfl | rfl <;> rfl
          case Ac3=>unfold maxLen; omega
          case Ac4=>omega
          case Ac5=>simp; omega
          intro v' w7 o7 g7 _;have hb7:Below wc.heap.size wc w7:=hb6c.trans (((Mz _ _).alloc (by omega) _).grown g7 (by simp; omega) (fun q hq=>((OD6.alloc (.cells #[.slice ar l[j].1.length cr,.int .i64 l[j].2] 47)).lt q hq).1));have E7:=ED.push (x:=l[j]) (cap:=cr) src0;have o7':w7.ownsRow wc.heap.size 47 2 v' (acc ++ [l[j]]).length (ys ++ [.slice ar l[j].1.length cr,.int .i64 l[j].2]):=by rw [ME]; exact o7
          clear g7 o7 OD6 p0 p1 q6;go_wp2_with fail
          go_roundw
          case rel=>exact ⟨j+1,by omega,by go_num,by rw [HT'.out]; exact ⟨_,o7',E7⟩,hb7⟩
          case measure=>simp [intOf]; omega
         ·have hzb:(cv == 0)=false:=by rw [beq_eq_false_iff_ne]; exact hz
          have HT':Hid (cO xs (l.take (j+1)) hd=acc):=by show _=_; rw [HTj.out,if_neg fun c=>hz c.2,M8]
          clear HTj hz hcv p0 p1 q6;go_wp2_with fail
          go_roundw
          case rel=>exact ⟨j+1,by omega,by go_num,by rw [HT'.out]; exact ⟨_,OD6,ED⟩,hb6c⟩
          case measure=>simp [intOf]; omega
        ·have HT':Hid (cO xs (l.take (j+1)) hd=acc):=by show _=_; rw [HTj.out,if_neg fun c=>hw c.1,M8]
         clear HTj;go_wp2_with fail
         go_roundw
         case rel=>exact ⟨j+1,by omega,by go_num,by rw [HT'.out]; exact ⟨_,OD1,ED⟩,hbk⟩
         case measure=>simp [intOf]; omega
       ·have e:j=l.length:=by omega
        subst e;rw [MM] at OD ED;have HROk:Hid (Fv cols (cO xs l hd)):=yb HO.out hd;obtain ⟨ra,rc,rfl,ZR⟩:=rC OD rfl ED hbD;clear OD ED;obtain ⟨wd,hwd⟩:∃ z,z=wr:=⟨_,rfl⟩
        subst hwd;have con:=jO ka none kc 0 hd [] wd (sE.next hbD) ⟨MD _,.inl rfl⟩ (by simp; omega);go_wp2_with fail
        refine con.mono ?_;rintro e w8 ⟨v8,rfl,O8,hb8⟩;clear con;rw [M8] at O8;dsimp only;go_wp2_with fail
        go_loopw [28,132] (fun v i wr=>∃ j:Nat,j≤gs.length∧i = .int .i64 j∧wr.ownsRow wd.heap.size 24 3 v (hd.length+j) (bG (hd ++ (gs.take j).map fun g=>fF g (cO xs l hd)))∧Below wd.heap.size wd wr) (fun _ i _=>gs.length - (intOf i).toNat)
        case atStart=>exact ⟨0,MD _,rfl,by simpa using O8,hb8⟩
        case round =>
         obtain ⟨j,hj,rfl,OE,hbE⟩:=hrel;have hAE:=chain hAD hbE;have hzE:=hbE.size;by_cases hjg:j<gs.length
         ·obtain ⟨b,off,ai,ci,rfl,hbl,x0,sx,kx⟩:=(iO.next hAE (Mx _) hg).elem hjg;obtain ⟨x1,x2,x3,x4,x5,x6⟩:=sx;have hjz:(j:Int)<gs.length:=by omega
          have hal:=aa wr (.cells #[.int .i64 gs[j].1,.int .i64 gs[j].2.k,.int .i64 gs[j].2.v.1,.int .i64 gs[j].2.v.2.1,.string gs[j].2.v.2.2,.int .i64 gs[j].2.c,.slice ai gs[j].2.ks.length ci] 123);have q0:=bq wr #[.int .i64 gs[j].1,.int .i64 gs[j].2.k,.int .i64 gs[j].2.v.1,.int .i64 gs[j].2.v.2.1,.string gs[j].2.v.2.2,.int .i64 gs[j].2.c,.slice ai gs[j].2.ks.length ci] 123;have O1:=aL OE hal;have hbk:=chain hbE hal;have hAk:=chain hAE hal
          have kk:=(aU.next hal hAE.size kx).up (MO hAE.size hal.size);have con:=CZ (cols:=cols) gs[j].1 gs[j].2 (HMs.out gs[j] (MC hjg)) (cO xs l hd) HROk.out ai ci ra rc _ kk (ZR.next hbk);have HR:Hid (bG (hd ++ (gs.take (j+1)).map fun g=>fF g (cO xs l hd))=bG (hd ++ (gs.take j).map fun g=>fF g (cO xs l hd)) ++ bG [fF (gs[j].1,gs[j].2) (cO xs l hd)]):=by
           show _=_;rw [← bW,Nh,MJ hjg,Nc];rfl
          clear OE kx kk;generalize bG (hd ++ (gs.take j).map fun g=>fF g (cO xs l hd))=fl at *;go_upto_region 43 with fail
          clear x0 x1 x2 x3 x4 x5 x6;generalize wr.alloc (.cells #[.int .i64 gs[j].1,.int .i64 gs[j].2.k,.int .i64 gs[j].2.v.1,.int .i64 gs[j].2.v.2.1,.string gs[j].2.v.2.2,.int .i64 gs[j].2.c,.slice ai gs[j].2.ks.length ci] 123)=wk at *;generalize fF (gs[j].1,gs[j].2) (cO xs l hd)=u at *;unfold dV at con;have p0:wk.cell? ⟨wr.heap.size,0,none⟩=some (.int .i64 gs[j].1):=cell_of (i:=0) q0 rfl;have p1:wk.cell? ⟨wr.heap.size,1,none⟩=some (.int .i64 gs[j].2.k):=cell_of (i:=1) q0 rfl;have p2:wk.cell? ⟨wr.heap.size,2,none⟩=some (.int .i64 gs[j].2.v.1):=cell_of (i:=2) q0 rfl
          have p3:wk.cell? ⟨wr.heap.size,3,none⟩=some (.int .i64 gs[j].2.v.2.1):=cell_of (i:=3) q0 rfl;have p4:wk.cell? ⟨wr.heap.size,4,none⟩=some (.string gs[j].2.v.2.2):=cell_of (i:=4) q0 rfl;have p5:wk.cell? ⟨wr.heap.size,5,none⟩=some (.int .i64 gs[j].2.c):=cell_of (i:=5) q0 rfl;have p6:wk.cell? ⟨wr.heap.size,6,none⟩=some (.slice ai gs[j].2.ks.length ci):=cell_of (i:=6) q0 rfl;go_wp2_with fail
          refine con.mono ?_;rintro e w9 ⟨rfl,hb9⟩;clear con p0 p1 p2 p3 p4 p5 p6 q0;have O9:=aL O1 hb9;have hb9d:=chain hbk hb9;have hz9:=hb9d.size;dsimp only;go_wp2_with (first | (at_builtin; refine MX _ rfl _ _ 45 rfl wd.heap.size 24 iv _ 3 32 underlying45 hiv hv0 hv1 hv2 rfl (by decide) _ _ _ rfl (O9.alloc _) ⟨w9.heap.size,0,none⟩ 1 1 [.int .i64 u.1,.int .i64 u.2.1,.string u.2.2] rfl rfl ?Ac1 ?Ac2 ?Ac3 ?Ac4 ?Ac5 ?_))
          case Ac1 =>
           intro i u hu
           match i,hu with
           | 0,hu=>simp at hu; subst hu; simp [Addr.add]
           | 1,hu=>simp at hu; subst hu; simp [Addr.add]
           | 2,hu=>simp at hu; subst hu; simp [Addr.add]
          case Ac2=>intro u hu; simp at hu; rcases hu with rfl | rfl | rfl <;> rfl
          case Ac3=>unfold maxLen; omega
          case Ac4=>omega
          case Ac5=>simp; omega
          intro v' w10 o10 g10 _;have hb10:Below wd.heap.size wd w10:=hb9d.trans (((Mz _ _).alloc (by omega) _).grown g10 (by simp; omega) (fun q hq=>((O9.alloc (.cells #[.int .i64 u.1,.int .i64 u.2.1,.string u.2.2] 24)).lt q hq).1));have o10':w10.ownsRow wd.heap.size 24 3 v' (hd.length+(j+1)) (bG (hd ++ (gs.take (j+1)).map fun g=>fF g (cO xs l hd))):=by rw [HR.out]; exact o10
          clear g10 O9 O1 o10 HR;go_wp2_with fail
          go_roundw
          case rel=>exact ⟨j+1,by omega,by go_num,o10',hb10⟩
          case measure=>simp [intOf]; omega
         ·have e:j=gs.length:=by omega
          subst e;rw [MM] at OE;have hle:hd.length+gs.length=(hd ++ gs.map fun g=>fF g (cO xs l hd)).length:=by simp
          have h8r:(hd ++ gs.map fun g=>fF g (cO xs l hd)).length≤8:=by rw [← hle]; exact hhd8
          obtain ⟨a9,c9,rfl,S9,_,_⟩:=dQ OE hle;clear hle OE;generalize (hd ++ gs.map fun g=>fF g (cO xs l hd))=row at *;have con:=j7 uc pre k (by omega) HPk.out a9 c9 row 1 wr (HA.next (chain hbD hbE)) S9 h8r (by omega);have hbf:=chain hbC (chain hbD hbE);go_wp2_with fail
          refine con.mono ?_;rintro e w9 ⟨v9,rfl,HA9,hb9⟩;clear con;have HP9:iL (k+1) (pre ++ [(row,1)]):=HPk.out.push ⟨HRr.out,by omega,by omega⟩;dsimp only;go_wp2_with fail
          go_roundw
          case rel=>exact ⟨k+1,by omega,by go_num,by rw [HTk.out]; exact HA9,by rw [HTk.out]; exact HP9,chain hbf hb9⟩
          case measure=>simp [intOf]; omega
     ·have e:k=H.length:=by omega
      subst e;rw [MM] at HA;unfold Acc at HA;rw [← HZe.out] at HA;obtain ⟨ua,uk,rfl,z,_⟩:=HA;go_wp2_with fail
      first
       | exact MA (v:=.tuple #[.slice ua fz.length uk,.int .i64 0]) (by simp [results,results107,go_sem]) rfl ⟨_,rfl,⟨ua,uk,rfl,z⟩,hAc⟩
       | trace_state
end Go.Proofs.YtoefpglknaiaeaaGreat
