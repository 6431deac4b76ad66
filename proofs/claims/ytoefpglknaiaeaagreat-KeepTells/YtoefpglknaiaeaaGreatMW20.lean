import Derived.OneCell
import Derived.Test.YtoefpglknaiaeaaGreatMW19
set_option maxHeartbeats 16000000
set_option maxRecDepth 100000
namespace Go.Proofs.YtoefpglknaiaeaaGreat
open Go.RowKit Go.Lib Go.Shelf _root_.Go.Proofs.Tryz
def j6 (W:World) (g:Nat):Prop:=∀ j u,W.cell? ⟨g,j*2,none⟩=some u→∃ a n c,u = .slice a n c
theorem j6.next {W w1:World} {g:Nat} (h:j6 W g) (hg:g<W.heap.size) (hb:Below W W w1):j6 w1 g:=fun j u hu=>h j u ((hb.cell (p:=⟨g,j*2,none⟩) hg).symm.trans hu)
theorem pv (W:World) (g i j:Nat) (u:Value):(W.setCell ⟨g,i*2+1,none⟩ u).cell? ⟨g,j*2,none⟩=W.cell? ⟨g,j*2,none⟩:=by
 refine MN _ _ _ _ ?_;intro e;have:=congrArg Addr.off e;simp at this;omega
theorem j6.set {W:World} {g:Nat} (h:j6 W g) (i:Nat) (u:Value):j6 (W.setCell ⟨g,i*2+1,none⟩ u) g:=fun j v hv=>h j v (by rw [← hv,pv])
theorem GO {W:World} {g:Nat} (h:j6 W g) {b off:Nat} {r:List Vl} (hr:Row W b off r) (hn:r ≠ []):b≠g:=by
 rintro rfl;have hp:0<r.length:=List.length_pos_iff.2 hn;obtain ⟨c0,c1,_⟩:=hr 0 hp;simp only [Oa,NW] at c0 c1;by_cases e:off % 2=0
 ·obtain ⟨a,n,c,e'⟩:=h (off / 2) _ (by rw [show off / 2*2=off by omega]; exact c0);cases e'
 ·obtain ⟨a,n,c,e'⟩:=h ((off+1) / 2) _ (by rw [show (off+1) / 2*2=off+1 by omega]; exact c1);cases e'
theorem KK {W:World} {g:Nat} (h:j6 W g) {a:Option Addr} {r:List Vl} (hs:aZ W a r) (i:Nat) (u:Value):aZ (W.setCell ⟨g,i*2+1,none⟩ u) a r:=by
 refine ⟨hs.1,?_⟩;rcases hs.2 with h0 | ⟨b,off,e,hr,hlt⟩
 ·exact .inl h0
 ·by_cases h0:r = []
  ·exact .inl h0
  ·have hne:=GO h hr h0;refine .inr ⟨b,off,e,fun k hk=>?_,by simpa [World.setCell] using hlt⟩;have key:(W.setCell ⟨g,i*2+1,none⟩ u).heap[b]? = W.heap[b]?:=Nf _ _ _ _ hne;obtain ⟨c0,c1,c2⟩:=hr k hk;exact ⟨(MP (a:=⟨b,_,none⟩) key).trans c0,(MP (a:=⟨b,_,none⟩) key).trans c1,(MP (a:=⟨b,_,none⟩) key).trans c2⟩
def pd (g:Nat) (W:World) (v:Value) (pre:List Zp):Prop:=∃ xs,W.ownsRow (g+1) 47 2 v (canon pre).length xs∧iy W xs (canon pre)
theorem iy.next {W w1:World} {xs:List Value} {l:List Zp} (h:iy W xs l) (hb:Below W W w1):iy w1 xs l :=
 ⟨h.1,fun i hi=>by
  obtain ⟨a,cap,h1,h2,h3⟩:=h.2 i hi
  exact ⟨a,cap,h1,h2,h3.next hb⟩⟩
theorem pd.next {g:Nat} {W w1:World} {v:Value} {pre:List Zp} (h:pd g W v pre) (hb:Below W W w1):pd g w1 v pre:=by
 obtain ⟨xs,h1,h2⟩:=h;exact ⟨xs,aL h1 hb,h2.next hb⟩
theorem pd.nil (g:Nat) (W:World):pd g W bX []:=⟨[],M4 _ _ _ _,⟨rfl,fun i hi=>by simp [canon] at hi⟩⟩
theorem pd.set {g:Nat} {W:World} {v:Value} {pre:List Zp} (h:pd g W v pre) (he:j6 W g) (i:Nat) (u:Value):pd g (W.setCell ⟨g,i*2+1,none⟩ u) v pre:=by
 obtain ⟨xs,h1,h2⟩:=h;refine ⟨xs,ownsRow_setCell_below h1 (a:=⟨g,i*2+1,none⟩) (Nat.lt_succ_self _) u,h2.1,fun j hj=>?_⟩;obtain ⟨a,cap,e0,e1,e2⟩:=h2.2 j hj;exact ⟨a,cap,e0,e1,KK he e2 i u⟩
theorem pd.acc {g:Nat} {W:World} {v:Value} {pre:List Zp} (h:pd g W v pre):Acc W v pre:=by
 obtain ⟨xs,h1,h2⟩:=h;have h1':=h1;obtain ⟨hx,h1 | ⟨b,cap,cur,e,hg,hh,hn,hc,hs,ht⟩⟩:=h1
 ·obtain ⟨rfl,h0⟩:=h1;refine ⟨none,0,by rw [h0],⟨by rw [h0]; exact MD _,.inl (MH h0)⟩,fun _=>rfl,by omega,MD _⟩
 ·subst e;refine ⟨_,cap,rfl,⟨MO hn hc,.inr ⟨b,0,rfl,(h1'.lt b rfl).2,?_⟩⟩,fun e=>(by cases e),hn,hc⟩;intro i hi;obtain ⟨a,cp,e0,e1,e2⟩:=h2.2 i hi;refine ⟨?_,a,cp,?_,e2⟩
  ·rw [h1'.cellAt _ ag,← e1]; congr 1; omega
  ·rw [h1'.cellAt _ ag,← e0]; congr 1; omega
theorem JN (g:Nat) (v:Value) (pre:List Zp) (c:Nat) (hc:c≤170000) (hp:iL c pre) (b:Option Addr) (cb:Nat) (r:List Vl) (x:Int) (w:World) (hg:g<w.heap.size) (h:pd g w v pre) (h':aZ w b r) (h8:r.length≤8) (hx:-1000000000000≤x∧x≤1000000000000) :
  Calls prog 81 #[v,.slice b r.length cb,x] w fun e w'=>∃ u,e = .returned u∧pd g w' u (pre ++ [(r,x)])∧Below w w w':=by
 obtain ⟨a,cap,rfl,z,l⟩:=h.acc;have hl:=MO (eY pre) hp.len;refine (pH a cap (canon pre) b cb r x w z l h' h8 ag (fun y hy=>?_) (fun y hy=>?_) ag).mono ?_
 ·obtain ⟨p,hp',e⟩:=mL pre y hy;rw [e,lC];exact (hp.all p hp').1
 ·rw [← sW (eM pre).i7 y hy,gS];have:=Is hp.all y.1;have:=hp.len;omega
 ·rintro e w' ⟨u,rfl,⟨xs,O1,O2⟩,hb⟩;have e1:cI (canon pre) r x=canon (pre ++ [(r,x)]):=(iu pre (r,x)).symm;rw [e1] at O1 O2;refine ⟨_,rfl,⟨xs,?_,O2.1,fun i hi=>?_⟩,hb⟩
  ·obtain ⟨k0,k1⟩:=O1;refine ⟨k0,?_⟩;rcases k1 with k1 | ⟨g',cap',cur,e,hg',h3⟩
   ·exact .inl k1
   ·exact .inr ⟨g',cap',cur,e,by omega,h3⟩
  ·obtain ⟨a',cap',e0,e1,e2,_⟩:=O2.2 i hi;exact ⟨a',cap',e0,e1,e2⟩
def Rest (w0:World) (B g cap n:Nat) (W:World) (R:List Zp):Prop:=R.length=n∧∃ xs,W.ownsRow B 47 2 (.slice (some (ah g 0)) n cap) n xs∧iy w0 xs R
theorem Rest.next {w0:World} {B g cap n:Nat} {W w1:World} {R:List Zp} (h:Rest w0 B g cap n W R) (hb:Below W W w1):Rest w0 B g cap n w1 R:=by
 obtain ⟨h0,xs,h1,h2⟩:=h;exact ⟨h0,xs,aL h1 hb,h2⟩
theorem Rest.at {w0:World} {B g cap n:Nat} {W:World} {R:List Zp} (h:Rest w0 B g cap n W R) {j:Nat} (hj:j<R.length):B≤g∧g<W.heap.size∧W.frozen? ⟨g,j*2+1,none⟩=false∧W.cell? ⟨g,j*2+1,none⟩=some (.int .i64 R[j].2)∧∃ a c,W.cell? ⟨g,j*2,none⟩=some (.slice a R[j].1.length c)∧aZ w0 a R[j].1:=by
 obtain ⟨h0,xs,h1,h2⟩:=h;obtain ⟨a,c,e0,e1,e2⟩:=h2.2 j hj;have hl:=h1.lt g rfl;refine ⟨hl.1,hl.2,h1.frozenAt _,?_,a,c,?_,e2⟩
 ·rw [h1.cellAt _ ag]; exact e1
 ·rw [h1.cellAt _ ag]; exact e0
theorem FB {W:World} {xs:List Value} {l:List Zp} (h:iy W xs l) (b:Nat) (hb:b<l.length) (z:Int):iy W (xs.set (b*2+1) z) (l.set b (l[b].1,z)):=by
 have lx:=h.1;refine ⟨by simpa using lx,fun i hi=>?_⟩;have hi0:i<l.length:=by simpa using hi
 obtain ⟨a',c',h1,h2,h3⟩:=h.2 i hi0;by_cases e:i=b
 ·subst e;simp only [List.getElem_set_self];refine ⟨a',c',?_,?_,h3⟩
  ·rw [MQ ag]; exact h1
  ·rw [List.getElem?_set_self ag]
 ·rw [NF (fun e'=>e e'.symm)];refine ⟨a',c',?_,?_,h3⟩
  ·rw [MQ ag]; exact h1
  ·rw [MQ ag]; exact h2
theorem Rest.set {w0:World} {B g cap n:Nat} {W:World} {R:List Zp} (h:Rest w0 B g cap n W R) {b:Nat} (hb:b<R.length) (z:Int):Rest w0 B g cap n (W.setCell ⟨g,b*2+1,none⟩ z) (R.set b (R[b].1,z)):=by
 obtain ⟨h0,xs,h1,h2⟩:=h;exact ⟨by rw [List.length_set]; exact h0,_,(h1.stored (b*2+1) z).1,FB h2 b hb z⟩
theorem EU (z:Array Value) (hz:z = #[.slice none 0 0,.int .i64 0]) (m j:Nat) (u:Value) (h:(Builtin.zeroCells z m)[j*2]? = some u):u = .slice none 0 0:=by
 subst hz;unfold Builtin.zeroCells at h;simp at h;obtain ⟨k,h1,rfl⟩:=h;obtain ⟨_,e⟩:=Array.getElem?_eq_some_iff.1 h1;have e:j*2=k:=by simpa using e
 subst e;simp [Nat.mul_mod_left]
theorem oy {P:Program} {w:World} {ops:Array Oper} {rest:List Oper} {o:Oper} {a:Act} {Q:Exit→Act→World→Prop} (hgd:o.guard=none) (s x:Operand) (t:TypeId)
  (ho:o.op = .call { callee:=.builtin .append,args:=#[s,x],argTypes:=#[t,t] })
  (base:Nat) (e:TypeId) (i:TypeInfo) (ht:P.underlying t=some (.slice e)) (hi:P.info? e=some i) (hz:i.zero=some (.agg #[bX,aD]))
  (hsize:i.size=2) (hby:i.bytes=32)
  (g0:Nat) (hs:a.eval s = .slice (some (ah g0 0)) 0 0) (hown:w.ownsRow base e 2 (.slice (some (ah g0 0)) 0 0) 0 [])
  (ao:Option Addr) (m c:Nat) (news:List Value) (hx:a.eval x = .slice ao m c) (hr:Raw w ao m 2 news) (hev:∀ j u,news[j*2]? = some u→∃ a n c,u = .slice a n c)
  (hm:m≤400) (hbase:base≤w.heap.size)
  (h:∀ g cap w',w'.ownsRow base e 2 (.slice (some (ah g 0)) m cap) m news→w.grownBy w' (some g0)→j6 w' g∨m=0→wpList P ops Q rest (a.put o.dst (.slice (some (ah g 0)) m cap)) w'):wpList P ops Q (o :: rest) a w:=by
 by_cases h0:m=0
 ·subst h0;have hn:news = []:=MH (by simpa using hr.len);subst hn;refine ik w hgd s x t ho base e i 2 ht hi hsize g0 0 0 [] hs hown ao 0 c [] hx hr (Mx _) ?_;intro w' o' g';exact h g0 0 w' (by simpa using o') g' (.inr rfl)
 ·rcases ao with _ | ad
  ·exact absurd (hr.nil rfl) h0
  have hl:news.length=m*i.size:=by rw [hsize]; exact hr.len
  have hge:=grownCap_ge w (0+m) 0 e;have hcm:grownCap w (0+m) 0 e≤maxLen:=grownCap_le_maxLen w (0+m) 0 e (by unfold maxLen; omega);have hrun:=run_append_grow (P:=P) w t o.type e i _ ht hi hz (ah g0 0) 0 0 [] (by simp) (fun j v hj=>by simp at hj) ad m c news hl (hr.at_ ad rfl) ag ag (growslice_fits ag (by rw [hby]; omega));refine wpList_plain hgd fun K hK=>?_
  unfold Oper.wp execOp;simp only [ho,resolve,invoke,builtin,Sem.run_bind,Sem.run_pure,Result.andThen_ok,List.map_toArray,Oe,List.map_nil,hs,hx,hrun];generalize hcap:grownCap w (0+m) 0 e=cap at *;simp only [MG] at hge hK ⊢;have hnl:=hr.len
  have hcur:(w.drew.alloc (.cells (([]:List Value).toArray ++ news.toArray ++ Builtin.zeroCells (Value.agg #[bX,aD]).cells (cap - m)) e)).heap[w.heap.size]? = some (.cells (([]:List Value).toArray ++ news.toArray ++ Builtin.zeroCells (Value.agg #[bX,aD]).cells (cap - m)) e (0,0)):=heap_alloc_new w.drew _;refine hK _ _ (h w cap _ ⟨by simpa using hnl,.inr ⟨w.heap.size,cap,_,rfl,hbase,hcur,hge,hcm,?_,?_⟩⟩ ⟨rfl,rfl,rfl,by simp,fun k hk _=>heap_alloc_old w.drew _ hk⟩ (.inl ?_))
  ·simp only [Array.size_append,List.size_toArray,size_zeroCells,hnl,Od];show 0+m*2+(cap - m)*2=cap*2;omega
  ·simp only [Array.toList_append,List.nil_append];rw [← hnl];exact List.take_left
  ·intro j u hu;rw [cell_of_row _ w (j*2) _ e (0,0) hcur] at hu;simp only [Array.getElem?_append,List.size_toArray,Array.size_append,Od,MG] at hu
   split at hu
   ·split at hu
    ·simp at hu
    ·exact hev j u (by simpa using hu)
   ·rename_i hge'
    rw [hnl,show j*2 - m*2=(j - m)*2 by omega] at hu;exact ⟨_,_,_,EU _ rfl (cap - m) (j - m) u hu⟩
end Go.Proofs.YtoefpglknaiaeaaGreat
namespace Go.Proofs.YtoefpglknaiaeaaGreat
open Go.RowKit
def BC:List Kp→Int
 | []=>0
 | x :: r=>x.2.2+BC r
def yk:List Vl→Int:=fun _=>1
theorem pR:∀ (l:List Kp),(∀ x ∈ l,0<x.2.2)→(∀ q,wt (cZ 0 l) q=0)∧Fp yk (cZ 0 l)=0
 | [],_=>⟨fun _=>rfl,rfl⟩
 | x :: r,h=>by
  have hx:=h x (by simp)
  obtain ⟨h1,h2⟩:=pR r fun y hy=>h y (by simp [hy])
  have e:cZ 0 (x :: r)=(x.2.1,0) :: cZ 0 r:=by
   rw [cZ,show min x.2.2 0=0 by omega]; rfl
  rw [e];refine ⟨fun q=>?_,?_⟩
  ·rw [wt,h1]; simp
  ·rw [Fp,h2]; simp
theorem Kq {l:List Kp} {n:Int} {q:List Vl} (h:∀ x ∈ l,aF x.2.1 q≠0):wt (cZ n l) q=0:=by
 induction l generalizing n with
 | nil=>rfl
 | cons x r ih =>
  rw [cZ,wt,ih fun y hy=>h y (by simp [hy]),if_neg (h x (by simp))];rfl
theorem nt.irrefl (x:Kp):¬ nt x x:=fun h=>nt.not h h
theorem uR:∀ (l:List Kp) (n:Int),0≤n→(∀ x ∈ l,0<x.2.2)→l.Pairwise nt→l.Pairwise (fun x y=>aF x.2.1 y.2.1≠0) →
  Fp yk (cZ n l)=min n (BC l)∧∀ X ∈ l,0≤wt (cZ n l) X.2.1∧wt (cZ n l) X.2.1≤X.2.2∧(wt (cZ n l) X.2.1<X.2.2→Fp yk (cZ n l)=n∧∀ Y ∈ l,nt X Y→wt (cZ n l) Y.2.1=0)
 | [],n,hn,_,_,_=>⟨by simp [cZ,Fp,BC]; omega,fun X hX=>by simp at hX⟩
 | H :: R,n,hn,hp,hs,hd=>by
  have h0:=hp H (by simp)
  obtain ⟨s1,s2⟩:=List.pairwise_cons.1 hs
  obtain ⟨d1,d2⟩:=List.pairwise_cons.1 hd
  have hpR:∀ x ∈ R,0<x.2.2:=fun x hx=>hp x (by simp [hx])
  obtain ⟨i1,i2⟩:=uR R (n - min H.2.2 n) ag hpR s2 d2
  have hsum:0≤BC R:=by
   have aux:∀ l:List Kp,(∀ x ∈ l,0<x.2.2)→0≤BC l:=by
    intro l
    induction l with
    | nil=>intro _; exact Int.le_refl _
    | cons x r ih=>intro h; have:=h x (by simp); have:=ih fun y hy=>h y (by simp [hy]); rw [BC]; omega
   exact aux R hpR
  have hT:Fp yk (cZ n (H :: R))=min H.2.2 n+Fp yk (cZ (n - min H.2.2 n) R):=by
   rw [cZ,Fp]; simp [yk]
  have hH:wt (cZ n (H :: R)) H.2.1=min H.2.2 n:=by
   rw [cZ,wt,Kq fun x hx h=>d1 x hx (by have:=bm H.2.1 x.2.1; omega),if_pos (fm _)];simp
  have hX:∀ X ∈ R,wt (cZ n (H :: R)) X.2.1=wt (cZ (n - min H.2.2 n) R) X.2.1:=fun X hX=>by
   rw [cZ,wt,if_neg (d1 X hX)]; simp
  refine ⟨by rw [hT,i1,BC]; omega,fun X hXm=>?_⟩;rcases List.mem_cons.1 hXm with rfl | hXm'
  ·rw [hH];refine ⟨by omega,by omega,fun hlt=>?_⟩;have e:n - min X.2.2 n=0:=by omega
   obtain ⟨z1,z2⟩:=pR R hpR;refine ⟨by rw [hT,e,z2]; omega,fun Y hY hst=>?_⟩;rcases List.mem_cons.1 hY with rfl | hY
   ·exact absurd hst (nt.irrefl _)
   ·rw [hX Y hY,e,z1]
  ·rw [hX X hXm'];obtain ⟨j1,j2,j3⟩:=i2 X hXm';refine ⟨j1,j2,fun hlt=>?_⟩;obtain ⟨k1,k2⟩:=j3 hlt;refine ⟨by rw [hT,k1]; omega,fun Y hY hst=>?_⟩;rcases List.mem_cons.1 hY with rfl | hY
   ·exact absurd hst (fun h=>nt.not h (s1 X hXm'))
   ·rw [hX Y hY]; exact k2 Y hY hst
def Kj:List Zp→Int
 | []=>0
 | x :: r=>(if 0<x.2 then x.2 else 0)+Kj r
theorem zI {xs:List Ex} {z:List Zp} (h:fh z):(aY xs z).Pairwise fun x y=>aF x.2.1 y.2.1≠0:=by
 refine List.Perm.pairwise ((gm xs z).symm) ?_ ?_
 ·exact (lE h).imp fun hr=>by omega
 ·intro x y hxy hyx;have:=bm x.2.1 y.2.1;omega
structure LF (cols:List Int) (key:Int) (n:Int) (z t:List Zp):Prop where
 k0:0≤key
 k1:key<cols.length
 n0:0≤n∧n≤50
 Mj:gN cols z
 set:gJ t
 len:t.length≤400
 row:∀ y ∈ t,1≤y.2∧y.2≤wt z y.1∧y.1.length=cols.length
 w6:∀ y ∈ t,y.2≤1000000
 kind:∀ y ∈ t,1≤(y.1.getD key.toNat gX).1∧(y.1.getD key.toNat gX).1≤4
 Mb:∀ y ∈ z,1≤(y.1.getD key.toNat gX).1∧(y.1.getD key.toNat gX).1≤4
 sum:Fp yk t=min n (Kj z)
 rest:∀ r ∈ z,0<r.2→wt t r.1<r.2→Fp yk t=n∧∀ y ∈ t,0≤dP (r.1.getD key.toNat gX) (y.1.getD key.toNat gX)
theorem Ca {l:List Zp} {q:List Vl} (h:wt l q≠0):∃ x ∈ l,aF x.1 q=0:=by
 induction l with
 | nil=>exact absurd rfl h
 | cons x r ih =>
  by_cases c:aF x.1 q=0
  ·exact ⟨x,by simp,c⟩
  ·rw [wt,if_neg c] at h;obtain ⟨y,hy,e⟩:=ih (by simpa using h);exact ⟨y,by simp [hy],e⟩
theorem zG:∀ {a b:List Vl},aF a b=0→a.length=b.length
 | [],[],_=>rfl
 | [],_ :: _,h=>by simp [aF] at h
 | _ :: _,[],h=>by simp [aF] at h
 | x :: r,y :: t,h=>by
  rw [aF] at h
  split at h
  ·rw [Ng,Ng,zG h]
  ·rename_i c; exact absurd h c
theorem Jq {v:Vl} (h:aJ v=0):1≤v.1∧v.1≤4:=by
 unfold aJ aO at h
 split at h
 ·omega
 ·omega
def Scan (xs:List Ex) (R:List Zp) (i:Nat):Option Nat→Prop
 | none=>∀ j (_:j<R.length),j<i→R[j].2≤0
 | some b=>∃ hb:b<R.length,b<i∧0<R[b].2∧∀ j (_:j<R.length),j<i→j≠b→0<R[j].2→aF (bp xs R[b].1) (bp xs R[j].1)<0∨(aF (bp xs R[b].1) (bp xs R[j].1)=0∧b<j)
theorem Scan.nil (xs:List Ex) (R:List Zp):Scan xs R 0 none:=fun _ _ h=>absurd h (M9 _)
theorem Scan.skip {xs:List Ex} {R:List Zp} {i:Nat} {b:Option Nat} (h:Scan xs R i b) (hi:i<R.length) (h0:R[i].2≤0):Scan xs R (i+1) b:=by
 cases b with
 | none =>
  intro j hj hlt;by_cases e:j=i
  ·subst e; exact h0
  ·exact h j hj ag
 | some b =>
  obtain ⟨hb,h1,h2,h3⟩:=h;refine ⟨hb,by omega,h2,fun j hj hlt hne hp=>?_⟩;by_cases e:j=i
  ·subst e; omega
  ·exact h3 j hj ag hne hp
theorem Scan.first {xs:List Ex} {R:List Zp} {i:Nat} (h:Scan xs R i none) (hi:i<R.length) (h0:0<R[i].2):Scan xs R (i+1) (some i) :=
 ⟨hi,by omega,h0,fun j hj hlt hne hp=>by have:=h j hj ag; omega⟩
theorem Scan.less {xs:List Ex} {R:List Zp} {i b:Nat} (h:Scan xs R i (some b)) (hi:i<R.length) (hb:b<R.length) (h0:0<R[i].2) (hc:aF (bp xs R[i].1) (bp xs R[b].1)<0):Scan xs R (i+1) (some i):=by
 obtain ⟨_,h1,h2,h3⟩:=h;refine ⟨hi,by omega,h0,fun j hj hlt hne hp=>.inl ?_⟩;by_cases e:j=b
 ·subst e; exact hc
 ·exact dD hc (by rcases h3 j hj ag e hp with h | ⟨h,_⟩ <;> omega)
theorem Scan.nM {xs:List Ex} {R:List Zp} {i b:Nat} (h:Scan xs R i (some b)) (hi:i<R.length) (hb:b<R.length) (hc:¬ aF (bp xs R[i].1) (bp xs R[b].1)<0):Scan xs R (i+1) (some b):=by
 obtain ⟨_,h1,h2,h3⟩:=h;refine ⟨hb,by omega,h2,fun j hj hlt hne hp=>?_⟩;by_cases e:j=i
 ·subst e;have:=bm (bp xs R[j].1) (bp xs R[b].1);by_cases c:aF (bp xs R[b].1) (bp xs R[j].1)=0
  ·exact .inr ⟨c,h1⟩
  ·exact .inl ag
 ·exact h3 j hj ag hne hp
theorem jk (xs:List Ex) (a b:List Zp):dq xs (a ++ b)=dq xs a ++ dq xs b:=by
 unfold dq;rw [Ob,Nc]
theorem uT (xs:List Ex) (p:Zp):dq xs [p]=if 0<p.2 then [(bp xs p.1,p)] else []:=by
 unfold dq;by_cases h:0<p.2
 ·rw [if_pos h]; simp [h]
 ·rw [if_neg h]; simp [h]
theorem FJ {α:Type} (l:List α) (b:Nat) (h:b<l.length):l=l.take b ++ ([l[b]] ++ l.drop (b+1)):=by
 rw [List.singleton_append,← MI h,List.take_append_drop]
theorem DV {α:Type} (l:List α) (b:Nat) (h:b<l.length) (x:α):l.set b x=l.take b ++ ([x] ++ l.drop (b+1)):=by
 rw [List.set_eq_take_append_cons_drop,if_pos h]; rfl
structure mA (cols:List Int) (xs:List Ex) (z:List Zp) (n c:Int) (R pre:List Zp) (L:List Kp):Prop where
 perm:(dq xs R).Perm L
 sorted:L.Pairwise nt
 pos:∀ x ∈ L,0<x.2.2
 i7:fh R
 fit:∀ y ∈ R,dX cols y.1
 small:∀ y ∈ R,-1000000≤y.2∧y.2≤1000000
 c0:0≤c
 len:(pre.length:Int)+c=n
 right:∀ y ∈ pre,y.2=1∧dX cols y.1
 LM:∀ q,wt (cZ n (aY xs z)) q=wt pre q+wt (cZ c L) q
theorem mA.start {cols:List Int} {xs:List Ex} {z:List Zp} {n:Int} (h:gN cols z) (h0:0≤n):mA cols xs z n n z [] (aY xs z):=by
 have hr:fh z:=((cq z).1 h.set).2.2;exact ⟨(gm xs z).symm,gM hr,fun x hx=>(dL.1 hx).1.2,hr,h.fit,fun y hy=>by have:=jb h y hy; rwa [cK] at this,h0,by simp,fun y hy=>by simp at hy,fun q=>by simp [wt]⟩
theorem mA.head {cols:List Int} {xs:List Ex} {z:List Zp} {n c:Int} {R pre:List Zp} {L:List Kp} (h:mA cols xs z n c R pre L) {b:Nat} (hb:b<R.length) (hs:Scan xs R R.length (some b)):∃ T,L=(bp xs R[b].1,R[b]) :: T:=by
 obtain ⟨_,_,h2,h3⟩:=hs;have hm:((bp xs R[b].1,R[b]):Kp) ∈ L:=(h.perm.mem_iff).1 (by
  unfold dq;exact List.mem_map.2 ⟨R[b],List.mem_filter.2 ⟨MC hb,by simpa using h2⟩,rfl⟩)
 cases hL:L with
 | nil=>rw [hL] at hm; simp at hm
 | cons X T =>
  refine ⟨T,?_⟩;rw [hL] at hm;rcases List.mem_cons.1 hm with e | hT
  ·rw [e]
  ·exfalso;have hs:=h.sorted;rw [hL] at hs;have hst:=(List.pairwise_cons.1 hs).1 _ hT;have hX:X ∈ dq xs R:=(h.perm.mem_iff).2 (by rw [hL]; simp);unfold dq at hX;obtain ⟨p,hp,rfl⟩:=List.mem_map.1 hX;obtain ⟨hp1,hp2⟩:=List.mem_filter.1 hp;obtain ⟨j,hj,rfl⟩:=No hp1;by_cases e:j=b
   ·subst e; exact nt.irrefl _ hst
   ·refine nt.not hst ?_;rcases h3 j hj hj e (by simpa using hp2) with hc | ⟨hc,hlt⟩
    ·exact .inl hc
    ·exact .inr ⟨hc,List.pairwise_iff_getElem.1 h.i7 b j hb hj hlt⟩
theorem kR (c:Int) (X:Kp) (T:List Kp) (q:List Vl):wt (cZ c (X :: T)) q=(if aF X.2.1 q=0 then min X.2.2 c else 0)+wt (cZ (c - min X.2.2 c) T) q:=by
 rw [cZ,wt]
theorem mA.step {cols:List Int} {xs:List Ex} {z:List Zp} {n c:Int} {R pre:List Zp} {L:List Kp} (h:mA cols xs z n c R pre L) {b:Nat} (hb:b<R.length) (hs:Scan xs R R.length (some b)) (hc:0<c):∃ L',mA cols xs z n (c - 1) (R.set b (R[b].1,R[b].2 - 1)) (pre ++ [(R[b].1,1)]) L':=by
 obtain ⟨T,rfl⟩:=h.head hb hs;have hp:0<R[b].2:=by obtain ⟨_,_,h2,_⟩:=hs; exact h2
 have hwb:=h.small _ (MC hb);have hfb:=h.fit _ (MC hb);have hw:dq xs R=dq xs (R.take b) ++ ([((bp xs R[b].1,R[b]):Kp)] ++ dq xs (R.drop (b+1))):=by
  have e:=congrArg (dq xs) (FJ R b hb);rw [jk,jk,uT,if_pos hp] at e;exact e
 have e0:=h.perm;rw [hw] at e0;have e1:(dq xs (R.take b) ++ dq xs (R.drop (b+1))).Perm T:=by
  have e2:(dq xs (R.take b) ++ ([((bp xs R[b].1,R[b]):Kp)] ++ dq xs (R.drop (b+1)))).Perm ((bp xs R[b].1,R[b]) :: (dq xs (R.take b) ++ dq xs (R.drop (b+1)))):=List.perm_middle;exact (List.perm_cons _).1 (e2.symm.trans e0)
 have hsT:=(List.pairwise_cons.1 h.sorted)
 have hmem:∀ y ∈ R.set b (R[b].1,R[b].2 - 1),y ∈ R∨y=(R[b].1,R[b].2 - 1):=fun y hy=>List.mem_or_eq_of_mem_set hy
 have hrise:fh (R.set b (R[b].1,R[b].2 - 1)):=by
  refine List.pairwise_iff_getElem.2 fun i j hi hj hij=>?_
  have hi':i<R.length:=by simpa using hi
  have hj':j<R.length:=by simpa using hj
  have e:∀ k (hk:k<R.length),((R.set b (R[b].1,R[b].2 - 1))[k]'(by simpa using hk)).1=R[k].1:=fun k hk=>by
   rw [List.getElem_set]
   split
   ·rename_i e; subst e; rfl
   ·rfl
  rw [e i hi',e j hj'];exact List.pairwise_iff_getElem.1 h.i7 i j hi' hj' hij
 have base:∀ L':List Kp,(dq xs (R.set b (R[b].1,R[b].2 - 1))).Perm L'→L'.Pairwise nt→(∀ x ∈ L',0<x.2.2)→(∀ q,wt (cZ c ((bp xs R[b].1,R[b]) :: T)) q=(if aF R[b].1 q=0 then 1 else 0)+wt (cZ (c - 1) L') q)→mA cols xs z n (c - 1) (R.set b (R[b].1,R[b].2 - 1)) (pre ++ [(R[b].1,1)]) L':=fun L' h1 h2 h3 h4=>by
  refine ⟨h1,h2,h3,hrise,fun y hy=>?_,fun y hy=>?_,by omega,?_,fun y hy=>?_,fun q=>?_⟩
  ·rcases hmem y hy with hy | rfl
   ·exact h.fit y hy
   ·exact hfb
  ·rcases hmem y hy with hy | rfl
   ·exact h.small y hy
   ·exact ⟨by show -1000000≤R[b].2 - 1; omega,by show R[b].2 - 1≤1000000; omega⟩
  ·have:=h.len; simp; omega
  ·rcases List.mem_append.1 hy with hy | hy
   ·exact h.right y hy
   ·rw [List.mem_singleton.1 hy]; exact ⟨rfl,hfb⟩
  ·rw [h.LM q,h4 q,cL];have:wt [((R[b].1,1):Zp)] q=if aF R[b].1 q=0 then 1 else 0:=by simp [wt]
   rw [this]; omega
 have hper:(dq xs (R.set b (R[b].1,R[b].2 - 1))).Perm ((if 0<R[b].2 - 1 then [((bp xs R[b].1,(R[b].1,R[b].2 - 1)):Kp)] else []) ++ T):=by
  rw [DV R b hb,jk,jk,uT];refine (List.Perm.trans ?_ (e1.append_left _));rw [← Nh,← Nh];exact List.perm_append_comm.append_right _
 by_cases h1:0<R[b].2 - 1
 ·rw [if_pos h1] at hper;refine ⟨_,base _ hper (List.pairwise_cons.2 ⟨fun y hy=>hsT.1 y hy,hsT.2⟩) (fun x hx=>?_) fun q=>?_⟩
  ·rcases List.mem_append.1 hx with hx | hx
   ·rw [List.mem_singleton.1 hx]; exact h1
   ·exact h.pos x (List.mem_cons_of_mem _ hx)
  ·rw [kR,List.singleton_append,kR];simp only;have e:c - min R[b].2 c=c - 1 - min (R[b].2 - 1) (c - 1):=by omega
   rw [e]
   split <;> omega
 ·rw [if_neg h1] at hper;refine ⟨_,base _ hper (by simpa using hsT.2) (fun x hx=>h.pos x (List.mem_cons_of_mem _ (by simpa using hx))) fun q=>?_⟩;rw [kR,List.nil_append];simp only;have e:min R[b].2 c=1:=by omega
  rw [e]
theorem mA.none {cols:List Int} {xs:List Ex} {z:List Zp} {n c:Int} {R pre:List Zp} {L:List Kp} (h:mA cols xs z n c R pre L) (hs:Scan xs R R.length none):canon pre=canon (cZ n (aY xs z)):=by
 have e:dq xs R = []:=by
  unfold dq;rw [List.map_eq_nil_iff,List.filter_eq_nil_iff];intro y hy;obtain ⟨j,hj,rfl⟩:=No hy;have:=hs j hj hj;simp; omega
 have hL:L = []:=by have:=h.perm; rw [e] at this; exact this.symm.eq_nil
 refine iS fun q=>?_
 rw [h.LM q,hL];simp [cZ,wt]
theorem mA.all {cols:List Int} {xs:List Ex} {z:List Zp} {n:Int} {R pre:List Zp} {L:List Kp} (h:mA cols xs z n 0 R pre L):canon pre=canon (cZ n (aY xs z)):=by
 refine iS fun q=>?_
 rw [h.LM q,(pR L h.pos).1 q];omega
theorem AS {cols:List Int} {xs:List Ex} {z:List Zp} {n:Int} (h:gN cols z) (h0:0≤n):aR (cZ n (aY xs z))=0:=by
 have hr:fh z:=((cq z).1 h.set).2.2;have hpos:∀ x ∈ aY xs z,0<x.2.2:=fun x hx=>(dL.1 hx).1.2
 obtain ⟨_,t2⟩:=uR (aY xs z) n h0 hpos (gM hr) (zI hr);have hmem:=sL n (aY xs z) h0 hpos;have hset:gJ (canon (cZ n (aY xs z))):=eM _;unfold aR;rw [if_neg,if_neg]
 ·have h1:(canon (cZ n (aY xs z))).length≤(cZ n (aY xs z)).length:=eY _;rw [yR] at h1;have:=jv xs z;have:=dg h;omega
 ·intro ho;have:∃ y ∈ canon (cZ n (aY xs z)),gV y.2=false:=by
   unfold lS at ho
   simpa using ho
  obtain ⟨y,hy,hw⟩:=this;have e1:=sW hset.i7 y hy;rw [gS] at e1;obtain ⟨x,hx,e2⟩:=Ca (l:=cZ n (aY xs z)) (q:=y.1) (by rw [e1]; exact hset.ne y hy);obtain ⟨⟨X,hX,e3⟩,_⟩:=hmem x hx;obtain ⟨j1,j2,_⟩:=t2 X hX;have e4:wt (cZ n (aY xs z)) X.2.1=y.2:=by rw [← e1,← e3]; exact jz e2 _
  have:=jb h X.2 (dL.1 hX).1.1;rw [cK] at this;have hin:gV y.2=true:=by rw [cK]; omega
  rw [hin] at hw;cases hw
open Go.Lib Go.Shelf _root_.Go.Proofs.Tryz
def K7:Option Nat→Int
 | none=>-1
 | some b=>b
theorem mA.Mq {cols:List Int} {xs:List Ex} {z:List Zp} {n c:Int} {R pre:List Zp} {L:List Kp} (h:mA cols xs z n c R pre L) (hn:n≤50):iL 50 pre :=
 ⟨by have:=h.len; have:=h.c0; omega,fun y hy=>by obtain ⟨e,f⟩:=h.right y hy; rw [e]; exact ⟨mP f,by decide,by decide⟩⟩
theorem od {cols:List Int} {xs:List Ex} {row:List Vl} (hl:bM cols xs=0) (hf:dX cols row):bZ (bp xs row)=true:=by
 obtain ⟨_,lt⟩:=kG hl;unfold bZ bp;rw [List.all_map,NZ];intro e he;have:=(lH hf e _ (mw (lt e he))).1
 simpa [aJ] using this
theorem Hz {cols:List Int} {row:List Vl} (h:dX cols row) (hc:cols.length≤8):row.length≤8:=by rw [h.len]; exact hc
theorem DZ (cols:List Int) (xs:List Ex) (n:Int) (hn64:-9223372036854775808≤n∧n≤9223372036854775807) (ca:Option Addr) (ccap:Nat) (xa:Option Addr) (xcap:Nat) (a:Option Addr) (cap:Nat) (l:List Zp) (w:World) (hc:bf w w ca cols) (hx:aU w w xa xs) (h:aK w a l) :
  Calls prog 108 #[.slice ca cols.length ccap,.slice xa xs.length xcap,n,.slice a l.length cap] w fun e w'=>∃ v,e = .returned (.tuple #[v,.int .i64 (jU cols xs n l)])∧(∃ ua uc,v = .slice ua (lY cols xs n l).length uc∧aK w' ua (lY cols xs n l))∧Below w w w':=by
 obtain ⟨i0,hi,hj0,hj1,hj2⟩:=info_parts Tryz.fK;have con:=my cols xs ca ccap xa xcap w hx hc;generalize hfz:lY cols xs n l=fz;generalize hfe:jU cols xs n l=fe;have HZ:=aB hfz;have HE:=aB hfe;clear hfz hfe;generalize hte:bM cols xs=te at con;have HTe:=aB hte;clear hte;go_enter func108,ntmps108;go_wp2_with fail
 refine con.mono ?_;rintro e w2 ⟨u,rfl,hA2⟩;clear con;dsimp only;by_cases ht:te=0
 ·subst ht;by_cases hr:n<0∨50<n
  ·have e0:fe=3:=by rw [← HE.out]; unfold jU; rw [HTe.out,if_neg (by simp),if_pos hr]
   have e1:fz = []:=by rw [← HZ.out]; unfold lY; rw [HE.out,e0,if_neg (by decide)]
   subst e0 e1;by_cases hr1:n<0;rotate_left;have hr2:50<n:=by omega
   all_goals
    go_wp2_with fail
    first
     | exact bJ rfl rfl ⟨_,rfl,⟨_,_,rfl,⟨by simp,.inl rfl⟩⟩,hA2⟩
     | exact bJ rfl rfl ⟨_,rfl,⟨_,⟨_,rfl⟩,⟨by simp,.inl rfl⟩⟩,hA2⟩
  have hr1:¬ n<0:=fun h=>hr (.inl h)
  have hr2:¬ 50<n:=fun h=>hr (.inr h)
  have HRg:=aB hr;clear hr;have con:=eV cols ca ccap a cap l w2 ((hc.next hA2 (Mx _)).up hA2.size) (h.next hA2);generalize hie:bV cols l=ie at con;have HIe:=aB hie;clear hie;go_wp2_with fail
  refine bC con fun w3 hb3=>?_;clear con;have hA3:=chain hA2 hb3;dsimp only;by_cases hii:ie=0
  ·subst hii;have HO:=aB ((gj cols l).1 HIe.out);have hl4:=dg HO.out;have e0:fe=0:=by rw [← HE.out]; unfold jU; rw [HTe.out,HIe.out,if_neg (by simp),if_neg HRg.out,if_neg (by simp)]; exact AS HO.out ag
   have e1:fz=canon (cZ n (aY xs l)):=by rw [← HZ.out]; unfold lY; rw [HE.out,e0,if_pos rfl]
   subst e0;have HZe:=aB e1;clear HE HZ e1;have H8:Hid (cols.length≤8):=by
    have:=HIe.out;unfold bV at this;show _≤_;by_cases h8:8<cols.length
    ·rw [if_pos h8] at this; cases this
    ·omega
   obtain ⟨news,EN,one1',nil',at'⟩:=km (h.next hA3);have hbA:=aN w3 (.cells #[] 47);have O0:=Nd (e:=47) (size:=2) w3 #[] 0 (Mx _) (MD _) (by simp);have RW:Raw w3 a l.length 2 news:=⟨EN.1,one1',fun e=>by rw [nil' e]; rfl,at'⟩
   have hev:∀ j u,news[j*2]? = some u→∃ a n c,u = .slice a n c:=fun j u hu=>by
    have hjl:j<l.length:=by
     have:=(List.getElem?_eq_some_iff.1 hu).1;have:=EN.1;omega
    obtain ⟨a',c',e0,_⟩:=EN.2 j hjl;rw [e0] at hu;exact ⟨_,_,_,(Nk hu).symm⟩
   have HEv:=aB hev;have HEN:=aB EN;clear one1' nil' at' hev EN;go_wp2_with (first | (at_builtin; refine oy rfl (.tmp 39) (.tmp 40) 38 rfl w3 47 i0 underlying38 hi hj0 hj1 hj2 w3 rfl O0 a l.length cap news rfl (RW.alloc _) HEv.out hl4 (by simp) ?_))
   intro g cp w4 o4 g4 ev;have hb4:=hbA.grown g4 (by simp) (by intro k hk; cases hk; exact Mx _);have HRs:Rest w3 w3 g cp l.length w4 l:=⟨rfl,news,o4,HEN.out⟩
   have hg4:=(o4.lt g rfl).2;have hg3:=(o4.lt g rfl).1;clear o4 g4 RW O0 hbA;go_wp2_with fail
   go_loopw [2,13] (fun kk v wr=>∃ (c:Int) (R pre:List Zp) (L:List Kp),kk = .int .i64 c∧Hid (mA cols xs l n c R pre L)∧pd g wr v pre∧Rest w3 w3 g cp l.length wr R∧Hid (j6 wr g∨l.length=0)∧g<wr.heap.size∧Below w3 w3 wr) (fun kk _ _=>(intOf kk).toNat)
   case atStart=>exact ⟨n,l,[],aY xs l,rfl,mA.start HO.out ag,pd.nil _ _,HRs,(show _∨_ by rcases ev with ev | ev; exact .inl ev; exact .inr (by simpa using ev)),hg4,hb4⟩
   case round =>
    obtain ⟨c,R,pre,L,rfl,HP,HA,HRs,HEb,hgo,hbo⟩:=hrel;have hc0:=HP.out.c0;have hcn:c≤50:=by have:=HP.out.len; omega
    have hRl:=HRs.1;obtain ⟨wo,hwo⟩:∃ z,z=wr:=⟨_,rfl⟩
    subst hwo;obtain ⟨uo,huo⟩:∃ z,z=u13:=⟨_,rfl⟩
    subst huo;by_cases hpos:0<c
    ·go_wp2_with fail
     go_loopw [15,48] (fun b i wr=>∃ (j:Nat) (ob:Option Nat) (bz:Int),j≤l.length∧i = .int .i64 j∧b = .int .i64 bz∧Hid (bz=K7 ob)∧Hid (Scan xs R j ob)∧Below wo wo wr) (fun _ i _=>l.length - (intOf i).toNat)
     case atStart=>exact ⟨0,none,-1,MD _,rfl,rfl,rfl,Scan.nil _ _,Mz _ _⟩
     case round =>
      obtain ⟨j,ob,bz,hj,rfl,rfl,HB,HS,hb⟩:=hrel;by_cases hlt:j<l.length
      ·have hltR:j<R.length:=by omega
       obtain ⟨_,hgl,_,c1,ar,cr,c0,sr⟩:=(HRs.next hb).at hltR;obtain ⟨hal,q0⟩:=iV wr #[.slice ar R[j].1.length cr,.int .i64 R[j].2] 47;have hz:=hb.size;have j0:(0:Int)≤(j:Int):=by omega
       have j1:(j:Int)<(l.length:Int):=by omega
       by_cases hw:R[j].2≤0
       ·go_wp2_with fail
        go_roundw
        case rel=>exact ⟨j+1,ob,bz,by omega,by go_num,rfl,HB,HS.out.skip hltR hw,chain hb hal⟩
        case measure=>simp [intOf]; omega
       ·have HSr:=aB sr;clear sr;have hA:=chain hA3 (chain hbo (chain hb hal));have HFj:=aB (HP.out.fit _ (MC hltR));cases ob with
        | none =>
         have e:bz = -1:=HB.out;subst e;go_wp2_with fail
         clear c0 c1;generalize wr.alloc (.cells #[.slice ar R[j].1.length cr,.int .i64 R[j].2] 47)=wk at *;haveI:Nonempty (cF wk):=⟨⟨wk,Mz _ _⟩⟩
         refine aq aG aG ?_
         repeat (go_big_quiet_step (fail))
         refine wpQuiet_nil ?_;rintro w7 ⟨⟨v7,hb7⟩,h7⟩;obtain rfl:w7=v7:=h7;have B7:=chain hb (chain hal hb7);clear hA q0;go_wp2_with fail
         go_roundw
         case rel=>exact ⟨j+1,some j,j,by omega,by go_num,rfl,rfl,HS.out.first hltR ag,B7⟩
         case measure=>simp [intOf]; omega
        | some b =>
         have e:bz=(b:Int):=HB.out;subst e;obtain ⟨hbR,hbj,_,_⟩:=HS.out;have hbl:b<l.length:=by omega
         obtain ⟨_,_,_,_,br,bc,d0,tr⟩:=(HRs.next hb).at hbR;have HTr:Hid (aZ w3 br R[b].1):=tr;have HFb:Hid (dX cols R[b].1):=HP.out.fit _ (MC hbR);have d0':(wr.alloc (.cells #[.slice ar R[j].1.length cr,.int .i64 R[j].2] 47)).cell? ⟨g,b*2,none⟩=some (.slice br R[b].1.length bc):=(hal.cell (p:=⟨g,b*2,none⟩) hgl).trans d0;have b0:(0:Int)≤(b:Int):=by omega
         have b1:(b:Int)<(l.length:Int):=by omega
         have b2:¬ (b:Int)<0:=by omega
         clear tr d0;go_wp2_with fail
         clear c0 c1;generalize wr.alloc (.cells #[.slice ar R[j].1.length cr,.int .i64 R[j].2] 47)=wk at *;have hCC:∀ W W':World,(W.heap[wr.heap.size]? = some (.cells #[.slice ar R[j].1.length cr,.int .i64 R[j].2] 47 (0,0))∧W.cell? ⟨g,b*2,none⟩=some (.slice br R[b].1.length bc))→Below W W W'→(W'.heap[wr.heap.size]? = some (.cells #[.slice ar R[j].1.length cr,.int .i64 R[j].2] 47 (0,0))∧W'.cell? ⟨g,b*2,none⟩=some (.slice br R[b].1.length bc)):=fun W W' h hb=>⟨(hb.block _ (an h.1)).trans h.1,(hb.cell (ML _ _ h.2)).trans h.2⟩
         have hd:Below wk wk wk.drew:=(Mz _ _).drew;have CW:(wk.drew.heap[wr.heap.size]? = some (.cells #[.slice ar R[j].1.length cr,.int .i64 R[j].2] 47 (0,0))∧wk.drew.cell? ⟨g,b*2,none⟩=some (.slice br R[b].1.length bc)):=hCC _ _ ⟨q0,d0'⟩ hd;refine aP (fun W=>(W.heap[wr.heap.size]? = some (.cells #[.slice ar R[j].1.length cr,.int .i64 R[j].2] 47 (0,0))∧W.cell? ⟨g,b*2,none⟩=some (.slice br R[b].1.length bc))) aG ?_
         refine bB hCC 56 0 b (fun n hn=>?_) CW ?_
         ·go_simp
         simp only [pX];refine bB hCC 57 1 false (fun n hn=>?_) CW ?_
         ·go_simp
         simp only [pX];refine bB hCC 58 2 false (fun n hn=>?_) CW ?_
         ·go_simp
         simp only [Act.put,pA,pB,pC];refine bB hCC 59 3 (.slice xa xs.length xcap) (fun n hn=>?_) CW ?_
         ·go_simp
         simp only [Act.put,pA,pB,pC];refine bB hCC 60 4 (ah wr 0) (fun n hn=>?_) CW ?_
         ·go_simp
         simp only [Act.put,pA,pB,pC];refine bB hCC 61 5 (.slice ar R[j].1.length cr) (fun n hn=>?_) CW ?_
         ·have hc:n.cell? (ah wr 0)=some (.slice ar R[j].1.length cr):=cell_of (i:=0) hn.1 rfl;go_simp
         simp only [Act.put,pA,pB,pC];refine bB hCC 63 7 (.slice xa xs.length xcap) (fun n hn=>?_) CW ?_
         ·go_simp
         simp only [Act.put,pA,pB,pC];refine bB hCC 64 8 (.slice (some (ah g 0)) l.length cp) (fun n hn=>?_) CW ?_
         ·go_simp
         simp only [Act.put,pA,pB,pC];refine bB hCC 65 9 b (fun n hn=>?_) CW ?_
         ·go_simp
         simp only [pX];refine bB hCC 66 10 (.pointer (some ⟨g,b*2,none⟩)) (fun n hn=>?_) CW ?_
         ·go_simp
         simp only [pX];refine bB hCC 67 11 (.pointer (some ⟨g,b*2,none⟩)) (fun n hn=>?_) CW ?_
         ·go_simp
         simp only [pX];refine bB hCC 68 12 (.slice br R[b].1.length bc) (fun n hn=>?_) CW ?_
         ·have hc:=hn.2;go_simp
         simp only [pX];refine gp 6 aG fun w5 hb5=>?_
         have CW5:=hCC _ _ CW hb5;have D5:=chain hd hb5;have A5:=chain hA D5;have G5:=chain hbo (chain hb (chain hal D5));have con:=gP (cols:=cols) xs HTe.out R[j].1 HFj.out xa xcap ar cr w5 ((aU.next A5 (Mx _) hx).up A5.size) (HSr.out.next G5);refine wpOp_step rfl (fun K hK=>?_);go_simp;refine con.mono ?_;rintro e w6 ⟨v6,rfl,O6,hb6⟩;clear con;obtain ⟨a6,c6,rfl,S6,T6,_⟩:=dQ O6 (by simp [bp]);have CW6:=hCC _ _ CW5 hb6;have D6:=chain D5 hb6;refine hK _ _ ⟨CW6,?_⟩;clear hK K O6 T6
         refine gp 13 aG fun w7 hb7=>?_
         have CW7:=hCC _ _ CW6 hb7;have D7:=chain D6 hb7;have A7:=chain hA D7;have G7:=chain hbo (chain hb (chain hal D7));have con:=gP (cols:=cols) xs HTe.out R[b].1 HFb.out xa xcap br bc w7 ((aU.next A7 (Mx _) hx).up A7.size) (HTr.out.next G7);refine wpOp_step rfl (fun K hK=>?_);go_simp;refine con.mono ?_;rintro e w8 ⟨v8,rfl,O8,hb8⟩;clear con;obtain ⟨a8,c8,rfl,S8,T8,_⟩:=dQ O8 (by simp [bp]);have CW8:=hCC _ _ CW7 hb8;have D8:=chain D7 hb8;refine hK _ _ ⟨CW8,?_⟩;clear hK K O8 T8
         refine gp 14 aG fun w9 hb9=>?_
         have CW9:=hCC _ _ CW8 hb9;have D9:=chain D8 hb9;have con:=eW a6 a8 c6 c8 (bp xs R[j].1) (bp xs R[b].1) w9 (S6.next (chain hb7 (chain hb8 hb9))) (S8.next hb9) (od HTe.out HFj.out);generalize hcm:aF (bp xs R[j].1) (bp xs R[b].1)=cm at *;have HCm:=aB hcm;clear hcm;refine wpOp_step rfl (fun K hK=>?_);go_simp;refine bC con fun wA hbA=>?_;clear con;have CWA:=hCC _ _ CW9 hbA;have DA:=chain D9 hbA;refine hK _ _ ⟨CWA,?_⟩;clear hK K CW5 CW6 CW7 CW8 CW9
         refine bB hCC 71 15 (.bool (decide (cm<0))) (fun n hn=>?_) CWA ?_
         ·go_simp
         simp only [pX];refine bB hCC 72 16 (.bool (decide (cm<0))) (fun n hn=>?_) CWA ?_
         ·go_simp
         simp only [pX];refine cA aG ?_;intro wB hbB;have B7:=chain hb (chain hal (chain DA hbB));clear CW CWA hbB DA D9 D8 D7 D6 D5 A7 A5 G5 G7 S6 S8 hA q0 hCC;by_cases hcl:cm<0
         ·have hdc:=decide_eq_true hcl;rw [hdc];have HN:=aB (HS.out.less hltR hbR ag (by rw [HCm.out]; exact hcl));go_wp2_with fail
          go_roundw
          case rel=>exact ⟨j+1,some j,j,by omega,by go_num,rfl,rfl,HN,B7⟩
          case measure=>simp [intOf]; omega
         ·have hdc:=decide_eq_false hcl;rw [hdc];have HN:=aB (HS.out.nM hltR hbR (by rw [HCm.out]; exact hcl));go_wp2_with fail
          go_roundw
          case rel=>exact ⟨j+1,some b,b,by omega,by go_num,rfl,rfl,HN,B7⟩
          case measure=>simp [intOf]; omega
      ·have e:j=R.length:=by omega
       have HSe:Hid (Scan xs R R.length ob):=by show Scan _ _ _ _; rw [← e]; exact HS.out
       clear HS e;cases ob with
       | none =>
        have e:bz = -1:=HB.out;subst e;have ez:fz=canon pre:=HZe.out.trans (HP.out.none HSe.out).symm;obtain ⟨av,cv,rfl,zv,lv⟩:=(HA.next hb).acc;rw [← ez] at zv lv ⊢; clear ez;have hA:=chain hA3 (chain hbo hb);clear HP HA HRs HSe HB;go_wp2_with fail
        exact MA (v:=.tuple #[.slice av fz.length cv,aD]) (by simp [results,results108,go_sem]) rfl ⟨_,rfl,⟨_,_,rfl,zv⟩,hA⟩
       | some b =>
        have e:bz=(b:Int):=HB.out;subst e;obtain ⟨hbR,_,hbp,_⟩:=HSe.out;have hbl:b<l.length:=by omega
        obtain ⟨_,hgl,fr,d1,br,bc,d0,tr⟩:=(HRs.next hb).at hbR;have HTr:Hid (aZ w3 br R[b].1):=tr;have hsm:=HP.out.small _ (MC hbR);have hl8:=Hz (HP.out.fit _ (MC hbR)) H8.out;have EB:j6 wr g:=by
         rcases HEb.out with hE | hE
         ·exact hE.next hgo hb
         ·omega
        have b0:(0:Int)≤(b:Int):=by omega
        have b1:(b:Int)<(l.length:Int):=by omega
        have b2:¬ (b:Int)<0:=by omega
        obtain ⟨L',HP'⟩:=HP.out.step hbR HSe.out hpos;have HPn:Hid (mA cols xs l n (c - 1) (R.set b (R[b].1,R[b].2 - 1)) (pre ++ [(R[b].1,1)]) L'):=HP';have HPo:Hid (iL 50 pre):=HP.out.Mq ag;have Gs:Below w3 w3 (wr.setCell ⟨g,b*2+1,none⟩ (.int .i64 (R[b].2 - 1))):=(chain hbo hb).setCell (p:=⟨g,b*2+1,none⟩) hg3 _;have RSs:=(HRs.next hb).set hbR (R[b].2 - 1);have HAs:=(HA.next hb).set EB b (.int .i64 (R[b].2 - 1));have EBs:Hid (j6 (wr.setCell ⟨g,b*2+1,none⟩ (.int .i64 (R[b].2 - 1))) g):=EB.set b _
        have d0s:(wr.setCell ⟨g,b*2+1,none⟩ (.int .i64 (R[b].2 - 1))).cell? ⟨g,b*2,none⟩=some (.slice br R[b].1.length bc):=by rw [pv]; exact d0
        have gs:g<(wr.setCell ⟨g,b*2+1,none⟩ (.int .i64 (R[b].2 - 1))).heap.size:=by simpa [World.setCell] using hgl
        clear tr HP' HP HA HRs;go_upto_region 23 with fail
        clear d0 d1 fr;generalize wr.setCell ⟨g,b*2+1,none⟩ (.int .i64 (R[b].2 - 1))=ws at *;have con:=JN g uo pre 50 ag HPo.out br bc R[b].1 1 ws gs HAs (HTr.out.next Gs) hl8 ag;go_wp2_with fail
        refine con.mono ?_;rintro e w6 ⟨v6,rfl,HA6,hb6⟩;clear con d0s;have RS6:=RSs.next hb6;have EB6:Hid (j6 w6 g∨l.length=0):=Or.inl (EBs.out.next gs hb6);have hz6:=hb6.size;have G6:=chain Gs hb6;clear RSs HAs EBs EB Gs;dsimp only;go_wp2_with fail
        go_roundw
        case rel=>exact ⟨c - 1,_,_,L',by go_num,HPn,HA6,RS6,EB6,by omega,G6⟩
        case measure=>simp [intOf]; omega
    ·have e:c=0:=by omega
     subst e;have ez:=HZe.out.trans HP.out.all.symm;obtain ⟨av,cv,rfl,zv,lv⟩:=HA.acc;rw [← ez] at zv lv ⊢; clear ez;have hA:=chain hA3 hbo;clear HP HA HRs;go_wp2_with fail
     exact bJ rfl rfl ⟨_,rfl,⟨_,⟨_,rfl⟩,zv⟩,hA⟩
  ·have e0:fe=ie:=by rw [← HE.out]; unfold jU; rw [HTe.out,HIe.out,if_neg (by simp),if_neg HRg.out,if_pos hii]
   have e1:fz = []:=by rw [← HZ.out]; unfold lY; rw [HE.out,e0,if_neg hii]
   have hne:(ie != 0)=true:=by simpa using hii
   subst e0 e1;clear hii;go_wp2_with fail
   exact bJ rfl rfl ⟨_,rfl,⟨_,_,rfl,⟨by simp,.inl rfl⟩⟩,hA3⟩
 ·have e0:fe=te:=by rw [← HE.out]; unfold jU; rw [HTe.out,if_pos ht]
  have e1:fz = []:=by rw [← HZ.out]; unfold lY; rw [HE.out,e0,if_neg ht]
  have hne:(te != 0)=true:=by simpa using ht
  subst e0 e1;clear ht;go_wp2_with fail
  exact bJ rfl rfl ⟨_,rfl,⟨_,_,rfl,⟨by simp,.inl rfl⟩⟩,hA2⟩
theorem rM:∀ (L:List Kp) (ps:List Pt),L.Pairwise (fun x y=>aF x.1 y.1≤0)→ps.Pairwise (fun p q=>aF p.1 q.1<0)→(∀ p ∈ ps,∀ x ∈ L,aF p.1 x.1≤0)→(L.foldl (fun ps x=>iP (cY ps x) x.2) ps).Pairwise (fun p q=>aF p.1 q.1<0)
 | [],_,_,h,_=>h
 | x :: r,ps,hL,h,hp=>by
  rw [NA]
  obtain ⟨l1,l2⟩:=List.pairwise_cons.1 hL
  have push:(∀ p ∈ ps,aF p.1 x.1<0)→(ps ++ [((x.1,[]):Pt)]).Pairwise (fun p q=>aF p.1 q.1<0)∧∀ p ∈ ps ++ [((x.1,[]):Pt)],∀ y ∈ r,aF p.1 y.1≤0:=fun hlt=>by
   refine ⟨List.pairwise_append.2 ⟨h,List.pairwise_singleton _ _,fun p hp' q hq=>by rw [List.mem_singleton.1 hq]; exact hlt p hp'⟩,fun p hp' y hy=>?_⟩
   rcases List.mem_append.1 hp' with hp' | hp'
   ·exact hp p hp' y (by simp [hy])
   ·rw [List.mem_singleton.1 hp']; exact l1 y hy
  have ho:(cY ps x).Pairwise (fun p q=>aF p.1 q.1<0)∧∀ p ∈ cY ps x,∀ y ∈ r,aF p.1 y.1≤0:=by
   unfold cY
   split
   ·rename_i h0
    have:ps = []:=MH h0;refine push fun p hp'=>?_
    rw [this] at hp'; simp at hp'
   ·rename_i h0
    split
    ·exact ⟨h,fun p hp' y hy=>hp p hp' y (by simp [hy])⟩
    ·rename_i hc
     refine push fun p hp'=>?_
     obtain ⟨i,hi,rfl⟩:=No hp';have hlast:=hp _ (MC (l:=ps) (n:=ps.length - 1) ag) x (by simp);by_cases e:i=ps.length - 1
     ·subst e; omega
     ·have:=List.pairwise_iff_getElem.1 h i (ps.length - 1) hi ag ag;exact dD this hlast
  have hkey:∀ i (hi:i<(iP (cY ps x) x.2).length),((iP (cY ps x) x.2)[i]).1=((cY ps x)[i]'(by rw [zN] at hi; exact hi)).1:=fun i hi=>by
   unfold iP
   split
   ·rfl
   ·rw [List.getElem_set]
    split
    ·rename_i e; subst e; rfl
    ·rfl
  refine rM r _ l2 ?_ ?_
  ·refine List.pairwise_iff_getElem.2 fun i j hi hj hij=>?_
   rw [hkey i hi,hkey j hj];exact List.pairwise_iff_getElem.1 ho.1 i j _ _ hij
  ·intro p hp' y hy;obtain ⟨i,hi,rfl⟩:=No hp';rw [hkey i hi];exact ho.2 _ (MC _) y hy
theorem sJ {xs:List Ex} {z:List Zp} (h:fh z):(dJ (aY xs z)).Pairwise (fun p q=>aF p.1 q.1<0) :=
 rM _ [] ((gM h).imp fun {x y} hs=>by rcases hs with h | ⟨h,_⟩ <;> omega) Om (fun p hp=>by simp at hp)
theorem sP {a b x y:List Vl} (hl:a.length=b.length) (h:aF (a ++ x) (b ++ y)=0):aF a b=0:=by
 have e:=rV h;unfold aX at e;rw [Nc,Nc] at e;have e1:=(List.append_inj e (by simp [hl])).1;have e2:aX a=aX b:=e1;have c1:aF a b=aF a (aX b):=(im a b).symm;rw [c1,← e2,im,fm]
theorem sv {l:List Zp} (h:l.Pairwise fun x y=>aF x.1 y.1≠0):∀ x ∈ l,wt l x.1=x.2:=by
 induction l with
 | nil=>intro x hx; cases hx
 | cons y t ih =>
  obtain ⟨h1,h2⟩:=List.pairwise_cons.1 h;intro x hx;rcases List.mem_cons.1 hx with rfl | hx
  ·rw [wt,if_pos (fm _),oN fun v hv hc=>h1 v hv (by have:=bm x.1 v.1; omega)];omega
  ·rw [wt,if_neg (h1 x hx),ih h2 x hx];omega
def Cs (k:Nat) (r:List Vl):Int:=((aX r).getD k gX).2.1
structure Mi (xs:List Ex) (z t:List Zp):Prop where
 len:t.length≤401
 row:∀ y ∈ t,y.2=1∧y.1.length=xs.length+1∧0≤Cs xs.length y.1∧Cs xs.length y.1≤400000000
 num:∀ y ∈ t,(y.1.getD xs.length gX).2.1=Cs xs.length y.1
 sum:Fp (Cs xs.length) t=Kj z
 one:xs.length=0→t.length=1
end Go.Proofs.YtoefpglknaiaeaaGreat
