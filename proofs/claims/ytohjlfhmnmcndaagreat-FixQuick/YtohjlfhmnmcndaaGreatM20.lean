/- Together: POpen, QOpen. -/
import Derived.Test.YtohjlfhmnmcndaaGreatM19
import Derived.Test.YtohjlfhmnmcndaaGreatM11
import Derived.Test.YtohjlfhmnmcndaaGreatM10
namespace Go.Proofs.YtohjlfhmnmcndaaGreat
open Go.ChangeShapes Go.WideShapes Go.ChangeAt Go.RowKit Go.Joins
set_option maxRecDepth 100000
set_option maxHeartbeats 16000000
def fD {H:Type} (t:TypeId) (d:DataW H):Prop:=∀ k ∈ d.weights Tryz.prog t,k≤reachBytes
theorem wf_i64 {n:Int} (h:(Lit.int .i64 n).wf=true):-9223372036854775808≤n∧n≤9223372036854775807:=by
 unfold Lit.wf at h;rw [NQ,decide_eq_true_eq,decide_eq_true_eq] at h;exact h
theorem fD.part {H:Type} {t:TypeId} {fs:Array Field} {parts:List (DataW H)} (hu:Tryz.prog.underlying t=some (.struct fs)) (h:fD t (.agg parts)) {j:Nat} {f:Field} {d:DataW H} (hf:fs[j]? = some f) (hd:parts[j]? = some d):fD f.type d:=by
 intro k hk;refine h k ?_;rw [DataW.weights,hu];refine DataW.weights_mem_each (j:=j) (t:=f.type) ?_ hd k hk;rw [List.getElem?_map,OU,hf];rfl
theorem qn {H:Type} {P:Program} {e:TypeId}:∀ {l:List (DataW H)} {d:DataW H},d ∈ l→∀ k ∈ d.weights P e,k ∈ DataW.weightsAll P e l
 | x :: l,d,hd,k,hk=>by
  rw [DataW.weightsAll,N9]
  rcases List.mem_cons.mp hd with rfl | hd
  ·exact .inl hk
  ·exact .inr (qn hd k hk)
theorem fD.elem {H:Type} {t e:TypeId} {l r:List (DataW H)} (hu:Tryz.prog.underlying t=some (.slice e)) (h:fD t (.slice l r)) {d:DataW H} (hd:d ∈ l):fD e d:=by
 intro k hk;refine h k ?_;rw [DataW.weights,hu];exact List.mem_cons_of_mem _ (List.mem_append_left _ (qn hd k hk))
theorem fD.len {H:Type} {enc:TypeId × Value→H} {W:World} {hd:Bool} {t e:TypeId} {fuel n cap:Nat} {a:Option Addr} {x:DataW H × List MemPlace} (hu:Tryz.prog.underlying t=some (.slice e)) (hb:8≤Tryz.prog.bytesOf e)
  (h:DataW.trod enc Tryz.prog W 0 (fun _=>true) hd fuel t [.slice a n cap]=some x) (hl:fD t x.1):n≤100000000000000:=by
 rcases DataW.trod_slice hu h with ⟨hcs,_⟩ | ⟨a',len,cap',elems,rest,m,hm,hcs,rfl,_,_,_,hlen,_⟩
 ·simp at hcs;omega
 ·simp at hcs;obtain ⟨rfl,rfl,rfl⟩:=hcs;have h1:=hl ((elems.length+rest.length)*Tryz.prog.bytesOf e) (by rw [DataW.weights,hu]; simp);have h2:=reachBytes_lt;have h4:n*8≤(elems.length+rest.length)*Tryz.prog.bytesOf e:=Nat.mul_le_mul (by omega) hb;omega
theorem AO {H:Type} {enc:TypeId × Value→H} {W:World} {hd:Bool} {fuel:Nat} {cs:List Value} {x:DataW H × List MemPlace}
  (hf0:DataW.trod enc Tryz.prog W 0 (fun _=>true) hd fuel 28 cs=some x):∃ (a:Option Addr) (cap:Nat) (l:List Ag),cs = [.slice a l.length cap]∧jD W.heap.size W a l:=by
 rcases DataW.trod_slice Tryz.underlying28 hf0 with ⟨hcs,_⟩ | ⟨a,len,cap,elems,rest,n,hn,hcs,_,_,_,_,hlen,hel,_,_⟩
 ·exact ⟨none,0,[],hcs,.inl rfl⟩
 ·rw [Mj] at hel;obtain ⟨f,hf⟩:=Go.Deep.choose_lt (α:=Ag × Option Addr × Nat) (n:=len) (p:=fun i (y:Ag × Option Addr × Nat) =>
    (W.cell? ((a.add (i*7)).add 0)=some (.int .i64 y.1.1)∧W.cell? ((a.add (i*7)).add 1)=some (.int .i64 y.1.2.k)∧W.cell? ((a.add (i*7)).add 2)=some (.int .i64 y.1.2.v.1)∧W.cell? ((a.add (i*7)).add 3)=some (.int .i64 y.1.2.v.2.1)∧W.cell? ((a.add (i*7)).add 4)=some (.string y.1.2.v.2.2) ∧
     W.cell? ((a.add (i*7)).add 5)=some (.int .i64 y.1.2.c)∧W.cell? ((a.add (i*7)).add 6)=some (.slice y.2.1 y.1.2.ks.length y.2.2))∧bd W.heap.size W y.2.1 y.1.2.ks) (fun i hi=>by
   have key:=hel i hi;rw [NF (by omega)] at key;obtain ⟨cs',h1,h2⟩:=Option.bind_eq_some_iff.1 key;obtain ⟨_,hl6,hcell⟩:=OW h1;obtain ⟨e,ai,ci,rfl,hk⟩:=DY h2;exact ⟨(e,ai,ci),⟨hcell 0 (by simp),hcell 1 (by simp),hcell 2 (by simp),hcell 3 (by simp),hcell 4 (by simp),hcell 5 (by simp),hcell 6 (by simp)⟩,hk⟩)
  refine ⟨some a,cap,(List.range len).map fun i=>(f i).1,by simpa using hcs,?_⟩;by_cases h0:len=0
  ·subst h0; exact .inl rfl
  ·obtain ⟨b,off,spot⟩:=a;have hc:=(hf 0 (by omega)).1.1;have hspot:spot=none:=by simpa [Addr.add] using OR hc
   subst hspot;refine .inr ⟨b,off,fun i=>(f i).2.1,fun i=>(f i).2.2,rfl,Nt W _ (by simpa [Addr.add] using hc),fun i hi=>?_⟩;have hi':i<len:=by simpa using hi
   obtain ⟨⟨g0,g1,g2,g3,g4,g5,g6⟩,gk⟩:=hf i hi';simp only [gT] at g0 g1 g2 g3 g4 g5 g6;simp only [Oe,OI];exact ⟨g0,⟨g1,g2,g3,g4,g5,g6⟩,gk⟩
theorem Kz:Tryz.prog.cellsOf 31=11:=by kernel_rfl
theorem Nh:Tryz.prog.cellsOf 25=1:=by kernel_rfl
theorem M7:Tryz.prog.cellsOf 28=1:=by kernel_rfl
theorem Nd:Tryz.prog.cellsOf 29=1:=by kernel_rfl
instance:Inhabited Pl:=⟨.mk 0 0 default [] [] []⟩
instance:Inhabited Pw:=⟨⟨none,0,none,0,none,0,none,0⟩⟩
def zR (p:Pl) (q:Pw):List Value:=[.int .i64 p.k,.int .i64 p.n,.int .i64 p.x.k,.int .i64 p.x.v.1,.int .i64 p.x.v.2.1,.string p.x.v.2.2,.int .i64 p.x.c,.slice q.xa p.x.ks.length q.xc,.slice q.sa p.xs.length q.sc,.slice q.ga p.gs.length q.gc,.slice q.ka p.ks.length q.kc]
def vo {H:Type} (enc:TypeId × Value→H) (W:World) (hd:Bool) (m:Nat):Prop :=
 ∀ cs x,DataW.trod enc Tryz.prog W 0 (fun _=>true) hd m 29 cs=some x→fD 29 x.1→∃ (a:Option Addr) (cap:Nat) (l:List Pl),cs = [.slice a l.length cap]∧ft W.heap.size W a l∧∀ p ∈ l,cz p
theorem sv {H:Type} {enc:TypeId × Value→H} {W:World} {hd:Bool} {fuel:Nat} (ih:∀ m,m<fuel→vo enc W hd m) {cs:List Value} {x:DataW H × List MemPlace}
  (h:DataW.trod enc Tryz.prog W 0 (fun _=>true) hd fuel 31 cs=some x) (hL:fD 31 x.1):∃ (p:Pl) (q:Pw),cs=zR p q∧ja W.heap.size W p q∧cz p:=by
 obtain ⟨xs,n,hn,rfl,hl,hlen,hf⟩:=DataW.trod_struct Tryz.underlying31 h;rw [Kz] at hl
 match xs,hlen with
 | [y0,y1,y2,y3,y4,y5],_ =>
  have h0:=hf 0 _ rfl;have h1:=hf 1 _ rfl;have h2:=hf 2 _ rfl;have h3:=hf 3 _ rfl;have h4:=hf 4 _ rfl;have h5:=hf 5 _ rfl;have L3:=hL.part Tryz.underlying31 (j:=3) rfl rfl;have L4:=hL.part Tryz.underlying31 (j:=4) rfl rfl;have L5:=hL.part Tryz.underlying31 (j:=5) rfl rfl
  match cs,hl with
  | [c0,c1,c2,c3,c4,c5,c6,c7,c8,c9,zY],_ =>
   simp [q3,Mx,Nh,M7,Nd] at h0 h1 h2 h3 h4 h5;obtain ⟨k,e0,_,_⟩:=DataW.trod_int Tryz.underlying3 h0;obtain ⟨m,e1,_,hwf⟩:=DataW.trod_int Tryz.underlying3 h1;obtain ⟨e,a2,cap2,e2,hk2⟩:=ng (fun m _=>tJ enc W hd m) h2;obtain ⟨a3,cap3,l3,e3,hk3⟩:=tJ enc W hd n _ _ h3;obtain ⟨a4,cap4,l4,e4,hk4⟩:=AO h4;obtain ⟨a5,cap5,l5,e5,hk5,hok5⟩:=ih n (by omega) _ _ h5 L5;rw [e3] at h3;rw [e4] at h4;have b3:=fD.len Tryz.underlying25 AA h3 L3;have b4:=fD.len Tryz.underlying28 DW h4 L4;simp at e0 e1 e2 e3 e4 e5;obtain ⟨r1,r2,r3,r4,r5,r6⟩:=e2
   subst e0 e1 r1 r2 r3 r4 r5 r6 e3 e4 e5;exact ⟨.mk k m e l3 l4 l5,⟨a2,cap2,a3,cap3,a4,cap4,a5,cap5⟩,rfl,⟨hk2,hk3,hk4,hk5⟩,.mk _ _ _ _ _ _ (wf_i64 hwf) b3 b4 hok5⟩
theorem Eg {H:Type} (enc:TypeId × Value→H) (W:World) (hd:Bool) (fuel:Nat):vo enc W hd fuel:=by
 induction fuel using Nat.strongRecOn with
 | ind fuel ih =>
  intro cs x h hL;rcases DataW.trod_slice Tryz.underlying29 h with ⟨hcs,_⟩ | ⟨a,len,cap,elems,rest,n,hn,hcs,rfl,_,_,_,hlen,hel,_,_⟩
  ·exact ⟨none,0,[],hcs,.nil _,fun p hp=>by cases hp⟩
  ·rw [Kz] at hel;obtain ⟨f,hf⟩:=Go.Deep.choose_lt (α:=Pl × Pw) (n:=len) (p:=fun i (y:Pl × Pw) =>
     (∀ j (hj:j<(zR y.1 y.2).length),W.cell? ((a.add (i*11)).add j)=some (zR y.1 y.2)[j])∧ja W.heap.size W y.1 y.2∧cz y.1) (fun i hi=>by
    have key:=hel i hi;rw [NF (by omega)] at key;obtain ⟨cs',h1,h2⟩:=Option.bind_eq_some_iff.1 key;obtain ⟨_,hl6,hcell⟩:=OW h1;obtain ⟨p,q,rfl,hk,hok⟩:=sv (fun m hm=>ih m (by omega)) h2 (hL.elem Tryz.underlying29 (List.mem_map_of_mem (Ns _)));exact ⟨(p,q),fun j hj=>(hcell j hj).trans (NF hj),hk,hok⟩)
   refine ⟨some a,cap,(List.range len).map fun i=>(f i).1,by simpa using hcs,?_,?_⟩
   ·by_cases h0:len=0
    ·subst h0; exact .nil _
    ·obtain ⟨b,off,spot⟩:=a;have hc:=(hf 0 (by omega)).1 0 (by simp [zR]);have hspot:spot=none:=by simpa [Addr.add] using OR hc
     subst hspot;have key:∀ i,i<len→gY W b (off+i*11) (f i).1 (f i).2:=fun i hi=>by
      have g:=(hf i hi).1;simp only [gT] at g;exact ⟨g 0 (by simp [zR]),g 1 (by simp [zR]),⟨g 2 (by simp [zR]),g 3 (by simp [zR]),g 4 (by simp [zR]),g 5 (by simp [zR]),g 6 (by simp [zR]),g 7 (by simp [zR])⟩,g 8 (by simp [zR]),g 9 (by simp [zR]),g 10 (by simp [zR])⟩
     refine .some b off _ (fun i=>(f i).2) (Nt W _ (by simpa [Addr.add] using hc)) ?_ ?_ ?_ ?_ ?_ <;> (intro i hi; have hi':i<len:=by simpa using hi) <;> simp only [Oe,OI]
     ·exact key i hi'
     ·exact (hf i hi').2.1.x
     ·exact (hf i hi').2.1.xs
     ·exact (hf i hi').2.1.gs
     ·exact (hf i hi').2.1.ks
   ·intro p hp;obtain ⟨i,hi,rfl⟩:=List.mem_map.1 hp;exact (hf i (by simpa using hi)).2.2
theorem oO {H:Type} {ts:List TypeId} {ds:List (DataW H)} {t:TypeId} {d:DataW H} (hs:(DataW.weightsEach Tryz.prog ts ds).all (· ≤ reachBytes)=true) {j:Nat} (ht:ts[j]? = some t) (hd:ds[j]? = some d):fD t d:=by
 intro k hk;have:=List.all_eq_true.1 hs _ (DataW.weights_mem_each ht hd k hk)
 simpa using this
theorem vj {H:Type} {enc:TypeId × Value→H} {W:World} {r:Reach} {b0:Nat} {v:Value} {d:DataW H} {p:List MemPlace}
  (hv:Value.okWide Tryz.prog W r b0 31 v) (h:DataW.Trod enc Tryz.prog W 0 (fun _=>true) true 31 v d p) (hL:fD 31 d):∃ (e:Pl) (q:Pw),v=bP e q∧ja W.heap.size W e q∧cz e:=by
 obtain ⟨cs,rfl,_⟩:=okWide_struct Tryz.underlying31 hv;obtain ⟨fuel,hf⟩:=h;obtain ⟨e,q,he,hk⟩:=sv (fun m _=>Eg enc W true m) hf hL;refine ⟨e,q,?_,hk⟩;have e':cs.toList=zR e q:=by simpa [Value.cells] using he
 exact congrArg Value.agg (Array.toList_inj.mp e')
theorem qZ:Tryz.prog.cellsOf 58=2:=by kernel_rfl
theorem M8:Tryz.prog.cellsOf 34=1:=by kernel_rfl
theorem Na:Tryz.prog.cellsOf 45=1:=by kernel_rfl
theorem xx {H:Type} {enc:TypeId × Value→H} {W:World} {hd:Bool} {fuel:Nat} {cs:List Value} {x:DataW H × List MemPlace}
  (hf:DataW.trod enc Tryz.prog W 0 (fun _=>true) hd fuel 34 cs=some x):∃ (a:Option Addr) (cap:Nat) (l:List Zp),cs = [.slice a l.length cap]∧aL W a l∧(a=none→cap=0):=by
 rcases Go.Deep.open_slice Tryz.underlying34 hf with ⟨hcs,_⟩ | ⟨a,len,cap,m,n,D,Pl,hcs,_,hl,hm,hmm,_,hx⟩
 ·exact ⟨none,0,[],hcs,⟨by simp,.inl rfl⟩,fun _=>rfl⟩
 ·rw [qZ] at hx;simp only [if_true] at hmm;obtain ⟨f,hf'⟩:=Go.Deep.choose_lt (α:=Zp) (n:=len) (p:=fun i (z:Zp)=>W.cell? ((a.add (i*2)).add 1)=some (.int .i64 z.2)∧∃ ai cap,W.cell? ((a.add (i*2)).add 0)=some (.slice ai z.1.length cap)∧aM W ai z.1) (fun i hi=>by
   obtain ⟨cs',h1,h2⟩:=hx i (by omega);exact Fe h1 h2)
  refine ⟨some a,cap,(List.range len).map f,by simpa using hcs,⟨?_,?_⟩,fun h=>by cases h⟩
  ·simp; omega
  by_cases h0:len=0
  ·left; simp [h0]
  ·right;obtain ⟨b,off,spot⟩:=a;obtain ⟨_,_,hc,_⟩:=(hf' 0 (by omega)).2;have hspot:spot=none:=by simpa [Addr.add] using OR hc
   subst hspot;refine ⟨b,off,rfl,?_,fun i hi=>?_⟩
   ·exact Nt W _ (by simpa [Addr.add] using hc)
   ·have hi':i<len:=by simpa using hi
    have:=hf' i hi';simp only [gT] at this;simp only [Oe,OI];exact this
theorem Aa {H:Type} {enc:TypeId × Value→H} {W:World} {hd:Bool} {fuel:Nat} {cs:List Value} {x:DataW H × List MemPlace}
  (hf:DataW.trod enc Tryz.prog W 0 (fun _=>true) hd fuel 32 cs=some x):∃ (a:Option Addr) (cap:Nat) (l:List (List Zp)),cs = [.slice a l.length cap]∧gL W a l:=by
 rcases Go.Deep.open_slice Tryz.underlying32 hf with ⟨hcs,_⟩ | ⟨a,len,cap,m,n,D,Pl,hcs,_,hl,hm,hmm,_,hx⟩
 ·exact ⟨none,0,[],hcs,.inl rfl⟩
 ·rw [M8] at hx;simp only [if_true] at hmm;obtain ⟨f,hf'⟩:=Go.Deep.choose_lt (α:=List Zp × Option Addr × Nat) (n:=len) (p:=fun i y=>W.cell? ((a.add (i*1)).add 0)=some (.slice y.2.1 y.1.length y.2.2)∧aL W y.2.1 y.1∧(y.2.1=none→y.2.2=0)) (fun i hi=>by
   obtain ⟨cs',h1,h2⟩:=hx i (by omega);obtain ⟨_,_,hcell⟩:=OW h1;obtain ⟨ai,ci,l,rfl,hz,hn⟩:=xx h2;exact ⟨(l,ai,ci),hcell 0 (by simp),hz,hn⟩)
  refine ⟨some a,cap,(List.range len).map fun i=>(f i).1,by simpa using hcs,?_⟩;by_cases h0:len=0
  ·left; simp [h0]
  ·obtain ⟨b,off,spot⟩:=a;have hc:=(hf' 0 (by omega)).1;have hspot:spot=none:=by simpa [Addr.add] using OR hc
   subst hspot;refine .inr ⟨b,off,fun i=>(f i).2.1,fun i=>(f i).2.2,rfl,Nt W _ (by simpa [Addr.add] using hc),fun i hi=>?_⟩;have hi':i<len:=by simpa using hi
   obtain ⟨g0,g1,g2⟩:=hf' i hi';simp only [gT,Nat.mul_one,Oz] at g0;simp only [Oe,OI];exact ⟨g0,g1,g2⟩
theorem Da:24≤Tryz.prog.bytesOf 34:=by decide +kernel
theorem fD.L6 {H:Type} {enc:TypeId × Value→H} {W:World} {hd:Bool} {t e:TypeId} {fuel n cap:Nat} {a:Option Addr} {x:DataW H × List MemPlace} (hu:Tryz.prog.underlying t=some (.slice e)) (hb:24≤Tryz.prog.bytesOf e)
  (h:DataW.trod enc Tryz.prog W 0 (fun _=>true) hd fuel t [.slice a n cap]=some x) (hl:fD t x.1):n≤10000000000000:=by
 rcases DataW.trod_slice hu h with ⟨hcs,_⟩ | ⟨a',len,cap',elems,rest,m,hm,hcs,rfl,_,_,_,hlen,_⟩
 ·simp at hcs;omega
 ·simp at hcs;obtain ⟨rfl,rfl,rfl⟩:=hcs;have h1:=hl ((elems.length+rest.length)*Tryz.prog.bytesOf e) (by rw [DataW.weights,hu]; simp);have h2:=reachBytes_lt;have h4:n*24≤(elems.length+rest.length)*Tryz.prog.bytesOf e:=Nat.mul_le_mul (by omega) hb;omega
theorem C8 {H:Type} {enc:TypeId × Value→H} {W:World} {r:Reach} {b0:Nat} {v:Value} {d:DataW H} {p:List MemPlace}
  (hv:Value.okWide Tryz.prog W r b0 32 v) (h:DataW.Trod enc Tryz.prog W 0 (fun _=>true) true 32 v d p) (hL:fD 32 d):∃ (a:Option Addr) (cap:Nat) (l:List (List Zp)),v = .slice a l.length cap∧gL W a l∧l.length≤10000000000000:=by
 obtain ⟨a0,len,cap,rfl⟩:=okWide_slice Tryz.underlying32 hv;obtain ⟨fuel,hf⟩:=h;obtain ⟨a,c,l,e,hs⟩:=Aa hf;have e':Value.slice a0 len cap = .slice a l.length c:=by simpa [Value.cells] using e
 refine ⟨a,c,l,e',hs,?_⟩;have hf2:DataW.trod enc Tryz.prog W 0 (fun _=>true) true fuel 32 [.slice a l.length c]=some (d,p):=by rw [← e']; exact hf
 exact fD.L6 Tryz.underlying32 Da hf2 hL
theorem Ad {H:Type} {enc:TypeId × Value→H} {W:World} {hd:Bool} {fuel:Nat} {cs:List Value} {x:DataW H × List MemPlace}
  (hf:DataW.trod enc Tryz.prog W 0 (fun _=>true) hd fuel 45 cs=some x):∃ (a:Option Addr) (cap:Nat) (l:List Int),cs = [.slice a l.length cap]∧bc W.heap.size W a l:=by
 rcases Go.Deep.open_slice1 Tryz.underlying45 q3 hf with ⟨hcs,_⟩ | ⟨a,len,cap,m,n,V,D,Pl,hcs,_,hl,hm,hmm,_,hx⟩
 ·exact ⟨none,0,[],hcs,⟨by simp,.inl rfl⟩⟩
 ·simp only [if_true] at hmm;obtain ⟨f,hf'⟩:=Go.Deep.choose_lt (α:=Int) (n:=len) (p:=fun i (k:Int)=>W.cell? (a.add i)=some (.int .i64 k)) (fun i hi=>by
   obtain ⟨h1,h2⟩:=hx i (by omega);obtain ⟨k,e0,_,_⟩:=DataW.trod_int Tryz.underlying3 h2;simp at e0;exact ⟨k,by rw [h1,e0]⟩)
  refine ⟨some a,cap,(List.range len).map f,by simpa using hcs,?_,?_⟩
  ·simp; omega
  by_cases h0:len=0
  ·left; simp [h0]
  ·right;obtain ⟨b,off,spot⟩:=a;have hc:=hf' 0 (by omega);have hspot:spot=none:=by simpa [Addr.add] using OR hc
   subst hspot;refine ⟨b,off,rfl,Nt W _ (by simpa [Addr.add] using hc),fun i hi=>?_⟩;have hi':i<len:=by simpa using hi
   have:=hf' i hi';simp only [gT] at this;simp only [Oe,OI];exact this
theorem xL {H:Type} {enc:TypeId × Value→H} {W:World} {r:Reach} {b0:Nat} {v:Value} {d:DataW H} {p:List MemPlace}
  (hv:Value.okWide Tryz.prog W r b0 22 v) (h:DataW.Trod enc Tryz.prog W 0 (fun _=>true) true 22 v d p):∃ (a:Option Addr) (cap:Nat) (l:List (List Int)),v = .slice a l.length cap∧fy W.heap.size W a l:=by
 obtain ⟨a0,len0,cap0,rfl⟩:=okWide_slice Tryz.underlying22 hv;obtain ⟨fuel,hf⟩:=h;rcases Go.Deep.open_slice Tryz.underlying22 hf with ⟨hcs,_⟩ | ⟨a,len,cap,m,n,D,Pl,hcs,_,hl,hm,hmm,_,hx⟩
 ·exact ⟨none,0,[],by simpa [Value.cells] using hcs,.inl rfl⟩
 ·rw [Na] at hx;simp only [if_true] at hmm;obtain ⟨f,hf'⟩:=Go.Deep.choose_lt (α:=List Int × Option Addr × Nat) (n:=len) (p:=fun i y=>W.cell? ((a.add (i*1)).add 0)=some (.slice y.2.1 y.1.length y.2.2)∧bc W.heap.size W y.2.1 y.1) (fun i hi=>by
   obtain ⟨cs',h1,h2⟩:=hx i (by omega);obtain ⟨_,_,hcell⟩:=OW h1;obtain ⟨ai,ci,l,rfl,hz⟩:=Ad h2;exact ⟨(l,ai,ci),hcell 0 (by simp),hz⟩)
  refine ⟨some a,cap,(List.range len).map fun i=>(f i).1,by simpa [Value.cells] using hcs,?_⟩;by_cases h0:len=0
  ·left; simp [h0]
  ·obtain ⟨b,off,spot⟩:=a;have hc:=(hf' 0 (by omega)).1;have hspot:spot=none:=by simpa [Addr.add] using OR hc
   subst hspot;refine .inr ⟨b,off,fun i=>(f i).2.1,fun i=>(f i).2.2,rfl,Nt W _ (by simpa [Addr.add] using hc),fun i hi=>?_⟩;have hi':i<len:=by simpa using hi
   obtain ⟨g0,g1⟩:=hf' i hi';simp only [gT,Nat.mul_one,Oz] at g0;simp only [Oe,OI];exact ⟨g0,g1⟩
end Go.Proofs.YtohjlfhmnmcndaaGreat
