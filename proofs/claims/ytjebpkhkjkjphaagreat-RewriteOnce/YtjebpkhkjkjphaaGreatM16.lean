/- Together: POpen, QOpen. -/
import Derived.Deep.Slices
import Derived.Deep.Strs
import Derived.ProofKit
import Derived.OpenShut
import Derived.ChangeOld
import Derived.Lib.SmallJoins
import Derived.Test.YtjebpkhkjkjphaaGreatM18
import Derived.Test.YtjebpkhkjkjphaaGreatM2
import Derived.Test.YtjebpkhkjkjphaaGreatM10
import Derived.Test.YtjebpkhkjkjphaaGreatM9
namespace Go.Proofs.YtjebpkhkjkjphaaGreat
open Go.ChangeShapes Go.WideShapes Go.ChangeAt Go.RowKit Go.Joins
set_option maxRecDepth 100000
set_option maxHeartbeats 16000000
def gJ {H:Type} (t:TypeId) (d:DataW H):Prop:=∀ k ∈ d.weights Tryz.prog t,k≤reachBytes
theorem wf_i64 {n:Int} (h:(Lit.int .i64 n).wf=true):-9223372036854775808≤n∧n≤9223372036854775807:=by
 unfold Lit.wf at h;rw [IB,decide_eq_true_eq,decide_eq_true_eq] at h;exact h
theorem gJ.part {H:Type} {t:TypeId} {fs:Array Field} {parts:List (DataW H)} (hu:Tryz.prog.underlying t=some (.struct fs)) (h:gJ t (.agg parts)) {j:Nat} {f:Field} {d:DataW H} (hf:fs[j]? = some f) (hd:parts[j]? = some d):gJ f.type d:=by
 intro k hk;refine h k ?_;rw [DataW.weights,hu];refine DataW.weights_mem_each (j:=j) (t:=f.type) ?_ hd k hk;rw [List.getElem?_map,Array.getElem?_toList,hf];rfl
theorem mI {H:Type} {P:Program} {e:TypeId}:∀ {l:List (DataW H)} {d:DataW H},d ∈ l→∀ k ∈ d.weights P e,k ∈ DataW.weightsAll P e l
 | x :: l,d,hd,k,hk=>by
  rw [DataW.weightsAll,II]
  rcases List.mem_cons.mp hd with rfl | hd
  ·exact .inl hk
  ·exact .inr (mI hd k hk)
theorem gJ.elem {H:Type} {t e:TypeId} {l r:List (DataW H)} (hu:Tryz.prog.underlying t=some (.slice e)) (h:gJ t (.slice l r)) {d:DataW H} (hd:d ∈ l):gJ e d:=by
 intro k hk;refine h k ?_;rw [DataW.weights,hu];exact List.mem_cons_of_mem _ (List.mem_append_left _ (mI hd k hk))
theorem gJ.len {H:Type} {enc:TypeId × Value→H} {W:World} {hd:Bool} {t e:TypeId} {fuel n cap:Nat} {a:Option Addr} {x:DataW H × List MemPlace} (hu:Tryz.prog.underlying t=some (.slice e)) (hb:8≤Tryz.prog.bytesOf e)
  (h:DataW.trod enc Tryz.prog W 0 (fun _=>true) hd fuel t [.slice a n cap]=some x) (hl:gJ t x.1):n≤100000000000000:=by
 rcases DataW.trod_slice hu h with ⟨hcs,_⟩ | ⟨a',len,cap',elems,rest,m,hm,hcs,rfl,_,_,_,hlen,_⟩
 ·simp at hcs;omega
 ·simp at hcs;obtain ⟨rfl,rfl,rfl⟩:=hcs;have h1:=hl ((elems.length+rest.length)*Tryz.prog.bytesOf e) (by rw [DataW.weights,hu]; simp);have h2:=reachBytes_lt;have h4:n*8≤(elems.length+rest.length)*Tryz.prog.bytesOf e:=Nat.mul_le_mul (by omega) hb;omega
theorem vp {H:Type} {enc:TypeId × Value→H} {W:World} {hd:Bool} {fuel:Nat} {cs:List Value} {x:DataW H × List MemPlace}
  (hf0:DataW.trod enc Tryz.prog W 0 (fun _=>true) hd fuel 28 cs=some x):∃ (a:Option Addr) (cap:Nat) (l:List Ag),cs = [.slice a l.length cap]∧fJ W.heap.size W a l:=by
 rcases DataW.trod_slice Tryz.underlying28 hf0 with ⟨hcs,_⟩ | ⟨a,len,cap,elems,rest,n,hn,hcs,_,_,_,_,hlen,hel,_,_⟩
 ·exact ⟨none,0,[],hcs,.inl rfl⟩
 ·rw [GA] at hel;obtain ⟨f,hf⟩:=Go.Deep.choose_lt (α:=Ag × Option Addr × Nat) (n:=len) (p:=fun i (y:Ag × Option Addr × Nat) =>
    (W.cell? ((a.add (i*7)).add 0)=some (.int .i64 y.1.1)∧W.cell? ((a.add (i*7)).add 1)=some (.int .i64 y.1.2.k)∧W.cell? ((a.add (i*7)).add 2)=some (.int .i64 y.1.2.v.1)∧W.cell? ((a.add (i*7)).add 3)=some (.int .i64 y.1.2.v.2.1)∧W.cell? ((a.add (i*7)).add 4)=some (.string y.1.2.v.2.2) ∧
     W.cell? ((a.add (i*7)).add 5)=some (.int .i64 y.1.2.c)∧W.cell? ((a.add (i*7)).add 6)=some (.slice y.2.1 y.1.2.ks.length y.2.2))∧aO W.heap.size W y.2.1 y.1.2.ks) (fun i hi=>by
   have key:=hel i hi;rw [H4 (by omega)] at key;obtain ⟨cs',h1,h2⟩:=Option.bind_eq_some_iff.1 key;obtain ⟨_,hl6,hcell⟩:=World.cells?_some h1;obtain ⟨e,ai,ci,rfl,hk⟩:=yB h2;exact ⟨(e,ai,ci),⟨hcell 0 (by simp),hcell 1 (by simp),hcell 2 (by simp),hcell 3 (by simp),hcell 4 (by simp),hcell 5 (by simp),hcell 6 (by simp)⟩,hk⟩)
  refine ⟨some a,cap,(List.range len).map fun i=>(f i).1,by simpa using hcs,?_⟩;by_cases h0:len=0
  ·subst h0; exact .inl rfl
  ·obtain ⟨b,off,spot⟩:=a;have hc:=(hf 0 (by omega)).1.1;have hspot:spot=none:=by simpa [Addr.add] using World.cell?_spot hc
   subst hspot;refine .inr ⟨b,off,fun i=>(f i).2.1,fun i=>(f i).2.2,rfl,Hy W _ (by simpa [Addr.add] using hc),fun i hi=>?_⟩;have hi':i<len:=by simpa using hi
   obtain ⟨⟨g0,g1,g2,g3,g4,g5,g6⟩,gk⟩:=hf i hi';simp only [dK] at g0 g1 g2 g3 g4 g5 g6;simp only [IJ,Ji];exact ⟨g0,⟨g1,g2,g3,g4,g5,g6⟩,gk⟩
theorem EE:Tryz.prog.cellsOf 31=11:=by kernel_rfl
theorem G7:Tryz.prog.cellsOf 25=1:=by kernel_rfl
theorem G5:Tryz.prog.cellsOf 28=1:=by kernel_rfl
theorem G6:Tryz.prog.cellsOf 29=1:=by kernel_rfl
instance:Inhabited Pl:=⟨.mk 0 0 default [] [] []⟩
instance:Inhabited Pw:=⟨⟨none,0,none,0,none,0,none,0⟩⟩
def tQ (p:Pl) (q:Pw):List Value:=[.int .i64 p.k,.int .i64 p.n,.int .i64 p.x.k,.int .i64 p.x.v.1,.int .i64 p.x.v.2.1,.string p.x.v.2.2,.int .i64 p.x.c,.slice q.xa p.x.ks.length q.xc,.slice q.sa p.xs.length q.sc,.slice q.ga p.gs.length q.gc,.slice q.ka p.ks.length q.kc]
def qu {H:Type} (enc:TypeId × Value→H) (W:World) (hd:Bool) (m:Nat):Prop :=
 ∀ cs x,DataW.trod enc Tryz.prog W 0 (fun _=>true) hd m 29 cs=some x→gJ 29 x.1→∃ (a:Option Addr) (cap:Nat) (l:List Pl),cs = [.slice a l.length cap]∧gS W.heap.size W a l∧∀ p ∈ l,cF p
theorem oF {H:Type} {enc:TypeId × Value→H} {W:World} {hd:Bool} {fuel:Nat} (ih:∀ m,m<fuel→qu enc W hd m) {cs:List Value} {x:DataW H × List MemPlace}
  (h:DataW.trod enc Tryz.prog W 0 (fun _=>true) hd fuel 31 cs=some x) (hL:gJ 31 x.1):∃ (p:Pl) (q:Pw),cs=tQ p q∧ki W.heap.size W p q∧cF p:=by
 obtain ⟨xs,n,hn,rfl,hl,hlen,hf⟩:=DataW.trod_struct Tryz.underlying31 h;rw [EE] at hl
 match xs,hlen with
 | [y0,y1,y2,y3,y4,y5],_ =>
  have h0:=hf 0 _ rfl;have h1:=hf 1 _ rfl;have h2:=hf 2 _ rfl;have h3:=hf 3 _ rfl;have h4:=hf 4 _ rfl;have h5:=hf 5 _ rfl;have L3:=hL.part Tryz.underlying31 (j:=3) rfl rfl;have L4:=hL.part Tryz.underlying31 (j:=4) rfl rfl;have L5:=hL.part Tryz.underlying31 (j:=5) rfl rfl
  match cs,hl with
  | [c0,c1,c2,c3,c4,c5,c6,c7,c8,c9,dW],_ =>
   simp [q3,GG,G7,G5,G6] at h0 h1 h2 h3 h4 h5;obtain ⟨k,e0,_,_⟩:=DataW.trod_int Tryz.underlying3 h0;obtain ⟨m,e1,_,hwf⟩:=DataW.trod_int Tryz.underlying3 h1;obtain ⟨e,a2,cap2,e2,hk2⟩:=ko (fun m _=>oc enc W hd m) h2;obtain ⟨a3,cap3,l3,e3,hk3⟩:=oc enc W hd n _ _ h3;obtain ⟨a4,cap4,l4,e4,hk4⟩:=vp h4;obtain ⟨a5,cap5,l5,e5,hk5,hok5⟩:=ih n (by omega) _ _ h5 L5;rw [e3] at h3;rw [e4] at h4;have b3:=gJ.len Tryz.underlying25 ve h3 L3;have b4:=gJ.len Tryz.underlying28 yo h4 L4;simp at e0 e1 e2 e3 e4 e5;obtain ⟨r1,r2,r3,r4,r5,r6⟩:=e2
   subst e0 e1 r1 r2 r3 r4 r5 r6 e3 e4 e5;exact ⟨.mk k m e l3 l4 l5,⟨a2,cap2,a3,cap3,a4,cap4,a5,cap5⟩,rfl,⟨hk2,hk3,hk4,hk5⟩,.mk _ _ _ _ _ _ (wf_i64 hwf) b3 b4 hok5⟩
theorem yL {H:Type} (enc:TypeId × Value→H) (W:World) (hd:Bool) (fuel:Nat):qu enc W hd fuel:=by
 induction fuel using Nat.strongRecOn with
 | ind fuel ih =>
  intro cs x h hL;rcases DataW.trod_slice Tryz.underlying29 h with ⟨hcs,_⟩ | ⟨a,len,cap,elems,rest,n,hn,hcs,rfl,_,_,_,hlen,hel,_,_⟩
  ·exact ⟨none,0,[],hcs,.nil _,fun p hp=>by cases hp⟩
  ·rw [EE] at hel;obtain ⟨f,hf⟩:=Go.Deep.choose_lt (α:=Pl × Pw) (n:=len) (p:=fun i (y:Pl × Pw) =>
     (∀ j (hj:j<(tQ y.1 y.2).length),W.cell? ((a.add (i*11)).add j)=some (tQ y.1 y.2)[j])∧ki W.heap.size W y.1 y.2∧cF y.1) (fun i hi=>by
    have key:=hel i hi;rw [H4 (by omega)] at key;obtain ⟨cs',h1,h2⟩:=Option.bind_eq_some_iff.1 key;obtain ⟨_,hl6,hcell⟩:=World.cells?_some h1;obtain ⟨p,q,rfl,hk,hok⟩:=oF (fun m hm=>ih m (by omega)) h2 (hL.elem Tryz.underlying29 (List.mem_map_of_mem (Hm _)));exact ⟨(p,q),fun j hj=>(hcell j hj).trans (H4 hj),hk,hok⟩)
   refine ⟨some a,cap,(List.range len).map fun i=>(f i).1,by simpa using hcs,?_,?_⟩
   ·by_cases h0:len=0
    ·subst h0; exact .nil _
    ·obtain ⟨b,off,spot⟩:=a;have hc:=(hf 0 (by omega)).1 0 (by simp [tQ]);have hspot:spot=none:=by simpa [Addr.add] using World.cell?_spot hc
     subst hspot;have key:∀ i,i<len→gQ W b (off+i*11) (f i).1 (f i).2:=fun i hi=>by
      have g:=(hf i hi).1;simp only [dK] at g;exact ⟨g 0 (by simp [tQ]),g 1 (by simp [tQ]),⟨g 2 (by simp [tQ]),g 3 (by simp [tQ]),g 4 (by simp [tQ]),g 5 (by simp [tQ]),g 6 (by simp [tQ]),g 7 (by simp [tQ])⟩,g 8 (by simp [tQ]),g 9 (by simp [tQ]),g 10 (by simp [tQ])⟩
     refine .some b off _ (fun i=>(f i).2) (Hy W _ (by simpa [Addr.add] using hc)) ?_ ?_ ?_ ?_ ?_ <;> (intro i hi; have hi':i<len:=by simpa using hi) <;> simp only [IJ,Ji]
     ·exact key i hi'
     ·exact (hf i hi').2.1.x
     ·exact (hf i hi').2.1.xs
     ·exact (hf i hi').2.1.gs
     ·exact (hf i hi').2.1.ks
   ·intro p hp;obtain ⟨i,hi,rfl⟩:=List.mem_map.1 hp;exact (hf i (by simpa using hi)).2.2
theorem yn {H:Type} {ts:List TypeId} {ds:List (DataW H)} {t:TypeId} {d:DataW H} (hs:(DataW.weightsEach Tryz.prog ts ds).all (· ≤ reachBytes)=true) {j:Nat} (ht:ts[j]? = some t) (hd:ds[j]? = some d):gJ t d:=by
 intro k hk;have:=List.all_eq_true.1 hs _ (DataW.weights_mem_each ht hd k hk)
 simpa using this
theorem xI {H:Type} {enc:TypeId × Value→H} {W:World} {r:Reach} {b0:Nat} {v:Value} {d:DataW H} {p:List MemPlace}
  (hv:Value.okWide Tryz.prog W r b0 31 v) (h:DataW.Trod enc Tryz.prog W 0 (fun _=>true) true 31 v d p) (hL:gJ 31 d):∃ (e:Pl) (q:Pw),v=fp e q∧ki W.heap.size W e q∧cF e:=by
 obtain ⟨cs,rfl,_⟩:=okWide_struct Tryz.underlying31 hv;obtain ⟨fuel,hf⟩:=h;obtain ⟨e,q,he,hk⟩:=oF (fun m _=>yL enc W true m) hf hL;refine ⟨e,q,?_,hk⟩;have e':cs.toList=tQ e q:=by simpa [Value.cells] using he
 exact congrArg Value.agg (Array.toList_inj.mp e')
theorem G8:Tryz.prog.cellsOf 42=1:=by kernel_rfl
theorem uE {H:Type} {enc:TypeId × Value→H} {W:World} {hd:Bool} {fuel:Nat} {cs:List Value} {x:DataW H × List MemPlace}
  (hf:DataW.trod enc Tryz.prog W 0 (fun _=>true) hd fuel 42 cs=some x):∃ (a:Option Addr) (cap:Nat) (l:List Int),cs = [.slice a l.length cap]∧bo W.heap.size W a l:=by
 rcases Go.Deep.open_slice1 Tryz.underlying42 q3 hf with ⟨hcs,_⟩ | ⟨a,len,cap,m,n,V,D,Pl,hcs,_,hl,hm,hmm,_,hx⟩
 ·exact ⟨none,0,[],hcs,⟨by simp,.inl rfl⟩⟩
 ·simp only [if_true] at hmm;obtain ⟨f,hf'⟩:=Go.Deep.choose_lt (α:=Int) (n:=len) (p:=fun i (k:Int)=>W.cell? (a.add i)=some (.int .i64 k)) (fun i hi=>by
   obtain ⟨h1,h2⟩:=hx i (by omega);obtain ⟨k,e0,_,_⟩:=DataW.trod_int Tryz.underlying3 h2;simp at e0;exact ⟨k,by rw [h1,e0]⟩)
  refine ⟨some a,cap,(List.range len).map f,by simpa using hcs,?_,?_⟩
  ·simp; omega
  by_cases h0:len=0
  ·left; simp [h0]
  ·right;obtain ⟨b,off,spot⟩:=a;have hc:=hf' 0 (by omega);have hspot:spot=none:=by simpa [Addr.add] using World.cell?_spot hc
   subst hspot;refine ⟨b,off,rfl,Hy W _ (by simpa [Addr.add] using hc),fun i hi=>?_⟩;have hi':i<len:=by simpa using hi
   have:=hf' i hi';simp only [dK] at this;simp only [IJ,Ji];exact this
theorem tC {H:Type} {enc:TypeId × Value→H} {W:World} {r:Reach} {b0:Nat} {v:Value} {d:DataW H} {p:List MemPlace}
  (hv:Value.okWide Tryz.prog W r b0 22 v) (h:DataW.Trod enc Tryz.prog W 0 (fun _=>true) true 22 v d p):∃ (a:Option Addr) (cap:Nat) (l:List (List Int)),v = .slice a l.length cap∧gP W.heap.size W a l:=by
 obtain ⟨a0,len0,cap0,rfl⟩:=okWide_slice Tryz.underlying22 hv;obtain ⟨fuel,hf⟩:=h;rcases Go.Deep.open_slice Tryz.underlying22 hf with ⟨hcs,_⟩ | ⟨a,len,cap,m,n,D,Pl,hcs,_,hl,hm,hmm,_,hx⟩
 ·exact ⟨none,0,[],by simpa [Value.cells] using hcs,.inl rfl⟩
 ·rw [G8] at hx;simp only [if_true] at hmm;obtain ⟨f,hf'⟩:=Go.Deep.choose_lt (α:=List Int × Option Addr × Nat) (n:=len) (p:=fun i y=>W.cell? ((a.add (i*1)).add 0)=some (.slice y.2.1 y.1.length y.2.2)∧bo W.heap.size W y.2.1 y.1) (fun i hi=>by
   obtain ⟨cs',h1,h2⟩:=hx i (by omega);obtain ⟨_,_,hcell⟩:=World.cells?_some h1;obtain ⟨ai,ci,l,rfl,hz⟩:=uE h2;exact ⟨(l,ai,ci),hcell 0 (by simp),hz⟩)
  refine ⟨some a,cap,(List.range len).map fun i=>(f i).1,by simpa [Value.cells] using hcs,?_⟩;by_cases h0:len=0
  ·left; simp [h0]
  ·obtain ⟨b,off,spot⟩:=a;have hc:=(hf' 0 (by omega)).1;have hspot:spot=none:=by simpa [Addr.add] using World.cell?_spot hc
   subst hspot;refine .inr ⟨b,off,fun i=>(f i).2.1,fun i=>(f i).2.2,rfl,Hy W _ (by simpa [Addr.add] using hc),fun i hi=>?_⟩;have hi':i<len:=by simpa using hi
   obtain ⟨g0,g1⟩:=hf' i hi';simp only [dK,Nat.mul_one,IY] at g0;simp only [IJ,Ji];exact ⟨g0,g1⟩
end Go.Proofs.YtjebpkhkjkjphaaGreat
