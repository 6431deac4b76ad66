import Derived.Deep.Strs
import Derived.ProofKit
import Derived.OpenShut
import Derived.ChangeOld
import Derived.SizedLaws
import Derived.Laws.MakeOwn
import Derived.Deep.Cut
import Derived.Shelf.Abstract
import Derived.Test.YtoefpglknaiaeaaGreatMW24
set_option maxHeartbeats 16000000
set_option maxRecDepth 100000
namespace Go.Proofs.YtoefpglknaiaeaaGreat
open Go.ChangeShapes Go.WideShapes Go.ChangeAt Go.RowKit Go.Joins _root_.Go.Proofs.Tryz
theorem Gj (b off i:Nat):((ah b off):Addr).add i=⟨b,off+i,none⟩:=by
 unfold Addr.add;by_cases h:i=0 <;> simp [h]
theorem GG {H:Type} {enc:TypeId × Value→H} {W:World} {base:Nat} {sp:Nat→Bool} {hd:Bool} {fuel:Nat} {cs:List Value} {x:DataW H × List MemPlace} {a:Addr}
  (hc:W.cells? base a 3=some cs) (h:DataW.trod enc prog W base sp hd fuel 24 cs=some x) :
  ∃ v:Vl,W.cell? (a.add 0)=some (.int .i64 v.1)∧W.cell? (a.add 1)=some (.int .i64 v.2.1)∧W.cell? (a.add 2)=some (.string v.2.2):=by
 obtain ⟨_,hlen,hcell⟩:=N3 hc;obtain ⟨y0,y1,y2,m,_,_,h0,h1,h2⟩:=Go.Deep.trod_struct3 underlying24 h;have q3:Tryz.prog.cellsOf 3=1:=by kernel_rfl
 have q2:Tryz.prog.cellsOf 2=1:=by kernel_rfl
 have q9:Tryz.prog.cellsOf 9=1:=by kernel_rfl
 match cs,hlen with
 | [c0,c1,c2],_ =>
  simp only [q3,q2,q9] at h0 h1 h2;obtain ⟨k,e0,_,_⟩:=DataW.trod_int underlying3 h0;obtain ⟨n,e1,_,_⟩:=DataW.trod_int underlying2 h1;obtain ⟨s,e2,_,_⟩:=DataW.trod_string underlying9 h2;simp at e0 e1 e2;subst e0 e1 e2;exact ⟨(k,n,s),hcell 0 ag,hcell 1 ag,hcell 2 ag⟩
theorem Ai {H:Type} {enc:TypeId × Value→H} {W:World} {hd:Bool} {fuel:Nat} {cs:List Value} {x:DataW H × List MemPlace}
  (hf:DataW.trod enc prog W 0 (fun _=>true) hd fuel 45 cs=some x):∃ (a:Option Addr) (cap:Nat) (l:List Vl),cs = [.slice a l.length cap]∧aZ W a l:=by
 rcases Go.Deep.open_slice underlying45 hf with ⟨hcs,_⟩ | ⟨a,len,cap,m,n,D,Pl,hcs,_,hl,hm,hmm,_,hx⟩
 ·exact ⟨none,0,[],hcs,by simp,.inl rfl⟩
 ·have q:Tryz.prog.cellsOf 24=3:=by kernel_rfl
  rw [q] at hx;simp only [if_true] at hmm;obtain ⟨f,hf'⟩:=Go.Deep.choose_lt (α:=Vl) (n:=len) (p:=fun i (v:Vl)=>W.cell? ((a.add (i*3)).add 0)=some (.int .i64 v.1)∧W.cell? ((a.add (i*3)).add 1)=some (.int .i64 v.2.1)∧W.cell? ((a.add (i*3)).add 2)=some (.string v.2.2)) (fun i hi=>by
   obtain ⟨cs',h1,h2⟩:=hx i ag;exact GG h1 h2)
  refine ⟨some a,cap,(List.range len).map f,by simpa using hcs,?_,?_⟩
  ·simp; omega
  by_cases h0:len=0
  ·left; simp [h0]
  ·right;obtain ⟨b,off,spot⟩:=a;have hc:=(hf' 0 ag).1;have hspot:spot=none:=by simpa [Addr.add] using NX hc
   subst hspot;refine ⟨b,off,rfl,fun i hi=>?_,?_⟩
   ·have hi':i<len:=by simpa using hi
    have:=hf' i hi';simp only [Gj] at this;simp only [NC,NM];exact this
   ·exact ML W _ (by simpa [Addr.add] using hc)
theorem Jx {P:Program} {H:Type} {enc:TypeId × Value→H} {w:World} {base:Nat} {spare:Nat→Bool} {held:Bool} {t:TypeId} {f0 f1:Field} {fuel:Nat} {cs:List Value} {x:DataW H × List MemPlace} (ht:P.underlying t=some (.struct #[f0,f1])) (h:DataW.trod enc P w base spare held fuel t cs=some x) :
  ∃ y0 y1 n,DataW.trod enc P w base spare held n f0.type ((cs.drop f0.offset).take (P.cellsOf f0.type))=some y0 ∧
   DataW.trod enc P w base spare held n f1.type ((cs.drop f1.offset).take (P.cellsOf f1.type))=some y1:=by
 obtain ⟨xs,n,_,rfl,hl,hlen,hf⟩:=DataW.trod_struct ht h
 match xs,hlen with
 | [y0,y1],_=>exact ⟨y0,y1,n,by simpa using hf 0 f0 rfl,by simpa using hf 1 f1 rfl⟩
theorem C2 {H:Type} {enc:TypeId × Value→H} {W:World} {hd:Bool} {fuel:Nat} {cs:List Value} {x:DataW H × List MemPlace} {a:Addr}
  (hc:W.cells? 0 a 2=some cs) (h:DataW.trod enc prog W 0 (fun _=>true) hd fuel 47 cs=some x) :
  ∃ z:Zp,W.cell? (a.add 1)=some (.int .i64 z.2)∧∃ ai cap,W.cell? (a.add 0)=some (.slice ai z.1.length cap)∧aZ W ai z.1:=by
 obtain ⟨_,hlen,hcell⟩:=N3 hc;obtain ⟨y0,y1,n,h0,h1⟩:=Jx underlying47 h;have q23:Tryz.prog.cellsOf 45=1:=by kernel_rfl
 have q2:Tryz.prog.cellsOf 2=1:=by kernel_rfl
 match cs,hlen with
 | [c0,c1],_ =>
  simp only [q23,q2] at h0 h1;obtain ⟨ai,cap,l,e0,hs⟩:=Ai h0;obtain ⟨k,e1,_,_⟩:=DataW.trod_int underlying2 h1;simp at e0 e1;subst e0 e1;exact ⟨(l,k),hcell 1 ag,ai,cap,hcell 0 ag,hs⟩
theorem iD (b off i:Nat):((ah b off):Addr).add i=⟨b,off+i,none⟩:=by
 unfold Addr.add;by_cases h:i=0 <;> simp [h]
theorem q3:Tryz.prog.cellsOf 3=1:=by kernel_rfl
theorem q2:Tryz.prog.cellsOf 2=1:=by kernel_rfl
theorem q9:Tryz.prog.cellsOf 9=1:=by kernel_rfl
theorem L9:Tryz.prog.cellsOf 24=3:=by kernel_rfl
theorem Ms:Tryz.prog.cellsOf 25=1:=by kernel_rfl
theorem LH:Tryz.prog.cellsOf 27=6:=by kernel_rfl
theorem DW {H:Type} {enc:TypeId × Value→H} {W:World} {base:Nat} {sp:Nat→Bool} {hd:Bool} {fuel:Nat} {cs:List Value} {x:DataW H × List MemPlace}
  (h:DataW.trod enc prog W base sp hd fuel 24 cs=some x):∃ v:Vl,cs = [.int .i64 v.1,.int .i64 v.2.1,.string v.2.2]:=by
 obtain ⟨y0,y1,y2,m,_,hlen,h0,h1,h2⟩:=Go.Deep.trod_struct3 underlying24 h
 rw [L9] at hlen
 match cs,hlen with
 | [c0,c1,c2],_ =>
  simp only [q3,q2,q9] at h0 h1 h2
  obtain ⟨k,e0,_,_⟩:=DataW.trod_int underlying3 h0
  obtain ⟨n,e1,_,_⟩:=DataW.trod_int underlying2 h1
  obtain ⟨s,e2,_,_⟩:=DataW.trod_string underlying9 h2
  simp at e0 e1 e2
  subst e0 e1 e2
  exact ⟨(k,n,s),rfl⟩
instance:Inhabited Ex:=⟨.mk 0 (0,0,⟨#[]⟩) 0 []⟩
def zC {H:Type} (enc:TypeId × Value→H) (W:World) (hd:Bool) (m:Nat):Prop :=
 ∀ cs x,DataW.trod enc prog W 0 (fun _=>true) hd m 25 cs=some x→∃ (a:Option Addr) (cap:Nat) (l:List Ex),cs = [.slice a l.length cap]∧aU W W a l
theorem nO {H:Type} {enc:TypeId × Value→H} {W:World} {hd:Bool} {fuel:Nat} (ih:∀ m,m<fuel→zC enc W hd m) {cs:List Value} {x:DataW H × List MemPlace}
  (h:DataW.trod enc prog W 0 (fun _=>true) hd fuel 27 cs=some x) :
  ∃ (e:Ex) (a:Option Addr) (cap:Nat),cs = [.int .i64 e.k,.int .i64 e.v.1,.int .i64 e.v.2.1,.string e.v.2.2,.int .i64 e.c,.slice a e.ks.length cap]∧aU W.heap.size W a e.ks:=by
 obtain ⟨xs,n,hn,_,hl,hlen,hf⟩:=DataW.trod_struct underlying27 h;rw [LH] at hl
 match xs,hlen with
 | [y0,y1,y2,y3],_ =>
  have h0:=hf 0 _ rfl;have h1:=hf 1 _ rfl;have h2:=hf 2 _ rfl;have h3:=hf 3 _ rfl
  match cs,hl with
  | [c0,c1,c2,c3,c4,c5],_ =>
   simp [q3,L9,Ms] at h0 h1 h2 h3;obtain ⟨k,e0,_,_⟩:=DataW.trod_int underlying3 h0;obtain ⟨v,e1⟩:=DW h1;obtain ⟨c,e2,_,_⟩:=DataW.trod_int underlying3 h2;obtain ⟨a,cap,l,e3,hk⟩:=ih n ag _ _ h3;simp at e0 e1 e2 e3;obtain ⟨r1,r2,r3⟩:=e1;subst e0 r1 r2 r3 e2 e3;exact ⟨.mk k v c l,a,cap,rfl,hk⟩
theorem tp {H:Type} (enc:TypeId × Value→H) (W:World) (hd:Bool) (fuel:Nat):zC enc W hd fuel:=by
 induction fuel using Nat.strongRecOn with
 | ind fuel ih =>
  intro cs x h;rcases DataW.trod_slice underlying25 h with ⟨hcs,_⟩ | ⟨a,len,cap,elems,rest,n,hn,hcs,_,_,_,_,hlen,hel,_,_⟩
  ·exact ⟨none,0,[],hcs,.nil _⟩
  ·rw [LH] at hel;obtain ⟨f,hf⟩:=Go.Deep.choose_lt (α:=Ex × Option Addr × Nat) (n:=len) (p:=fun i (y:Ex × Option Addr × Nat) =>
     (W.cell? ((a.add (i*6)).add 0)=some (.int .i64 y.1.k)∧W.cell? ((a.add (i*6)).add 1)=some (.int .i64 y.1.v.1)∧W.cell? ((a.add (i*6)).add 2)=some (.int .i64 y.1.v.2.1)∧W.cell? ((a.add (i*6)).add 3)=some (.string y.1.v.2.2) ∧
      W.cell? ((a.add (i*6)).add 4)=some (.int .i64 y.1.c)∧W.cell? ((a.add (i*6)).add 5)=some (.slice y.2.1 y.1.ks.length y.2.2))∧aU W W y.2.1 y.1.ks) (fun i hi=>by
    have key:=hel i hi;rw [M1 ag] at key;obtain ⟨cs',h1,h2⟩:=Option.bind_eq_some_iff.1 key;obtain ⟨_,hl6,hcell⟩:=N3 h1;obtain ⟨e,ai,ci,rfl,hk⟩:=nO (fun m hm=>ih m ag) h2;exact ⟨(e,ai,ci),⟨hcell 0 (by simp),hcell 1 (by simp),hcell 2 (by simp),hcell 3 (by simp),hcell 4 (by simp),hcell 5 (by simp)⟩,hk⟩)
   refine ⟨some a,cap,(List.range len).map fun i=>(f i).1,by simpa using hcs,?_⟩;by_cases h0:len=0
   ·subst h0; exact .nil _
   ·obtain ⟨b,off,spot⟩:=a;have hc:=(hf 0 ag).1.1;have hspot:spot=none:=by simpa [Addr.add] using NX hc
    subst hspot;refine .some b off _ (fun i=>(f i).2.1) (fun i=>(f i).2.2) (ML W _ (by simpa [Addr.add] using hc)) (fun i hi=>?_) (fun i hi=>?_)
    ·have hi':i<len:=by simpa using hi
     have:=(hf i hi').1;simp only [iD] at this;simp only [NC,NM];exact ⟨this.1,this.2.1,this.2.2.1,this.2.2.2.1,this.2.2.2.2.1,this.2.2.2.2.2⟩
    ·have hi':i<len:=by simpa using hi
     simp only [NC,NM];exact (hf i hi').2
theorem K9:Tryz.prog.cellsOf 123=7:=by kernel_rfl
theorem EH {H:Type} {enc:TypeId × Value→H} {W:World} {hd:Bool} {fuel:Nat} {cs:List Value} {x:DataW H × List MemPlace}
  (h:DataW.trod enc prog W 0 (fun _=>true) hd fuel 123 cs=some x) :
  ∃ (g:Ag) (a:Option Addr) (cap:Nat),cs = [.int .i64 g.1,.int .i64 g.2.k,.int .i64 g.2.v.1,.int .i64 g.2.v.2.1,.string g.2.v.2.2,.int .i64 g.2.c,.slice a g.2.ks.length cap]∧aU W.heap.size W a g.2.ks:=by
 obtain ⟨xs,n,hn,_,hl,hlen,hf⟩:=DataW.trod_struct underlying123 h
 rw [K9] at hl
 match xs,hlen with
 | [y0,y1],_ =>
  have h0:=hf 0 _ rfl
  have h1:=hf 1 _ rfl
  match cs,hl with
  | [c0,c1,c2,c3,c4,c5,c6],_ =>
   simp [q3,LH] at h0 h1
   obtain ⟨k,e0,_,_⟩:=DataW.trod_int underlying3 h0
   obtain ⟨e,a,cap,e1,hk⟩:=nO (fun m _=>tp enc W hd m) h1
   simp at e0 e1
   obtain ⟨r1,r2,r3,r4,r5,r6⟩:=e1
   subst e0 r1 r2 r3 r4 r5 r6
   exact ⟨(k,e),a,cap,rfl,hk⟩
instance:Inhabited Ag:=⟨(0,.mk 0 (0,0,⟨#[]⟩) 0 [])⟩
theorem EX:8≤Tryz.prog.bytesOf 123:=by decide +kernel
end Go.Proofs.YtoefpglknaiaeaaGreat
namespace Go.Proofs.YtoefpglknaiaeaaGreat
open Go.ChangeShapes Go.WideShapes Go.ChangeAt Go.RowKit Go.Joins
theorem BP:8≤Tryz.prog.bytesOf 27:=by decide +kernel
open _root_.Go.Proofs.Tryz
def gC {H:Type} (t:TypeId) (d:DataW H):Prop:=∀ k ∈ d.weights prog t,k≤reachBytes
theorem wf_i64 {n:Int} (h:(Lit.int .i64 n).wf=true):-9223372036854775808≤n∧n≤9223372036854775807:=by
 unfold Lit.wf at h;rw [NO,decide_eq_true_eq,decide_eq_true_eq] at h;exact h
theorem gC.part {H:Type} {t:TypeId} {fs:Array Field} {parts:List (DataW H)} (hu:Tryz.prog.underlying t=some (.struct fs)) (h:gC t (.agg parts)) {j:Nat} {f:Field} {d:DataW H} (hf:fs[j]? = some f) (hd:parts[j]? = some d):gC f.type d:=by
 intro k hk;refine h k ?_;rw [DataW.weights,hu];refine DataW.weights_mem_each (j:=j) (t:=f.type) ?_ hd k hk;rw [List.getElem?_map,N2,hf];rfl
theorem qV {H:Type} {P:Program} {e:TypeId}:∀ {l:List (DataW H)} {d:DataW H},d ∈ l→∀ k ∈ d.weights P e,k ∈ DataW.weightsAll P e l
 | x :: l,d,hd,k,hk=>by
  rw [DataW.weightsAll,M3]
  rcases List.mem_cons.mp hd with rfl | hd
  ·exact .inl hk
  ·exact .inr (qV hd k hk)
theorem gC.elem {H:Type} {t e:TypeId} {l r:List (DataW H)} (hu:Tryz.prog.underlying t=some (.slice e)) (h:gC t (.slice l r)) {d:DataW H} (hd:d ∈ l):gC e d:=by
 intro k hk;refine h k ?_;rw [DataW.weights,hu];exact List.mem_cons_of_mem _ (List.mem_append_left _ (qV hd k hk))
theorem gC.len {H:Type} {enc:TypeId × Value→H} {W:World} {hd:Bool} {t e:TypeId} {fuel n cap:Nat} {a:Option Addr} {x:DataW H × List MemPlace} (hu:Tryz.prog.underlying t=some (.slice e)) (hb:8≤Tryz.prog.bytesOf e)
  (h:DataW.trod enc prog W 0 (fun _=>true) hd fuel t [.slice a n cap]=some x) (hl:gC t x.1):n≤100000000000000:=by
 rcases DataW.trod_slice hu h with ⟨hcs,_⟩ | ⟨a',len,cap',elems,rest,m,hm,hcs,rfl,_,_,_,hlen,_⟩
 ·simp at hcs;omega
 ·simp at hcs;obtain ⟨rfl,rfl,rfl⟩:=hcs;have h1:=hl ((elems.length+rest.length)*Tryz.prog.bytesOf e) (by rw [DataW.weights,hu]; simp);have h2:=reachBytes_lt;have h4:n*8≤(elems.length+rest.length)*Tryz.prog.bytesOf e:=Nat.mul_le_mul ag hb;omega
theorem Af {H:Type} {enc:TypeId × Value→H} {W:World} {hd:Bool} {fuel:Nat} {cs:List Value} {x:DataW H × List MemPlace}
  (hf0:DataW.trod enc prog W 0 (fun _=>true) hd fuel 28 cs=some x):∃ (a:Option Addr) (cap:Nat) (l:List Ag),cs = [.slice a l.length cap]∧iO W W a l:=by
 rcases DataW.trod_slice underlying28 hf0 with ⟨hcs,_⟩ | ⟨a,len,cap,elems,rest,n,hn,hcs,_,_,_,_,hlen,hel,_,_⟩
 ·exact ⟨none,0,[],hcs,.inl rfl⟩
 ·rw [K9] at hel;obtain ⟨f,hf⟩:=Go.Deep.choose_lt (α:=Ag × Option Addr × Nat) (n:=len) (p:=fun i (y:Ag × Option Addr × Nat) =>
    (W.cell? ((a.add (i*7)).add 0)=some (.int .i64 y.1.1)∧W.cell? ((a.add (i*7)).add 1)=some (.int .i64 y.1.2.k)∧W.cell? ((a.add (i*7)).add 2)=some (.int .i64 y.1.2.v.1)∧W.cell? ((a.add (i*7)).add 3)=some (.int .i64 y.1.2.v.2.1)∧W.cell? ((a.add (i*7)).add 4)=some (.string y.1.2.v.2.2) ∧
     W.cell? ((a.add (i*7)).add 5)=some (.int .i64 y.1.2.c)∧W.cell? ((a.add (i*7)).add 6)=some (.slice y.2.1 y.1.2.ks.length y.2.2))∧aU W W y.2.1 y.1.2.ks) (fun i hi=>by
   have key:=hel i hi;rw [M1 ag] at key;obtain ⟨cs',h1,h2⟩:=Option.bind_eq_some_iff.1 key;obtain ⟨_,hl6,hcell⟩:=N3 h1;obtain ⟨e,ai,ci,rfl,hk⟩:=EH h2;exact ⟨(e,ai,ci),⟨hcell 0 (by simp),hcell 1 (by simp),hcell 2 (by simp),hcell 3 (by simp),hcell 4 (by simp),hcell 5 (by simp),hcell 6 (by simp)⟩,hk⟩)
  refine ⟨some a,cap,(List.range len).map fun i=>(f i).1,by simpa using hcs,?_⟩;by_cases h0:len=0
  ·subst h0; exact .inl rfl
  ·obtain ⟨b,off,spot⟩:=a;have hc:=(hf 0 ag).1.1;have hspot:spot=none:=by simpa [Addr.add] using NX hc
   subst hspot;refine .inr ⟨b,off,fun i=>(f i).2.1,fun i=>(f i).2.2,rfl,ML W _ (by simpa [Addr.add] using hc),fun i hi=>?_⟩;have hi':i<len:=by simpa using hi
   obtain ⟨⟨g0,g1,g2,g3,g4,g5,g6⟩,gk⟩:=hf i hi';simp only [iD] at g0 g1 g2 g3 g4 g5 g6;simp only [NC,NM];exact ⟨g0,⟨g1,g2,g3,g4,g5,g6⟩,gk⟩
theorem JY:Tryz.prog.cellsOf 31=11:=by kernel_rfl
theorem Mv:Tryz.prog.cellsOf 25=1:=by kernel_rfl
theorem Mr:Tryz.prog.cellsOf 28=1:=by kernel_rfl
theorem Mt:Tryz.prog.cellsOf 29=1:=by kernel_rfl
instance:Inhabited Pl:=⟨.mk 0 0 default [] [] []⟩
instance:Inhabited Pw:=⟨⟨none,0,none,0,none,0,none,0⟩⟩
def zY (p:Pl) (q:Pw):List Value:=[.int .i64 p.k,p.n,p.x.k,p.x.v.1,p.x.v.2.1,p.x.v.2.2,p.x.c,.slice q.xa p.x.ks.length q.xc,.slice q.sa p.xs.length q.sc,.slice q.ga p.gs.length q.gc,.slice q.ka p.ks.length q.kc]
def vG {H:Type} (enc:TypeId × Value→H) (W:World) (hd:Bool) (m:Nat):Prop :=
 ∀ cs x,DataW.trod enc prog W 0 (fun _=>true) hd m 29 cs=some x→gC 29 x.1→∃ (a:Option Addr) (cap:Nat) (l:List Pl),cs = [.slice a l.length cap]∧nn W W a l∧∀ p ∈ l,gu p
theorem rR {H:Type} {enc:TypeId × Value→H} {W:World} {hd:Bool} {fuel:Nat} (ih:∀ m,m<fuel→vG enc W hd m) {cs:List Value} {x:DataW H × List MemPlace}
  (h:DataW.trod enc prog W 0 (fun _=>true) hd fuel 31 cs=some x) (hL:gC 31 x.1):∃ (p:Pl) (q:Pw),cs=zY p q∧kH W W p q∧gu p:=by
 obtain ⟨xs,n,hn,rfl,hl,hlen,hf⟩:=DataW.trod_struct underlying31 h;rw [JY] at hl
 match xs,hlen with
 | [y0,y1,y2,y3,y4,y5],_ =>
  have h0:=hf 0 _ rfl;have h1:=hf 1 _ rfl;have h2:=hf 2 _ rfl;have h3:=hf 3 _ rfl;have h4:=hf 4 _ rfl;have h5:=hf 5 _ rfl;have L3:=hL.part underlying31 (j:=3) rfl rfl;have L4:=hL.part underlying31 (j:=4) rfl rfl;have L5:=hL.part underlying31 (j:=5) rfl rfl
  match cs,hl with
  | [c0,c1,c2,c3,c4,c5,c6,c7,c8,c9,Bm],_ =>
   simp [q3,LH,Mv,Mr,Mt] at h0 h1 h2 h3 h4 h5;obtain ⟨k,e0,_,_⟩:=DataW.trod_int underlying3 h0;obtain ⟨m,e1,_,hwf⟩:=DataW.trod_int underlying3 h1;obtain ⟨e,a2,cap2,e2,hk2⟩:=nO (fun m _=>tp enc W hd m) h2;obtain ⟨a3,cap3,l3,e3,hk3⟩:=tp enc W hd n _ _ h3;obtain ⟨a4,cap4,l4,e4,hk4⟩:=Af h4;obtain ⟨a5,cap5,l5,e5,hk5,hok5⟩:=ih n ag _ _ h5 L5;rw [e3] at h3;rw [e4] at h4;have b3:=gC.len underlying25 BP h3 L3;have b4:=gC.len underlying28 EX h4 L4;simp at e0 e1 e2 e3 e4 e5;obtain ⟨r1,r2,r3,r4,r5,r6⟩:=e2
   subst e0 e1 r1 r2 r3 r4 r5 r6 e3 e4 e5;exact ⟨.mk k m e l3 l4 l5,⟨a2,cap2,a3,cap3,a4,cap4,a5,cap5⟩,rfl,⟨hk2,hk3,hk4,hk5⟩,.mk _ _ _ _ _ _ (wf_i64 hwf) b3 b4 hok5⟩
theorem Eu {H:Type} (enc:TypeId × Value→H) (W:World) (hd:Bool) (fuel:Nat):vG enc W hd fuel:=by
 induction fuel using Nat.strongRecOn with
 | ind fuel ih =>
  intro cs x h hL;rcases DataW.trod_slice underlying29 h with ⟨hcs,_⟩ | ⟨a,len,cap,elems,rest,n,hn,hcs,rfl,_,_,_,hlen,hel,_,_⟩
  ·exact ⟨none,0,[],hcs,.nil _,fun p hp=>by cases hp⟩
  ·rw [JY] at hel;obtain ⟨f,hf⟩:=Go.Deep.choose_lt (α:=Pl × Pw) (n:=len) (p:=fun i (y:Pl × Pw) =>
     (∀ j (hj:j<(zY y.1 y.2).length),W.cell? ((a.add (i*11)).add j)=some (zY y.1 y.2)[j])∧kH W W y.1 y.2∧gu y.1) (fun i hi=>by
    have key:=hel i hi;rw [M1 ag] at key;obtain ⟨cs',h1,h2⟩:=Option.bind_eq_some_iff.1 key;obtain ⟨_,hl6,hcell⟩:=N3 h1;obtain ⟨p,q,rfl,hk,hok⟩:=rR (fun m hm=>ih m ag) h2 (hL.elem underlying29 (List.mem_map_of_mem (MC _)));exact ⟨(p,q),fun j hj=>(hcell j hj).trans (M1 hj),hk,hok⟩)
   refine ⟨some a,cap,(List.range len).map fun i=>(f i).1,by simpa using hcs,?_,?_⟩
   ·by_cases h0:len=0
    ·subst h0; exact .nil _
    ·obtain ⟨b,off,spot⟩:=a;have hc:=(hf 0 ag).1 0 (by simp [zY]);have hspot:spot=none:=by simpa [Addr.add] using NX hc
     subst hspot;have key:∀ i,i<len→ft W b (off+i*11) (f i).1 (f i).2:=fun i hi=>by
      have g:=(hf i hi).1;simp only [iD] at g;exact ⟨g 0 (by simp [zY]),g 1 (by simp [zY]),⟨g 2 (by simp [zY]),g 3 (by simp [zY]),g 4 (by simp [zY]),g 5 (by simp [zY]),g 6 (by simp [zY]),g 7 (by simp [zY])⟩,g 8 (by simp [zY]),g 9 (by simp [zY]),g 10 (by simp [zY])⟩
     refine .some b off _ (fun i=>(f i).2) (ML W _ (by simpa [Addr.add] using hc)) ?_ ?_ ?_ ?_ ?_ <;> (intro i hi; have hi':i<len:=by simpa using hi) <;> simp only [NC,NM]
     ·exact key i hi'
     ·exact (hf i hi').2.1.x
     ·exact (hf i hi').2.1.xs
     ·exact (hf i hi').2.1.gs
     ·exact (hf i hi').2.1.ks
   ·intro p hp;obtain ⟨i,hi,rfl⟩:=List.mem_map.1 hp;exact (hf i (by simpa using hi)).2.2
theorem vj {H:Type} {ts:List TypeId} {ds:List (DataW H)} {t:TypeId} {d:DataW H} (hs:(DataW.weightsEach prog ts ds).all (· ≤ reachBytes)=true) {j:Nat} (ht:ts[j]? = some t) (hd:ds[j]? = some d):gC t d:=by
 intro k hk;have:=List.all_eq_true.1 hs _ (DataW.weights_mem_each ht hd k hk)
 simpa using this
theorem DQ {H:Type} {enc:TypeId × Value→H} {W:World} {r:Reach} {b0:Nat} {v:Value} {d:DataW H} {p:List MemPlace}
  (hv:Value.okWide prog W r b0 31 v) (h:DataW.Trod enc prog W 0 (fun _=>true) true 31 v d p) (hL:gC 31 d):∃ (e:Pl) (q:Pw),v=fw e q∧kH W W e q∧gu e:=by
 obtain ⟨cs,rfl,_⟩:=okWide_struct underlying31 hv;obtain ⟨fuel,hf⟩:=h;obtain ⟨e,q,he,hk⟩:=rR (fun m _=>Eu enc W true m) hf hL;refine ⟨e,q,?_,hk⟩;have e':cs.toList=zY e q:=by simpa [Value.cells] using he
 exact congrArg Value.agg (Array.toList_inj.mp e')
theorem qZ:Tryz.prog.cellsOf 47=2:=by kernel_rfl
theorem Mo:Tryz.prog.cellsOf 38=1:=by kernel_rfl
theorem Mp:Tryz.prog.cellsOf 33=1:=by kernel_rfl
theorem zT {H:Type} {enc:TypeId × Value→H} {W:World} {hd:Bool} {fuel:Nat} {cs:List Value} {x:DataW H × List MemPlace}
  (hf:DataW.trod enc prog W 0 (fun _=>true) hd fuel 38 cs=some x):∃ (a:Option Addr) (cap:Nat) (l:List Zp),cs = [.slice a l.length cap]∧aK W a l∧(a=none→cap=0):=by
 rcases Go.Deep.open_slice underlying38 hf with ⟨hcs,_⟩ | ⟨a,len,cap,m,n,D,Pl,hcs,_,hl,hm,hmm,_,hx⟩
 ·exact ⟨none,0,[],hcs,⟨by simp,.inl rfl⟩,fun _=>rfl⟩
 ·rw [qZ] at hx;simp only [if_true] at hmm;obtain ⟨f,hf'⟩:=Go.Deep.choose_lt (α:=Zp) (n:=len) (p:=fun i (z:Zp)=>W.cell? ((a.add (i*2)).add 1)=some (.int .i64 z.2)∧∃ ai cap,W.cell? ((a.add (i*2)).add 0)=some (.slice ai z.1.length cap)∧aZ W ai z.1) (fun i hi=>by
   obtain ⟨cs',h1,h2⟩:=hx i ag;exact C2 h1 h2)
  refine ⟨some a,cap,(List.range len).map f,by simpa using hcs,⟨?_,?_⟩,fun h=>by cases h⟩
  ·simp; omega
  by_cases h0:len=0
  ·left; simp [h0]
  ·right;obtain ⟨b,off,spot⟩:=a;obtain ⟨_,_,hc,_⟩:=(hf' 0 ag).2;have hspot:spot=none:=by simpa [Addr.add] using NX hc
   subst hspot;refine ⟨b,off,rfl,?_,fun i hi=>?_⟩
   ·exact ML W _ (by simpa [Addr.add] using hc)
   ·have hi':i<len:=by simpa using hi
    have:=hf' i hi';simp only [iD] at this;simp only [NC,NM];exact this
theorem Ba {H:Type} {enc:TypeId × Value→H} {W:World} {hd:Bool} {fuel:Nat} {cs:List Value} {x:DataW H × List MemPlace}
  (hf:DataW.trod enc prog W 0 (fun _=>true) hd fuel 32 cs=some x):∃ (a:Option Addr) (cap:Nat) (l:List (List Zp)),cs = [.slice a l.length cap]∧nN W a l:=by
 rcases Go.Deep.open_slice underlying32 hf with ⟨hcs,_⟩ | ⟨a,len,cap,m,n,D,Pl,hcs,_,hl,hm,hmm,_,hx⟩
 ·exact ⟨none,0,[],hcs,.inl rfl⟩
 ·rw [Mo] at hx;simp only [if_true] at hmm;obtain ⟨f,hf'⟩:=Go.Deep.choose_lt (α:=List Zp × Option Addr × Nat) (n:=len) (p:=fun i y=>W.cell? ((a.add (i*1)).add 0)=some (.slice y.2.1 y.1.length y.2.2)∧aK W y.2.1 y.1∧(y.2.1=none→y.2.2=0)) (fun i hi=>by
   obtain ⟨cs',h1,h2⟩:=hx i ag;obtain ⟨_,_,hcell⟩:=N3 h1;obtain ⟨ai,ci,l,rfl,hz,hn⟩:=zT h2;exact ⟨(l,ai,ci),hcell 0 (by simp),hz,hn⟩)
  refine ⟨some a,cap,(List.range len).map fun i=>(f i).1,by simpa using hcs,?_⟩;by_cases h0:len=0
  ·left; simp [h0]
  ·obtain ⟨b,off,spot⟩:=a;have hc:=(hf' 0 ag).1;have hspot:spot=none:=by simpa [Addr.add] using NX hc
   subst hspot;refine .inr ⟨b,off,fun i=>(f i).2.1,fun i=>(f i).2.2,rfl,ML W _ (by simpa [Addr.add] using hc),fun i hi=>?_⟩;have hi':i<len:=by simpa using hi
   obtain ⟨g0,g1,g2⟩:=hf' i hi';simp only [iD,Nat.mul_one,NW] at g0;simp only [NC,NM];exact ⟨g0,g1,g2⟩
theorem Dk:24≤Tryz.prog.bytesOf 38:=by decide +kernel
theorem gC.Ln {H:Type} {enc:TypeId × Value→H} {W:World} {hd:Bool} {t e:TypeId} {fuel n cap:Nat} {a:Option Addr} {x:DataW H × List MemPlace} (hu:Tryz.prog.underlying t=some (.slice e)) (hb:24≤Tryz.prog.bytesOf e)
  (h:DataW.trod enc prog W 0 (fun _=>true) hd fuel t [.slice a n cap]=some x) (hl:gC t x.1):n≤10000000000000:=by
 rcases DataW.trod_slice hu h with ⟨hcs,_⟩ | ⟨a',len,cap',elems,rest,m,hm,hcs,rfl,_,_,_,hlen,_⟩
 ·simp at hcs;omega
 ·simp at hcs;obtain ⟨rfl,rfl,rfl⟩:=hcs;have h1:=hl ((elems.length+rest.length)*Tryz.prog.bytesOf e) (by rw [DataW.weights,hu]; simp);have h2:=reachBytes_lt;have h4:n*24≤(elems.length+rest.length)*Tryz.prog.bytesOf e:=Nat.mul_le_mul ag hb;omega
theorem EP {H:Type} {enc:TypeId × Value→H} {W:World} {r:Reach} {b0:Nat} {v:Value} {d:DataW H} {p:List MemPlace}
  (hv:Value.okWide prog W r b0 32 v) (h:DataW.Trod enc prog W 0 (fun _=>true) true 32 v d p) (hL:gC 32 d):∃ (a:Option Addr) (cap:Nat) (l:List (List Zp)),v = .slice a l.length cap∧nN W a l∧l.length≤10000000000000:=by
 obtain ⟨a0,len,cap,rfl⟩:=okWide_slice underlying32 hv;obtain ⟨fuel,hf⟩:=h;obtain ⟨a,c,l,e,hs⟩:=Ba hf;have e':Value.slice a0 len cap = .slice a l.length c:=by simpa [Value.cells] using e
 refine ⟨a,c,l,e',hs,?_⟩;have hf2:DataW.trod enc prog W 0 (fun _=>true) true fuel 32 [.slice a l.length c]=some (d,p):=by rw [← e']; exact hf
 exact gC.Ln underlying32 Dk hf2 hL
theorem Bi {H:Type} {enc:TypeId × Value→H} {W:World} {hd:Bool} {fuel:Nat} {cs:List Value} {x:DataW H × List MemPlace}
  (hf:DataW.trod enc prog W 0 (fun _=>true) hd fuel 33 cs=some x):∃ (a:Option Addr) (cap:Nat) (l:List Int),cs = [.slice a l.length cap]∧bf W W a l:=by
 rcases Go.Deep.open_slice1 underlying33 q3 hf with ⟨hcs,_⟩ | ⟨a,len,cap,m,n,V,D,Pl,hcs,_,hl,hm,hmm,_,hx⟩
 ·exact ⟨none,0,[],hcs,⟨by simp,.inl rfl⟩⟩
 ·simp only [if_true] at hmm;obtain ⟨f,hf'⟩:=Go.Deep.choose_lt (α:=Int) (n:=len) (p:=fun i (k:Int)=>W.cell? (a.add i)=some (.int .i64 k)) (fun i hi=>by
   obtain ⟨h1,h2⟩:=hx i ag;obtain ⟨k,e0,_,_⟩:=DataW.trod_int underlying3 h2;simp at e0;exact ⟨k,by rw [h1,e0]⟩)
  refine ⟨some a,cap,(List.range len).map f,by simpa using hcs,?_,?_⟩
  ·simp; omega
  by_cases h0:len=0
  ·left; simp [h0]
  ·right;obtain ⟨b,off,spot⟩:=a;have hc:=hf' 0 ag;have hspot:spot=none:=by simpa [Addr.add] using NX hc
   subst hspot;refine ⟨b,off,rfl,ML W _ (by simpa [Addr.add] using hc),fun i hi=>?_⟩;have hi':i<len:=by simpa using hi
   have:=hf' i hi';simp only [iD] at this;simp only [NC,NM];exact this
theorem yu {H:Type} {enc:TypeId × Value→H} {W:World} {r:Reach} {b0:Nat} {v:Value} {d:DataW H} {p:List MemPlace}
  (hv:Value.okWide prog W r b0 22 v) (h:DataW.Trod enc prog W 0 (fun _=>true) true 22 v d p):∃ (a:Option Addr) (cap:Nat) (l:List (List Int)),v = .slice a l.length cap∧jG W W a l:=by
 obtain ⟨a0,len0,cap0,rfl⟩:=okWide_slice underlying22 hv;obtain ⟨fuel,hf⟩:=h;rcases Go.Deep.open_slice underlying22 hf with ⟨hcs,_⟩ | ⟨a,len,cap,m,n,D,Pl,hcs,_,hl,hm,hmm,_,hx⟩
 ·exact ⟨none,0,[],by simpa [Value.cells] using hcs,.inl rfl⟩
 ·rw [Mp] at hx;simp only [if_true] at hmm;obtain ⟨f,hf'⟩:=Go.Deep.choose_lt (α:=List Int × Option Addr × Nat) (n:=len) (p:=fun i y=>W.cell? ((a.add (i*1)).add 0)=some (.slice y.2.1 y.1.length y.2.2)∧bf W W y.2.1 y.1) (fun i hi=>by
   obtain ⟨cs',h1,h2⟩:=hx i ag;obtain ⟨_,_,hcell⟩:=N3 h1;obtain ⟨ai,ci,l,rfl,hz⟩:=Bi h2;exact ⟨(l,ai,ci),hcell 0 (by simp),hz⟩)
  refine ⟨some a,cap,(List.range len).map fun i=>(f i).1,by simpa [Value.cells] using hcs,?_⟩;by_cases h0:len=0
  ·left; simp [h0]
  ·obtain ⟨b,off,spot⟩:=a;have hc:=(hf' 0 ag).1;have hspot:spot=none:=by simpa [Addr.add] using NX hc
   subst hspot;refine .inr ⟨b,off,fun i=>(f i).2.1,fun i=>(f i).2.2,rfl,ML W _ (by simpa [Addr.add] using hc),fun i hi=>?_⟩;have hi':i<len:=by simpa using hi
   obtain ⟨g0,g1⟩:=hf' i hi';simp only [iD,Nat.mul_one,NW] at g0;simp only [NC,NM];exact ⟨g0,g1⟩
end Go.Proofs.YtoefpglknaiaeaaGreat
namespace Go.Proofs.YtoefpglknaiaeaaGreat
open Go.Lib Go.RowKit Go.Shelf _root_.Go.Proofs.Tryz
def applE:List (List Zp)→List (List Zp)→Int
 | a :: l,b :: r=>if eJ 1 a b≠0 then eJ 1 a b else applE l r
 | _,_=>0
def applL:List (List Zp)→List (List Zp)→List (List Zp)
 | a :: l,b :: r=>dM 1 a b :: applL l r
 | _,_=>[]
def applyE (data more:List (List Zp)):Int:=if data.length≠more.length then 8 else applE data more
def applyZ (data more:List (List Zp)):List (List Zp):=if applyE data more=0 then applL data more else []
theorem applE_bad {l r:List (List Zp)} {j:Nat} (h:j<l.length) (h':j<r.length) (he:¬ eJ 1 l[j] r[j]=0):applE (l.drop j) (r.drop j)=eJ 1 l[j] r[j]:=by
 rw [List.drop_eq_getElem_cons h,List.drop_eq_getElem_cons h',applE,if_pos he]
theorem applE_next {l r:List (List Zp)} {j:Nat} (h:j<l.length) (h':j<r.length) (he:eJ 1 l[j] r[j]=0):applE (l.drop j) (r.drop j)=applE (l.drop (j+1)) (r.drop (j+1)):=by
 rw [List.drop_eq_getElem_cons h,List.drop_eq_getElem_cons h',applE,if_neg (by simp [he])]
theorem applE_end {l r:List (List Zp)} {j:Nat} (h:l.length≤j):applE (l.drop j) (r.drop j)=0:=by
 rw [List.drop_eq_nil_of_le h,applE];intro a l b r h; cases h
theorem applL_len:∀ {l r:List (List Zp)},l.length=r.length→(applL l r).length=l.length
 | [],[],_=>rfl
 | a :: l,b :: r,h=>by simp only [applL,List.length_cons]; rw [applL_len (by simpa using h)]
 | [],b :: r,h=>by simp at h
 | a :: l,[],h=>by simp at h
theorem applL_take:∀ {l r:List (List Zp)} {i:Nat} (h:i<l.length) (h':i<r.length),(applL l r).take (i+1)=(applL l r).take i ++ [dM 1 l[i] r[i]]
 | a :: l,b :: r,0,_,_=>by simp [applL]
 | a :: l,b :: r,i+1,h,h'=>by
  simp only [applL,List.take_succ_cons,List.getElem_cons_succ,List.cons_append]
  rw [applL_take (l:=l) (r:=r) (by simpa using h) (by simpa using h')]
def wrongD (ts:List (List Int)) (p:Pl) (data more:List (List Zp)):Int:=if dp ts p≠0 then dp ts p else if fI ts data≠0 then fI ts data else fI ts more
def ofDE (ts:List (List Int)) (p:Pl) (data more:List (List Zp)):Int:=if wrongD ts p data more≠0 then wrongD ts p data more else if applyE data more≠0 then applyE data more else if Fx ts (applyZ data more) p≠0 then Fx ts (applyZ data more) p else if Fx ts data p≠0 then Fx ts data p else eJ (-1) (Fq ts (applyZ data more) p) (Fq ts data p)
def ofDZ (ts:List (List Int)) (p:Pl) (data more:List (List Zp)):List Zp:=if wrongD ts p data more≠0∨applyE data more≠0∨Fx ts (applyZ data more) p≠0∨Fx ts data p≠0 then [] else dM (-1) (Fq ts (applyZ data more) p) (Fq ts data p)
theorem wrongD_ok {ts:List (List Int)} {p:Pl} {data more:List (List Zp)} (h:wrongD ts p data more=0):dp ts p=0∧fI ts data=0∧fI ts more=0:=by
 unfold wrongD at h;by_cases c:dp ts p=0
 ·rw [if_neg (by simp [c])] at h;by_cases c':fI ts data=0
  ·rw [if_neg (by simp [c'])] at h;exact ⟨c,c',h⟩
  ·rw [if_pos c'] at h; exact absurd h c'
 ·rw [if_pos c] at h; exact absurd h c
theorem wrongD_len {ts:List (List Int)} {p:Pl} {data more:List (List Zp)} (h:wrongD ts p data more=0):data.length≤8:=by
 obtain ⟨h1,h2,_⟩:=wrongD_ok h;rw [(Ha h2).1];exact Lz (fX h1).1
theorem infoS:(Tryz.prog.info? 38).map (fun i=>(i.zero,i.size,i.bytes))=some (some (.slice none 0 0),1,24):=by kernel_rfl
theorem make_setsN {n:Nat} (h:n≤10000000000000) (w:World):∃ c:Array Value,c.size=n∧(Instr.makeSlice 32 n n).run prog w = .ok (.slice (some (ah w 0)) n n) (w.alloc (.cells c 38)):=by
 obtain ⟨i0,hi,hj0,hj1,hj2⟩:=info_parts infoS;have hr:=run_make (P:=prog) w 32 38 i0 _ underlying32 hi hj0 .i64 .i64 n n ag ag (by rw [hj2]; omega) ag;rw [Int.toNat_natCast] at hr;exact ⟨_,by rw [size_madeCells,hj1,Nat.mul_one],hr⟩
theorem applyT_at (data more:List (List Zp)) (da:Option Addr) (dc:Nat) (ma:Option Addr) (mc:Nat) (w:World) (hD:nN w da data) (hM:nN w ma more) (hn:data.length≤10000000000000) :
  Calls prog 28 #[.slice da data.length dc,.slice ma more.length mc] w fun e w'=>∃ a c,e = .returned (.tuple #[.slice a (applyZ data more).length c,.int .i64 (applyE data more)])∧nN w' a (applyZ data more)∧Below w w w':=by
 generalize hr:applyE data more=r;generalize hz:applyZ data more=z;have HR:=aB hr;have HZ:=aB hz;clear hr hz;obtain ⟨cs,hcs,hmk⟩:=make_setsN hn w;have S0:=zX.lX w cs;rw [hcs] at S0;go_enter func28,ntmps28;by_cases hl:data.length=more.length;rotate_left
 ·have hne:((data.length:Int) != (more.length:Int))=true:=by simp; omega
  have e:r=8:=by rw [← HR.out]; unfold applyE; rw [if_pos hl]
  have e':z = []:=by rw [← HZ.out]; unfold applyZ; rw [HR.out,e,if_neg (by decide)]
  subst e e';go_wp2_with fail
  exact bJ rfl rfl ⟨none,0,rfl,.inl rfl,Below.refl _ _⟩
 have hne:((data.length:Int) != (more.length:Int))=false:=by simp; omega
 have HR':Hid (r=applE (data.drop 0) (more.drop 0)):=by show _=_; rw [← HR.out]; unfold applyE; rw [if_neg (by simpa using hl)]; rfl
 have HZ':Hid (z=if r=0 then applL data more else []):=by show _=_; rw [← HZ.out,← HR.out]; rfl
 have HLn:=aB (applL_len hl);have hl1:data.length≤more.length:=by omega
 have hl2:more.length≤data.length:=by omega
 clear HR HZ hl hcs;have hal:=aN w (.cells cs 38);go_upto_region 4 with fail
 clear hne hmk;generalize w.alloc _=w1 at *;go_wp2_with fail
 go_loopw [21] (fun i wr=>∃ j:Nat,j≤data.length∧i = .int .i64 j∧Hid (r=applE (data.drop j) (more.drop j))∧zX wr w data.length ((applL data more).take j)∧Below w w wr) (fun i _=>data.length - (intOf i).toNat)
 case atStart=>exact ⟨0,Nat.zero_le _,rfl,HR',by simpa using S0,hal⟩
 case round =>
  obtain ⟨j,hj,rfl,HT,hS,hb⟩:=hrel;clear S0 HR' hal;by_cases hlt:j<data.length
  ·have hlt':j<more.length:=by omega
   obtain ⟨b1,o1,ai,ci,rfl,hb1,c1,hz1,hn1⟩:=(hD.next hb).elem hlt;obtain ⟨b2,o2,zi,zc,rfl,hb2,c2,hz2,_⟩:=(hM.next hb).elem hlt';have hjz:(j:Int)<(data.length:Int):=by omega
   have hjt:(j:Int)<(more.length:Int):=by omega
   have hj0:(0:Int)≤(j:Int):=by omega
   have hgl:=hS.lt;have HBad:Hid (¬ eJ 1 data[j] more[j]=0→r=eJ 1 data[j] more[j]):=fun c=>HT.out.trans (applE_bad hlt hlt' c)
   have HOk:Hid (eJ 1 data[j] more[j]=0→r=applE (data.drop (j+1)) (more.drop (j+1))):=fun c=>HT.out.trans (applE_next hlt hlt' c)
   have HTk:=aB (applL_take hlt hlt');have con:=Kh ai zi ci zc data[j] more[j] wr hz1 hz2 hn1;clear HT;generalize eJ 1 data[j] more[j]=er at *;generalize dM 1 data[j] more[j]=zr at *;go_wp2_with fail
   refine con.mono ?_;rintro e w5 ⟨v5,rfl,O5,hb5⟩;clear con c1 c2;obtain ⟨a5,c5,ev,_,_⟩:=O5.KW;subst ev;have hA5:=chain hb hb5;dsimp only;by_cases h0:er=0
   ·have HT':=aB (HOk.out h0);subst h0;have S5:=hS.next hb5;have hlen:((applL data more).take j).length=j:=by rw [List.length_take,HLn.out]; omega
    have S6:=S5.store (by rw [hlen]; exact hlt) O5 hgl;rw [hlen,← HTk.out] at S6;obtain ⟨u5,r5⟩:=S5.room j hlt;have f5:=S5.fz j;have hA6:=hA5.setCell (p:=ah w j) (Nat.le_refl _) (.slice a5 zr.length c5);clear HBad HOk HTk S5 hlen hS O5;go_wp2_with fail
    go_roundw
    case rel=>exact ⟨j+1,by omega,by go_num,HT',S6,hA6⟩
    case measure=>simp [intOf]; omega
   ·have e:r=er:=HBad.out h0;have h0b:(er != 0)=true:=by simpa using h0
    have e':z = []:=by rw [HZ'.out,if_neg (by rw [e]; exact h0)]
    subst e e';clear HBad HOk HTk hS O5 HZ';go_wp2_with fail
    exact bJ rfl rfl ⟨none,0,rfl,.inl rfl,hA5⟩
  ·have e:r=0:=by rw [HT.out,applE_end ag]
   have ej:j=data.length:=by omega
   have hjn:¬ (j:Int)<(data.length:Int):=by omega
   have e':z=applL data more:=by rw [HZ'.out,if_pos e]
   have hd:=hS.dt;rw [ej,← HLn.out,List.take_length,← e'] at hd;have hzl:(data.length:Nat)=z.length:=by rw [e']; exact HLn.out.symm
   have HZl:=aB hzl;subst e;clear HT HZ' e' hS ej hzl;go_wp2_with fail
   exact bodyPost_ret (v:=.tuple #[.slice (some (ah w 0)) data.length data.length,aD]) (by simp [results,results28,go_sem]) rfl ⟨some (ah w 0),⟨data.length,by rw [← HZl.out]⟩,hd,hb⟩
def TbX (w:World) (a:Option Addr) (ts:List (List Int)):Prop:=jG w w a ts
theorem TbX.next {w w1:World} {a:Option Addr} {ts:List (List Int)} (h:TbX w a ts) (hb:Below w w w1):TbX w1 a ts:=(jG.next h hb (Nat.le_refl _)).up hb.size
def PlX (w:World) (p:Pl) (q:Pw):Prop:=kH w w p q
theorem PlX.next {w w1:World} {p:Pl} {q:Pw} (h:PlX w p q) (hb:Below w w w1):PlX w1 p q:=(kH.next h hb (Nat.le_refl _)).up hb.size
structure ElX (w:World) (b:Nat) (p:Pl) (q:Pw):Prop where
 el:ft w b 0 p q
 lt:b<w.heap.size
theorem ElX.next {w w1:World} {b:Nat} {p:Pl} {q:Pw} (h:ElX w b p q) (hb:Below w w w1):ElX w1 b p q:=⟨h.el.next hb h.lt,Nat.lt_of_lt_of_le h.lt hb.size⟩
theorem wrongD_at (ts:List (List Int)) (p:Pl) (q:Pw) (data more:List (List Zp)) (ta:Option Addr) (tc:Nat) (da:Option Addr) (dc:Nat) (ma:Option Addr) (mc:Nat) (w:World) (hT:jG w w ta ts) (hp:kH w w p q) (hk:gu p) (hD:nN w da data) (hM:nN w ma more) :
  Calls prog 56 #[.slice ta ts.length tc,fw p q,.slice da data.length dc,.slice ma more.length mc] w fun e w'=>e = .returned (.int .i64 (wrongD ts p data more))∧Below w w w':=by
 have hA:=aN w (.cells #[p.k,p.n,p.x.k,p.x.v.1,p.x.v.2.1,p.x.v.2.2,p.x.c,.slice q.xa p.x.ks.length q.xc,.slice q.sa p.xs.length q.sc,.slice q.ga p.gs.length q.gc,.slice q.ka p.ks.length q.kc] 31);have EL:=ft.new w p q 31
 have con:=GF ts p q ta tc (w.alloc (.cells #[p.k,p.n,p.x.k,p.x.v.1,p.x.v.2.1,p.x.v.2.2,p.x.c,.slice q.xa p.x.ks.length q.xc,.slice q.sa p.xs.length q.sc,.slice q.ga p.gs.length q.gc,.slice q.ka p.ks.length q.kc] 31)) ((hT.next hA (Nat.le_refl _)).up hA.size) ((hp.next hA (Nat.le_refl _)).up hA.size) hk;have h8:Hid (dp ts p=0→ts.length≤8):=fun h=>Lz (fX h).1
 generalize hee:wrongD ts p data more=r;have HE:=aB hee;generalize hez:mG ts p=ez at con;generalize hle:dp ts p=le at con;have HLe:=aB hle;clear hk hee hez hle;obtain ⟨y0,y1,⟨y2,y3,y4,y5,y6,y7⟩,y8,y9,y10⟩:=EL;simp only [Nat.zero_add] at y1 y2 y3 y4 y5 y6 y7 y8 y9 y10;unfold fw at con ⊢;go_enter func56,ntmps56;go_upto_region 1 with fail
 generalize w.alloc _=wA at *;go_wp2_with fail
 refine con.mono ?_;rintro e w1 ⟨a1,c1,rfl,_,hb1⟩;clear con y0 y1 y2 y3 y4 y5 y6 y7 y8 y9 y10;have hA1:=chain hA hb1;by_cases he:le=0;rotate_left
 ·have e1:r=le:=by rw [← HE.out]; unfold wrongD; rw [HLe.out,if_pos he]
  subst e1;have heb:(r != 0)=true:=by simpa using he
  clear HE HLe h8;go_wp2_with fail
  go_ret;exact ⟨rfl,hA1⟩
 have g8:=h8.out (by rw [HLe.out,he]);have con:=Fe ts data ta tc da dc w1 ((hT.next hA1 (Nat.le_refl _)).up hA1.size) (hD.next hA1) g8;generalize hde:fI ts data=de at con;have HDe:=aB hde;have HL0:Hid (dp ts p=0):=by show _=_; rw [HLe.out,he]
 clear hde HLe h8;subst he;go_wp2_with fail
 refine bC con fun w3 hb3=>?_;clear con;have hA3:=chain hA1 hb3;dsimp only;by_cases hd:de=0;rotate_left
 ·have e1:r=de:=by rw [← HE.out]; unfold wrongD; rw [HL0.out,HDe.out,if_neg (by simp),if_pos hd]
  subst e1;have heb:(r != 0)=true:=by simpa using hd
  clear HE HDe HL0;go_wp2_with fail
  go_ret;exact ⟨rfl,hA3⟩
 have con:=Fe ts more ta tc ma mc w3 ((hT.next hA3 (Nat.le_refl _)).up hA3.size) (hM.next hA3) g8;have e1:fI ts more=r:=by rw [← HE.out]; unfold wrongD; rw [HL0.out,HDe.out,hd,if_neg (by simp),if_neg (by simp)]
 rw [e1] at con;clear HE HDe HL0 e1;subst hd;go_wp2_with fail
 refine bC con fun w4 hb4=>?_;clear con;go_wp2_with fail
 go_ret;exact ⟨rfl,chain hA3 hb4⟩
def AsksQ (g:Nat) (cb:Array Value) (fE:List (List Zp)→Int) (fZ:List (List Zp)→List Zp) (w:World):Prop :=
 ∀ (data:List (List Zp)) (da:Option Addr) (dc:Nat) (W:World),nN W da data→Below w w W→Calls prog g (#[.slice da data.length dc] ++ cb) W fun e w'=>∃ v,e = .returned (.tuple #[v,.int .i64 (fE data)])∧eA W w' v (fZ data)∧Below W W w'
theorem of1_at (ts:List (List Int)) (p:Pl) (q:Pw) (ta:Option Addr) (tc:Nat) (B1 B2:Nat) (w:World) (hB1:w.cell? (ah B1 0)=some (.slice ta ts.length tc)) (hB2:ft w B2 0 p q) (hT:jG w w ta ts) (hp:kH w w p q) (hk:gu p) :
  AsksQ 58 #[ah B1 0,ah B2 0] (fun data=>Fx ts data p) (fun data=>Fq ts data p) w:=by
 intro data da dc W hD hb;have hc:=(hb.cell (p:=ah B1 0) (World.block_lt_of_cell? _ _ hB1)).trans hB1;have EL:=hB2.next hb (World.block_lt_of_cell? _ _ hB2.c0);have con:=Hx ts data p q ta tc da dc W ((hT.next hb (Nat.le_refl _)).up hb.size) hD ((hp.next hb (Nat.le_refl _)).up hb.size) hk;dsimp only;generalize Fx ts data p=ee at *;generalize Fq ts data p=ez at *;clear hB1 hB2 hT hp hk hD;obtain ⟨y0,y1,⟨y2,y3,y4,y5,y6,y7⟩,y8,y9,y10⟩:=EL;simp only [Nat.zero_add] at y1 y2 y3 y4 y5 y6 y7 y8 y9 y10;unfold fw at con
 show Calls prog 58 #[.slice da data.length dc,ah B1 0,ah B2 0] W _;go_enter func58,ntmps58;go_wp2_with fail
 refine con.mono ?_;rintro e w1 ⟨v1,rfl,O1,hb1⟩;clear con;go_wp2_with fail
 exact bJ rfl rfl ⟨_,rfl,O1,hb1⟩
def betE (fE:List (List Zp)→Int) (fZ:List (List Zp)→List Zp) (a b:List (List Zp)):Int:=if fE b≠0 then fE b else if fE a≠0 then fE a else eJ (-1) (fZ b) (fZ a)
def betZ (fE:List (List Zp)→Int) (fZ:List (List Zp)→List Zp) (a b:List (List Zp)):List Zp:=if fE b≠0∨fE a≠0 then [] else dM (-1) (fZ b) (fZ a)
theorem between_at (g:Nat) (cb:Array Value) (fE:List (List Zp)→Int) (fZ:List (List Zp)→List Zp) (a b:List (List Zp)) (aa:Option Addr) (ac:Nat) (ba:Option Addr) (bc:Nat) (w:World) (eg:∀ args w,(callFunc g args).run prog w = .ok (.enter g args) w) (hm:AsksQ g cb fE fZ w) (hA:nN w aa a) (hB:nN w ba b) :
  Calls prog 57 #[.slice aa a.length ac,.slice ba b.length bc,.func (.func g) #[] cb] w fun e w'=>∃ v,e = .returned (.tuple #[v,.int .i64 (betE fE fZ a b)])∧eA w w' v (betZ fE fZ a b)∧Below w w w':=by
 generalize hee:betE fE fZ a b=ee;generalize hez:betZ fE fZ a b=ez;have HE:=aB hee;have HZ:=aB hez;have HM:=aB hm;have con:=hm b ba bc w hB (Below.refl _ _);generalize hfb:fE b=eb at con;generalize hzb:fZ b=zb at con;have HFb:=aB hfb;have HZb:=aB hzb;clear hee hez hfb hzb hm;go_enter func57,ntmps57;go_upto_region 2 with (go_at_fn g; refine con.mono ?_; rintro e w1 ⟨v1,rfl,O1,hb1⟩)
 clear con;obtain ⟨a1,c1,rfl,zs1,n1⟩:=O1.KW;by_cases h0:eb=0;rotate_left
 ·have e1:ee=eb:=by rw [← HE.out]; unfold betE; rw [HFb.out,if_pos h0]
  have e2:ez = []:=by rw [← HZ.out]; unfold betZ; rw [HFb.out,if_pos (.inl h0)]
  subst e1 e2;have hb0:(ee != 0)=true:=by simpa using h0
  clear HE HZ HM HFb HZb O1 zs1;go_wp2_with fail
  exact bJ rfl rfl ⟨_,rfl,xE _ _,hb1⟩
 have con:=HM.out a aa ac w1 (hA.next hb1) hb1;generalize hfa:fE a=ea at con;generalize hza:fZ a=za at con;have HFa:=aB hfa;have HZa:=aB hza;have HFb0:Hid (fE b=0):=by show _=_; rw [HFb.out,h0]
 clear hfa hza HM HFb O1;subst h0;go_upto_region 5 with (go_at_fn g; refine con.mono ?_; rintro e w2 ⟨v2,rfl,O2,hb2⟩)
 clear con;obtain ⟨a2,c2,rfl,KW,n2⟩:=O2.KW;have hA2:=chain hb1 hb2;have zs1:=zs1.next hb2;by_cases h0:ea=0;rotate_left
 ·have e1:ee=ea:=by rw [← HE.out]; unfold betE; rw [HFb0.out,HFa.out,if_neg (by simp),if_pos h0]
  have e2:ez = []:=by rw [← HZ.out]; unfold betZ; rw [HFa.out,if_pos (.inr h0)]
  subst e1 e2;have hb0:(ee != 0)=true:=by simpa using h0
  clear HE HZ HFb0 HZb HFa HZa O2 KW zs1;go_wp2_with fail
  exact bJ rfl rfl ⟨_,rfl,xE _ _,hA2⟩
 have e1:ee=eJ (-1) zb za:=by rw [← HE.out]; unfold betE; rw [HFb0.out,HFa.out,h0,HZb.out,HZa.out,if_neg (by simp),if_neg (by simp)]
 have e2:ez=dM (-1) zb za:=by rw [← HZ.out]; unfold betZ; rw [HFb0.out,HFa.out,h0,HZb.out,HZa.out,if_neg (by simp)]
 have con:=J9 a1 a2 c1 c2 zb za w2 zs1 KW n1;rw [← e1,← e2] at con;clear HE HZ HFb0 HZb HFa HZa O2 e1 e2;subst h0;go_wp2_with fail
 refine con.mono ?_;rintro e w3 ⟨v3,rfl,O3,hb3⟩;clear con;have O3':=O3.mono hA2.size;go_wp2_with fail
 exact bJ rfl rfl ⟨_,rfl,O3',chain hA2 hb3⟩
theorem egOf:∀ args w,(callFunc 58 args).run prog w = .ok (.enter 58 args) w:=enters_of func58 aG rfl
theorem ofD_at (ts:List (List Int)) (p:Pl) (q:Pw) (data more:List (List Zp)) (ta:Option Addr) (tc:Nat) (da:Option Addr) (dc:Nat) (ma:Option Addr) (mc:Nat) (w:World) (hT:jG w w ta ts) (hp:kH w w p q) (hk:gu p) (hD:nN w da data) (hM:nN w ma more) :
  Calls prog 30 #[.slice ta ts.length tc,fw p q,.slice da data.length dc,.slice ma more.length mc] w fun e w'=>∃ v,e = .returned (.tuple #[v,.int .i64 (ofDE ts p data more)])∧eA w w' v (ofDZ ts p data more)∧Below w w w':=by
 have hA:Below w w ((w.alloc (.cells #[.slice ta ts.length tc] 22)).alloc (.cells #[p.k,p.n,p.x.k,p.x.v.1,p.x.v.2.1,p.x.v.2.2,p.x.c,.slice q.xa p.x.ks.length q.xc,.slice q.sa p.xs.length q.sc,.slice q.ga p.gs.length q.gc,.slice q.ka p.ks.length q.kc] 31)):=(aN ..).alloc (by simp) _;have zA:(w.alloc (.cells #[.slice ta ts.length tc] 22)).heap.size=w.heap.size+1:=by simp
 have EL:=ft.new (w.alloc (.cells #[.slice ta ts.length tc] 22)) p q 31;rw [zA] at EL;have cB:((w.alloc (.cells #[.slice ta ts.length tc] 22)).alloc (.cells #[p.k,p.n,p.x.k,p.x.v.1,p.x.v.2.1,p.x.v.2.2,p.x.c,.slice q.xa p.x.ks.length q.xc,.slice q.sa p.xs.length q.sc,.slice q.ga p.gs.length q.gc,.slice q.ka p.ks.length q.kc] 31)).cell? (ah w 0)=some (.slice ta ts.length tc):=by simp
 generalize hee:ofDE ts p data more=ee;generalize hez:ofDZ ts p data more=ez;have HE:=aB hee;have HZ:=aB hez;have HK:=aB hk
 have con:=wrongD_at ts p q data more ta tc da dc ma mc ((w.alloc (.cells #[.slice ta ts.length tc] 22)).alloc (.cells #[p.k,p.n,p.x.k,p.x.v.1,p.x.v.2.1,p.x.v.2.2,p.x.c,.slice q.xa p.x.ks.length q.xc,.slice q.sa p.xs.length q.sc,.slice q.ga p.gs.length q.gc,.slice q.ka p.ks.length q.kc] 31)) ((hT.next hA (Nat.le_refl _)).up hA.size) ((hp.next hA (Nat.le_refl _)).up hA.size) hk (hD.next hA) (hM.next hA);generalize hwd:wrongD ts p data more=wd at con;have HW:=aB hwd;clear hee hez hk hwd zA
 have HEL:=aB EL;obtain ⟨y0,y1,⟨y2,y3,y4,y5,y6,y7⟩,y8,y9,y10⟩:=EL;simp only [Nat.zero_add] at y1 y2 y3 y4 y5 y6 y7 y8 y9 y10;unfold fw at con ⊢;go_enter func30,ntmps30;go_upto_region 1 with fail
 generalize (w.alloc _).alloc _=wA at *;go_wp2_with fail
 refine bC con fun w1 hb1=>?_;clear con y0 y1 y2 y3 y4 y5 y6 y7 y8 y9 y10;have hA1:=chain hA hb1;dsimp only;by_cases h0:wd=0;rotate_left
 ·have e1:ee=wd:=by rw [← HE.out]; unfold ofDE; rw [HW.out,if_pos h0]
  have e2:ez = []:=by rw [← HZ.out]; unfold ofDZ; rw [HW.out,if_pos (.inl h0)]
  subst e1 e2;have hb0:(ee != 0)=true:=by simpa using h0
  clear HE HZ HW HEL;go_wp2_with fail
  exact bJ rfl rfl ⟨_,rfl,xE _ _,hA1⟩
 have HW0:Hid (wrongD ts p data more=0):=by show _=_; rw [HW.out,h0]
 clear HW;subst h0;have hlen:data.length≤10000000000000:=by
  have:=wrongD_len HW0.out;omega
 have con:=applyT_at data more da dc ma mc w1 (hD.next hA1) (hM.next hA1) hlen;generalize hae:applyE data more=ae at con;generalize haz:applyZ data more=az at con;have HAe:=aB hae;have HAz:=aB haz;clear hae haz hlen;go_wp2_with fail
 refine con.mono ?_;rintro e w2 ⟨a2,c2,rfl,D2,hb2⟩;clear con;have hA2:=chain hA1 hb2;have hW2:=chain hb1 hb2;dsimp only;by_cases h0:ae=0;rotate_left
 ·have e1:ee=ae:=by rw [← HE.out]; unfold ofDE; rw [HW0.out,HAe.out,if_neg (by simp),if_pos h0]
  have e2:ez = []:=by rw [← HZ.out]; unfold ofDZ; rw [HAe.out,if_pos (.inr (.inl h0))]
  subst e1 e2;have hb0:(ee != 0)=true:=by simpa using h0
  clear HE HZ HW0 HEL HAe HAz D2;go_wp2_with fail
  exact bJ rfl rfl ⟨_,rfl,xE _ _,hA2⟩
 have e1:betE (fun data=>Fx ts data p) (fun data=>Fq ts data p) data az=ee:=by rw [← HE.out]; unfold ofDE betE; rw [HW0.out,HAe.out,HAz.out,h0]; simp only [ne_eq,not_true_eq_false,if_false]
 have e2:betZ (fun data=>Fx ts data p) (fun data=>Fq ts data p) data az=ez:=by rw [← HZ.out]; unfold ofDZ betZ; rw [HW0.out,HAe.out,HAz.out,h0]; simp only [ne_eq,not_true_eq_false,false_or]
 have lA:=World.block_lt_of_cell? _ _ cB;have hm:=of1_at ts p q ta tc w (w+1) w2 ((hW2.cell (p:=ah w 0) lA).trans cB) (HEL.out.next hW2 (World.block_lt_of_cell? _ _ HEL.out.c0)) ((hT.next hA2 (Nat.le_refl _)).up hA2.size) ((hp.next hA2 (Nat.le_refl _)).up hA2.size) HK.out;have con:=between_at _ _ _ _ data az da dc a2 c2 w2 egOf hm (hD.next hA2) D2;rw [e1,e2] at con;clear e1 e2 hm HE HZ HW0 HAe HAz HEL cB;subst h0;go_wp2_with fail
 refine con.mono ?_;rintro e w3 ⟨v3,rfl,O3,hb3⟩;clear con;have O3':=O3.mono hA2.size;go_wp2_with fail
 exact bJ rfl rfl ⟨_,rfl,O3',chain hA2 hb3⟩
end Go.Proofs.YtoefpglknaiaeaaGreat
