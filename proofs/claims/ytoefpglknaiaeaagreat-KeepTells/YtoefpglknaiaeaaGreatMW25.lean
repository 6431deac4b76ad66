import Derived.Deep.Strs
import Derived.ProofKit
import Derived.OpenShut
import Derived.ChangeOld
import Derived.SizedLaws
import Derived.Laws.MakeOwn
import Derived.Deep.Cut
import Derived.Shelf.Abstract
import Derived.Test.YtoefpglknaiaeaaGreatMW24
set_option maxHeartbeats 16000000
set_option maxRecDepth 100000
namespace Go.Proofs.YtoefpglknaiaeaaGreat
open Go.ChangeShapes Go.WideShapes Go.ChangeAt Go.RowKit Go.Joins _root_.Go.Proofs.Tryz
theorem Gj (b off i:Nat):((ah b off):Addr).add i=⟨b,off+i,none⟩:=by
 unfold Addr.add;by_cases h:i=0 <;> simp [h]
theorem GG {H:Type} {enc:TypeId × Value→H} {W:World} {base:Nat} {sp:Nat→Bool} {hd:Bool} {fuel:Nat} {cs:List Value} {x:DataW H × List MemPlace} {a:Addr}
  (hc:W.cells? base a 3=some cs) (h:DataW.trod enc prog W base sp hd fuel 24 cs=some x) :
  ∃ v:Vl,W.cell? (a.add 0)=some (.int .i64 v.1)∧W.cell? (a.add 1)=some (.int .i64 v.2.1)∧W.cell? (a.add 2)=some (.string v.2.2):=by
 obtain ⟨_,hlen,hcell⟩:=N3 hc;obtain ⟨y0,y1,y2,m,_,_,h0,h1,h2⟩:=Go.Deep.trod_struct3 underlying24 h;have q3:Tryz.prog.cellsOf 3=1:=by kernel_rfl
 have q2:Tryz.prog.cellsOf 2=1:=by kernel_rfl
 have q9:Tryz.prog.cellsOf 9=1:=by kernel_rfl
 match cs,hlen with
 | [c0,c1,c2],_ =>
  simp only [q3,q2,q9] at h0 h1 h2;obtain ⟨k,e0,_,_⟩:=DataW.trod_int underlying3 h0;obtain ⟨n,e1,_,_⟩:=DataW.trod_int underlying2 h1;obtain ⟨s,e2,_,_⟩:=DataW.trod_string underlying9 h2;simp at e0 e1 e2;subst e0 e1 e2;exact ⟨(k,n,s),hcell 0 ag,hcell 1 ag,hcell 2 ag⟩
theorem Ai {H:Type} {enc:TypeId × Value→H} {W:World} {hd:Bool} {fuel:Nat} {cs:List Value} {x:DataW H × List MemPlace}
  (hf:DataW.trod enc prog W 0 (fun _=>true) hd fuel 45 cs=some x):∃ (a:Option Addr) (cap:Nat) (l:List Vl),cs = [.slice a l.length cap]∧aZ W a l:=by
 rcases Go.Deep.open_slice underlying45 hf with ⟨hcs,_⟩ | ⟨a,len,cap,m,n,D,Pl,hcs,_,hl,hm,hmm,_,hx⟩
 ·exact ⟨none,0,[],hcs,by simp,.inl rfl⟩
 ·have q:Tryz.prog.cellsOf 24=3:=by kernel_rfl
  rw [q] at hx;simp only [if_true] at hmm;obtain ⟨f,hf'⟩:=Go.Deep.choose_lt (α:=Vl) (n:=len) (p:=fun i (v:Vl)=>W.cell? ((a.add (i*3)).add 0)=some (.int .i64 v.1)∧W.cell? ((a.add (i*3)).add 1)=some (.int .i64 v.2.1)∧W.cell? ((a.add (i*3)).add 2)=some (.string v.2.2)) (fun i hi=>by
   obtain ⟨cs',h1,h2⟩:=hx i ag;exact GG h1 h2)
  refine ⟨some a,cap,(List.range len).map f,by simpa using hcs,?_,?_⟩
  ·simp; omega
  by_cases h0:len=0
  ·left; simp [h0]
  ·right;obtain ⟨b,off,spot⟩:=a;have hc:=(hf' 0 ag).1;have hspot:spot=none:=by simpa [Addr.add] using NX hc
   subst hspot;refine ⟨b,off,rfl,fun i hi=>?_,?_⟩
   ·have hi':i<len:=by simpa using hi
    have:=hf' i hi';simp only [Gj] at this;simp only [NC,NM];exact this
   ·exact ML W _ (by simpa [Addr.add] using hc)
theorem Jx {P:Program} {H:Type} {enc:TypeId × Value→H} {w:World} {base:Nat} {spare:Nat→Bool} {held:Bool} {t:TypeId} {f0 f1:Field} {fuel:Nat} {cs:List Value} {x:DataW H × List MemPlace} (ht:P.underlying t=some (.struct #[f0,f1])) (h:DataW.trod enc P w base spare held fuel t cs=some x) :
  ∃ y0 y1 n,DataW.trod enc P w base spare held n f0.type ((cs.drop f0.offset).take (P.cellsOf f0.type))=some y0 ∧
   DataW.trod enc P w base spare held n f1.type ((cs.drop f1.offset).take (P.cellsOf f1.type))=some y1:=by
 obtain ⟨xs,n,_,rfl,hl,hlen,hf⟩:=DataW.trod_struct ht h
 match xs,hlen with
 | [y0,y1],_=>exact ⟨y0,y1,n,by simpa using hf 0 f0 rfl,by simpa using hf 1 f1 rfl⟩
theorem C2 {H:Type} {enc:TypeId × Value→H} {W:World} {hd:Bool} {fuel:Nat} {cs:List Value} {x:DataW H × List MemPlace} {a:Addr}
  (hc:W.cells? 0 a 2=some cs) (h:DataW.trod enc prog W 0 (fun _=>true) hd fuel 47 cs=some x) :
  ∃ z:Zp,W.cell? (a.add 1)=some (.int .i64 z.2)∧∃ ai cap,W.cell? (a.add 0)=some (.slice ai z.1.length cap)∧aZ W ai z.1:=by
 obtain ⟨_,hlen,hcell⟩:=N3 hc;obtain ⟨y0,y1,n,h0,h1⟩:=Jx underlying47 h;have q23:Tryz.prog.cellsOf 45=1:=by kernel_rfl
 have q2:Tryz.prog.cellsOf 2=1:=by kernel_rfl
 match cs,hlen with
 | [c0,c1],_ =>
  simp only [q23,q2] at h0 h1;obtain ⟨ai,cap,l,e0,hs⟩:=Ai h0;obtain ⟨k,e1,_,_⟩:=DataW.trod_int underlying2 h1;simp at e0 e1;subst e0 e1;exact ⟨(l,k),hcell 1 ag,ai,cap,hcell 0 ag,hs⟩
theorem iD (b off i:Nat):((ah b off):Addr).add i=⟨b,off+i,none⟩:=by
 unfold Addr.add;by_cases h:i=0 <;> simp [h]
theorem q3:Tryz.prog.cellsOf 3=1:=by kernel_rfl
theorem q2:Tryz.prog.cellsOf 2=1:=by kernel_rfl
theorem q9:Tryz.prog.cellsOf 9=1:=by kernel_rfl
theorem L9:Tryz.prog.cellsOf 24=3:=by kernel_rfl
theorem Ms:Tryz.prog.cellsOf 25=1:=by kernel_rfl
theorem LH:Tryz.prog.cellsOf 27=6:=by kernel_rfl
theorem DW {H:Type} {enc:TypeId × Value→H} {W:World} {base:Nat} {sp:Nat→Bool} {hd:Bool} {fuel:Nat} {cs:List Value} {x:DataW H × List MemPlace}
  (h:DataW.trod enc prog W base sp hd fuel 24 cs=some x):∃ v:Vl,cs = [.int .i64 v.1,.int .i64 v.2.1,.string v.2.2]:=by
 obtain ⟨y0,y1,y2,m,_,hlen,h0,h1,h2⟩:=Go.Deep.trod_struct3 underlying24 h
 rw [L9] at hlen
 match cs,hlen with
 | [c0,c1,c2],_ =>
  simp only [q3,q2,q9] at h0 h1 h2
  obtain ⟨k,e0,_,_⟩:=DataW.trod_int underlying3 h0
  obtain ⟨n,e1,_,_⟩:=DataW.trod_int underlying2 h1
  obtain ⟨s,e2,_,_⟩:=DataW.trod_string underlying9 h2
  simp at e0 e1 e2
  subst e0 e1 e2
  exact ⟨(k,n,s),rfl⟩
instance:Inhabited Ex:=⟨.mk 0 (0,0,⟨#[]⟩) 0 []⟩
def zC {H:Type} (enc:TypeId × Value→H) (W:World) (hd:Bool) (m:Nat):Prop :=
 ∀ cs x,DataW.trod enc prog W 0 (fun _=>true) hd m 25 cs=some x→∃ (a:Option Addr) (cap:Nat) (l:List Ex),cs = [.slice a l.length cap]∧aU W W a l
theorem nO {H:Type} {enc:TypeId × Value→H} {W:World} {hd:Bool} {fuel:Nat} (ih:∀ m,m<fuel→zC enc W hd m) {cs:List Value} {x:DataW H × List MemPlace}
  (h:DataW.trod enc prog W 0 (fun _=>true) hd fuel 27 cs=some x) :
  ∃ (e:Ex) (a:Option Addr) (cap:Nat),cs = [.int .i64 e.k,.int .i64 e.v.1,.int .i64 e.v.2.1,.string e.v.2.2,.int .i64 e.c,.slice a e.ks.length cap]∧aU W.heap.size W a e.ks:=by
 obtain ⟨xs,n,hn,_,hl,hlen,hf⟩:=DataW.trod_struct underlying27 h;rw [LH] at hl
 match xs,hlen with
 | [y0,y1,y2,y3],_ =>
  have h0:=hf 0 _ rfl;have h1:=hf 1 _ rfl;have h2:=hf 2 _ rfl;have h3:=hf 3 _ rfl
  match cs,hl with
  | [c0,c1,c2,c3,c4,c5],_ =>
   simp [q3,L9,Ms] at h0 h1 h2 h3;obtain ⟨k,e0,_,_⟩:=DataW.trod_int underlying3 h0;obtain ⟨v,e1⟩:=DW h1;obtain ⟨c,e2,_,_⟩:=DataW.trod_int underlying3 h2;obtain ⟨a,cap,l,e3,hk⟩:=ih n ag _ _ h3;simp at e0 e1 e2 e3;obtain ⟨r1,r2,r3⟩:=e1;subst e0 r1 r2 r3 e2 e3;exact ⟨.mk k v c l,a,cap,rfl,hk⟩
theorem tp {H:Type} (enc:TypeId × Value→H) (W:World) (hd:Bool) (fuel:Nat):zC enc W hd fuel:=by
 induction fuel using Nat.strongRecOn with
 | ind fuel ih =>
  intro cs x h;rcases DataW.trod_slice underlying25 h with ⟨hcs,_⟩ | ⟨a,len,cap,elems,rest,n,hn,hcs,_,_,_,_,hlen,hel,_,_⟩
  ·exact ⟨none,0,[],hcs,.nil _⟩
  ·rw [LH] at hel;obtain ⟨f,hf⟩:=Go.Deep.choose_lt (α:=Ex × Option Addr × Nat) (n:=len) (p:=fun i (y:Ex × Option Addr × Nat) =>
     (W.cell? ((a.add (i*6)).add 0)=some (.int .i64 y.1.k)∧W.cell? ((a.add (i*6)).add 1)=some (.int .i64 y.1.v.1)∧W.cell? ((a.add (i*6)).add 2)=some (.int .i64 y.1.v.2.1)∧W.cell? ((a.add (i*6)).add 3)=some (.string y.1.v.2.2) ∧
      W.cell? ((a.add (i*6)).add 4)=some (.int .i64 y.1.c)∧W.cell? ((a.add (i*6)).add 5)=some (.slice y.2.1 y.1.ks.length y.2.2))∧aU W W y.2.1 y.1.ks) (fun i hi=>by
    have key:=hel i hi;rw [M1 ag] at key;obtain ⟨cs',h1,h2⟩:=Option.bind_eq_some_iff.1 key;obtain ⟨_,hl6,hcell⟩:=N3 h1;obtain ⟨e,ai,ci,rfl,hk⟩:=nO (fun m hm=>ih m ag) h2;exact ⟨(e,ai,ci),⟨hcell 0 (by simp),hcell 1 (by simp),hcell 2 (by simp),hcell 3 (by simp),hcell 4 (by simp),hcell 5 (by simp)⟩,hk⟩)
   refine ⟨some a,cap,(List.range len).map fun i=>(f i).1,by simpa using hcs,?_⟩;by_cases h0:len=0
   ·subst h0; exact .nil _
   ·obtain ⟨b,off,spot⟩:=a;have hc:=(hf 0 ag).1.1;have hspot:spot=none:=by simpa [Addr.add] using NX hc
    subst hspot;refine .some b off _ (fun i=>(f i).2.1) (fun i=>(f i).2.2) (ML W _ (by simpa [Addr.add] using hc)) (fun i hi=>?_) (fun i hi=>?_)
    ·have hi':i<len:=by simpa using hi
     have:=(hf i hi').1;simp only [iD] at this;simp only [NC,NM];exact ⟨this.1,this.2.1,this.2.2.1,this.2.2.2.1,this.2.2.2.2.1,this.2.2.2.2.2⟩
    ·have hi':i<len:=by simpa using hi
     simp only [NC,NM];exact (hf i hi').2
theorem K9:Tryz.prog.cellsOf 123=7:=by kernel_rfl
theorem EH {H:Type} {enc:TypeId × Value→H} {W:World} {hd:Bool} {fuel:Nat} {cs:List Value} {x:DataW H × List MemPlace}
  (h:DataW.trod enc prog W 0 (fun _=>true) hd fuel 123 cs=some x) :
  ∃ (g:Ag) (a:Option Addr) (cap:Nat),cs = [.int .i64 g.1,.int .i64 g.2.k,.int .i64 g.2.v.1,.int .i64 g.2.v.2.1,.string g.2.v.2.2,.int .i64 g.2.c,.slice a g.2.ks.length cap]∧aU W.heap.size W a g.2.ks:=by
 obtain ⟨xs,n,hn,_,hl,hlen,hf⟩:=DataW.trod_struct underlying123 h
 rw [K9] at hl
 match xs,hlen with
 | [y0,y1],_ =>
  have h0:=hf 0 _ rfl
  have h1:=hf 1 _ rfl
  match cs,hl with
  | [c0,c1,c2,c3,c4,c5,c6],_ =>
   simp [q3,LH] at h0 h1
   obtain ⟨k,e0,_,_⟩:=DataW.trod_int underlying3 h0
   obtain ⟨e,a,cap,e1,hk⟩:=nO (fun m _=>tp enc W hd m) h1
   simp at e0 e1
   obtain ⟨r1,r2,r3,r4,r5,r6⟩:=e1
   subst e0 r1 r2 r3 r4 r5 r6
   exact ⟨(k,e),a,cap,rfl,hk⟩
instance:Inhabited Ag:=⟨(0,.mk 0 (0,0,⟨#[]⟩) 0 [])⟩
theorem EX:8≤Tryz.prog.bytesOf 123:=by decide +kernel
end Go.Proofs.YtoefpglknaiaeaaGreat
namespace Go.Proofs.YtoefpglknaiaeaaGreat
open Go.ChangeShapes Go.WideShapes Go.ChangeAt Go.RowKit Go.Joins
theorem BP:8≤Tryz.prog.bytesOf 27:=by decide +kernel
open _root_.Go.Proofs.Tryz
def gC {H:Type} (t:TypeId) (d:DataW H):Prop:=∀ k ∈ d.weights prog t,k≤reachBytes
theorem wf_i64 {n:Int} (h:(Lit.int .i64 n).wf=true):-9223372036854775808≤n∧n≤9223372036854775807:=by
 unfold Lit.wf at h;rw [NO,decide_eq_true_eq,decide_eq_true_eq] at h;exact h
theorem gC.part {H:Type} {t:TypeId} {fs:Array Field} {parts:List (DataW H)} (hu:Tryz.prog.underlying t=some (.struct fs)) (h:gC t (.agg parts)) {j:Nat} {f:Field} {d:DataW H} (hf:fs[j]? = some f) (hd:parts[j]? = some d):gC f.type d:=by
 intro k hk;refine h k ?_;rw [DataW.weights,hu];refine DataW.weights_mem_each (j:=j) (t:=f.type) ?_ hd k hk;rw [List.getElem?_map,N2,hf];rfl
theorem qV {H:Type} {P:Program} {e:TypeId}:∀ {l:List (DataW H)} {d:DataW H},d ∈ l→∀ k ∈ d.weights P e,k ∈ DataW.weightsAll P e l
 | x :: l,d,hd,k,hk=>by
  rw [DataW.weightsAll,M3]
  rcases List.mem_cons.mp hd with rfl | hd
  ·exact .inl hk
  ·exact .inr (qV hd k hk)
theorem gC.elem {H:Type} {t e:TypeId} {l r:List (DataW H)} (hu:Tryz.prog.underlying t=some (.slice e)) (h:gC t (.slice l r)) {d:DataW H} (hd:d ∈ l):gC e d:=by
 intro k hk;refine h k ?_;rw [DataW.weights,hu];exact List.mem_cons_of_mem _ (List.mem_append_left _ (qV hd k hk))
theorem gC.len {H:Type} {enc:TypeId × Value→H} {W:World} {hd:Bool} {t e:TypeId} {fuel n cap:Nat} {a:Option Addr} {x:DataW H × List MemPlace} (hu:Tryz.prog.underlying t=some (.slice e)) (hb:8≤Tryz.prog.bytesOf e)
  (h:DataW.trod enc prog W 0 (fun _=>true) hd fuel t [.slice a n cap]=some x) (hl:gC t x.1):n≤100000000000000:=by
 rcases DataW.trod_slice hu h with ⟨hcs,_⟩ | ⟨a',len,cap',elems,rest,m,hm,hcs,rfl,_,_,_,hlen,_⟩
 ·simp at hcs;omega
 ·simp at hcs;obtain ⟨rfl,rfl,rfl⟩:=hcs;have h1:=hl ((elems.length+rest.length)*Tryz.prog.bytesOf e) (by rw [DataW.weights,hu]; simp);have h2:=reachBytes_lt;have h4:n*8≤(elems.length+rest.length)*Tryz.prog.bytesOf e:=Nat.mul_le_mul ag hb;omega
theorem Af {H:Type} {enc:TypeId × Value→H} {W:World} {hd:Bool} {fuel:Nat} {cs:List Value} {x:DataW H × List MemPlace}
  (hf0:DataW.trod enc prog W 0 (fun _=>true) hd fuel 28 cs=some x):∃ (a:Option Addr) (cap:Nat) (l:List Ag),cs = [.slice a l.length cap]∧iO W W a l:=by
 rcases DataW.trod_slice underlying28 hf0 with ⟨hcs,_⟩ | ⟨a,len,cap,elems,rest,n,hn,hcs,_,_,_,_,hlen,hel,_,_⟩
 ·exact ⟨none,0,[],hcs,.inl rfl⟩
 ·rw [K9] at hel;obtain ⟨f,hf⟩:=Go.Deep.choose_lt (α:=Ag × Option Addr × Nat) (n:=len) (p:=fun i (y:Ag × Option Addr × Nat) =>
    (W.cell? ((a.add (i*7)).add 0)=some (.int .i64 y.1.1)∧W.cell? ((a.add (i*7)).add 1)=some (.int .i64 y.1.2.k)∧W.cell? ((a.add (i*7)).add 2)=some (.int .i64 y.1.2.v.1)∧W.cell? ((a.add (i*7)).add 3)=some (.int .i64 y.1.2.v.2.1)∧W.cell? ((a.add (i*7)).add 4)=some (.string y.1.2.v.2.2) ∧
     W.cell? ((a.add (i*7)).add 5)=some (.int .i64 y.1.2.c)∧W.cell? ((a.add (i*7)).add 6)=some (.slice y.2.1 y.1.2.ks.length y.2.2))∧aU W W y.2.1 y.1.2.ks) (fun i hi=>by
   have key:=hel i hi;rw [M1 ag] at key;obtain ⟨cs',h1,h2⟩:=Option.bind_eq_some_iff.1 key;obtain ⟨_,hl6,hcell⟩:=N3 h1;obtain ⟨e,ai,ci,rfl,hk⟩:=EH h2;exact ⟨(e,ai,ci),⟨hcell 0 (by simp),hcell 1 (by simp),hcell 2 (by simp),hcell 3 (by simp),hcell 4 (by simp),hcell 5 (by simp),hcell 6 (by simp)⟩,hk⟩)
  refine ⟨some a,cap,(List.range len).map fun i=>(f i).1,by simpa using hcs,?_⟩;by_cases h0:len=0
  ·subst h0; exact .inl rfl
  ·obtain ⟨b,off,spot⟩:=a;have hc:=(hf 0 ag).1.1;have hspot:spot=none:=by simpa [Addr.add] using NX hc
   subst hspot;refine .inr ⟨b,off,fun i=>(f i).2.1,fun i=>(f i).2.2,rfl,ML W _ (by simpa [Addr.add] using hc),fun i hi=>?_⟩;have hi':i<len:=by simpa using hi
   obtain ⟨⟨g0,g1,g2,g3,g4,g5,g6⟩,gk⟩:=hf i hi';simp only [iD] at g0 g1 g2 g3 g4 g5 g6;simp only [NC,NM];exact ⟨g0,⟨g1,g2,g3,g4,g5,g6⟩,gk⟩
theorem JY:Tryz.prog.cellsOf 31=11:=by kernel_rfl
theorem Mv:Tryz.prog.cellsOf 25=1:=by kernel_rfl
theorem Mr:Tryz.prog.cellsOf 28=1:=by kernel_rfl
theorem Mt:Tryz.prog.cellsOf 29=1:=by kernel_rfl
instance:Inhabited Pl:=⟨.mk 0 0 default [] [] []⟩
instance:Inhabited Pw:=⟨⟨none,0,none,0,none,0,none,0⟩⟩
def zY (p:Pl) (q:Pw):List Value:=[.int .i64 p.k,p.n,p.x.k,p.x.v.1,p.x.v.2.1,p.x.v.2.2,p.x.c,.slice q.xa p.x.ks.length q.xc,.slice q.sa p.xs.length q.sc,.slice q.ga p.gs.length q.gc,.slice q.ka p.ks.length q.kc]
def vG {H:Type} (enc:TypeId × Value→H) (W:World) (hd:Bool) (m:Nat):Prop :=
 ∀ cs x,DataW.trod enc prog W 0 (fun _=>true) hd m 29 cs=some x→gC 29 x.1→∃ (a:Option Addr) (cap:Nat) (l:List Pl),cs = [.slice a l.length cap]∧nn W W a l∧∀ p ∈ l,gu p
theorem rR {H:Type} {enc:TypeId × Value→H} {W:World} {hd:Bool} {fuel:Nat} (ih:∀ m,m<fuel→vG enc W hd m) {cs:List Value} {x:DataW H × List MemPlace}
  (h:DataW.trod enc prog W 0 (fun _=>true) hd fuel 31 cs=some x) (hL:gC 31 x.1):∃ (p:Pl) (q:Pw),cs=zY p q∧kH W W p q∧gu p:=by
 obtain ⟨xs,n,hn,rfl,hl,hlen,hf⟩:=DataW.trod_struct underlying31 h;rw [JY] at hl
 match xs,hlen with
 | [y0,y1,y2,y3,y4,y5],_ =>
  have h0:=hf 0 _ rfl;have h1:=hf 1 _ rfl;have h2:=hf 2 _ rfl;have h3:=hf 3 _ rfl;have h4:=hf 4 _ rfl;have h5:=hf 5 _ rfl;have L3:=hL.part underlying31 (j:=3) rfl rfl;have L4:=hL.part underlying31 (j:=4) rfl rfl;have L5:=hL.part underlying31 (j:=5) rfl rfl
  match cs,hl with
  | [c0,c1,c2,c3,c4,c5,c6,c7,c8,c9,Bm],_ =>
   simp [q3,LH,Mv,Mr,Mt] at h0 h1 h2 h3 h4 h5;obtain ⟨k,e0,_,_⟩:=DataW.trod_int underlying3 h0;obtain ⟨m,e1,_,hwf⟩:=DataW.trod_int underlying3 h1;obtain ⟨e,a2,cap2,e2,hk2⟩:=nO (fun m _=>tp enc W hd m) h2;obtain ⟨a3,cap3,l3,e3,hk3⟩:=tp enc W hd n _ _ h3;obtain ⟨a4,cap4,l4,e4,hk4⟩:=Af h4;obtain ⟨a5,cap5,l5,e5,hk5,hok5⟩:=ih n ag _ _ h5 L5;rw [e3] at h3;rw [e4] at h4;have b3:=gC.len underlying25 BP h3 L3;have b4:=gC.len underlying28 EX h4 L4;simp at e0 e1 e2 e3 e4 e5;obtain ⟨r1,r2,r3,r4,r5,r6⟩:=e2
   subst e0 e1 r1 r2 r3 r4 r5 r6 e3 e4 e5;exact ⟨.mk k m e l3 l4 l5,⟨a2,cap2,a3,cap3,a4,cap4,a5,cap5⟩,rfl,⟨hk2,hk3,hk4,hk5⟩,.mk _ _ _ _ _ _ (wf_i64 hwf) b3 b4 hok5⟩
theorem Eu {H:Type} (enc:TypeId × Value→H) (W:World) (hd:Bool) (fuel:Nat):vG enc W hd fuel:=by
 induction fuel using Nat.strongRecOn with
 | ind fuel ih =>
  intro cs x h hL;rcases DataW.trod_slice underlying29 h with ⟨hcs,_⟩ | ⟨a,len,cap,elems,rest,n,hn,hcs,rfl,_,_,_,hlen,hel,_,_⟩
  ·exact ⟨none,0,[],hcs,.nil _,fun p hp=>by cases hp⟩
  ·rw [JY] at hel;obtain ⟨f,hf⟩:=Go.Deep.choose_lt (α:=Pl × Pw) (n:=len) (p:=fun i (y:Pl × Pw) =>
     (∀ j (hj:j<(zY y.1 y.2).length),W.cell? ((a.add (i*11)).add j)=some (zY y.1 y.2)[j])∧kH W W y.1 y.2∧gu y.1) (fun i hi=>by
    have key:=hel i hi;rw [M1 ag] at key;obtain ⟨cs',h1,h2⟩:=Option.bind_eq_some_iff.1 key;obtain ⟨_,hl6,hcell⟩:=N3 h1;obtain ⟨p,q,rfl,hk,hok⟩:=rR (fun m hm=>ih m ag) h2 (hL.elem underlying29 (List.mem_map_of_mem (MC _)));exact ⟨(p,q),fun j hj=>(hcell j hj).trans (M1 hj),hk,hok⟩)
   refine ⟨some a,cap,(List.range len).map fun i=>(f i).1,by simpa using hcs,?_,?_⟩
   ·by_cases h0:len=0
    ·subst h0; exact .nil _
    ·obtain ⟨b,off,spot⟩:=a;have hc:=(hf 0 ag).1 0 (by simp [zY]);have hspot:spot=none:=by simpa [Addr.add] using NX hc
     subst hspot;have key:∀ i,i<len→ft W b (off+i*11) (f i).1 (f i).2:=fun i hi=>by
      have g:=(hf i hi).1;simp only [iD] at g;exact ⟨g 0 (by simp [zY]),g 1 (by simp [zY]),⟨g 2 (by simp [zY]),g 3 (by simp [zY]),g 4 (by simp [zY]),g 5 (by simp [zY]),g 6 (by simp [zY]),g 7 (by simp [zY])⟩,g 8 (by simp [zY]),g 9 (by simp [zY]),g 10 (by simp [zY])⟩
     refine .some b off _ (fun i=>(f i).2) (ML W _ (by simpa [Addr.add] using hc)) ?_ ?_ ?_ ?_ ?_ <;> (intro i hi; have hi':i<len:=by simpa using hi) <;> simp only [NC,NM]
     ·exact key i hi'
     ·exact (hf i hi').2.1.x
     ·exact (hf i hi').2.1.xs
     ·exact (hf i hi').2.1.gs
     ·exact (hf i hi').2.1.ks
   ·intro p hp;obtain ⟨i,hi,rfl⟩:=List.mem_map.1 hp;exact (hf i (by simpa using hi)).2.2
theorem vj {H:Type} {ts:List TypeId} {ds:List (DataW H)} {t:TypeId} {d:DataW H} (hs:(DataW.weightsEach prog ts ds).all (· ≤ reachBytes)=true) {j:Nat} (ht:ts[j]? = some t) (hd:ds[j]? = some d):gC t d:=by
 intro k hk;have:=List.all_eq_true.1 hs _ (DataW.weights_mem_each ht hd k hk)
 simpa using this
theorem DQ {H:Type} {enc:TypeId × Value→H} {W:World} {r:Reach} {b0:Nat} {v:Value} {d:DataW H} {p:List MemPlace}
  (hv:Value.okWide prog W r b0 31 v) (h:DataW.Trod enc prog W 0 (fun _=>true) true 31 v d p) (hL:gC 31 d):∃ (e:Pl) (q:Pw),v=fw e q∧kH W W e q∧gu e:=by
 obtain ⟨cs,rfl,_⟩:=okWide_struct underlying31 hv;obtain ⟨fuel,hf⟩:=h;obtain ⟨e,q,he,hk⟩:=rR (fun m _=>Eu enc W true m) hf hL;refine ⟨e,q,?_,hk⟩;have e':cs.toList=zY e q:=by simpa [Value.cells] using he
 exact congrArg Value.agg (Array.toList_inj.mp e')
theorem qZ:Tryz.prog.cellsOf 47=2:=by kernel_rfl
theorem Mo:Tryz.prog.cellsOf 38=1:=by kernel_rfl
theorem Mp:Tryz.prog.cellsOf 33=1:=by kernel_rfl
theorem zT {H:Type} {enc:TypeId × Value→H} {W:World} {hd:Bool} {fuel:Nat} {cs:List Value} {x:DataW H × List MemPlace}
  (hf:DataW.trod enc prog W 0 (fun _=>true) hd fuel 38 cs=some x):∃ (a:Option Addr) (cap:Nat) (l:List Zp),cs = [.slice a l.length cap]∧aK W a l∧(a=none→cap=0):=by
 rcases Go.Deep.open_slice underlying38 hf with ⟨hcs,_⟩ | ⟨a,len,cap,m,n,D,Pl,hcs,_,hl,hm,hmm,_,hx⟩
 ·exact ⟨none,0,[],hcs,⟨by simp,.inl rfl⟩,fun _=>rfl⟩
 ·rw [qZ] at hx;simp only [if_true] at hmm;obtain ⟨f,hf'⟩:=Go.Deep.choose_lt (α:=Zp) (n:=len) (p:=fun i (z:Zp)=>W.cell? ((a.add (i*2)).add 1)=some (.int .i64 z.2)∧∃ ai cap,W.cell? ((a.add (i*2)).add 0)=some (.slice ai z.1.length cap)∧aZ W ai z.1) (fun i hi=>by
   obtain ⟨cs',h1,h2⟩:=hx i ag;exact C2 h1 h2)
  refine ⟨some a,cap,(List.range len).map f,by simpa using hcs,⟨?_,?_⟩,fun h=>by cases h⟩
  ·simp; omega
  by_cases h0:len=0
  ·left; simp [h0]
  ·right;obtain ⟨b,off,spot⟩:=a;obtain ⟨_,_,hc,_⟩:=(hf' 0 ag).2;have hspot:spot=none:=by simpa [Addr.add] using NX hc
   subst hspot;refine ⟨b,off,rfl,?_,fun i hi=>?_⟩
   ·exact ML W _ (by simpa [Addr.add] using hc)
   ·have hi':i<len:=by simpa using hi
    have:=hf' i hi';simp only [iD] at this;simp only [NC,NM];exact this
theorem Ba {H:Type} {enc:TypeId × Value→H} {W:World} {hd:Bool} {fuel:Nat} {cs:List Value} {x:DataW H × List MemPlace}
  (hf:DataW.trod enc prog W 0 (fun _=>true) hd fuel 32 cs=some x):∃ (a:Option Addr) (cap:Nat) (l:List (List Zp)),cs = [.slice a l.length cap]∧nN W a l:=by
 rcases Go.Deep.open_slice underlying32 hf with ⟨hcs,_⟩ | ⟨a,len,cap,m,n,D,Pl,hcs,_,hl,hm,hmm,_,hx⟩
 ·exact ⟨none,0,[],hcs,.inl rfl⟩
 ·rw [Mo] at hx;simp only [if_true] at hmm;obtain ⟨f,hf'⟩:=Go.Deep.choose_lt (α:=List Zp × Option Addr × Nat) (n:=len) (p:=fun i y=>W.cell? ((a.add (i*1)).add 0)=some (.slice y.2.1 y.1.length y.2.2)∧aK W y.2.1 y.1∧(y.2.1=none→y.2.2=0)) (fun i hi=>by
   obtain ⟨cs',h1,h2⟩:=hx i ag;obtain ⟨_,_,hcell⟩:=N3 h1;obtain ⟨ai,ci,l,rfl,hz,hn⟩:=zT h2;exact ⟨(l,ai,ci),hcell 0 (by simp),hz,hn⟩)
  refine ⟨some a,cap,(List.range len).map fun i=>(f i).1,by simpa using hcs,?_⟩;by_cases h0:len=0
  ·left; simp [h0]
  ·obtain ⟨b,off,spot⟩:=a;have hc:=(hf' 0 ag).1;have hspot:spot=none:=by simpa [Addr.add] using NX hc
   subst hspot;refine .inr ⟨b,off,fun i=>(f i).2.1,fun i=>(f i).2.2,rfl,ML W _ (by simpa [Addr.add] using hc),fun i hi=>?_⟩;have hi':i<len:=by simpa using hi
   obtain ⟨g0,g1,g2⟩:=hf' i hi';simp only [iD,Nat.mul_one,NW] at g0;simp only [NC,NM];exact ⟨g0,g1,g2⟩
theorem Dk:24≤Tryz.prog.bytesOf 38:=by decide +kernel
theorem gC.Ln {H:Type} {enc:TypeId × Value→H} {W:World} {hd:Bool} {t e:TypeId} {fuel n cap:Nat} {a:Option Addr} {x:DataW H × List MemPlace} (hu:Tryz.prog.underlying t=some (.slice e)) (hb:24≤Tryz.prog.bytesOf e)
  (h:DataW.trod enc prog W 0 (fun _=>true) hd fuel t [.slice a n cap]=some x) (hl:gC t x.1):n≤10000000000000:=by
 rcases DataW.trod_slice hu h with ⟨hcs,_⟩ | ⟨a',len,cap',elems,rest,m,hm,hcs,rfl,_,_,_,hlen,_⟩
 ·simp at hcs;omega
 ·simp at hcs;obtain ⟨rfl,rfl,rfl⟩:=hcs;have h1:=hl ((elems.length+rest.length)*Tryz.prog.bytesOf e) (by rw [DataW.weights,hu]; simp);have h2:=reachBytes_lt;have h4:n*24≤(elems.length+rest.length)*Tryz.prog.bytesOf e:=Nat.mul_le_mul ag hb;omega
theorem EP {H:Type} {enc:TypeId × Value→H} {W:World} {r:Reach} {b0:Nat} {v:Value} {d:DataW H} {p:List MemPlace}
  (hv:Value.okWide prog W r b0 32 v) (h:DataW.Trod enc prog W 0 (fun _=>true) true 32 v d p) (hL:gC 32 d):∃ (a:Option Addr) (cap:Nat) (l:List (List Zp)),v = .slice a l.length cap∧nN W a l∧l.length≤10000000000000:=by
 obtain ⟨a0,len,cap,rfl⟩:=okWide_slice underlying32 hv;obtain ⟨fuel,hf⟩:=h;obtain ⟨a,c,l,e,hs⟩:=Ba hf;have e':Value.slice a0 len cap = .slice a l.length c:=by simpa [Value.cells] using e
 refine ⟨a,c,l,e',hs,?_⟩;have hf2:DataW.trod enc prog W 0 (fun _=>true) true fuel 32 [.slice a l.length c]=some (d,p):=by rw [← e']; exact hf
 exact gC.Ln underlying32 Dk hf2 hL
theorem Bi {H:Type} {enc:TypeId × Value→H} {W:World} {hd:Bool} {fuel:Nat} {cs:List Value} {x:DataW H × List MemPlace}
  (hf:DataW.trod enc prog W 0 (fun _=>true) hd fuel 33 cs=some x):∃ (a:Option Addr) (cap:Nat) (l:List Int),cs = [.slice a l.length cap]∧bf W W a l:=by
 rcases Go.Deep.open_slice1 underlying33 q3 hf with ⟨hcs,_⟩ | ⟨a,len,cap,m,n,V,D,Pl,hcs,_,hl,hm,hmm,_,hx⟩
 ·exact ⟨none,0,[],hcs,⟨by simp,.inl rfl⟩⟩
 ·simp only [if_true] at hmm;obtain ⟨f,hf'⟩:=Go.Deep.choose_lt (α:=Int) (n:=len) (p:=fun i (k:Int)=>W.cell? (a.add i)=some (.int .i64 k)) (fun i hi=>by
   obtain ⟨h1,h2⟩:=hx i ag;obtain ⟨k,e0,_,_⟩:=DataW.trod_int underlying3 h2;simp at e0;exact ⟨k,by rw [h1,e0]⟩)
  refine ⟨some a,cap,(List.range len).map f,by simpa using hcs,?_,?_⟩
  ·simp; omega
  by_cases h0:len=0
  ·left; simp [h0]
  ·right;obtain ⟨b,off,spot⟩:=a;have hc:=hf' 0 ag;have hspot:spot=none:=by simpa [Addr.add] using NX hc
   subst hspot;refine ⟨b,off,rfl,ML W _ (by simpa [Addr.add] using hc),fun i hi=>?_⟩;have hi':i<len:=by simpa using hi
   have:=hf' i hi';simp only [iD] at this;simp only [NC,NM];exact this
theorem yu {H:Type} {enc:TypeId × Value→H} {W:World} {r:Reach} {b0:Nat} {v:Value} {d:DataW H} {p:List MemPlace}
  (hv:Value.okWide prog W r b0 22 v) (h:DataW.Trod enc prog W 0 (fun _=>true) true 22 v d p):∃ (a:Option Addr) (cap:Nat) (l:List (List Int)),v = .slice a l.length cap∧jG W W a l:=by
 obtain ⟨a0,len0,cap0,rfl⟩:=okWide_slice underlying22 hv;obtain ⟨fuel,hf⟩:=h;rcases Go.Deep.open_slice underlying22 hf with ⟨hcs,_⟩ | ⟨a,len,cap,m,n,D,Pl,hcs,_,hl,hm,hmm,_,hx⟩
 ·exact ⟨none,0,[],by simpa [Value.cells] using hcs,.inl rfl⟩
 ·rw [Mp] at hx;simp only [if_true] at hmm;obtain ⟨f,hf'⟩:=Go.Deep.choose_lt (α:=List Int × Option Addr × Nat) (n:=len) (p:=fun i y=>W.cell? ((a.add (i*1)).add 0)=some (.slice y.2.1 y.1.length y.2.2)∧bf W W y.2.1 y.1) (fun i hi=>by
   obtain ⟨cs',h1,h2⟩:=hx i ag;obtain ⟨_,_,hcell⟩:=N3 h1;obtain ⟨ai,ci,l,rfl,hz⟩:=Bi h2;exact ⟨(l,ai,ci),hcell 0 (by simp),hz⟩)
  refine ⟨some a,cap,(List.range len).map fun i=>(f i).1,by simpa [Value.cells] using hcs,?_⟩;by_cases h0:len=0
  ·left; simp [h0]
  ·obtain ⟨b,off,spot⟩:=a;have hc:=(hf' 0 ag).1;have hspot:spot=none:=by simpa [Addr.add] using NX hc
   subst hspot;refine .inr ⟨b,off,fun i=>(f i).2.1,fun i=>(f i).2.2,rfl,ML W _ (by simpa [Addr.add] using hc),fun i hi=>?_⟩;have hi':i<len:=by simpa using hi
   obtain ⟨g0,g1⟩:=hf' i hi';simp only [iD,Nat.mul_one,NW] at g0;simp only [NC,NM];exact ⟨g0,g1⟩
end Go.Proofs.YtoefpglknaiaeaaGreat
namespace Go.Proofs.YtoefpglknaiaeaaGreat
open Go.Lib Go.RowKit Go.Shelf _root_.Go.Proofs.Tryz
def applE:List (List Zp)→List (List Zp)→Int
 | a :: l,b :: r=>if eJ 1 a b≠0 then eJ 1 a b else applE l r
 | _,_=>0
def applL:List (List Zp)→List (List Zp)→List (List Zp)
 | a :: l,b :: r=>dM 1 a b :: applL l r
 | _,_=>[]
def applyE (data more:List (List Zp)):Int:=if data.length≠more.length then 8 else applE data more
def applyZ (data more:List (List Zp)):List (List Zp):=if applyE data more=0 then applL data more else []
theorem applE_bad {l r:List (List Zp)} {j:Nat} (h:j<l.length) (h':j<r.length) (he:¬ eJ 1 l[j] r[j]=0):applE (l.drop j) (r.drop j)=eJ 1 l[j] r[j]:=by
 rw [MI h,MI h',applE,if_pos he]
theorem applE_next {l r:List (List Zp)} {j:Nat} (h:j<l.length) (h':j<r.length) (he:eJ 1 l[j] r[j]=0):applE (l.drop j) (r.drop j)=applE (l.drop (j+1)) (r.drop (j+1)):=by
 rw [MI h,MI h',applE,if_neg (by simp [he])]
theorem applE_end {l r:List (List Zp)} {j:Nat} (h:l.length≤j):applE (l.drop j) (r.drop j)=0:=by
 rw [M7 h,applE];intro a l b r h; cases h
theorem applL_len:∀ {l r:List (List Zp)},l.length=r.length→(applL l r).length=l.length
 | [],[],_=>rfl
 | a :: l,b :: r,h=>by simp only [applL,Ng]; rw [applL_len (by simpa using h)]
 | [],b :: r,h=>by simp at h
 | a :: l,[],h=>by simp at h
theorem applL_take:∀ {l r:List (List Zp)} {i:Nat} (h:i<l.length) (h':i<r.length),(applL l r).take (i+1)=(applL l r).take i ++ [dM 1 l[i] r[i]]
 | a :: l,b :: r,0,_,_=>by simp [applL]
 | a :: l,b :: r,i+1,h,h'=>by
  simp only [applL,List.take_succ_cons,NJ,Nu]
  rw [applL_take (l:=l) (r:=r) (by simpa using h) (by simpa using h')]
def wrongD (ts:List (List Int)) (p:Pl) (data more:List (List Zp)):Int:=if dp ts p≠0 then dp ts p else if fI ts data≠0 then fI ts data else fI ts more
theorem ev_inv {ts:List (List Int)} {data:List (List Zp)} {p:Pl} (h:Fx ts data p=0):dp ts p=0∧fI ts data=0∧(aW ts data p).1=0∧Fq ts data p=(aW ts data p).2:=by
 by_cases c:dp ts p=0
 ·by_cases c':fI ts data=0
  ·obtain ⟨e1,e2⟩:=Cd (p:=p) c c';exact ⟨c,c',e1 ▸ h,e2⟩
  ·rw [(yY c c').1] at h; exact absurd h c'
 ·rw [(zt c).1] at h; exact absurd h c
theorem infoS:(Tryz.prog.info? 38).map (fun i=>(i.zero,i.size,i.bytes))=some (some (.slice none 0 0),1,24):=by kernel_rfl
theorem make_setsN {n:Nat} (h:n≤10000000000000) (w:World):∃ c:Array Value,c.size=n∧(Instr.makeSlice 32 n n).run prog w = .ok (.slice (some (ah w 0)) n n) (w.alloc (.cells c 38)):=by
 obtain ⟨i0,hi,hj0,hj1,hj2⟩:=info_parts infoS;have hr:=run_make (P:=prog) w 32 38 i0 _ underlying32 hi hj0 .i64 .i64 n n ag ag (by rw [hj2]; omega) ag;rw [Int.toNat_natCast] at hr;exact ⟨_,by rw [size_madeCells,hj1,Nat.mul_one],hr⟩
def TbX (w:World) (a:Option Addr) (ts:List (List Int)):Prop:=jG w w a ts
theorem TbX.next {w w1:World} {a:Option Addr} {ts:List (List Int)} (h:TbX w a ts) (hb:Below w w w1):TbX w1 a ts:=(jG.next h hb (Mx _)).up hb.size
def PlX (w:World) (p:Pl) (q:Pw):Prop:=kH w w p q
theorem PlX.next {w w1:World} {p:Pl} {q:Pw} (h:PlX w p q) (hb:Below w w w1):PlX w1 p q:=(kH.next h hb (Mx _)).up hb.size
structure ElX (w:World) (b:Nat) (p:Pl) (q:Pw):Prop where
 el:ft w b 0 p q
 lt:b<w.heap.size
theorem ElX.next {w w1:World} {b:Nat} {p:Pl} {q:Pw} (h:ElX w b p q) (hb:Below w w w1):ElX w1 b p q:=⟨h.el.next hb h.lt,My h.lt hb.size⟩
def keepD (data:List (List Zp)) (chs:List (List (List Zp))):Nat→List (List Zp)
 | 0=>data
 | j+1=>applyZ (keepD data chs j) (chs.getD j [])
theorem keepD_succ {data:List (List Zp)} {chs:List (List (List Zp))} {j:Nat} (h:j<chs.length):keepD data chs (j+1)=applyZ (keepD data chs j) chs[j]:=by
 rw [keepD,NI,M1 h];rfl
theorem ev_len {ts:List (List Int)} {p:Pl} {data:List (List Zp)} (h:Fx ts data p=0):ts.length≤8∧data.length≤8:=by
 obtain ⟨l1,l2,_,_⟩:=ev_inv h;have:=Lz (fX l1).1;exact ⟨this,by rw [(Ha l2).1]; exact this⟩
def keepZ (ts:List (List Int)) (p:Pl) (data:List (List Zp)) (chs:List (List (List Zp))) (n:Nat):List (List Zp):=(List.range n).map fun i=>Fq ts (keepD data chs i) p
theorem keepZ_len (ts:List (List Int)) (p:Pl) (data:List (List Zp)) (chs:List (List (List Zp))) (n:Nat):(keepZ ts p data chs n).length=n:=by simp [keepZ]
theorem keepZ_succ (ts:List (List Int)) (p:Pl) (data:List (List Zp)) (chs:List (List (List Zp))) (n:Nat):keepZ ts p data chs (n+1)=keepZ ts p data chs n ++ [Fq ts (keepD data chs n) p]:=by simp [keepZ,List.range_succ]
def ChAt (W:World) (a:Option Addr) (l:List (List (List Zp))):Prop:=l = []∨∃ (b off:Nat) (ai:Nat→Option Addr) (ci:Nat→Nat),a=some ⟨b,off,none⟩∧b<W.heap.size∧∀ (i:Nat) (h:i<l.length),W.cell? ⟨b,off+i,none⟩=some (.slice (ai i) l[i].length (ci i))∧nN W (ai i) l[i]
theorem ChAt.next {W w1:World} {a:Option Addr} {l:List (List (List Zp))} (h:ChAt W a l) (hb:Below W W w1):ChAt w1 a l:=by
 rcases h with h | ⟨b,off,ai,ci,e,hlt,h⟩
 ·exact .inl h
 ·exact .inr ⟨b,off,ai,ci,e,My hlt hb.size,fun i hi=>⟨(hb.cell (p:=⟨b,_,none⟩) hlt).trans (h i hi).1,(h i hi).2.next hb⟩⟩
theorem ChAt.elem {W:World} {a:Option Addr} {l:List (List (List Zp))} (h:ChAt W a l) {i:Nat} (hi:i<l.length):∃ b off ai ci,a=some ⟨b,off,none⟩∧b<W.heap.size∧W.cell? ⟨b,off+i,none⟩=some (.slice ai l[i].length ci)∧nN W ai l[i]:=by
 rcases h with h | ⟨b,off,ai,ci,e,hlt,h⟩
 ·subst h; simp at hi
 ·exact ⟨b,off,ai i,ci i,e,hlt,h i hi⟩
def afE (ts:List (List Int)) (p:Pl) (data ch:List (List Zp)):Int:=if fI ts ch≠0 then fI ts ch else if applyE data ch≠0 then applyE data ch else Fx ts (applyZ data ch) p
theorem afE_zero {ts:List (List Int)} {p:Pl} {data ch:List (List Zp)} (h:afE ts p data ch=0):fI ts ch=0∧applyE data ch=0∧Fx ts (applyZ data ch) p=0:=by
 unfold afE at h;by_cases c:fI ts ch=0
 ·rw [if_neg (by simp [c])] at h;by_cases c':applyE data ch=0
  ·rw [if_neg (by simp [c'])] at h;exact ⟨c,c',h⟩
  ·rw [if_pos c'] at h; exact absurd h c'
 ·rw [if_pos c] at h; exact absurd h c
def kpE (ts:List (List Int)) (p:Pl) (data:List (List Zp)) (chs:List (List (List Zp))) (j:Nat):Int:=afE ts p (keepD data chs j) (chs.getD j [])
theorem kpE_at {ts:List (List Int)} {p:Pl} {data:List (List Zp)} {chs:List (List (List Zp))} {j:Nat} (h:j<chs.length):kpE ts p data chs j=afE ts p (keepD data chs j) chs[j]:=by
 unfold kpE; rw [NI,M1 h]; rfl
def kpG (E:Nat→Int):Nat→Nat→Int × Int
 | 0,_=>(0,0)
 | n+1,i=>if E i=0 then kpG E n (i+1) else (E i,(i:Int)+1)
theorem kpG_all (E:Nat→Int):∀ n i,(∀ k,i≤k→k<i+n→E k=0)→kpG E n i=(0,0)
 | 0,i,_=>rfl
 | n+1,i,h=>by
  unfold kpG
  rw [if_pos (h i (Mx _) ag)]
  exact kpG_all E n (i+1) fun k h1 h2=>h k ag ag
theorem kpG_at {E:Nat→Int} {k:Nat} (h:∀ i,i<k→E i=0) (h0:E k≠0):∀ n i,i≤k→k<i+n→kpG E n i=(E k,(k:Int)+1)
 | 0,i,h1,h2=>by omega
 | n+1,i,h1,h2=>by
  unfold kpG
  by_cases e:i=k
  ·subst e; rw [if_neg h0]
  ·rw [if_pos (h i ag)]
   exact kpG_at h h0 n (i+1) ag ag
def kpF (ts:List (List Int)) (p:Pl) (data:List (List Zp)) (chs:List (List (List Zp))):Int × Int:=if Fx ts data p≠0 then (Fx ts data p,0) else if 30<chs.length then (5,0) else kpG (kpE ts p data chs) chs.length 0
def kpL (ts:List (List Int)) (p:Pl) (data:List (List Zp)) (chs:List (List (List Zp))):List (List Zp):=if (kpF ts p data chs).1=0 then keepZ ts p data chs (chs.length+1) else []
section
variable {ts:List (List Int)} {p:Pl} {data:List (List Zp)} {chs:List (List (List Zp))}
theorem kp_err {e i:Int} (h:kpF ts p data chs=(e,i)) (h0:¬ e=0):kpL ts p data chs = []:=by unfold kpL; rw [h,if_neg h0]
theorem kp_ev (h:¬ Fx ts data p=0):kpF ts p data chs=(Fx ts data p,0):=by unfold kpF; rw [if_pos h]
theorem kp_many (h:Fx ts data p=0) (h':30<chs.length):kpF ts p data chs=(5,0):=by unfold kpF; rw [if_neg (by simp [h]),if_pos h']
theorem kp_bad {j:Nat} (h:Fx ts data p=0) (h':chs.length≤30) (hj:j<chs.length) (hE:∀ i,i<j→kpE ts p data chs i=0) (h0:¬ kpE ts p data chs j=0):kpF ts p data chs=(kpE ts p data chs j,(j:Int)+1):=by
 unfold kpF; rw [if_neg (by simp [h]),if_neg ag]; exact kpG_at hE h0 _ _ (MD _) ag
theorem kp_all (h:Fx ts data p=0) (h':chs.length≤30) (hE:∀ i,i<chs.length→kpE ts p data chs i=0):kpF ts p data chs=(0,0)∧kpL ts p data chs=keepZ ts p data chs (chs.length+1):=by
 have e:kpF ts p data chs=(0,0):=by
  unfold kpF; rw [if_neg (by simp [h]),if_neg ag]; exact kpG_all _ _ _ fun k _ hk=>hE k ag
 exact ⟨e,by unfold kpL; rw [e,if_pos rfl]⟩
theorem kp_evs (h:Fx ts data p=0):∀ (j:Nat),j≤chs.length→(∀ i,i<j→kpE ts p data chs i=0)→Fx ts (keepD data chs j) p=0
 | 0,_,_=>h
 | j+1,hj,hE=>by
  have hl:j<chs.length:=by omega
  have h1:=hE j (Nat.lt_succ_self j)
  rw [kpE_at hl] at h1
  rw [keepD_succ hl]
  exact (afE_zero h1).2.2
end
theorem addr_zero (g i:Nat):((ah g 0):Addr).add i=⟨g,i,none⟩:=by
 unfold Addr.add;by_cases h:i=0 <;> simp [h]
def IsSl (u:Value):Prop:=∃ a n c,u=Value.slice a n c
def AllS (W:World) (g:Nat):Prop:=∃ (cur:Array Value) (T:TypeId),W.heap[g]? = some (.cells cur T (0,0))∧∀ u ∈ cur.toList,IsSl u
theorem AllS.cell {W:World} {g o:Nat} {u:Value} (h:AllS W g) (hc:W.cell? (ah g o)=some u):IsSl u:=by
 obtain ⟨cur,T,h1,h2⟩:=h;simp only [World.cell?,h1] at hc;have hc:cur[o]? = some u:=by simpa using hc
 exact h2 u (by rw [Array.mem_toList_iff]; exact Array.mem_of_getElem? hc)
theorem AllS.same {W W':World} {g:Nat} (h:AllS W g) (e:W'.heap[g]? = W.heap[g]?):AllS W' g:=by
 obtain ⟨cur,T,h1,h2⟩:=h;exact ⟨cur,T,e.trans h1,h2⟩
theorem sl_off {W W':World} {g:Nat} (hs:AllS W g) (hz:W.heap.size≤W'.heap.size) (hk:∀ b,b<W.heap.size→b≠g→W'.heap[b]? = W.heap[b]?) {a:Option Addr} {r:List Vl} (h:aZ W a r):aZ W' a r:=by
 refine ⟨h.1,?_⟩;rcases h.2 with h | ⟨b,off,e,hr,hlt⟩
 ·exact .inl h
 ·by_cases h0:r = []
  ·exact .inl h0
  ·have hne:b≠g:=by
    rintro rfl;obtain ⟨a',n',c',e'⟩:=hs.cell (hr 0 (List.length_pos_iff.2 h0)).1;cases e'
   have k:=hk b hlt hne;refine .inr ⟨b,off,e,fun i hi=>?_,My hlt hz⟩;obtain ⟨c0,c1,c2⟩:=hr i hi;exact ⟨(MP (a:=⟨b,_,none⟩) k).trans c0,(MP (a:=⟨b,_,none⟩) k).trans c1,(MP (a:=⟨b,_,none⟩) k).trans c2⟩
theorem zs_off {W W':World} {g:Nat} (hs:AllS W g) (hz:W.heap.size≤W'.heap.size) (hk:∀ b,b<W.heap.size→b≠g→W'.heap[b]? = W.heap[b]?) {a:Option Addr} {z:List Zp} (h:aK W a z):aK W' a z:=by
 refine ⟨h.1,?_⟩;rcases h.2 with h | ⟨b,off,e,hlt,hr⟩
 ·exact .inl h
 ·by_cases h0:z = []
  ·exact .inl h0
  ·have hne:b≠g:=by
    rintro rfl;obtain ⟨a',n',c',e'⟩:=hs.cell (hr 0 (List.length_pos_iff.2 h0)).1;cases e'
   have k:=hk b hlt hne;refine .inr ⟨b,off,e,My hlt hz,fun i hi=>?_⟩;obtain ⟨c0,ar,cr,c1,s⟩:=hr i hi;exact ⟨(MP (a:=⟨b,_,none⟩) k).trans c0,ar,cr,(MP (a:=⟨b,_,none⟩) k).trans c1,sl_off hs hz hk s⟩
theorem zero_sl {k:Nat} {u:Value} (h:u ∈ (Builtin.zeroCells (Value.cells bX) k).toList):IsSl u:=by
 unfold Builtin.zeroCells at h;simp [Value.cells] at h;obtain ⟨j,_,e⟩:=h;simp [Nat.mod_one] at e;exact ⟨_,_,_,e.symm⟩
theorem run_append_sl {P:Program} (w:World) (base:Nat) (t ty e:TypeId) (i:TypeInfo) (ht:P.underlying t=some (.slice e)) (hi:P.info? e=some i) (hz:i.zero=some (.slice none 0 0)) (hsize:i.size=1) (hby:i.bytes=24)
  (v:Value) (n:Nat) (xs:List Value) (hown:w.ownsRow base e 1 v n xs) (hall:∀ g,v.ownBlock=some g→AllS w g)
  (a:Addr) (u:Value) (hu:IsSl u) (hc:w.cell? a=some u) (c:Nat) (hn:(n+1)*24≤140737488355328) (hbase:base≤w.heap.size) :
  ∃ v' w',(Builtin.append_ #[t,t] ty #[v,.slice (some a) 1 c]).run P w = .ok v' w'∧w'.ownsRow base e 1 v' (n+1) (xs ++ [u])∧w.grownBy w' v.ownBlock∧(∀ g,v'.ownBlock=some g→AllS w' g)∧(v'.ownBlock=v.ownBlock∨v'.ownBlock=some w.heap.size):=by
 have hnews:∀ j u',[u][j]? = some u'→w.cell? (a.add j)=some u':=fun j u' hj=>by
  cases j with
  | zero=>simp at hj; subst hj; simpa [Addr.add] using hc
  | succ j=>simp at hj
 have h1:∀ u' ∈ [u],u'.oneCell'=true:=fun u' h=>by
  obtain ⟨x,y,z,rfl⟩:=hu;simp at h; subst h; rfl
 have hl:[u].length=1*i.size:=by rw [hsize]; rfl
 obtain ⟨v',w',hr,ho,hg,_⟩:=run_append_own (P:=P) w base t ty e i _ 1 24 ht hi hz hsize hby rfl (by decide) v n xs hown a 1 c [u] rfl hnews h1 (by unfold maxLen; omega) ag hbase;refine ⟨v',w',hr,ho,hg,?_⟩;obtain ⟨hx,⟨rfl,rfl⟩ | ⟨g,cap,cur,rfl,hg0,hh,hn0,hc0,hs0,hk0⟩⟩:=hown
 ·have hr2:=run_append_nil (P:=P) w t ty e i _ ht hi hz a 1 c [u] hl hnews (by decide) (by decide) (by rw [hby]; decide);rw [hr] at hr2;injection hr2 with e1 e2
  subst e1 e2;refine ⟨?_,.inr rfl⟩;intro g hg';simp only [Value.ownBlock] at hg';injection hg' with hg'
  subst hg';refine ⟨_,e,heap_alloc_new w.drew _,fun u' h=>?_⟩;rw [Array.toList_append] at h;rcases List.mem_append.1 h with h | h
  ·simp at h; subst h; exact hu
  ·exact zero_sl h
 ·obtain ⟨cur',T',q1,q2⟩:=hall g rfl;rw [hh] at q1;have q1:=Nk q1;injection q1 with q1 _
  subst q1;by_cases room:n+1≤cap
  ·have hr2:=run_append_room (P:=P) w t ty e i ht hi g n cap cur hh a 1 c [u] hl hnews h1 room (by rw [hsize,hs0]; simp; omega);rw [hr] at hr2;injection hr2 with e1 e2
   subst e1 e2;refine ⟨?_,.inl rfl⟩;intro g' hg';simp only [Value.ownBlock] at hg';injection hg' with hg'
   subst hg';refine ⟨_,e,setRow_heap w g cur _ e _ hh,fun u' h=>?_⟩;have h:u' ∈ List.take (n*i.size) cur.toList∨u'=u∨u' ∈ List.drop (n*i.size+1) cur.toList:=by simpa using h
   rcases h with h | rfl | h
   ·exact q2 u' (N6 h)
   ·exact hu
   ·exact q2 u' (List.mem_of_mem_drop h)
  ·have holds:=World.ownsRow.cells (w:=w) (base:=base) (e:=e) (size:=1) (v:=.slice (some (ah g 0)) n cap) (n:=n) ⟨hx,.inr ⟨g,cap,cur,rfl,hg0,hh,hn0,hc0,hs0,hk0⟩⟩ rfl
   have hr2:=run_append_grow (P:=P) w t ty e i _ ht hi hz (ah g 0) n cap xs (by rw [hsize]; exact hx) holds a 1 c [u] hl hnews ag ag (by rw [hby]; exact growslice_fits ag ag);rw [hr] at hr2;injection hr2 with e1 e2
   subst e1 e2;refine ⟨?_,.inr rfl⟩;intro g' hg';simp only [Value.ownBlock] at hg';injection hg' with hg'
   subst hg';refine ⟨_,e,heap_alloc_new w.drew _,fun u' h=>?_⟩;rw [Array.toList_append,Array.toList_append] at h;rcases List.mem_append.1 h with h | h
   ·rcases List.mem_append.1 h with h | h
    ·refine q2 u' ?_;have h:u' ∈ xs:=by simpa using h
     rw [← hk0] at h;exact N6 h
    ·simp at h; subst h; exact hu
   ·exact zero_sl h
theorem wpList_append_sl {P:Program} {w:World} {ops:Array Oper} {rest:List Oper} {o:Oper} {a:Act} {Q:Exit→Act→World→Prop} (hgd:o.guard=none) (s x:Operand) (t:TypeId)
  (ho:o.op = .call { callee:=.builtin .append,args:=#[s,x],argTypes:=#[t,t] })
  (base:Nat) (e:TypeId) (i:TypeInfo) (ht:P.underlying t=some (.slice e)) (hi:P.info? e=some i) (hz:i.zero=some (.slice none 0 0)) (hsize:i.size=1) (hby:i.bytes=24)
  (v:Value) (n:Nat) (xs:List Value) (hs:a.eval s=v) (hown:w.ownsRow base e 1 v n xs) (hall:∀ g,v.ownBlock=some g→AllS w g)
  (ad:Addr) (u:Value) (hu:IsSl u) (hc:w.cell? ad=some u) (c:Nat) (hx:a.eval x = .slice (some ad) 1 c) (hn:(n+1)*24≤140737488355328) (hbase:base≤w.heap.size)
  (h:∀ v' w',w'.ownsRow base e 1 v' (n+1) (xs ++ [u])→w.grownBy w' v.ownBlock→(∀ g,v'.ownBlock=some g→AllS w' g)→(v'.ownBlock=v.ownBlock∨v'.ownBlock=some w.heap.size)→wpList P ops Q rest (a.put o.dst v') w'):wpList P ops Q (o :: rest) a w:=by
 refine wpList_plain hgd fun K hK=>?_
 obtain ⟨v',w',hr,ho',hgr,hd,hn'⟩:=run_append_sl (P:=P) w base t o.type e i ht hi hz hsize hby v n xs hown hall ad u hu hc c hn hbase;unfold Oper.wp;simp [execOp,ho,resolve,invoke,builtin,hs,hx,hr,Result.andThen];exact hK _ _ (h v' w' ho' hgr hd hn')
structure OwnQ (p:Prop) (base:Nat) (W:World) (v:Value) (zs:List (List Zp)) (cs:List Value):Prop where
 own:W.ownsRow base 38 1 v zs.length cs
 all:∀ g,v.ownBlock=some g→AllS W g
 at_:∀ (i:Nat) (h:i<zs.length),∃ a c,cs[i]? = some (.slice a zs[i].length c)∧aK W a zs[i]∧(p→a=none→c=0)
theorem OwnQ.nil {p:Prop} (base:Nat) (W:World):OwnQ p base W bX [] []:=⟨M4 _ _ _ _,fun g h=>by simp [Value.ownBlock] at h,fun i hi=>by cases hi⟩
theorem OwnQ.next {p:Prop} {base:Nat} {W w1:World} {v:Value} {zs:List (List Zp)} {cs:List Value} (h:OwnQ p base W v zs cs) (hb:Below W W w1):OwnQ p base w1 v zs cs :=
 ⟨aL h.own hb,fun g hg=>(h.all g hg).same (hb.block g (h.own.lt g hg).2),fun i hi=>by
  obtain ⟨a,c,h1,h2,h3⟩:=h.at_ i hi
  exact ⟨a,c,h1,h2.next hb,h3⟩⟩
theorem OwnQ.push {p:Prop} {base:Nat} {W W1:World} {v v':Value} {zs:List (List Zp)} {z:List Zp} {cs:List Value} {a:Option Addr} {c:Nat} (h:OwnQ p base W v zs cs) (hz:aK W a z) (hn:p→a=none→c=0)
  (ho:W1.ownsRow base 38 1 v' (zs.length+1) (cs ++ [.slice a z.length c])) (hg:W.grownBy W1 v.ownBlock) (ha:∀ g,v'.ownBlock=some g→AllS W1 g):OwnQ p base W1 v' (zs ++ [z]) (cs ++ [.slice a z.length c]):=by
 have hcl:cs.length=zs.length:=by have:=h.own.1; omega
 have mv:∀ {a:Option Addr} {z:List Zp},aK W a z→aK W1 a z:=fun hz=>by
  cases hv:v.ownBlock with
  | none =>
   rw [hv] at hg;exact hz.next ⟨hg.os,hg.tape,hg.output,hg.size,fun k hk=>hg.block k hk (by simp)⟩
  | some g =>
   rw [hv] at hg;exact zs_off (h.all g hv) hg.size (fun b hb hne=>hg.block b hb (by intro e; exact hne (Nk e))) hz
 refine ⟨by rw [ME]; exact ho,ha,fun i hi=>?_⟩;by_cases e:i<zs.length
 ·obtain ⟨a',c',e1,o1,n1⟩:=h.at_ i e;rw [MV e];exact ⟨a',c',by rw [MT ag]; exact e1,mv o1,n1⟩
 ·have e:i=zs.length:=by simp at hi; omega
  subst e;exact ⟨a,c,by rw [MU ag]; simp [hcl],by simpa using mv hz,hn⟩
def DtP (p:Prop) (W:World) (a:Option Addr) (l:List (List Zp)):Prop:=l = []∨∃ (b off:Nat) (ai:Nat→Option Addr) (ci:Nat→Nat),a=some ⟨b,off,none⟩∧b<W.heap.size∧∀ (i:Nat) (h:i<l.length),W.cell? ⟨b,off+i,none⟩=some (.slice (ai i) l[i].length (ci i))∧aK W (ai i) l[i]∧(p→ai i=none→ci i=0)
theorem DtP.at {W:World} {a:Option Addr} {l:List (List Zp)} (h:DtP True W a l):nN W a l:=h.imp id fun ⟨b,off,ai,ci,e,hlt,h⟩=>⟨b,off,ai,ci,e,hlt,fun i hi=>⟨(h i hi).1,(h i hi).2.1,(h i hi).2.2 trivial⟩⟩
theorem nN.p {W:World} {a:Option Addr} {l:List (List Zp)} (h:nN W a l):DtP False W a l:=h.imp id fun ⟨b,off,ai,ci,e,hlt,h⟩=>⟨b,off,ai,ci,e,hlt,fun i hi=>⟨(h i hi).1,(h i hi).2.1,fun c=>c.elim⟩⟩
theorem DtP.next {p:Prop} {W w1:World} {a:Option Addr} {l:List (List Zp)} (h:DtP p W a l) (hb:Below W W w1):DtP p w1 a l :=
 h.imp id fun ⟨b,off,ai,ci,e,hlt,h⟩=>⟨b,off,ai,ci,e,My hlt hb.size,fun i hi=>⟨(hb.cell (p:=⟨b,_,none⟩) hlt).trans (h i hi).1,(h i hi).2.1.next hb,(h i hi).2.2⟩⟩
theorem DtP.elem {p:Prop} {W:World} {a:Option Addr} {l:List (List Zp)} (h:DtP p W a l) {i:Nat} (hi:i<l.length):∃ b off ai ci,a=some ⟨b,off,none⟩∧b<W.heap.size∧W.cell? ⟨b,off+i,none⟩=some (.slice ai l[i].length ci)∧aK W ai l[i]:=by
 rcases h with h | ⟨b,off,ai,ci,e,hlt,h⟩
 ·subst h; simp at hi
 ·exact ⟨b,off,ai i,ci i,e,hlt,(h i hi).1,(h i hi).2.1⟩
theorem OwnQ.dt {p:Prop} {base:Nat} {W:World} {v:Value} {zs:List (List Zp)} {cs:List Value} (h:OwnQ p base W v zs cs):∃ a c,v = .slice a zs.length c∧DtP p W a zs:=by
 have h1':=h.own;obtain ⟨hx,⟨rfl,h0⟩ | ⟨g,cap,cur,rfl,hg,hh,hn,hc,hs,ht⟩⟩:=h.own
 ·have:zs = []:=MH h0;subst this;exact ⟨none,0,rfl,.inl rfl⟩
 ·refine ⟨_,cap,rfl,?_⟩;by_cases hz:zs = []
  ·exact .inl hz
  ·have key:∀ (i:Nat) (h:i<zs.length),∃ y:Option Addr × Nat,W.cell? ⟨g,0+i,none⟩=some (.slice y.1 zs[i].length y.2)∧aK W y.1 zs[i]∧(p→y.1=none→y.2=0):=fun i hi=>by
    obtain ⟨a,c,e,o⟩:=h.at_ i hi;have:=World.ownsRow.cells h1' (g:=g) rfl i _ e;exact ⟨(a,c),by rw [addr_zero] at this; rw [MG]; exact this,o⟩
   refine .inr ⟨g,0,fun i=>if h:i<zs.length then (Classical.choose (key i h)).1 else none,fun i=>if h:i<zs.length then (Classical.choose (key i h)).2 else 0,rfl,an hh,fun i hi=>?_⟩;simp only [dif_pos hi];exact Classical.choose_spec (key i hi)
theorem OwnQ.one {p:Prop} {w:World} {a:Option Addr} {z:List Zp} {c:Nat} (hz:aK w a z) (hn:p→a=none→c=0):OwnQ p w (w.alloc (.cells #[.slice a z.length c] 38)) (.slice (some (ah w 0)) 1 1) [z] [.slice a z.length c]:=by
 obtain ⟨hb,q⟩:=iV w #[.slice a z.length c] 38;refine ⟨⟨rfl,.inr ⟨w.heap.size,1,#[.slice a z.length c],rfl,Mx _,q,Mx _,by decide,rfl,rfl⟩⟩,fun g hg=>?_,fun i hi=>?_⟩
 ·simp only [Value.ownBlock] at hg;injection hg with hg
  subst hg;exact ⟨_,_,q,fun u hu=>by simp at hu; subst hu; exact ⟨_,_,_,rfl⟩⟩
 ·match i,hi with
  | 0,_=>exact ⟨a,c,rfl,hz.next hb,hn⟩
def DFk (W:World) (v:Value) (a:Option Addr) (l:List (List Zp)):Prop:=nN W a l∧(l = []∨∀ b off,a=some ⟨b,off,none⟩→v.ownBlock≠some b)
theorem DFk.next {W W1:World} {v:Value} {a:Option Addr} {l:List (List Zp)} (h:DFk W v a l) (hb:Below W W W1):DFk W1 v a l:=⟨h.1.next hb,h.2⟩
theorem DFk.LG {W W1:World} {g n c:Nat} {a:Option Addr} {l:List (List Zp)} (h:nN W a l) (hb:Below W W W1) (hg:W.heap.size≤g):DFk W1 (.slice (some (ah g 0)) n c) a l:=by
 refine ⟨h.next hb,?_⟩;rcases h with h | ⟨b,off,ai,ci,e,hlt,_⟩
 ·exact .inl h
 ·refine .inr fun b' off' e' h'=>?_
  rw [e] at e';simp only [Value.ownBlock] at h';injection h' with h'
  have:=congrArg Addr.block (Nk e');simp only at this;omega
theorem DFk.off {W W1:World} {v:Value} {a:Option Addr} {l:List (List Zp)} (h:DFk W v a l) (hs:∀ g,v.ownBlock=some g→AllS W g) (hg:W.grownBy W1 v.ownBlock):nN W1 a l:=by
 cases hv:v.ownBlock with
 | none =>
  rw [hv] at hg;exact h.1.next ⟨hg.os,hg.tape,hg.output,hg.size,fun k hk=>hg.block k hk (by simp)⟩
 | some g =>
  rw [hv] at hg;have hk:∀ b,b<W.heap.size→b≠g→W1.heap[b]? = W.heap[b]?:=fun b hb hne=>hg.block b hb (by intro e; exact hne (Nk e))
  rcases h.1 with h0 | ⟨b,off,ai,ci,e,hlt,h1⟩
  ·exact .inl h0
  ·rcases h.2 with h0 | h2
   ·exact .inl h0
   ·have hne:b≠g:=fun c=>h2 b off e (by rw [hv,c])
    refine .inr ⟨b,off,ai,ci,e,My hlt hg.size,fun i hi=>?_⟩;obtain ⟨c0,c1,c2⟩:=h1 i hi;exact ⟨(MP (a:=⟨b,_,none⟩) (hk b hlt hne)).trans c0,zs_off (hs g hv) hg.size hk c1,c2⟩
theorem DFk.new {W W1:World} {B:Nat} {v v':Value} {a:Option Addr} {l:List (List Zp)} (h:nN W1 a l) (hl:l = []∨∃ b off,a=some ⟨b,off,none⟩∧B≤b∧b<W.heap.size) (hv:∀ g,v.ownBlock=some g→g<B) (hd:v'.ownBlock=v.ownBlock∨v'.ownBlock=some W.heap.size):DFk W1 v' a l:=by
 refine ⟨h,?_⟩;rcases hl with hl | ⟨b,off,e,h1,h2⟩
 ·exact .inl hl
 ·refine .inr fun b' off' e' h'=>?_
  rw [e] at e';have:=congrArg Addr.block (Nk e');simp only at this;subst this;rcases hd with hd | hd
  ·rw [hd] at h'; have:=hv _ h'; omega
  ·rw [hd] at h'; injection h' with h'; omega
theorem dt_in {W:World} {a:Option Addr} {l:List (List Zp)} {B:Nat} (h:nN W a l) (hf:∀ b off,a=some ⟨b,off,none⟩→B≤b):l = []∨∃ b off,a=some ⟨b,off,none⟩∧B≤b∧b<W.heap.size:=by
 rcases h with h | ⟨b,off,ai,ci,e,hlt,_⟩
 ·exact .inl h
 ·exact .inr ⟨b,off,e,hf b off e,hlt⟩
end Go.Proofs.YtoefpglknaiaeaaGreat
