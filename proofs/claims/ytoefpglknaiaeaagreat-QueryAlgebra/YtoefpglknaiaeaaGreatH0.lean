/- Together: XOpen, AOpen, EOpen, ZOpen, POpen, QOpen, FX, NI, LI. -/
import Derived.Deep.Slices
import Derived.Deep.Strs
import Derived.ProofKit
import Derived.OpenShut
import Derived.ChangeOld
import Derived.Lib.SmallJoins
import Derived.SizedLaws
import Derived.Test.YtoefpglknaiaeaaGreatB4
import Derived.Test.YtoefpglknaiaeaaGreatB9
import Derived.Test.YtoefpglknaiaeaaGreatB2
import Derived.Test.YtoefpglknaiaeaaGreatB11
import Derived.Test.YtoefpglknaiaeaaGreatB10
import Derived.Test.YtoefpglknaiaeaaGreatB7
import Derived.Test.YtoefpglknaiaeaaGreatB13
import Derived.Test.YtoefpglknaiaeaaGreatB12
/- Opening arguments: numbers, values, expressions. -/
namespace Go.Proofs.YtoefpglknaiaeaaGreat
open Go.ChangeShapes Go.WideShapes Go.ChangeAt Go.RowKit Go.Joins

set_option maxRecDepth 100000 in
theorem addr_addX (b off i:Nat):(⟨b,off,none⟩:Addr).add i=⟨b,off+i,none⟩:=by
 unfold Addr.add
 by_cases h:i=0 <;> simp [h]
theorem q3:Tryz.prog.cellsOf 3=1:=by kernel_rfl
theorem q2:Tryz.prog.cellsOf 2=1:=by kernel_rfl
theorem q9:Tryz.prog.cellsOf 9=1:=by kernel_rfl
theorem q24:Tryz.prog.cellsOf 24=3:=by kernel_rfl
theorem q25:Tryz.prog.cellsOf 25=1:=by kernel_rfl
theorem q27:Tryz.prog.cellsOf 27=6:=by kernel_rfl
set_option maxRecDepth 100000 in
theorem open_valT {H:Type} {enc:TypeId × Value→H} {W:World} {base:Nat} {sp:Nat→Bool} {hd:Bool} {fuel:Nat} {cs:List Value} {x:DataW H × List MemPlace}
  (h:DataW.trod enc Tryz.prog W base sp hd fuel 24 cs=some x):∃ v:Vl,cs = [.int .i64 v.1,.int .i64 v.2.1,.string v.2.2]:=by
 obtain ⟨y0,y1,y2,m,_,hlen,h0,h1,h2⟩:=Go.Deep.trod_struct3 Tryz.underlying24 h
 rw [q24] at hlen
 match cs,hlen with
 | [c0,c1,c2],_ =>
  simp only [q3,q2,q9] at h0 h1 h2
  obtain ⟨k,e0,_,_⟩:=DataW.trod_int Tryz.underlying3 h0
  obtain ⟨n,e1,_,_⟩:=DataW.trod_int Tryz.underlying2 h1
  obtain ⟨s,e2,_,_⟩:=DataW.trod_string Tryz.underlying9 h2
  simp at e0 e1 e2
  subst e0 e1 e2
  exact ⟨(k,n,s),rfl⟩
instance:Inhabited Ex:=⟨.mk 0 (0,0,⟨#[]⟩) 0 []⟩
/-- The kids' opening, at less fuel. -/
def KidsOpen {H:Type} (enc:TypeId × Value→H) (W:World) (hd:Bool) (m:Nat):Prop :=
 ∀ cs x,DataW.trod enc Tryz.prog W 0 (fun _=>true) hd m 25 cs=some x→∃ (a:Option Addr) (cap:Nat) (l:List Ex),cs = [.slice a l.length cap]∧KsAt W.heap.size W a l
set_option maxRecDepth 100000 in
theorem open_exprT {H:Type} {enc:TypeId × Value→H} {W:World} {hd:Bool} {fuel:Nat} (ih:∀ m,m<fuel→KidsOpen enc W hd m) {cs:List Value} {x:DataW H × List MemPlace}
  (h:DataW.trod enc Tryz.prog W 0 (fun _=>true) hd fuel 27 cs=some x) :
  ∃ (e:Ex) (a:Option Addr) (cap:Nat),cs = [.int .i64 e.k,.int .i64 e.v.1,.int .i64 e.v.2.1,.string e.v.2.2,.int .i64 e.c,.slice a e.ks.length cap]∧KsAt W.heap.size W a e.ks:=by
 obtain ⟨xs,n,hn,_,hl,hlen,hf⟩:=DataW.trod_struct Tryz.underlying27 h
 rw [q27] at hl
 match xs,hlen with
 | [y0,y1,y2,y3],_ =>
  have h0:=hf 0 _ rfl
  have h1:=hf 1 _ rfl
  have h2:=hf 2 _ rfl
  have h3:=hf 3 _ rfl
  match cs,hl with
  | [c0,c1,c2,c3,c4,c5],_ =>
   simp [q3,q24,q25] at h0 h1 h2 h3
   obtain ⟨k,e0,_,_⟩:=DataW.trod_int Tryz.underlying3 h0
   obtain ⟨v,e1⟩:=open_valT h1
   obtain ⟨c,e2,_,_⟩:=DataW.trod_int Tryz.underlying3 h2
   obtain ⟨a,cap,l,e3,hk⟩:=ih n (by omega) _ _ h3
   simp at e0 e1 e2 e3
   obtain ⟨r1,r2,r3⟩:=e1
   subst e0 r1 r2 r3 e2 e3
   exact ⟨.mk k v c l,a,cap,rfl,hk⟩
set_option maxRecDepth 100000 in
theorem kidsOpen {H:Type} (enc:TypeId × Value→H) (W:World) (hd:Bool) (fuel:Nat):KidsOpen enc W hd fuel:=by
 induction fuel using Nat.strongRecOn with
 | ind fuel ih =>
  intro cs x h
  rcases DataW.trod_slice Tryz.underlying25 h with ⟨hcs,_⟩ | ⟨a,len,cap,elems,rest,n,hn,hcs,_,_,_,_,hlen,hel,_,_⟩
  ·exact ⟨none,0,[],hcs,.nil _⟩
  ·rw [q27] at hel
   obtain ⟨f,hf⟩:=Go.Deep.choose_lt (α:=Ex × Option Addr × Nat) (n:=len) (p:=fun i (y:Ex × Option Addr × Nat) =>
     (W.cell? ((a.add (i*6)).add 0)=some (.int .i64 y.1.k)∧W.cell? ((a.add (i*6)).add 1)=some (.int .i64 y.1.v.1)∧W.cell? ((a.add (i*6)).add 2)=some (.int .i64 y.1.v.2.1)∧W.cell? ((a.add (i*6)).add 3)=some (.string y.1.v.2.2) ∧
      W.cell? ((a.add (i*6)).add 4)=some (.int .i64 y.1.c)∧W.cell? ((a.add (i*6)).add 5)=some (.slice y.2.1 y.1.ks.length y.2.2))∧KsAt W.heap.size W y.2.1 y.1.ks) (fun i hi=>by
    have key:=hel i hi
    rw [List.getElem?_eq_getElem (by omega)] at key
    obtain ⟨cs',h1,h2⟩:=Option.bind_eq_some_iff.1 key
    obtain ⟨_,hl6,hcell⟩:=World.cells?_some h1
    obtain ⟨e,ai,ci,rfl,hk⟩:=open_exprT (fun m hm=>ih m (by omega)) h2
    exact ⟨(e,ai,ci),⟨hcell 0 (by simp),hcell 1 (by simp),hcell 2 (by simp),hcell 3 (by simp),hcell 4 (by simp),hcell 5 (by simp)⟩,hk⟩)
   refine ⟨some a,cap,(List.range len).map fun i=>(f i).1,by simpa using hcs,?_⟩
   by_cases h0:len=0
   ·subst h0; exact .nil _
   ·obtain ⟨b,off,spot⟩:=a
    have hc:=(hf 0 (by omega)).1.1
    have hspot:spot=none:=by simpa [Addr.add] using World.cell?_spot hc
    subst hspot
    refine .some b off _ (fun i=>(f i).2.1) (fun i=>(f i).2.2) (World.block_lt_of_cell? W _ (by simpa [Addr.add] using hc)) (fun i hi=>?_) (fun i hi=>?_)
    ·have hi':i<len:=by simpa using hi
     have:=(hf i hi').1
     simp only [addr_addX] at this
     simp only [List.getElem_map,List.getElem_range]
     exact ⟨this.1,this.2.1,this.2.2.1,this.2.2.2.1,this.2.2.2.2.1,this.2.2.2.2.2⟩
    ·have hi':i<len:=by simpa using hi
     simp only [List.getElem_map,List.getElem_range]
     exact (hf i hi').2
set_option maxRecDepth 100000 in
theorem open_expr {H:Type} {enc:TypeId × Value→H} {W:World} {r:Reach} {b0:Nat} {v:Value} {d:DataW H} {p:List MemPlace}
  (hv:Value.okWide Tryz.prog W r b0 27 v) (h:DataW.Trod enc Tryz.prog W 0 (fun _=>true) true 27 v d p):∃ (e:Ex) (a:Option Addr) (cap:Nat),v=exV e.k e.v e.c a e.ks.length cap∧KsAt W.heap.size W a e.ks:=by
 obtain ⟨cs,rfl,_⟩:=okWide_struct Tryz.underlying27 hv
 obtain ⟨fuel,hf⟩:=h
 obtain ⟨e,a,cap,he,hk⟩:=open_exprT (fun m _=>kidsOpen enc W true m) hf
 refine ⟨e,a,cap,?_,hk⟩
 have e':cs.toList = [.int .i64 e.k,.int .i64 e.v.1,.int .i64 e.v.2.1,.string e.v.2.2,.int .i64 e.c,.slice a e.ks.length cap]:=by simpa [Value.cells] using he
 exact congrArg Value.agg (Array.toList_inj.mp e')
end Go.Proofs.YtoefpglknaiaeaaGreat
/- Opening lists of aggregates. -/
namespace Go.Proofs.YtoefpglknaiaeaaGreat
open Go.ChangeShapes Go.WideShapes Go.ChangeAt Go.RowKit Go.Joins

theorem qAgg:Tryz.prog.cellsOf 123=7:=by kernel_rfl
set_option maxRecDepth 100000 in
theorem open_aggT {H:Type} {enc:TypeId × Value→H} {W:World} {hd:Bool} {fuel:Nat} {cs:List Value} {x:DataW H × List MemPlace}
  (h:DataW.trod enc Tryz.prog W 0 (fun _=>true) hd fuel 123 cs=some x) :
  ∃ (g:Ag) (a:Option Addr) (cap:Nat),cs = [.int .i64 g.1,.int .i64 g.2.k,.int .i64 g.2.v.1,.int .i64 g.2.v.2.1,.string g.2.v.2.2,.int .i64 g.2.c,.slice a g.2.ks.length cap]∧KsAt W.heap.size W a g.2.ks:=by
 obtain ⟨xs,n,hn,_,hl,hlen,hf⟩:=DataW.trod_struct Tryz.underlying123 h
 rw [qAgg] at hl
 match xs,hlen with
 | [y0,y1],_ =>
  have h0:=hf 0 _ rfl
  have h1:=hf 1 _ rfl
  match cs,hl with
  | [c0,c1,c2,c3,c4,c5,c6],_ =>
   simp [q3,q27] at h0 h1
   obtain ⟨k,e0,_,_⟩:=DataW.trod_int Tryz.underlying3 h0
   obtain ⟨e,a,cap,e1,hk⟩:=open_exprT (fun m _=>kidsOpen enc W hd m) h1
   simp at e0 e1
   obtain ⟨r1,r2,r3,r4,r5,r6⟩:=e1
   subst e0 r1 r2 r3 r4 r5 r6
   exact ⟨(k,e),a,cap,rfl,hk⟩
instance:Inhabited Ag:=⟨(0,.mk 0 (0,0,⟨#[]⟩) 0 [])⟩
theorem bytes_agg:8≤Tryz.prog.bytesOf 123:=by decide +kernel
end Go.Proofs.YtoefpglknaiaeaaGreat
/- How long the lists of expressions may be that are read. -/
namespace Go.Proofs.YtoefpglknaiaeaaGreat
open Go.ChangeShapes Go.WideShapes Go.ChangeAt Go.RowKit Go.Joins

theorem bytes_expr:8≤Tryz.prog.bytesOf 27:=by decide +kernel
end Go.Proofs.YtoefpglknaiaeaaGreat
/- Opening arguments: slices of values, and slices of rows with weights. -/
namespace Go.Proofs.YtoefpglknaiaeaaGreat
open Go.ChangeShapes Go.WideShapes Go.ChangeAt Go.RowKit Go.Joins

set_option maxRecDepth 100000 in
theorem addr_add (b off i:Nat):(⟨b,off,none⟩:Addr).add i=⟨b,off+i,none⟩:=by
 unfold Addr.add
 by_cases h:i=0 <;> simp [h]
set_option maxRecDepth 100000 in
theorem open_row {H:Type} {enc:TypeId × Value→H} {W:World} {base:Nat} {sp:Nat→Bool} {hd:Bool} {fuel:Nat} {cs:List Value} {x:DataW H × List MemPlace} {a:Addr}
  (hc:W.cells? base a 3=some cs) (h:DataW.trod enc Tryz.prog W base sp hd fuel 24 cs=some x) :
  ∃ v:Vl,W.cell? (a.add 0)=some (.int .i64 v.1)∧W.cell? (a.add 1)=some (.int .i64 v.2.1)∧W.cell? (a.add 2)=some (.string v.2.2):=by
 obtain ⟨_,hlen,hcell⟩:=World.cells?_some hc
 obtain ⟨y0,y1,y2,m,_,_,h0,h1,h2⟩:=Go.Deep.trod_struct3 Tryz.underlying24 h
 have q3:Tryz.prog.cellsOf 3=1:=by kernel_rfl
 have q2:Tryz.prog.cellsOf 2=1:=by kernel_rfl
 have q9:Tryz.prog.cellsOf 9=1:=by kernel_rfl
 match cs,hlen with
 | [c0,c1,c2],_ =>
  simp only [q3,q2,q9] at h0 h1 h2
  obtain ⟨k,e0,_,_⟩:=DataW.trod_int Tryz.underlying3 h0
  obtain ⟨n,e1,_,_⟩:=DataW.trod_int Tryz.underlying2 h1
  obtain ⟨s,e2,_,_⟩:=DataW.trod_string Tryz.underlying9 h2
  simp at e0 e1 e2
  subst e0 e1 e2
  exact ⟨(k,n,s),hcell 0 (by omega),hcell 1 (by omega),hcell 2 (by omega)⟩
set_option maxRecDepth 100000 in
theorem open_valsT {H:Type} {enc:TypeId × Value→H} {W:World} {hd:Bool} {fuel:Nat} {cs:List Value} {x:DataW H × List MemPlace}
  (hf:DataW.trod enc Tryz.prog W 0 (fun _=>true) hd fuel 45 cs=some x):∃ (a:Option Addr) (cap:Nat) (l:List Vl),cs = [.slice a l.length cap]∧SlAt W a l:=by
 rcases Go.Deep.open_slice Tryz.underlying45 hf with ⟨hcs,_⟩ | ⟨a,len,cap,m,n,D,Pl,hcs,_,hl,hm,hmm,_,hx⟩
 ·exact ⟨none,0,[],hcs,by simp,.inl rfl⟩
 ·have q:Tryz.prog.cellsOf 24=3:=by kernel_rfl
  rw [q] at hx
  simp only [if_true] at hmm
  obtain ⟨f,hf'⟩:=Go.Deep.choose_lt (α:=Vl) (n:=len) (p:=fun i (v:Vl)=>W.cell? ((a.add (i*3)).add 0)=some (.int .i64 v.1)∧W.cell? ((a.add (i*3)).add 1)=some (.int .i64 v.2.1)∧W.cell? ((a.add (i*3)).add 2)=some (.string v.2.2)) (fun i hi=>by
   obtain ⟨cs',h1,h2⟩:=hx i (by omega)
   exact open_row h1 h2)
  refine ⟨some a,cap,(List.range len).map f,by simpa using hcs,?_,?_⟩
  ·simp; omega
  by_cases h0:len=0
  ·left; simp [h0]
  ·right
   obtain ⟨b,off,spot⟩:=a
   have hc:=(hf' 0 (by omega)).1
   have hspot:spot=none:=by simpa [Addr.add] using World.cell?_spot hc
   subst hspot
   refine ⟨b,off,rfl,fun i hi=>?_,?_⟩
   ·have hi':i<len:=by simpa using hi
    have:=hf' i hi'
    simp only [addr_add] at this
    simp only [List.getElem_map,List.getElem_range]
    exact this
   ·exact World.block_lt_of_cell? W _ (by simpa [Addr.add] using hc)
set_option maxRecDepth 100000 in
theorem struct2 {P:Program} {H:Type} {enc:TypeId × Value→H} {w:World} {base:Nat} {spare:Nat→Bool} {held:Bool} {t:TypeId} {f0 f1:Field} {fuel:Nat} {cs:List Value} {x:DataW H × List MemPlace} (ht:P.underlying t=some (.struct #[f0,f1])) (h:DataW.trod enc P w base spare held fuel t cs=some x) :
  ∃ y0 y1 n,DataW.trod enc P w base spare held n f0.type ((cs.drop f0.offset).take (P.cellsOf f0.type))=some y0 ∧
   DataW.trod enc P w base spare held n f1.type ((cs.drop f1.offset).take (P.cellsOf f1.type))=some y1:=by
 obtain ⟨xs,n,_,rfl,hl,hlen,hf⟩:=DataW.trod_struct ht h
 match xs,hlen with
 | [y0,y1],_=>exact ⟨y0,y1,n,by simpa using hf 0 f0 rfl,by simpa using hf 1 f1 rfl⟩
set_option maxRecDepth 100000 in
theorem open_zrow {H:Type} {enc:TypeId × Value→H} {W:World} {hd:Bool} {fuel:Nat} {cs:List Value} {x:DataW H × List MemPlace} {a:Addr}
  (hc:W.cells? 0 a 2=some cs) (h:DataW.trod enc Tryz.prog W 0 (fun _=>true) hd fuel 47 cs=some x) :
  ∃ z:Zp,W.cell? (a.add 1)=some (.int .i64 z.2)∧∃ ai cap,W.cell? (a.add 0)=some (.slice ai z.1.length cap)∧SlAt W ai z.1:=by
 obtain ⟨_,hlen,hcell⟩:=World.cells?_some hc
 obtain ⟨y0,y1,n,h0,h1⟩:=struct2 Tryz.underlying47 h
 have q23:Tryz.prog.cellsOf 45=1:=by kernel_rfl
 have q2:Tryz.prog.cellsOf 2=1:=by kernel_rfl
 match cs,hlen with
 | [c0,c1],_ =>
  simp only [q23,q2] at h0 h1
  obtain ⟨ai,cap,l,e0,hs⟩:=open_valsT h0
  obtain ⟨k,e1,_,_⟩:=DataW.trod_int Tryz.underlying2 h1
  simp at e0 e1
  subst e0 e1
  exact ⟨(l,k),hcell 1 (by omega),ai,cap,hcell 0 (by omega),hs⟩
end Go.Proofs.YtoefpglknaiaeaaGreat
/- Opening plans, tables' columns and rows. -/
namespace Go.Proofs.YtoefpglknaiaeaaGreat
open Go.ChangeShapes Go.WideShapes Go.ChangeAt Go.RowKit Go.Joins

/-- No part is larger than what can be reached. -/
def Light {H:Type} (t:TypeId) (d:DataW H):Prop:=∀ k ∈ d.weights Tryz.prog t,k≤reachBytes
theorem wf_i64 {n:Int} (h:(Lit.int .i64 n).wf=true):-9223372036854775808≤n∧n≤9223372036854775807:=by
 unfold Lit.wf at h
 rw [Bool.and_eq_true,decide_eq_true_eq,decide_eq_true_eq] at h
 exact h
theorem Light.part {H:Type} {t:TypeId} {fs:Array Field} {parts:List (DataW H)} (hu:Tryz.prog.underlying t=some (.struct fs)) (h:Light t (.agg parts)) {j:Nat} {f:Field} {d:DataW H} (hf:fs[j]? = some f) (hd:parts[j]? = some d):Light f.type d:=by
 intro k hk
 refine h k ?_
 rw [DataW.weights,hu]
 refine DataW.weights_mem_each (j:=j) (t:=f.type) ?_ hd k hk
 rw [List.getElem?_map,Array.getElem?_toList,hf]
 rfl
theorem weights_all {H:Type} {P:Program} {e:TypeId}:∀ {l:List (DataW H)} {d:DataW H},d ∈ l→∀ k ∈ d.weights P e,k ∈ DataW.weightsAll P e l
 | x :: l,d,hd,k,hk=>by
  rw [DataW.weightsAll,List.mem_append]
  rcases List.mem_cons.mp hd with rfl | hd
  ·exact .inl hk
  ·exact .inr (weights_all hd k hk)
theorem Light.elem {H:Type} {t e:TypeId} {l r:List (DataW H)} (hu:Tryz.prog.underlying t=some (.slice e)) (h:Light t (.slice l r)) {d:DataW H} (hd:d ∈ l):Light e d:=by
 intro k hk
 refine h k ?_
 rw [DataW.weights,hu]
 exact List.mem_cons_of_mem _ (List.mem_append_left _ (weights_all hd k hk))
theorem Light.len {H:Type} {enc:TypeId × Value→H} {W:World} {hd:Bool} {t e:TypeId} {fuel n cap:Nat} {a:Option Addr} {x:DataW H × List MemPlace} (hu:Tryz.prog.underlying t=some (.slice e)) (hb:8≤Tryz.prog.bytesOf e)
  (h:DataW.trod enc Tryz.prog W 0 (fun _=>true) hd fuel t [.slice a n cap]=some x) (hl:Light t x.1):n≤100000000000000:=by
 rcases DataW.trod_slice hu h with ⟨hcs,_⟩ | ⟨a',len,cap',elems,rest,m,hm,hcs,rfl,_,_,_,hlen,_⟩
 ·simp at hcs
  omega
 ·simp at hcs
  obtain ⟨rfl,rfl,rfl⟩:=hcs
  have h1:=hl ((elems.length+rest.length)*Tryz.prog.bytesOf e) (by rw [DataW.weights,hu]; simp)
  have h2:=reachBytes_lt
  have h4:n*8≤(elems.length+rest.length)*Tryz.prog.bytesOf e:=Nat.mul_le_mul (by omega) hb
  omega
set_option maxRecDepth 100000 in
theorem open_aggsT {H:Type} {enc:TypeId × Value→H} {W:World} {hd:Bool} {fuel:Nat} {cs:List Value} {x:DataW H × List MemPlace}
  (hf0:DataW.trod enc Tryz.prog W 0 (fun _=>true) hd fuel 28 cs=some x):∃ (a:Option Addr) (cap:Nat) (l:List Ag),cs = [.slice a l.length cap]∧AgAt W.heap.size W a l:=by
 rcases DataW.trod_slice Tryz.underlying28 hf0 with ⟨hcs,_⟩ | ⟨a,len,cap,elems,rest,n,hn,hcs,_,_,_,_,hlen,hel,_,_⟩
 ·exact ⟨none,0,[],hcs,.inl rfl⟩
 ·rw [qAgg] at hel
  obtain ⟨f,hf⟩:=Go.Deep.choose_lt (α:=Ag × Option Addr × Nat) (n:=len) (p:=fun i (y:Ag × Option Addr × Nat) =>
    (W.cell? ((a.add (i*7)).add 0)=some (.int .i64 y.1.1)∧W.cell? ((a.add (i*7)).add 1)=some (.int .i64 y.1.2.k)∧W.cell? ((a.add (i*7)).add 2)=some (.int .i64 y.1.2.v.1)∧W.cell? ((a.add (i*7)).add 3)=some (.int .i64 y.1.2.v.2.1)∧W.cell? ((a.add (i*7)).add 4)=some (.string y.1.2.v.2.2) ∧
     W.cell? ((a.add (i*7)).add 5)=some (.int .i64 y.1.2.c)∧W.cell? ((a.add (i*7)).add 6)=some (.slice y.2.1 y.1.2.ks.length y.2.2))∧KsAt W.heap.size W y.2.1 y.1.2.ks) (fun i hi=>by
   have key:=hel i hi
   rw [List.getElem?_eq_getElem (by omega)] at key
   obtain ⟨cs',h1,h2⟩:=Option.bind_eq_some_iff.1 key
   obtain ⟨_,hl6,hcell⟩:=World.cells?_some h1
   obtain ⟨e,ai,ci,rfl,hk⟩:=open_aggT h2
   exact ⟨(e,ai,ci),⟨hcell 0 (by simp),hcell 1 (by simp),hcell 2 (by simp),hcell 3 (by simp),hcell 4 (by simp),hcell 5 (by simp),hcell 6 (by simp)⟩,hk⟩)
  refine ⟨some a,cap,(List.range len).map fun i=>(f i).1,by simpa using hcs,?_⟩
  by_cases h0:len=0
  ·subst h0; exact .inl rfl
  ·obtain ⟨b,off,spot⟩:=a
   have hc:=(hf 0 (by omega)).1.1
   have hspot:spot=none:=by simpa [Addr.add] using World.cell?_spot hc
   subst hspot
   refine .inr ⟨b,off,fun i=>(f i).2.1,fun i=>(f i).2.2,rfl,World.block_lt_of_cell? W _ (by simpa [Addr.add] using hc),fun i hi=>?_⟩
   have hi':i<len:=by simpa using hi
   obtain ⟨⟨g0,g1,g2,g3,g4,g5,g6⟩,gk⟩:=hf i hi'
   simp only [addr_addX] at g0 g1 g2 g3 g4 g5 g6
   simp only [List.getElem_map,List.getElem_range]
   exact ⟨g0,⟨g1,g2,g3,g4,g5,g6⟩,gk⟩
theorem qPlan:Tryz.prog.cellsOf 31=11:=by kernel_rfl
theorem qXs:Tryz.prog.cellsOf 25=1:=by kernel_rfl
theorem qGs:Tryz.prog.cellsOf 28=1:=by kernel_rfl
theorem qKs:Tryz.prog.cellsOf 29=1:=by kernel_rfl
instance:Inhabited Pl:=⟨.mk 0 0 default [] [] []⟩
instance:Inhabited Pw:=⟨⟨none,0,none,0,none,0,none,0⟩⟩
/-- The cells of a plan. -/
def plC (p:Pl) (q:Pw):List Value:=[.int .i64 p.k,.int .i64 p.n,.int .i64 p.x.k,.int .i64 p.x.v.1,.int .i64 p.x.v.2.1,.string p.x.v.2.2,.int .i64 p.x.c,.slice q.xa p.x.ks.length q.xc,.slice q.sa p.xs.length q.sc,.slice q.ga p.gs.length q.gc,.slice q.ka p.ks.length q.kc]
def PlansOpen {H:Type} (enc:TypeId × Value→H) (W:World) (hd:Bool) (m:Nat):Prop :=
 ∀ cs x,DataW.trod enc Tryz.prog W 0 (fun _=>true) hd m 29 cs=some x→Light 29 x.1→∃ (a:Option Addr) (cap:Nat) (l:List Pl),cs = [.slice a l.length cap]∧PlAt W.heap.size W a l∧∀ p ∈ l,PlOk p
set_option maxRecDepth 100000 in
theorem open_planT {H:Type} {enc:TypeId × Value→H} {W:World} {hd:Bool} {fuel:Nat} (ih:∀ m,m<fuel→PlansOpen enc W hd m) {cs:List Value} {x:DataW H × List MemPlace}
  (h:DataW.trod enc Tryz.prog W 0 (fun _=>true) hd fuel 31 cs=some x) (hL:Light 31 x.1):∃ (p:Pl) (q:Pw),cs=plC p q∧PlB W.heap.size W p q∧PlOk p:=by
 obtain ⟨xs,n,hn,rfl,hl,hlen,hf⟩:=DataW.trod_struct Tryz.underlying31 h
 rw [qPlan] at hl
 match xs,hlen with
 | [y0,y1,y2,y3,y4,y5],_ =>
  have h0:=hf 0 _ rfl
  have h1:=hf 1 _ rfl
  have h2:=hf 2 _ rfl
  have h3:=hf 3 _ rfl
  have h4:=hf 4 _ rfl
  have h5:=hf 5 _ rfl
  have L3:=hL.part Tryz.underlying31 (j:=3) rfl rfl
  have L4:=hL.part Tryz.underlying31 (j:=4) rfl rfl
  have L5:=hL.part Tryz.underlying31 (j:=5) rfl rfl
  match cs,hl with
  | [c0,c1,c2,c3,c4,c5,c6,c7,c8,c9,c10],_ =>
   simp [q3,q27,qXs,qGs,qKs] at h0 h1 h2 h3 h4 h5
   obtain ⟨k,e0,_,_⟩:=DataW.trod_int Tryz.underlying3 h0
   obtain ⟨m,e1,_,hwf⟩:=DataW.trod_int Tryz.underlying3 h1
   obtain ⟨e,a2,cap2,e2,hk2⟩:=open_exprT (fun m _=>kidsOpen enc W hd m) h2
   obtain ⟨a3,cap3,l3,e3,hk3⟩:=kidsOpen enc W hd n _ _ h3
   obtain ⟨a4,cap4,l4,e4,hk4⟩:=open_aggsT h4
   obtain ⟨a5,cap5,l5,e5,hk5,hok5⟩:=ih n (by omega) _ _ h5 L5
   rw [e3] at h3
   rw [e4] at h4
   have b3:=Light.len Tryz.underlying25 bytes_expr h3 L3
   have b4:=Light.len Tryz.underlying28 bytes_agg h4 L4
   simp at e0 e1 e2 e3 e4 e5
   obtain ⟨r1,r2,r3,r4,r5,r6⟩:=e2
   subst e0 e1 r1 r2 r3 r4 r5 r6 e3 e4 e5
   exact ⟨.mk k m e l3 l4 l5,⟨a2,cap2,a3,cap3,a4,cap4,a5,cap5⟩,rfl,⟨hk2,hk3,hk4,hk5⟩,.mk _ _ _ _ _ _ (wf_i64 hwf) b3 b4 hok5⟩
set_option maxRecDepth 100000 in
theorem plansOpen {H:Type} (enc:TypeId × Value→H) (W:World) (hd:Bool) (fuel:Nat):PlansOpen enc W hd fuel:=by
 induction fuel using Nat.strongRecOn with
 | ind fuel ih =>
  intro cs x h hL
  rcases DataW.trod_slice Tryz.underlying29 h with ⟨hcs,_⟩ | ⟨a,len,cap,elems,rest,n,hn,hcs,rfl,_,_,_,hlen,hel,_,_⟩
  ·exact ⟨none,0,[],hcs,.nil _,fun p hp=>by cases hp⟩
  ·rw [qPlan] at hel
   obtain ⟨f,hf⟩:=Go.Deep.choose_lt (α:=Pl × Pw) (n:=len) (p:=fun i (y:Pl × Pw) =>
     (∀ j (hj:j<(plC y.1 y.2).length),W.cell? ((a.add (i*11)).add j)=some (plC y.1 y.2)[j])∧PlB W.heap.size W y.1 y.2∧PlOk y.1) (fun i hi=>by
    have key:=hel i hi
    rw [List.getElem?_eq_getElem (by omega)] at key
    obtain ⟨cs',h1,h2⟩:=Option.bind_eq_some_iff.1 key
    obtain ⟨_,hl6,hcell⟩:=World.cells?_some h1
    obtain ⟨p,q,rfl,hk,hok⟩:=open_planT (fun m hm=>ih m (by omega)) h2 (hL.elem Tryz.underlying29 (List.mem_map_of_mem (List.getElem_mem _)))
    exact ⟨(p,q),fun j hj=>(hcell j hj).trans (List.getElem?_eq_getElem hj),hk,hok⟩)
   refine ⟨some a,cap,(List.range len).map fun i=>(f i).1,by simpa using hcs,?_,?_⟩
   ·by_cases h0:len=0
    ·subst h0; exact .nil _
    ·obtain ⟨b,off,spot⟩:=a
     have hc:=(hf 0 (by omega)).1 0 (by simp [plC])
     have hspot:spot=none:=by simpa [Addr.add] using World.cell?_spot hc
     subst hspot
     have key:∀ i,i<len→Elv W b (off+i*11) (f i).1 (f i).2:=fun i hi=>by
      have g:=(hf i hi).1
      simp only [addr_addX] at g
      exact ⟨g 0 (by simp [plC]),g 1 (by simp [plC]),⟨g 2 (by simp [plC]),g 3 (by simp [plC]),g 4 (by simp [plC]),g 5 (by simp [plC]),g 6 (by simp [plC]),g 7 (by simp [plC])⟩,g 8 (by simp [plC]),g 9 (by simp [plC]),g 10 (by simp [plC])⟩
     refine .some b off _ (fun i=>(f i).2) (World.block_lt_of_cell? W _ (by simpa [Addr.add] using hc)) ?_ ?_ ?_ ?_ ?_ <;> (intro i hi; have hi':i<len:=by simpa using hi) <;> simp only [List.getElem_map,List.getElem_range]
     ·exact key i hi'
     ·exact (hf i hi').2.1.x
     ·exact (hf i hi').2.1.xs
     ·exact (hf i hi').2.1.gs
     ·exact (hf i hi').2.1.ks
   ·intro p hp
    obtain ⟨i,hi,rfl⟩:=List.mem_map.1 hp
    exact (hf i (by simpa using hi)).2.2
theorem light_arg {H:Type} {ts:List TypeId} {ds:List (DataW H)} {t:TypeId} {d:DataW H} (hs:(DataW.weightsEach Tryz.prog ts ds).all (· ≤ reachBytes)=true) {j:Nat} (ht:ts[j]? = some t) (hd:ds[j]? = some d):Light t d:=by
 intro k hk
 have:=List.all_eq_true.1 hs _ (DataW.weights_mem_each ht hd k hk)
 simpa using this
set_option maxRecDepth 100000 in
theorem open_plan {H:Type} {enc:TypeId × Value→H} {W:World} {r:Reach} {b0:Nat} {v:Value} {d:DataW H} {p:List MemPlace}
  (hv:Value.okWide Tryz.prog W r b0 31 v) (h:DataW.Trod enc Tryz.prog W 0 (fun _=>true) true 31 v d p) (hL:Light 31 d):∃ (e:Pl) (q:Pw),v=plV e q∧PlB W.heap.size W e q∧PlOk e:=by
 obtain ⟨cs,rfl,_⟩:=okWide_struct Tryz.underlying31 hv
 obtain ⟨fuel,hf⟩:=h
 obtain ⟨e,q,he,hk⟩:=open_planT (fun m _=>plansOpen enc W true m) hf hL
 refine ⟨e,q,?_,hk⟩
 have e':cs.toList=plC e q:=by simpa [Value.cells] using he
 exact congrArg Value.agg (Array.toList_inj.mp e')
end Go.Proofs.YtoefpglknaiaeaaGreat
/- Opening tables' columns, tables' rows. -/
namespace Go.Proofs.YtoefpglknaiaeaaGreat
open Go.ChangeShapes Go.WideShapes Go.ChangeAt Go.RowKit Go.Joins

theorem qZ:Tryz.prog.cellsOf 47=2:=by kernel_rfl
theorem qZs:Tryz.prog.cellsOf 38=1:=by kernel_rfl
theorem qIs:Tryz.prog.cellsOf 33=1:=by kernel_rfl
set_option maxRecDepth 100000 in
theorem open_zrowsT {H:Type} {enc:TypeId × Value→H} {W:World} {hd:Bool} {fuel:Nat} {cs:List Value} {x:DataW H × List MemPlace}
  (hf:DataW.trod enc Tryz.prog W 0 (fun _=>true) hd fuel 38 cs=some x):∃ (a:Option Addr) (cap:Nat) (l:List Zp),cs = [.slice a l.length cap]∧ZsAt W a l∧(a=none→cap=0):=by
 rcases Go.Deep.open_slice Tryz.underlying38 hf with ⟨hcs,_⟩ | ⟨a,len,cap,m,n,D,Pl,hcs,_,hl,hm,hmm,_,hx⟩
 ·exact ⟨none,0,[],hcs,⟨by simp,.inl rfl⟩,fun _=>rfl⟩
 ·rw [qZ] at hx
  simp only [if_true] at hmm
  obtain ⟨f,hf'⟩:=Go.Deep.choose_lt (α:=Zp) (n:=len) (p:=fun i (z:Zp)=>W.cell? ((a.add (i*2)).add 1)=some (.int .i64 z.2)∧∃ ai cap,W.cell? ((a.add (i*2)).add 0)=some (.slice ai z.1.length cap)∧SlAt W ai z.1) (fun i hi=>by
   obtain ⟨cs',h1,h2⟩:=hx i (by omega)
   exact open_zrow h1 h2)
  refine ⟨some a,cap,(List.range len).map f,by simpa using hcs,⟨?_,?_⟩,fun h=>by cases h⟩
  ·simp; omega
  by_cases h0:len=0
  ·left; simp [h0]
  ·right
   obtain ⟨b,off,spot⟩:=a
   obtain ⟨_,_,hc,_⟩:=(hf' 0 (by omega)).2
   have hspot:spot=none:=by simpa [Addr.add] using World.cell?_spot hc
   subst hspot
   refine ⟨b,off,rfl,?_,fun i hi=>?_⟩
   ·exact World.block_lt_of_cell? W _ (by simpa [Addr.add] using hc)
   ·have hi':i<len:=by simpa using hi
    have:=hf' i hi'
    simp only [addr_addX] at this
    simp only [List.getElem_map,List.getElem_range]
    exact this
set_option maxRecDepth 100000 in
theorem open_dataT {H:Type} {enc:TypeId × Value→H} {W:World} {hd:Bool} {fuel:Nat} {cs:List Value} {x:DataW H × List MemPlace}
  (hf:DataW.trod enc Tryz.prog W 0 (fun _=>true) hd fuel 32 cs=some x):∃ (a:Option Addr) (cap:Nat) (l:List (List Zp)),cs = [.slice a l.length cap]∧DtAt W a l:=by
 rcases Go.Deep.open_slice Tryz.underlying32 hf with ⟨hcs,_⟩ | ⟨a,len,cap,m,n,D,Pl,hcs,_,hl,hm,hmm,_,hx⟩
 ·exact ⟨none,0,[],hcs,.inl rfl⟩
 ·rw [qZs] at hx
  simp only [if_true] at hmm
  obtain ⟨f,hf'⟩:=Go.Deep.choose_lt (α:=List Zp × Option Addr × Nat) (n:=len) (p:=fun i y=>W.cell? ((a.add (i*1)).add 0)=some (.slice y.2.1 y.1.length y.2.2)∧ZsAt W y.2.1 y.1∧(y.2.1=none→y.2.2=0)) (fun i hi=>by
   obtain ⟨cs',h1,h2⟩:=hx i (by omega)
   obtain ⟨_,_,hcell⟩:=World.cells?_some h1
   obtain ⟨ai,ci,l,rfl,hz,hn⟩:=open_zrowsT h2
   exact ⟨(l,ai,ci),hcell 0 (by simp),hz,hn⟩)
  refine ⟨some a,cap,(List.range len).map fun i=>(f i).1,by simpa using hcs,?_⟩
  by_cases h0:len=0
  ·left; simp [h0]
  ·obtain ⟨b,off,spot⟩:=a
   have hc:=(hf' 0 (by omega)).1
   have hspot:spot=none:=by simpa [Addr.add] using World.cell?_spot hc
   subst hspot
   refine .inr ⟨b,off,fun i=>(f i).2.1,fun i=>(f i).2.2,rfl,World.block_lt_of_cell? W _ (by simpa [Addr.add] using hc),fun i hi=>?_⟩
   have hi':i<len:=by simpa using hi
   obtain ⟨g0,g1,g2⟩:=hf' i hi'
   simp only [addr_addX,Nat.mul_one,Nat.add_zero] at g0
   simp only [List.getElem_map,List.getElem_range]
   exact ⟨g0,g1,g2⟩
theorem bytes_set:24≤Tryz.prog.bytesOf 38:=by decide +kernel
theorem Light.len24 {H:Type} {enc:TypeId × Value→H} {W:World} {hd:Bool} {t e:TypeId} {fuel n cap:Nat} {a:Option Addr} {x:DataW H × List MemPlace} (hu:Tryz.prog.underlying t=some (.slice e)) (hb:24≤Tryz.prog.bytesOf e)
  (h:DataW.trod enc Tryz.prog W 0 (fun _=>true) hd fuel t [.slice a n cap]=some x) (hl:Light t x.1):n≤10000000000000:=by
 rcases DataW.trod_slice hu h with ⟨hcs,_⟩ | ⟨a',len,cap',elems,rest,m,hm,hcs,rfl,_,_,_,hlen,_⟩
 ·simp at hcs
  omega
 ·simp at hcs
  obtain ⟨rfl,rfl,rfl⟩:=hcs
  have h1:=hl ((elems.length+rest.length)*Tryz.prog.bytesOf e) (by rw [DataW.weights,hu]; simp)
  have h2:=reachBytes_lt
  have h4:n*24≤(elems.length+rest.length)*Tryz.prog.bytesOf e:=Nat.mul_le_mul (by omega) hb
  omega
set_option maxRecDepth 100000 in
theorem open_data {H:Type} {enc:TypeId × Value→H} {W:World} {r:Reach} {b0:Nat} {v:Value} {d:DataW H} {p:List MemPlace}
  (hv:Value.okWide Tryz.prog W r b0 32 v) (h:DataW.Trod enc Tryz.prog W 0 (fun _=>true) true 32 v d p) (hL:Light 32 d):∃ (a:Option Addr) (cap:Nat) (l:List (List Zp)),v = .slice a l.length cap∧DtAt W a l∧l.length≤10000000000000:=by
 obtain ⟨a0,len,cap,rfl⟩:=okWide_slice Tryz.underlying32 hv
 obtain ⟨fuel,hf⟩:=h
 obtain ⟨a,c,l,e,hs⟩:=open_dataT hf
 have e':Value.slice a0 len cap = .slice a l.length c:=by simpa [Value.cells] using e
 refine ⟨a,c,l,e',hs,?_⟩
 have hf2:DataW.trod enc Tryz.prog W 0 (fun _=>true) true fuel 32 [.slice a l.length c]=some (d,p):=by rw [← e']; exact hf
 exact Light.len24 Tryz.underlying32 bytes_set hf2 hL
set_option maxRecDepth 100000 in
theorem open_intsT {H:Type} {enc:TypeId × Value→H} {W:World} {hd:Bool} {fuel:Nat} {cs:List Value} {x:DataW H × List MemPlace}
  (hf:DataW.trod enc Tryz.prog W 0 (fun _=>true) hd fuel 33 cs=some x):∃ (a:Option Addr) (cap:Nat) (l:List Int),cs = [.slice a l.length cap]∧IsAt W.heap.size W a l:=by
 rcases Go.Deep.open_slice1 Tryz.underlying33 q3 hf with ⟨hcs,_⟩ | ⟨a,len,cap,m,n,V,D,Pl,hcs,_,hl,hm,hmm,_,hx⟩
 ·exact ⟨none,0,[],hcs,⟨by simp,.inl rfl⟩⟩
 ·simp only [if_true] at hmm
  obtain ⟨f,hf'⟩:=Go.Deep.choose_lt (α:=Int) (n:=len) (p:=fun i (k:Int)=>W.cell? (a.add i)=some (.int .i64 k)) (fun i hi=>by
   obtain ⟨h1,h2⟩:=hx i (by omega)
   obtain ⟨k,e0,_,_⟩:=DataW.trod_int Tryz.underlying3 h2
   simp at e0
   exact ⟨k,by rw [h1,e0]⟩)
  refine ⟨some a,cap,(List.range len).map f,by simpa using hcs,?_,?_⟩
  ·simp; omega
  by_cases h0:len=0
  ·left; simp [h0]
  ·right
   obtain ⟨b,off,spot⟩:=a
   have hc:=hf' 0 (by omega)
   have hspot:spot=none:=by simpa [Addr.add] using World.cell?_spot hc
   subst hspot
   refine ⟨b,off,rfl,World.block_lt_of_cell? W _ (by simpa [Addr.add] using hc),fun i hi=>?_⟩
   have hi':i<len:=by simpa using hi
   have:=hf' i hi'
   simp only [addr_addX] at this
   simp only [List.getElem_map,List.getElem_range]
   exact this
set_option maxRecDepth 100000 in
theorem open_tables {H:Type} {enc:TypeId × Value→H} {W:World} {r:Reach} {b0:Nat} {v:Value} {d:DataW H} {p:List MemPlace}
  (hv:Value.okWide Tryz.prog W r b0 22 v) (h:DataW.Trod enc Tryz.prog W 0 (fun _=>true) true 22 v d p):∃ (a:Option Addr) (cap:Nat) (l:List (List Int)),v = .slice a l.length cap∧TbAt W.heap.size W a l:=by
 obtain ⟨a0,len0,cap0,rfl⟩:=okWide_slice Tryz.underlying22 hv
 obtain ⟨fuel,hf⟩:=h
 rcases Go.Deep.open_slice Tryz.underlying22 hf with ⟨hcs,_⟩ | ⟨a,len,cap,m,n,D,Pl,hcs,_,hl,hm,hmm,_,hx⟩
 ·exact ⟨none,0,[],by simpa [Value.cells] using hcs,.inl rfl⟩
 ·rw [qIs] at hx
  simp only [if_true] at hmm
  obtain ⟨f,hf'⟩:=Go.Deep.choose_lt (α:=List Int × Option Addr × Nat) (n:=len) (p:=fun i y=>W.cell? ((a.add (i*1)).add 0)=some (.slice y.2.1 y.1.length y.2.2)∧IsAt W.heap.size W y.2.1 y.1) (fun i hi=>by
   obtain ⟨cs',h1,h2⟩:=hx i (by omega)
   obtain ⟨_,_,hcell⟩:=World.cells?_some h1
   obtain ⟨ai,ci,l,rfl,hz⟩:=open_intsT h2
   exact ⟨(l,ai,ci),hcell 0 (by simp),hz⟩)
  refine ⟨some a,cap,(List.range len).map fun i=>(f i).1,by simpa [Value.cells] using hcs,?_⟩
  by_cases h0:len=0
  ·left; simp [h0]
  ·obtain ⟨b,off,spot⟩:=a
   have hc:=(hf' 0 (by omega)).1
   have hspot:spot=none:=by simpa [Addr.add] using World.cell?_spot hc
   subst hspot
   refine .inr ⟨b,off,fun i=>(f i).2.1,fun i=>(f i).2.2,rfl,World.block_lt_of_cell? W _ (by simpa [Addr.add] using hc),fun i hi=>?_⟩
   have hi':i<len:=by simpa using hi
   obtain ⟨g0,g1⟩:=hf' i hi'
   simp only [addr_addX,Nat.mul_one,Nat.add_zero] at g0
   simp only [List.getElem_map,List.getElem_range]
   exact ⟨g0,g1⟩
end Go.Proofs.YtoefpglknaiaeaaGreat
/- A region that draws its order, by FACTS: of each operation a fact about the value that it leaves, that every later world bears; where it follows from the facts of what the operation stands behind, in whatever world of the class, the region ends with all of them, whatever the order. -/
namespace Go.Proofs.YtoefpglknaiaeaaGreat
open Go.RowKit

section
variable {P:Program} {ops:Array Oper} {Q:Exit→Act→World→Prop} {md:Region.Mode} {C:World→Prop} {Φ:Nat→World→Value→Prop} {I:Act→World→Prop}

/-- Nothing but the region's own temporaries has changed since. -/
structure Same (ops:Array Oper) (a0 a:Act):Prop where
 size:a.tmps.size=a0.tmps.size
 defers:a.defers=a0.defers
 tmps:∀ t:Tmp,(ops.all fun o=>o.dst != some t)=true→a.tmps.getD t undef=a0.tmps.getD t undef

def FactOf (ops:Array Oper) (Φ:Nat→World→Value→Prop) (i:Nat) (a:Act) (w:World):Prop :=
 ∀ o d,ops[i]? = some o→o.dst=some d→Φ i w (a.tmps.getD d undef)

/-- One operation, in whatever world, by the facts of what it stands behind. -/
def StepOf (P:Program) (md:Region.Mode) (ops:Array Oper) (Q:Exit→Act→World→Prop) (C:World→Prop) (Φ:Nat→World→Value→Prop) (I:Act→World→Prop) (a0:Act) (i:Nat) (o:Oper):Prop :=
 ∀ a w,C w→Same ops a0 a→I a w→(∀ e ∈ o.after,Region.binds md e=true→FactOf ops Φ e.on a w) →
  wpOp P ops Q i (fun a' w'=>∃ v,a'=a.put o.dst v∧Below w.heap.size w w'∧Φ i w' v∧I (a.put o.dst v) w') a w

def StepsOf (P:Program) (md:Region.Mode) (ops:Array Oper) (Q:Exit→Act→World→Prop) (C:World→Prop) (Φ:Nat→World→Value→Prop) (I:Act→World→Prop) (a0:Act):Nat→List Oper→Prop
 | _,[]=>True
 | i,o :: os=>StepOf P md ops Q C Φ I a0 i o∧StepsOf P md ops Q C Φ I a0 (i+1) os

theorem StepsOf.get {a0:Act}:∀ {l:List Oper} {k:Nat},StepsOf P md ops Q C Φ I a0 k l→∀ {i:Nat} {o:Oper},l[i]? = some o→StepOf P md ops Q C Φ I a0 (k+i) o
 | [],_,_,i,o,h=>by simp at h
 | o' :: l,k,H,0,o,h=>by simp at h; subst h; exact H.1
 | o' :: l,k,H,i+1,o,h=>by
  have:=StepsOf.get H.2 (i:=i) (by simpa using h)
  rw [show k+1+i=k+(i+1) by omega] at this
  exact this

/-- The region's text: each operation has a temporary of its own that is there, and stands behind earlier ones alone. -/
def tidy (md:Region.Mode) (ops:Array Oper) (n:Nat):Bool :=
 (List.range ops.size).all fun i=>match ops[i]? with
  | none=>true
  | some o=>(o.after.all fun e=>!Region.binds md e || decide (e.on<i)) && (match o.dst with
   | none=>true
   | some d=>decide (d<n) && (List.range ops.size).all fun j=>match ops[j]? with
    | none=>true
    | some o'=>decide (j=i) || (o'.dst != some d))

theorem tidy_spec {n:Nat} (h:tidy md ops n=true) {i:Nat} {o:Oper} (hi:ops[i]? = some o) :
  (∀ e ∈ o.after,Region.binds md e=true→e.on<i)∧∀ d,o.dst=some d→d<n∧∀ j o',ops[j]? = some o'→j≠i→o'.dst≠some d:=by
 have hlt:i<ops.size:=(Array.getElem?_eq_some_iff.1 hi).1
 have h1:=List.all_eq_true.1 h i (List.mem_range.2 hlt)
 simp only [hi,Bool.and_eq_true] at h1
 obtain ⟨h1,h2⟩:=h1
 refine ⟨fun e he hb=>?_,fun d hd=>?_⟩
 ·have:=Array.all_eq_true_iff_forall_mem.1 h1 e he
  simpa [hb] using this
 ·simp only [hd,Bool.and_eq_true,decide_eq_true_eq] at h2
  refine ⟨h2.1,fun j o' hj hne=>?_⟩
  have hl:j<ops.size:=(Array.getElem?_eq_some_iff.1 hj).1
  have:=List.all_eq_true.1 h2.2 j (List.mem_range.2 hl)
  simpa [hj,hne] using this

theorem put_same {a0 a:Act} {i:Nat} {o:Oper} {v:Value} (hi:ops[i]? = some o) (h:Same ops a0 a):Same ops a0 (a.put o.dst v):=by
 unfold Act.put
 cases hd:o.dst with
 | none=>exact h
 | some d =>
  refine ⟨by simpa using h.size,h.defers,fun t ht=>?_⟩
  have hne:d≠t:=fun e=>by
   have hlt:i<ops.size:=(Array.getElem?_eq_some_iff.1 hi).1
   have:=Array.all_eq_true_iff_forall_mem.1 ht o (Array.mem_of_getElem? hi)
   rw [hd,e] at this
   simp at this
  have:=h.tmps t ht
  rw [← this]
  simp [Array.getD_eq_getD_getElem?,Array.getElem?_setIfInBounds_ne hne]

/-- Whatever is listed, so is what it stands behind. -/
def Closed (md:Region.Mode) (ops:Array Oper) (listed:Array Bool):Prop :=
 ∀ i o,ops[i]? = some o→listed.getD i false=true→∀ e ∈ o.after,Region.binds md e=true→listed.getD e.on false=true

theorem getD_lt {listed:Array Bool} {i:Nat} (h:i<listed.size) (d:Bool):listed.getD i d=listed[i]:=by simp [Array.getD,h]

theorem wpAny_facts {m:Nat} (hC:∀ w w',C w→Below w.heap.size w w'→C w') (hΦ:∀ i w w' v,Φ i w v→Below w.heap.size w w'→Φ i w' v) {a0:Act}
  (ht:tidy md ops a0.tmps.size=true) (hmn:m≤ops.size) (late:∀ listed,Closed md ops listed→∀ i ∈ Region.ready md ops listed,m≤i→∀ j<m,listed.getD j false=true)
  (step:StepsOf P md ops Q C Φ I a0 0 (ops.toList.take m))
  (rest:∀ a w,C w→Same ops a0 a→I a w→(∀ i<m,FactOf ops Φ i a w)→wpAny P md ops Q (ops.size - m) (Array.replicate m true ++ Array.replicate (ops.size - m) false) a w) :
  ∀ (fuel:Nat) (listed:Array Bool) (a:Act) (w:World),listed.size=ops.size→listed.toList.count false=fuel→Closed md ops listed→(∀ j,m≤j→listed.getD j false=false)→C w→Same ops a0 a→I a w →
   (∀ i,listed.getD i false=true→FactOf ops Φ i a w)→wpAny P md ops Q fuel listed a w:=by
 have full:∀ (fuel:Nat) (listed:Array Bool) (a:Act) (w:World),listed.size=ops.size→listed.toList.count false=fuel→(∀ j,m≤j→listed.getD j false=false)→C w→Same ops a0 a→I a w →
   (∀ i,listed.getD i false=true→FactOf ops Φ i a w)→(∀ j<m,listed.getD j false=true)→wpAny P md ops Q fuel listed a w:=by
  intro fuel listed a w hs hn hhi hc hsm hI hf hall
  have e:listed=Array.replicate m true ++ Array.replicate (ops.size - m) false:=by
   apply Array.ext
   ·simp; omega
   ·intro i h1 h2
    rw [← getD_lt h1 false]
    by_cases h:i<m
    ·rw [hall i h,Array.getElem_append_left (by simpa using h)]
     simp
    ·rw [hhi i (by omega),Array.getElem_append_right (by simpa using h)]
     simp
  have e2:fuel=ops.size - m:=by rw [← hn,e]; simp [List.count_append,List.count_replicate]
  rw [e2,e]
  exact rest a w hc hsm hI fun i hi=>hf i (hall i hi)
 intro fuel
 induction fuel with
 | zero =>
  intro listed a w hs hn hcl hhi hc hsm hI hf
  refine full 0 listed a w hs hn hhi hc hsm hI hf fun j hj=>?_
  have hlt:j<listed.size:=by omega
  rw [getD_lt hlt]
  cases hb:listed[j] with
  | true=>rfl
  | false =>
   exfalso
   rw [List.count_eq_zero] at hn
   apply hn
   rw [← hb]
   simp
 | succ fuel ih =>
  intro listed a w hs hn hcl hhi hc hsm hI hf
  by_cases hall:∀ j<m,listed.getD j false=true
  ·exact full _ listed a w hs hn hhi hc hsm hI hf hall
  refine ⟨fun hr=>?_,fun i hi=>?_⟩
  ·exfalso
   apply hall
   intro j
   induction j using Nat.strongRecOn with
   | ind j ihj =>
    intro hj
    cases hb:listed.getD j false with
    | true=>rfl
    | false =>
     exfalso
     have hlt:j<ops.size:=by omega
     have ho:ops[j]? = some ops[j]:=Array.getElem?_eq_getElem hlt
     have:j ∈ Region.ready md ops listed:=mem_ready.2 ⟨by rw [getD_lt (by omega)] at hb ⊢; exact hb,ops[j],ho,fun e he hb=>by
      have:=(tidy_spec ht ho).1 e he hb
      exact ihj _ this (by omega)⟩
     rw [hr] at this
     cases this
  have him:i<m:=Nat.lt_of_not_le fun h=>hall (late listed hcl i hi h)
  obtain ⟨h1,o,ho,hdep⟩:=mem_ready.1 hi
  have hlt:i<listed.size:=by rw [hs]; exact (Array.getElem?_eq_some_iff.1 ho).1
  have st:=step.get (i:=i) (o:=o) (by rw [List.getElem?_take_of_lt him]; simpa using ho)
  rw [Nat.zero_add] at st
  refine wpOp_mono ?_ (st a w hc hsm hI fun e he hb=>hf _ (hdep e he hb))
  rintro a' w' ⟨v,rfl,hb,hv,hI'⟩
  have hget:listed[i]=false:=by rw [getD_lt hlt] at h1; exact h1
  have up:∀ j,listed.getD j false=true→(listed.setIfInBounds i true).getD j false=true:=fun j hj=>by
   by_cases hji:i=j
   ·subst hji
    rw [getD_lt (by simpa using hlt)]
    simp
   ·rw [getD_set_ne false hji]; exact hj
  refine ih _ _ _ (by simpa using hs) ?_ ?_ ?_ (hC _ _ hc hb) (put_same ho hsm) hI' ?_
  ·rw [Array.toList_setIfInBounds,List.count_set (by simpa using hlt)]
   have hpos:0<listed.toList.count false:=List.count_pos_iff.2 (by rw [← hget]; simp)
   have e1:(listed.toList[i]'(by simpa using hlt) == false)=true:=by simp [hget]
   rw [if_pos e1,if_neg (by simp)]
   omega
  ·intro j oj hoj hj e he hbd
   by_cases hji:i=j
   ·subst hji
    rw [ho] at hoj
    cases hoj
    exact up _ (hdep e he hbd)
   ·rw [getD_set_ne false hji] at hj
    exact up _ (hcl j oj hoj hj e he hbd)
  ·intro j hj
   rw [getD_set_ne false (by omega)]
   exact hhi j hj
  ·intro j hj o' d hoj hd
   by_cases hji:j=i
   ·subst hji
    rw [ho] at hoj
    cases hoj
    have hd1:=(tidy_spec ht ho).2 d hd
    have:d<a.tmps.size:=by rw [hsm.size]; exact hd1.1
    simpa [Act.put,hd,Array.getD,this] using hv
   ·have hj':listed.getD j false=true:=by rwa [getD_set_ne false (Ne.symm hji)] at hj
    have hold:=hΦ _ _ _ _ (hf j hj' o' d hoj hd) hb
    have hne:o.dst≠some d:=((tidy_spec ht hoj).2 d hd).2 i o ho (Ne.symm hji)
    unfold Act.put
    cases hod:o.dst with
    | none=>exact hold
    | some d' =>
     have hdd:d'≠d:=fun e=>hne (by rw [hod,e])
     simpa [Array.getD_eq_getD_getElem?,Array.getElem?_setIfInBounds_ne hdd] using hold

/-- The first m operations by facts, the rest as it stands. -/
theorem wp_region_part {id:Nat} {a:Act} {w:World} (m:Nat) (hm:P.follows .mixedOrders=true) (C:World→Prop) (Φ:Nat→World→Value→Prop) (I:Act→World→Prop)
  (hC:∀ w w',C w→Below w.heap.size w w'→C w') (hΦ:∀ i w w' v,Φ i w v→Below w.heap.size w w'→Φ i w' v)
  (ht:tidy .any ops a.tmps.size=true) (hmn:m≤ops.size) (late:∀ listed,Closed .any ops listed→∀ i ∈ Region.ready .any ops listed,m≤i→∀ j<m,listed.getD j false=true)
  (hc:C w.drew) (hI:I a w.drew) (step:StepsOf P .any ops Q C Φ I a 0 (ops.toList.take m))
  (rest:∀ a' w',C w'→Same ops a a'→I a' w'→(∀ i<m,FactOf ops Φ i a' w')→wpAny P .any ops Q (ops.size - m) (Array.replicate m true ++ Array.replicate (ops.size - m) false) a' w'):(Code.region id ops true).wp P Q a w :=
 wp_region_any hm (wpAny_facts hC hΦ ht hmn late step rest _ _ _ _ (by simp) (by simp) (fun i o _ h=>by simp [Array.getD] at h) (fun j _=>by simp [Array.getD]) hc ⟨rfl,rfl,fun _ _=>rfl⟩ hI (fun i h=>by simp [Array.getD] at h))

theorem wp_region_facts {id:Nat} {a:Act} {w:World} (hm:P.follows .mixedOrders=true) (C:World→Prop) (Φ:Nat→World→Value→Prop)
  (hC:∀ w w',C w→Below w.heap.size w w'→C w') (hΦ:∀ i w w' v,Φ i w v→Below w.heap.size w w'→Φ i w' v)
  (ht:tidy .any ops a.tmps.size=true) (hc:C w.drew) (step:StepsOf P .any ops Q C Φ (fun _ _=>True) a 0 ops.toList)
  (fin:∀ a' w',C w'→Same ops a a'→(∀ i,FactOf ops Φ i a' w')→Q .normal a' w'):(Code.region id ops true).wp P Q a w:=by
 refine wp_region_part ops.size hm C Φ (fun _ _=>True) hC hΦ ht (Nat.le_refl _) ?_ hc trivial (by rw [List.take_of_length_le (by simp)]; exact step) ?_
 ·intro listed _ i hi h
  obtain ⟨o,ho,_⟩:=(mem_ready.1 hi).2
  have:=(Array.getElem?_eq_some_iff.1 ho).1
  omega
 ·intro a' w' hc' hs _ hf
  have hF:∀ i,FactOf ops Φ i a' w':=fun i o d ho hd=>hf i (Array.getElem?_eq_some_iff.1 ho).1 o d ho hd
  rw [Nat.sub_self]
  refine ⟨?_,fin a' w' hc' hs hF⟩
  cases h:Region.ready .any ops (Array.replicate ops.size true ++ Array.replicate 0 false) with
  | nil=>rfl
  | cons i l =>
   exfalso
   have hm:i ∈ Region.ready .any ops (Array.replicate ops.size true ++ Array.replicate 0 false):=by rw [h]; simp
   have:=(mem_ready.1 hm).1
   simp [Array.getD] at this
end
end Go.Proofs.YtoefpglknaiaeaaGreat
/- query's Eval. -/
namespace Go.Proofs.YtoefpglknaiaeaaGreat
open Go.RowKit Go.Lib Go.Shelf

theorem eval_all (ts:List (List Int)) (hts:tabsE ts=0) (data:List (List Zp)) (hD:DOk ts data):∀ p,EvalAt ts data p:=Pl.ind fun k n x xs gs ks ih=>eval_at ts hts data hD (.mk k n x xs gs ks) ih
theorem ownZ_nil (B:Nat) (W:World):OwnZ B W (.slice none 0 0) []:=⟨[],by simpa using World.ownsRow_nil _ _ _ _,⟨rfl,fun i hi=>by simp at hi⟩⟩

set_option maxRecDepth 100000 in
set_option maxHeartbeats 16000000 in
theorem evalT_at (ts:List (List Int)) (data:List (List Zp)) (p:Pl) (q:Pw) (ta:Option Addr) (tc:Nat) (da:Option Addr) (dc:Nat) (w:World) (hT:TbAt w.heap.size w ta ts) (hD:DtAt w da data) (hp:PlB w.heap.size w p q) (hk:PlOk p) :
  Calls Tryz.prog 19 #[.slice ta ts.length tc,plV p q,.slice da data.length dc] w fun e w'=>∃ v,e = .returned (.tuple #[v,.int .i64 (evE ts data p)])∧OwnZ w.heap.size w' v (evZ ts data p)∧Below w.heap.size w w':=by
 have hA:Below w.heap.size w (w.alloc (.cells #[.int .i64 p.k,.int .i64 p.n,.int .i64 p.x.k,.int .i64 p.x.v.1,.int .i64 p.x.v.2.1,.string p.x.v.2.2,.int .i64 p.x.c,.slice q.xa p.x.ks.length q.xc,.slice q.sa p.xs.length q.sc,.slice q.ga p.gs.length q.gc,.slice q.ka p.ks.length q.kc] 31)):=(Below.refl _ _).alloc (Nat.le_refl _) _
 have EL:=Elv.new w p q 31
 have con:=looked_at ts p q ta tc (w.alloc (.cells #[.int .i64 p.k,.int .i64 p.n,.int .i64 p.x.k,.int .i64 p.x.v.1,.int .i64 p.x.v.2.1,.string p.x.v.2.2,.int .i64 p.x.c,.slice q.xa p.x.ks.length q.xc,.slice q.sa p.xs.length q.sc,.slice q.ga p.gs.length q.gc,.slice q.ka p.ks.length q.kc] 31)) ((hT.next hA (Nat.le_refl _)).up hA.size) ((hp.next hA (Nat.le_refl _)).up hA.size) hk
 have HK:Hid (PlOk p):=hk
 generalize hee:evE ts data p=ee
 generalize hez:evZ ts data p=ez
 have HE:Hid (evE ts data p=ee):=hee
 have HZ:Hid (evZ ts data p=ez):=hez
 generalize hle:lookE ts p=le at con
 have HLe:Hid (lookE ts p=le):=hle
 clear hk hee hez hle
 obtain ⟨y0,y1,⟨y2,y3,y4,y5,y6,y7⟩,y8,y9,y10⟩:=EL
 simp only [Nat.zero_add] at y1 y2 y3 y4 y5 y6 y7 y8 y9 y10
 unfold plV at con ⊢
 go_enter Tryz.func19,Tryz.ntmps19
 go_upto_region 1 with fail
 generalize w.alloc (.cells #[.int .i64 p.k,.int .i64 p.n,.int .i64 p.x.k,.int .i64 p.x.v.1,.int .i64 p.x.v.2.1,.string p.x.v.2.2,.int .i64 p.x.c,.slice q.xa p.x.ks.length q.xc,.slice q.sa p.xs.length q.sc,.slice q.ga p.gs.length q.gc,.slice q.ka p.ks.length q.kc] 31)=wA at *
 go_wp2_with fail
 refine con.mono ?_
 rintro e w1 ⟨⟨v1,rfl,hv0,hv1⟩,hb1⟩
 clear con y0 y1 y2 y3 y4 y5 y6 y7 y8 y9 y10
 have hA1:=chain hA hb1
 by_cases he:le=0
 rotate_left
 ·have e0:=hv1 he
  obtain ⟨e1,e2⟩:=evE_look (data:=data) (show ¬ lookE ts p=0 by rw [HLe.out]; exact he)
  rw [HE.out,HLe.out] at e1
  rw [HZ.out] at e2
  subst e0 e1 e2
  have hal:Below w1.heap.size w1 (w1.alloc (.cells #[.int .i64 0,.int .i64 0,.int .i64 0,.int .i64 0,.int .i64 0,.string ⟨#[]⟩,.int .i64 0,.slice none 0 0,.slice none 0 0,.slice none 0 0,.slice none 0 0,.slice none 0 0,.slice none 0 0] 79)):=(Below.refl _ _).alloc (Nat.le_refl _) _
  have hA2:=chain hA1 hal
  have heb:(ee != 0)=true:=by simpa using he
  clear hv0 hv1 HE HZ HLe
  unfold nd0
  go_upto_region 2 with fail
  generalize w1.alloc (.cells #[.int .i64 0,.int .i64 0,.int .i64 0,.int .i64 0,.int .i64 0,.string ⟨#[]⟩,.int .i64 0,.slice none 0 0,.slice none 0 0,.slice none 0 0,.slice none 0 0,.slice none 0 0,.slice none 0 0] 79)=w2 at *
  go_wp2_with fail
  exact bodyPost_ret (v:=.tuple #[.slice none 0 0,.int .i64 ee]) (by simp [results,Tryz.results19,go_sem]) rfl ⟨_,rfl,ownZ_nil _ _,hA2⟩
 obtain ⟨ca,cc,na,nc,e0,ND⟩:=hv0 he
 have HL0:Hid (lookE ts p=0):=by show _=_; rw [HLe.out,he]
 subst e0
 clear hv0 hv1 HLe
 subst he
 have hal:Below w1.heap.size w1 (w1.alloc (.cells #[.int .i64 p.k,.int .i64 p.n,.int .i64 p.x.k,.int .i64 p.x.v.1,.int .i64 p.x.v.2.1,.string p.x.v.2.2,.int .i64 p.x.c,.slice q.xa p.x.ks.length q.xc,.slice q.sa p.xs.length q.sc,.slice q.ga p.gs.length q.gc,.slice q.ka p.ks.length q.kc,.slice ca (colsP ts p).length cc,.slice na p.ks.length nc] 79)):=(Below.refl _ _).alloc (Nat.le_refl _) _
 have hA2:=chain hA1 hal
 have Qk:=heap_new w1 #[.int .i64 p.k,.int .i64 p.n,.int .i64 p.x.k,.int .i64 p.x.v.1,.int .i64 p.x.v.2.1,.string p.x.v.2.2,.int .i64 p.x.c,.slice q.xa p.x.ks.length q.xc,.slice q.sa p.xs.length q.sc,.slice q.ga p.gs.length q.gc,.slice q.ka p.ks.length q.kc,.slice ca (colsP ts p).length cc,.slice na p.ks.length nc] 79
 have lk:=lt_of_heap Qk
 have hsA:=hb1.size
 unfold ndV
 go_upto_region 2 with fail
 generalize w1.alloc (.cells #[.int .i64 p.k,.int .i64 p.n,.int .i64 p.x.k,.int .i64 p.x.v.1,.int .i64 p.x.v.2.1,.string p.x.v.2.2,.int .i64 p.x.c,.slice q.xa p.x.ks.length q.xc,.slice q.sa p.xs.length q.sc,.slice q.ga p.gs.length q.gc,.slice q.ka p.ks.length q.kc,.slice ca (colsP ts p).length cc,.slice na p.ks.length nc] 79)=w2 at *
 have h8:ts.length≤8:=tabsL (lookE_ok HL0.out).1
 have con:=wrongQ_at ts data ta tc da dc w2 ((hT.next hA2 (Nat.le_refl _)).up hA2.size) (hD.next hA2) h8
 generalize hde:dataE ts data=de at con
 have HDe:Hid (dataE ts data=de):=hde
 clear hde
 go_wp2_with fail
 refine con.mono ?_
 rintro e w3 ⟨rfl,hb3⟩
 clear con
 have hA3:=chain hA2 hb3
 dsimp only
 by_cases hd:de=0
 rotate_left
 ·obtain ⟨e1,e2⟩:=evE_data (data:=data) HL0.out (show ¬ dataE ts data=0 by rw [HDe.out]; exact hd)
  rw [HE.out,HDe.out] at e1
  rw [HZ.out] at e2
  subst e1 e2
  have heb:(ee != 0)=true:=by simpa using hd
  clear HE HZ HDe HL0
  go_wp2_with fail
  exact bodyPost_ret (v:=.tuple #[.slice none 0 0,.int .i64 ee]) (by simp [results,Tryz.results19,go_sem]) rfl ⟨_,rfl,ownZ_nil _ _,hA3⟩
 have HD0:Hid (dataE ts data=0):=by show _=_; rw [HDe.out,hd]
 clear HDe
 subst hd
 have Q3:=(hb3.block _ lk).trans Qk
 have hk3:Kept wA.heap.size wA.heap.size w1 w3:=Kept.of (chain hal hb3) hsA
 have con:=eval_all ts (lookE_ok HL0.out).1 data (dataE_dok HD0.out) p wA.heap.size wA.heap.size q ca cc na nc da dc 0 1 w3 (lookE_ok HL0.out).2 (ND.next hk3) (Nat.le_trans hsA (chain hal hb3).size) (hD.next hA3) HK.out
 obtain ⟨e1,e2⟩:=evE_own (p:=p) HL0.out HD0.out
 rw [HE.out] at e1
 rw [HZ.out] at e2
 rw [← e1,← e2] at con
 unfold ndV at con
 clear e1 e2 HE HZ HL0 HD0 ND hk3
 have z0:=cell_of (i:=0) Q3 rfl
 have z1:=cell_of (i:=1) Q3 rfl
 have z2:=cell_of (i:=2) Q3 rfl
 have z3:=cell_of (i:=3) Q3 rfl
 have z4:=cell_of (i:=4) Q3 rfl
 have z5:=cell_of (i:=5) Q3 rfl
 have z6:=cell_of (i:=6) Q3 rfl
 have z7:=cell_of (i:=7) Q3 rfl
 have z8:=cell_of (i:=8) Q3 rfl
 have z9:=cell_of (i:=9) Q3 rfl
 have z10:=cell_of (i:=10) Q3 rfl
 have z11:=cell_of (i:=11) Q3 rfl
 have z12:=cell_of (i:=12) Q3 rfl
 go_wp2_with fail
 refine con.mono ?_
 rintro e w4 ⟨v4,rfl,O4,hb4⟩
 clear con z0 z1 z2 z3 z4 z5 z6 z7 z8 z9 z10 z11 z12
 have O4':=O4.mono hA3.size
 go_wp2_with fail
 exact bodyPost_ret (v:=.tuple #[v4,.int .i64 ee]) (by simp [results,Tryz.results19,go_sem]) rfl ⟨_,rfl,O4',chain hA3 hb4⟩
end Go.Proofs.YtoefpglknaiaeaaGreat
/- The walk of tidelaw5.is. -/
namespace Go.Proofs.YtoefpglknaiaeaaGreat
open Go.RowKit Go.Lib Go.Shelf

set_option maxRecDepth 100000 in
set_option maxHeartbeats 8000000 in
theorem is5_at (ta:Option Addr) (tc:Nat) (ts:List (List Int)) (p:Pl) (q:Pw) (p':Pl) (q':Pw) (da:Option Addr) (dc:Nat) (data:List (List Zp)) (w:World) (hT:TbAt w.heap.size w ta ts) (hp:PlB w.heap.size w p q) (hk:PlOk p) (hp':PlB w.heap.size w p' q') (hk':PlOk p') (hD:DtAt w da data) (hs:evE ts data p=0→evE ts data p'=0→evZ ts data p=evZ ts data p') :
  Calls Tryz.prog 27 #[.slice ta ts.length tc,plV p q,plV p' q',.slice da data.length dc] w fun e w'=>e = .returned (.bool true)∧Below w.heap.size w w':=by
 have TX:TbX w ta ts:=hT
 have PX:PlX w p q:=hp
 have PX2:PlX w p' q':=hp'
 have DX:=hD
 have HK:Hid (PlOk p):=hk
 have HK2:Hid (PlOk p'):=hk'
 have HS:Hid (evE ts data p=0→evE ts data p'=0→evZ ts data p=evZ ts data p'):=hs
 clear hT hp hp' hD hk hk' hs
 have hA:Below w.heap.size w w:=Below.refl _ _
 have h1:Below w.heap.size w (w.alloc (.cells #[.int .i64 p.k,.int .i64 p.n,.int .i64 p.x.k,.int .i64 p.x.v.1,.int .i64 p.x.v.2.1,.string p.x.v.2.2,.int .i64 p.x.c,.slice q.xa p.x.ks.length q.xc,.slice q.sa p.xs.length q.sc,.slice q.ga p.gs.length q.gc,.slice q.ka p.ks.length q.kc] 31)):=(Below.refl _ _).alloc (Nat.le_refl _) _
 have EL:ElX (w.alloc (.cells #[.int .i64 p.k,.int .i64 p.n,.int .i64 p.x.k,.int .i64 p.x.v.1,.int .i64 p.x.v.2.1,.string p.x.v.2.2,.int .i64 p.x.c,.slice q.xa p.x.ks.length q.xc,.slice q.sa p.xs.length q.sc,.slice q.ga p.gs.length q.gc,.slice q.ka p.ks.length q.kc] 31)) w.heap.size p q:=⟨Elv.new w p q 31,by simp⟩
 have z1:(w.alloc (.cells #[.int .i64 p.k,.int .i64 p.n,.int .i64 p.x.k,.int .i64 p.x.v.1,.int .i64 p.x.v.2.1,.string p.x.v.2.2,.int .i64 p.x.c,.slice q.xa p.x.ks.length q.xc,.slice q.sa p.xs.length q.sc,.slice q.ga p.gs.length q.gc,.slice q.ka p.ks.length q.kc] 31)).heap.size=w.heap.size+1:=by simp
 unfold plV
 go_enter Tryz.func27,Tryz.ntmps27
 go_upto_region 1 with fail
 generalize w.alloc (.cells #[.int .i64 p.k,.int .i64 p.n,.int .i64 p.x.k,.int .i64 p.x.v.1,.int .i64 p.x.v.2.1,.string p.x.v.2.2,.int .i64 p.x.c,.slice q.xa p.x.ks.length q.xc,.slice q.sa p.xs.length q.sc,.slice q.ga p.gs.length q.gc,.slice q.ka p.ks.length q.kc] 31)=w1 at *
 replace TX:=TX.next h1
 replace PX:=PX.next h1
 replace PX2:=PX2.next h1
 replace DX:=DX.next h1
 replace hA:=chain hA h1
 have h2:Below w1.heap.size w1 (w1.alloc (.cells #[.int .i64 p'.k,.int .i64 p'.n,.int .i64 p'.x.k,.int .i64 p'.x.v.1,.int .i64 p'.x.v.2.1,.string p'.x.v.2.2,.int .i64 p'.x.c,.slice q'.xa p'.x.ks.length q'.xc,.slice q'.sa p'.xs.length q'.sc,.slice q'.ga p'.gs.length q'.gc,.slice q'.ka p'.ks.length q'.kc] 31)):=(Below.refl _ _).alloc (Nat.le_refl _) _
 have EL2:ElX (w1.alloc (.cells #[.int .i64 p'.k,.int .i64 p'.n,.int .i64 p'.x.k,.int .i64 p'.x.v.1,.int .i64 p'.x.v.2.1,.string p'.x.v.2.2,.int .i64 p'.x.c,.slice q'.xa p'.x.ks.length q'.xc,.slice q'.sa p'.xs.length q'.sc,.slice q'.ga p'.gs.length q'.gc,.slice q'.ka p'.ks.length q'.kc] 31)) w1.heap.size p' q':=⟨Elv.new w1 p' q' 31,by simp⟩
 replace TX:=TX.next h2
 replace PX:=PX.next h2
 replace PX2:=PX2.next h2
 replace DX:=DX.next h2
 replace EL:=EL.next h2
 replace hA:=chain hA h2
 generalize w1.alloc (.cells #[.int .i64 p'.k,.int .i64 p'.n,.int .i64 p'.x.k,.int .i64 p'.x.v.1,.int .i64 p'.x.v.2.1,.string p'.x.v.2.2,.int .i64 p'.x.c,.slice q'.xa p'.x.ks.length q'.xc,.slice q'.sa p'.xs.length q'.sc,.slice q'.ga p'.gs.length q'.gc,.slice q'.ka p'.ks.length q'.kc] 31)=w2 at *
 rw [z1] at EL2
 clear h1 h2 z1
 have con:=evalT_at ts (data) p q ta tc da dc w2 TX DX PX HK.out
 generalize hq:evE ts (data) p=e1 at con
 have HE1:Hid (evE ts (data) p=e1):=hq
 clear hq
 generalize hq:evZ ts (data) p=z1 at con
 have HZ1:Hid (evZ ts (data) p=z1):=hq
 clear hq
 try unfold plV at con
 obtain ⟨y0,y1,⟨y2,y3,y4,y5,y6,y7⟩,y8,y9,y10⟩:=EL.el
 simp only [Nat.zero_add] at y1 y2 y3 y4 y5 y6 y7 y8 y9 y10
 go_wp2_with fail
 refine con.mono ?_
 rintro e w3 ⟨v1,rfl,O1,hb⟩
 clear con
 clear y0 y1 y2 y3 y4 y5 y6 y7 y8 y9 y10
 replace TX:=TX.next hb
 replace PX:=PX.next hb
 replace PX2:=PX2.next hb
 replace DX:=DX.next hb
 replace EL:=EL.next hb
 replace EL2:=EL2.next hb
 replace hA:=chain hA hb
 clear hb
 obtain ⟨a1,c1,rfl,Z1,n1⟩:=O1.zs2
 clear O1
 dsimp only
 have con:=evalT_at ts (data) p' q' ta tc da dc w3 TX DX PX2 HK2.out
 generalize hq:evE ts (data) p'=e2 at con
 have HE2:Hid (evE ts (data) p'=e2):=hq
 clear hq
 generalize hq:evZ ts (data) p'=z2 at con
 have HZ2:Hid (evZ ts (data) p'=z2):=hq
 clear hq
 try unfold plV at con
 obtain ⟨y0,y1,⟨y2,y3,y4,y5,y6,y7⟩,y8,y9,y10⟩:=EL2.el
 simp only [Nat.zero_add] at y1 y2 y3 y4 y5 y6 y7 y8 y9 y10
 go_wp2_with fail
 refine con.mono ?_
 rintro e w4 ⟨v2,rfl,O2,hb⟩
 clear con
 clear y0 y1 y2 y3 y4 y5 y6 y7 y8 y9 y10
 replace TX:=TX.next hb
 replace PX:=PX.next hb
 replace PX2:=PX2.next hb
 replace DX:=DX.next hb
 replace EL:=EL.next hb
 replace EL2:=EL2.next hb
 replace Z1:=Z1.next hb
 replace hA:=chain hA hb
 clear hb
 obtain ⟨a2,c2,rfl,Z2,n2⟩:=O2.zs2
 clear O2
 dsimp only
 by_cases h1:e1=0
 rotate_left
 ·have hb1:(e1 != 0)=true:=by simpa using h1
  go_wp2_with fail
  go_ret
  exact ⟨rfl,hA⟩
 subst h1
 by_cases h2:e2=0
 rotate_left
 ·have hb2:(e2 != 0)=true:=by simpa using h2
  go_wp2_with fail
  go_ret
  exact ⟨rfl,hA⟩
 subst h2
 have ez:z1=z2:=by rw [← HZ1.out,← HZ2.out]; exact HS.out HE1.out HE2.out
 subst ez
 go_wp2_with fail
 refine (same_eq a1 a2 c1 c2 z1 w4 Z1 Z2).mono ?_
 rintro e wz ⟨rfl,hb⟩
 replace hA:=chain hA hb
 go_wp2_with fail
 go_ret
 exact ⟨rfl,hA⟩
end Go.Proofs.YtoefpglknaiaeaaGreat
