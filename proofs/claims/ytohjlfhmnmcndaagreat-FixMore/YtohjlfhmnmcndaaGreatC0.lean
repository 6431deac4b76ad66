/- Together: XOpen, AOpen, EOpen, ZOpen, POpen, QOpen, EIm, EJ, EK. -/
import Derived.Deep.Slices
import Derived.Deep.Strs
import Derived.ProofKit
import Derived.OpenShut
import Derived.ChangeOld
import Derived.Lib.SmallJoins
import Derived.SizedLaws
import Derived.Test.YtohjlfhmnmcndaaGreatB5
import Derived.Test.YtohjlfhmnmcndaaGreatB8
import Derived.Test.YtohjlfhmnmcndaaGreatB1
import Derived.Test.YtohjlfhmnmcndaaGreatB10
import Derived.Test.YtohjlfhmnmcndaaGreatB15
/- Opening arguments: numbers, values, expressions. -/
namespace Go.Proofs.YtohjlfhmnmcndaaGreat
open Go.ChangeShapes Go.WideShapes Go.ChangeAt Go.RowKit Go.Joins

set_option maxRecDepth 100000 in
theorem addr_addX (b off i:Nat):(⟨b,off,none⟩:Addr).add i=⟨b,off+i,none⟩:=by
 unfold Addr.add
 by_cases h:i=0 <;> simp [h]
theorem q3:Tryz.prog.cellsOf 3=1:=by kernel_rfl
theorem q2:Tryz.prog.cellsOf 2=1:=by kernel_rfl
theorem q9:Tryz.prog.cellsOf 9=1:=by kernel_rfl
theorem q24:Tryz.prog.cellsOf 24=3:=by kernel_rfl
theorem q25:Tryz.prog.cellsOf 25=1:=by kernel_rfl
theorem q27:Tryz.prog.cellsOf 27=6:=by kernel_rfl
set_option maxRecDepth 100000 in
theorem open_valT {H:Type} {enc:TypeId × Value→H} {W:World} {base:Nat} {sp:Nat→Bool} {hd:Bool} {fuel:Nat} {cs:List Value} {x:DataW H × List MemPlace}
  (h:DataW.trod enc Tryz.prog W base sp hd fuel 24 cs=some x):∃ v:Vl,cs = [.int .i64 v.1,.int .i64 v.2.1,.string v.2.2]:=by
 obtain ⟨y0,y1,y2,m,_,hlen,h0,h1,h2⟩:=Go.Deep.trod_struct3 Tryz.underlying24 h
 rw [q24] at hlen
 match cs,hlen with
 | [c0,c1,c2],_ =>
  simp only [q3,q2,q9] at h0 h1 h2
  obtain ⟨k,e0,_,_⟩:=DataW.trod_int Tryz.underlying3 h0
  obtain ⟨n,e1,_,_⟩:=DataW.trod_int Tryz.underlying2 h1
  obtain ⟨s,e2,_,_⟩:=DataW.trod_string Tryz.underlying9 h2
  simp at e0 e1 e2
  subst e0 e1 e2
  exact ⟨(k,n,s),rfl⟩
instance:Inhabited Ex:=⟨.mk 0 (0,0,⟨#[]⟩) 0 []⟩
/-- The kids' opening, at less fuel. -/
def KidsOpen {H:Type} (enc:TypeId × Value→H) (W:World) (hd:Bool) (m:Nat):Prop :=
 ∀ cs x,DataW.trod enc Tryz.prog W 0 (fun _=>true) hd m 25 cs=some x→∃ (a:Option Addr) (cap:Nat) (l:List Ex),cs = [.slice a l.length cap]∧KsAt W.heap.size W a l
set_option maxRecDepth 100000 in
theorem open_exprT {H:Type} {enc:TypeId × Value→H} {W:World} {hd:Bool} {fuel:Nat} (ih:∀ m,m<fuel→KidsOpen enc W hd m) {cs:List Value} {x:DataW H × List MemPlace}
  (h:DataW.trod enc Tryz.prog W 0 (fun _=>true) hd fuel 27 cs=some x) :
  ∃ (e:Ex) (a:Option Addr) (cap:Nat),cs = [.int .i64 e.k,.int .i64 e.v.1,.int .i64 e.v.2.1,.string e.v.2.2,.int .i64 e.c,.slice a e.ks.length cap]∧KsAt W.heap.size W a e.ks:=by
 obtain ⟨xs,n,hn,_,hl,hlen,hf⟩:=DataW.trod_struct Tryz.underlying27 h
 rw [q27] at hl
 match xs,hlen with
 | [y0,y1,y2,y3],_ =>
  have h0:=hf 0 _ rfl
  have h1:=hf 1 _ rfl
  have h2:=hf 2 _ rfl
  have h3:=hf 3 _ rfl
  match cs,hl with
  | [c0,c1,c2,c3,c4,c5],_ =>
   simp [q3,q24,q25] at h0 h1 h2 h3
   obtain ⟨k,e0,_,_⟩:=DataW.trod_int Tryz.underlying3 h0
   obtain ⟨v,e1⟩:=open_valT h1
   obtain ⟨c,e2,_,_⟩:=DataW.trod_int Tryz.underlying3 h2
   obtain ⟨a,cap,l,e3,hk⟩:=ih n (by omega) _ _ h3
   simp at e0 e1 e2 e3
   obtain ⟨r1,r2,r3⟩:=e1
   subst e0 r1 r2 r3 e2 e3
   exact ⟨.mk k v c l,a,cap,rfl,hk⟩
set_option maxRecDepth 100000 in
theorem kidsOpen {H:Type} (enc:TypeId × Value→H) (W:World) (hd:Bool) (fuel:Nat):KidsOpen enc W hd fuel:=by
 induction fuel using Nat.strongRecOn with
 | ind fuel ih =>
  intro cs x h
  rcases DataW.trod_slice Tryz.underlying25 h with ⟨hcs,_⟩ | ⟨a,len,cap,elems,rest,n,hn,hcs,_,_,_,_,hlen,hel,_,_⟩
  ·exact ⟨none,0,[],hcs,.nil _⟩
  ·rw [q27] at hel
   obtain ⟨f,hf⟩:=Go.Deep.choose_lt (α:=Ex × Option Addr × Nat) (n:=len) (p:=fun i (y:Ex × Option Addr × Nat) =>
     (W.cell? ((a.add (i*6)).add 0)=some (.int .i64 y.1.k)∧W.cell? ((a.add (i*6)).add 1)=some (.int .i64 y.1.v.1)∧W.cell? ((a.add (i*6)).add 2)=some (.int .i64 y.1.v.2.1)∧W.cell? ((a.add (i*6)).add 3)=some (.string y.1.v.2.2) ∧
      W.cell? ((a.add (i*6)).add 4)=some (.int .i64 y.1.c)∧W.cell? ((a.add (i*6)).add 5)=some (.slice y.2.1 y.1.ks.length y.2.2))∧KsAt W.heap.size W y.2.1 y.1.ks) (fun i hi=>by
    have key:=hel i hi
    rw [List.getElem?_eq_getElem (by omega)] at key
    obtain ⟨cs',h1,h2⟩:=Option.bind_eq_some_iff.1 key
    obtain ⟨_,hl6,hcell⟩:=World.cells?_some h1
    obtain ⟨e,ai,ci,rfl,hk⟩:=open_exprT (fun m hm=>ih m (by omega)) h2
    exact ⟨(e,ai,ci),⟨hcell 0 (by simp),hcell 1 (by simp),hcell 2 (by simp),hcell 3 (by simp),hcell 4 (by simp),hcell 5 (by simp)⟩,hk⟩)
   refine ⟨some a,cap,(List.range len).map fun i=>(f i).1,by simpa using hcs,?_⟩
   by_cases h0:len=0
   ·subst h0; exact .nil _
   ·obtain ⟨b,off,spot⟩:=a
    have hc:=(hf 0 (by omega)).1.1
    have hspot:spot=none:=by simpa [Addr.add] using World.cell?_spot hc
    subst hspot
    refine .some b off _ (fun i=>(f i).2.1) (fun i=>(f i).2.2) (World.block_lt_of_cell? W _ (by simpa [Addr.add] using hc)) (fun i hi=>?_) (fun i hi=>?_)
    ·have hi':i<len:=by simpa using hi
     have:=(hf i hi').1
     simp only [addr_addX] at this
     simp only [List.getElem_map,List.getElem_range]
     exact ⟨this.1,this.2.1,this.2.2.1,this.2.2.2.1,this.2.2.2.2.1,this.2.2.2.2.2⟩
    ·have hi':i<len:=by simpa using hi
     simp only [List.getElem_map,List.getElem_range]
     exact (hf i hi').2
end Go.Proofs.YtohjlfhmnmcndaaGreat
/- Opening lists of aggregates. -/
namespace Go.Proofs.YtohjlfhmnmcndaaGreat
open Go.ChangeShapes Go.WideShapes Go.ChangeAt Go.RowKit Go.Joins

theorem qAgg:Tryz.prog.cellsOf 133=7:=by kernel_rfl
set_option maxRecDepth 100000 in
theorem open_aggT {H:Type} {enc:TypeId × Value→H} {W:World} {hd:Bool} {fuel:Nat} {cs:List Value} {x:DataW H × List MemPlace}
  (h:DataW.trod enc Tryz.prog W 0 (fun _=>true) hd fuel 133 cs=some x) :
  ∃ (g:Ag) (a:Option Addr) (cap:Nat),cs = [.int .i64 g.1,.int .i64 g.2.k,.int .i64 g.2.v.1,.int .i64 g.2.v.2.1,.string g.2.v.2.2,.int .i64 g.2.c,.slice a g.2.ks.length cap]∧KsAt W.heap.size W a g.2.ks:=by
 obtain ⟨xs,n,hn,_,hl,hlen,hf⟩:=DataW.trod_struct Tryz.underlying133 h
 rw [qAgg] at hl
 match xs,hlen with
 | [y0,y1],_ =>
  have h0:=hf 0 _ rfl
  have h1:=hf 1 _ rfl
  match cs,hl with
  | [c0,c1,c2,c3,c4,c5,c6],_ =>
   simp [q3,q27] at h0 h1
   obtain ⟨k,e0,_,_⟩:=DataW.trod_int Tryz.underlying3 h0
   obtain ⟨e,a,cap,e1,hk⟩:=open_exprT (fun m _=>kidsOpen enc W hd m) h1
   simp at e0 e1
   obtain ⟨r1,r2,r3,r4,r5,r6⟩:=e1
   subst e0 r1 r2 r3 r4 r5 r6
   exact ⟨(k,e),a,cap,rfl,hk⟩
instance:Inhabited Ag:=⟨(0,.mk 0 (0,0,⟨#[]⟩) 0 [])⟩
theorem bytes_agg:8≤Tryz.prog.bytesOf 133:=by decide +kernel
end Go.Proofs.YtohjlfhmnmcndaaGreat
/- How long the lists of expressions may be that are read. -/
namespace Go.Proofs.YtohjlfhmnmcndaaGreat
open Go.ChangeShapes Go.WideShapes Go.ChangeAt Go.RowKit Go.Joins

theorem bytes_expr:8≤Tryz.prog.bytesOf 27:=by decide +kernel
end Go.Proofs.YtohjlfhmnmcndaaGreat
/- Opening arguments: slices of values, and slices of rows with weights. -/
namespace Go.Proofs.YtohjlfhmnmcndaaGreat
open Go.ChangeShapes Go.WideShapes Go.ChangeAt Go.RowKit Go.Joins

set_option maxRecDepth 100000 in
theorem addr_add (b off i:Nat):(⟨b,off,none⟩:Addr).add i=⟨b,off+i,none⟩:=by
 unfold Addr.add
 by_cases h:i=0 <;> simp [h]
set_option maxRecDepth 100000 in
theorem open_row {H:Type} {enc:TypeId × Value→H} {W:World} {base:Nat} {sp:Nat→Bool} {hd:Bool} {fuel:Nat} {cs:List Value} {x:DataW H × List MemPlace} {a:Addr}
  (hc:W.cells? base a 3=some cs) (h:DataW.trod enc Tryz.prog W base sp hd fuel 24 cs=some x) :
  ∃ v:Vl,W.cell? (a.add 0)=some (.int .i64 v.1)∧W.cell? (a.add 1)=some (.int .i64 v.2.1)∧W.cell? (a.add 2)=some (.string v.2.2):=by
 obtain ⟨_,hlen,hcell⟩:=World.cells?_some hc
 obtain ⟨y0,y1,y2,m,_,_,h0,h1,h2⟩:=Go.Deep.trod_struct3 Tryz.underlying24 h
 have q3:Tryz.prog.cellsOf 3=1:=by kernel_rfl
 have q2:Tryz.prog.cellsOf 2=1:=by kernel_rfl
 have q9:Tryz.prog.cellsOf 9=1:=by kernel_rfl
 match cs,hlen with
 | [c0,c1,c2],_ =>
  simp only [q3,q2,q9] at h0 h1 h2
  obtain ⟨k,e0,_,_⟩:=DataW.trod_int Tryz.underlying3 h0
  obtain ⟨n,e1,_,_⟩:=DataW.trod_int Tryz.underlying2 h1
  obtain ⟨s,e2,_,_⟩:=DataW.trod_string Tryz.underlying9 h2
  simp at e0 e1 e2
  subst e0 e1 e2
  exact ⟨(k,n,s),hcell 0 (by omega),hcell 1 (by omega),hcell 2 (by omega)⟩
set_option maxRecDepth 100000 in
theorem open_valsT {H:Type} {enc:TypeId × Value→H} {W:World} {hd:Bool} {fuel:Nat} {cs:List Value} {x:DataW H × List MemPlace}
  (hf:DataW.trod enc Tryz.prog W 0 (fun _=>true) hd fuel 56 cs=some x):∃ (a:Option Addr) (cap:Nat) (l:List Vl),cs = [.slice a l.length cap]∧SlAt W a l:=by
 rcases Go.Deep.open_slice Tryz.underlying56 hf with ⟨hcs,_⟩ | ⟨a,len,cap,m,n,D,Pl,hcs,_,hl,hm,hmm,_,hx⟩
 ·exact ⟨none,0,[],hcs,by simp,.inl rfl⟩
 ·have q:Tryz.prog.cellsOf 24=3:=by kernel_rfl
  rw [q] at hx
  simp only [if_true] at hmm
  obtain ⟨f,hf'⟩:=Go.Deep.choose_lt (α:=Vl) (n:=len) (p:=fun i (v:Vl)=>W.cell? ((a.add (i*3)).add 0)=some (.int .i64 v.1)∧W.cell? ((a.add (i*3)).add 1)=some (.int .i64 v.2.1)∧W.cell? ((a.add (i*3)).add 2)=some (.string v.2.2)) (fun i hi=>by
   obtain ⟨cs',h1,h2⟩:=hx i (by omega)
   exact open_row h1 h2)
  refine ⟨some a,cap,(List.range len).map f,by simpa using hcs,?_,?_⟩
  ·simp; omega
  by_cases h0:len=0
  ·left; simp [h0]
  ·right
   obtain ⟨b,off,spot⟩:=a
   have hc:=(hf' 0 (by omega)).1
   have hspot:spot=none:=by simpa [Addr.add] using World.cell?_spot hc
   subst hspot
   refine ⟨b,off,rfl,fun i hi=>?_,?_⟩
   ·have hi':i<len:=by simpa using hi
    have:=hf' i hi'
    simp only [addr_add] at this
    simp only [List.getElem_map,List.getElem_range]
    exact this
   ·exact World.block_lt_of_cell? W _ (by simpa [Addr.add] using hc)
set_option maxRecDepth 100000 in
theorem struct2 {P:Program} {H:Type} {enc:TypeId × Value→H} {w:World} {base:Nat} {spare:Nat→Bool} {held:Bool} {t:TypeId} {f0 f1:Field} {fuel:Nat} {cs:List Value} {x:DataW H × List MemPlace} (ht:P.underlying t=some (.struct #[f0,f1])) (h:DataW.trod enc P w base spare held fuel t cs=some x) :
  ∃ y0 y1 n,DataW.trod enc P w base spare held n f0.type ((cs.drop f0.offset).take (P.cellsOf f0.type))=some y0 ∧
   DataW.trod enc P w base spare held n f1.type ((cs.drop f1.offset).take (P.cellsOf f1.type))=some y1:=by
 obtain ⟨xs,n,_,rfl,hl,hlen,hf⟩:=DataW.trod_struct ht h
 match xs,hlen with
 | [y0,y1],_=>exact ⟨y0,y1,n,by simpa using hf 0 f0 rfl,by simpa using hf 1 f1 rfl⟩
set_option maxRecDepth 100000 in
theorem open_zrow {H:Type} {enc:TypeId × Value→H} {W:World} {hd:Bool} {fuel:Nat} {cs:List Value} {x:DataW H × List MemPlace} {a:Addr}
  (hc:W.cells? 0 a 2=some cs) (h:DataW.trod enc Tryz.prog W 0 (fun _=>true) hd fuel 58 cs=some x) :
  ∃ z:Zp,W.cell? (a.add 1)=some (.int .i64 z.2)∧∃ ai cap,W.cell? (a.add 0)=some (.slice ai z.1.length cap)∧SlAt W ai z.1:=by
 obtain ⟨_,hlen,hcell⟩:=World.cells?_some hc
 obtain ⟨y0,y1,n,h0,h1⟩:=struct2 Tryz.underlying58 h
 have q23:Tryz.prog.cellsOf 56=1:=by kernel_rfl
 have q2:Tryz.prog.cellsOf 2=1:=by kernel_rfl
 match cs,hlen with
 | [c0,c1],_ =>
  simp only [q23,q2] at h0 h1
  obtain ⟨ai,cap,l,e0,hs⟩:=open_valsT h0
  obtain ⟨k,e1,_,_⟩:=DataW.trod_int Tryz.underlying2 h1
  simp at e0 e1
  subst e0 e1
  exact ⟨(l,k),hcell 1 (by omega),ai,cap,hcell 0 (by omega),hs⟩
end Go.Proofs.YtohjlfhmnmcndaaGreat
/- Opening plans, tables' columns and rows. -/
namespace Go.Proofs.YtohjlfhmnmcndaaGreat
open Go.ChangeShapes Go.WideShapes Go.ChangeAt Go.RowKit Go.Joins

/-- No part is larger than what can be reached. -/
def Light {H:Type} (t:TypeId) (d:DataW H):Prop:=∀ k ∈ d.weights Tryz.prog t,k≤reachBytes
theorem wf_i64 {n:Int} (h:(Lit.int .i64 n).wf=true):-9223372036854775808≤n∧n≤9223372036854775807:=by
 unfold Lit.wf at h
 rw [Bool.and_eq_true,decide_eq_true_eq,decide_eq_true_eq] at h
 exact h
theorem Light.part {H:Type} {t:TypeId} {fs:Array Field} {parts:List (DataW H)} (hu:Tryz.prog.underlying t=some (.struct fs)) (h:Light t (.agg parts)) {j:Nat} {f:Field} {d:DataW H} (hf:fs[j]? = some f) (hd:parts[j]? = some d):Light f.type d:=by
 intro k hk
 refine h k ?_
 rw [DataW.weights,hu]
 refine DataW.weights_mem_each (j:=j) (t:=f.type) ?_ hd k hk
 rw [List.getElem?_map,Array.getElem?_toList,hf]
 rfl
theorem weights_all {H:Type} {P:Program} {e:TypeId}:∀ {l:List (DataW H)} {d:DataW H},d ∈ l→∀ k ∈ d.weights P e,k ∈ DataW.weightsAll P e l
 | x :: l,d,hd,k,hk=>by
  rw [DataW.weightsAll,List.mem_append]
  rcases List.mem_cons.mp hd with rfl | hd
  ·exact .inl hk
  ·exact .inr (weights_all hd k hk)
theorem Light.elem {H:Type} {t e:TypeId} {l r:List (DataW H)} (hu:Tryz.prog.underlying t=some (.slice e)) (h:Light t (.slice l r)) {d:DataW H} (hd:d ∈ l):Light e d:=by
 intro k hk
 refine h k ?_
 rw [DataW.weights,hu]
 exact List.mem_cons_of_mem _ (List.mem_append_left _ (weights_all hd k hk))
theorem Light.len {H:Type} {enc:TypeId × Value→H} {W:World} {hd:Bool} {t e:TypeId} {fuel n cap:Nat} {a:Option Addr} {x:DataW H × List MemPlace} (hu:Tryz.prog.underlying t=some (.slice e)) (hb:8≤Tryz.prog.bytesOf e)
  (h:DataW.trod enc Tryz.prog W 0 (fun _=>true) hd fuel t [.slice a n cap]=some x) (hl:Light t x.1):n≤100000000000000:=by
 rcases DataW.trod_slice hu h with ⟨hcs,_⟩ | ⟨a',len,cap',elems,rest,m,hm,hcs,rfl,_,_,_,hlen,_⟩
 ·simp at hcs
  omega
 ·simp at hcs
  obtain ⟨rfl,rfl,rfl⟩:=hcs
  have h1:=hl ((elems.length+rest.length)*Tryz.prog.bytesOf e) (by rw [DataW.weights,hu]; simp)
  have h2:=reachBytes_lt
  have h4:n*8≤(elems.length+rest.length)*Tryz.prog.bytesOf e:=Nat.mul_le_mul (by omega) hb
  omega
set_option maxRecDepth 100000 in
theorem open_aggsT {H:Type} {enc:TypeId × Value→H} {W:World} {hd:Bool} {fuel:Nat} {cs:List Value} {x:DataW H × List MemPlace}
  (hf0:DataW.trod enc Tryz.prog W 0 (fun _=>true) hd fuel 28 cs=some x):∃ (a:Option Addr) (cap:Nat) (l:List Ag),cs = [.slice a l.length cap]∧AgAt W.heap.size W a l:=by
 rcases DataW.trod_slice Tryz.underlying28 hf0 with ⟨hcs,_⟩ | ⟨a,len,cap,elems,rest,n,hn,hcs,_,_,_,_,hlen,hel,_,_⟩
 ·exact ⟨none,0,[],hcs,.inl rfl⟩
 ·rw [qAgg] at hel
  obtain ⟨f,hf⟩:=Go.Deep.choose_lt (α:=Ag × Option Addr × Nat) (n:=len) (p:=fun i (y:Ag × Option Addr × Nat) =>
    (W.cell? ((a.add (i*7)).add 0)=some (.int .i64 y.1.1)∧W.cell? ((a.add (i*7)).add 1)=some (.int .i64 y.1.2.k)∧W.cell? ((a.add (i*7)).add 2)=some (.int .i64 y.1.2.v.1)∧W.cell? ((a.add (i*7)).add 3)=some (.int .i64 y.1.2.v.2.1)∧W.cell? ((a.add (i*7)).add 4)=some (.string y.1.2.v.2.2) ∧
     W.cell? ((a.add (i*7)).add 5)=some (.int .i64 y.1.2.c)∧W.cell? ((a.add (i*7)).add 6)=some (.slice y.2.1 y.1.2.ks.length y.2.2))∧KsAt W.heap.size W y.2.1 y.1.2.ks) (fun i hi=>by
   have key:=hel i hi
   rw [List.getElem?_eq_getElem (by omega)] at key
   obtain ⟨cs',h1,h2⟩:=Option.bind_eq_some_iff.1 key
   obtain ⟨_,hl6,hcell⟩:=World.cells?_some h1
   obtain ⟨e,ai,ci,rfl,hk⟩:=open_aggT h2
   exact ⟨(e,ai,ci),⟨hcell 0 (by simp),hcell 1 (by simp),hcell 2 (by simp),hcell 3 (by simp),hcell 4 (by simp),hcell 5 (by simp),hcell 6 (by simp)⟩,hk⟩)
  refine ⟨some a,cap,(List.range len).map fun i=>(f i).1,by simpa using hcs,?_⟩
  by_cases h0:len=0
  ·subst h0; exact .inl rfl
  ·obtain ⟨b,off,spot⟩:=a
   have hc:=(hf 0 (by omega)).1.1
   have hspot:spot=none:=by simpa [Addr.add] using World.cell?_spot hc
   subst hspot
   refine .inr ⟨b,off,fun i=>(f i).2.1,fun i=>(f i).2.2,rfl,World.block_lt_of_cell? W _ (by simpa [Addr.add] using hc),fun i hi=>?_⟩
   have hi':i<len:=by simpa using hi
   obtain ⟨⟨g0,g1,g2,g3,g4,g5,g6⟩,gk⟩:=hf i hi'
   simp only [addr_addX] at g0 g1 g2 g3 g4 g5 g6
   simp only [List.getElem_map,List.getElem_range]
   exact ⟨g0,⟨g1,g2,g3,g4,g5,g6⟩,gk⟩
theorem qPlan:Tryz.prog.cellsOf 31=11:=by kernel_rfl
theorem qXs:Tryz.prog.cellsOf 25=1:=by kernel_rfl
theorem qGs:Tryz.prog.cellsOf 28=1:=by kernel_rfl
theorem qKs:Tryz.prog.cellsOf 29=1:=by kernel_rfl
instance:Inhabited Pl:=⟨.mk 0 0 default [] [] []⟩
instance:Inhabited Pw:=⟨⟨none,0,none,0,none,0,none,0⟩⟩
/-- The cells of a plan. -/
def plO (p:Pl) (q:Pw):List Value:=[.int .i64 p.k,.int .i64 p.n,.int .i64 p.x.k,.int .i64 p.x.v.1,.int .i64 p.x.v.2.1,.string p.x.v.2.2,.int .i64 p.x.c,.slice q.xa p.x.ks.length q.xc,.slice q.sa p.xs.length q.sc,.slice q.ga p.gs.length q.gc,.slice q.ka p.ks.length q.kc]
theorem light_arg {H:Type} {ts:List TypeId} {ds:List (DataW H)} {t:TypeId} {d:DataW H} (hs:(DataW.weightsEach Tryz.prog ts ds).all (· ≤ reachBytes)=true) {j:Nat} (ht:ts[j]? = some t) (hd:ds[j]? = some d):Light t d:=by
 intro k hk
 have:=List.all_eq_true.1 hs _ (DataW.weights_mem_each ht hd k hk)
 simpa using this
end Go.Proofs.YtohjlfhmnmcndaaGreat
/- Opening tables' columns, tables' rows. -/
namespace Go.Proofs.YtohjlfhmnmcndaaGreat
open Go.ChangeShapes Go.WideShapes Go.ChangeAt Go.RowKit Go.Joins

theorem qZ:Tryz.prog.cellsOf 58=2:=by kernel_rfl
theorem qZs:Tryz.prog.cellsOf 34=1:=by kernel_rfl
theorem qIs:Tryz.prog.cellsOf 45=1:=by kernel_rfl
set_option maxRecDepth 100000 in
theorem open_zrowsT {H:Type} {enc:TypeId × Value→H} {W:World} {hd:Bool} {fuel:Nat} {cs:List Value} {x:DataW H × List MemPlace}
  (hf:DataW.trod enc Tryz.prog W 0 (fun _=>true) hd fuel 34 cs=some x):∃ (a:Option Addr) (cap:Nat) (l:List Zp),cs = [.slice a l.length cap]∧ZsAt W a l∧(a=none→cap=0):=by
 rcases Go.Deep.open_slice Tryz.underlying34 hf with ⟨hcs,_⟩ | ⟨a,len,cap,m,n,D,Pl,hcs,_,hl,hm,hmm,_,hx⟩
 ·exact ⟨none,0,[],hcs,⟨by simp,.inl rfl⟩,fun _=>rfl⟩
 ·rw [qZ] at hx
  simp only [if_true] at hmm
  obtain ⟨f,hf'⟩:=Go.Deep.choose_lt (α:=Zp) (n:=len) (p:=fun i (z:Zp)=>W.cell? ((a.add (i*2)).add 1)=some (.int .i64 z.2)∧∃ ai cap,W.cell? ((a.add (i*2)).add 0)=some (.slice ai z.1.length cap)∧SlAt W ai z.1) (fun i hi=>by
   obtain ⟨cs',h1,h2⟩:=hx i (by omega)
   exact open_zrow h1 h2)
  refine ⟨some a,cap,(List.range len).map f,by simpa using hcs,⟨?_,?_⟩,fun h=>by cases h⟩
  ·simp; omega
  by_cases h0:len=0
  ·left; simp [h0]
  ·right
   obtain ⟨b,off,spot⟩:=a
   obtain ⟨_,_,hc,_⟩:=(hf' 0 (by omega)).2
   have hspot:spot=none:=by simpa [Addr.add] using World.cell?_spot hc
   subst hspot
   refine ⟨b,off,rfl,?_,fun i hi=>?_⟩
   ·exact World.block_lt_of_cell? W _ (by simpa [Addr.add] using hc)
   ·have hi':i<len:=by simpa using hi
    have:=hf' i hi'
    simp only [addr_addX] at this
    simp only [List.getElem_map,List.getElem_range]
    exact this
set_option maxRecDepth 100000 in
theorem open_dataT {H:Type} {enc:TypeId × Value→H} {W:World} {hd:Bool} {fuel:Nat} {cs:List Value} {x:DataW H × List MemPlace}
  (hf:DataW.trod enc Tryz.prog W 0 (fun _=>true) hd fuel 32 cs=some x):∃ (a:Option Addr) (cap:Nat) (l:List (List Zp)),cs = [.slice a l.length cap]∧DtAt W a l:=by
 rcases Go.Deep.open_slice Tryz.underlying32 hf with ⟨hcs,_⟩ | ⟨a,len,cap,m,n,D,Pl,hcs,_,hl,hm,hmm,_,hx⟩
 ·exact ⟨none,0,[],hcs,.inl rfl⟩
 ·rw [qZs] at hx
  simp only [if_true] at hmm
  obtain ⟨f,hf'⟩:=Go.Deep.choose_lt (α:=List Zp × Option Addr × Nat) (n:=len) (p:=fun i y=>W.cell? ((a.add (i*1)).add 0)=some (.slice y.2.1 y.1.length y.2.2)∧ZsAt W y.2.1 y.1∧(y.2.1=none→y.2.2=0)) (fun i hi=>by
   obtain ⟨cs',h1,h2⟩:=hx i (by omega)
   obtain ⟨_,_,hcell⟩:=World.cells?_some h1
   obtain ⟨ai,ci,l,rfl,hz,hn⟩:=open_zrowsT h2
   exact ⟨(l,ai,ci),hcell 0 (by simp),hz,hn⟩)
  refine ⟨some a,cap,(List.range len).map fun i=>(f i).1,by simpa using hcs,?_⟩
  by_cases h0:len=0
  ·left; simp [h0]
  ·obtain ⟨b,off,spot⟩:=a
   have hc:=(hf' 0 (by omega)).1
   have hspot:spot=none:=by simpa [Addr.add] using World.cell?_spot hc
   subst hspot
   refine .inr ⟨b,off,fun i=>(f i).2.1,fun i=>(f i).2.2,rfl,World.block_lt_of_cell? W _ (by simpa [Addr.add] using hc),fun i hi=>?_⟩
   have hi':i<len:=by simpa using hi
   obtain ⟨g0,g1,g2⟩:=hf' i hi'
   simp only [addr_addX,Nat.mul_one,Nat.add_zero] at g0
   simp only [List.getElem_map,List.getElem_range]
   exact ⟨g0,g1,g2⟩
theorem bytes_set:24≤Tryz.prog.bytesOf 34:=by decide +kernel
theorem Light.len24 {H:Type} {enc:TypeId × Value→H} {W:World} {hd:Bool} {t e:TypeId} {fuel n cap:Nat} {a:Option Addr} {x:DataW H × List MemPlace} (hu:Tryz.prog.underlying t=some (.slice e)) (hb:24≤Tryz.prog.bytesOf e)
  (h:DataW.trod enc Tryz.prog W 0 (fun _=>true) hd fuel t [.slice a n cap]=some x) (hl:Light t x.1):n≤10000000000000:=by
 rcases DataW.trod_slice hu h with ⟨hcs,_⟩ | ⟨a',len,cap',elems,rest,m,hm,hcs,rfl,_,_,_,hlen,_⟩
 ·simp at hcs
  omega
 ·simp at hcs
  obtain ⟨rfl,rfl,rfl⟩:=hcs
  have h1:=hl ((elems.length+rest.length)*Tryz.prog.bytesOf e) (by rw [DataW.weights,hu]; simp)
  have h2:=reachBytes_lt
  have h4:n*24≤(elems.length+rest.length)*Tryz.prog.bytesOf e:=Nat.mul_le_mul (by omega) hb
  omega
set_option maxRecDepth 100000 in
theorem open_data {H:Type} {enc:TypeId × Value→H} {W:World} {r:Reach} {b0:Nat} {v:Value} {d:DataW H} {p:List MemPlace}
  (hv:Value.okWide Tryz.prog W r b0 32 v) (h:DataW.Trod enc Tryz.prog W 0 (fun _=>true) true 32 v d p) (hL:Light 32 d):∃ (a:Option Addr) (cap:Nat) (l:List (List Zp)),v = .slice a l.length cap∧DtAt W a l∧l.length≤10000000000000:=by
 obtain ⟨a0,len,cap,rfl⟩:=okWide_slice Tryz.underlying32 hv
 obtain ⟨fuel,hf⟩:=h
 obtain ⟨a,c,l,e,hs⟩:=open_dataT hf
 have e':Value.slice a0 len cap = .slice a l.length c:=by simpa [Value.cells] using e
 refine ⟨a,c,l,e',hs,?_⟩
 have hf2:DataW.trod enc Tryz.prog W 0 (fun _=>true) true fuel 32 [.slice a l.length c]=some (d,p):=by rw [← e']; exact hf
 exact Light.len24 Tryz.underlying32 bytes_set hf2 hL
set_option maxRecDepth 100000 in
theorem open_intsT {H:Type} {enc:TypeId × Value→H} {W:World} {hd:Bool} {fuel:Nat} {cs:List Value} {x:DataW H × List MemPlace}
  (hf:DataW.trod enc Tryz.prog W 0 (fun _=>true) hd fuel 45 cs=some x):∃ (a:Option Addr) (cap:Nat) (l:List Int),cs = [.slice a l.length cap]∧IsAt W.heap.size W a l:=by
 rcases Go.Deep.open_slice1 Tryz.underlying45 q3 hf with ⟨hcs,_⟩ | ⟨a,len,cap,m,n,V,D,Pl,hcs,_,hl,hm,hmm,_,hx⟩
 ·exact ⟨none,0,[],hcs,⟨by simp,.inl rfl⟩⟩
 ·simp only [if_true] at hmm
  obtain ⟨f,hf'⟩:=Go.Deep.choose_lt (α:=Int) (n:=len) (p:=fun i (k:Int)=>W.cell? (a.add i)=some (.int .i64 k)) (fun i hi=>by
   obtain ⟨h1,h2⟩:=hx i (by omega)
   obtain ⟨k,e0,_,_⟩:=DataW.trod_int Tryz.underlying3 h2
   simp at e0
   exact ⟨k,by rw [h1,e0]⟩)
  refine ⟨some a,cap,(List.range len).map f,by simpa using hcs,?_,?_⟩
  ·simp; omega
  by_cases h0:len=0
  ·left; simp [h0]
  ·right
   obtain ⟨b,off,spot⟩:=a
   have hc:=hf' 0 (by omega)
   have hspot:spot=none:=by simpa [Addr.add] using World.cell?_spot hc
   subst hspot
   refine ⟨b,off,rfl,World.block_lt_of_cell? W _ (by simpa [Addr.add] using hc),fun i hi=>?_⟩
   have hi':i<len:=by simpa using hi
   have:=hf' i hi'
   simp only [addr_addX] at this
   simp only [List.getElem_map,List.getElem_range]
   exact this
set_option maxRecDepth 100000 in
theorem open_tables {H:Type} {enc:TypeId × Value→H} {W:World} {r:Reach} {b0:Nat} {v:Value} {d:DataW H} {p:List MemPlace}
  (hv:Value.okWide Tryz.prog W r b0 22 v) (h:DataW.Trod enc Tryz.prog W 0 (fun _=>true) true 22 v d p):∃ (a:Option Addr) (cap:Nat) (l:List (List Int)),v = .slice a l.length cap∧TbAt W.heap.size W a l:=by
 obtain ⟨a0,len0,cap0,rfl⟩:=okWide_slice Tryz.underlying22 hv
 obtain ⟨fuel,hf⟩:=h
 rcases Go.Deep.open_slice Tryz.underlying22 hf with ⟨hcs,_⟩ | ⟨a,len,cap,m,n,D,Pl,hcs,_,hl,hm,hmm,_,hx⟩
 ·exact ⟨none,0,[],by simpa [Value.cells] using hcs,.inl rfl⟩
 ·rw [qIs] at hx
  simp only [if_true] at hmm
  obtain ⟨f,hf'⟩:=Go.Deep.choose_lt (α:=List Int × Option Addr × Nat) (n:=len) (p:=fun i y=>W.cell? ((a.add (i*1)).add 0)=some (.slice y.2.1 y.1.length y.2.2)∧IsAt W.heap.size W y.2.1 y.1) (fun i hi=>by
   obtain ⟨cs',h1,h2⟩:=hx i (by omega)
   obtain ⟨_,_,hcell⟩:=World.cells?_some h1
   obtain ⟨ai,ci,l,rfl,hz⟩:=open_intsT h2
   exact ⟨(l,ai,ci),hcell 0 (by simp),hz⟩)
  refine ⟨some a,cap,(List.range len).map fun i=>(f i).1,by simpa [Value.cells] using hcs,?_⟩
  by_cases h0:len=0
  ·left; simp [h0]
  ·obtain ⟨b,off,spot⟩:=a
   have hc:=(hf' 0 (by omega)).1
   have hspot:spot=none:=by simpa [Addr.add] using World.cell?_spot hc
   subst hspot
   refine .inr ⟨b,off,fun i=>(f i).2.1,fun i=>(f i).2.2,rfl,World.block_lt_of_cell? W _ (by simpa [Addr.add] using hc),fun i hi=>?_⟩
   have hi':i<len:=by simpa using hi
   obtain ⟨g0,g1⟩:=hf' i hi'
   simp only [addr_addX,Nat.mul_one,Nat.add_zero] at g0
   simp only [List.getElem_map,List.getElem_range]
   exact ⟨g0,g1⟩
end Go.Proofs.YtohjlfhmnmcndaaGreat
/- The laws' rising. -/
namespace Go.Proofs.YtohjlfhmnmcndaaGreat
open Go.RowKit Go.Lib Go.Shelf

/-- Plans whose lists of kids are no longer than any can be. -/
inductive PlKs:Pl→Prop
 | mk (k n:Int) (x:Ex) (xs:List Ex) (gs:List Ag) (ks:List Pl) (hl:ks.length≤100000000000000) (hk:∀ p ∈ ks,PlKs p):PlKs (.mk k n x xs gs ks)
theorem PlKs.len {p:Pl} (h:PlKs p):p.ks.length≤100000000000000:=by cases h with | mk _ _ _ _ _ _ hl _=>exact hl
theorem PlKs.ks {p:Pl} (h:PlKs p):∀ q ∈ p.ks,PlKs q:=by cases h with | mk _ _ _ _ _ _ _ hk=>exact hk
def RisAt (p:Pl):Prop:=∀ (q:Pw) (w:World),PlKs p→PlB w.heap.size w p q→Calls Tryz.prog 19 #[plV p q] w fun e w'=>e = .returned (.bool (risB p))∧Below w.heap.size w w'
theorem riss_next {l:List Pl} {j:Nat} (h:j<l.length):rissB (l.drop j)=(risB l[j] && rissB (l.drop (j+1))):=by rw [List.drop_eq_getElem_cons h,rissB]
theorem riss_end {l:List Pl} {j:Nat} (h:l.length≤j):rissB (l.drop j)=true:=by rw [List.drop_eq_nil_of_le h,rissB]
theorem risB_eq (p:Pl):risB p=((p.k == 1 || p.k == 2 || p.k == 3 || p.k == 4 || p.k == 5 || p.k == 8 || p.k == 10 || p.k == 11) && rissB p.ks):=by cases p; rw [risB]; rfl

set_option maxRecDepth 100000 in
set_option maxHeartbeats 16000000 in
theorem rising_at (p:Pl) (ih:∀ r ∈ p.ks,RisAt r):RisAt p:=by
 rintro ⟨xa,xc,sa,sc,ga,gc,ka,kc⟩ w hlk hp
 have HLk:Hid (∀ r ∈ p.ks,PlKs r):=hlk.ks
 have hl2:=hlk.len
 clear hlk
 have hA:Below w.heap.size w (w.alloc (.cells #[.int .i64 p.k,.int .i64 p.n,.int .i64 p.x.k,.int .i64 p.x.v.1,.int .i64 p.x.v.2.1,.string p.x.v.2.2,.int .i64 p.x.c,.slice xa p.x.ks.length xc,.slice sa p.xs.length sc,.slice ga p.gs.length gc,.slice ka p.ks.length kc] 31)):=(Below.refl _ _).alloc (Nat.le_refl _) _
 have EL:=Elv.new w p ⟨xa,xc,sa,sc,ga,gc,ka,kc⟩ 31
 have IH:Hid (∀ r ∈ p.ks,RisAt r):=ih
 have HE:Hid (risB p=((p.k == 1 || p.k == 2 || p.k == 3 || p.k == 4 || p.k == 5 || p.k == 8 || p.k == 10 || p.k == 11) && rissB p.ks)):=risB_eq p
 generalize hr:risB p=r at HE ⊢
 have hks:PlAt w.heap.size w ka p.ks:=hp.ks
 clear hr ih hp
 obtain ⟨y0,y1,_,_,_,y10⟩:=EL
 simp only [Nat.zero_add] at y0 y1 y10
 unfold plV
 dsimp only
 go_enter Tryz.func19,Tryz.ntmps19
 go_upto_region 1 with fail
 generalize w.alloc (.cells #[.int .i64 p.k,.int .i64 p.n,.int .i64 p.x.k,.int .i64 p.x.v.1,.int .i64 p.x.v.2.1,.string p.x.v.2.2,.int .i64 p.x.c,.slice xa p.x.ks.length xc,.slice sa p.xs.length sc,.slice ga p.gs.length gc,.slice ka p.ks.length kc] 31)=wA at *
 by_cases hkk:(p.k == 1 || p.k == 2 || p.k == 3 || p.k == 4 || p.k == 5 || p.k == 8 || p.k == 10 || p.k == 11)=true
 rotate_left
 ·have hkk:(p.k == 1 || p.k == 2 || p.k == 3 || p.k == 4 || p.k == 5 || p.k == 8 || p.k == 10 || p.k == 11)=false:=by simpa using hkk
  have e:r=false:=by rw [HE.out,hkk]; rfl
  simp only [Bool.or_eq_false_iff] at hkk
  obtain ⟨⟨⟨⟨⟨⟨⟨h1,h2⟩,h3⟩,h4⟩,h5⟩,h8⟩,h10⟩,h11⟩:=hkk
  subst e
  clear HE
  go_wp2_with fail
  go_ret
  exact ⟨rfl,hA⟩
 have HR:Hid (r=rissB (p.ks.drop 0)):=by show _=_; rw [HE.out,hkk]; rfl
 have hc:((p.k == 1)=true)∨((p.k == 1)=false∧(p.k == 2)=true)∨((p.k == 1)=false∧(p.k == 2)=false∧(p.k == 3)=true)∨((p.k == 1)=false∧(p.k == 2)=false∧(p.k == 3)=false∧(p.k == 4)=true)∨((p.k == 1)=false∧(p.k == 2)=false∧(p.k == 3)=false∧(p.k == 4)=false∧(p.k == 5)=true)∨((p.k == 1)=false∧(p.k == 2)=false∧(p.k == 3)=false∧(p.k == 4)=false∧(p.k == 5)=false∧(p.k == 8)=true)∨((p.k == 1)=false∧(p.k == 2)=false∧(p.k == 3)=false∧(p.k == 4)=false∧(p.k == 5)=false∧(p.k == 8)=false∧(p.k == 10)=true)∨((p.k == 1)=false∧(p.k == 2)=false∧(p.k == 3)=false∧(p.k == 4)=false∧(p.k == 5)=false∧(p.k == 8)=false∧(p.k == 10)=false∧(p.k == 11)=true):=by
  revert hkk
  cases (p.k == 1) <;> cases (p.k == 2) <;> cases (p.k == 3) <;> cases (p.k == 4) <;> cases (p.k == 5) <;> cases (p.k == 8) <;> cases (p.k == 10) <;> cases (p.k == 11) <;> simp
 clear HE hkk
 rcases hc with h1 | ⟨h1,h2⟩ | ⟨h1,h2,h3⟩ | ⟨h1,h2,h3,h4⟩ | ⟨h1,h2,h3,h4,h5⟩ | ⟨h1,h2,h3,h4,h5,h8⟩ | ⟨h1,h2,h3,h4,h5,h8,h10⟩ | ⟨h1,h2,h3,h4,h5,h8,h10,h11⟩
 all_goals
  go_upto_region 12 with fail
  clear y0 y1 y10
  go_loopw [19] (fun i wr=>∃ j:Nat,j≤p.ks.length∧i = .int .i64 j∧Hid (r=rissB (p.ks.drop j))∧Below w.heap.size w wr) (fun i _=>p.ks.length - (intOf i).toNat)
  case atStart=>exact ⟨0,Nat.zero_le _,rfl,HR,hA⟩
  case round =>
   obtain ⟨j,hj,rfl,HT,hb⟩:=hrel
   clear HR hA
   by_cases hlt:j<p.ks.length
   ·obtain ⟨b,off,q1,rfl,hbl,E1,PB⟩:=(PlAt.next hb (Nat.le_refl _) hks).elem hlt
    obtain ⟨y0,y1,⟨y2,y3,y4,y5,y6,y7⟩,y8,y9,y10⟩:=E1
    have hjz:(j:Int)<(p.ks.length:Int):=by omega
    have hz:=hb.size
    have hal:Below wr.heap.size wr (wr.alloc (.cells #[.int .i64 p.ks[j].k,.int .i64 p.ks[j].n,.int .i64 p.ks[j].x.k,.int .i64 p.ks[j].x.v.1,.int .i64 p.ks[j].x.v.2.1,.string p.ks[j].x.v.2.2,.int .i64 p.ks[j].x.c,.slice q1.xa p.ks[j].x.ks.length q1.xc,.slice q1.sa p.ks[j].xs.length q1.sc,.slice q1.ga p.ks[j].gs.length q1.gc,.slice q1.ka p.ks[j].ks.length q1.kc] 31)):=(Below.refl _ _).alloc (Nat.le_refl _) _
    have EK:=Elv.new wr p.ks[j] q1 31
    have con:=IH.out p.ks[j] (List.getElem_mem hlt) q1 (wr.alloc (.cells #[.int .i64 p.ks[j].k,.int .i64 p.ks[j].n,.int .i64 p.ks[j].x.k,.int .i64 p.ks[j].x.v.1,.int .i64 p.ks[j].x.v.2.1,.string p.ks[j].x.v.2.2,.int .i64 p.ks[j].x.c,.slice q1.xa p.ks[j].x.ks.length q1.xc,.slice q1.sa p.ks[j].xs.length q1.sc,.slice q1.ga p.ks[j].gs.length q1.gc,.slice q1.ka p.ks[j].ks.length q1.kc] 31)) (HLk.out p.ks[j] (List.getElem_mem hlt)) (((PB.next hal hz).up hz).up hal.size)
    have HN:Hid (r=(risB p.ks[j] && rissB (p.ks.drop (j+1)))):=by show _=_; rw [HT.out,riss_next hlt]
    unfold plV at con
    clear HT PB
    go_upto_region 14 with fail
    clear y0 y1 y2 y3 y4 y5 y6 y7 y8 y9 y10
    generalize wr.alloc (.cells #[.int .i64 p.ks[j].k,.int .i64 p.ks[j].n,.int .i64 p.ks[j].x.k,.int .i64 p.ks[j].x.v.1,.int .i64 p.ks[j].x.v.2.1,.string p.ks[j].x.v.2.2,.int .i64 p.ks[j].x.c,.slice q1.xa p.ks[j].x.ks.length q1.xc,.slice q1.sa p.ks[j].xs.length q1.sc,.slice q1.ga p.ks[j].gs.length q1.gc,.slice q1.ka p.ks[j].ks.length q1.kc] 31)=wk at *
    obtain ⟨y0,y1,⟨y2,y3,y4,y5,y6,y7⟩,y8,y9,y10⟩:=EK
    simp only [Nat.zero_add] at y1 y2 y3 y4 y5 y6 y7 y8 y9 y10
    go_wp2_with fail
    refine con.mono ?_
    rintro e w5 ⟨rfl,hb5⟩
    clear con y0 y1 y2 y3 y4 y5 y6 y7 y8 y9 y10
    have hA5:=chain hb (chain hal hb5)
    generalize risB p.ks[j]=sb at *
    cases sb with
    | false =>
     have e:r=false:=by rw [HN.out]; rfl
     subst e
     clear HN
     go_wp2_with fail
     go_ret
     exact ⟨rfl,hA5⟩
    | true =>
     have HT':Hid (r=rissB (p.ks.drop (j+1))):=by show _=_; rw [HN.out]; rfl
     clear HN
     go_wp2_with fail
     go_roundw
     case rel=>exact ⟨j+1,by omega,by go_num,HT',hA5⟩
     case measure=>simp [intOf]; omega
   ·have e:r=true:=by rw [HT.out,riss_end (by omega)]
    have hjn:¬ (j:Int)<(p.ks.length:Int):=by omega
    subst e
    clear HT
    go_wp2_with fail
    go_ret
    exact ⟨rfl,hb⟩
theorem rising_all:∀ p,RisAt p:=Pl.ind fun kd n x xs gs ks ih=>rising_at (.mk kd n x xs gs ks) ih
end Go.Proofs.YtohjlfhmnmcndaaGreat
/- Opening plans whose lists of kids are asked for, and sets. -/
namespace Go.Proofs.YtohjlfhmnmcndaaGreat
open Go.ChangeShapes Go.WideShapes Go.ChangeAt Go.RowKit Go.Joins

theorem bytes_plan:8≤Tryz.prog.bytesOf 31:=by decide +kernel
theorem reach_is:reachBytes=140737488351232:=by decide
theorem Light.bytes {H:Type} {enc:TypeId × Value→H} {W:World} {hd:Bool} {t e:TypeId} {fuel n cap:Nat} {a:Option Addr} {x:DataW H × List MemPlace} (hu:Tryz.prog.underlying t=some (.slice e)) (hb:24≤Tryz.prog.bytesOf e)
  (h:DataW.trod enc Tryz.prog W 0 (fun _=>true) hd fuel t [.slice a n cap]=some x) (hl:Light t x.1):n*24≤140737488351232:=by
 rcases DataW.trod_slice hu h with ⟨hcs,_⟩ | ⟨a',len,cap',elems,rest,m,hm,hcs,rfl,_,_,_,hlen,_⟩
 ·simp at hcs
  omega
 ·simp at hcs
  obtain ⟨rfl,rfl,rfl⟩:=hcs
  have h1:=hl ((elems.length+rest.length)*Tryz.prog.bytesOf e) (by rw [DataW.weights,hu]; simp)
  have h2:=reach_is
  have h4:n*24≤(elems.length+rest.length)*Tryz.prog.bytesOf e:=Nat.mul_le_mul (by omega) hb
  omega
set_option maxRecDepth 100000 in
theorem open_data24 {H:Type} {enc:TypeId × Value→H} {W:World} {r:Reach} {b0:Nat} {v:Value} {d:DataW H} {p:List MemPlace}
  (hv:Value.okWide Tryz.prog W r b0 32 v) (h:DataW.Trod enc Tryz.prog W 0 (fun _=>true) true 32 v d p) (hL:Light 32 d):∃ (a:Option Addr) (cap:Nat) (l:List (List Zp)),v = .slice a l.length cap∧DtAt W a l∧l.length*24≤140737488351232:=by
 obtain ⟨a,cap,l,rfl,hd,_⟩:=open_data hv h hL
 obtain ⟨fuel,hf⟩:=h
 exact ⟨a,cap,l,rfl,hd,Light.bytes Tryz.underlying32 bytes_set hf hL⟩
def PlansOpK {H:Type} (enc:TypeId × Value→H) (W:World) (hd:Bool) (m:Nat):Prop :=
 ∀ cs x,DataW.trod enc Tryz.prog W 0 (fun _=>true) hd m 29 cs=some x→Light 29 x.1→∃ (a:Option Addr) (cap:Nat) (l:List Pl),cs = [.slice a l.length cap]∧PlAt W.heap.size W a l∧(∀ p ∈ l,PlOk p∧PlKs p)∧l.length≤100000000000000
set_option maxRecDepth 100000 in
theorem open_planK {H:Type} {enc:TypeId × Value→H} {W:World} {hd:Bool} {fuel:Nat} (ih:∀ m,m<fuel→PlansOpK enc W hd m) {cs:List Value} {x:DataW H × List MemPlace}
  (h:DataW.trod enc Tryz.prog W 0 (fun _=>true) hd fuel 31 cs=some x) (hL:Light 31 x.1):∃ (p:Pl) (q:Pw),cs=plO p q∧PlB W.heap.size W p q∧PlOk p∧PlKs p:=by
 obtain ⟨xs,n,hn,rfl,hl,hlen,hf⟩:=DataW.trod_struct Tryz.underlying31 h
 rw [qPlan] at hl
 match xs,hlen with
 | [y0,y1,y2,y3,y4,y5],_ =>
  have h0:=hf 0 _ rfl
  have h1:=hf 1 _ rfl
  have h2:=hf 2 _ rfl
  have h3:=hf 3 _ rfl
  have h4:=hf 4 _ rfl
  have h5:=hf 5 _ rfl
  have L3:=hL.part Tryz.underlying31 (j:=3) rfl rfl
  have L4:=hL.part Tryz.underlying31 (j:=4) rfl rfl
  have L5:=hL.part Tryz.underlying31 (j:=5) rfl rfl
  match cs,hl with
  | [c0,c1,c2,c3,c4,c5,c6,c7,c8,c9,c10],_ =>
   simp [q3,q27,qXs,qGs,qKs] at h0 h1 h2 h3 h4 h5
   obtain ⟨k,e0,_,_⟩:=DataW.trod_int Tryz.underlying3 h0
   obtain ⟨m,e1,_,hwf⟩:=DataW.trod_int Tryz.underlying3 h1
   obtain ⟨e,a2,cap2,e2,hk2⟩:=open_exprT (fun m _=>kidsOpen enc W hd m) h2
   obtain ⟨a3,cap3,l3,e3,hk3⟩:=kidsOpen enc W hd n _ _ h3
   obtain ⟨a4,cap4,l4,e4,hk4⟩:=open_aggsT h4
   obtain ⟨a5,cap5,l5,e5,hk5,hok5,hl5⟩:=ih n (by omega) _ _ h5 L5
   rw [e3] at h3
   rw [e4] at h4
   have b3:=Light.len Tryz.underlying25 bytes_expr h3 L3
   have b4:=Light.len Tryz.underlying28 bytes_agg h4 L4
   simp at e0 e1 e2 e3 e4 e5
   obtain ⟨r1,r2,r3,r4,r5,r6⟩:=e2
   subst e0 e1 r1 r2 r3 r4 r5 r6 e3 e4 e5
   exact ⟨.mk k m e l3 l4 l5,⟨a2,cap2,a3,cap3,a4,cap4,a5,cap5⟩,rfl,⟨hk2,hk3,hk4,hk5⟩,.mk _ _ _ _ _ _ (wf_i64 hwf) b3 b4 (fun p hp=>(hok5 p hp).1),.mk _ _ _ _ _ _ hl5 fun p hp=>(hok5 p hp).2⟩
set_option maxRecDepth 100000 in
theorem plansOpK {H:Type} (enc:TypeId × Value→H) (W:World) (hd:Bool) (fuel:Nat):PlansOpK enc W hd fuel:=by
 induction fuel using Nat.strongRecOn with
 | ind fuel ih =>
  intro cs x h hL
  have h':=h
  have hL':=hL
  rcases DataW.trod_slice Tryz.underlying29 h with ⟨hcs,_⟩ | ⟨a,len,cap,elems,rest,n,hn,hcs,rfl,_,_,_,hlen,hel,_,_⟩
  ·exact ⟨none,0,[],hcs,.nil _,(fun p hp=>by cases hp),by simp⟩
  ·rw [qPlan] at hel
   obtain ⟨f,hf⟩:=Go.Deep.choose_lt (α:=Pl × Pw) (n:=len) (p:=fun i (y:Pl × Pw) =>
     (∀ j (hj:j<(plO y.1 y.2).length),W.cell? ((a.add (i*11)).add j)=some (plO y.1 y.2)[j])∧PlB W.heap.size W y.1 y.2∧PlOk y.1∧PlKs y.1) (fun i hi=>by
    have key:=hel i hi
    rw [List.getElem?_eq_getElem (by omega)] at key
    obtain ⟨cs',h1,h2⟩:=Option.bind_eq_some_iff.1 key
    obtain ⟨_,hl6,hcell⟩:=World.cells?_some h1
    obtain ⟨p,q,rfl,hk,hok⟩:=open_planK (fun m hm=>ih m (by omega)) h2 (hL.elem Tryz.underlying29 (List.mem_map_of_mem (List.getElem_mem _)))
    exact ⟨(p,q),fun j hj=>(hcell j hj).trans (List.getElem?_eq_getElem hj),hk,hok⟩)
   refine ⟨some a,cap,(List.range len).map fun i=>(f i).1,by simpa using hcs,?_,?_,?_⟩
   ·by_cases h0:len=0
    ·subst h0; exact .nil _
    ·obtain ⟨b,off,spot⟩:=a
     have hc:=(hf 0 (by omega)).1 0 (by simp [plO])
     have hspot:spot=none:=by simpa [Addr.add] using World.cell?_spot hc
     subst hspot
     have key:∀ i,i<len→Elv W b (off+i*11) (f i).1 (f i).2:=fun i hi=>by
      have g:=(hf i hi).1
      simp only [addr_addX] at g
      exact ⟨g 0 (by simp [plO]),g 1 (by simp [plO]),⟨g 2 (by simp [plO]),g 3 (by simp [plO]),g 4 (by simp [plO]),g 5 (by simp [plO]),g 6 (by simp [plO]),g 7 (by simp [plO])⟩,g 8 (by simp [plO]),g 9 (by simp [plO]),g 10 (by simp [plO])⟩
     refine .some b off _ (fun i=>(f i).2) (World.block_lt_of_cell? W _ (by simpa [Addr.add] using hc)) ?_ ?_ ?_ ?_ ?_ <;> (intro i hi; have hi':i<len:=by simpa using hi) <;> simp only [List.getElem_map,List.getElem_range]
     ·exact key i hi'
     ·exact (hf i hi').2.1.x
     ·exact (hf i hi').2.1.xs
     ·exact (hf i hi').2.1.gs
     ·exact (hf i hi').2.1.ks
   ·intro p hp
    obtain ⟨i,hi,rfl⟩:=List.mem_map.1 hp
    exact (hf i (by simpa using hi)).2.2
   ·rw [hcs] at h'
    simpa using Light.len Tryz.underlying29 bytes_plan h' hL'
set_option maxRecDepth 100000 in
theorem open_planX {H:Type} {enc:TypeId × Value→H} {W:World} {r:Reach} {b0:Nat} {v:Value} {d:DataW H} {p:List MemPlace}
  (hv:Value.okWide Tryz.prog W r b0 31 v) (h:DataW.Trod enc Tryz.prog W 0 (fun _=>true) true 31 v d p) (hL:Light 31 d):∃ (e:Pl) (q:Pw),v=plV e q∧PlB W.heap.size W e q∧PlOk e∧PlKs e:=by
 obtain ⟨cs,rfl,_⟩:=okWide_struct Tryz.underlying31 hv
 obtain ⟨fuel,hf⟩:=h
 obtain ⟨e,q,he,hk⟩:=open_planK (fun m _=>plansOpK enc W true m) hf hL
 refine ⟨e,q,?_,hk⟩
 have e':cs.toList=plO e q:=by simpa [Value.cells] using he
 exact congrArg Value.agg (Array.toList_inj.mp e')
end Go.Proofs.YtohjlfhmnmcndaaGreat
/- A list of sets that grows; there of longer lists. -/
namespace Go.Proofs.YtohjlfhmnmcndaaGreat
open Go.RowKit Go.Lib Go.Shelf

set_option maxRecDepth 100000 in
set_option maxHeartbeats 4000000 in
theorem thereX_at (l:List (List Zp)) (a:Option Addr) (ac:Nat) (w:World) (h:DtAt w a l) (hz:l.length≤1000000000000000) :
  Calls Tryz.prog 13 #[.slice a l.length ac] w fun e w'=>e = .returned (.bool (theB l))∧Below w.heap.size w w':=by
 generalize hR:theB l=R
 have HR:Hid (R=theB (l.drop 0)):=hR.symm
 clear hR
 go_enter Tryz.func13,Tryz.ntmps13
 go_wp2_with fail
 go_loopw [9] (fun i wr=>∃ k:Nat,k≤l.length∧i = .int .i64 k∧Hid (R=theB (l.drop k))∧Below w.heap.size w wr) (fun i _=>l.length - (intOf i).toNat)
 case atStart=>exact ⟨0,Nat.zero_le _,rfl,HR,Below.refl _ _⟩
 case round =>
  clear HR
  obtain ⟨k,hk,rfl,HT,hb⟩:=hrel
  by_cases hlt:k<l.length
  rotate_left
  ·have e:R=true:=by rw [HT.out,the_end (by omega)]
   have hjn:¬ (k:Int)<(l.length:Int):=by omega
   subst e
   clear HT
   go_wp2_with fail
   go_ret
   exact ⟨rfl,hb⟩
  obtain ⟨bb,off,ak,ck,rfl,hbl,c0,zk,_⟩:=(h.next hb).elem hlt
  have i1:(k:Int)<(l.length:Int):=by omega
  have zl:l[k].length≤9223372036854775807:=by have:=zk.1; unfold maxLen at this; omega
  have HN:Hid (R=(theB1 (l[k].drop 0) && theB (l.drop (k+1)))):=by show _=_; rw [HT.out,the_next hlt]; rfl
  generalize l[k]=z at *
  clear HT
  go_wp2_with fail
  clear c0
  generalize hw0:wr=w0 at *
  have HW0:Hid (wr=w0):=hw0
  clear hw0
  go_loopw [15] (fun i ws=>∃ j:Nat,j≤z.length∧i = .int .i64 j∧Hid (R=(theB1 (z.drop j) && theB (l.drop (k+1))))∧Below w0.heap.size w0 ws) (fun i _=>z.length - (intOf i).toNat)
  case atStart=>exact ⟨0,Nat.zero_le _,rfl,HN,Below.refl _ _⟩
  case round =>
   clear HN
   obtain ⟨j,hj,rfl,HT,hb2⟩:=hrel
   have hA2:=chain hb hb2
   by_cases hlj:j<z.length
   rotate_left
   ·have HT':Hid (R=theB (l.drop (k+1))):=by show _=_; rw [HT.out,the1_end (by omega)]; rfl
    have hjn:¬ (j:Int)<(z.length:Int):=by omega
    clear HT
    go_wp2_with fail
    go_roundw
    case rel=>exact ⟨k+1,by omega,by go_num,HT',hA2⟩
    case measure=>simp [intOf]; omega
   obtain ⟨bb2,off2,rfl,hbl2,c1,ar,cr,c0,sr⟩:=(zk.next hb2).elem hlj
   have hal:Below wr.heap.size wr (wr.alloc (.cells #[.slice ar z[j].1.length cr,.int .i64 z[j].2] 58)):=(Below.refl _ _).alloc (Nat.le_refl _) _
   have q0:=heap_new wr #[.slice ar z[j].1.length cr,.int .i64 z[j].2] 58
   have i2:(j:Int)<(z.length:Int):=by omega
   have HN:Hid (R=(decide (1≤z[j].2) && theB1 (z.drop (j+1)) && theB (l.drop (k+1)))):=by show _=_; rw [HT.out,the1_next hlj]
   clear HT sr
   generalize z[j]=zj at *
   go_upto_region 7 with fail
   clear c0 c1
   generalize wr.alloc (.cells #[.slice ar zj.1.length cr,.int .i64 zj.2] 58)=wk at *
   have c0:=cell_of (i:=0) q0 rfl
   have c1:=cell_of (i:=1) q0 rfl
   clear q0
   by_cases h1:1≤zj.2
   ·have hb1:¬ zj.2<1:=by omega
    have HT':Hid (R=(theB1 (z.drop (j+1)) && theB (l.drop (k+1)))):=by show _=_; rw [HN.out,decide_eq_true h1]; rfl
    clear HN
    go_wp2_with fail
    go_roundw
    case rel=>exact ⟨j+1,by omega,by go_num,HT',chain hb2 hal⟩
    case measure=>simp [intOf]; omega
   ·have hb1:zj.2<1:=by omega
    have e:R=false:=by rw [HN.out,decide_eq_false h1]; rfl
    subst e
    clear HN
    go_wp2_with fail
    go_ret
    exact ⟨rfl,chain hA2 hal⟩

theorem addr_zero (g i:Nat):(⟨g,0,none⟩:Addr).add i=⟨g,i,none⟩:=by
 unfold Addr.add
 by_cases h:i=0 <;> simp [h]
/-- All blocks of values and of rows are as they were. -/
structure KeepT (W W':World):Prop where
 size:W.heap.size≤W'.heap.size
 keep:∀ (k:Nat) (c:Array Value) (T:TypeId) (y:Nat × Nat),W.heap[k]? = some (.cells c T y)→(T=24∨T=58)→W'.heap[k]? = W.heap[k]?
theorem KeepT.of {W W':World} (h:Below W.heap.size W W'):KeepT W W':=⟨h.size,fun k _ _ _ hq _=>h.block k (lt_of_heap hq)⟩
theorem KeepT.own {W W':World} {base e size n:Nat} {v:Value} {xs:List Value} (h:W.ownsRow base e size v n xs) (h1:e≠24) (h2:e≠58) (hg:W.grownBy W' v.ownBlock):KeepT W W' :=
 ⟨hg.size,fun k x T y hk hT=>hg.block k (lt_of_heap hk) (by
  obtain ⟨_,⟨rfl,_⟩ | ⟨g,cap,cur,rfl,_,hh,_⟩⟩:=h
  ·simp [Value.ownBlock]
  ·simp only [Value.ownBlock]
   intro e'
   injection e' with e'
   subst e'
   rw [hh] at hk
   have:=Option.some.inj hk
   injection this with _ e2
   subst e2
   rcases hT with e | e
   ·exact h1 e
   ·exact h2 e)⟩
theorem sl_keep {W w1:World} (hk:KeepT W w1) {a:Option Addr} {r:List Vl} (h:SlAt W a r) (ht:TyAt W a):SlAt w1 a r∧TyAt w1 a:=by
 have key:∀ b off,a=some ⟨b,off,none⟩→w1.heap[b]? = W.heap[b]?:=by
  intro b off e
  obtain ⟨c',z,h1⟩:=ht b off e
  exact hk.keep b _ _ _ h1 (.inl rfl)
 refine ⟨⟨h.1,?_⟩,?_⟩
 ·rcases h.2 with h | ⟨b,off,e,hr,hlt⟩
  ·exact .inl h
  ·refine .inr ⟨b,off,e,fun i hi=>?_,Nat.lt_of_lt_of_le hlt hk.size⟩
   have k:=key b off e
   obtain ⟨c0,c1,c2⟩:=hr i hi
   exact ⟨(World.cell?_of_block (a:=⟨b,_,none⟩) k).trans c0,(World.cell?_of_block (a:=⟨b,_,none⟩) k).trans c1,(World.cell?_of_block (a:=⟨b,_,none⟩) k).trans c2⟩
 ·intro b off e
  obtain ⟨c',z,h1⟩:=ht b off e
  exact ⟨c',z,(key b off e).trans h1⟩
theorem OwnZ.keep {W w1:World} {base:Nat} {v:Value} {l:List Zp} (h:OwnZ base W v l) (hk:KeepT W w1):OwnZ base w1 v l:=by
 obtain ⟨xs,⟨h0,h1⟩,h2,h3⟩:=h
 refine ⟨xs,⟨h0,?_⟩,h2,fun i hi=>?_⟩
 ·rcases h1 with h1 | ⟨g,cap,cur,e1,e2,e3,e4⟩
  ·exact .inl h1
  ·exact .inr ⟨g,cap,cur,e1,e2,(hk.keep g _ _ _ e3 (.inr rfl)).trans e3,e4⟩
 ·obtain ⟨a,cap,e0,e1,e2,e3⟩:=h3 i hi
  have:=sl_keep hk e2 e3
  exact ⟨a,cap,e0,e1,this.1,this.2⟩
/-- A list of sets of one's own. -/
def OwnL (base:Nat) (W:World) (v:Value) (zs:List (List Zp)):Prop:=∃ cs,W.ownsRow base 34 1 v zs.length cs∧∀ (i:Nat) (h:i<zs.length),∃ u,cs[i]? = some u∧OwnZ 0 W u zs[i]
theorem OwnL.nil (base:Nat) (W:World):OwnL base W (.slice none 0 0) []:=⟨[],World.ownsRow_nil _ _ _ _,fun i hi=>by cases hi⟩
theorem OwnL.next {base:Nat} {W w1:World} {v:Value} {zs:List (List Zp)} (h:OwnL base W v zs) (hb:Below W.heap.size W w1):OwnL base w1 v zs:=by
 obtain ⟨cs,h1,h2⟩:=h
 refine ⟨cs,h1.kept (row:=none) ⟨hb.os,hb.tape,hb.output,hb.size,fun k hk _=>hb.block k hk⟩ (by cases v.ownBlock <;> simp),fun i hi=>?_⟩
 obtain ⟨u,e,o⟩:=h2 i hi
 exact ⟨u,e,o.next hb⟩
theorem OwnL.dt {base:Nat} {W:World} {v:Value} {zs:List (List Zp)} (h:OwnL base W v zs):∃ a c,v = .slice a zs.length c∧DtAt W a zs∧(a=none→c=0):=by
 obtain ⟨cs,h1,h2⟩:=h
 have h1':=h1
 obtain ⟨hx,⟨rfl,h0⟩ | ⟨g,cap,cur,rfl,hg,hh,hn,hc,hs,ht⟩⟩:=h1
 ·have:zs = []:=List.eq_nil_of_length_eq_zero h0
  subst this
  exact ⟨none,0,rfl,.inl rfl,fun _=>rfl⟩
 ·refine ⟨_,cap,rfl,?_,fun h=>by cases h⟩
  by_cases hz:zs = []
  ·exact .inl hz
  ·have key:∀ (i:Nat) (h:i<zs.length),∃ y:Option Addr × Nat,W.cell? ⟨g,0+i,none⟩=some (.slice y.1 zs[i].length y.2)∧ZsAt W y.1 zs[i]∧(y.1=none→y.2=0):=fun i hi=>by
    obtain ⟨u,e,o⟩:=h2 i hi
    obtain ⟨a,c,rfl,z,n⟩:=o.zs2
    have:=World.ownsRow.cells h1' (g:=g) rfl i _ e
    exact ⟨(a,c),by rw [addr_zero] at this; rw [Nat.zero_add]; exact this,z,n⟩
   refine .inr ⟨g,0,fun i=>if h:i<zs.length then (Classical.choose (key i h)).1 else none,fun i=>if h:i<zs.length then (Classical.choose (key i h)).2 else 0,rfl,lt_of_heap hh,fun i hi=>?_⟩
   simp only [dif_pos hi]
   exact Classical.choose_spec (key i hi)
theorem OwnL.push {base:Nat} {W W1:World} {v v' u:Value} {zs:List (List Zp)} {z:List Zp} {cs:List Value} (h0:W.ownsRow base 34 1 v zs.length cs) (h2:∀ (i:Nat) (h:i<zs.length),∃ u,cs[i]? = some u∧OwnZ 0 W u zs[i]) (hz:OwnZ 0 W u z)
  (ho:W1.ownsRow base 34 1 v' (zs.length+1) (cs ++ [u])) (hg:W.grownBy W1 v.ownBlock):OwnL base W1 v' (zs ++ [z]):=by
 have hk:=KeepT.own h0 (by decide) (by decide) hg
 have hcl:cs.length=zs.length:=by have:=h0.1; omega
 refine ⟨cs ++ [u],by rw [List.length_append]; exact ho,fun i hi=>?_⟩
 by_cases e:i<zs.length
 ·obtain ⟨u',e1,o1⟩:=h2 i e
  rw [List.getElem_append_left e]
  exact ⟨u',by rw [List.getElem?_append_left (by omega)]; exact e1,o1.keep hk⟩
 ·have e:i=zs.length:=by simp at hi; omega
  subst e
  exact ⟨u,by rw [List.getElem?_append_right (by omega)]; simp [hcl],by simpa using hz.keep hk⟩


end Go.Proofs.YtohjlfhmnmcndaaGreat
