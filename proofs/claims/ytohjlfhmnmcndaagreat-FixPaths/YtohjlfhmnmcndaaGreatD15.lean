/- Together: EX, EY, EP, EQ, ER, ES, EH, EV, QA. -/
import Derived.Maps.AppendAt
import Derived.Deep.MidRow
import Derived.Test.YtohjlfhmnmcndaaGreatD14
import Derived.Test.YtohjlfhmnmcndaaGreatD12
/- A region that draws its order, by FACTS that may hang on what is done; each operation may change what the facts of others do not speak of. -/
namespace Go.Proofs.YtohjlfhmnmcndaaGreat
open Go.RowKit

section
variable {P:Program} {ops:Array Oper} {Q:Exit→Act→World→Prop} {md:Region.Mode} {C:World→Prop} {Φ:(Nat→Bool)→Nat→World→Value→Prop} {G:Nat→Act→World→World→Prop}

def doneAt (d:Nat→Bool) (i:Nat):Nat→Bool:=fun k=>if k=i then true else d k
def FactD (ops:Array Oper) (Φ:(Nat→Bool)→Nat→World→Value→Prop) (d:Nat→Bool) (i:Nat) (a:Act) (w:World):Prop :=
 ∀ o t,ops[i]? = some o→o.dst=some t→Φ d i w (a.tmps.getD t undef)
def StepD (P:Program) (md:Region.Mode) (ops:Array Oper) (Q:Exit→Act→World→Prop) (C:World→Prop) (Φ:(Nat→Bool)→Nat→World→Value→Prop) (G:Nat→Act→World→World→Prop) (a0:Act) (i:Nat) (o:Oper):Prop :=
 ∀ d a w,C w→Same ops a0 a→d i=false→(∀ k o',ops[k]? = some o'→d k=true→∀ e ∈ o'.after,Region.binds md e=true→d e.on=true)→(∀ e ∈ o.after,Region.binds md e=true→d e.on=true∧FactD ops Φ d e.on a w) →
  wpOp P ops Q i (fun a' w'=>∃ v,a'=a.put o.dst v∧C w'∧G i a w w'∧Φ (doneAt d i) i w' v) a w
def StepsD (P:Program) (md:Region.Mode) (ops:Array Oper) (Q:Exit→Act→World→Prop) (C:World→Prop) (Φ:(Nat→Bool)→Nat→World→Value→Prop) (G:Nat→Act→World→World→Prop) (a0:Act):Nat→List Oper→Prop
 | _,[]=>True
 | i,o :: os=>StepD P md ops Q C Φ G a0 i o∧StepsD P md ops Q C Φ G a0 (i+1) os
theorem StepsD.get {a0:Act}:∀ {l:List Oper} {k:Nat},StepsD P md ops Q C Φ G a0 k l→∀ {i:Nat} {o:Oper},l[i]? = some o→StepD P md ops Q C Φ G a0 (k+i) o
 | [],_,_,i,o,h=>by simp at h
 | o' :: l,k,H,0,o,h=>by simp at h; subst h; exact H.1
 | o' :: l,k,H,i+1,o,h=>by
  have:=StepsD.get H.2 (i:=i) (by simpa using h)
  rw [show k+1+i=k+(i+1) by omega] at this
  exact this

theorem wpAny_done (hΦ:∀ d a i j w w' v,j≠i→d i=false→(∀ o t,ops[j]? = some o→o.dst=some t→v=a.tmps.getD t undef)→Φ d j w v→G i a w w'→Φ (doneAt d i) j w' v) {a0:Act}
  (ht:tidy md ops a0.tmps.size=true) (step:StepsD P md ops Q C Φ G a0 0 ops.toList)
  (fin:∀ d a w,C w→Same ops a0 a→(∀ i<ops.size,d i=true)→(∀ i<ops.size,FactD ops Φ d i a w)→Q .normal a w) :
  ∀ (fuel:Nat) (listed:Array Bool) (a:Act) (w:World),listed.size=ops.size→listed.toList.count false=fuel→Closed md ops listed→C w→Same ops a0 a →
   (∀ i,listed.getD i false=true→FactD ops Φ (fun k=>listed.getD k false) i a w)→wpAny P md ops Q fuel listed a w:=by
 intro fuel
 induction fuel with
 | zero =>
  intro listed a w hs hn hcl hc hsm hf;have hall:∀ j<ops.size,listed.getD j false=true:=fun j hj=>by
   have hlt:j<listed.size:=by omega
   rw [getD_lt hlt];cases hb:listed[j] with
   | true=>rfl
   | false =>
    exfalso;rw [List.count_eq_zero] at hn;apply hn;rw [← hb];simp
  refine ⟨?_,fin _ a w hc hsm hall fun i hi=>hf i (hall i hi)⟩;cases h:Region.ready md ops listed with
  | nil=>rfl
  | cons i l =>
   exfalso;have hm:i ∈ Region.ready md ops listed:=by rw [h]; simp
   obtain ⟨h1,o,ho,_⟩:=mem_ready.1 hm;have hlt:=(Array.getElem?_eq_some_iff.1 ho).1;have h2:=hall i hlt;rw [getD_lt (by omega)] at h1 h2;rw [h1] at h2;cases h2
 | succ fuel ih =>
  intro listed a w hs hn hcl hc hsm hf;refine ⟨fun hr=>?_,fun i hi=>?_⟩
  ·exfalso;have hall:∀ j,j<ops.size→listed.getD j false=true:=by
    intro j
    induction j using Nat.strongRecOn with
    | ind j ihj =>
     intro hj;cases hb:listed.getD j false with
     | true=>rfl
     | false =>
      exfalso;have ho:ops[j]? = some ops[j]:=Array.getElem?_eq_getElem hj;have:j ∈ Region.ready md ops listed:=mem_ready.2 ⟨by rw [getD_lt (by omega)] at hb ⊢; exact hb,ops[j],ho,fun e he hb=>by
       have:=(tidy_spec ht ho).1 e he hb;exact ihj _ this (by omega)⟩
      rw [hr] at this;cases this
   have:listed.toList.count false=0:=by
    rw [List.count_eq_zero];intro hm;obtain ⟨j,hj,e⟩:=List.getElem_of_mem hm;have hj':j<listed.size:=by simpa using hj
    have h1:=hall j (by omega);rw [getD_lt hj'] at h1;simp at e;rw [e] at h1;cases h1
   omega
  obtain ⟨h1,o,ho,hdep⟩:=mem_ready.1 hi;have hlt:i<listed.size:=by rw [hs]; exact (Array.getElem?_eq_some_iff.1 ho).1
  have hget:listed[i]=false:=by rw [getD_lt hlt] at h1; exact h1
  have hgf:listed.getD i false=false:=by rw [getD_lt hlt]; exact hget
  have st:=step.get (i:=i) (o:=o) (by simpa using ho);rw [Nat.zero_add] at st;refine wpOp_mono ?_ (st (fun k=>listed.getD k false) a w hc hsm hgf (fun k o' hk hd=>hcl k o' hk hd) fun e he hb=>⟨hdep e he hb,hf _ (hdep e he hb)⟩);rintro a' w' ⟨v,rfl,hc',hg,hv⟩;have ed:(fun k=>(listed.setIfInBounds i true).getD k false)=doneAt (fun k=>listed.getD k false) i:=by
   funext k
   unfold doneAt;by_cases hk:k=i
   ·subst hk;rw [if_pos rfl,getD_lt (by simpa using hlt)];simp
   ·rw [if_neg hk,getD_set_ne false (Ne.symm hk)]
  refine ih _ _ _ (by simpa using hs) ?_ ?_ hc' (put_same ho hsm) ?_
  ·rw [Array.toList_setIfInBounds,List.count_set (by simpa using hlt)];have hpos:0<listed.toList.count false:=List.count_pos_iff.2 (by rw [← hget]; simp);have e1:(listed.toList[i]'(by simpa using hlt) == false)=true:=by simp [hget]
   rw [if_pos e1,if_neg (by simp)];omega
  ·have up:∀ j,listed.getD j false=true→(listed.setIfInBounds i true).getD j false=true:=fun j hj=>by
    have h9:(listed.setIfInBounds i true).getD j false=doneAt (fun k=>listed.getD k false) i j:=congrFun ed j;rw [h9];unfold doneAt
    split
    ·rfl
    ·exact hj
   intro j oj hoj hj e he hbd;by_cases hji:i=j
   ·subst hji;rw [ho] at hoj;cases hoj;exact up _ (hdep e he hbd)
   ·rw [getD_set_ne false hji] at hj;exact up _ (hcl j oj hoj hj e he hbd)
  ·intro j hj o' t hoj ht';rw [ed];by_cases hji:j=i
   ·subst hji;rw [ho] at hoj;cases hoj;have hd1:=(tidy_spec ht ho).2 t ht';have:t<a.tmps.size:=by rw [hsm.size]; exact hd1.1
    simpa [Act.put,ht',Array.getD,this] using hv
   ·have hj':listed.getD j false=true:=by rwa [getD_set_ne false (Ne.symm hji)] at hj
    have hold:=hΦ _ a i j _ _ _ hji hgf (fun o2 t2 h2 h3=>by
     rw [hoj] at h2;cases h2;rw [ht'] at h3;cases h3;rfl) (hf j hj' o' t hoj ht') hg
    have hne:o.dst≠some t:=((tidy_spec ht hoj).2 t ht').2 i o ho (Ne.symm hji);unfold Act.put;cases hod:o.dst with
    | none=>exact hold
    | some t' =>
     have hdd:t'≠t:=fun e=>hne (by rw [hod,e])
     simpa [Array.getD_eq_getD_getElem?,Array.getElem?_setIfInBounds_ne hdd] using hold
theorem wp_region_done {id:Nat} {a:Act} {w:World} (hm:P.follows .mixedOrders=true) (C:World→Prop) (Φ:(Nat→Bool)→Nat→World→Value→Prop) (G:Nat→Act→World→World→Prop)
  (hΦ:∀ d a i j w w' v,j≠i→d i=false→(∀ o t,ops[j]? = some o→o.dst=some t→v=a.tmps.getD t undef)→Φ d j w v→G i a w w'→Φ (doneAt d i) j w' v)
  (ht:tidy .any ops a.tmps.size=true) (hc:C w.drew) (step:StepsD P .any ops Q C Φ G a 0 ops.toList)
  (fin:∀ d a' w',C w'→Same ops a a'→(∀ i<ops.size,d i=true)→(∀ i<ops.size,FactD ops Φ d i a' w')→Q .normal a' w'):(Code.region id ops true).wp P Q a w :=
 wp_region_any hm (wpAny_done hΦ ht step fin _ _ _ _ (by simp) (by simp) (fun i o _ h=>by simp [Array.getD] at h) hc ⟨rfl,rfl,fun _ _=>rfl⟩ (fun i h=>by simp [Array.getD] at h))
end
end Go.Proofs.YtohjlfhmnmcndaaGreat
namespace Go.Proofs.YtohjlfhmnmcndaaGreat
open Go.RowKit Go.Lib Go.Shelf

def ClD (ops:Array Oper) (d:Nat→Bool):Prop:=∀ k o',ops[k]? = some o'→d k=true→∀ e ∈ o'.after,Region.binds .any e=true→d e.on=true
def DepsD (ops:Array Oper) (Φ:(Nat→Bool)→Nat→World→Value→Prop) (d:Nat→Bool) (o:Oper) (a:Act) (w:World):Prop:=∀ e ∈ o.after,Region.binds .any e=true→d e.on=true∧FactD ops Φ d e.on a w
/-- o stands behind operation j, which leaves temporary t. -/
def atD (ops:Array Oper) (o:Oper) (j t:Nat):Bool:=(o.after.any fun e=>Region.binds .any e && e.on == j) && ((ops[j]?).bind (·.dst) == some t)
section
variable {ops:Array Oper} {Q:Exit→Act→World→Prop} {C:World→Prop} {Φ:(Nat→Bool)→Nat→World→Value→Prop} {G:Nat→Act→World→World→Prop} {a0:Act} {i:Nat} {o:Oper}
theorem knownE {d:Nat→Bool} {a:Act} {w:World} {j t:Nat} (hf:DepsD ops Φ d o a w) (h:atD ops o j t=true):d j=true∧Φ d j w (a.tmps.getD t undef):=by
 unfold atD at h;rw [Bool.and_eq_true,Array.any_eq_true] at h;obtain ⟨⟨n,hn,h1⟩,h2⟩:=h;have he:=Array.getElem_mem hn;generalize o.after[n]=e at he h1;rw [Bool.and_eq_true,beq_iff_eq] at h1;obtain ⟨h1,rfl⟩:=h1;rw [beq_iff_eq] at h2;obtain ⟨oj,hj,hd⟩:=Option.bind_eq_some_iff.1 h2;exact ⟨(hf e he h1).1,(hf e he h1).2 oj t hj hd⟩
theorem knownD {d:Nat→Bool} {a:Act} {w:World} {j t:Nat} (hf:DepsD ops Φ d o a w) (h:atD ops o j t=true):Φ d j w (a.tmps.getD t undef):=(knownE hf h).2
/-- What stands behind something that is not done is not done. -/
theorem ClD.not {d:Nat→Bool} (h:ClD ops d) {i k:Nat} (hi:d i=false) {o':Oper} (hk:ops[k]? = some o') (ha:(o'.after.any fun e=>Region.binds .any e && e.on == i)=true):d k=false:=by
 cases hd:d k with
 | false=>rfl
 | true =>
  exfalso;rw [Array.any_eq_true] at ha;obtain ⟨n,hn,h1⟩:=ha;have he:=Array.getElem_mem hn;generalize o'.after[n]=e at he h1;rw [Bool.and_eq_true,beq_iff_eq] at h1;obtain ⟨h1,rfl⟩:=h1;have:=h k o' hk hd e he h1;rw [hi] at this;cases this
theorem sd_value (ho:ops[i]? = some o) (hg:o.guard=none)
  (run:∀ d a w,C w→Same ops a0 a→d i=false→ClD ops d→DepsD ops Φ d o a w→∃ v w',(execOp a.eval o).run Tryz.prog w = .ok (.value v) w'∧C w'∧G i a w w'∧Φ (doneAt d i) i w' v) :
  StepD Tryz.prog .any ops Q C Φ G a0 i o:=fun d a w hc hs hd hcl hf=>by
 obtain ⟨v,w',e,hc',hb,hv⟩:=run d a w hc hs hd hcl hf
 unfold wpOp
 rw [ho]
 show if Region.wanted o (yielded ops a.tmps) then _ else _
 rw [if_pos (by unfold Region.wanted; rw [hg])]
 left
 unfold Oper.wp
 rw [e]
 exact ⟨v,rfl,hc',hb,hv⟩
theorem sd_enter (ho:ops[i]? = some o) (hg:o.guard=none)
  (run:∀ d a w,C w→Same ops a0 a→d i=false→ClD ops d→DepsD ops Φ d o a w→∃ f args,(execOp a.eval o).run Tryz.prog w = .ok (.enter f args) w∧Calls Tryz.prog f args w fun e w'=>∃ v,e = .returned v∧C w'∧G i a w w'∧Φ (doneAt d i) i w' v) :
  StepD Tryz.prog .any ops Q C Φ G a0 i o:=fun d a w hc hs hd hcl hf=>by
 obtain ⟨f,args,e,hcall⟩:=run d a w hc hs hd hcl hf
 unfold wpOp
 rw [ho]
 show if Region.wanted o (yielded ops a.tmps) then _ else _
 rw [if_pos (by unfold Region.wanted; rw [hg])]
 left
 unfold Oper.wp
 rw [e]
 exact hcall.mono fun e w' ⟨v,he,hc',hb,hv⟩=>by subst he; exact ⟨v,rfl,hc',hb,hv⟩
end
def regs:Code→List (Array Oper)
 | .region _ ops _=>[ops]
 | .seq a b=>regs a ++ regs b
 | .cond _ a b=>regs a ++ regs b
 | _=>[]
def opsN (f:Func) (n:Nat):Array Oper:=(regs (f.body.getD .skip)).getD n #[]

theorem setCells_X (b:Nat):∀ (vs:List Value) (o:Nat) (w:World),BelowX b w (w.setCells b o vs)
 | [],_,w=>BelowX.refl b w
 | v :: vs,o,w=>((BelowX.refl b w).set o v).trans (setCells_X b vs (o+1) _)
theorem there_at_ {w:World} {b:Nat} {cs:Array Value} {T:TypeId} (h:w.heap[b]? = some (.cells cs T (0,0))):w.there b 0 cs.size:=fun j hj=>by
 rw [Nat.zero_add]
 refine ⟨?_,by simp [World.frozen?,h]⟩
 rw [cell_of (i:=j) (v:=cs[j]) h (by simp [hj])]
 rfl
theorem wpOp_one {P:Program} {ops:Array Oper} {Q:Exit→Act→World→Prop} {i:Nat} {o:Oper} {K:Act→World→Prop} {a:Act} {w:World} (ho:ops[i]? = some o) (hg:o.guard=none) (h:o.wp P a w K Q):wpOp P ops Q i K a w:=by
 unfold wpOp;rw [ho];show if Region.wanted o (yielded ops a.tmps) then _ else _
 rw [if_pos (by unfold Region.wanted; rw [hg])];exact .inl h
abbrev colA (k:Int):Array Value:=#[.int .i64 2,.int .i64 0,.int .i64 0,.string ⟨#[]⟩,.int .i64 k,.slice none 0 0]
abbrev twoA (j k:Int):Array Value:=#[.int .i64 2,.int .i64 0,.int .i64 0,.string ⟨#[]⟩,.int .i64 j,.slice none 0 0,.int .i64 2,.int .i64 0,.int .i64 0,.string ⟨#[]⟩,.int .i64 k,.slice none 0 0]
abbrev zPl:Array Value:=#[.int .i64 0,.int .i64 0,.int .i64 0,.int .i64 0,.int .i64 0,.string ⟨#[]⟩,.int .i64 0,.slice none 0 0,.slice none 0 0,.slice none 0 0,.slice none 0 0]
abbrev kidA:Array Value:=#[.int .i64 1,.int .i64 1,.int .i64 0,.int .i64 0,.int .i64 0,.string ⟨#[]⟩,.int .i64 0,.slice none 0 0,.slice none 0 0,.slice none 0 0,.slice none 0 0,.int .i64 1,.int .i64 0,.int .i64 0,.int .i64 0,.int .i64 0,.string ⟨#[]⟩,.int .i64 0,.slice none 0 0,.slice none 0 0,.slice none 0 0,.slice none 0 0]
def colX (k:Int):Ex:=.mk 2 vl0 k []
def eqX:Ex:=.mk 6 vl0 0 [colX 1,colX 2]
def joiP:Pl:=.mk 4 0 eqX [] [] [tabP 1,tabP 0]
def stpP:Pl:=.mk 3 0 ex0 [colX 0,colX 3] [] [joiP]
def jq (s c:Nat):Pw:=⟨some ⟨s,0,none⟩,2,none,0,none,0,some ⟨c,0,none⟩,2⟩
def sq (s c:Nat):Pw:=⟨none,0,some ⟨s,0,none⟩,2,none,0,some ⟨c,0,none⟩,1⟩
theorem joiV (s c:Nat):plV joiP (jq s c) = .agg #[.int .i64 4,.int .i64 0,.int .i64 6,.int .i64 0,.int .i64 0,.string ⟨#[]⟩,.int .i64 0,.slice (some ⟨s,0,none⟩) 2 2,.slice none 0 0,.slice none 0 0,.slice (some ⟨c,0,none⟩) 2 2]:=rfl
theorem stpV (s c:Nat):plV stpP (sq s c) = .agg #[.int .i64 3,.int .i64 0,.int .i64 0,.int .i64 0,.int .i64 0,.string ⟨#[]⟩,.int .i64 0,.slice none 0 0,.slice (some ⟨s,0,none⟩) 2 2,.slice none 0 0,.slice (some ⟨c,0,none⟩) 1 1]:=rfl
theorem ks2_at {W:World} {s:Nat} {j k:Int} (h:W.heap[s]? = some (.cells (twoA j k) 27 (0,0))):KsAt W.heap.size W (some ⟨s,0,none⟩) [colX j,colX k] :=
 .some s 0 [colX j,colX k] (fun _=>none) (fun _=>0) (lt_of_heap h) (fun i hi=>by
  match i,hi with
  | 0,_=>exact ⟨cell_of (i:=0) h rfl,cell_of (i:=1) h rfl,cell_of (i:=2) h rfl,cell_of (i:=3) h rfl,cell_of (i:=4) h rfl,cell_of (i:=5) h rfl⟩
  | 1,_=>exact ⟨cell_of (i:=6) h rfl,cell_of (i:=7) h rfl,cell_of (i:=8) h rfl,cell_of (i:=9) h rfl,cell_of (i:=10) h rfl,cell_of (i:=11) h rfl⟩) (fun i hi=>by
  match i,hi with
  | 0,_=>exact .nil _
  | 1,_=>exact .nil _)
theorem join_plx {W:World} {s c:Nat} (h:W.heap[s]? = some (.cells (twoA 1 2) 27 (0,0))) (h2:W.heap[c]? = some (.cells kidA 31 (0,0))):PlX W joiP (jq s c) :=
 ⟨ks2_at h,.nil _,.inl rfl,.some c 0 [tabP 1,tabP 0] (fun _=>pw0) (lt_of_heap h2) (fun i hi=>by
  match i,hi with
  | 0,_=>exact ⟨cell_of (i:=0) h2 rfl,cell_of (i:=1) h2 rfl,⟨cell_of (i:=2) h2 rfl,cell_of (i:=3) h2 rfl,cell_of (i:=4) h2 rfl,cell_of (i:=5) h2 rfl,cell_of (i:=6) h2 rfl,cell_of (i:=7) h2 rfl⟩,cell_of (i:=8) h2 rfl,cell_of (i:=9) h2 rfl,cell_of (i:=10) h2 rfl⟩
  | 1,_=>exact ⟨cell_of (i:=11) h2 rfl,cell_of (i:=12) h2 rfl,⟨cell_of (i:=13) h2 rfl,cell_of (i:=14) h2 rfl,cell_of (i:=15) h2 rfl,cell_of (i:=16) h2 rfl,cell_of (i:=17) h2 rfl,cell_of (i:=18) h2 rfl⟩,cell_of (i:=19) h2 rfl,cell_of (i:=20) h2 rfl,cell_of (i:=21) h2 rfl⟩) (fun i hi=>by
  match i,hi with
  | 0,_=>exact .nil _
  | 1,_=>exact .nil _) (fun i hi=>by
  match i,hi with
  | 0,_=>exact .nil _
  | 1,_=>exact .nil _) (fun i hi=>by
  match i,hi with
  | 0,_=>exact .inl rfl
  | 1,_=>exact .inl rfl) (fun i hi=>by
  match i,hi with
  | 0,_=>exact .nil _
  | 1,_=>exact .nil _)⟩
theorem step_plx {W:World} {s c s3 c3:Nat} (h:W.heap[s]? = some (.cells (twoA 0 3) 27 (0,0))) (h2:W.heap[c]? = some (.cells (plA joiP (jq s3 c3)) 31 (0,0))) (hj:PlX W joiP (jq s3 c3)):PlX W stpP (sq s c) :=
 ⟨.nil _,ks2_at h,.inl rfl,.some c 0 [joiP] (fun _=>jq s3 c3) (lt_of_heap h2) (fun i hi=>by
  match i,hi with
  | 0,_=>exact ⟨cell_of (i:=0) h2 rfl,cell_of (i:=1) h2 rfl,⟨cell_of (i:=2) h2 rfl,cell_of (i:=3) h2 rfl,cell_of (i:=4) h2 rfl,cell_of (i:=5) h2 rfl,cell_of (i:=6) h2 rfl,cell_of (i:=7) h2 rfl⟩,cell_of (i:=8) h2 rfl,cell_of (i:=9) h2 rfl,cell_of (i:=10) h2 rfl⟩) (fun i hi=>by
  match i,hi with
  | 0,_=>exact hj.x) (fun i hi=>by
  match i,hi with
  | 0,_=>exact hj.xs) (fun i hi=>by
  match i,hi with
  | 0,_=>exact hj.gs) (fun i hi=>by
  match i,hi with
  | 0,_=>exact hj.ks)⟩
theorem el_range {W:World} {b:Nat} {p:Pl} {q:Pw} (h:W.rangeAt b 0 (plA p q).toList):ElX W b p q :=
 ⟨⟨h 0 _ rfl,h 1 _ rfl,⟨h 2 _ rfl,h 3 _ rfl,h 4 _ rfl,h 5 _ rfl,h 6 _ rfl,h 7 _ rfl⟩,h 8 _ rfl,h 9 _ rfl,h 10 _ rfl⟩,World.block_lt_of_cell? _ _ (h 0 _ rfl)⟩
theorem col_at (k:Int) (w:World):Calls Tryz.prog 46 #[.int .i64 k] w fun e w'=>e = .returned (.agg (colA k))∧Below w.heap.size w w':=by
 go_enter Tryz.func46,Tryz.ntmps46;go_wp2
 exact bodyPost_ret (v:=.agg (colA k)) (by simp [results,Tryz.results46,go_sem]) rfl ⟨rfl,(Below.refl _ _).alloc (Nat.le_refl _) _⟩
theorem heap_apart {W:World} {b s:Nat} {cs ds:Array Value} {T T':TypeId} (h:W.heap[b]? = some (.cells cs T (0,0))) (k:W.heap[s]? = some (.cells ds T' (0,0))) (hne:T≠T'∨cs.size≠ds.size):s≠b:=fun e=>by
 subst e
 rw [h] at k
 have k:=Option.some.inj k
 injection k with k1 k2
 subst k1 k2
 rcases hne with h | h <;> exact h rfl
/-- The plan of a join in a variable. -/
structure JoinIn (W:World) (b s c:Nat):Prop where
 hs:W.heap[s]? = some (.cells (twoA 1 2) 27 (0,0))
 hc:W.heap[c]? = some (.cells kidA 31 (0,0))
 el:ElX W b joiP (jq s c)
theorem JoinIn.next {W W':World} {b s c:Nat} (h:JoinIn W b s c) (hb:Below W.heap.size W W'):JoinIn W' b s c:=⟨(hb.block s (lt_of_heap h.hs)).trans h.hs,(hb.block c (lt_of_heap h.hc)).trans h.hc,h.el.next hb⟩
def f2 (lo:Nat) (d:Nat→Bool) (k:Nat) (W:World) (v:Value):Prop:=match k with
 | 0=>v = .agg (colA 1)
 | 1=>v = .agg (colA 2)
 | 2=>d 9=true∨∃ s,v = .slice (some ⟨s,0,none⟩) 2 2∧W.heap[s]? = some (.cells (twoA 1 2) 27 (0,0))
 | 3=>d 9=true∨∃ s,v = .agg #[.int .i64 6,.int .i64 0,.int .i64 0,.string ⟨#[]⟩,.int .i64 0,.slice (some ⟨s,0,none⟩) 2 2]∧W.heap[s]? = some (.cells (twoA 1 2) 27 (0,0))
 | 4=>v=plV (tabP 1) pw0
 | 5=>v=plV (tabP 0) pw0
 | 6=>d 9=true∨∃ c,v = .slice (some ⟨c,0,none⟩) 2 2∧W.heap[c]? = some (.cells kidA 31 (0,0))
 | 7=>d 9=true∨∃ s c,v=plV joiP (jq s c)∧W.heap[s]? = some (.cells (twoA 1 2) 27 (0,0))∧W.heap[c]? = some (.cells kidA 31 (0,0))
 | 8=>∃ b,v = .pointer (some ⟨b,0,none⟩)∧lo≤b∧(d 9=false→W.heap[b]? = some (.cells zPl 31 (0,0)))∧(d 9=true→∃ s c,JoinIn W b s c)
 | _=>True
def g2 (i:Nat) (a:Act) (W W':World):Prop:=(i≠9∧Below W.heap.size W W')∨(i=9∧∀ b,a.tmps.getD 3 undef = .pointer (some ⟨b,0,none⟩)→∃ s c,JoinIn W' b s c)
theorem done_at9 (d:Nat→Bool) (i:Nat):doneAt d i i=true:=by unfold doneAt; rw [if_pos rfl]
theorem done_ne {d:Nat→Bool} {i k:Nat} (h:i≠k):doneAt d i k=d k:=by unfold doneAt; rw [if_neg (Ne.symm h)]
theorem f2_next (lo:Nat):∀ d (a:Act) i j W W' v,j≠i→d i=false→(∀ o t,(opsN Tryz.f22 2)[j]? = some o→o.dst=some t→v=a.tmps.getD t undef)→f2 lo d j W v→g2 i a W W'→f2 lo (doneAt d i) j W' v:=by
 intro d a i j W W' v hne hd hv h hg;rcases hg with ⟨h9,hb⟩ | ⟨rfl,hg⟩
 ·match j,h with
  | 0,h=>exact h
  | 1,h=>exact h
  | 2,h =>
   rcases h with h | ⟨s,e,h⟩
   ·exact .inl (by rw [done_ne h9]; exact h)
   ·exact .inr ⟨s,e,(hb.block s (lt_of_heap h)).trans h⟩
  | 3,h =>
   rcases h with h | ⟨s,e,h⟩
   ·exact .inl (by rw [done_ne h9]; exact h)
   ·exact .inr ⟨s,e,(hb.block s (lt_of_heap h)).trans h⟩
  | 6,h =>
   rcases h with h | ⟨s,e,h⟩
   ·exact .inl (by rw [done_ne h9]; exact h)
   ·exact .inr ⟨s,e,(hb.block s (lt_of_heap h)).trans h⟩
  | 4,h=>exact h
  | 5,h=>exact h
  | 7,h =>
   rcases h with h | ⟨s,c,e,h,h'⟩
   ·exact .inl (by rw [done_ne h9]; exact h)
   ·exact .inr ⟨s,c,e,(hb.block s (lt_of_heap h)).trans h,(hb.block c (lt_of_heap h')).trans h'⟩
  | 8,h =>
   obtain ⟨b,e,hl,h1,h2⟩:=h;refine ⟨b,e,hl,fun h=>?_,fun h=>?_⟩
   ·rw [done_ne h9] at h;exact (hb.block b (lt_of_heap (h1 h))).trans (h1 h)
   ·rw [done_ne h9] at h;obtain ⟨s,c,J⟩:=h2 h;exact ⟨s,c,J.next hb⟩
  | _+9,h=>exact trivial
 ·match j,h with
  | 0,h=>exact h
  | 1,h=>exact h
  | 2,h=>exact .inl (done_at9 d 9)
  | 3,h=>exact .inl (done_at9 d 9)
  | 4,h=>exact h
  | 5,h=>exact h
  | 6,h=>exact .inl (done_at9 d 9)
  | 7,h=>exact .inl (done_at9 d 9)
  | 8,h =>
   obtain ⟨b,e,hl,h1,h2⟩:=h;refine ⟨b,e,hl,fun h=>?_,fun _=>hg b ?_⟩
   ·rw [done_at9] at h;cases h
   ·rw [← e];exact (hv _ 3 rfl rfl).symm
  | _+9,h=>exact trivial
set_option maxRecDepth 100000 in
set_option maxHeartbeats 4000000 in
theorem paths2 {Q:Exit→Act→World→Prop} {b2:Nat} (a:Act) (w:World) (hsz:a.tmps.size=20) (h2:a.tmps.getD 2 undef = .pointer (some ⟨b2,0,none⟩)) (E2:ElX w b2 (tabP 0) pw0)
  (fin:∀ a' w' b s c,Below w.heap.size w w'→Same (opsN Tryz.f22 2) a a'→a'.tmps.getD 3 undef = .pointer (some ⟨b,0,none⟩)→w.heap.size≤b→JoinIn w' b s c→Q .normal a' w'):(Code.region 2 (opsN Tryz.f22 2) true).wp Tryz.prog Q a w:=by
 have HC:∀ {W W':World},Below w.heap.size w W→Below W.heap.size W W'→Below w.heap.size w W':=fun h h'=>chain h h'
 have HG:∀ {i:Nat} {a':Act} {W W':World},i≠9→Below W.heap.size W W'→g2 i a' W W':=fun h h'=>.inl ⟨h,h'⟩
 refine wp_region_done (by kernel_rfl) (fun W=>Below w.heap.size w W) (f2 w.heap.size) g2 (f2_next _) (by rw [hsz]; kernel_rfl) (Below.refl _ _).drew ?_ ?_
 ·refine ⟨?_,?_,?_,?_,?_,?_,?_,?_,?_,?_,trivial⟩
  ·refine sd_enter rfl rfl fun d a' W hc hs hd _ hf=>⟨46,#[.int .i64 1],?_,(col_at 1 W).mono fun e w' ⟨he,hb⟩=>⟨_,he,HC hc hb,HG (by decide) hb,rfl⟩⟩
   simp only [execOp,Act.eval,resolve,List.map_toArray,List.map_cons,List.map_nil];rfl
  ·refine sd_enter rfl rfl fun d a' W hc hs hd _ hf=>⟨46,#[.int .i64 2],?_,(col_at 2 W).mono fun e w' ⟨he,hb⟩=>⟨_,he,HC hc hb,HG (by decide) hb,rfl⟩⟩
   simp only [execOp,Act.eval,resolve,List.map_toArray,List.map_cons,List.map_nil];rfl
  ·refine sd_value rfl rfl fun d a' W hc hs hd hcl hf=>?_
   have k1:a'.tmps.getD 5 undef=_:=knownD hf (j:=0) (t:=5) (by kernel_rfl);have k2:a'.tmps.getD 6 undef=_:=knownD hf (j:=1) (t:=6) (by kernel_rfl);refine ⟨.slice (some ⟨W.heap.size,0,none⟩) 2 2,W.alloc (.cells (twoA 1 2) 27),?_,HC hc ((Below.refl _ _).alloc (Nat.le_refl _) _),HG (by decide) ((Below.refl _ _).alloc (Nat.le_refl _) _),.inr ⟨_,rfl,heap_new W (twoA 1 2) 27⟩⟩;simp only [execOp,Act.eval,k1,k2,List.map_toArray,List.map_cons,List.map_nil];clear hf hcl hs fin HC HG;clear k1 k2;go_simp
  ·refine sd_value rfl rfl fun d a' W hc hs hd hcl hf=>?_
   have d9:d 9=false:=hcl.not hd (k:=9) rfl (by kernel_rfl);obtain ⟨s,k,H⟩:=(knownD hf (j:=2) (t:=7) (by kernel_rfl)).resolve_left (by rw [d9]; decide);refine ⟨.agg #[.int .i64 6,.int .i64 0,.int .i64 0,.string ⟨#[]⟩,.int .i64 0,.slice (some ⟨s,0,none⟩) 2 2],W,?_,hc,HG (by decide) (Below.refl _ _),.inr ⟨s,rfl,H⟩⟩;simp only [execOp,Act.eval,k,List.map_toArray,List.map_cons,List.map_nil];clear hf hcl hs fin HC HG;clear k H;go_simp
  ·refine sd_value rfl rfl fun d a' W hc hs hd hcl hf=>?_
   refine ⟨plV (tabP 1) pw0,W,?_,hc,HG (by decide) (Below.refl _ _),rfl⟩;simp only [execOp,Act.eval,List.map_toArray,List.map_cons,List.map_nil];clear hf hcl hs fin HC HG;rw [tabV];go_simp
  ·refine sd_value rfl rfl fun d a' W hc hs hd hcl hf=>?_
   have h:a'.tmps.getD 2 undef=_:=(hs.tmps 2 (by kernel_rfl)).trans h2;obtain ⟨y0,y1,⟨y2,y3,y4,y5,y6,y7⟩,y8,y9,y10⟩:=(E2.next hc).el;simp only [Nat.zero_add] at y1 y2 y3 y4 y5 y6 y7 y8 y9 y10;refine ⟨plV (tabP 0) pw0,W,?_,hc,HG (by decide) (Below.refl _ _),rfl⟩;simp only [execOp,Act.eval,h];clear hf hcl hs fin HC HG h;unfold plV;go_simp
  ·refine sd_value rfl rfl fun d a' W hc hs hd hcl hf=>?_
   have k1:a'.tmps.getD 9 undef=_:=knownD hf (j:=4) (t:=9) (by kernel_rfl);have k2:a'.tmps.getD 10 undef=_:=knownD hf (j:=5) (t:=10) (by kernel_rfl);rw [tabV] at k1 k2;refine ⟨.slice (some ⟨W.heap.size,0,none⟩) 2 2,W.alloc (.cells kidA 31),?_,HC hc ((Below.refl _ _).alloc (Nat.le_refl _) _),HG (by decide) ((Below.refl _ _).alloc (Nat.le_refl _) _),.inr ⟨_,rfl,heap_new W kidA 31⟩⟩;simp only [execOp,Act.eval,k1,k2,List.map_toArray,List.map_cons,List.map_nil];clear hf hcl hs fin HC HG;clear k1 k2;go_simp
  ·refine sd_value rfl rfl fun d a' W hc hs hd hcl hf=>?_
   have d9:d 9=false:=hcl.not hd (k:=9) rfl (by kernel_rfl);obtain ⟨s,k,H⟩:=(knownD hf (j:=3) (t:=8) (by kernel_rfl)).resolve_left (by rw [d9]; decide);obtain ⟨c,k2,H2⟩:=(knownD hf (j:=6) (t:=11) (by kernel_rfl)).resolve_left (by rw [d9]; decide);refine ⟨plV joiP (jq s c),W,?_,hc,HG (by decide) (Below.refl _ _),.inr ⟨s,c,rfl,H,H2⟩⟩;simp only [execOp,Act.eval,k,k2,List.map_toArray,List.map_cons,List.map_nil];clear hf hcl hs fin HC HG;clear k k2 H H2;rw [joiV];go_simp
  ·refine sd_value rfl rfl fun d a' W hc hs hd hcl hf=>?_
   have d9:d 9=false:=hcl.not hd (k:=9) rfl (by kernel_rfl);refine ⟨.pointer (some ⟨W.heap.size,0,none⟩),W.alloc (.cells zPl 31),?_,HC hc ((Below.refl _ _).alloc (Nat.le_refl _) _),HG (by decide) ((Below.refl _ _).alloc (Nat.le_refl _) _),⟨_,rfl,hc.size,fun _=>heap_new W zPl 31,fun h=>by rw [done_ne (by decide),d9] at h; cases h⟩⟩;simp only [execOp];clear hf hcl hs fin HC HG;clear d9;go_simp
  ·intro d a' W hc hs hd hcl hf;obtain ⟨s,c,e7,H1,H2⟩:=(knownD hf (j:=7) (t:=12) (by kernel_rfl)).resolve_left (by rw [hd]; decide);obtain ⟨b,e8,hl,hz,_⟩:=knownD hf (j:=8) (t:=3) (by kernel_rfl);have H:=hz hd;have n1:s≠b:=heap_apart H H1 (.inl (by decide));have n2:c≠b:=heap_apart H H2 (.inr (by decide));refine wpOp_one rfl rfl ?_;refine wp_store_mid 31 (.tmp 3) (.tmp 12) rfl b 0 (plA joiP (jq s c)) e8 e7 (show W.there b 0 11 from there_at_ H) (by kernel_rfl) (by kernel_rfl) ?_;have X:=setCells_X b (plA joiP (jq s c)).toList 0 W
   refine ⟨undef,rfl,hc.trans (X.below hl),.inr ⟨rfl,fun b' e'=>?_⟩,trivial⟩;rw [e8] at e';have e':b=b':=by injection e' with e'; injection e' with e'; injection e'
   subst e';exact ⟨s,c,(X.2 s (lt_of_heap H1) n1).trans H1,(X.2 c (lt_of_heap H2) n2).trans H2,el_range (World.rangeAt_setCells_same _ _ _ _ (show W.there b 0 11 from there_at_ H))⟩
 ·intro d a' w' hc hs hall hf;obtain ⟨b,e,hl,_,hj⟩:=hf 8 (of_decide_eq_true (by kernel_rfl)) _ 3 rfl rfl;obtain ⟨s,c,J⟩:=hj (hall 9 (of_decide_eq_true (by kernel_rfl)));exact fin a' w' b s c hc hs e hl J

/-- All but two blocks is as it was. -/
structure But2 (b0 b1:Nat) (w W:World):Prop where
 os:W.os=w.os
 tape:W.tape=w.tape
 output:W.output=w.output
 size:w.heap.size≤W.heap.size
 blk:∀ k,k<w.heap.size→k≠b0→k≠b1→W.heap[k]? = w.heap[k]?
 t0:W.there b0 0 11
 t1:W.there b1 0 11
theorem there_nx {W W':World} {b n:Nat} (h:W.there b 0 n) (hb:Below W.heap.size W W'):W'.there b 0 n:=fun j hj=>by
 have hl:b<W.heap.size:=by
  obtain ⟨v,hv⟩:=Option.isSome_iff_exists.1 (h j hj).1;exact World.block_lt_of_cell? _ _ hv
 refine ⟨?_,?_⟩
 ·rw [hb.cell (p:=⟨b,_,none⟩) hl];exact (h j hj).1
 ·have:=(h j hj).2;unfold World.frozen? at *;rw [hb.block b hl];exact this
theorem But2.next {b0 b1:Nat} {w W W':World} (h:But2 b0 b1 w W) (hb:Below W.heap.size W W'):But2 b0 b1 w W' :=
 ⟨hb.os.trans h.os,hb.tape.trans h.tape,hb.output.trans h.output,Nat.le_trans h.size hb.size,fun k hk h0 h1=>(hb.block k (Nat.lt_of_lt_of_le hk h.size)).trans (h.blk k hk h0 h1),there_nx h.t0 hb,there_nx h.t1 hb⟩
theorem But2.put {b0 b1 b:Nat} {w W:World} (h:But2 b0 b1 w W) (hb:b=b0∨b=b1) (vs:List Value):But2 b0 b1 w (W.setCells b 0 vs) :=
 have X:=setCells_X b vs 0 W
 ⟨X.1.os.trans h.os,X.1.tape.trans h.tape,X.1.output.trans h.output,Nat.le_trans h.size X.1.size,fun k hk h0 h1=>(X.2 k (Nat.lt_of_lt_of_le hk h.size) (by rcases hb with rfl | rfl <;> assumption)).trans (h.blk k hk h0 h1),World.there_setCells h.t0 _ _ _,World.there_setCells h.t1 _ _ _⟩
theorem But2.el {b0 b1 b:Nat} {w W:World} {p:Pl} {q:Pw} (h:But2 b0 b1 w W) (E:ElX w b p q) (h0:b≠b0) (h1:b≠b1):ElX W b p q:=by
 have hc:∀ o,W.cell? ⟨b,o,none⟩=w.cell? ⟨b,o,none⟩:=fun o=>World.cell?_of_block (w:=w) (a:=⟨b,o,none⟩) (h.blk b E.lt h0 h1)
 obtain ⟨y0,y1,⟨y2,y3,y4,y5,y6,y7⟩,y8,y9,y10⟩:=E.el;exact ⟨⟨(hc _).trans y0,(hc _).trans y1,⟨(hc _).trans y2,(hc _).trans y3,(hc _).trans y4,(hc _).trans y5,(hc _).trans y6,(hc _).trans y7⟩,(hc _).trans y8,(hc _).trans y9,(hc _).trans y10⟩,Nat.lt_of_lt_of_le E.lt h.size⟩
def f3 (lo b0 b1 s c:Nat) (d:Nat→Bool) (k:Nat) (W:World) (v:Value):Prop:=match k with
 | 0=>v=plV (tabP 0) pw0∧(d 7=true→W.rangeAt b0 0 (plA (tabP 0) pw0).toList)
 | 1=>v = .agg (colA 0)
 | 2=>v = .agg (colA 3)
 | 3=>∃ s',v = .slice (some ⟨s',0,none⟩) 2 2∧lo≤s'∧W.heap[s']? = some (.cells (twoA 0 3) 27 (0,0))
 | 4=>v=plV joiP (jq s c)
 | 5=>∃ c',v = .slice (some ⟨c',0,none⟩) 1 1∧lo≤c'∧W.heap[c']? = some (.cells (plA joiP (jq s c)) 31 (0,0))
 | 6=>∃ s' c',v=plV stpP (sq s' c')∧lo≤s'∧lo≤c'∧W.heap[s']? = some (.cells (twoA 0 3) 27 (0,0))∧W.heap[c']? = some (.cells (plA joiP (jq s c)) 31 (0,0))∧(d 8=true→W.rangeAt b1 0 (plA stpP (sq s' c')).toList)
 | _=>True
def g3 (b0 b1 i:Nat) (a:Act) (W W':World):Prop:=(i≠7∧i≠8∧Below W.heap.size W W')∨(i=7∧W.there b0 0 11∧W'=W.setCells b0 0 (plA (tabP 0) pw0).toList)∨(i=8∧W.there b1 0 11∧∃ vs,a.tmps.getD 19 undef = .agg vs∧W'=W.setCells b1 0 vs.toList∧vs.size=11)
theorem range_nx {W W':World} {b:Nat} {cs:List Value} (h:W.rangeAt b 0 cs) (hb:Below W.heap.size W W'):W'.rangeAt b 0 cs:=fun j v hv=>(hb.cell (p:=⟨b,_,none⟩) (World.block_lt_of_cell? _ _ (h j v hv))).trans (h j v hv)
theorem f3_next {lo b0 b1:Nat} (s c:Nat) (l0:b0<lo) (l1:b1<lo) (ne:b0≠b1):∀ d (a:Act) i j W W' v,j≠i→d i=false→(∀ o t,(opsN Tryz.f22 3)[j]? = some o→o.dst=some t→v=a.tmps.getD t undef)→f3 lo b0 b1 s c d j W v→g3 b0 b1 i a W W'→f3 lo b0 b1 s c (doneAt d i) j W' v:=by
 intro d a i j W W' v hne hd hv h hg;rcases hg with ⟨n7,n8,hb⟩ | ⟨rfl,ht,rfl⟩ | ⟨rfl,ht,vs,ev,rfl,hsz⟩
 ·match j,h with
  | 0,h=>exact ⟨h.1,fun k=>range_nx (h.2 (by rw [done_ne n7] at k; exact k)) hb⟩
  | 1,h=>exact h
  | 2,h=>exact h
  | 3,h =>
   obtain ⟨x,e,hl,h⟩:=h;exact ⟨x,e,hl,(hb.block x (lt_of_heap h)).trans h⟩
  | 4,h=>exact h
  | 5,h =>
   obtain ⟨x,e,hl,h⟩:=h;exact ⟨x,e,hl,(hb.block x (lt_of_heap h)).trans h⟩
  | 6,h =>
   obtain ⟨x,y,e,hl,hl',h,h',k⟩:=h;exact ⟨x,y,e,hl,hl',(hb.block x (lt_of_heap h)).trans h,(hb.block y (lt_of_heap h')).trans h',fun m=>range_nx (k (by rw [done_ne n8] at m; exact m)) hb⟩
  | _+7,h=>exact trivial
 ·have X:=setCells_X b0 (plA (tabP 0) pw0).toList 0 W
  match j,h with
  | 0,h=>exact ⟨h.1,fun _=>World.rangeAt_setCells_same _ _ _ _ ht⟩
  | 1,h=>exact h
  | 2,h=>exact h
  | 3,h =>
   obtain ⟨x,e,hl,h⟩:=h;exact ⟨x,e,hl,(X.2 x (lt_of_heap h) (by omega)).trans h⟩
  | 4,h=>exact h
  | 5,h =>
   obtain ⟨x,e,hl,h⟩:=h;exact ⟨x,e,hl,(X.2 x (lt_of_heap h) (by omega)).trans h⟩
  | 6,h =>
   obtain ⟨x,y,e,hl,hl',h,h',k⟩:=h;exact ⟨x,y,e,hl,hl',(X.2 x (lt_of_heap h) (by omega)).trans h,(X.2 y (lt_of_heap h') (by omega)).trans h',fun m=>World.rangeAt_setCells_apart (k (by rw [done_ne (by decide)] at m; exact m)) _ _ _ (.inl (Ne.symm ne))⟩
  | _+7,h=>exact trivial
 ·have X:=setCells_X b1 vs.toList 0 W
  match j,h with
  | 0,h=>exact ⟨h.1,fun m=>World.rangeAt_setCells_apart (h.2 (by rw [done_ne (by decide)] at m; exact m)) _ _ _ (.inl ne)⟩
  | 1,h=>exact h
  | 2,h=>exact h
  | 3,h =>
   obtain ⟨x,e,hl,h⟩:=h;exact ⟨x,e,hl,(X.2 x (lt_of_heap h) (by omega)).trans h⟩
  | 4,h=>exact h
  | 5,h =>
   obtain ⟨x,e,hl,h⟩:=h;exact ⟨x,e,hl,(X.2 x (lt_of_heap h) (by omega)).trans h⟩
  | 6,h =>
   obtain ⟨x,y,e,hl,hl',h,h',k⟩:=h;refine ⟨x,y,e,hl,hl',(X.2 x (lt_of_heap h) (by omega)).trans h,(X.2 y (lt_of_heap h') (by omega)).trans h',fun _=>?_⟩;have e2:=hv _ 19 rfl rfl;rw [e,ev] at e2;have e2:plA stpP (sq x y)=vs:=by injection e2
   rw [e2];exact World.rangeAt_setCells_same _ _ _ _ (by rw [Array.length_toList,hsz]; exact ht)
  | _+7,h=>exact trivial
set_option maxRecDepth 100000 in
set_option maxHeartbeats 4000000 in
theorem paths3 {Q:Exit→Act→World→Prop} {b0 b1 b2 b3 s c:Nat} (a:Act) (w:World) (hsz:a.tmps.size=20) (h0:a.tmps.getD 0 undef = .pointer (some ⟨b0,0,none⟩)) (h1:a.tmps.getD 1 undef = .pointer (some ⟨b1,0,none⟩)) (h2:a.tmps.getD 2 undef = .pointer (some ⟨b2,0,none⟩)) (h3:a.tmps.getD 3 undef = .pointer (some ⟨b3,0,none⟩))
  (Z0:w.heap[b0]? = some (.cells zPl 31 (0,0))) (Z1:w.heap[b1]? = some (.cells zPl 31 (0,0))) (ne:b0≠b1) (E2:ElX w b2 (tabP 0) pw0) (n20:b2≠b0) (n21:b2≠b1) (J:JoinIn w b3 s c) (n30:b3≠b0) (n31:b3≠b1)
  (fin:∀ a' w' s' c',But2 b0 b1 w w'→Same (opsN Tryz.f22 3) a a'→ElX w' b0 (tabP 0) pw0→ElX w' b1 stpP (sq s' c')→PlX w' stpP (sq s' c')→Q .normal a' w'):(Code.region 3 (opsN Tryz.f22 3) true).wp Tryz.prog Q a w:=by
 have HC:∀ {W W':World},But2 b0 b1 w W→Below W.heap.size W W'→But2 b0 b1 w W':=fun h h'=>h.next h'
 have HG:∀ {i:Nat} {a':Act} {W W':World},i≠7→i≠8→Below W.heap.size W W'→g3 b0 b1 i a' W W':=fun h h8 h'=>.inl ⟨h,h8,h'⟩
 have C0:But2 b0 b1 w w.drew:=But2.next ⟨rfl,rfl,rfl,Nat.le_refl _,fun _ _ _ _=>rfl,there_at_ Z0,there_at_ Z1⟩ (Below.refl _ _).drew;refine wp_region_done (by kernel_rfl) (fun W=>But2 b0 b1 w W) (f3 w.heap.size b0 b1 s c) (g3 b0 b1) (f3_next s c (lt_of_heap Z0) (lt_of_heap Z1) ne) (by rw [hsz]; kernel_rfl) C0 ?_ ?_
 ·refine ⟨?_,?_,?_,?_,?_,?_,?_,?_,?_,trivial⟩
  ·refine sd_value rfl rfl fun d a' W hc hs hd hcl hf=>?_
   have h:a'.tmps.getD 2 undef=_:=(hs.tmps 2 (by kernel_rfl)).trans h2;obtain ⟨y0,y1,⟨y2,y3,y4,y5,y6,y7⟩,y8,y9,y10⟩:=(hc.el E2 n20 n21).el;simp only [Nat.zero_add] at y1 y2 y3 y4 y5 y6 y7 y8 y9 y10;have d7:d 7=false:=hcl.not hd (k:=7) rfl (by kernel_rfl);refine ⟨plV (tabP 0) pw0,W,?_,hc,HG (by decide) (by decide) (Below.refl _ _),⟨rfl,fun m=>by rw [done_ne (by decide),d7] at m; cases m⟩⟩;simp only [execOp,Act.eval,h];clear d7 hf hcl hs fin HC HG h;unfold plV;go_simp
  ·refine sd_enter rfl rfl fun d a' W hc hs hd _ hf=>⟨46,#[.int .i64 0],?_,(col_at 0 W).mono fun e w' ⟨he,hb⟩=>⟨_,he,HC hc hb,HG (by decide) (by decide) hb,rfl⟩⟩
   simp only [execOp,Act.eval,resolve,List.map_toArray,List.map_cons,List.map_nil];rfl
  ·refine sd_enter rfl rfl fun d a' W hc hs hd _ hf=>⟨46,#[.int .i64 3],?_,(col_at 3 W).mono fun e w' ⟨he,hb⟩=>⟨_,he,HC hc hb,HG (by decide) (by decide) hb,rfl⟩⟩
   simp only [execOp,Act.eval,resolve,List.map_toArray,List.map_cons,List.map_nil];rfl
  ·refine sd_value rfl rfl fun d a' W hc hs hd hcl hf=>?_
   have k1:a'.tmps.getD 14 undef=_:=knownD hf (j:=1) (t:=14) (by kernel_rfl);have k2:a'.tmps.getD 15 undef=_:=knownD hf (j:=2) (t:=15) (by kernel_rfl);refine ⟨.slice (some ⟨W.heap.size,0,none⟩) 2 2,W.alloc (.cells (twoA 0 3) 27),?_,HC hc ((Below.refl _ _).alloc (Nat.le_refl _) _),HG (by decide) (by decide) ((Below.refl _ _).alloc (Nat.le_refl _) _),⟨_,rfl,hc.size,heap_new W (twoA 0 3) 27⟩⟩;simp only [execOp,Act.eval,k1,k2,List.map_toArray,List.map_cons,List.map_nil];clear hf hcl hs fin HC HG;clear k1 k2;go_simp
  ·refine sd_value rfl rfl fun d a' W hc hs hd hcl hf=>?_
   have h:a'.tmps.getD 3 undef=_:=(hs.tmps 3 (by kernel_rfl)).trans h3;obtain ⟨y0,y1,⟨y2,y3,y4,y5,y6,y7⟩,y8,y9,y10⟩:=(hc.el J.el n30 n31).el;simp only [Nat.zero_add] at y1 y2 y3 y4 y5 y6 y7 y8 y9 y10;refine ⟨plV joiP (jq s c),W,?_,hc,HG (by decide) (by decide) (Below.refl _ _),rfl⟩;simp only [execOp,Act.eval,h];clear hf hcl hs fin HC HG h;unfold plV;go_simp
  ·refine sd_value rfl rfl fun d a' W hc hs hd hcl hf=>?_
   have k1:a'.tmps.getD 17 undef=_:=knownD hf (j:=4) (t:=17) (by kernel_rfl);refine ⟨.slice (some ⟨W.heap.size,0,none⟩) 1 1,W.alloc (.cells (plA joiP (jq s c)) 31),?_,HC hc ((Below.refl _ _).alloc (Nat.le_refl _) _),HG (by decide) (by decide) ((Below.refl _ _).alloc (Nat.le_refl _) _),⟨_,rfl,hc.size,heap_new W (plA joiP (jq s c)) 31⟩⟩;simp only [execOp,Act.eval,k1,List.map_toArray,List.map_cons,List.map_nil];clear hf hcl hs fin HC HG;clear k1;unfold plV;go_simp
  ·refine sd_value rfl rfl fun d a' W hc hs hd hcl hf=>?_
   have d8:d 8=false:=hcl.not hd (k:=8) rfl (by kernel_rfl);obtain ⟨s',k1,l1,H1⟩:=knownD hf (j:=3) (t:=16) (by kernel_rfl);obtain ⟨c',k2,l2,H2⟩:=knownD hf (j:=5) (t:=18) (by kernel_rfl);refine ⟨plV stpP (sq s' c'),W,?_,hc,HG (by decide) (by decide) (Below.refl _ _),⟨s',c',rfl,l1,l2,H1,H2,fun m=>by rw [done_ne (by decide),d8] at m; cases m⟩⟩;simp only [execOp,Act.eval,k1,k2,List.map_toArray,List.map_cons,List.map_nil];clear hf hcl hs fin HC HG;clear k1 k2 d8 H1 H2;rw [stpV];go_simp
  ·intro d a' W hc hs hd hcl hf;have e1:a'.tmps.getD 0 undef=_:=(hs.tmps 0 (by kernel_rfl)).trans h0;have e2:a'.tmps.getD 13 undef=_:=(knownD hf (j:=0) (t:=13) (by kernel_rfl)).1;refine wpOp_one rfl rfl ?_;refine wp_store_mid 31 (.tmp 0) (.tmp 13) rfl b0 0 (plA (tabP 0) pw0) e1 e2 hc.t0 (by kernel_rfl) (by kernel_rfl) ?_;exact ⟨undef,rfl,hc.put (.inl rfl) _,.inr (.inl ⟨rfl,hc.t0,rfl⟩),trivial⟩
  ·intro d a' W hc hs hd hcl hf;have e1:a'.tmps.getD 1 undef=_:=(hs.tmps 1 (by kernel_rfl)).trans h1;obtain ⟨s',c',e2,_⟩:=knownD hf (j:=6) (t:=19) (by kernel_rfl);refine wpOp_one rfl rfl ?_;refine wp_store_mid 31 (.tmp 1) (.tmp 19) rfl b1 0 (plA stpP (sq s' c')) e1 e2 hc.t1 (by kernel_rfl) (by kernel_rfl) ?_;exact ⟨undef,rfl,hc.put (.inr rfl) _,.inr (.inr ⟨rfl,hc.t1,_,e2,rfl,rfl⟩),trivial⟩
 ·intro d a' w' hc hs hall hf;obtain ⟨_,r0⟩:=hf 0 (of_decide_eq_true (by kernel_rfl)) _ 13 rfl rfl;obtain ⟨s',c',_,_,_,H1,H2,r1⟩:=hf 6 (of_decide_eq_true (by kernel_rfl)) _ 19 rfl rfl;have ns0:s≠b0:=heap_apart Z0 J.hs (.inl (by decide));have ns1:s≠b1:=heap_apart Z1 J.hs (.inl (by decide));have nc0:c≠b0:=heap_apart Z0 J.hc (.inr (by decide));have nc1:c≠b1:=heap_apart Z1 J.hc (.inr (by decide));have jx:PlX w' joiP (jq s c):=join_plx ((hc.blk s (lt_of_heap J.hs) ns0 ns1).trans J.hs) ((hc.blk c (lt_of_heap J.hc) nc0 nc1).trans J.hc)
  exact fin a' w' s' c' hc hs (el_range (r0 (hall 7 (of_decide_eq_true (by kernel_rfl))))) (el_range (r1 (hall 8 (of_decide_eq_true (by kernel_rfl))))) (step_plx H1 H2 jx)

abbrev tabA:Array Value:=#[.int .i64 1,.int .i64 0,.int .i64 0,.int .i64 0,.int .i64 0,.string ⟨#[]⟩,.int .i64 0,.slice none 0 0,.slice none 0 0,.slice none 0 0,.slice none 0 0]
set_option maxRecDepth 100000 in
set_option maxHeartbeats 4000000 in
theorem paths_at (w:World):Calls Tryz.prog 22 #[] w fun e w'=>∃ s c,e = .returned (.tuple #[plV (tabP 0) pw0,plV stpP (sq s c)])∧PlX w' stpP (sq s c)∧Below w.heap.size w w':=by
 have z1:(w.alloc (.cells zPl 31)).heap.size=w.heap.size+1:=by simp
 have z2:((w.alloc (.cells zPl 31)).alloc (.cells zPl 31)).heap.size=w.heap.size+2:=by simp
 have b1:Below w.heap.size w (w.alloc (.cells zPl 31)):=(Below.refl _ _).alloc (Nat.le_refl _) _;have b2:Below (w.alloc (.cells zPl 31)).heap.size (w.alloc (.cells zPl 31)) ((w.alloc (.cells zPl 31)).alloc (.cells zPl 31)):=(Below.refl _ _).alloc (Nat.le_refl _) _;have b3:Below ((w.alloc (.cells zPl 31)).alloc (.cells zPl 31)).heap.size ((w.alloc (.cells zPl 31)).alloc (.cells zPl 31)) (((w.alloc (.cells zPl 31)).alloc (.cells zPl 31)).alloc (.cells tabA 31)):=(Below.refl _ _).alloc (Nat.le_refl _) _;have Z0:=heap_new w zPl 31;have Z1:=heap_new (w.alloc (.cells zPl 31)) zPl 31
 replace Z0:=((chain b2 b3).block _ (lt_of_heap Z0)).trans Z0;replace Z1:=(b3.block _ (lt_of_heap Z1)).trans Z1;have E2:ElX (((w.alloc (.cells zPl 31)).alloc (.cells zPl 31)).alloc (.cells tabA 31)) ((w.alloc (.cells zPl 31)).alloc (.cells zPl 31)).heap.size (tabP 0) pw0:=⟨Elv.new _ (tabP 0) pw0 31,by simp⟩
 rw [z1] at Z1;rw [z2] at E2;have hA:=chain b1 (chain b2 b3);clear z1 z2 b1 b2 b3;go_enter Tryz.func22,Tryz.ntmps22;go_upto_region 2 with fail
 generalize ((w.alloc (.cells zPl 31)).alloc (.cells zPl 31)).alloc (.cells tabA 31)=wA at *;go_wp2_with fail
 rename_i K hK
 refine paths2 _ _ rfl rfl E2 ?_;intro a1 v1 b s c hb1 S1 e3 hl J;refine hK _ _ ?_;refine wp_seq ?_;have l0:=lt_of_heap Z0;have l1:=lt_of_heap Z1;have l2:=E2.lt;have m0:=(hb1.block _ l0).trans Z0;have m1:=(hb1.block _ l1).trans Z1;refine paths3 (b0:=w.heap.size) (b1:=w.heap.size+1) (b2:=w.heap.size+2) (b3:=b) (s:=s) (c:=c) a1 v1 S1.size (S1.tmps 0 (by kernel_rfl)) (S1.tmps 1 (by kernel_rfl)) (S1.tmps 2 (by kernel_rfl)) e3 m0 m1 (by omega) (E2.next hb1) (by omega) (by omega) J (by omega) (by omega) ?_;intro a2 v2 s' c' B2 S2 E0 E1 PX
 have t0:a2.tmps.getD 0 undef = .pointer (some ⟨w.heap.size,0,none⟩):=(S2.tmps 0 (by kernel_rfl)).trans (S1.tmps 0 (by kernel_rfl));have t1:a2.tmps.getD 1 undef = .pointer (some ⟨w.heap.size+1,0,none⟩):=(S2.tmps 1 (by kernel_rfl)).trans (S1.tmps 1 (by kernel_rfl));have hw:=chain hA hb1;have hB:Below w.heap.size w v2:=⟨B2.os.trans hw.os,B2.tape.trans hw.tape,B2.output.trans hw.output,Nat.le_trans hw.size B2.size,fun k hk=>(B2.blk k (Nat.lt_of_lt_of_le hk hw.size) (by omega) (by omega)).trans (hw.block k hk)⟩
 obtain ⟨y0,y1,⟨y2,y3,y4,y5,y6,y7⟩,y8,y9,y10⟩:=E0.el;simp only [Nat.zero_add] at y1 y2 y3 y4 y5 y6 y7 y8 y9 y10;obtain ⟨x0,x1,⟨x2,x3,x4,x5,x6,x7⟩,x8,x9,x10⟩:=E1.el;simp only [Nat.zero_add] at x1 x2 x3 x4 x5 x6 x7 x8 x9 x10;refine wp_ret ?_;refine bodyPost_ret (v:=.tuple #[plV (tabP 0) pw0,plV stpP (sq s' c')]) ?_ (S2.defers.trans S1.defers) ⟨s',c',rfl,PX,hB⟩;simp only [Array.getD_eq_getD_getElem?] at t0 t1;clear hB hw B2 PX E0 E1 m0 m1 Z0 Z1 E2 J hK K;unfold plV;simp [results,Tryz.results22,go_sem,t0,t1,y0,y1,y2,y3,y4,y5,y6,y7,y8,y9,y10,x0,x1,x2,x3,x4,x5,x6,x7,x8,x9,x10]

def lnk (a b:Int):List Vl:=[(3,a,⟨#[]⟩),(3,b,⟨#[]⟩)]
def edgs:List Zp:=[(lnk 1 2,1),(lnk 2 3,1)]

def theB1 (z:List Zp):Bool:=z.all fun r=>decide (1≤r.2)
def theB (l:List (List Zp)):Bool:=l.all theB1
end Go.Proofs.YtohjlfhmnmcndaaGreat
namespace Go.Proofs.YtohjlfhmnmcndaaGreat

theorem One.len {z:List Zp} (h:One z):z.length≤100000:=by have:=((wrongZ_iff z).1 h.right).1; omega
theorem wt_pos_all:∀ {z:List Zp},theB1 z=true→∀ q,0≤wt z q
 | [],_,_=>Int.le_refl _
 | x :: r,h,q=>by
  unfold theB1 at h
  rw [List.all_cons,Bool.and_eq_true] at h
  have h1:=of_decide_eq_true h.1
  have h2:=wt_pos_all (z:=r) h.2 q
  rw [wt]
  split <;> omega
theorem the_get {l:List (List Zp)} (h:theB l=true) (i:Nat) (q:List Vl):0≤wt (l.getD i []) q:=by
 unfold theB at h;rw [List.all_eq_true] at h;rcases Nat.lt_or_ge i l.length with hi | hi
 ·have e:l.getD i []=l[i]:=by simp [hi]
  rw [e];exact wt_pos_all (h _ (List.getElem_mem hi)) q
 ·have e:l.getD i [] = []:=by simp [hi]
  rw [e];exact Int.le_refl _
theorem snoc_get (l:List (List Zp)) (z:List Zp) (i:Nat):(l ++ [z]).getD i []=if i<l.length then l.getD i [] else if i=l.length then z else []:=by
 by_cases h:i<l.length
 ·rw [if_pos h];simp [List.getD_eq_getElem?_getD,List.getElem?_append_left h]
 ·rw [if_neg h];by_cases h2:i=l.length
  ·subst h2;simp
  ·rw [if_neg h2];simp [List.getD_eq_getElem?_getD];rw [List.getElem?_eq_none (by simp; omega)];rfl

/-- A set whose rows all stand in another one, however often, has no more rows. -/
theorem sub_rows:∀ {b a:List Zp},Rise a→Rise b→(∀ x ∈ a,∃ y ∈ b,cmpL y.1 x.1=0)→a.length≤b.length
 | [],a,_,_,h=>by
  have:a = []:=List.eq_nil_iff_forall_not_mem.2 fun x hx=>by
   obtain ⟨y,hy,_⟩:=h x hx
   cases hy
  subst this
  exact Nat.le_refl _
 | y :: b,[],_,_,_=>Nat.zero_le _
 | y :: b,x :: a,ha,hb,h=>by
  have ha':=List.pairwise_cons.1 ha
  have hb':=List.pairwise_cons.1 hb
  obtain ⟨y',hy',c⟩:=h x (by simp)
  rcases List.mem_cons.1 hy' with e | hx
  ·subst e
   have:=sub_rows (b:=b) (a:=a) ha'.2 hb'.2 fun z hz=>by
    obtain ⟨z',hz',c'⟩:=h z (by simp [hz])
    rcases List.mem_cons.1 hz' with e | hz''
    ·subst e
     have h1:=ha'.1 z hz
     rw [← cmpL_left c] at h1
     omega
    ·exact ⟨z',hz'',c'⟩
   simpa using this
  ·have:=sub_rows (b:=b) (a:=x :: a) ha hb'.2 fun z hz=>by
    obtain ⟨z',hz',c'⟩:=h z hz
    rcases List.mem_cons.1 hz' with e | hz''
    ·subst e
     exfalso
     have h1:=hb'.1 y' hx
     rw [cmpL_left c',cmpL_right c] at h1
     rcases List.mem_cons.1 hz with e | hz3
     ·subst e
      rw [cmpL_refl] at h1
      omega
     ·have h2:=ha'.1 z hz3
      have h3:=cmpL_neg x.1 z.1
      omega
    ·exact ⟨z',hz'',c'⟩
   simp only [List.length_cons] at this ⊢
   omega
theorem wt_at {z:List Zp} {q:List Vl} (h:wt z q≠0):∃ y ∈ z,cmpL y.1 q=0:=by
 rcases Classical.em (∃ y ∈ z,cmpL y.1 q=0) with h1 | h1
 ·exact h1
 ·exact absurd (wt_none fun x hx c=>h1 ⟨x,hx,c⟩) h
/-- What may be gathered may be, if there is less of it. -/
theorem gather_mono {a b:List Zp} (h:gatherE b=0) (A:∀ q,0≤wt a q∧wt a q≤wt b q):gatherE a=0:=by
 obtain ⟨h1,h2⟩:=gather_ok h;have sa:=canon_set a;have sb:=canon_set b;have key:∀ x ∈ canon a,∃ y ∈ canon b,cmpL y.1 x.1=0∧0<x.2∧x.2≤y.2:=fun x hx=>by
  have e:=wt_mem sa.rise x hx;have n:=sa.ne x hx;have A1:=A x.1;rw [← canon_wt a,← canon_wt b,e] at A1;obtain ⟨y,hy,c⟩:=wt_at (z:=canon b) (q:=x.1) (by omega);have e2:=wt_mem sb.rise y hy;rw [wt_congr c] at e2;exact ⟨y,hy,c,by omega,by omega⟩
 have l:=sub_rows sa.rise sb.rise fun x hx=>by
  obtain ⟨y,hy,c,_⟩:=key x hx;exact ⟨y,hy,c⟩
 have o:outW (canon a)=false:=outW_ok fun j hj=>by
  obtain ⟨y,hy,_,p,q⟩:=key _ (List.getElem_mem hj);have:=outW_in h1 y hy;rw [inW_iff] at this ⊢;omega
 unfold gatherE;rw [if_neg (by rw [o]; simp),if_neg (by omega)]
mutual
/-- Nothing is taken away. -/
def nosB:Pl→Bool
 | .mk k _ _ _ _ ks=>(k != 9) && nossB ks
def nossB:List Pl→Bool
 | []=>true
 | p :: r=>nosB p && nossB r
end
theorem nossB_all:∀ {l:List Pl},nossB l=true→∀ p ∈ l,nosB p=true
 | q :: r,h,p,hp=>by
  rw [nossB,Bool.and_eq_true] at h
  rcases List.mem_cons.1 hp with rfl | hp
  ·exact h.1
  ·exact nossB_all h.2 p hp
theorem wt_list:∀ {z:List Zp},(∀ x ∈ z,0≤x.2)→∀ q,0≤wt z q
 | [],_,_=>Int.le_refl _
 | x :: r,h,q=>by
  have h1:=h x (by simp)
  have h2:=wt_list (z:=r) (fun y hy=>h y (by simp [hy])) q
  rw [wt]
  split <;> omega
theorem topL_pos:∀ (n:Int) (l:List Kp),0≤n→(∀ x ∈ l,0<x.2.2)→∀ y ∈ topL n l,0≤y.2
 | _,[],_,_,y,hy=>by cases hy
 | n,x :: r,hn,h,y,hy=>by
  rw [topL] at hy
  have h1:=h x (by simp)
  rcases List.mem_cons.1 hy with rfl | hy
  ·show 0≤min x.2.2 n
   omega
  ·exact topL_pos _ r (by omega) (fun z hz=>h z (by simp [hz])) y hy
theorem canon_pos {z:List Zp} (h:∀ x ∈ z,0≤x.2) (q:List Vl):0≤wt (canon z) q:=by
 rw [canon_wt];exact wt_list h q
/-- Of rows that are there, and plans that take nothing away, all that comes is there. -/
theorem nos_wt {ts:List (List Int)} {a:List (List Zp)} (A:∀ (i:Nat) q,0≤wt (a.getD i []) q):∀ (p:Pl),nosB p=true→∀ (m d:Int),(lookX ts p m d).1=0→(evalQ ts a p).1=0→∀ q,0≤wt (evalQ ts a p).2 q :=
 Pl.ind fun k n x xs gs ks ih hlin m d hl h1 q=>by
  obtain ⟨hk,hln,hlk⟩:=look_kids hl
  rw [nosB,Bool.and_eq_true] at hlin
  have hks:=nossB_all hlin.2
  have k9:k≠9:=by have:=hlin.1; simpa using this
  match ks,hln with
  | [],_ =>
   rw [eval_none] at h1
   rw [eval_none]
   simp only at h1 ⊢
   rw [gather_wt h1]
   exact A _ q
  | [p],hln =>
   obtain ⟨m',hm'⟩:=hlk p (by simp)
   obtain ⟨a1,e1⟩:=eval_one h1
   have W:=ih p (by simp) (hks p (by simp)) m' (d+1) hm' a1
   rw [e1] at h1 ⊢
   simp only [nodeZ] at h1 ⊢
   by_cases k2:k=2
   ·rw [if_pos k2] at h1 ⊢
    rw [filtZ_wt h1]
    have:=W q
    split <;> omega
   rw [if_neg k2] at h1 ⊢
   by_cases k3:k=3
   ·rw [if_pos k3] at h1 ⊢
    rw [mapZ_wt h1]
    exact tot_pos (resp_map xs q) (fun _=>ite01 _) W
   rw [if_neg k3] at h1 ⊢
   by_cases k10:k=10
   ·rw [if_pos k10] at h1 ⊢
    rw [setZ_wt rfl h1]
    exact (posF_mono (Int.le_refl _)).1
   rw [if_neg k10] at h1 ⊢
   by_cases k11:k=11
   ·rw [if_pos k11] at h1 ⊢
    rw [setZ_wt rfl h1]
    exact (oneF_mono (Int.le_refl _)).1
   rw [if_neg k11] at h1 ⊢
   by_cases k12:k=12
   ·rw [if_pos k12] at h1 ⊢
    simp only at h1 ⊢
    unfold groupZ
    rw [if_pos h1]
    refine canon_pos (fun y hy=>?_) q
    obtain ⟨_,_,rfl⟩:=List.mem_map.1 hy
    exact Int.le_of_lt Int.one_pos
   rw [if_neg k12] at h1 ⊢
   simp only at h1 ⊢
   obtain ⟨_,n0,_,_⟩:=topE_ok h1
   unfold topZ
   rw [if_pos h1]
   exact canon_pos (topL_pos n _ n0.1 (fun y hy=>(inOrd_mem.1 hy).1.2)) q
  | [l,r],hln =>
   obtain ⟨m1,hm1⟩:=hlk l (by simp)
   obtain ⟨m2,hm2⟩:=hlk r (by simp)
   obtain ⟨a1,b1,e1⟩:=eval_two h1
   have W1:=ih l (by simp) (hks l (by simp)) m1 (d+1) hm1 a1
   have W2:=ih r (by simp) (hks r (by simp)) m2 (d+1) hm2 b1
   rw [e1] at h1 ⊢
   simp only [nodeZ] at h1 ⊢
   have J:=fun q=>(join_mono (x:=x) W1 (fun _=>Int.le_refl _) W2 (fun _=>Int.le_refl _) q).1
   by_cases k4:k=4
   ·rw [if_pos k4] at h1 ⊢
    rw [pairZ_wt h1]
    exact J q
   rw [if_neg k4] at h1 ⊢
   by_cases k5:k=5
   ·rw [if_pos k5] at h1 ⊢
    rw [pairZ_wt h1]
    show 0≤wt (semiL x _ _) q
    rw [semi_wt]
    have:=W1 q
    split <;> omega
   rw [if_neg k5] at h1 ⊢
   have AN:∀ q,0≤wt (antiL x (evalQ ts a l).2 (evalQ ts a r).2) q:=fun q=>by
    rw [anti_wt]
    have:=W1 q
    split <;> omega
   by_cases k6:k=6
   ·rw [if_pos k6] at h1 ⊢
    rw [pairZ_wt h1]
    exact AN q
   rw [if_neg k6] at h1 ⊢
   by_cases k7:k=7
   ·rw [if_pos k7] at h1 ⊢
    rw [pairZ_wt h1]
    show 0≤wt (leftL x _ _ _) q
    unfold leftL
    rw [wt_append,wide_tot]
    have h2:=J q
    have h3:=tot_pos (g:=fun r'=>if cmpL (r' ++ nulls (colsP ts r).length) q=0 then 1 else 0) (fun u v h=>by simp only [cmpL_left (cmpL_append h (cmpL_refl _))]) (fun _=>ite01 _) AN
    omega
   rw [if_neg k7] at h1 ⊢
   by_cases k8:k=8
   ·rw [if_pos k8] at h1 ⊢
    rw [(both_inv h1).2.2.2.2]
    have:=W1 q
    have:=W2 q
    omega
   ·exfalso
    simp only [List.length_cons,List.length_nil] at hln
    unfold kidsQ at hln
    by_cases c1:k=1
    ·rw [if_pos c1] at hln; omega
    ·rw [if_neg c1] at hln
     by_cases c2:4≤k∧k≤9
     ·omega
     ·rw [if_neg c2] at hln; omega
  | _ :: _ :: _ :: _,hln =>
   have:=kidsQ_le k
   simp only [List.length_cons] at hln
   omega
end Go.Proofs.YtohjlfhmnmcndaaGreat
