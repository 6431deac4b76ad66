/- Together: EY, EP, EQ, ER, ES, ET, EU, EH, EV. -/
import Derived.Maps.AppendAt
import Derived.Deep.MidRow
import Derived.Test.YtohjlfhmnmcndaaGreatB14
import Derived.Test.YtohjlfhmnmcndaaGreatB12
/- Steps of a region by facts that hang on what is done; appending as one operation. -/
namespace Go.Proofs.YtohjlfhmnmcndaaGreat
open Go.RowKit Go.Lib Go.Shelf

theorem grown_none {w w':World} (h:w.grownBy w' none):Below w.heap.size w w':=⟨h.os,h.tape,h.output,h.size,fun k hk=>h.block k hk (by intro e; cases e)⟩
/-- Appending to a list of one's own: in a new block, or where it lay and there was room. -/
theorem run_app {P:Program} (w:World) (base:Nat) (t ty e:TypeId) (i:TypeInfo) (z:Value) (bytes:Nat) (ht:P.underlying t=some (.slice e)) (hi:P.info? e=some i) (hz:i.zero=some z)
  (hsize:i.size=1) (hby:i.bytes=bytes) (hzs:z.cells.size=1) (v:Value) (n:Nat) (xs:List Value) (hown:w.ownsRow base e 1 v n xs)
  (ao:Option Addr) (m c:Nat) (news:List Value) (hr:Raw w ao m 1 news) (h63:n+m≤maxLen) (hbytes:(n+m)*bytes≤140737488355328) (hbase:base≤w.heap.size) :
  ∃ v' w',(Builtin.append_ #[t,t] ty #[v,.slice ao m c]).run P w = .ok v' w'∧w'.ownsRow base e 1 v' (n+m) (xs ++ news)∧(n+m=0→v'=v) ∧
   (Below w.heap.size w w'∨∃ g cap cs,v = .slice (some ⟨g,0,none⟩) n cap∧n+m≤cap∧w.heap[g]? = some (.cells cs e (0,0))∧cs.size=cap∧base≤g∧w.grownBy w' (some g)):=by
 rcases ao with _ | ad
 ·have hm:=hr.nil rfl
  subst hm
  have hnews:news = []:=List.eq_nil_of_length_eq_zero (by simpa using hr.len)
  subst hnews
  exact ⟨v,w,run_append_none2 (P:=P) (w:=w) base t ty e i 1 ht hi v n xs hown c,by simpa using hown,fun _=>rfl,.inl (Below.refl _ _)⟩
 obtain ⟨v',w',hrun,ho,hgr,hnil,_⟩:=run_append_own_at (P:=P) (w:=w) base t ty e i z 1 bytes ht hi hz hsize hby hzs (by decide) v n xs hown ad m c news hr.len (hr.at_ ad rfl) hr.one h63 hbytes hbase
 rcases hown with ⟨hx,⟨rfl,rfl⟩ | ⟨g,cap,cur,rfl,hg,hh,hn,hc,hs,hk⟩⟩
 ·refine ⟨v',w',hrun,ho,fun h0=>hnil.2 ⟨rfl,by omega⟩,.inl (grown_none hgr)⟩
 subst hby
 rw [Nat.mul_one] at hs
 by_cases room:n+m≤cap
 ·have h2:=run_append_room (P:=P) w t ty e i ht hi g n cap cur hh ad m c news (by rw [hsize]; exact hr.len) (hr.at_ ad rfl) hr.one room (by rw [hr.len,hs,hsize]; omega)
  rw [hrun] at h2
  injection h2 with h3 _
  refine ⟨v',w',hrun,ho,fun h0=>?_,.inr ⟨g,cap,cur,rfl,room,hh,hs,hg,hgr⟩⟩
  rw [h3]
  congr 1
  omega
 ·have holds:∀ j v,xs[j]? = some v→w.cell? ((⟨g,0,none⟩:Addr).add j)=some v:=World.ownsRow.cells (w:=w) (base:=base) (e:=e) (size:=1) (v:=.slice (some ⟨g,0,none⟩) n cap) (n:=n) ⟨hx,.inr ⟨g,cap,cur,rfl,hg,hh,hn,hc,by omega,hk⟩⟩ rfl
  have h63':((n+m:Nat):Int)≤9223372036854775807:=by simp only [maxLen] at h63; omega
  have h2:=run_append_grow (P:=P) w t ty e i z ht hi hz ⟨g,0,none⟩ n cap xs (by rw [hsize]; exact hx) holds ad m c news (by rw [hsize]; exact hr.len) (hr.at_ ad rfl) (by omega) h63' (growslice_fits (by omega) hbytes)
  rw [hrun] at h2
  injection h2 with h3 h4
  refine ⟨v',w',hrun,ho,fun h0=>by omega,.inl ?_⟩
  rw [h4]
  exact ((Below.refl _ _).drew).alloc (Nat.le_refl _) _

section
variable {ops:Array Oper} {Q:Exit→Act→World→Prop} {C:World→Prop} {Φ:(Nat→Bool)→Nat→World→Value→Prop} {G:Nat→Act→World→World→Prop} {a0:Act} {i:Nat} {o:Oper}

def ClD (ops:Array Oper) (d:Nat→Bool):Prop:=∀ k o',ops[k]? = some o'→d k=true→∀ e ∈ o'.after,Region.binds .any e=true→d e.on=true
def DepsD (ops:Array Oper) (Φ:(Nat→Bool)→Nat→World→Value→Prop) (d:Nat→Bool) (o:Oper) (a:Act) (w:World):Prop:=∀ e ∈ o.after,Region.binds .any e=true→d e.on=true∧FactD ops Φ d e.on a w
/-- o stands behind operation j, which leaves temporary t. -/
def atD (ops:Array Oper) (o:Oper) (j t:Nat):Bool:=(o.after.any fun e=>Region.binds .any e && e.on == j) && ((ops[j]?).bind (·.dst) == some t)
theorem knownE {d:Nat→Bool} {a:Act} {w:World} {j t:Nat} (hf:DepsD ops Φ d o a w) (h:atD ops o j t=true):d j=true∧Φ d j w (a.tmps.getD t undef):=by
 unfold atD at h
 rw [Bool.and_eq_true,Array.any_eq_true] at h
 obtain ⟨⟨n,hn,h1⟩,h2⟩:=h
 have he:=Array.getElem_mem hn
 generalize o.after[n]=e at he h1
 rw [Bool.and_eq_true,beq_iff_eq] at h1
 obtain ⟨h1,rfl⟩:=h1
 rw [beq_iff_eq] at h2
 obtain ⟨oj,hj,hd⟩:=Option.bind_eq_some_iff.1 h2
 exact ⟨(hf e he h1).1,(hf e he h1).2 oj t hj hd⟩
theorem knownD {d:Nat→Bool} {a:Act} {w:World} {j t:Nat} (hf:DepsD ops Φ d o a w) (h:atD ops o j t=true):Φ d j w (a.tmps.getD t undef):=(knownE hf h).2
/-- What stands behind something that is not done is not done. -/
theorem ClD.not {d:Nat→Bool} (h:ClD ops d) {i k:Nat} (hi:d i=false) {o':Oper} (hk:ops[k]? = some o') (ha:(o'.after.any fun e=>Region.binds .any e && e.on == i)=true):d k=false:=by
 cases hd:d k with
 | false=>rfl
 | true =>
  exfalso
  rw [Array.any_eq_true] at ha
  obtain ⟨n,hn,h1⟩:=ha
  have he:=Array.getElem_mem hn
  generalize o'.after[n]=e at he h1
  rw [Bool.and_eq_true,beq_iff_eq] at h1
  obtain ⟨h1,rfl⟩:=h1
  have:=h k o' hk hd e he h1
  rw [hi] at this
  cases this
theorem sd_value (ho:ops[i]? = some o) (hg:o.guard=none)
  (run:∀ d a w,C w→Same ops a0 a→d i=false→ClD ops d→DepsD ops Φ d o a w→∃ v w',(execOp a.eval o).run Tryz.prog w = .ok (.value v) w'∧C w'∧G i a w w'∧Φ (doneAt d i) i w' v) :
  StepD Tryz.prog .any ops Q C Φ G a0 i o:=fun d a w hc hs hd hcl hf=>by
 obtain ⟨v,w',e,hc',hb,hv⟩:=run d a w hc hs hd hcl hf
 unfold wpOp
 rw [ho]
 show if Region.wanted o (yielded ops a.tmps) then _ else _
 rw [if_pos (by unfold Region.wanted; rw [hg])]
 left
 unfold Oper.wp
 rw [e]
 exact ⟨v,rfl,hc',hb,hv⟩
theorem sd_enter (ho:ops[i]? = some o) (hg:o.guard=none)
  (run:∀ d a w,C w→Same ops a0 a→d i=false→ClD ops d→DepsD ops Φ d o a w→∃ f args,(execOp a.eval o).run Tryz.prog w = .ok (.enter f args) w∧Calls Tryz.prog f args w fun e w'=>∃ v,e = .returned v∧C w'∧G i a w w'∧Φ (doneAt d i) i w' v) :
  StepD Tryz.prog .any ops Q C Φ G a0 i o:=fun d a w hc hs hd hcl hf=>by
 obtain ⟨f,args,e,hcall⟩:=run d a w hc hs hd hcl hf
 unfold wpOp
 rw [ho]
 show if Region.wanted o (yielded ops a.tmps) then _ else _
 rw [if_pos (by unfold Region.wanted; rw [hg])]
 left
 unfold Oper.wp
 rw [e]
 exact hcall.mono fun e w' ⟨v,he,hc',hb,hv⟩=>by subst he; exact ⟨v,rfl,hc',hb,hv⟩
/-- An operation that reads a temporary from ahead of the region. -/
theorem sd_move {t:Tmp} (ho:ops[i]? = some o) (hg:o.guard=none) (hop:o.op = .move (.tmp t)) (ht:(ops.all fun o=>o.dst != some t)=true) (hG:∀ a w,C w→G i a w w) (hi:∀ d w,C w→Φ (doneAt d i) i w (a0.tmps.getD t undef)):StepD Tryz.prog .any ops Q C Φ G a0 i o :=
 sd_value ho hg fun d a w hc hs _ _ _=>⟨_,w,by
  unfold execOp
  rw [hop]
  show (pure (.value (a.tmps.getD t undef)):Sem Next).run Tryz.prog w=_
  rw [hs.tmps t ht]
  rfl,hc,hG a w hc,hi d w hc⟩
/-- .. or one of the region's own. -/
theorem sd_again {t:Tmp} {j:Nat} (ho:ops[i]? = some o) (hg:o.guard=none) (hop:o.op = .move (.tmp t)∨o.op = .assign (.tmp t)) (hj:atD ops o j t=true) (hG:∀ a w,C w→G i a w w) (hi:∀ d w v,Φ d j w v→Φ (doneAt d i) i w v):StepD Tryz.prog .any ops Q C Φ G a0 i o :=
 sd_value ho hg fun d a w hc hs _ _ hf=>⟨_,w,by
  unfold execOp
  rcases hop with hop | hop <;>
  ·rw [hop]
   show (pure (.value (a.tmps.getD t undef)):Sem Next).run Tryz.prog w=_
   rfl,hc,hG a w hc,hi d w _ (knownD hf hj)⟩
/-- A part of what a call told. -/
theorem sd_extract {t:Tmp} {j n:Nat} (ho:ops[i]? = some o) (hg:o.guard=none) (hop:o.op = .extract (.tmp t) n) (hj:atD ops o j t=true) (hG:∀ a w,C w→G i a w w) (hi:∀ d w v,Φ d j w v→∃ l:Array Value,∃ u,v = .tuple l∧l[n]? = some u∧Φ (doneAt d i) i w u):StepD Tryz.prog .any ops Q C Φ G a0 i o :=
 sd_value ho hg fun d a w hc hs _ _ hf=>by
  obtain ⟨l,u,e1,e2,h3⟩:=hi d w _ (knownD hf hj)
  refine ⟨u,w,?_,hc,hG a w hc,h3⟩
  unfold execOp
  rw [hop]
  simp only [Act.eval]
  rw [e1]
  simp [Instr.extract,e2]
end

def regs:Code→List (Array Oper)
 | .region _ ops _=>[ops]
 | .seq a b=>regs a ++ regs b
 | .cond _ a b=>regs a ++ regs b
 | _=>[]
def opsN (f:Func) (n:Nat):Array Oper:=(regs (f.body.getD .skip)).getD n #[]
/-- What a region leaves: its own temporaries, and all else as it was. -/
def putsD (a':Act):List Oper→Act→Act
 | [],a=>a
 | o :: l,a=>putsD a' l (a.put o.dst (match o.dst with | some t=>a'.tmps.getD t undef | none=>undef))
theorem putsD_size (a':Act):∀ (l:List Oper) (a:Act),(putsD a' l a).tmps.size=a.tmps.size∧(putsD a' l a).defers=a.defers
 | [],a=>⟨rfl,rfl⟩
 | o :: l,a=>by
  rw [putsD]
  obtain ⟨h1,h2⟩:=putsD_size a' l (a.put o.dst (match o.dst with | some t=>a'.tmps.getD t undef | none=>undef))
  rw [h1,h2]
  unfold Act.put
  cases o.dst <;> simp
theorem putsD_get (a':Act) (t:Nat):∀ (l:List Oper) (a:Act),t<a.tmps.size→(putsD a' l a).tmps.getD t undef=if (l.all fun o=>o.dst != some t)=true then a.tmps.getD t undef else a'.tmps.getD t undef
 | [],a,_=>by simp [putsD]
 | o :: l,a,ht=>by
  rw [putsD,putsD_get a' t l _ (by unfold Act.put; cases o.dst <;> simpa using ht),List.all_cons]
  cases hd:o.dst with
  | none=>simp [Act.put]
  | some u =>
   by_cases hu:u=t
   ·subst hu
    simp [Act.put,Array.getD,ht]
   ·simp only [Act.put]
    have h1:(some u != some t)=true:=by simpa using hu
    rw [h1,Bool.true_and]
    simp [Array.getD_eq_getD_getElem?,Array.getElem?_setIfInBounds_ne hu]
def putsT (a':Act):List (Option Tmp)→Act→Act
 | [],a=>a
 | t :: l,a=>putsT a' l (a.put t (match t with | some t=>a'.tmps.getD t undef | none=>undef))
theorem puts_T (a':Act):∀ (l:List Oper) (a:Act),putsD a' l a=putsT a' (l.map (·.dst)) a
 | [],_=>rfl
 | _ :: l,_=>puts_T a' l _
theorem Same.puts {ops:Array Oper} {a a':Act} (h:Same ops a a'):a'=putsD a' ops.toList a:=by
 have hs:=putsD_size a' ops.toList a
 have ht:a'.tmps=(putsD a' ops.toList a).tmps:=by
  refine Array.ext (h.size.trans hs.1.symm) fun i h1 h2=>?_
  have e:=putsD_get a' i ops.toList a (by rw [← h.size]; exact h1)
  have e1:(putsD a' ops.toList a).tmps.getD i undef=(putsD a' ops.toList a).tmps[i]:=by simp [Array.getD,h2]
  have e2:a'.tmps.getD i undef=a'.tmps[i]:=by simp [Array.getD,h1]
  refine e2.symm.trans (Eq.trans ?_ e1)
  rw [e]
  by_cases c:(ops.toList.all fun o=>o.dst != some i)=true
  ·rw [if_pos c]
   exact h.tmps i (by rw [← Array.all_toList]; exact c)
  ·rw [if_neg c]
 have hd:a'.defers=(putsD a' ops.toList a).defers:=h.defers.trans hs.2.symm
 generalize putsD a' ops.toList a=b at ht hd
 cases a'
 cases b
 simp only at ht hd
 subst ht hd
 rfl
theorem Same.putsT {ops:Array Oper} {a a':Act} {l:List (Option Tmp)} (h:Same ops a a') (hl:ops.toList.map (·.dst)=l):a'=putsT a' l a:=by
 have e:=h.puts
 rw [puts_T,hl] at e
 exact e
end Go.Proofs.YtohjlfhmnmcndaaGreat
/- tidelaw10's col, paths: plainly, and its facts. -/
namespace Go.Proofs.YtohjlfhmnmcndaaGreat
open Go.RowKit Go.Lib Go.Shelf

theorem setCells_X (b:Nat):∀ (vs:List Value) (o:Nat) (w:World),BelowX b w (w.setCells b o vs)
 | [],_,w=>BelowX.refl b w
 | v :: vs,o,w=>((BelowX.refl b w).set o v).trans (setCells_X b vs (o+1) _)
theorem there_at_ {w:World} {b:Nat} {cs:Array Value} {T:TypeId} (h:w.heap[b]? = some (.cells cs T (0,0))):w.there b 0 cs.size:=fun j hj=>by
 rw [Nat.zero_add]
 refine ⟨?_,by simp [World.frozen?,h]⟩
 rw [cell_of (i:=j) (v:=cs[j]) h (by simp [hj])]
 rfl
theorem wpOp_one {P:Program} {ops:Array Oper} {Q:Exit→Act→World→Prop} {i:Nat} {o:Oper} {K:Act→World→Prop} {a:Act} {w:World} (ho:ops[i]? = some o) (hg:o.guard=none) (h:o.wp P a w K Q):wpOp P ops Q i K a w:=by
 unfold wpOp
 rw [ho]
 show if Region.wanted o (yielded ops a.tmps) then _ else _
 rw [if_pos (by unfold Region.wanted; rw [hg])]
 exact .inl h
abbrev colA (k:Int):Array Value:=#[.int .i64 2,.int .i64 0,.int .i64 0,.string ⟨#[]⟩,.int .i64 k,.slice none 0 0]
abbrev twoA (j k:Int):Array Value:=#[.int .i64 2,.int .i64 0,.int .i64 0,.string ⟨#[]⟩,.int .i64 j,.slice none 0 0,.int .i64 2,.int .i64 0,.int .i64 0,.string ⟨#[]⟩,.int .i64 k,.slice none 0 0]
abbrev zPl:Array Value:=#[.int .i64 0,.int .i64 0,.int .i64 0,.int .i64 0,.int .i64 0,.string ⟨#[]⟩,.int .i64 0,.slice none 0 0,.slice none 0 0,.slice none 0 0,.slice none 0 0]
abbrev kidA:Array Value:=#[.int .i64 1,.int .i64 1,.int .i64 0,.int .i64 0,.int .i64 0,.string ⟨#[]⟩,.int .i64 0,.slice none 0 0,.slice none 0 0,.slice none 0 0,.slice none 0 0,.int .i64 1,.int .i64 0,.int .i64 0,.int .i64 0,.int .i64 0,.string ⟨#[]⟩,.int .i64 0,.slice none 0 0,.slice none 0 0,.slice none 0 0,.slice none 0 0]
def colX (k:Int):Ex:=.mk 2 vl0 k []
def eqX:Ex:=.mk 6 vl0 0 [colX 1,colX 2]
def joiP:Pl:=.mk 4 0 eqX [] [] [tabP 1,tabP 0]
def stpP:Pl:=.mk 3 0 ex0 [colX 0,colX 3] [] [joiP]
def jq (s c:Nat):Pw:=⟨some ⟨s,0,none⟩,2,none,0,none,0,some ⟨c,0,none⟩,2⟩
def sq (s c:Nat):Pw:=⟨none,0,some ⟨s,0,none⟩,2,none,0,some ⟨c,0,none⟩,1⟩
theorem joiV (s c:Nat):plV joiP (jq s c) = .agg #[.int .i64 4,.int .i64 0,.int .i64 6,.int .i64 0,.int .i64 0,.string ⟨#[]⟩,.int .i64 0,.slice (some ⟨s,0,none⟩) 2 2,.slice none 0 0,.slice none 0 0,.slice (some ⟨c,0,none⟩) 2 2]:=rfl
theorem stpV (s c:Nat):plV stpP (sq s c) = .agg #[.int .i64 3,.int .i64 0,.int .i64 0,.int .i64 0,.int .i64 0,.string ⟨#[]⟩,.int .i64 0,.slice none 0 0,.slice (some ⟨s,0,none⟩) 2 2,.slice none 0 0,.slice (some ⟨c,0,none⟩) 1 1]:=rfl
theorem ks2_at {W:World} {s:Nat} {j k:Int} (h:W.heap[s]? = some (.cells (twoA j k) 27 (0,0))):KsAt W.heap.size W (some ⟨s,0,none⟩) [colX j,colX k] :=
 .some s 0 [colX j,colX k] (fun _=>none) (fun _=>0) (lt_of_heap h) (fun i hi=>by
  match i,hi with
  | 0,_=>exact ⟨cell_of (i:=0) h rfl,cell_of (i:=1) h rfl,cell_of (i:=2) h rfl,cell_of (i:=3) h rfl,cell_of (i:=4) h rfl,cell_of (i:=5) h rfl⟩
  | 1,_=>exact ⟨cell_of (i:=6) h rfl,cell_of (i:=7) h rfl,cell_of (i:=8) h rfl,cell_of (i:=9) h rfl,cell_of (i:=10) h rfl,cell_of (i:=11) h rfl⟩) (fun i hi=>by
  match i,hi with
  | 0,_=>exact .nil _
  | 1,_=>exact .nil _)
theorem join_plx {W:World} {s c:Nat} (h:W.heap[s]? = some (.cells (twoA 1 2) 27 (0,0))) (h2:W.heap[c]? = some (.cells kidA 31 (0,0))):PlX W joiP (jq s c) :=
 ⟨ks2_at h,.nil _,.inl rfl,.some c 0 [tabP 1,tabP 0] (fun _=>pw0) (lt_of_heap h2) (fun i hi=>by
  match i,hi with
  | 0,_=>exact ⟨cell_of (i:=0) h2 rfl,cell_of (i:=1) h2 rfl,⟨cell_of (i:=2) h2 rfl,cell_of (i:=3) h2 rfl,cell_of (i:=4) h2 rfl,cell_of (i:=5) h2 rfl,cell_of (i:=6) h2 rfl,cell_of (i:=7) h2 rfl⟩,cell_of (i:=8) h2 rfl,cell_of (i:=9) h2 rfl,cell_of (i:=10) h2 rfl⟩
  | 1,_=>exact ⟨cell_of (i:=11) h2 rfl,cell_of (i:=12) h2 rfl,⟨cell_of (i:=13) h2 rfl,cell_of (i:=14) h2 rfl,cell_of (i:=15) h2 rfl,cell_of (i:=16) h2 rfl,cell_of (i:=17) h2 rfl,cell_of (i:=18) h2 rfl⟩,cell_of (i:=19) h2 rfl,cell_of (i:=20) h2 rfl,cell_of (i:=21) h2 rfl⟩) (fun i hi=>by
  match i,hi with
  | 0,_=>exact .nil _
  | 1,_=>exact .nil _) (fun i hi=>by
  match i,hi with
  | 0,_=>exact .nil _
  | 1,_=>exact .nil _) (fun i hi=>by
  match i,hi with
  | 0,_=>exact .inl rfl
  | 1,_=>exact .inl rfl) (fun i hi=>by
  match i,hi with
  | 0,_=>exact .nil _
  | 1,_=>exact .nil _)⟩
theorem step_plx {W:World} {s c s3 c3:Nat} (h:W.heap[s]? = some (.cells (twoA 0 3) 27 (0,0))) (h2:W.heap[c]? = some (.cells (plA joiP (jq s3 c3)) 31 (0,0))) (hj:PlX W joiP (jq s3 c3)):PlX W stpP (sq s c) :=
 ⟨.nil _,ks2_at h,.inl rfl,.some c 0 [joiP] (fun _=>jq s3 c3) (lt_of_heap h2) (fun i hi=>by
  match i,hi with
  | 0,_=>exact ⟨cell_of (i:=0) h2 rfl,cell_of (i:=1) h2 rfl,⟨cell_of (i:=2) h2 rfl,cell_of (i:=3) h2 rfl,cell_of (i:=4) h2 rfl,cell_of (i:=5) h2 rfl,cell_of (i:=6) h2 rfl,cell_of (i:=7) h2 rfl⟩,cell_of (i:=8) h2 rfl,cell_of (i:=9) h2 rfl,cell_of (i:=10) h2 rfl⟩) (fun i hi=>by
  match i,hi with
  | 0,_=>exact hj.x) (fun i hi=>by
  match i,hi with
  | 0,_=>exact hj.xs) (fun i hi=>by
  match i,hi with
  | 0,_=>exact hj.gs) (fun i hi=>by
  match i,hi with
  | 0,_=>exact hj.ks)⟩
theorem el_range {W:World} {b:Nat} {p:Pl} {q:Pw} (h:W.rangeAt b 0 (plA p q).toList):ElX W b p q :=
 ⟨⟨h 0 _ rfl,h 1 _ rfl,⟨h 2 _ rfl,h 3 _ rfl,h 4 _ rfl,h 5 _ rfl,h 6 _ rfl,h 7 _ rfl⟩,h 8 _ rfl,h 9 _ rfl,h 10 _ rfl⟩,World.block_lt_of_cell? _ _ (h 0 _ rfl)⟩
theorem col_at (k:Int) (w:World):Calls Tryz.prog 46 #[.int .i64 k] w fun e w'=>e = .returned (.agg (colA k))∧Below w.heap.size w w':=by
 go_enter Tryz.func46,Tryz.ntmps46
 go_wp2_with fail
 exact bodyPost_ret (v:=.agg (colA k)) (by simp [results,Tryz.results46,go_sem]) rfl ⟨rfl,(Below.refl _ _).alloc (Nat.le_refl _) _⟩
theorem heap_apart {W:World} {b s:Nat} {cs ds:Array Value} {T T':TypeId} (h:W.heap[b]? = some (.cells cs T (0,0))) (k:W.heap[s]? = some (.cells ds T' (0,0))) (hne:T≠T'∨cs.size≠ds.size):s≠b:=fun e=>by
 subst e
 rw [h] at k
 have k:=Option.some.inj k
 injection k with k1 k2
 subst k1 k2
 rcases hne with h | h <;> exact h rfl
/-- The plan of a join in a variable. -/
structure JoinIn (W:World) (b s c:Nat):Prop where
 hs:W.heap[s]? = some (.cells (twoA 1 2) 27 (0,0))
 hc:W.heap[c]? = some (.cells kidA 31 (0,0))
 el:ElX W b joiP (jq s c)
theorem JoinIn.next {W W':World} {b s c:Nat} (h:JoinIn W b s c) (hb:Below W.heap.size W W'):JoinIn W' b s c:=⟨(hb.block s (lt_of_heap h.hs)).trans h.hs,(hb.block c (lt_of_heap h.hc)).trans h.hc,h.el.next hb⟩
theorem JoinIn.px {W:World} {b s c:Nat} (h:JoinIn W b s c):PlX W joiP (jq s c):=join_plx h.hs h.hc
def f2 (lo:Nat) (d:Nat→Bool) (k:Nat) (W:World) (v:Value):Prop:=match k with
 | 0=>v = .agg (colA 1)
 | 1=>v = .agg (colA 2)
 | 2=>d 9=true∨∃ s,v = .slice (some ⟨s,0,none⟩) 2 2∧W.heap[s]? = some (.cells (twoA 1 2) 27 (0,0))
 | 3=>d 9=true∨∃ s,v = .agg #[.int .i64 6,.int .i64 0,.int .i64 0,.string ⟨#[]⟩,.int .i64 0,.slice (some ⟨s,0,none⟩) 2 2]∧W.heap[s]? = some (.cells (twoA 1 2) 27 (0,0))
 | 4=>v=plV (tabP 1) pw0
 | 5=>v=plV (tabP 0) pw0
 | 6=>d 9=true∨∃ c,v = .slice (some ⟨c,0,none⟩) 2 2∧W.heap[c]? = some (.cells kidA 31 (0,0))
 | 7=>d 9=true∨∃ s c,v=plV joiP (jq s c)∧W.heap[s]? = some (.cells (twoA 1 2) 27 (0,0))∧W.heap[c]? = some (.cells kidA 31 (0,0))
 | 8=>∃ b,v = .pointer (some ⟨b,0,none⟩)∧lo≤b∧(d 9=false→W.heap[b]? = some (.cells zPl 31 (0,0)))∧(d 9=true→∃ s c,JoinIn W b s c)
 | _=>True
def g2 (i:Nat) (a:Act) (W W':World):Prop:=(i≠9∧Below W.heap.size W W')∨(i=9∧∀ b,a.tmps.getD 3 undef = .pointer (some ⟨b,0,none⟩)→∃ s c,JoinIn W' b s c)
theorem done_at9 (d:Nat→Bool) (i:Nat):doneAt d i i=true:=by unfold doneAt; rw [if_pos rfl]
theorem done_ne {d:Nat→Bool} {i k:Nat} (h:i≠k):doneAt d i k=d k:=by unfold doneAt; rw [if_neg (Ne.symm h)]
theorem f2_next (lo:Nat):∀ d (a:Act) i j W W' v,j≠i→d i=false→(∀ o t,(opsN Tryz.f22 2)[j]? = some o→o.dst=some t→v=a.tmps.getD t undef)→f2 lo d j W v→g2 i a W W'→f2 lo (doneAt d i) j W' v:=by
 intro d a i j W W' v hne hd hv h hg
 rcases hg with ⟨h9,hb⟩ | ⟨rfl,hg⟩
 ·match j,h with
  | 0,h=>exact h
  | 1,h=>exact h
  | 2,h =>
   rcases h with h | ⟨s,e,h⟩
   ·exact .inl (by rw [done_ne h9]; exact h)
   ·exact .inr ⟨s,e,(hb.block s (lt_of_heap h)).trans h⟩
  | 3,h =>
   rcases h with h | ⟨s,e,h⟩
   ·exact .inl (by rw [done_ne h9]; exact h)
   ·exact .inr ⟨s,e,(hb.block s (lt_of_heap h)).trans h⟩
  | 6,h =>
   rcases h with h | ⟨s,e,h⟩
   ·exact .inl (by rw [done_ne h9]; exact h)
   ·exact .inr ⟨s,e,(hb.block s (lt_of_heap h)).trans h⟩
  | 4,h=>exact h
  | 5,h=>exact h
  | 7,h =>
   rcases h with h | ⟨s,c,e,h,h'⟩
   ·exact .inl (by rw [done_ne h9]; exact h)
   ·exact .inr ⟨s,c,e,(hb.block s (lt_of_heap h)).trans h,(hb.block c (lt_of_heap h')).trans h'⟩
  | 8,h =>
   obtain ⟨b,e,hl,h1,h2⟩:=h
   refine ⟨b,e,hl,fun h=>?_,fun h=>?_⟩
   ·rw [done_ne h9] at h
    exact (hb.block b (lt_of_heap (h1 h))).trans (h1 h)
   ·rw [done_ne h9] at h
    obtain ⟨s,c,J⟩:=h2 h
    exact ⟨s,c,J.next hb⟩
  | _+9,h=>exact trivial
 ·match j,h with
  | 0,h=>exact h
  | 1,h=>exact h
  | 2,h=>exact .inl (done_at9 d 9)
  | 3,h=>exact .inl (done_at9 d 9)
  | 4,h=>exact h
  | 5,h=>exact h
  | 6,h=>exact .inl (done_at9 d 9)
  | 7,h=>exact .inl (done_at9 d 9)
  | 8,h =>
   obtain ⟨b,e,hl,h1,h2⟩:=h
   refine ⟨b,e,hl,fun h=>?_,fun _=>hg b ?_⟩
   ·rw [done_at9] at h
    cases h
   ·rw [← e]
    exact (hv _ 3 rfl rfl).symm
  | _+9,h=>exact trivial

set_option maxRecDepth 100000 in
set_option maxHeartbeats 4000000 in
theorem paths2 {Q:Exit→Act→World→Prop} {b2:Nat} (a:Act) (w:World) (hsz:a.tmps.size=20) (h2:a.tmps.getD 2 undef = .pointer (some ⟨b2,0,none⟩)) (E2:ElX w b2 (tabP 0) pw0)
  (fin:∀ a' w' b s c,Below w.heap.size w w'→Same (opsN Tryz.f22 2) a a'→a'.tmps.getD 3 undef = .pointer (some ⟨b,0,none⟩)→w.heap.size≤b→JoinIn w' b s c→Q .normal a' w'):(Code.region 2 (opsN Tryz.f22 2) true).wp Tryz.prog Q a w:=by
 have HC:∀ {W W':World},Below w.heap.size w W→Below W.heap.size W W'→Below w.heap.size w W':=fun h h'=>chain h h'
 have HG:∀ {i:Nat} {a':Act} {W W':World},i≠9→Below W.heap.size W W'→g2 i a' W W':=fun h h'=>.inl ⟨h,h'⟩
 refine wp_region_done (by kernel_rfl) (fun W=>Below w.heap.size w W) (f2 w.heap.size) g2 (f2_next _) (by rw [hsz]; kernel_rfl) (Below.refl _ _).drew ?_ ?_
 ·refine ⟨?_,?_,?_,?_,?_,?_,?_,?_,?_,?_,trivial⟩
  ·refine sd_enter rfl rfl fun d a' W hc hs hd _ hf=>⟨46,#[.int .i64 1],?_,(col_at 1 W).mono fun e w' ⟨he,hb⟩=>⟨_,he,HC hc hb,HG (by decide) hb,rfl⟩⟩
   simp only [execOp,Act.eval,resolve,List.map_toArray,List.map_cons,List.map_nil]
   rfl
  ·refine sd_enter rfl rfl fun d a' W hc hs hd _ hf=>⟨46,#[.int .i64 2],?_,(col_at 2 W).mono fun e w' ⟨he,hb⟩=>⟨_,he,HC hc hb,HG (by decide) hb,rfl⟩⟩
   simp only [execOp,Act.eval,resolve,List.map_toArray,List.map_cons,List.map_nil]
   rfl
  ·refine sd_value rfl rfl fun d a' W hc hs hd hcl hf=>?_
   have k1:a'.tmps.getD 5 undef=_:=knownD hf (j:=0) (t:=5) (by kernel_rfl)
   have k2:a'.tmps.getD 6 undef=_:=knownD hf (j:=1) (t:=6) (by kernel_rfl)
   refine ⟨.slice (some ⟨W.heap.size,0,none⟩) 2 2,W.alloc (.cells (twoA 1 2) 27),?_,HC hc ((Below.refl _ _).alloc (Nat.le_refl _) _),HG (by decide) ((Below.refl _ _).alloc (Nat.le_refl _) _),.inr ⟨_,rfl,heap_new W (twoA 1 2) 27⟩⟩
   simp only [execOp,Act.eval,k1,k2,List.map_toArray,List.map_cons,List.map_nil]
   clear hf hcl hs fin HC HG
   clear k1 k2
   go_simp
  ·refine sd_value rfl rfl fun d a' W hc hs hd hcl hf=>?_
   have d9:d 9=false:=hcl.not hd (k:=9) rfl (by kernel_rfl)
   obtain ⟨s,k,H⟩:=(knownD hf (j:=2) (t:=7) (by kernel_rfl)).resolve_left (by rw [d9]; decide)
   refine ⟨.agg #[.int .i64 6,.int .i64 0,.int .i64 0,.string ⟨#[]⟩,.int .i64 0,.slice (some ⟨s,0,none⟩) 2 2],W,?_,hc,HG (by decide) (Below.refl _ _),.inr ⟨s,rfl,H⟩⟩
   simp only [execOp,Act.eval,k,List.map_toArray,List.map_cons,List.map_nil]
   clear hf hcl hs fin HC HG
   clear k H
   go_simp
  ·refine sd_value rfl rfl fun d a' W hc hs hd hcl hf=>?_
   refine ⟨plV (tabP 1) pw0,W,?_,hc,HG (by decide) (Below.refl _ _),rfl⟩
   simp only [execOp,Act.eval,List.map_toArray,List.map_cons,List.map_nil]
   clear hf hcl hs fin HC HG
   rw [tabV]
   go_simp
  ·refine sd_value rfl rfl fun d a' W hc hs hd hcl hf=>?_
   have h:a'.tmps.getD 2 undef=_:=(hs.tmps 2 (by kernel_rfl)).trans h2
   obtain ⟨y0,y1,⟨y2,y3,y4,y5,y6,y7⟩,y8,y9,y10⟩:=(E2.next hc).el
   simp only [Nat.zero_add] at y1 y2 y3 y4 y5 y6 y7 y8 y9 y10
   refine ⟨plV (tabP 0) pw0,W,?_,hc,HG (by decide) (Below.refl _ _),rfl⟩
   simp only [execOp,Act.eval,h]
   clear hf hcl hs fin HC HG h
   unfold plV
   go_simp
  ·refine sd_value rfl rfl fun d a' W hc hs hd hcl hf=>?_
   have k1:a'.tmps.getD 9 undef=_:=knownD hf (j:=4) (t:=9) (by kernel_rfl)
   have k2:a'.tmps.getD 10 undef=_:=knownD hf (j:=5) (t:=10) (by kernel_rfl)
   rw [tabV] at k1 k2
   refine ⟨.slice (some ⟨W.heap.size,0,none⟩) 2 2,W.alloc (.cells kidA 31),?_,HC hc ((Below.refl _ _).alloc (Nat.le_refl _) _),HG (by decide) ((Below.refl _ _).alloc (Nat.le_refl _) _),.inr ⟨_,rfl,heap_new W kidA 31⟩⟩
   simp only [execOp,Act.eval,k1,k2,List.map_toArray,List.map_cons,List.map_nil]
   clear hf hcl hs fin HC HG
   clear k1 k2
   go_simp
  ·refine sd_value rfl rfl fun d a' W hc hs hd hcl hf=>?_
   have d9:d 9=false:=hcl.not hd (k:=9) rfl (by kernel_rfl)
   obtain ⟨s,k,H⟩:=(knownD hf (j:=3) (t:=8) (by kernel_rfl)).resolve_left (by rw [d9]; decide)
   obtain ⟨c,k2,H2⟩:=(knownD hf (j:=6) (t:=11) (by kernel_rfl)).resolve_left (by rw [d9]; decide)
   refine ⟨plV joiP (jq s c),W,?_,hc,HG (by decide) (Below.refl _ _),.inr ⟨s,c,rfl,H,H2⟩⟩
   simp only [execOp,Act.eval,k,k2,List.map_toArray,List.map_cons,List.map_nil]
   clear hf hcl hs fin HC HG
   clear k k2 H H2
   rw [joiV]
   go_simp
  ·refine sd_value rfl rfl fun d a' W hc hs hd hcl hf=>?_
   have d9:d 9=false:=hcl.not hd (k:=9) rfl (by kernel_rfl)
   refine ⟨.pointer (some ⟨W.heap.size,0,none⟩),W.alloc (.cells zPl 31),?_,HC hc ((Below.refl _ _).alloc (Nat.le_refl _) _),HG (by decide) ((Below.refl _ _).alloc (Nat.le_refl _) _),⟨_,rfl,hc.size,fun _=>heap_new W zPl 31,fun h=>by rw [done_ne (by decide),d9] at h; cases h⟩⟩
   simp only [execOp]
   clear hf hcl hs fin HC HG
   clear d9
   go_simp
  ·intro d a' W hc hs hd hcl hf
   obtain ⟨s,c,e7,H1,H2⟩:=(knownD hf (j:=7) (t:=12) (by kernel_rfl)).resolve_left (by rw [hd]; decide)
   obtain ⟨b,e8,hl,hz,_⟩:=knownD hf (j:=8) (t:=3) (by kernel_rfl)
   have H:=hz hd
   have n1:s≠b:=heap_apart H H1 (.inl (by decide))
   have n2:c≠b:=heap_apart H H2 (.inr (by decide))
   refine wpOp_one rfl rfl ?_
   refine wp_store_mid 31 (.tmp 3) (.tmp 12) rfl b 0 (plA joiP (jq s c)) e8 e7 (show W.there b 0 11 from there_at_ H) (by kernel_rfl) (by kernel_rfl) ?_
   have X:=setCells_X b (plA joiP (jq s c)).toList 0 W
   refine ⟨undef,rfl,hc.trans (X.below hl),.inr ⟨rfl,fun b' e'=>?_⟩,trivial⟩
   rw [e8] at e'
   have e':b=b':=by injection e' with e'; injection e' with e'; injection e'
   subst e'
   exact ⟨s,c,(X.2 s (lt_of_heap H1) n1).trans H1,(X.2 c (lt_of_heap H2) n2).trans H2,el_range (World.rangeAt_setCells_same _ _ _ _ (show W.there b 0 11 from there_at_ H))⟩
 ·intro d a' w' hc hs hall hf
  obtain ⟨b,e,hl,_,hj⟩:=hf 8 (of_decide_eq_true (by kernel_rfl)) _ 3 rfl rfl
  obtain ⟨s,c,J⟩:=hj (hall 9 (of_decide_eq_true (by kernel_rfl)))
  exact fin a' w' b s c hc hs e hl J
end Go.Proofs.YtohjlfhmnmcndaaGreat
/- tidelaw10.paths: its last region. -/
namespace Go.Proofs.YtohjlfhmnmcndaaGreat
open Go.RowKit Go.Lib Go.Shelf

/-- All but two blocks is as it was. -/
structure But2 (b0 b1:Nat) (w W:World):Prop where
 os:W.os=w.os
 tape:W.tape=w.tape
 output:W.output=w.output
 size:w.heap.size≤W.heap.size
 blk:∀ k,k<w.heap.size→k≠b0→k≠b1→W.heap[k]? = w.heap[k]?
 t0:W.there b0 0 11
 t1:W.there b1 0 11
theorem there_nx {W W':World} {b n:Nat} (h:W.there b 0 n) (hb:Below W.heap.size W W'):W'.there b 0 n:=fun j hj=>by
 have hl:b<W.heap.size:=by
  obtain ⟨v,hv⟩:=Option.isSome_iff_exists.1 (h j hj).1
  exact World.block_lt_of_cell? _ _ hv
 refine ⟨?_,?_⟩
 ·rw [hb.cell (p:=⟨b,_,none⟩) hl]
  exact (h j hj).1
 ·have:=(h j hj).2
  unfold World.frozen? at *
  rw [hb.block b hl]
  exact this
theorem But2.next {b0 b1:Nat} {w W W':World} (h:But2 b0 b1 w W) (hb:Below W.heap.size W W'):But2 b0 b1 w W' :=
 ⟨hb.os.trans h.os,hb.tape.trans h.tape,hb.output.trans h.output,Nat.le_trans h.size hb.size,fun k hk h0 h1=>(hb.block k (Nat.lt_of_lt_of_le hk h.size)).trans (h.blk k hk h0 h1),there_nx h.t0 hb,there_nx h.t1 hb⟩
theorem But2.put {b0 b1 b:Nat} {w W:World} (h:But2 b0 b1 w W) (hb:b=b0∨b=b1) (vs:List Value):But2 b0 b1 w (W.setCells b 0 vs) :=
 have X:=setCells_X b vs 0 W
 ⟨X.1.os.trans h.os,X.1.tape.trans h.tape,X.1.output.trans h.output,Nat.le_trans h.size X.1.size,fun k hk h0 h1=>(X.2 k (Nat.lt_of_lt_of_le hk h.size) (by rcases hb with rfl | rfl <;> assumption)).trans (h.blk k hk h0 h1),World.there_setCells h.t0 _ _ _,World.there_setCells h.t1 _ _ _⟩
theorem But2.el {b0 b1 b:Nat} {w W:World} {p:Pl} {q:Pw} (h:But2 b0 b1 w W) (E:ElX w b p q) (h0:b≠b0) (h1:b≠b1):ElX W b p q:=by
 have hc:∀ o,W.cell? ⟨b,o,none⟩=w.cell? ⟨b,o,none⟩:=fun o=>World.cell?_of_block (w:=w) (a:=⟨b,o,none⟩) (h.blk b E.lt h0 h1)
 obtain ⟨y0,y1,⟨y2,y3,y4,y5,y6,y7⟩,y8,y9,y10⟩:=E.el
 exact ⟨⟨(hc _).trans y0,(hc _).trans y1,⟨(hc _).trans y2,(hc _).trans y3,(hc _).trans y4,(hc _).trans y5,(hc _).trans y6,(hc _).trans y7⟩,(hc _).trans y8,(hc _).trans y9,(hc _).trans y10⟩,Nat.lt_of_lt_of_le E.lt h.size⟩
def f3 (lo b0 b1 s c:Nat) (d:Nat→Bool) (k:Nat) (W:World) (v:Value):Prop:=match k with
 | 0=>v=plV (tabP 0) pw0∧(d 7=true→W.rangeAt b0 0 (plA (tabP 0) pw0).toList)
 | 1=>v = .agg (colA 0)
 | 2=>v = .agg (colA 3)
 | 3=>∃ s',v = .slice (some ⟨s',0,none⟩) 2 2∧lo≤s'∧W.heap[s']? = some (.cells (twoA 0 3) 27 (0,0))
 | 4=>v=plV joiP (jq s c)
 | 5=>∃ c',v = .slice (some ⟨c',0,none⟩) 1 1∧lo≤c'∧W.heap[c']? = some (.cells (plA joiP (jq s c)) 31 (0,0))
 | 6=>∃ s' c',v=plV stpP (sq s' c')∧lo≤s'∧lo≤c'∧W.heap[s']? = some (.cells (twoA 0 3) 27 (0,0))∧W.heap[c']? = some (.cells (plA joiP (jq s c)) 31 (0,0))∧(d 8=true→W.rangeAt b1 0 (plA stpP (sq s' c')).toList)
 | _=>True
def g3 (b0 b1 i:Nat) (a:Act) (W W':World):Prop:=(i≠7∧i≠8∧Below W.heap.size W W')∨(i=7∧W.there b0 0 11∧W'=W.setCells b0 0 (plA (tabP 0) pw0).toList)∨(i=8∧W.there b1 0 11∧∃ vs,a.tmps.getD 19 undef = .agg vs∧W'=W.setCells b1 0 vs.toList∧vs.size=11)
theorem range_nx {W W':World} {b:Nat} {cs:List Value} (h:W.rangeAt b 0 cs) (hb:Below W.heap.size W W'):W'.rangeAt b 0 cs:=fun j v hv=>(hb.cell (p:=⟨b,_,none⟩) (World.block_lt_of_cell? _ _ (h j v hv))).trans (h j v hv)
theorem f3_next {lo b0 b1:Nat} (s c:Nat) (l0:b0<lo) (l1:b1<lo) (ne:b0≠b1):∀ d (a:Act) i j W W' v,j≠i→d i=false→(∀ o t,(opsN Tryz.f22 3)[j]? = some o→o.dst=some t→v=a.tmps.getD t undef)→f3 lo b0 b1 s c d j W v→g3 b0 b1 i a W W'→f3 lo b0 b1 s c (doneAt d i) j W' v:=by
 intro d a i j W W' v hne hd hv h hg
 rcases hg with ⟨n7,n8,hb⟩ | ⟨rfl,ht,rfl⟩ | ⟨rfl,ht,vs,ev,rfl,hsz⟩
 ·match j,h with
  | 0,h=>exact ⟨h.1,fun k=>range_nx (h.2 (by rw [done_ne n7] at k; exact k)) hb⟩
  | 1,h=>exact h
  | 2,h=>exact h
  | 3,h =>
   obtain ⟨x,e,hl,h⟩:=h
   exact ⟨x,e,hl,(hb.block x (lt_of_heap h)).trans h⟩
  | 4,h=>exact h
  | 5,h =>
   obtain ⟨x,e,hl,h⟩:=h
   exact ⟨x,e,hl,(hb.block x (lt_of_heap h)).trans h⟩
  | 6,h =>
   obtain ⟨x,y,e,hl,hl',h,h',k⟩:=h
   exact ⟨x,y,e,hl,hl',(hb.block x (lt_of_heap h)).trans h,(hb.block y (lt_of_heap h')).trans h',fun m=>range_nx (k (by rw [done_ne n8] at m; exact m)) hb⟩
  | _+7,h=>exact trivial
 ·have X:=setCells_X b0 (plA (tabP 0) pw0).toList 0 W
  match j,h with
  | 0,h=>exact ⟨h.1,fun _=>World.rangeAt_setCells_same _ _ _ _ ht⟩
  | 1,h=>exact h
  | 2,h=>exact h
  | 3,h =>
   obtain ⟨x,e,hl,h⟩:=h
   exact ⟨x,e,hl,(X.2 x (lt_of_heap h) (by omega)).trans h⟩
  | 4,h=>exact h
  | 5,h =>
   obtain ⟨x,e,hl,h⟩:=h
   exact ⟨x,e,hl,(X.2 x (lt_of_heap h) (by omega)).trans h⟩
  | 6,h =>
   obtain ⟨x,y,e,hl,hl',h,h',k⟩:=h
   exact ⟨x,y,e,hl,hl',(X.2 x (lt_of_heap h) (by omega)).trans h,(X.2 y (lt_of_heap h') (by omega)).trans h',fun m=>World.rangeAt_setCells_apart (k (by rw [done_ne (by decide)] at m; exact m)) _ _ _ (.inl (Ne.symm ne))⟩
  | _+7,h=>exact trivial
 ·have X:=setCells_X b1 vs.toList 0 W
  match j,h with
  | 0,h=>exact ⟨h.1,fun m=>World.rangeAt_setCells_apart (h.2 (by rw [done_ne (by decide)] at m; exact m)) _ _ _ (.inl ne)⟩
  | 1,h=>exact h
  | 2,h=>exact h
  | 3,h =>
   obtain ⟨x,e,hl,h⟩:=h
   exact ⟨x,e,hl,(X.2 x (lt_of_heap h) (by omega)).trans h⟩
  | 4,h=>exact h
  | 5,h =>
   obtain ⟨x,e,hl,h⟩:=h
   exact ⟨x,e,hl,(X.2 x (lt_of_heap h) (by omega)).trans h⟩
  | 6,h =>
   obtain ⟨x,y,e,hl,hl',h,h',k⟩:=h
   refine ⟨x,y,e,hl,hl',(X.2 x (lt_of_heap h) (by omega)).trans h,(X.2 y (lt_of_heap h') (by omega)).trans h',fun _=>?_⟩
   have e2:=hv _ 19 rfl rfl
   rw [e,ev] at e2
   have e2:plA stpP (sq x y)=vs:=by injection e2
   rw [e2]
   exact World.rangeAt_setCells_same _ _ _ _ (by rw [Array.length_toList,hsz]; exact ht)
  | _+7,h=>exact trivial

set_option maxRecDepth 100000 in
set_option maxHeartbeats 4000000 in
theorem paths3 {Q:Exit→Act→World→Prop} {b0 b1 b2 b3 s c:Nat} (a:Act) (w:World) (hsz:a.tmps.size=20) (h0:a.tmps.getD 0 undef = .pointer (some ⟨b0,0,none⟩)) (h1:a.tmps.getD 1 undef = .pointer (some ⟨b1,0,none⟩)) (h2:a.tmps.getD 2 undef = .pointer (some ⟨b2,0,none⟩)) (h3:a.tmps.getD 3 undef = .pointer (some ⟨b3,0,none⟩))
  (Z0:w.heap[b0]? = some (.cells zPl 31 (0,0))) (Z1:w.heap[b1]? = some (.cells zPl 31 (0,0))) (ne:b0≠b1) (E2:ElX w b2 (tabP 0) pw0) (n20:b2≠b0) (n21:b2≠b1) (J:JoinIn w b3 s c) (n30:b3≠b0) (n31:b3≠b1)
  (fin:∀ a' w' s' c',But2 b0 b1 w w'→Same (opsN Tryz.f22 3) a a'→ElX w' b0 (tabP 0) pw0→ElX w' b1 stpP (sq s' c')→PlX w' stpP (sq s' c')→Q .normal a' w'):(Code.region 3 (opsN Tryz.f22 3) true).wp Tryz.prog Q a w:=by
 have HC:∀ {W W':World},But2 b0 b1 w W→Below W.heap.size W W'→But2 b0 b1 w W':=fun h h'=>h.next h'
 have HG:∀ {i:Nat} {a':Act} {W W':World},i≠7→i≠8→Below W.heap.size W W'→g3 b0 b1 i a' W W':=fun h h8 h'=>.inl ⟨h,h8,h'⟩
 have C0:But2 b0 b1 w w.drew:=But2.next ⟨rfl,rfl,rfl,Nat.le_refl _,fun _ _ _ _=>rfl,there_at_ Z0,there_at_ Z1⟩ (Below.refl _ _).drew
 refine wp_region_done (by kernel_rfl) (fun W=>But2 b0 b1 w W) (f3 w.heap.size b0 b1 s c) (g3 b0 b1) (f3_next s c (lt_of_heap Z0) (lt_of_heap Z1) ne) (by rw [hsz]; kernel_rfl) C0 ?_ ?_
 ·refine ⟨?_,?_,?_,?_,?_,?_,?_,?_,?_,trivial⟩
  ·refine sd_value rfl rfl fun d a' W hc hs hd hcl hf=>?_
   have h:a'.tmps.getD 2 undef=_:=(hs.tmps 2 (by kernel_rfl)).trans h2
   obtain ⟨y0,y1,⟨y2,y3,y4,y5,y6,y7⟩,y8,y9,y10⟩:=(hc.el E2 n20 n21).el
   simp only [Nat.zero_add] at y1 y2 y3 y4 y5 y6 y7 y8 y9 y10
   have d7:d 7=false:=hcl.not hd (k:=7) rfl (by kernel_rfl)
   refine ⟨plV (tabP 0) pw0,W,?_,hc,HG (by decide) (by decide) (Below.refl _ _),⟨rfl,fun m=>by rw [done_ne (by decide),d7] at m; cases m⟩⟩
   simp only [execOp,Act.eval,h]
   clear d7 hf hcl hs fin HC HG h
   unfold plV
   go_simp
  ·refine sd_enter rfl rfl fun d a' W hc hs hd _ hf=>⟨46,#[.int .i64 0],?_,(col_at 0 W).mono fun e w' ⟨he,hb⟩=>⟨_,he,HC hc hb,HG (by decide) (by decide) hb,rfl⟩⟩
   simp only [execOp,Act.eval,resolve,List.map_toArray,List.map_cons,List.map_nil]
   rfl
  ·refine sd_enter rfl rfl fun d a' W hc hs hd _ hf=>⟨46,#[.int .i64 3],?_,(col_at 3 W).mono fun e w' ⟨he,hb⟩=>⟨_,he,HC hc hb,HG (by decide) (by decide) hb,rfl⟩⟩
   simp only [execOp,Act.eval,resolve,List.map_toArray,List.map_cons,List.map_nil]
   rfl
  ·refine sd_value rfl rfl fun d a' W hc hs hd hcl hf=>?_
   have k1:a'.tmps.getD 14 undef=_:=knownD hf (j:=1) (t:=14) (by kernel_rfl)
   have k2:a'.tmps.getD 15 undef=_:=knownD hf (j:=2) (t:=15) (by kernel_rfl)
   refine ⟨.slice (some ⟨W.heap.size,0,none⟩) 2 2,W.alloc (.cells (twoA 0 3) 27),?_,HC hc ((Below.refl _ _).alloc (Nat.le_refl _) _),HG (by decide) (by decide) ((Below.refl _ _).alloc (Nat.le_refl _) _),⟨_,rfl,hc.size,heap_new W (twoA 0 3) 27⟩⟩
   simp only [execOp,Act.eval,k1,k2,List.map_toArray,List.map_cons,List.map_nil]
   clear hf hcl hs fin HC HG
   clear k1 k2
   go_simp
  ·refine sd_value rfl rfl fun d a' W hc hs hd hcl hf=>?_
   have h:a'.tmps.getD 3 undef=_:=(hs.tmps 3 (by kernel_rfl)).trans h3
   obtain ⟨y0,y1,⟨y2,y3,y4,y5,y6,y7⟩,y8,y9,y10⟩:=(hc.el J.el n30 n31).el
   simp only [Nat.zero_add] at y1 y2 y3 y4 y5 y6 y7 y8 y9 y10
   refine ⟨plV joiP (jq s c),W,?_,hc,HG (by decide) (by decide) (Below.refl _ _),rfl⟩
   simp only [execOp,Act.eval,h]
   clear hf hcl hs fin HC HG h
   unfold plV
   go_simp
  ·refine sd_value rfl rfl fun d a' W hc hs hd hcl hf=>?_
   have k1:a'.tmps.getD 17 undef=_:=knownD hf (j:=4) (t:=17) (by kernel_rfl)
   refine ⟨.slice (some ⟨W.heap.size,0,none⟩) 1 1,W.alloc (.cells (plA joiP (jq s c)) 31),?_,HC hc ((Below.refl _ _).alloc (Nat.le_refl _) _),HG (by decide) (by decide) ((Below.refl _ _).alloc (Nat.le_refl _) _),⟨_,rfl,hc.size,heap_new W (plA joiP (jq s c)) 31⟩⟩
   simp only [execOp,Act.eval,k1,List.map_toArray,List.map_cons,List.map_nil]
   clear hf hcl hs fin HC HG
   clear k1
   unfold plV
   go_simp
  ·refine sd_value rfl rfl fun d a' W hc hs hd hcl hf=>?_
   have d8:d 8=false:=hcl.not hd (k:=8) rfl (by kernel_rfl)
   obtain ⟨s',k1,l1,H1⟩:=knownD hf (j:=3) (t:=16) (by kernel_rfl)
   obtain ⟨c',k2,l2,H2⟩:=knownD hf (j:=5) (t:=18) (by kernel_rfl)
   refine ⟨plV stpP (sq s' c'),W,?_,hc,HG (by decide) (by decide) (Below.refl _ _),⟨s',c',rfl,l1,l2,H1,H2,fun m=>by rw [done_ne (by decide),d8] at m; cases m⟩⟩
   simp only [execOp,Act.eval,k1,k2,List.map_toArray,List.map_cons,List.map_nil]
   clear hf hcl hs fin HC HG
   clear k1 k2 d8 H1 H2
   rw [stpV]
   go_simp
  ·intro d a' W hc hs hd hcl hf
   have e1:a'.tmps.getD 0 undef=_:=(hs.tmps 0 (by kernel_rfl)).trans h0
   have e2:a'.tmps.getD 13 undef=_:=(knownD hf (j:=0) (t:=13) (by kernel_rfl)).1
   refine wpOp_one rfl rfl ?_
   refine wp_store_mid 31 (.tmp 0) (.tmp 13) rfl b0 0 (plA (tabP 0) pw0) e1 e2 hc.t0 (by kernel_rfl) (by kernel_rfl) ?_
   exact ⟨undef,rfl,hc.put (.inl rfl) _,.inr (.inl ⟨rfl,hc.t0,rfl⟩),trivial⟩
  ·intro d a' W hc hs hd hcl hf
   have e1:a'.tmps.getD 1 undef=_:=(hs.tmps 1 (by kernel_rfl)).trans h1
   obtain ⟨s',c',e2,_⟩:=knownD hf (j:=6) (t:=19) (by kernel_rfl)
   refine wpOp_one rfl rfl ?_
   refine wp_store_mid 31 (.tmp 1) (.tmp 19) rfl b1 0 (plA stpP (sq s' c')) e1 e2 hc.t1 (by kernel_rfl) (by kernel_rfl) ?_
   exact ⟨undef,rfl,hc.put (.inr rfl) _,.inr (.inr ⟨rfl,hc.t1,_,e2,rfl,rfl⟩),trivial⟩
 ·intro d a' w' hc hs hall hf
  obtain ⟨_,r0⟩:=hf 0 (of_decide_eq_true (by kernel_rfl)) _ 13 rfl rfl
  obtain ⟨s',c',_,_,_,H1,H2,r1⟩:=hf 6 (of_decide_eq_true (by kernel_rfl)) _ 19 rfl rfl
  have ns0:s≠b0:=heap_apart Z0 J.hs (.inl (by decide))
  have ns1:s≠b1:=heap_apart Z1 J.hs (.inl (by decide))
  have nc0:c≠b0:=heap_apart Z0 J.hc (.inr (by decide))
  have nc1:c≠b1:=heap_apart Z1 J.hc (.inr (by decide))
  have jx:PlX w' joiP (jq s c):=join_plx ((hc.blk s (lt_of_heap J.hs) ns0 ns1).trans J.hs) ((hc.blk c (lt_of_heap J.hc) nc0 nc1).trans J.hc)
  exact fin a' w' s' c' hc hs (el_range (r0 (hall 7 (of_decide_eq_true (by kernel_rfl))))) (el_range (r1 (hall 8 (of_decide_eq_true (by kernel_rfl))))) (step_plx H1 H2 jx)
end Go.Proofs.YtohjlfhmnmcndaaGreat
/- tidelaw10's paths, link. -/
namespace Go.Proofs.YtohjlfhmnmcndaaGreat
open Go.RowKit Go.Lib Go.Shelf

abbrev tabA:Array Value:=#[.int .i64 1,.int .i64 0,.int .i64 0,.int .i64 0,.int .i64 0,.string ⟨#[]⟩,.int .i64 0,.slice none 0 0,.slice none 0 0,.slice none 0 0,.slice none 0 0]
set_option maxRecDepth 100000 in
set_option maxHeartbeats 4000000 in
theorem paths_at (w:World):Calls Tryz.prog 22 #[] w fun e w'=>∃ s c,e = .returned (.tuple #[plV (tabP 0) pw0,plV stpP (sq s c)])∧PlX w' stpP (sq s c)∧Below w.heap.size w w':=by
 have z1:(w.alloc (.cells zPl 31)).heap.size=w.heap.size+1:=by simp
 have z2:((w.alloc (.cells zPl 31)).alloc (.cells zPl 31)).heap.size=w.heap.size+2:=by simp
 have b1:Below w.heap.size w (w.alloc (.cells zPl 31)):=(Below.refl _ _).alloc (Nat.le_refl _) _
 have b2:Below (w.alloc (.cells zPl 31)).heap.size (w.alloc (.cells zPl 31)) ((w.alloc (.cells zPl 31)).alloc (.cells zPl 31)):=(Below.refl _ _).alloc (Nat.le_refl _) _
 have b3:Below ((w.alloc (.cells zPl 31)).alloc (.cells zPl 31)).heap.size ((w.alloc (.cells zPl 31)).alloc (.cells zPl 31)) (((w.alloc (.cells zPl 31)).alloc (.cells zPl 31)).alloc (.cells tabA 31)):=(Below.refl _ _).alloc (Nat.le_refl _) _
 have Z0:=heap_new w zPl 31
 have Z1:=heap_new (w.alloc (.cells zPl 31)) zPl 31
 replace Z0:=((chain b2 b3).block _ (lt_of_heap Z0)).trans Z0
 replace Z1:=(b3.block _ (lt_of_heap Z1)).trans Z1
 have E2:ElX (((w.alloc (.cells zPl 31)).alloc (.cells zPl 31)).alloc (.cells tabA 31)) ((w.alloc (.cells zPl 31)).alloc (.cells zPl 31)).heap.size (tabP 0) pw0:=⟨Elv.new _ (tabP 0) pw0 31,by simp⟩
 rw [z1] at Z1
 rw [z2] at E2
 have hA:=chain b1 (chain b2 b3)
 clear z1 z2 b1 b2 b3
 go_enter Tryz.func22,Tryz.ntmps22
 go_upto_region 2 with fail
 generalize ((w.alloc (.cells zPl 31)).alloc (.cells zPl 31)).alloc (.cells tabA 31)=wA at *
 go_wp2_with fail
 rename_i K hK
 refine paths2 _ _ rfl rfl E2 ?_
 intro a1 v1 b s c hb1 S1 e3 hl J
 refine hK _ _ ?_
 refine wp_seq ?_
 have l0:=lt_of_heap Z0
 have l1:=lt_of_heap Z1
 have l2:=E2.lt
 have m0:=(hb1.block _ l0).trans Z0
 have m1:=(hb1.block _ l1).trans Z1
 refine paths3 (b0:=w.heap.size) (b1:=w.heap.size+1) (b2:=w.heap.size+2) (b3:=b) (s:=s) (c:=c) a1 v1 S1.size (S1.tmps 0 (by kernel_rfl)) (S1.tmps 1 (by kernel_rfl)) (S1.tmps 2 (by kernel_rfl)) e3 m0 m1 (by omega) (E2.next hb1) (by omega) (by omega) J (by omega) (by omega) ?_
 intro a2 v2 s' c' B2 S2 E0 E1 PX
 have t0:a2.tmps.getD 0 undef = .pointer (some ⟨w.heap.size,0,none⟩):=(S2.tmps 0 (by kernel_rfl)).trans (S1.tmps 0 (by kernel_rfl))
 have t1:a2.tmps.getD 1 undef = .pointer (some ⟨w.heap.size+1,0,none⟩):=(S2.tmps 1 (by kernel_rfl)).trans (S1.tmps 1 (by kernel_rfl))
 have hw:=chain hA hb1
 have hB:Below w.heap.size w v2:=⟨B2.os.trans hw.os,B2.tape.trans hw.tape,B2.output.trans hw.output,Nat.le_trans hw.size B2.size,fun k hk=>(B2.blk k (Nat.lt_of_lt_of_le hk hw.size) (by omega) (by omega)).trans (hw.block k hk)⟩
 obtain ⟨y0,y1,⟨y2,y3,y4,y5,y6,y7⟩,y8,y9,y10⟩:=E0.el
 simp only [Nat.zero_add] at y1 y2 y3 y4 y5 y6 y7 y8 y9 y10
 obtain ⟨x0,x1,⟨x2,x3,x4,x5,x6,x7⟩,x8,x9,x10⟩:=E1.el
 simp only [Nat.zero_add] at x1 x2 x3 x4 x5 x6 x7 x8 x9 x10
 refine wp_ret ?_
 refine bodyPost_ret (v:=.tuple #[plV (tabP 0) pw0,plV stpP (sq s' c')]) ?_ (S2.defers.trans S1.defers) ⟨s',c',rfl,PX,hB⟩
 simp only [Array.getD_eq_getD_getElem?] at t0 t1
 clear hB hw B2 PX E0 E1 m0 m1 Z0 Z1 E2 J hK K
 unfold plV
 simp [results,Tryz.results22,go_sem,t0,t1,y0,y1,y2,y3,y4,y5,y6,y7,y8,y9,y10,x0,x1,x2,x3,x4,x5,x6,x7,x8,x9,x10]
end Go.Proofs.YtohjlfhmnmcndaaGreat
/- tidelaw10's alive, plainly. -/
namespace Go.Proofs.YtohjlfhmnmcndaaGreat
open Go.RowKit Go.Lib Go.Shelf

def lnk (a b:Int):List Vl:=[(3,a,⟨#[]⟩),(3,b,⟨#[]⟩)]
def edgs:List Zp:=[(lnk 1 2,1),(lnk 2 3,1)]
theorem fix_alive1:(fixR [[3,3]] (tabP 0) stpP [edgs]).2.2=0:=by decide +kernel
theorem fix_alive2:(fixR [[3,3]] (tabP 0) stpP [edgs]).2.1=2:=by decide +kernel
theorem fix_alive3:(fixR [[3,3]] (tabP 0) stpP [edgs]).1.length=3:=by decide +kernel
end Go.Proofs.YtohjlfhmnmcndaaGreat
/- tidelaw10's link, alive. -/
namespace Go.Proofs.YtohjlfhmnmcndaaGreat
open Go.RowKit Go.Lib Go.Shelf

theorem sl_two {W:World} {s:Nat} {x y:Int} (h:W.heap[s]? = some (.cells #[.int .i64 3,.int .i64 x,.string ⟨#[]⟩,.int .i64 3,.int .i64 y,.string ⟨#[]⟩] 24 (0,0))):SlAt W (some ⟨s,0,none⟩) (lnk x y) :=
 ⟨by simp [lnk,maxLen],.inr ⟨s,0,rfl,fun i hi=>by
  match i,hi with
  | 0,_=>exact ⟨cell_of (i:=0) h rfl,cell_of (i:=1) h rfl,cell_of (i:=2) h rfl⟩
  | 1,_=>exact ⟨cell_of (i:=3) h rfl,cell_of (i:=4) h rfl,cell_of (i:=5) h rfl⟩,lt_of_heap h⟩⟩
theorem link_at (x y:Int) (w:World):Calls Tryz.prog 21 #[.int .i64 x,.int .i64 y] w fun e w'=>∃ s,e = .returned (.agg #[.slice (some ⟨s,0,none⟩) 2 2,.int .i64 1])∧SlAt w' (some ⟨s,0,none⟩) (lnk x y)∧Below w.heap.size w w':=by
 have hA:Below w.heap.size w ((w.alloc (.cells #[.slice (some ⟨w.heap.size+1,0,none⟩) 2 2,.int .i64 1] 58)).alloc (.cells #[.int .i64 3,.int .i64 x,.string ⟨#[]⟩,.int .i64 3,.int .i64 y,.string ⟨#[]⟩] 24)):=((Below.refl _ _).alloc (Nat.le_refl _) _).alloc (by simp) _
 have H:=heap_new (w.alloc (.cells #[.slice (some ⟨w.heap.size+1,0,none⟩) 2 2,.int .i64 1] 58)) #[.int .i64 3,.int .i64 x,.string ⟨#[]⟩,.int .i64 3,.int .i64 y,.string ⟨#[]⟩] 24
 rw [show (w.alloc (.cells #[.slice (some ⟨w.heap.size+1,0,none⟩) 2 2,.int .i64 1] 58)).heap.size=w.heap.size+1 by simp] at H
 have S:=sl_two H
 go_enter Tryz.func21,Tryz.ntmps21
 go_wp2_with fail
 exact bodyPost_ret (v:=.agg #[.slice (some ⟨w.heap.size+1,0,none⟩) 2 2,.int .i64 1]) (by simp [results,Tryz.results21,go_sem]) rfl ⟨_,rfl,S,hA⟩
/-- Facts of alive's region. -/
def f8 (lo s c:Nat) (_d:Nat→Bool) (k:Nat) (W:World) (v:Value):Prop:=match k with
 | 0=>∃ b,v = .slice (some ⟨b,0,none⟩) 2 2∧IX W (some ⟨b,0,none⟩) [3,3]
 | 1=>∃ b,v = .slice (some ⟨b,0,none⟩) 1 1∧TbX W (some ⟨b,0,none⟩) [[3,3]]
 | 2=>v=plV (tabP 0) pw0
 | 3=>v=plV stpP (sq s c)
 | 4=>∃ x,v = .agg #[.slice (some ⟨x,0,none⟩) 2 2,.int .i64 1]∧SlAt W (some ⟨x,0,none⟩) (lnk 1 2)
 | 5=>∃ x,v = .agg #[.slice (some ⟨x,0,none⟩) 2 2,.int .i64 1]∧SlAt W (some ⟨x,0,none⟩) (lnk 2 3)
 | 6=>∃ b,v = .slice (some ⟨b,0,none⟩) 2 2∧ZsAt W (some ⟨b,0,none⟩) edgs
 | 7=>∃ b,v = .slice (some ⟨b,0,none⟩) 1 1∧DtAt W (some ⟨b,0,none⟩) [edgs]
 | 8=>∃ u,v = .tuple #[u,.int .i64 2,.int .i64 0]∧OwnZ lo W u (fixR [[3,3]] (tabP 0) stpP [edgs]).1
 | 9=>∃ u,v = .tuple #[u,.int .i64 2,.int .i64 0]∧OwnZ lo W u (fixR [[3,3]] (tabP 0) stpP [edgs]).1
 | 10=>OwnZ lo W v (fixR [[3,3]] (tabP 0) stpP [edgs]).1
 | 11=>v = .int .i64 2
 | 12=>v = .int .i64 0
 | 13=>OwnZ lo W v (fixR [[3,3]] (tabP 0) stpP [edgs]).1
 | 14=>v = .int .i64 2
 | 15=>v = .int .i64 0
 | _=>True
theorem f8_next (lo s c:Nat):∀ d (i j:Nat) W W' v,f8 lo s c d j W v→Below W.heap.size W W'→f8 lo s c (doneAt d i) j W' v:=by
 intro d i j W W' v h hb
 match j,h with
 | 0,h=>obtain ⟨b,e,h⟩:=h; exact ⟨b,e,h.next hb⟩
 | 1,h=>obtain ⟨b,e,h⟩:=h; exact ⟨b,e,h.next hb⟩
 | 2,h=>exact h
 | 3,h=>exact h
 | 4,h=>obtain ⟨b,e,h⟩:=h; exact ⟨b,e,h.next hb⟩
 | 5,h=>obtain ⟨b,e,h⟩:=h; exact ⟨b,e,h.next hb⟩
 | 6,h=>obtain ⟨b,e,h⟩:=h; exact ⟨b,e,h.next hb⟩
 | 7,h=>obtain ⟨b,e,h⟩:=h; exact ⟨b,e,h.next hb⟩
 | 8,h=>obtain ⟨b,e,h⟩:=h; exact ⟨b,e,h.next hb⟩
 | 9,h=>obtain ⟨b,e,h⟩:=h; exact ⟨b,e,h.next hb⟩
 | 10,h=>exact OwnZ.next h hb
 | 11,h=>exact h
 | 12,h=>exact h
 | 13,h=>exact OwnZ.next h hb
 | 14,h=>exact h
 | 15,h=>exact h
 | _+16,h=>exact trivial
theorem tab_ok (n:Int) (h:-9223372036854775808≤n∧n≤9223372036854775807):PlOk (tabP n):=.mk _ _ _ _ _ _ h (by simp) (by simp) (fun p hp=>by cases hp)
theorem stp_ok:PlOk stpP:=.mk _ _ _ _ _ _ (by omega) (by simp) (by simp) fun p hp=>by
 simp at hp
 subst hp
 refine .mk _ _ _ _ _ _ (by omega) (by simp) (by simp) fun p hp=>?_
 simp at hp
 rcases hp with rfl | rfl
 ·exact tab_ok 1 (by omega)
 ·exact tab_ok 0 (by omega)
theorem zs2_at {W:World} {b x y:Nat} (h:W.heap[b]? = some (.cells #[.slice (some ⟨x,0,none⟩) 2 2,.int .i64 1,.slice (some ⟨y,0,none⟩) 2 2,.int .i64 1] 58 (0,0))) (hx:SlAt W (some ⟨x,0,none⟩) (lnk 1 2)) (hy:SlAt W (some ⟨y,0,none⟩) (lnk 2 3)):ZsAt W (some ⟨b,0,none⟩) edgs :=
 ⟨by simp [edgs,maxLen],.inr ⟨b,0,rfl,lt_of_heap h,fun i hi=>by
  match i,hi with
  | 0,_=>exact ⟨cell_of (i:=1) h rfl,_,2,cell_of (i:=0) h rfl,hx⟩
  | 1,_=>exact ⟨cell_of (i:=3) h rfl,_,2,cell_of (i:=2) h rfl,hy⟩⟩⟩
theorem is_two {W:World} {b:Nat} (h:W.heap[b]? = some (.cells #[.int .i64 3,.int .i64 3] 3 (0,0))):IX W (some ⟨b,0,none⟩) [3,3] :=
 ⟨by simp [maxLen],.inr ⟨b,0,rfl,lt_of_heap h,fun i hi=>by
  match i,hi with
  | 0,_=>exact cell_of (i:=0) h rfl
  | 1,_=>exact cell_of (i:=1) h rfl⟩⟩

set_option maxRecDepth 100000 in
set_option maxHeartbeats 4000000 in
theorem alive2 {Q:Exit→Act→World→Prop} {b1 b2 s c:Nat} (a:Act) (w:World) (hsz:a.tmps.size=34) (h1:a.tmps.getD 1 undef = .pointer (some ⟨b1,0,none⟩)) (h2:a.tmps.getD 2 undef = .pointer (some ⟨b2,0,none⟩)) (E1:ElX w b1 (tabP 0) pw0) (E2:ElX w b2 stpP (sq s c)) (PX:PlX w stpP (sq s c))
  (fin:∀ a' w' v,Below w.heap.size w w'→Same (opsN Tryz.f8 2) a a'→a'.tmps.getD 3 undef=v→a'.tmps.getD 4 undef = .int .i64 2→a'.tmps.getD 5 undef = .int .i64 0→OwnZ w.heap.size w' v (fixR [[3,3]] (tabP 0) stpP [edgs]).1→Q .normal a' w'):(Code.region 2 (opsN Tryz.f8 2) true).wp Tryz.prog Q a w:=by
 refine wp_region_done (by kernel_rfl) (fun W=>Below w.heap.size w W) (f8 w.heap.size s c) (fun _ _ W W'=>Below W.heap.size W W') (fun d _ i j W W' v _ _ _ h hb=>f8_next _ s c d i j W W' v h hb) (by rw [hsz]; kernel_rfl) (Below.refl _ _).drew ?_ ?_
 ·refine ⟨?_,?_,?_,?_,?_,?_,?_,?_,?_,?_,?_,?_,?_,?_,?_,?_,trivial⟩
  ·refine sd_value rfl rfl fun d a' W hc hs hd hcl hf=>?_
   have hal:Below W.heap.size W (W.alloc (.cells #[.int .i64 3,.int .i64 3] 3)):=(Below.refl _ _).alloc (Nat.le_refl _) _
   refine ⟨.slice (some ⟨W.heap.size,0,none⟩) 2 2,W.alloc (.cells #[.int .i64 3,.int .i64 3] 3),?_,chain hc hal,hal,⟨_,rfl,is_two (heap_new W #[.int .i64 3,.int .i64 3] 3)⟩⟩
   simp only [execOp,Act.eval,List.map_toArray,List.map_cons,List.map_nil]
   clear hf hcl hs fin hal
   go_simp
  ·refine sd_value rfl rfl fun d a' W hc hs hd hcl hf=>?_
   obtain ⟨b,k,H⟩:=knownD hf (j:=0) (t:=11) (by kernel_rfl)
   have hal:Below W.heap.size W (W.alloc (.cells #[.slice (some ⟨b,0,none⟩) 2 2] 45)):=(Below.refl _ _).alloc (Nat.le_refl _) _
   refine ⟨.slice (some ⟨W.heap.size,0,none⟩) 1 1,W.alloc (.cells #[.slice (some ⟨b,0,none⟩) 2 2] 45),?_,chain hc hal,hal,⟨_,rfl,TbX.one 2 H⟩⟩
   simp only [execOp,Act.eval,k,List.map_toArray,List.map_cons,List.map_nil]
   clear hf hcl hs fin hal
   clear k H
   go_simp
  ·refine sd_value rfl rfl fun d a' W hc hs hd hcl hf=>?_
   have h:a'.tmps.getD 1 undef=_:=(hs.tmps 1 (by kernel_rfl)).trans h1
   obtain ⟨y0,y1,⟨y2,y3,y4,y5,y6,y7⟩,y8,y9,y10⟩:=(E1.next hc).el
   simp only [Nat.zero_add] at y1 y2 y3 y4 y5 y6 y7 y8 y9 y10
   refine ⟨plV (tabP 0) pw0,W,?_,hc,Below.refl _ _,rfl⟩
   simp only [execOp,Act.eval,h]
   clear hf hcl hs fin h
   unfold plV
   go_simp
  ·refine sd_value rfl rfl fun d a' W hc hs hd hcl hf=>?_
   have h:a'.tmps.getD 2 undef=_:=(hs.tmps 2 (by kernel_rfl)).trans h2
   obtain ⟨y0,y1,⟨y2,y3,y4,y5,y6,y7⟩,y8,y9,y10⟩:=(E2.next hc).el
   simp only [Nat.zero_add] at y1 y2 y3 y4 y5 y6 y7 y8 y9 y10
   refine ⟨plV stpP (sq s c),W,?_,hc,Below.refl _ _,rfl⟩
   simp only [execOp,Act.eval,h]
   clear hf hcl hs fin h
   unfold plV
   go_simp
  ·refine sd_enter rfl rfl fun d a' W hc hs hd _ hf=>⟨21,#[.int .i64 1,.int .i64 2],?_,(link_at 1 2 W).mono fun e w' ⟨s,he,hS,hb⟩=>⟨_,he,chain hc hb,hb,s,rfl,hS⟩⟩
   simp only [execOp,Act.eval,resolve,List.map_toArray,List.map_cons,List.map_nil]
   rfl
  ·refine sd_enter rfl rfl fun d a' W hc hs hd _ hf=>⟨21,#[.int .i64 2,.int .i64 3],?_,(link_at 2 3 W).mono fun e w' ⟨s,he,hS,hb⟩=>⟨_,he,chain hc hb,hb,s,rfl,hS⟩⟩
   simp only [execOp,Act.eval,resolve,List.map_toArray,List.map_cons,List.map_nil]
   rfl
  ·refine sd_value rfl rfl fun d a' W hc hs hd hcl hf=>?_
   obtain ⟨x,k1,H1⟩:=knownD hf (j:=4) (t:=15) (by kernel_rfl)
   obtain ⟨y,k2,H2⟩:=knownD hf (j:=5) (t:=16) (by kernel_rfl)
   have hal:Below W.heap.size W (W.alloc (.cells #[.slice (some ⟨x,0,none⟩) 2 2,.int .i64 1,.slice (some ⟨y,0,none⟩) 2 2,.int .i64 1] 58)):=(Below.refl _ _).alloc (Nat.le_refl _) _
   refine ⟨.slice (some ⟨W.heap.size,0,none⟩) 2 2,W.alloc (.cells #[.slice (some ⟨x,0,none⟩) 2 2,.int .i64 1,.slice (some ⟨y,0,none⟩) 2 2,.int .i64 1] 58),?_,chain hc hal,hal,⟨_,rfl,zs2_at (heap_new W _ 58) (H1.next hal) (H2.next hal)⟩⟩
   simp only [execOp,Act.eval,k1,k2,List.map_toArray,List.map_cons,List.map_nil]
   clear hf hcl hs fin hal
   clear k1 k2 H1 H2
   go_simp
  ·refine sd_value rfl rfl fun d a' W hc hs hd hcl hf=>?_
   obtain ⟨b,k,H⟩:=knownD hf (j:=6) (t:=17) (by kernel_rfl)
   have hal:Below W.heap.size W (W.alloc (.cells #[.slice (some ⟨b,0,none⟩) 2 2] 34)):=(Below.refl _ _).alloc (Nat.le_refl _) _
   refine ⟨.slice (some ⟨W.heap.size,0,none⟩) 1 1,W.alloc (.cells #[.slice (some ⟨b,0,none⟩) 2 2] 34),?_,chain hc hal,hal,⟨_,rfl,dt_one (cap:=2) H (by intro e; cases e)⟩⟩
   simp only [execOp,Act.eval,k,List.map_toArray,List.map_cons,List.map_nil]
   clear hf hcl hs fin hal
   clear k H
   go_simp
  ·refine sd_enter rfl rfl fun d a' W hc hs hd _ hf=>?_
   obtain ⟨b1,k1,H1⟩:=knownD hf (j:=1) (t:=12) (by kernel_rfl)
   have k2:a'.tmps.getD 13 undef=_:=knownD hf (j:=2) (t:=13) (by kernel_rfl)
   have k3:a'.tmps.getD 14 undef=_:=knownD hf (j:=3) (t:=14) (by kernel_rfl)
   obtain ⟨b4,k4,H4⟩:=knownD hf (j:=7) (t:=18) (by kernel_rfl)
   have con:=fix_at [[3,3]] (tabP 0) pw0 stpP (sq s c) [edgs] (some ⟨b1,0,none⟩) 1 (some ⟨b4,0,none⟩) 1 W H1 (tabB _ _ 0) (tab_ok 0 (by omega)) (PX.next hc) stp_ok H4
   rw [fix_alive1,fix_alive2] at con
   refine ⟨9,#[.slice (some ⟨b1,0,none⟩) 1 1,plV (tabP 0) pw0,plV stpP (sq s c),.slice (some ⟨b4,0,none⟩) 1 1],?_,con.mono fun e w' ⟨u,he,hO,hb⟩=>⟨_,he,chain hc hb,hb,u,rfl,hO.mono hc.size⟩⟩
   simp only [execOp,Act.eval,k1,k2,k3,k4,resolve,List.map_toArray,List.map_cons,List.map_nil]
   rfl
  ·exact sd_again rfl rfl (.inl rfl) (j:=8) (by kernel_rfl) (fun _ _ _=>Below.refl _ _) (fun d W v h=>h)
  ·exact sd_extract rfl rfl rfl (j:=9) (by kernel_rfl) (fun _ _ _=>Below.refl _ _) (fun d W v h=>by obtain ⟨u,e,h⟩:=h; exact ⟨_,u,e,rfl,h⟩)
  ·exact sd_extract rfl rfl rfl (j:=9) (by kernel_rfl) (fun _ _ _=>Below.refl _ _) (fun d W v h=>by obtain ⟨u,e,h⟩:=h; exact ⟨_,_,e,rfl,rfl⟩)
  ·exact sd_extract rfl rfl rfl (j:=9) (by kernel_rfl) (fun _ _ _=>Below.refl _ _) (fun d W v h=>by obtain ⟨u,e,h⟩:=h; exact ⟨_,_,e,rfl,rfl⟩)
  ·exact sd_again rfl rfl (.inr rfl) (j:=10) (by kernel_rfl) (fun _ _ _=>Below.refl _ _) (fun d W v h=>h)
  ·exact sd_again rfl rfl (.inr rfl) (j:=11) (by kernel_rfl) (fun _ _ _=>Below.refl _ _) (fun d W v h=>h)
  ·exact sd_again rfl rfl (.inr rfl) (j:=12) (by kernel_rfl) (fun _ _ _=>Below.refl _ _) (fun d W v h=>h)
 ·intro d a' w' hc hs hall hf
  exact fin a' w' _ hc hs rfl (hf 14 (of_decide_eq_true (by kernel_rfl)) _ 4 rfl rfl) (hf 15 (of_decide_eq_true (by kernel_rfl)) _ 5 rfl rfl) (hf 13 (of_decide_eq_true (by kernel_rfl)) _ 3 rfl rfl)
end Go.Proofs.YtohjlfhmnmcndaaGreat
/- tidelaw10's alive. -/
namespace Go.Proofs.YtohjlfhmnmcndaaGreat
open Go.RowKit Go.Lib Go.Shelf

set_option maxRecDepth 100000 in
set_option maxHeartbeats 4000000 in
theorem alive10_at (w:World):Calls Tryz.prog 8 #[] w fun e w'=>e = .returned (.bool true)∧Below w.heap.size w w':=by
 have con:=paths_at w
 go_enter Tryz.func8,Tryz.ntmps8
 go_wp2_with fail
 refine con.mono ?_
 rintro e w1 ⟨s,c,rfl,PX,hb1⟩
 clear con
 rw [tabV,stpV]
 have z1:(w1.alloc (.cells tabA 31)).heap.size=w1.heap.size+1:=by simp
 have k1:Below w1.heap.size w1 (w1.alloc (.cells tabA 31)):=(Below.refl _ _).alloc (Nat.le_refl _) _
 have k2:Below (w1.alloc (.cells tabA 31)).heap.size (w1.alloc (.cells tabA 31)) ((w1.alloc (.cells tabA 31)).alloc (.cells #[.int .i64 3,.int .i64 0,.int .i64 0,.int .i64 0,.int .i64 0,.string ⟨#[]⟩,.int .i64 0,.slice none 0 0,.slice (some ⟨s,0,none⟩) 2 2,.slice none 0 0,.slice (some ⟨c,0,none⟩) 1 1] 31)):=(Below.refl _ _).alloc (Nat.le_refl _) _
 have E1:ElX (w1.alloc (.cells tabA 31)) w1.heap.size (tabP 0) pw0:=⟨Elv.new _ (tabP 0) pw0 31,by simp⟩
 have E2:ElX ((w1.alloc (.cells tabA 31)).alloc (.cells #[.int .i64 3,.int .i64 0,.int .i64 0,.int .i64 0,.int .i64 0,.string ⟨#[]⟩,.int .i64 0,.slice none 0 0,.slice (some ⟨s,0,none⟩) 2 2,.slice none 0 0,.slice (some ⟨c,0,none⟩) 1 1] 31)) (w1.alloc (.cells tabA 31)).heap.size stpP (sq s c):=⟨Elv.new _ stpP (sq s c) 31,by simp⟩
 replace E1:=E1.next k2
 rw [z1] at E2
 replace PX:=PX.next (chain k1 k2)
 have hA:=chain hb1 (chain k1 k2)
 clear z1 k1 k2 hb1
 go_upto_region 2 with fail
 generalize (w1.alloc (.cells tabA 31)).alloc (.cells #[.int .i64 3,.int .i64 0,.int .i64 0,.int .i64 0,.int .i64 0,.string ⟨#[]⟩,.int .i64 0,.slice none 0 0,.slice (some ⟨s,0,none⟩) 2 2,.slice none 0 0,.slice (some ⟨c,0,none⟩) 1 1] 31)=w2 at *
 go_wp2_with fail
 rename_i K hK
 refine alive2 _ _ rfl rfl rfl E1 E2 PX ?_
 intro a3 w3 v3 hb3 S3 e3 e4 e5 O3
 refine hK _ _ ?_
 clear hK K
 obtain ⟨x3,c3,rfl,Z3,_⟩:=O3.zs2
 rw [fix_alive3] at e3
 have ea:=S3.putsT (l:=[some 11,some 12,some 13,some 14,some 15,some 16,some 17,some 18,some 19,some 10,some 20,some 21,some 22,some 3,some 4,some 5]) (by kernel_rfl)
 simp only [putsT,Act.put,List.setIfInBounds_toArray,List.set_cons_zero,List.set_cons_succ,e3,e4,e5] at ea
 generalize a3.tmps.getD 11 undef=u11,a3.tmps.getD 12 undef=u12,a3.tmps.getD 13 undef=u13,a3.tmps.getD 14 undef=u14,a3.tmps.getD 15 undef=u15,a3.tmps.getD 16 undef=u16,a3.tmps.getD 17 undef=u17,a3.tmps.getD 18 undef=u18,a3.tmps.getD 19 undef=u19,a3.tmps.getD 10 undef=u10,a3.tmps.getD 20 undef=u20,a3.tmps.getD 21 undef=u21,a3.tmps.getD 22 undef=u22 at ea
 subst ea
 go_wp2_with fail
 go_ret
 exact ⟨rfl,chain hA hb3⟩
end Go.Proofs.YtohjlfhmnmcndaaGreat
/- The laws' within, there, rising. -/
namespace Go.Proofs.YtohjlfhmnmcndaaGreat
open Go.RowKit Go.Lib Go.Shelf

def witB (a b:List Zp):Bool:=a.all fun r=>decide (1≤wt b r.1)
theorem wit_next {l b:List Zp} {j:Nat} (h:j<l.length):witB (l.drop j) b=(decide (1≤wt b l[j].1) && witB (l.drop (j+1)) b):=by unfold witB; rw [List.drop_eq_getElem_cons h,List.all_cons]
theorem wit_end {l b:List Zp} {j:Nat} (h:l.length≤j):witB (l.drop j) b=true:=by unfold witB; rw [List.drop_eq_nil_of_le h]; rfl

set_option maxRecDepth 100000 in
set_option maxHeartbeats 2000000 in
theorem within_at (l b:List Zp) (a:Option Addr) (ac:Nat) (ba:Option Addr) (bc:Nat) (w:World) (h:ZsAt w a l) (h':ZsAt w ba b) (hr:Rise b) (hl:b.length≤100000) (hz:l.length≤100000) :
  Calls Tryz.prog 18 #[.slice a l.length ac,.slice ba b.length bc] w fun e w'=>e = .returned (.bool (witB l b))∧Below w.heap.size w w':=by
 generalize hR:witB l b=R
 have HR:Hid (R=witB (l.drop 0) b):=hR.symm
 have HRi:Hid (Rise b):=hr
 clear hR hr
 go_enter Tryz.func18,Tryz.ntmps18
 go_wp2_with fail
 go_loopw [9] (fun i wr=>∃ k:Nat,k≤l.length∧i = .int .i64 k∧Hid (R=witB (l.drop k) b)∧Below w.heap.size w wr) (fun i _=>l.length - (intOf i).toNat)
 case atStart=>exact ⟨0,Nat.zero_le _,rfl,HR,Below.refl _ _⟩
 case round =>
  clear HR
  obtain ⟨k,hk,rfl,HT,hb⟩:=hrel
  by_cases hlt:k<l.length
  ·obtain ⟨bb,off,rfl,hbl,c1,ar,cr,c0,sr⟩:=(h.next hb).elem hlt
   have hal:Below wr.heap.size wr (wr.alloc (.cells #[.slice ar l[k].1.length cr,.int .i64 l[k].2] 58)):=(Below.refl _ _).alloc (Nat.le_refl _) _
   have q0:=heap_new wr #[.slice ar l[k].1.length cr,.int .i64 l[k].2] 58
   have i1:(k:Int)<(l.length:Int):=by omega
   have HN:Hid (R=(decide (1≤wt b l[k].1) && witB (l.drop (k+1)) b)):=by show _=_; rw [HT.out,wit_next hlt]
   have con:=weight_at ba ar bc cr b l[k].1 _ (h'.next (chain hb hal)) (sr.next hal) HRi.out hl
   generalize wt b l[k].1=wv at *
   clear HT sr
   go_upto_region 4 with fail
   clear c0 c1
   generalize wr.alloc (.cells #[.slice ar l[k].1.length cr,.int .i64 l[k].2] 58)=wk at *
   have c0:=cell_of (i:=0) q0 rfl
   have c1:=cell_of (i:=1) q0 rfl
   clear q0
   by_cases h1:1≤wv
   ·have hb1:¬ wv<1:=by omega
    have HT':Hid (R=witB (l.drop (k+1)) b):=by show _=_; rw [HN.out,decide_eq_true h1]; rfl
    clear HN
    go_wp2_with (refine con.mono ?_; rintro e w5 ⟨rfl,hb5⟩)
    go_roundw
    case rel=>exact ⟨k+1,by omega,by go_num,HT',chain hb (chain hal hb5)⟩
    case measure=>simp [intOf]; omega
   ·have hb1:wv<1:=by omega
    have e:R=false:=by rw [HN.out,decide_eq_false h1]; rfl
    subst e
    clear HN
    go_wp2_with (refine con.mono ?_; rintro e w5 ⟨rfl,hb5⟩)
    go_ret
    exact ⟨rfl,chain hb (chain hal hb5)⟩
  ·have e:R=true:=by rw [HT.out,wit_end (by omega)]
   have hjn:¬ (k:Int)<(l.length:Int):=by omega
   subst e
   clear HT
   go_wp2_with fail
   go_ret
   exact ⟨rfl,hb⟩

def theB1 (z:List Zp):Bool:=z.all fun r=>decide (1≤r.2)
def theB (l:List (List Zp)):Bool:=l.all theB1
theorem the_next {l:List (List Zp)} {j:Nat} (h:j<l.length):theB (l.drop j)=(theB1 l[j] && theB (l.drop (j+1))):=by unfold theB; rw [List.drop_eq_getElem_cons h,List.all_cons]
theorem the_end {l:List (List Zp)} {j:Nat} (h:l.length≤j):theB (l.drop j)=true:=by unfold theB; rw [List.drop_eq_nil_of_le h]; rfl
theorem the1_next {l:List Zp} {j:Nat} (h:j<l.length):theB1 (l.drop j)=(decide (1≤l[j].2) && theB1 (l.drop (j+1))):=by unfold theB1; rw [List.drop_eq_getElem_cons h,List.all_cons]
theorem the1_end {l:List Zp} {j:Nat} (h:l.length≤j):theB1 (l.drop j)=true:=by unfold theB1; rw [List.drop_eq_nil_of_le h]; rfl

set_option maxRecDepth 100000 in
set_option maxHeartbeats 4000000 in
theorem there_at (l:List (List Zp)) (a:Option Addr) (ac:Nat) (w:World) (h:DtAt w a l) (hz:l.length≤1000000000000) :
  Calls Tryz.prog 13 #[.slice a l.length ac] w fun e w'=>e = .returned (.bool (theB l))∧Below w.heap.size w w':=by
 generalize hR:theB l=R
 have HR:Hid (R=theB (l.drop 0)):=hR.symm
 clear hR
 go_enter Tryz.func13,Tryz.ntmps13
 go_wp2_with fail
 go_loopw [9] (fun i wr=>∃ k:Nat,k≤l.length∧i = .int .i64 k∧Hid (R=theB (l.drop k))∧Below w.heap.size w wr) (fun i _=>l.length - (intOf i).toNat)
 case atStart=>exact ⟨0,Nat.zero_le _,rfl,HR,Below.refl _ _⟩
 case round =>
  clear HR
  obtain ⟨k,hk,rfl,HT,hb⟩:=hrel
  by_cases hlt:k<l.length
  rotate_left
  ·have e:R=true:=by rw [HT.out,the_end (by omega)]
   have hjn:¬ (k:Int)<(l.length:Int):=by omega
   subst e
   clear HT
   go_wp2_with fail
   go_ret
   exact ⟨rfl,hb⟩
  obtain ⟨bb,off,ak,ck,rfl,hbl,c0,zk,_⟩:=(h.next hb).elem hlt
  have i1:(k:Int)<(l.length:Int):=by omega
  have zl:l[k].length≤9223372036854775807:=by have:=zk.1; unfold maxLen at this; omega
  have HN:Hid (R=(theB1 (l[k].drop 0) && theB (l.drop (k+1)))):=by show _=_; rw [HT.out,the_next hlt]; rfl
  generalize l[k]=z at *
  clear HT
  go_wp2_with fail
  clear c0
  generalize hw0:wr=w0 at *
  have HW0:Hid (wr=w0):=hw0
  clear hw0
  go_loopw [15] (fun i ws=>∃ j:Nat,j≤z.length∧i = .int .i64 j∧Hid (R=(theB1 (z.drop j) && theB (l.drop (k+1))))∧Below w0.heap.size w0 ws) (fun i _=>z.length - (intOf i).toNat)
  case atStart=>exact ⟨0,Nat.zero_le _,rfl,HN,Below.refl _ _⟩
  case round =>
   clear HN
   obtain ⟨j,hj,rfl,HT,hb2⟩:=hrel
   have hA2:=chain hb hb2
   by_cases hlj:j<z.length
   rotate_left
   ·have HT':Hid (R=theB (l.drop (k+1))):=by show _=_; rw [HT.out,the1_end (by omega)]; rfl
    have hjn:¬ (j:Int)<(z.length:Int):=by omega
    clear HT
    go_wp2_with fail
    go_roundw
    case rel=>exact ⟨k+1,by omega,by go_num,HT',hA2⟩
    case measure=>simp [intOf]; omega
   obtain ⟨bb2,off2,rfl,hbl2,c1,ar,cr,c0,sr⟩:=(zk.next hb2).elem hlj
   have hal:Below wr.heap.size wr (wr.alloc (.cells #[.slice ar z[j].1.length cr,.int .i64 z[j].2] 58)):=(Below.refl _ _).alloc (Nat.le_refl _) _
   have q0:=heap_new wr #[.slice ar z[j].1.length cr,.int .i64 z[j].2] 58
   have i2:(j:Int)<(z.length:Int):=by omega
   have HN:Hid (R=(decide (1≤z[j].2) && theB1 (z.drop (j+1)) && theB (l.drop (k+1)))):=by show _=_; rw [HT.out,the1_next hlj]
   clear HT sr
   generalize z[j]=zj at *
   go_upto_region 7 with fail
   clear c0 c1
   generalize wr.alloc (.cells #[.slice ar zj.1.length cr,.int .i64 zj.2] 58)=wk at *
   have c0:=cell_of (i:=0) q0 rfl
   have c1:=cell_of (i:=1) q0 rfl
   clear q0
   by_cases h1:1≤zj.2
   ·have hb1:¬ zj.2<1:=by omega
    have HT':Hid (R=(theB1 (z.drop (j+1)) && theB (l.drop (k+1)))):=by show _=_; rw [HN.out,decide_eq_true h1]; rfl
    clear HN
    go_wp2_with fail
    go_roundw
    case rel=>exact ⟨j+1,by omega,by go_num,HT',chain hb2 hal⟩
    case measure=>simp [intOf]; omega
   ·have hb1:zj.2<1:=by omega
    have e:R=false:=by rw [HN.out,decide_eq_false h1]; rfl
    subst e
    clear HN
    go_wp2_with fail
    go_ret
    exact ⟨rfl,chain hA2 hal⟩
end Go.Proofs.YtohjlfhmnmcndaaGreat
/- Plainly: the least one. -/
namespace Go.Proofs.YtohjlfhmnmcndaaGreat

theorem One.len {z:List Zp} (h:One z):z.length≤100000:=by have:=((wrongZ_iff z).1 h.right).1; omega
theorem wit_of {a b:List Zp} (ha:One a) (h:∀ q,wt a q≤wt b q):witB a b=true:=by
 unfold witB
 rw [List.all_eq_true]
 intro r hr
 have h1:=h r.1
 rw [(ha.mem hr).2] at h1
 exact decide_eq_true h1
theorem wit_le {a b:List Zp} (ha:One a) (hb:One b) (h:witB a b=true) (q:List Vl):wt a q≤wt b q:=by
 unfold witB at h
 rw [List.all_eq_true] at h
 have h0:=hb.nonneg q
 rcases ha.wt01 q with e | e
 ·omega
 ·obtain ⟨x,hx,c,_⟩:=wt_posAt (l:=a) (q:=q) (by omega)
  have h1:=of_decide_eq_true (h x hx)
  rw [wt_congr c b] at h1
  omega
theorem wt_pos_all:∀ {z:List Zp},theB1 z=true→∀ q,0≤wt z q
 | [],_,_=>Int.le_refl _
 | x :: r,h,q=>by
  unfold theB1 at h
  rw [List.all_cons,Bool.and_eq_true] at h
  have h1:=of_decide_eq_true h.1
  have h2:=wt_pos_all (z:=r) h.2 q
  rw [wt]
  split <;> omega
theorem the_get {l:List (List Zp)} (h:theB l=true) (i:Nat) (q:List Vl):0≤wt (l.getD i []) q:=by
 unfold theB at h
 rw [List.all_eq_true] at h
 rcases Nat.lt_or_ge i l.length with hi | hi
 ·have e:l.getD i []=l[i]:=by simp [hi]
  rw [e]
  exact wt_pos_all (h _ (List.getElem_mem hi)) q
 ·have e:l.getD i [] = []:=by simp [hi]
  rw [e]
  exact Int.le_refl _
theorem snoc_get (l:List (List Zp)) (z:List Zp) (i:Nat):(l ++ [z]).getD i []=if i<l.length then l.getD i [] else if i=l.length then z else []:=by
 by_cases h:i<l.length
 ·rw [if_pos h]
  simp [List.getD_eq_getElem?_getD,List.getElem?_append_left h]
 ·rw [if_neg h]
  by_cases h2:i=l.length
  ·subst h2
   simp
  ·rw [if_neg h2]
   simp [List.getD_eq_getElem?_getD]
   rw [List.getElem?_eq_none (by simp; omega)]
   rfl
/-- A step that rises makes no fewer of more. -/
theorem step_mono {ts:List (List Int)} {p:Pl} {a b:List (List Zp)} (hr:risB p=true) (A:∀ (i:Nat) q,0≤wt (a.getD i []) q∧wt (a.getD i []) q≤wt (b.getD i []) q) (h1:evE ts a p=0) (h2:evE ts b p=0) (q:List Vl):wt (dstZ ts a p) q≤wt (dstZ ts b p) q:=by
 rw [dst_wt h1,dst_wt h2]
 obtain ⟨l1,_,e1,z1⟩:=ev_inv h1
 obtain ⟨_,_,e2,z2⟩:=ev_inv h2
 rw [z1,z2]
 exact (oneF_mono (rise_wt A p hr 0 1 (lookE_ok l1).2 e1 e2 q).2).2
theorem uni_le {x m d:List Zp} (hx:One x) (hm:One m) (h:bothE 1 x m=0) (h0:∀ q,0≤wt d q) (h1:∀ q,wt x q≤wt d q) (h2:∀ q,wt m q≤wt d q) (q:List Vl):wt (uniZ x m) q≤wt d q:=by
 rw [uni_wt h]
 have a1:=hx.wt01 q
 have a2:=hm.wt01 q
 have a3:=h0 q
 have a4:=h1 q
 have a5:=h2 q
 unfold oneF
 split <;> omega
theorem fix_least {ts:List (List Int)} {p p':Pl} {data:List (List Zp)} {d:List Zp} (h:(fixR ts p p' data).2.2=0) (hr:risB p'=true) (ht:theB data=true) (hd:One d) (he:evE (widL ts p) (data ++ [d]) p'=0) (hg:witB (dstZ ts data p) d=true) (hh:witB (dstZ (widL ts p) (data ++ [d]) p') d=true):witB (fixR ts p p' data).1 d=true:=by
 have F:=fix_ok (P:=fun x=>∀ q,wt x q≤wt d q) h (fun h1=>wit_le (one_dst h1) hd hg) fun x hx px h1 h2=>uni_le hx (one_dst h1) h2 hd.nonneg px fun q=>Int.le_trans (step_mono hr (fun i q=>by
  rw [snoc_get,snoc_get]
  split
  ·exact ⟨the_get ht i q,Int.le_refl _⟩
  ·split
   ·exact ⟨hx.nonneg q,px q⟩
   ·exact ⟨Int.le_refl _,Int.le_refl _⟩) h1 he q) (wit_le (one_dst he) hd hh q)
 exact wit_of F.one F.prop
end Go.Proofs.YtohjlfhmnmcndaaGreat
