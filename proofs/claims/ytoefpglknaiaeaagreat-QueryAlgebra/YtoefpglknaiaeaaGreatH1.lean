/- Together: FY, FZ, FW, FV, FU, LE. -/
import Derived.Deep.MidRow
import Derived.Lib.LazyBuf
import Derived.Test.YtoefpglknaiaeaaGreatH0
import Derived.Test.YtoefpglknaiaeaaGreatB12
/- Steps of a region by facts: values, lists of plans, plans. -/
namespace Go.Proofs.YtoefpglknaiaeaaGreat
open Go.RowKit Go.Lib Go.Shelf

inductive Fk where
 | val (v:Value)
 | sl (ks:List Pl)
 | pl (p:Pl)
 | blk (B:Nat) (f:Nat→Value) (cs:List Value)

def Fk.holds:Fk→World→Value→Prop
 | .val u,_,v=>v=u
 | .sl ks,w,v=>∃ b,v = .slice (some ⟨b,0,none⟩) ks.length ks.length∧PsX w (some ⟨b,0,none⟩) ks
 | .pl p,w,v=>∃ q,v=plV p q∧PlX w p q
 | .blk B f cs,w,v=>∃ b,v=f b∧B≤b∧w.heap[b]? = some (.cells cs.toArray 31 (0,0))

theorem Fk.next {k:Fk} {w w':World} {v:Value} (h:k.holds w v) (hb:Below w.heap.size w w'):k.holds w' v:=by
 cases k with
 | val u=>exact h
 | sl ks=>obtain ⟨b,e,H⟩:=h; exact ⟨b,e,H.next hb⟩
 | pl p=>obtain ⟨q,e,H⟩:=h; exact ⟨q,e,H.next hb⟩
 | blk B f cs=>obtain ⟨b,e,hB,H⟩:=h; exact ⟨b,e,hB,(hb.block b (lt_of_heap H)).trans H⟩

def tabF (tab:List Fk) (i:Nat) (w:World) (v:Value):Prop:=(tab.getD i (.val undef)).holds w v

section
variable {ops:Array Oper} {Q:Exit→Act→World→Prop} {C:World→Prop} {tab:List Fk} {I:Act→World→Prop} {a0:Act} {i:Nat} {o:Oper}

def Deps (ops:Array Oper) (tab:List Fk) (o:Oper) (a:Act) (w:World):Prop:=∀ e ∈ o.after,Region.binds .any e=true→FactOf ops (tabF tab) e.on a w

/-- o stands behind operation j, which leaves temporary t. -/
def atB (ops:Array Oper) (o:Oper) (j t:Nat):Bool:=(o.after.any fun e=>Region.binds .any e && e.on == j) && ((ops[j]?).bind (·.dst) == some t)

theorem known {a:Act} {w:World} {j t:Nat} (hf:Deps ops tab o a w) (h:atB ops o j t=true) {k:Fk} (hk:tab.getD j (.val undef)=k):k.holds w (a.tmps.getD t undef):=by
 unfold atB at h
 rw [Bool.and_eq_true,Array.any_eq_true] at h
 obtain ⟨⟨n,hn,h1⟩,h2⟩:=h
 have he:=Array.getElem_mem hn
 generalize o.after[n]=e at he h1
 rw [Bool.and_eq_true,beq_iff_eq] at h1
 obtain ⟨h1,rfl⟩:=h1
 rw [beq_iff_eq] at h2
 obtain ⟨oj,hj,hd⟩:=Option.bind_eq_some_iff.1 h2
 have:=hf e he h1 oj t hj hd
 unfold tabF at this
 rwa [hk] at this

/-- What it is asked under, if anything, holds. -/
def Wants (ops:Array Oper) (tab:List Fk) (o:Oper):Prop:=∀ a w,Deps ops tab o a w→Region.wanted o (yielded ops a.tmps)=true

theorem wants_none (h:o.guard=none):Wants ops tab o:=fun a w _=>by unfold Region.wanted; rw [h]
theorem wants_of {j t:Nat} (h:o.guard=some (j,true)) (hj:atB ops o j t=true) (hk:tab.getD j (.val undef) = .val (.bool true)):Wants ops tab o:=fun a w hf=>by
 have:=known hf hj hk
 unfold Region.wanted
 rw [h]
 unfold atB at hj
 rw [Bool.and_eq_true,beq_iff_eq] at hj
 have h2:a.tmps[t]? = some (.bool true):=by
  have h3:a.tmps.getD t undef = .bool true:=this
  rw [Array.getD_eq_getD_getElem?] at h3
  cases h4:a.tmps[t]? with
  | none=>rw [h4] at h3; cases h3
  | some u=>rw [h4] at h3; exact congrArg some h3
 show (yielded ops a.tmps j == some true)=true
 unfold yielded
 rw [hj.2]
 show (match a.tmps[t]? with | some (.bool b)=>some b | _=>none) == some true
 rw [h2]
 rfl

/-- The operation leaves the invariant be, whatever its value. -/
def Keeps (I:Act→World→Prop) (o:Oper):Prop:=∀ a w w' v,I a w→Below w.heap.size w w'→I (a.put o.dst v) w'
theorem keeps_true:Keeps (fun _ _=>True) o:=fun _ _ _ _ _ _=>trivial

theorem st_value (ho:ops[i]? = some o) (hw:Wants ops tab o) (hI:Keeps I o)
  (run:∀ a w,C w→Same ops a0 a→Deps ops tab o a w→∃ v w',(execOp a.eval o).run Tryz.prog w = .ok (.value v) w'∧Below w.heap.size w w'∧tabF tab i w' v) :
  StepOf Tryz.prog .any ops Q C (tabF tab) I a0 i o:=fun a w hc hs hJ hf=>by
 obtain ⟨v,w',e,hb,hv⟩:=run a w hc hs hf
 unfold wpOp
 rw [ho]
 show if Region.wanted o (yielded ops a.tmps) then _ else _
 rw [if_pos (hw a w hf)]
 left
 unfold Oper.wp
 rw [e]
 exact ⟨v,rfl,hb,hv,hI a w w' v hJ hb⟩

theorem st_enter (ho:ops[i]? = some o) (hw:Wants ops tab o) (hI:Keeps I o)
  (run:∀ a w,C w→Same ops a0 a→Deps ops tab o a w→∃ f args,(execOp a.eval o).run Tryz.prog w = .ok (.enter f args) w∧Calls Tryz.prog f args w fun e w'=>∃ v,e = .returned v∧Below w.heap.size w w'∧tabF tab i w' v) :
  StepOf Tryz.prog .any ops Q C (tabF tab) I a0 i o:=fun a w hc hs hJ hf=>by
 obtain ⟨f,args,e,hcall⟩:=run a w hc hs hf
 unfold wpOp
 rw [ho]
 show if Region.wanted o (yielded ops a.tmps) then _ else _
 rw [if_pos (hw a w hf)]
 left
 unfold Oper.wp
 rw [e]
 exact hcall.mono fun e w' ⟨v,he,hb,hv⟩=>by subst he; exact ⟨v,rfl,hb,hv,hI a w w' v hJ hb⟩

theorem st_move {t:Tmp} {u:Value} (ho:ops[i]? = some o) (hw:Wants ops tab o) (hI:Keeps I o) (hop:o.op = .move (.tmp t)) (ht:(ops.all fun o=>o.dst != some t)=true) (hu:a0.tmps.getD t undef=u) (hi:tab.getD i (.val undef) = .val u):StepOf Tryz.prog .any ops Q C (tabF tab) I a0 i o :=
 st_value ho hw hI fun a w _ hs _=>⟨u,w,by
  unfold execOp
  rw [hop]
  show (pure (.value (a.tmps.getD t undef)):Sem Next).run Tryz.prog w=_
  rw [hs.tmps t ht,hu]
  rfl,Below.refl _ _,by unfold tabF; rw [hi]; rfl⟩

theorem st_again {t:Tmp} {j:Nat} {u:Value} (ho:ops[i]? = some o) (hw:Wants ops tab o) (hI:Keeps I o) (hop:o.op = .move (.tmp t)∨o.op = .assign (.tmp t)) (hj:atB ops o j t=true) (hu:tab.getD j (.val undef) = .val u) (hi:tab.getD i (.val undef) = .val u):StepOf Tryz.prog .any ops Q C (tabF tab) I a0 i o :=
 st_value ho hw hI fun a w _ _ hf=>⟨u,w,by
  have h:a.tmps.getD t undef=u:=known hf hj hu
  unfold execOp
  rcases hop with hop | hop <;>
  ·rw [hop]
   show (pure (.value (a.tmps.getD t undef)):Sem Next).run Tryz.prog w=_
   rw [h]
   rfl,Below.refl _ _,by unfold tabF; rw [hi]; rfl⟩

theorem st_pick {t t':Tmp} {j j':Nat} (ho:ops[i]? = some o) (hw:Wants ops tab o) (hI:Keeps I o) (hop:o.op = .pick (.tmp t) (.tmp t') (.const (.bool false))) (hj:atB ops o j t=true) (hj':atB ops o j' t'=true) (hu:tab.getD j (.val undef) = .val (.bool true)) (hu':tab.getD j' (.val undef) = .val (.bool true)) (hi:tab.getD i (.val undef) = .val (.bool true)):StepOf Tryz.prog .any ops Q C (tabF tab) I a0 i o :=
 st_value ho hw hI fun a w _ _ hf=>⟨.bool true,w,by
  have h:a.tmps.getD t undef = .bool true:=known hf hj hu
  have h':a.tmps.getD t' undef = .bool true:=known hf hj' hu'
  unfold execOp
  rw [hop]
  simp only [Act.eval,h,h']
  rfl,Below.refl _ _,by unfold tabF; rw [hi]; rfl⟩

theorem st_load {t:Tmp} {b:Nat} {p:Pl} {q:Pw} (ho:ops[i]? = some o) (hw:Wants ops tab o) (hI:Keeps I o) (hop:o.op = .load 31 (.tmp t)) (ht:(ops.all fun o=>o.dst != some t)=true) (hu:a0.tmps.getD t undef = .pointer (some ⟨b,0,none⟩)) (hC:∀ w,C w→ElX w b p q∧PlX w p q) (hi:tab.getD i (.val undef) = .pl p):StepOf Tryz.prog .any ops Q C (tabF tab) I a0 i o :=
 st_value ho hw hI fun a w hc hs _=>⟨plV p q,w,by
  have h:a.tmps.getD t undef = .pointer (some ⟨b,0,none⟩):=(hs.tmps t ht).trans hu
  obtain ⟨y0,y1,⟨y2,y3,y4,y5,y6,y7⟩,y8,y9,y10⟩:=(hC w hc).1.el
  simp only [Nat.zero_add] at y1 y2 y3 y4 y5 y6 y7 y8 y9 y10
  unfold execOp plV
  rw [hop]
  simp only [Act.eval,h]
  clear h hs hc hC hu hi hop ho hw hI ht
  go_simp,Below.refl _ _,by unfold tabF; rw [hi]; exact ⟨q,rfl,(hC w hc).2⟩⟩

theorem st_build2 {t t':Tmp} {j j':Nat} {p p':Pl} (ho:ops[i]? = some o) (hw:Wants ops tab o) (hI:Keeps I o) (hop:o.op = .buildSlice 29 2 #[(0,.tmp t),(1,.tmp t')]) (hj:atB ops o j t=true) (hj':atB ops o j' t'=true) (hu:tab.getD j (.val undef) = .pl p) (hu':tab.getD j' (.val undef) = .pl p') (hi:tab.getD i (.val undef) = .sl [p,p']):StepOf Tryz.prog .any ops Q C (tabF tab) I a0 i o :=
 st_value ho hw hI fun a w _ _ hf=>by
  obtain ⟨q,h,H⟩:∃ q,a.tmps.getD t undef=plV p q∧PlX w p q:=known hf hj hu
  obtain ⟨q',h',H'⟩:∃ q,a.tmps.getD t' undef=plV p' q∧PlX w p' q:=known hf hj' hu'
  refine ⟨.slice (some ⟨w.heap.size,0,none⟩) 2 2,w.alloc (.cells #[.int .i64 p.k,.int .i64 p.n,.int .i64 p.x.k,.int .i64 p.x.v.1,.int .i64 p.x.v.2.1,.string p.x.v.2.2,.int .i64 p.x.c,.slice q.xa p.x.ks.length q.xc,.slice q.sa p.xs.length q.sc,.slice q.ga p.gs.length q.gc,.slice q.ka p.ks.length q.kc,.int .i64 p'.k,.int .i64 p'.n,.int .i64 p'.x.k,.int .i64 p'.x.v.1,.int .i64 p'.x.v.2.1,.string p'.x.v.2.2,.int .i64 p'.x.c,.slice q'.xa p'.x.ks.length q'.xc,.slice q'.sa p'.xs.length q'.sc,.slice q'.ga p'.gs.length q'.gc,.slice q'.ka p'.ks.length q'.kc] 31),?_,(Below.refl _ _).alloc (Nat.le_refl _) _,by unfold tabF; rw [hi]; exact ⟨_,rfl,PsX.two w H H'⟩⟩
  unfold execOp
  rw [hop]
  simp only [Act.eval,List.map_toArray,List.map_cons,List.map_nil,h,h']
  clear h h' H H' hf hu hu' hi hj hj' hop ho hw hI
  unfold plV
  go_simp

theorem st_build1 {t:Tmp} {j:Nat} {p:Pl} (ho:ops[i]? = some o) (hw:Wants ops tab o) (hI:Keeps I o) (hop:o.op = .buildSlice 29 1 #[(0,.tmp t)]) (hj:atB ops o j t=true) (hu:tab.getD j (.val undef) = .pl p) (hi:tab.getD i (.val undef) = .sl [p]):StepOf Tryz.prog .any ops Q C (tabF tab) I a0 i o :=
 st_value ho hw hI fun a w _ _ hf=>by
  obtain ⟨q,h,H⟩:∃ q,a.tmps.getD t undef=plV p q∧PlX w p q:=known hf hj hu
  refine ⟨.slice (some ⟨w.heap.size,0,none⟩) 1 1,w.alloc (.cells #[.int .i64 p.k,.int .i64 p.n,.int .i64 p.x.k,.int .i64 p.x.v.1,.int .i64 p.x.v.2.1,.string p.x.v.2.2,.int .i64 p.x.c,.slice q.xa p.x.ks.length q.xc,.slice q.sa p.xs.length q.sc,.slice q.ga p.gs.length q.gc,.slice q.ka p.ks.length q.kc] 31),?_,(Below.refl _ _).alloc (Nat.le_refl _) _,by unfold tabF; rw [hi]; exact ⟨_,rfl,PsX.one w H⟩⟩
  unfold execOp
  rw [hop]
  simp only [Act.eval,List.map_toArray,List.map_cons,List.map_nil,h]
  clear h H hf hu hi hj hop ho hw hI
  unfold plV
  go_simp

set_option maxRecDepth 100000 in
theorem st_on {t:Tmp} {j:Nat} {k:Int} {ks:List Pl} (ho:ops[i]? = some o) (hw:Wants ops tab o) (hI:Keeps I o) (hop:o.op = .call { callee:=.value (.func 26),args:=#[.const (.int .i64 k),.tmp t],argTypes:=#[3,29] }) (hj:atB ops o j t=true) (hu:tab.getD j (.val undef) = .sl ks) (hi:tab.getD i (.val undef) = .pl (onP k ks)):StepOf Tryz.prog .any ops Q C (tabF tab) I a0 i o :=
 st_enter ho hw hI fun a w _ _ hf=>by
  obtain ⟨b,h,H⟩:∃ b,a.tmps.getD t undef = .slice (some ⟨b,0,none⟩) ks.length ks.length∧PsX w (some ⟨b,0,none⟩) ks:=known hf hj hu
  refine ⟨26,#[.int .i64 k,.slice (some ⟨b,0,none⟩) ks.length ks.length],?_,(on_at k (some ⟨b,0,none⟩) ks.length ks.length w).mono fun e w' ⟨he,hb⟩=>⟨_,he,hb,?_⟩⟩
  ·unfold execOp
   rw [hop]
   simp only [Act.eval,h,resolve,List.map_toArray,List.map_cons,List.map_nil]
   rfl
  ·unfold tabF
   rw [hi]
   exact ⟨pwK (some ⟨b,0,none⟩) ks.length,rfl,onB _ (H.next hb)⟩

set_option maxRecDepth 100000 in
theorem st_is {t1 t2 t3 t4:Tmp} {j1 j2 j3 j4:Nat} {ts:List (List Int)} {data:List (List Zp)} {ta da:Option Addr} {tc dc:Nat} {p p':Pl} (ho:ops[i]? = some o) (hw:Wants ops tab o) (hI:Keeps I o) (hop:o.op = .call { callee:=.value (.func 27),args:=#[.tmp t1,.tmp t2,.tmp t3,.tmp t4],argTypes:=#[22,31,31,32] })
  (h1:atB ops o j1 t1=true) (h2:atB ops o j2 t2=true) (h3:atB ops o j3 t3=true) (h4:atB ops o j4 t4=true) (k1:tab.getD j1 (.val undef) = .val (.slice ta ts.length tc)) (k2:tab.getD j2 (.val undef) = .pl p) (k3:tab.getD j3 (.val undef) = .pl p') (k4:tab.getD j4 (.val undef) = .val (.slice da data.length dc))
  (hC:∀ w,C w→TbX w ta ts∧DtAt w da data) (hk:PlOk p) (hk':PlOk p') (hs:evE ts data p=0→evE ts data p'=0→evZ ts data p=evZ ts data p') (hi:tab.getD i (.val undef) = .val (.bool true)):StepOf Tryz.prog .any ops Q C (tabF tab) I a0 i o :=
 st_enter ho hw hI fun a w hc _ hf=>by
  have e1:a.tmps.getD t1 undef = .slice ta ts.length tc:=known hf h1 k1
  obtain ⟨q,e2,H⟩:∃ q,a.tmps.getD t2 undef=plV p q∧PlX w p q:=known hf h2 k2
  obtain ⟨q',e3,H'⟩:∃ q,a.tmps.getD t3 undef=plV p' q∧PlX w p' q:=known hf h3 k3
  have e4:a.tmps.getD t4 undef = .slice da data.length dc:=known hf h4 k4
  refine ⟨27,#[.slice ta ts.length tc,plV p q,plV p' q',.slice da data.length dc],?_,(is5_at ta tc ts p q p' q' da dc data w (hC w hc).1 H hk H' hk' (hC w hc).2 hs).mono fun e w' ⟨he,hb⟩=>⟨_,he,hb,?_⟩⟩
  ·unfold execOp
   rw [hop]
   simp only [Act.eval,e1,e2,e3,e4,resolve,List.map_toArray,List.map_cons,List.map_nil]
   rfl
  ·unfold tabF
   rw [hi]
   rfl
end
end Go.Proofs.YtoefpglknaiaeaaGreat
/- The last region of tidelaw5.QueryAlgebra, by facts. -/
namespace Go.Proofs.YtoefpglknaiaeaaGreat
open Go.RowKit Go.Lib Go.Shelf

def regs:Code→List (Array Oper)
 | .region _ ops _=>[ops]
 | .seq a b=>regs a ++ regs b
 | .cond _ a b=>regs a ++ regs b
 | _=>[]
def opsN (f:Func) (n:Nat):Array Oper:=(regs (f.body.getD .skip)).getD n #[]
theorem ok2 (k:Int) {p p':Pl} (h:PlOk p) (h':PlOk p'):PlOk (onP k [p,p']):=onOk fun r hr=>by
 simp only [List.mem_cons,List.not_mem_nil,or_false] at hr
 rcases hr with rfl | rfl
 ·exact h
 ·exact h'
theorem ok1 (k:Int) {p:Pl} (h:PlOk p):PlOk (onP k [p]):=onOk fun r hr=>by
 simp only [List.mem_cons,List.not_mem_nil,or_false] at hr
 subst hr
 exact h
def tab5 (ta:Option Addr) (tc:Nat) (ts:List (List Int)) (da:Option Addr) (dc:Nat) (data:List (List Zp)) (p p':Pl) (x:Ex):List Fk :=
 [.val (.slice ta ts.length tc),.pl p,.pl p',.sl [p,p'],.pl (onP 8 [p,p']),.pl p',.pl p,.sl [p',p],.pl (onP 8 [p',p]),.val (.slice da data.length dc),.val (.bool true),.val (.bool true),.val (.slice ta ts.length tc),.pl p,.pl p',.sl [p,p'],.pl (onP 8 [p,p']),.pl p',.sl [(onP 8 [p,p']),p'],.pl (onP 9 [(onP 8 [p,p']),p']),.pl p,.val (.slice da data.length dc),.val (.bool true),.val (.bool true),.val (.bool true),.val (.slice ta ts.length tc),.pl p,.sl [p],.pl (onP 11 [p]),.sl [(onP 11 [p])],.pl (onP 11 [(onP 11 [p])]),.pl p,.sl [p],.pl (onP 11 [p]),.val (.slice da data.length dc),.val (.bool true),.val (.bool true),.val (.bool true),.val (.slice ta ts.length tc),.pl p,.sl [p],.pl (onP 10 [p]),.sl [(onP 10 [p])],.pl (onP 11 [(onP 10 [p])]),.pl p,.sl [p],.pl (onP 11 [p]),.val (.slice da data.length dc),.val (.bool true),.val (.bool true),.val (.bool true),.val (.slice ta ts.length tc),.pl (.mk 5 0 x [] [] [p,p']),.pl (.mk 6 0 x [] [] [p,p']),.sl [(.mk 5 0 x [] [] [p,p']),(.mk 6 0 x [] [] [p,p'])],.pl (onP 8 [(.mk 5 0 x [] [] [p,p']),(.mk 6 0 x [] [] [p,p'])]),.pl p,.val (.slice da data.length dc),.val (.bool true),.val (.bool true),.val (.bool true)]

set_option maxRecDepth 100000 in
set_option maxHeartbeats 4000000 in
theorem region5 {Q:Exit→Act→World→Prop} {ta:Option Addr} {tc:Nat} {ts:List (List Int)} {da:Option Addr} {dc:Nat} {data:List (List Zp)} {p p':Pl} {x:Ex} {q6 q7 q11 q12:Pw} {b6 b7 b11 b12:Nat} (a:Act) (w:World)
  (hsz:a.tmps.size=87) (h0:a.tmps.getD 0 undef = .slice ta ts.length tc) (h4:a.tmps.getD 4 undef = .slice da data.length dc) (h6:a.tmps.getD 6 undef = .pointer (some ⟨b6,0,none⟩)) (h7:a.tmps.getD 7 undef = .pointer (some ⟨b7,0,none⟩)) (h11:a.tmps.getD 11 undef = .pointer (some ⟨b11,0,none⟩)) (h12:a.tmps.getD 12 undef = .pointer (some ⟨b12,0,none⟩))
  (E6:ElX w b6 p q6) (E7:ElX w b7 p' q7) (E11:ElX w b11 (.mk 5 0 x [] [] [p,p']) q11) (E12:ElX w b12 (.mk 6 0 x [] [] [p,p']) q12) (X6:PlX w p q6) (X7:PlX w p' q7) (X11:PlX w (.mk 5 0 x [] [] [p,p']) q11) (X12:PlX w (.mk 6 0 x [] [] [p,p']) q12) (T:TbX w ta ts) (D:DtAt w da data)
  (hk:PlOk p) (hk':PlOk p') (hkS:PlOk (.mk 5 0 x [] [] [p,p'])) (hkA:PlOk (.mk 6 0 x [] [] [p,p']))
  (fin:∀ a' w',Below w.heap.size w w'→a'.defers=a.defers→a'.tmps.size=87→a'.tmps.getD 10 undef = .bool true→Q .normal a' w'):(Code.region 5 (opsN Tryz.f6 5) true).wp Tryz.prog Q a w:=by
 refine wp_region_facts (by kernel_rfl) (fun W=>Below w.heap.size w W) (tabF (tab5 ta tc ts da dc data p p' x)) (fun _ _ h h'=>chain h h') (fun _ _ _ _ h h'=>Fk.next h h') (by rw [hsz]; kernel_rfl) (Below.refl _ _).drew ?_ ?_
 ·refine ⟨st_move (i:=0) rfl (wants_none rfl) keeps_true rfl (by kernel_rfl) h0 rfl,?_⟩
  refine ⟨st_load (i:=1) rfl (wants_none rfl) keeps_true rfl (by kernel_rfl) h6 (fun W h=>⟨E6.next h,X6.next h⟩) rfl,?_⟩
  refine ⟨st_load (i:=2) rfl (wants_none rfl) keeps_true rfl (by kernel_rfl) h7 (fun W h=>⟨E7.next h,X7.next h⟩) rfl,?_⟩
  refine ⟨st_build2 (i:=3) (j:=1) (j':=2) rfl (wants_none rfl) keeps_true rfl (by kernel_rfl) (by kernel_rfl) rfl rfl rfl,?_⟩
  refine ⟨st_on (i:=4) (j:=3) rfl (wants_none rfl) keeps_true rfl (by kernel_rfl) rfl rfl,?_⟩
  refine ⟨st_load (i:=5) rfl (wants_none rfl) keeps_true rfl (by kernel_rfl) h7 (fun W h=>⟨E7.next h,X7.next h⟩) rfl,?_⟩
  refine ⟨st_load (i:=6) rfl (wants_none rfl) keeps_true rfl (by kernel_rfl) h6 (fun W h=>⟨E6.next h,X6.next h⟩) rfl,?_⟩
  refine ⟨st_build2 (i:=7) (j:=5) (j':=6) rfl (wants_none rfl) keeps_true rfl (by kernel_rfl) (by kernel_rfl) rfl rfl rfl,?_⟩
  refine ⟨st_on (i:=8) (j:=7) rfl (wants_none rfl) keeps_true rfl (by kernel_rfl) rfl rfl,?_⟩
  refine ⟨st_move (i:=9) rfl (wants_none rfl) keeps_true rfl (by kernel_rfl) h4 rfl,?_⟩
  refine ⟨st_is (i:=10) (j1:=0) (j2:=4) (j3:=8) (j4:=9) (ts:=ts) (data:=data) rfl (wants_none rfl) keeps_true rfl (by kernel_rfl) (by kernel_rfl) (by kernel_rfl) (by kernel_rfl) rfl rfl rfl rfl (fun W h=>⟨T.next h,D.next h⟩) (ok2 8 hk hk') (ok2 8 hk' hk) (fun h1 h2=>alg_comm h1 h2) rfl,?_⟩
  refine ⟨st_again (i:=11) (j:=10) rfl (wants_none rfl) keeps_true (.inl rfl) (by kernel_rfl) rfl rfl,?_⟩
  refine ⟨st_move (i:=12) rfl (wants_of (j:=11) (t:=38) rfl (by kernel_rfl) rfl) keeps_true rfl (by kernel_rfl) h0 rfl,?_⟩
  refine ⟨st_load (i:=13) rfl (wants_of (j:=11) (t:=38) rfl (by kernel_rfl) rfl) keeps_true rfl (by kernel_rfl) h6 (fun W h=>⟨E6.next h,X6.next h⟩) rfl,?_⟩
  refine ⟨st_load (i:=14) rfl (wants_of (j:=11) (t:=38) rfl (by kernel_rfl) rfl) keeps_true rfl (by kernel_rfl) h7 (fun W h=>⟨E7.next h,X7.next h⟩) rfl,?_⟩
  refine ⟨st_build2 (i:=15) (j:=13) (j':=14) rfl (wants_of (j:=11) (t:=38) rfl (by kernel_rfl) rfl) keeps_true rfl (by kernel_rfl) (by kernel_rfl) rfl rfl rfl,?_⟩
  refine ⟨st_on (i:=16) (j:=15) rfl (wants_of (j:=11) (t:=38) rfl (by kernel_rfl) rfl) keeps_true rfl (by kernel_rfl) rfl rfl,?_⟩
  refine ⟨st_load (i:=17) rfl (wants_of (j:=11) (t:=38) rfl (by kernel_rfl) rfl) keeps_true rfl (by kernel_rfl) h7 (fun W h=>⟨E7.next h,X7.next h⟩) rfl,?_⟩
  refine ⟨st_build2 (i:=18) (j:=16) (j':=17) rfl (wants_of (j:=11) (t:=38) rfl (by kernel_rfl) rfl) keeps_true rfl (by kernel_rfl) (by kernel_rfl) rfl rfl rfl,?_⟩
  refine ⟨st_on (i:=19) (j:=18) rfl (wants_of (j:=11) (t:=38) rfl (by kernel_rfl) rfl) keeps_true rfl (by kernel_rfl) rfl rfl,?_⟩
  refine ⟨st_load (i:=20) rfl (wants_of (j:=11) (t:=38) rfl (by kernel_rfl) rfl) keeps_true rfl (by kernel_rfl) h6 (fun W h=>⟨E6.next h,X6.next h⟩) rfl,?_⟩
  refine ⟨st_move (i:=21) rfl (wants_of (j:=11) (t:=38) rfl (by kernel_rfl) rfl) keeps_true rfl (by kernel_rfl) h4 rfl,?_⟩
  refine ⟨st_is (i:=22) (j1:=12) (j2:=19) (j3:=20) (j4:=21) (ts:=ts) (data:=data) rfl (wants_of (j:=11) (t:=38) rfl (by kernel_rfl) rfl) keeps_true rfl (by kernel_rfl) (by kernel_rfl) (by kernel_rfl) (by kernel_rfl) rfl rfl rfl rfl (fun W h=>⟨T.next h,D.next h⟩) (ok2 9 (ok2 8 hk hk') hk') hk (fun h1 h2=>alg_back h1 h2) rfl,?_⟩
  refine ⟨st_pick (i:=23) (j:=11) (j':=22) rfl (wants_none rfl) keeps_true rfl (by kernel_rfl) (by kernel_rfl) rfl rfl rfl,?_⟩
  refine ⟨st_again (i:=24) (j:=23) rfl (wants_none rfl) keeps_true (.inl rfl) (by kernel_rfl) rfl rfl,?_⟩
  refine ⟨st_move (i:=25) rfl (wants_of (j:=24) (t:=51) rfl (by kernel_rfl) rfl) keeps_true rfl (by kernel_rfl) h0 rfl,?_⟩
  refine ⟨st_load (i:=26) rfl (wants_of (j:=24) (t:=51) rfl (by kernel_rfl) rfl) keeps_true rfl (by kernel_rfl) h6 (fun W h=>⟨E6.next h,X6.next h⟩) rfl,?_⟩
  refine ⟨st_build1 (i:=27) (j:=26) rfl (wants_of (j:=24) (t:=51) rfl (by kernel_rfl) rfl) keeps_true rfl (by kernel_rfl) rfl rfl,?_⟩
  refine ⟨st_on (i:=28) (j:=27) rfl (wants_of (j:=24) (t:=51) rfl (by kernel_rfl) rfl) keeps_true rfl (by kernel_rfl) rfl rfl,?_⟩
  refine ⟨st_build1 (i:=29) (j:=28) rfl (wants_of (j:=24) (t:=51) rfl (by kernel_rfl) rfl) keeps_true rfl (by kernel_rfl) rfl rfl,?_⟩
  refine ⟨st_on (i:=30) (j:=29) rfl (wants_of (j:=24) (t:=51) rfl (by kernel_rfl) rfl) keeps_true rfl (by kernel_rfl) rfl rfl,?_⟩
  refine ⟨st_load (i:=31) rfl (wants_of (j:=24) (t:=51) rfl (by kernel_rfl) rfl) keeps_true rfl (by kernel_rfl) h6 (fun W h=>⟨E6.next h,X6.next h⟩) rfl,?_⟩
  refine ⟨st_build1 (i:=32) (j:=31) rfl (wants_of (j:=24) (t:=51) rfl (by kernel_rfl) rfl) keeps_true rfl (by kernel_rfl) rfl rfl,?_⟩
  refine ⟨st_on (i:=33) (j:=32) rfl (wants_of (j:=24) (t:=51) rfl (by kernel_rfl) rfl) keeps_true rfl (by kernel_rfl) rfl rfl,?_⟩
  refine ⟨st_move (i:=34) rfl (wants_of (j:=24) (t:=51) rfl (by kernel_rfl) rfl) keeps_true rfl (by kernel_rfl) h4 rfl,?_⟩
  refine ⟨st_is (i:=35) (j1:=25) (j2:=30) (j3:=33) (j4:=34) (ts:=ts) (data:=data) rfl (wants_of (j:=24) (t:=51) rfl (by kernel_rfl) rfl) keeps_true rfl (by kernel_rfl) (by kernel_rfl) (by kernel_rfl) (by kernel_rfl) rfl rfl rfl rfl (fun W h=>⟨T.next h,D.next h⟩) (ok1 11 (ok1 11 hk)) (ok1 11 hk) (fun h1 h2=>alg_once (.inr rfl) h1 h2) rfl,?_⟩
  refine ⟨st_pick (i:=36) (j:=24) (j':=35) rfl (wants_none rfl) keeps_true rfl (by kernel_rfl) (by kernel_rfl) rfl rfl rfl,?_⟩
  refine ⟨st_again (i:=37) (j:=36) rfl (wants_none rfl) keeps_true (.inl rfl) (by kernel_rfl) rfl rfl,?_⟩
  refine ⟨st_move (i:=38) rfl (wants_of (j:=37) (t:=64) rfl (by kernel_rfl) rfl) keeps_true rfl (by kernel_rfl) h0 rfl,?_⟩
  refine ⟨st_load (i:=39) rfl (wants_of (j:=37) (t:=64) rfl (by kernel_rfl) rfl) keeps_true rfl (by kernel_rfl) h6 (fun W h=>⟨E6.next h,X6.next h⟩) rfl,?_⟩
  refine ⟨st_build1 (i:=40) (j:=39) rfl (wants_of (j:=37) (t:=64) rfl (by kernel_rfl) rfl) keeps_true rfl (by kernel_rfl) rfl rfl,?_⟩
  refine ⟨st_on (i:=41) (j:=40) rfl (wants_of (j:=37) (t:=64) rfl (by kernel_rfl) rfl) keeps_true rfl (by kernel_rfl) rfl rfl,?_⟩
  refine ⟨st_build1 (i:=42) (j:=41) rfl (wants_of (j:=37) (t:=64) rfl (by kernel_rfl) rfl) keeps_true rfl (by kernel_rfl) rfl rfl,?_⟩
  refine ⟨st_on (i:=43) (j:=42) rfl (wants_of (j:=37) (t:=64) rfl (by kernel_rfl) rfl) keeps_true rfl (by kernel_rfl) rfl rfl,?_⟩
  refine ⟨st_load (i:=44) rfl (wants_of (j:=37) (t:=64) rfl (by kernel_rfl) rfl) keeps_true rfl (by kernel_rfl) h6 (fun W h=>⟨E6.next h,X6.next h⟩) rfl,?_⟩
  refine ⟨st_build1 (i:=45) (j:=44) rfl (wants_of (j:=37) (t:=64) rfl (by kernel_rfl) rfl) keeps_true rfl (by kernel_rfl) rfl rfl,?_⟩
  refine ⟨st_on (i:=46) (j:=45) rfl (wants_of (j:=37) (t:=64) rfl (by kernel_rfl) rfl) keeps_true rfl (by kernel_rfl) rfl rfl,?_⟩
  refine ⟨st_move (i:=47) rfl (wants_of (j:=37) (t:=64) rfl (by kernel_rfl) rfl) keeps_true rfl (by kernel_rfl) h4 rfl,?_⟩
  refine ⟨st_is (i:=48) (j1:=38) (j2:=43) (j3:=46) (j4:=47) (ts:=ts) (data:=data) rfl (wants_of (j:=37) (t:=64) rfl (by kernel_rfl) rfl) keeps_true rfl (by kernel_rfl) (by kernel_rfl) (by kernel_rfl) (by kernel_rfl) rfl rfl rfl rfl (fun W h=>⟨T.next h,D.next h⟩) (ok1 11 (ok1 10 hk)) (ok1 11 hk) (fun h1 h2=>alg_once (.inl rfl) h1 h2) rfl,?_⟩
  refine ⟨st_pick (i:=49) (j:=37) (j':=48) rfl (wants_none rfl) keeps_true rfl (by kernel_rfl) (by kernel_rfl) rfl rfl rfl,?_⟩
  refine ⟨st_again (i:=50) (j:=49) rfl (wants_none rfl) keeps_true (.inl rfl) (by kernel_rfl) rfl rfl,?_⟩
  refine ⟨st_move (i:=51) rfl (wants_of (j:=50) (t:=77) rfl (by kernel_rfl) rfl) keeps_true rfl (by kernel_rfl) h0 rfl,?_⟩
  refine ⟨st_load (i:=52) rfl (wants_of (j:=50) (t:=77) rfl (by kernel_rfl) rfl) keeps_true rfl (by kernel_rfl) h11 (fun W h=>⟨E11.next h,X11.next h⟩) rfl,?_⟩
  refine ⟨st_load (i:=53) rfl (wants_of (j:=50) (t:=77) rfl (by kernel_rfl) rfl) keeps_true rfl (by kernel_rfl) h12 (fun W h=>⟨E12.next h,X12.next h⟩) rfl,?_⟩
  refine ⟨st_build2 (i:=54) (j:=52) (j':=53) rfl (wants_of (j:=50) (t:=77) rfl (by kernel_rfl) rfl) keeps_true rfl (by kernel_rfl) (by kernel_rfl) rfl rfl rfl,?_⟩
  refine ⟨st_on (i:=55) (j:=54) rfl (wants_of (j:=50) (t:=77) rfl (by kernel_rfl) rfl) keeps_true rfl (by kernel_rfl) rfl rfl,?_⟩
  refine ⟨st_load (i:=56) rfl (wants_of (j:=50) (t:=77) rfl (by kernel_rfl) rfl) keeps_true rfl (by kernel_rfl) h6 (fun W h=>⟨E6.next h,X6.next h⟩) rfl,?_⟩
  refine ⟨st_move (i:=57) rfl (wants_of (j:=50) (t:=77) rfl (by kernel_rfl) rfl) keeps_true rfl (by kernel_rfl) h4 rfl,?_⟩
  refine ⟨st_is (i:=58) (j1:=51) (j2:=55) (j3:=56) (j4:=57) (ts:=ts) (data:=data) rfl (wants_of (j:=50) (t:=77) rfl (by kernel_rfl) rfl) keeps_true rfl (by kernel_rfl) (by kernel_rfl) (by kernel_rfl) (by kernel_rfl) rfl rfl rfl rfl (fun W h=>⟨T.next h,D.next h⟩) (ok2 8 hkS hkA) hk (fun h1 h2=>alg_part h1 h2) rfl,?_⟩
  refine ⟨st_pick (i:=59) (j:=50) (j':=58) rfl (wants_none rfl) keeps_true rfl (by kernel_rfl) (by kernel_rfl) rfl rfl rfl,?_⟩
  refine ⟨st_again (i:=60) (j:=59) rfl (wants_none rfl) keeps_true (.inr rfl) (by kernel_rfl) rfl rfl,?_⟩
  trivial
 ·intro a' w' hb hs hf
  exact fin a' w' hb hs.defers (hs.size.trans hsz) (hf 60 _ 10 rfl rfl)
end Go.Proofs.YtoefpglknaiaeaaGreat
/- Two plans made and stored, whatever the order: a region of tidelaw5.QueryAlgebra by facts. -/
namespace Go.Proofs.YtoefpglknaiaeaaGreat
open Go.RowKit Go.Lib Go.Shelf

/-- The cells of a plan. -/
def plL (p:Pl) (q:Pw):List Value:=[.int .i64 p.k,.int .i64 p.n,.int .i64 p.x.k,.int .i64 p.x.v.1,.int .i64 p.x.v.2.1,.string p.x.v.2.2,.int .i64 p.x.c,.slice q.xa p.x.ks.length q.xc,.slice q.sa p.xs.length q.sc,.slice q.ga p.gs.length q.gc,.slice q.ka p.ks.length q.kc]
theorem el_of {w:World} {b:Nat} {p:Pl} {q:Pw} (h:w.rangeAt b 0 (plL p q)) (hb:b<w.heap.size):ElX w b p q:=by
 have g:∀ j v,(plL p q)[j]? = some v→w.cell? ⟨b,j,none⟩=some v:=fun j v hv=>by
  have:=h j v hv
  rwa [Nat.zero_add] at this
 exact ⟨⟨g 0 _ rfl,g 1 _ rfl,⟨g 2 _ rfl,g 3 _ rfl,g 4 _ rfl,g 5 _ rfl,g 6 _ rfl,g 7 _ rfl⟩,g 8 _ rfl,g 9 _ rfl,g 10 _ rfl⟩,hb⟩
theorem ps_of {w:World} {s:Nat} {p p':Pl} {q q':Pw} (h:w.rangeAt s 0 (plL p q ++ plL p' q')) (hs:s<w.heap.size) (X:PlX w p q) (X':PlX w p' q'):PsX w (some ⟨s,0,none⟩) [p,p']:=by
 have g:∀ j v,(plL p q ++ plL p' q')[j]? = some v→w.cell? ⟨s,j,none⟩=some v:=fun j v hv=>by
  have:=h j v hv
  rwa [Nat.zero_add] at this
 refine .some s 0 [p,p'] (fun i=>if i=0 then q else q') hs ?_ ?_ ?_ ?_ ?_
 ·intro i hi
  match i,hi with
  | 0,_=>exact ⟨g 0 _ rfl,g 1 _ rfl,⟨g 2 _ rfl,g 3 _ rfl,g 4 _ rfl,g 5 _ rfl,g 6 _ rfl,g 7 _ rfl⟩,g 8 _ rfl,g 9 _ rfl,g 10 _ rfl⟩
  | 1,_=>exact ⟨g 11 _ rfl,g 12 _ rfl,⟨g 13 _ rfl,g 14 _ rfl,g 15 _ rfl,g 16 _ rfl,g 17 _ rfl,g 18 _ rfl⟩,g 19 _ rfl,g 20 _ rfl,g 21 _ rfl⟩
 ·intro i hi
  match i,hi with
  | 0,_=>exact X.x
  | 1,_=>exact X'.x
 ·intro i hi
  match i,hi with
  | 0,_=>exact X.xs
  | 1,_=>exact X'.xs
 ·intro i hi
  match i,hi with
  | 0,_=>exact X.gs
  | 1,_=>exact X'.gs
 ·intro i hi
  match i,hi with
  | 0,_=>exact X.ks
  | 1,_=>exact X'.ks

theorem range_of {w:World} {b:Nat} {cs:List Value} {T:TypeId} (h:w.heap[b]? = some (.cells cs.toArray T (0,0))):w.rangeAt b 0 cs:=fun j v hv=>by
 rw [Nat.zero_add]
 exact cell_of h (by simpa using hv)
theorem there_of {w:World} {b:Nat} {cs:List Value} {T:TypeId} (h:w.heap[b]? = some (.cells cs.toArray T (0,0))):w.there b 0 cs.length:=fun j hj=>by
 rw [Nat.zero_add]
 refine ⟨?_,by simp [World.frozen?,h]⟩
 rw [cell_of (i:=j) (v:=cs[j]) h (by simp [hj])]
 rfl

section
variable {ops:Array Oper} {Q:Exit→Act→World→Prop} {C:World→Prop} {tab:List Fk} {I:Act→World→Prop} {a0:Act} {i:Nat} {o:Oper}

theorem st_loadv {t:Tmp} {b:Nat} {p:Pl} {q:Pw} (ho:ops[i]? = some o) (hw:Wants ops tab o) (hI:Keeps I o) (hop:o.op = .load 31 (.tmp t)) (ht:(ops.all fun o=>o.dst != some t)=true) (hu:a0.tmps.getD t undef = .pointer (some ⟨b,0,none⟩)) (hC:∀ w,C w→ElX w b p q) (hi:tab.getD i (.val undef) = .val (plV p q)):StepOf Tryz.prog .any ops Q C (tabF tab) I a0 i o :=
 st_value ho hw hI fun a w hc hs _=>⟨plV p q,w,by
  have h:a.tmps.getD t undef = .pointer (some ⟨b,0,none⟩):=(hs.tmps t ht).trans hu
  obtain ⟨y0,y1,⟨y2,y3,y4,y5,y6,y7⟩,y8,y9,y10⟩:=(hC w hc).el
  simp only [Nat.zero_add] at y1 y2 y3 y4 y5 y6 y7 y8 y9 y10
  unfold execOp plV
  rw [hop]
  simp only [Act.eval,h]
  clear h hs hc hC hu hi hop ho hw hI ht
  go_simp,Below.refl _ _,by unfold tabF; rw [hi]; rfl⟩

theorem st_build2v {t t':Tmp} {j j' B:Nat} {p p':Pl} {q q':Pw} (ho:ops[i]? = some o) (hw:Wants ops tab o) (hI:Keeps I o) (hop:o.op = .buildSlice 29 2 #[(0,.tmp t),(1,.tmp t')]) (hj:atB ops o j t=true) (hj':atB ops o j' t'=true) (hu:tab.getD j (.val undef) = .val (plV p q)) (hu':tab.getD j' (.val undef) = .val (plV p' q')) (hC:∀ w,C w→B≤w.heap.size) (hi:tab.getD i (.val undef) = .blk B (fun b=>.slice (some ⟨b,0,none⟩) 2 2) (plL p q ++ plL p' q')):StepOf Tryz.prog .any ops Q C (tabF tab) I a0 i o :=
 st_value ho hw hI fun a w hc _ hf=>by
  have h:a.tmps.getD t undef=plV p q:=known hf hj hu
  have h':a.tmps.getD t' undef=plV p' q':=known hf hj' hu'
  refine ⟨.slice (some ⟨w.heap.size,0,none⟩) 2 2,w.alloc (.cells #[.int .i64 p.k,.int .i64 p.n,.int .i64 p.x.k,.int .i64 p.x.v.1,.int .i64 p.x.v.2.1,.string p.x.v.2.2,.int .i64 p.x.c,.slice q.xa p.x.ks.length q.xc,.slice q.sa p.xs.length q.sc,.slice q.ga p.gs.length q.gc,.slice q.ka p.ks.length q.kc,.int .i64 p'.k,.int .i64 p'.n,.int .i64 p'.x.k,.int .i64 p'.x.v.1,.int .i64 p'.x.v.2.1,.string p'.x.v.2.2,.int .i64 p'.x.c,.slice q'.xa p'.x.ks.length q'.xc,.slice q'.sa p'.xs.length q'.sc,.slice q'.ga p'.gs.length q'.gc,.slice q'.ka p'.ks.length q'.kc] 31),?_,(Below.refl _ _).alloc (Nat.le_refl _) _,by unfold tabF; rw [hi]; exact ⟨_,rfl,hC w hc,heap_new w _ _⟩⟩
  unfold execOp
  rw [hop]
  simp only [Act.eval,List.map_toArray,List.map_cons,List.map_nil,h,h']
  clear h h' hf hu hu' hi hj hj' hop ho hw hI hC hc
  unfold plV
  go_simp

set_option maxRecDepth 100000 in
theorem st_onv {t:Tmp} {j B:Nat} {k:Int} {ks:List Pl} {cs:List Value} (hl:ks.length=2) (ho:ops[i]? = some o) (hw:Wants ops tab o) (hI:Keeps I o) (hop:o.op = .call { callee:=.value (.func 26),args:=#[.const (.int .i64 k),.tmp t],argTypes:=#[3,29] }) (hj:atB ops o j t=true) (hu:tab.getD j (.val undef) = .blk B (fun b=>.slice (some ⟨b,0,none⟩) 2 2) cs) (hi:tab.getD i (.val undef) = .blk B (fun b=>plV (onP k ks) (pwK (some ⟨b,0,none⟩) 2)) cs):StepOf Tryz.prog .any ops Q C (tabF tab) I a0 i o :=
 st_enter ho hw hI fun a w _ _ hf=>by
  obtain ⟨b,h,hB,H⟩:∃ b,a.tmps.getD t undef = .slice (some ⟨b,0,none⟩) 2 2∧B≤b∧w.heap[b]? = some (.cells cs.toArray 31 (0,0)):=known hf hj hu
  refine ⟨26,#[.int .i64 k,.slice (some ⟨b,0,none⟩) 2 2],?_,(on_at k (some ⟨b,0,none⟩) 2 2 w).mono fun e w' ⟨he,hb⟩=>⟨_,he,hb,?_⟩⟩
  ·unfold execOp
   rw [hop]
   simp only [Act.eval,h,resolve,List.map_toArray,List.map_cons,List.map_nil]
   rfl
  ·unfold tabF
   rw [hi]
   exact ⟨b,by show _=plV (onP k ks) (pwK (some ⟨b,0,none⟩) 2); rw [onV,hl],hB,(hb.block b (lt_of_heap H)).trans H⟩

/-- A plan's variable. -/
theorem st_allocv {B:Nat} (ho:ops[i]? = some o) (hw:Wants ops tab o) (hop:o.op = .alloc 31) (hC:∀ w,C w→B≤w.heap.size) (hI:∀ a w w',I a w→Below w.heap.size w w'→w.heap.size<w'.heap.size→I (a.put o.dst (.pointer (some ⟨w.heap.size,0,none⟩))) w') (hi:tab.getD i (.val undef) = .blk B (fun b=>.pointer (some ⟨b,0,none⟩)) (plL (onP 0 []) (pwK none 0))):StepOf Tryz.prog .any ops Q C (tabF tab) I a0 i o:=fun a w hc _ hJ hf=>by
 have hb:Below w.heap.size w (w.alloc (.cells #[.int .i64 0,.int .i64 0,.int .i64 0,.int .i64 0,.int .i64 0,.string ⟨#[]⟩,.int .i64 0,.slice none 0 0,.slice none 0 0,.slice none 0 0,.slice none 0 0] 31)):=(Below.refl _ _).alloc (Nat.le_refl _) _
 have e:(execOp a.eval o).run Tryz.prog w = .ok (.value (.pointer (some ⟨w.heap.size,0,none⟩))) (w.alloc (.cells #[.int .i64 0,.int .i64 0,.int .i64 0,.int .i64 0,.int .i64 0,.string ⟨#[]⟩,.int .i64 0,.slice none 0 0,.slice none 0 0,.slice none 0 0,.slice none 0 0] 31)):=by
  unfold execOp
  rw [hop]
  clear hJ hf hI hi hC hc hop ho hw
  go_simp
 unfold wpOp
 rw [ho]
 show if Region.wanted o (yielded ops a.tmps) then _ else _
 rw [if_pos (hw a w hf)]
 left
 unfold Oper.wp
 rw [e]
 refine ⟨_,rfl,hb,?_,hI a w _ hJ hb (by simp)⟩
 unfold tabF
 rw [hi]
 exact ⟨_,rfl,hC w hc,heap_new w _ _⟩
end

/-- The two variables are two. -/
def Apart2 (a:Act) (w:World):Prop :=
 (∀ b,a.tmps.getD 11 undef = .pointer (some ⟨b,0,none⟩)→b<w.heap.size)∧(∀ b,a.tmps.getD 12 undef = .pointer (some ⟨b,0,none⟩)→b<w.heap.size) ∧
 ∀ b,a.tmps.getD 11 undef = .pointer (some ⟨b,0,none⟩)→a.tmps.getD 12 undef ≠ .pointer (some ⟨b,0,none⟩)
theorem getD_put {a:Act} {d:Option Tmp} {t:Tmp} {v:Value} (h:d≠some t):(a.put d v).tmps.getD t undef=a.tmps.getD t undef:=by
 cases d with
 | none=>rfl
 | some d =>
  have hdd:d≠t:=fun e=>h (by rw [e])
  simp [Act.put,Array.getD_eq_getD_getElem?,Array.getElem?_setIfInBounds_ne hdd]
theorem getD_own {a:Act} {t:Tmp} {v u:Value} (h:(a.put (some t) v).tmps.getD t undef=u) (hu:u≠undef):u=v:=by
 by_cases hl:t<a.tmps.size
 ·simpa [Act.put,Array.getD,hl] using h.symm
 ·simp [Act.put,Array.getD,hl] at h
  exact absurd h.symm hu
theorem keeps_apart {o:Oper} (h:o.dst≠some 11) (h':o.dst≠some 12):Keeps Apart2 o:=fun a w w' v hI hb=>by
 unfold Apart2 at *
 rw [getD_put h,getD_put h']
 exact ⟨fun b e=>Nat.lt_of_lt_of_le (hI.1 b e) hb.size,fun b e=>Nat.lt_of_lt_of_le (hI.2.1 b e) hb.size,hI.2.2⟩
theorem apart_11 {o:Oper} (h:o.dst=some 11) (a:Act) (w w':World) (hI:Apart2 a w) (hb:Below w.heap.size w w') (hl:w.heap.size<w'.heap.size):Apart2 (a.put o.dst (.pointer (some ⟨w.heap.size,0,none⟩))) w':=by
 unfold Apart2 at *
 rw [h,getD_put (t:=12) (by simp)]
 have own:∀ b,(a.put (some 11) (.pointer (some ⟨w.heap.size,0,none⟩))).tmps.getD 11 undef = .pointer (some ⟨b,0,none⟩)→b=w.heap.size:=fun b e=>by
  have:=getD_own e (by simp [undef])
  simpa using this
 refine ⟨fun b e=>by rw [own b e]; exact hl,fun b e=>Nat.lt_of_lt_of_le (hI.2.1 b e) hb.size,fun b e e'=>?_⟩
 have:=hI.2.1 b e'
 have:=own b e
 omega
theorem apart_12 {o:Oper} (h:o.dst=some 12) (a:Act) (w w':World) (hI:Apart2 a w) (hb:Below w.heap.size w w') (hl:w.heap.size<w'.heap.size):Apart2 (a.put o.dst (.pointer (some ⟨w.heap.size,0,none⟩))) w':=by
 unfold Apart2 at *
 rw [h,getD_put (t:=11) (by simp)]
 have own:∀ b,(a.put (some 12) (.pointer (some ⟨w.heap.size,0,none⟩))).tmps.getD 12 undef = .pointer (some ⟨b,0,none⟩)→b=w.heap.size:=fun b e=>by
  have:=getD_own e (by simp [undef])
  simpa using this
 refine ⟨fun b e=>Nat.lt_of_lt_of_le (hI.1 b e) hb.size,fun b e=>by rw [own b e]; exact hl,fun b e e'=>?_⟩
 have:=hI.1 b e
 have:=own b e'
 omega
end Go.Proofs.YtoefpglknaiaeaaGreat
/- The region of tidelaw5.QueryAlgebra that makes two plans and stores them, by facts. -/
namespace Go.Proofs.YtoefpglknaiaeaaGreat
open Go.RowKit Go.Lib Go.Shelf

/-- j stands ahead of i, at f steps. -/
def reachB (md:Region.Mode) (ops:Array Oper):Nat→Nat→Nat→Bool
 | 0,_,_=>false
 | f+1,i,j=>match ops[i]? with
  | none=>false
  | some o=>o.after.any fun e=>Region.binds md e && (e.on == j || reachB md ops f e.on j)
theorem reach_spec {md:Region.Mode} {ops:Array Oper} {listed:Array Bool} (hcl:Closed md ops listed):∀ (f i j:Nat) (o:Oper),ops[i]? = some o→(∀ e ∈ o.after,Region.binds md e=true→listed.getD e.on false=true)→reachB md ops f i j=true→listed.getD j false=true
 | 0,_,_,_,_,_,h=>by simp [reachB] at h
 | f+1,i,j,o,ho,hd,h=>by
  unfold reachB at h
  rw [ho] at h
  obtain ⟨n,hn,h⟩:=Array.any_eq_true.1 h
  have he:=Array.getElem_mem hn
  generalize o.after[n]=e at he h
  rw [Bool.and_eq_true,Bool.or_eq_true,beq_iff_eq] at h
  obtain ⟨hb,h⟩:=h
  rcases h with rfl | h
  ·exact hd e he hb
  ·cases ho':ops[e.on]? with
   | none=>cases f <;> simp [reachB,ho'] at h
   | some o'=>exact reach_spec hcl f e.on j o' ho' (hcl e.on o' ho' (hd e he hb)) h
def lateB (md:Region.Mode) (ops:Array Oper) (m:Nat):Bool:=(List.range ops.size).all fun i=>decide (i<m) || (List.range m).all fun j=>reachB md ops 4 i j
theorem late_of {md:Region.Mode} {ops:Array Oper} {m:Nat} (h:lateB md ops m=true) (listed:Array Bool) (hcl:Closed md ops listed) (i:Nat) (hi:i ∈ Region.ready md ops listed) (hm:m≤i) (j:Nat) (hj:j<m):listed.getD j false=true:=by
 obtain ⟨_,o,ho,hd⟩:=mem_ready.1 hi
 have hlt:i<ops.size:=(Array.getElem?_eq_some_iff.1 ho).1
 have:=List.all_eq_true.1 h i (List.mem_range.2 hlt)
 rw [Bool.or_eq_true,decide_eq_true_eq] at this
 rcases this with h' | h'
 ·omega
 ·exact reach_spec hcl 4 i j o ho hd (List.all_eq_true.1 h' j (List.mem_range.2 hj))

/-- Two plans lie in two variables, their kids in lists apart. -/
structure Two (B:Nat) (w:World) (b b' s s':Nat) (c c' kl:List Value):Prop where
 hB:B≤b
 hB':B≤b'
 lb:b<w.heap.size
 lb':b'<w.heap.size
 ls:s<w.heap.size
 ls':s'<w.heap.size
 ne:b≠b'
 n1:s≠b
 n2:s≠b'
 n3:s'≠b
 n4:s'≠b'
 r:w.rangeAt b 0 c
 r':w.rangeAt b' 0 c'
 t:w.there b 0 11
 t':w.there b' 0 11
 k:w.rangeAt s 0 kl
 k':w.rangeAt s' 0 kl
theorem range_next {w w':World} {b o:Nat} {cs:List Value} (h:w.rangeAt b o cs) (hb:Below w.heap.size w w') (hl:b<w.heap.size):w'.rangeAt b o cs:=fun j v hv=>(hb.cell (p:=⟨b,_,none⟩) hl).trans (h j v hv)
theorem there_next {w w':World} {b o n:Nat} (h:w.there b o n) (hb:Below w.heap.size w w') (hl:b<w.heap.size):w'.there b o n:=fun j hj=>by
 refine ⟨?_,?_⟩
 ·rw [hb.cell (p:=⟨b,_,none⟩) hl]
  exact (h j hj).1
 ·have:=(h j hj).2
  unfold World.frozen? at *
  rw [hb.block b hl]
  exact this
theorem Two.next {B:Nat} {w w1:World} {b b' s s':Nat} {c c' k:List Value} (h:Two B w b b' s s' c c' k) (hb:Below w.heap.size w w1):Two B w1 b b' s s' c c' k :=
 { h with lb:=Nat.lt_of_lt_of_le h.lb hb.size,lb':=Nat.lt_of_lt_of_le h.lb' hb.size,ls:=Nat.lt_of_lt_of_le h.ls hb.size,ls':=Nat.lt_of_lt_of_le h.ls' hb.size,r:=range_next h.r hb h.lb,r':=range_next h.r' hb h.lb',t:=there_next h.t hb h.lb,t':=there_next h.t' hb h.lb',k:=range_next h.k hb h.ls,k':=range_next h.k' hb h.ls' }

theorem wpOp_plain {P:Program} {ops:Array Oper} {Q:Exit→Act→World→Prop} {i:Nat} {o:Oper} {K:Act→World→Prop} {a:Act} {w:World} (ho:ops[i]? = some o) (hg:o.guard=none) (h:o.wp P a w K Q):wpOp P ops Q i K a w:=by
 unfold wpOp
 rw [ho]
 show if Region.wanted o (yielded ops a.tmps) then _ else _
 rw [if_pos (by unfold Region.wanted; rw [hg])]
 exact .inl h


theorem heap_ne {w:World} {b s:Nat} {cs ds:List Value} {T:TypeId} (h:w.heap[b]? = some (.cells cs.toArray T (0,0))) (k:w.heap[s]? = some (.cells ds.toArray T (0,0))) (hl:ds.length≠cs.length):s≠b:=fun e=>by
 subst e
 rw [h] at k
 injection k with k
 injection k with k
 exact hl (by simpa using (congrArg Array.size k).symm)

set_option maxRecDepth 100000 in
set_option maxHeartbeats 4000000 in
theorem region3 {Q:Exit→Act→World→Prop} {p p':Pl} {q6 q7:Pw} {b6 b7:Nat} (a:Act) (w:World)
  (hsz:a.tmps.size=87) (h6:a.tmps.getD 6 undef = .pointer (some ⟨b6,0,none⟩)) (h7:a.tmps.getD 7 undef = .pointer (some ⟨b7,0,none⟩)) (h11:a.tmps.getD 11 undef=undef) (h12:a.tmps.getD 12 undef=undef)
  (E6:ElX w b6 p q6) (E7:ElX w b7 p' q7)
  (fin:∀ a' w' b b' s s',Below w.heap.size w w'→Same (opsN Tryz.f6 3) a a'→a'.tmps.getD 11 undef = .pointer (some ⟨b,0,none⟩)→a'.tmps.getD 12 undef = .pointer (some ⟨b',0,none⟩) →
   Two w.heap.size w' b b' s s' (plL (onP 5 [p,p']) (pwK (some ⟨s,0,none⟩) 2)) (plL (onP 6 [p,p']) (pwK (some ⟨s',0,none⟩) 2)) (plL p q6 ++ plL p' q7)→Q .normal a' w'):(Code.region 3 (opsN Tryz.f6 3) true).wp Tryz.prog Q a w:=by
 refine wp_region_part 10 (by kernel_rfl) (fun W=>Below w.heap.size w W) (tabF [.val (plV p q6),.val (plV p' q7),.blk w.heap.size (fun b=>.slice (some ⟨b,0,none⟩) 2 2) (plL p q6 ++ plL p' q7),.blk w.heap.size (fun b=>plV (onP 5 [p,p']) (pwK (some ⟨b,0,none⟩) 2)) (plL p q6 ++ plL p' q7),
   .val (plV p q6),.val (plV p' q7),.blk w.heap.size (fun b=>.slice (some ⟨b,0,none⟩) 2 2) (plL p q6 ++ plL p' q7),.blk w.heap.size (fun b=>plV (onP 6 [p,p']) (pwK (some ⟨b,0,none⟩) 2)) (plL p q6 ++ plL p' q7),
   .blk w.heap.size (fun b=>.pointer (some ⟨b,0,none⟩)) (plL (onP 0 []) (pwK none 0)),.blk w.heap.size (fun b=>.pointer (some ⟨b,0,none⟩)) (plL (onP 0 []) (pwK none 0))]) Apart2
  (fun _ _ h h'=>chain h h') (fun _ _ _ _ h h'=>Fk.next h h') (by rw [hsz]; kernel_rfl) (of_decide_eq_true (by kernel_rfl)) (late_of (by kernel_rfl)) (Below.refl _ _).drew ?_ ?_ ?_
 ·exact ⟨fun b e=>(by rw [h11] at e; cases e),fun b e=>(by rw [h12] at e; cases e),fun b e=>(by rw [h11] at e; cases e)⟩
 ·refine ⟨st_loadv (i:=0) rfl (wants_none rfl) (keeps_apart (by decide) (by decide)) rfl (by kernel_rfl) h6 (fun W h=>E6.next h) rfl,?_⟩
  refine ⟨st_loadv (i:=1) rfl (wants_none rfl) (keeps_apart (by decide) (by decide)) rfl (by kernel_rfl) h7 (fun W h=>E7.next h) rfl,?_⟩
  refine ⟨st_build2v (i:=2) (j:=0) (j':=1) rfl (wants_none rfl) (keeps_apart (by decide) (by decide)) rfl (by kernel_rfl) (by kernel_rfl) rfl rfl (fun W h=>h.size) rfl,?_⟩
  refine ⟨st_onv (i:=3) (j:=2) (k:=5) (ks:=[p,p']) rfl rfl (wants_none rfl) (keeps_apart (by decide) (by decide)) rfl (by kernel_rfl) rfl rfl,?_⟩
  refine ⟨st_loadv (i:=4) rfl (wants_none rfl) (keeps_apart (by decide) (by decide)) rfl (by kernel_rfl) h6 (fun W h=>E6.next h) rfl,?_⟩
  refine ⟨st_loadv (i:=5) rfl (wants_none rfl) (keeps_apart (by decide) (by decide)) rfl (by kernel_rfl) h7 (fun W h=>E7.next h) rfl,?_⟩
  refine ⟨st_build2v (i:=6) (j:=4) (j':=5) rfl (wants_none rfl) (keeps_apart (by decide) (by decide)) rfl (by kernel_rfl) (by kernel_rfl) rfl rfl (fun W h=>h.size) rfl,?_⟩
  refine ⟨st_onv (i:=7) (j:=6) (k:=6) (ks:=[p,p']) rfl rfl (wants_none rfl) (keeps_apart (by decide) (by decide)) rfl (by kernel_rfl) rfl rfl,?_⟩
  refine ⟨st_allocv (i:=8) rfl (wants_none rfl) rfl (fun W h=>h.size) (apart_11 rfl) rfl,?_⟩
  refine ⟨st_allocv (i:=9) rfl (wants_none rfl) rfl (fun W h=>h.size) (apart_12 rfl) rfl,?_⟩
  trivial
 ·intro a' w' hb hs hI hf
  obtain ⟨s,e3,hs3,H3⟩:∃ b,a'.tmps.getD 18 undef=plV (onP 5 [p,p']) (pwK (some ⟨b,0,none⟩) 2)∧w.heap.size≤b∧w'.heap[b]? = some (.cells (plL p q6 ++ plL p' q7).toArray 31 (0,0)):=hf 3 (by omega) _ 18 rfl rfl
  obtain ⟨s',e7,hs7,H7⟩:∃ b,a'.tmps.getD 22 undef=plV (onP 6 [p,p']) (pwK (some ⟨b,0,none⟩) 2)∧w.heap.size≤b∧w'.heap[b]? = some (.cells (plL p q6 ++ plL p' q7).toArray 31 (0,0)):=hf 7 (by omega) _ 22 rfl rfl
  obtain ⟨b,e8,hb8,H8⟩:∃ b,a'.tmps.getD 11 undef = .pointer (some ⟨b,0,none⟩)∧w.heap.size≤b∧w'.heap[b]? = some (.cells (plL (onP 0 []) (pwK none 0)).toArray 31 (0,0)):=hf 8 (by omega) _ 11 rfl rfl
  obtain ⟨b',e9,hb9,H9⟩:∃ b,a'.tmps.getD 12 undef = .pointer (some ⟨b,0,none⟩)∧w.heap.size≤b∧w'.heap[b]? = some (.cells (plL (onP 0 []) (pwK none 0)).toArray 31 (0,0)):=hf 9 (by omega) _ 12 rfl rfl
  have ne:b≠b':=fun e=>hI.2.2 b e8 (by rw [e]; exact e9)
  have n1:s≠b:=heap_ne H8 H3 (by simp [plL])
  have n2:s≠b':=heap_ne H9 H3 (by simp [plL])
  have n3:s'≠b:=heap_ne H8 H7 (by simp [plL])
  have n4:s'≠b':=heap_ne H9 H7 (by simp [plL])
  have t8:w'.there b 0 11:=there_of H8
  have t9:w'.there b' 0 11:=there_of H9
  have r3:=range_of H3
  have r7:=range_of H7
  have l3:=lt_of_heap H3
  have l7:=lt_of_heap H7
  have l8:=lt_of_heap H8
  have l9:=lt_of_heap H9
  clear H3 H7 H8 H9 hf
  have hr1:Region.ready .any (opsN Tryz.f6 3) (Array.replicate 10 true ++ Array.replicate ((opsN Tryz.f6 3).size - 10) false) = [10]:=by kernel_rfl
  have hr2:Region.ready .any (opsN Tryz.f6 3) ((Array.replicate 10 true ++ Array.replicate ((opsN Tryz.f6 3).size - 10) false).setIfInBounds 10 true) = [11]:=by kernel_rfl
  have hr3:Region.ready .any (opsN Tryz.f6 3) (((Array.replicate 10 true ++ Array.replicate ((opsN Tryz.f6 3).size - 10) false).setIfInBounds 10 true).setIfInBounds 11 true) = []:=by kernel_rfl
  show wpAny Tryz.prog .any (opsN Tryz.f6 3) Q 2 _ a' w'
  refine ⟨fun h=>(by rw [hr1] at h; cases h),fun i hi=>?_⟩
  rw [hr1] at hi
  obtain rfl:i=10:=by simpa using hi
  refine wpOp_plain rfl rfl ?_
  refine wp_store_mid 31 (.tmp 11) (.tmp 18) rfl b 0 (plL (onP 5 [p,p']) (pwK (some ⟨s,0,none⟩) 2)).toArray e8 e3 t8 (by kernel_rfl) (by kernel_rfl) ?_
  show wpAny Tryz.prog .any (opsN Tryz.f6 3) Q 1 _ a' _
  have t9':=World.there_setCells t9 b 0 (plL (onP 5 [p,p']) (pwK (some ⟨s,0,none⟩) 2))
  refine ⟨fun h=>(by rw [hr2] at h; cases h),fun i hi=>?_⟩
  rw [hr2] at hi
  obtain rfl:i=11:=by simpa using hi
  refine wpOp_plain rfl rfl ?_
  refine wp_store_mid 31 (.tmp 12) (.tmp 22) rfl b' 0 (plL (onP 6 [p,p']) (pwK (some ⟨s',0,none⟩) 2)).toArray e9 e7 t9' (by kernel_rfl) (by kernel_rfl) ?_
  show wpAny Tryz.prog .any (opsN Tryz.f6 3) Q 0 _ a' _
  refine ⟨hr3,fin _ _ b b' s s' ?_ hs e8 e9 ?_⟩
  ·exact below_setCells hb9 _ _ _ (below_setCells hb8 _ _ _ hb)
  ·have z:∀ (X:World) (g:Nat) (vs:List Value),(X.setCells g 0 vs).heap.size=X.heap.size:=fun X g vs=>by simp
   exact
    { hB:=hb8,hB':=hb9,lb:=by rw [z,z]; exact l8,lb':=by rw [z,z]; exact l9,ls:=by rw [z,z]; exact l3,ls':=by rw [z,z]; exact l7,ne:=ne,n1:=n1,n2:=n2,n3:=n3,n4:=n4,r:=World.rangeAt_setCells_apart (World.rangeAt_setCells_same _ _ _ _ t8) _ _ _ (.inl ne),r':=World.rangeAt_setCells_same _ _ _ _ t9',t:=World.there_setCells (World.there_setCells t8 _ _ _) _ _ _,t':=World.there_setCells t9' _ _ _,k:=World.rangeAt_setCells_apart (World.rangeAt_setCells_apart r3 _ _ _ (.inl n1)) _ _ _ (.inl n2),k':=World.rangeAt_setCells_apart (World.rangeAt_setCells_apart r7 _ _ _ (.inl n3)) _ _ _ (.inl n4) }
end Go.Proofs.YtoefpglknaiaeaaGreat
/- The region of tidelaw5.QueryAlgebra that stores an expression into two plans. -/
namespace Go.Proofs.YtoefpglknaiaeaaGreat
open Go.RowKit Go.Lib Go.Shelf

def exL (x:Ex) (xa:Option Addr) (xc:Nat):List Value:=[.int .i64 x.k,.int .i64 x.v.1,.int .i64 x.v.2.1,.string x.v.2.2,.int .i64 x.c,.slice xa x.ks.length xc]
theorem put_x {W:World} {b:Nat} {k:Int} {ks:List Pl} {sa:Option Addr} {sc:Nat} (x:Ex) (xa:Option Addr) (xc:Nat) (h:W.rangeAt b 0 (plL (onP k ks) (pwK sa sc))) (ht:W.there b 0 11) :
  (W.setCells b 2 (exL x xa xc)).rangeAt b 0 (plL (.mk k 0 x [] [] ks) ⟨xa,xc,none,0,none,0,sa,sc⟩):=fun j v hv=>by
 have hj:j<11:=(List.getElem?_eq_some_iff.1 hv).1
 rw [Nat.zero_add]
 have g:∀ i (hi:i<(exL x xa xc).length),(W.setCells b 2 (exL x xa xc)).cell? ⟨b,2+i,none⟩=some (exL x xa xc)[i]:=fun i hi=>World.cell?_setCells_in b (exL x xa xc) 2 W (fun i hi=>by
  have h6:i<6:=hi
  have:=(ht (2+i) (by omega)).1
  rwa [Nat.zero_add] at this) i hi
 have o:j<2∨8≤j→(W.setCells b 2 (exL x xa xc)).cell? ⟨b,j,none⟩=W.cell? ⟨b,j,none⟩:=fun h2=>World.cell?_setCells_out b _ 2 W ⟨b,j,none⟩ (fun _ _=>by
  show j<2∨2+6≤j
  omega)
 have hh:∀ j u,(plL (onP k ks) (pwK sa sc))[j]? = some u→W.cell? ⟨b,j,none⟩=some u:=fun j u hu=>by
  have:=h j u hu
  rwa [Nat.zero_add] at this
 obtain rfl | rfl | rfl | rfl | rfl | rfl | rfl | rfl | rfl | rfl | rfl:j=0∨j=1∨j=2∨j=3∨j=4∨j=5∨j=6∨j=7∨j=8∨j=9∨j=10:=by omega
 ·exact (o (by omega)).trans (hh 0 v hv)
 ·exact (o (by omega)).trans (hh 1 v hv)
 ·exact (g 0 (show 0<6 by decide)).trans hv
 ·exact (g 1 (show 1<6 by decide)).trans hv
 ·exact (g 2 (show 2<6 by decide)).trans hv
 ·exact (g 3 (show 3<6 by decide)).trans hv
 ·exact (g 4 (show 4<6 by decide)).trans hv
 ·exact (g 5 (show 5<6 by decide)).trans hv
 ·exact (o (by omega)).trans (hh 8 v hv)
 ·exact (o (by omega)).trans (hh 9 v hv)
 ·exact (o (by omega)).trans (hh 10 v hv)


theorem there_x {W:World} {b:Nat} (h:W.there b 0 11):W.there b 2 6:=fun j hj=>by
 have:=h (2+j) (by omega)
 rwa [Nat.zero_add] at this

set_option maxRecDepth 100000 in
set_option maxHeartbeats 4000000 in
theorem region4 {Q:Exit→Act→World→Prop} {k k':Int} {ks:List Pl} {x:Ex} {xa:Option Addr} {xc:Nat} {b8 b b' s s' B:Nat} {kl:List Value} (a:Act) (w:World) (hQ:∀ c (a:Act) (t:Tmp) v w,Q (.panic c) (a.put (some t) v) w→Q (.panic c) a w)
  (hsz:a.tmps.size=87) (h8:a.tmps.getD 8 undef = .pointer (some ⟨b8,0,none⟩)) (h11:a.tmps.getD 11 undef = .pointer (some ⟨b,0,none⟩)) (h12:a.tmps.getD 12 undef = .pointer (some ⟨b',0,none⟩))
  (E8:w.rangeAt b8 0 (exL x xa xc)) (l8:b8<B) (hB:B≤w.heap.size)
  (T:Two B w b b' s s' (plL (onP k ks) (pwK (some ⟨s,0,none⟩) 2)) (plL (onP k' ks) (pwK (some ⟨s',0,none⟩) 2)) kl)
  (fin:∀ a' w',Below B w w'→Same (opsN Tryz.f6 4) a a' →
   Two B w' b b' s s' (plL (.mk k 0 x [] [] ks) ⟨xa,xc,none,0,none,0,some ⟨s,0,none⟩,2⟩) (plL (.mk k' 0 x [] [] ks) ⟨xa,xc,none,0,none,0,some ⟨s',0,none⟩,2⟩) kl→Q .normal a' w'):(Code.region 4 (opsN Tryz.f6 4) true).wp Tryz.prog Q a w:=by
 have hC:∀ W W':World,(W.rangeAt b8 0 (exL x xa xc)∧b8<W.heap.size)→Below W.heap.size W W'→(W'.rangeAt b8 0 (exL x xa xc)∧b8<W'.heap.size):=fun W W' h hb=>⟨range_next h.1 hb h.2,Nat.lt_of_lt_of_le h.2 hb.size⟩
 have hd:Below w.heap.size w w.drew:=(Below.refl _ _).drew
 have CW:(w.drew.rangeAt b8 0 (exL x xa xc)∧b8<w.drew.heap.size):=hC _ _ ⟨E8,by omega⟩ hd
 have S0:Same (opsN Tryz.f6 4) a a:=⟨rfl,rfl,fun _ _=>rfl⟩
 refine wp_region_cls (fun W=>W.rangeAt b8 0 (exL x xa xc)∧b8<W.heap.size) (by kernel_rfl) ?_
 refine wpY_take hC (some 23) (i:=0) (v:=.agg (exL x xa xc).toArray) rfl rfl (by kernel_rfl) (by kernel_rfl) (by kernel_rfl) (fun c a w h=>hQ _ _ _ _ _ h) (Or.inl ⟨rfl,fun n hn=>?_⟩) CW ?_
 ·have e:(execOp a.eval ((opsN Tryz.f6 4)[0]'(of_decide_eq_true (by kernel_rfl)))).run Tryz.prog n = .ok (.value (.agg (exL x xa xc).toArray)) n:=by
   show (do pure (Next.value (← Instr.loadAt 27 (a.tmps.getD 8 undef))):Sem Next).run Tryz.prog n=_
   rw [S0.tmps 8 (by kernel_rfl),h8]
   simp only [Sem.run_bind,run_loadAt_mid n b8 0 27 (exL x xa xc) _ hn.1 Tryz.underlying27 rfl (by kernel_rfl),Result.andThen_ok,Sem.run_pure]
  show Oper.quietUpon Tryz.prog _ n _ ((execOp a.eval ((opsN Tryz.f6 4)[0]'(of_decide_eq_true (by kernel_rfl)))).run Tryz.prog n)
  rw [e]
  exact ⟨rfl,rfl⟩
 have S1:Same (opsN Tryz.f6 4) a (a.put (some 23) (.agg (exL x xa xc).toArray)):=put_same (i:=0) (o:=(opsN Tryz.f6 4)[0]'(of_decide_eq_true (by kernel_rfl))) rfl S0
 have g23:(a.put (some 23) (.agg (exL x xa xc).toArray)).tmps.getD 23 undef = .agg (exL x xa xc).toArray:=by simp [Act.put,Array.getD,hsz]
 generalize a.put (some 23) (.agg (exL x xa xc).toArray)=a1 at *
 refine wpY_take hC (some 24) (i:=1) (v:=.agg (exL x xa xc).toArray) rfl rfl (by kernel_rfl) (by kernel_rfl) (by kernel_rfl) (fun c a w h=>hQ _ _ _ _ _ h) (Or.inl ⟨rfl,fun n hn=>?_⟩) CW ?_
 ·have e:(execOp a1.eval ((opsN Tryz.f6 4)[1]'(of_decide_eq_true (by kernel_rfl)))).run Tryz.prog n = .ok (.value (.agg (exL x xa xc).toArray)) n:=by
   show (do pure (Next.value (← Instr.loadAt 27 (a1.tmps.getD 8 undef))):Sem Next).run Tryz.prog n=_
   rw [S1.tmps 8 (by kernel_rfl),h8]
   simp only [Sem.run_bind,run_loadAt_mid n b8 0 27 (exL x xa xc) _ hn.1 Tryz.underlying27 rfl (by kernel_rfl),Result.andThen_ok,Sem.run_pure]
  show Oper.quietUpon Tryz.prog _ n _ ((execOp a1.eval ((opsN Tryz.f6 4)[1]'(of_decide_eq_true (by kernel_rfl)))).run Tryz.prog n)
  rw [e]
  exact ⟨rfl,rfl⟩
 have S2:Same (opsN Tryz.f6 4) a (a1.put (some 24) (.agg (exL x xa xc).toArray)):=put_same (i:=1) (o:=(opsN Tryz.f6 4)[1]'(of_decide_eq_true (by kernel_rfl))) rfl S1
 have g24:(a1.put (some 24) (.agg (exL x xa xc).toArray)).tmps.getD 24 undef = .agg (exL x xa xc).toArray:=by simp [Act.put,Array.getD,S1.size,hsz]
 replace g23:(a1.put (some 24) (.agg (exL x xa xc).toArray)).tmps.getD 23 undef = .agg (exL x xa xc).toArray:=(getD_put (by simp)).trans g23
 generalize a1.put (some 24) (.agg (exL x xa xc).toArray)=a2 at *
 clear S0 S1 hd
 refine wpY_step (rs:=[2]) (by kernel_rfl) (by simp) ?_
 intro w1 hb1 jj hjj
 obtain rfl:jj=2:=by simpa using hjj
 clear hjj
 refine wpOp_plain rfl rfl ?_
 have e:(execOp a2.eval ((opsN Tryz.f6 4)[2]'(of_decide_eq_true (by kernel_rfl)))).run Tryz.prog w1 = .ok (.value (.pointer (some ⟨b,2,none⟩))) w1:=by
  show (do pure (Next.value (← Instr.fieldAt 31 (a2.tmps.getD 11 undef) 2)):Sem Next).run Tryz.prog w1=_
  rw [S2.tmps 11 (by kernel_rfl),h11]
  clear fin hQ T E8 CW hC g23 g24 hb1
  go_simp
 unfold Oper.wp
 show Oper.upon Tryz.prog _ a2 _ Q ((execOp a2.eval ((opsN Tryz.f6 4)[2]'(of_decide_eq_true (by kernel_rfl)))).run Tryz.prog w1)
 rw [e]
 refine ⟨hC _ _ CW hb1,?_⟩
 have CW1:=hC _ _ CW hb1
 replace T:=(T.next ((Below.refl _ _).drew)).next hb1
 have D1:Below B w w1:=((Below.refl B w).drew).trans (hb1.mono hB)
 have S3:Same (opsN Tryz.f6 4) a (a2.put (some 25) (.pointer (some ⟨b,2,none⟩))):=put_same (i:=2) (o:=(opsN Tryz.f6 4)[2]'(of_decide_eq_true (by kernel_rfl))) rfl S2
 have g25:(a2.put (some 25) (.pointer (some ⟨b,2,none⟩))).tmps.getD 25 undef = .pointer (some ⟨b,2,none⟩):=by simp [Act.put,Array.getD,S2.size,hsz]
 replace g23:(a2.put (some 25) (.pointer (some ⟨b,2,none⟩))).tmps.getD 23 undef = .agg (exL x xa xc).toArray:=(getD_put (by simp)).trans g23
 replace g24:(a2.put (some 25) (.pointer (some ⟨b,2,none⟩))).tmps.getD 24 undef = .agg (exL x xa xc).toArray:=(getD_put (by simp)).trans g24
 show wpY Tryz.prog .any (opsN Tryz.f6 4) Q _ _ _ (a2.put (some 25) (.pointer (some ⟨b,2,none⟩))) w1
 generalize a2.put (some 25) (.pointer (some ⟨b,2,none⟩))=a3 at *
 clear S2 CW e
 refine wpY_step (rs:=[3]) (by kernel_rfl) (by simp) ?_
 intro w2 hb2 jj hjj
 obtain rfl:jj=3:=by simpa using hjj
 clear hjj
 replace T:=T.next hb2
 have D2:Below B w w2:=D1.trans (hb2.mono (Nat.le_trans hB D1.size))
 have CW2:=hC _ _ CW1 hb2
 refine wpOp_plain rfl rfl ?_
 refine wp_store_mid 27 (.tmp 25) (.tmp 23) rfl b 2 (exL x xa xc).toArray g25 g23 (there_x T.t) (by kernel_rfl) (by kernel_rfl) ?_
 have nx:b8≠b:=fun e=>by have:=T.hB; omega
 have nx':b8≠b':=fun e=>by have:=T.hB'; omega
 have z:∀ (X:World) (g o:Nat) (vs:List Value),(X.setCells g o vs).heap.size=X.heap.size:=fun X g o vs=>by simp
 have CW3:((w2.setCells b 2 (exL x xa xc)).rangeAt b8 0 (exL x xa xc)∧b8<(w2.setCells b 2 (exL x xa xc)).heap.size):=⟨World.rangeAt_setCells_apart CW2.1 _ _ _ (.inl nx),by rw [z]; exact CW2.2⟩
 have D3:Below B w (w2.setCells b 2 (exL x xa xc)):=below_setCells T.hB _ _ _ D2
 have T3:Two B (w2.setCells b 2 (exL x xa xc)) b b' s s' (plL (.mk k 0 x [] [] ks) ⟨xa,xc,none,0,none,0,some ⟨s,0,none⟩,2⟩) (plL (onP k' ks) (pwK (some ⟨s',0,none⟩) 2)) kl :=
  { T with lb:=by rw [z]; exact T.lb,lb':=by rw [z]; exact T.lb',ls:=by rw [z]; exact T.ls,ls':=by rw [z]; exact T.ls',r:=put_x x xa xc T.r T.t,r':=World.rangeAt_setCells_apart T.r' _ _ _ (.inl (Ne.symm T.ne)),t:=World.there_setCells T.t _ _ _,t':=World.there_setCells T.t' _ _ _,k:=World.rangeAt_setCells_apart T.k _ _ _ (.inl T.n1),k':=World.rangeAt_setCells_apart T.k' _ _ _ (.inl T.n3) }
 refine ⟨CW3,?_⟩
 show wpY Tryz.prog .any (opsN Tryz.f6 4) Q _ _ _ a3 (w2.setCells b 2 (exL x xa xc))
 generalize w2.setCells b 2 (exL x xa xc)=w3 at *
 clear T CW2 CW1 D1 D2 g25 g23 hb1 hb2
 refine wpY_step (rs:=[4]) (by kernel_rfl) (by simp) ?_
 intro w4 hb4 jj hjj
 obtain rfl:jj=4:=by simpa using hjj
 clear hjj
 refine wpOp_plain rfl rfl ?_
 have e:(execOp a3.eval ((opsN Tryz.f6 4)[4]'(of_decide_eq_true (by kernel_rfl)))).run Tryz.prog w4 = .ok (.value (.pointer (some ⟨b',2,none⟩))) w4:=by
  show (do pure (Next.value (← Instr.fieldAt 31 (a3.tmps.getD 12 undef) 2)):Sem Next).run Tryz.prog w4=_
  rw [S3.tmps 12 (by kernel_rfl),h12]
  clear fin hQ T3 E8 CW3 hC g24 hb4
  go_simp
 unfold Oper.wp
 show Oper.upon Tryz.prog _ a3 _ Q ((execOp a3.eval ((opsN Tryz.f6 4)[4]'(of_decide_eq_true (by kernel_rfl)))).run Tryz.prog w4)
 rw [e]
 refine ⟨hC _ _ CW3 hb4,?_⟩
 have CW4:=hC _ _ CW3 hb4
 replace T3:=T3.next hb4
 have D4:Below B w w4:=D3.trans (hb4.mono (Nat.le_trans hB D3.size))
 have S4:Same (opsN Tryz.f6 4) a (a3.put (some 26) (.pointer (some ⟨b',2,none⟩))):=put_same (i:=4) (o:=(opsN Tryz.f6 4)[4]'(of_decide_eq_true (by kernel_rfl))) rfl S3
 have g26:(a3.put (some 26) (.pointer (some ⟨b',2,none⟩))).tmps.getD 26 undef = .pointer (some ⟨b',2,none⟩):=by simp [Act.put,Array.getD,S3.size,hsz]
 replace g24:(a3.put (some 26) (.pointer (some ⟨b',2,none⟩))).tmps.getD 24 undef = .agg (exL x xa xc).toArray:=(getD_put (by simp)).trans g24
 show wpY Tryz.prog .any (opsN Tryz.f6 4) Q _ _ _ (a3.put (some 26) (.pointer (some ⟨b',2,none⟩))) w4
 generalize a3.put (some 26) (.pointer (some ⟨b',2,none⟩))=a4 at *
 clear S3 CW3 e
 refine wpY_step (rs:=[5]) (by kernel_rfl) (by simp) ?_
 intro w5 hb5 jj hjj
 obtain rfl:jj=5:=by simpa using hjj
 clear hjj
 replace T3:=T3.next hb5
 have D5:Below B w w5:=D4.trans (hb5.mono (Nat.le_trans hB D4.size))
 have CW5:=hC _ _ CW4 hb5
 refine wpOp_plain rfl rfl ?_
 refine wp_store_mid 27 (.tmp 26) (.tmp 24) rfl b' 2 (exL x xa xc).toArray g26 g24 (there_x T3.t') (by kernel_rfl) (by kernel_rfl) ?_
 have CW6:((w5.setCells b' 2 (exL x xa xc)).rangeAt b8 0 (exL x xa xc)∧b8<(w5.setCells b' 2 (exL x xa xc)).heap.size):=⟨World.rangeAt_setCells_apart CW5.1 _ _ _ (.inl nx'),by rw [z]; exact CW5.2⟩
 have D6:Below B w (w5.setCells b' 2 (exL x xa xc)):=below_setCells T3.hB' _ _ _ D5
 have T6:Two B (w5.setCells b' 2 (exL x xa xc)) b b' s s' (plL (.mk k 0 x [] [] ks) ⟨xa,xc,none,0,none,0,some ⟨s,0,none⟩,2⟩) (plL (.mk k' 0 x [] [] ks) ⟨xa,xc,none,0,none,0,some ⟨s',0,none⟩,2⟩) kl :=
  { T3 with lb:=by rw [z]; exact T3.lb,lb':=by rw [z]; exact T3.lb',ls:=by rw [z]; exact T3.ls,ls':=by rw [z]; exact T3.ls',r:=World.rangeAt_setCells_apart T3.r _ _ _ (.inl T3.ne),r':=put_x x xa xc T3.r' T3.t',t:=World.there_setCells T3.t _ _ _,t':=World.there_setCells T3.t' _ _ _,k:=World.rangeAt_setCells_apart T3.k _ _ _ (.inl T3.n2),k':=World.rangeAt_setCells_apart T3.k' _ _ _ (.inl T3.n4) }
 refine ⟨CW6,?_⟩
 show wpY Tryz.prog .any (opsN Tryz.f6 4) Q _ 0 _ a4 (w5.setCells b' 2 (exL x xa xc))
 refine wpY_done (by kernel_rfl) fun w' hw'=>?_
 exact fin a4 w' (D6.trans (hw'.mono (Nat.le_trans hB D6.size))) S4 (T6.next hw')
end Go.Proofs.YtoefpglknaiaeaaGreat
/- The walk of tidelaw5.alive. -/
namespace Go.Proofs.YtoefpglknaiaeaaGreat
open Go.RowKit Go.Lib Go.Shelf

set_option maxRecDepth 100000 in
set_option maxHeartbeats 8000000 in
theorem alive5_at (w:World) :
  Calls Tryz.prog 22 #[] w fun e w'=>e = .returned (.bool true)∧Below w.heap.size w w':=by
 have hA:Below w.heap.size w w:=Below.refl _ _
 go_enter Tryz.func22,Tryz.ntmps22
 go_upto_region 2 with fail
 have hb:Below w.heap.size w (w.alloc (.cells #[.int .i64 3,.int .i64 7,.string ⟨#[]⟩] 24)):=(Below.refl _ _).alloc (Nat.le_refl _) _
 have s1:SlAt (w.alloc (.cells #[.int .i64 3,.int .i64 7,.string ⟨#[]⟩] 24)) (some ⟨w.heap.size,0,none⟩) [(3,7,⟨#[]⟩)]:=sl_one w (3,7,⟨#[]⟩)
 replace hA:=chain hA hb
 have zz:(w.alloc (.cells #[.int .i64 3,.int .i64 7,.string ⟨#[]⟩] 24)).heap.size=w.heap.size+1:=by simp
 generalize w.alloc (.cells #[.int .i64 3,.int .i64 7,.string ⟨#[]⟩] 24)=w1 at *
 have zprev:w1.heap.size=w.heap.size+1:=zz
 clear zz hb
 have hb:Below w1.heap.size w1 (w1.alloc (.cells #[.slice (some ⟨w.heap.size,0,none⟩) 1 1,.int .i64 2] 47)):=(Below.refl _ _).alloc (Nat.le_refl _) _
 have zs:ZsAt (w1.alloc (.cells #[.slice (some ⟨w.heap.size,0,none⟩) 1 1,.int .i64 2] 47)) (some ⟨w1.heap.size,0,none⟩) (zB 2):=zs_one (cap:=1) s1 2
 replace s1:=s1.next hb
 replace hA:=chain hA hb
 have zz:(w1.alloc (.cells #[.slice (some ⟨w.heap.size,0,none⟩) 1 1,.int .i64 2] 47)).heap.size=w1.heap.size+1:=by simp
 generalize w1.alloc (.cells #[.slice (some ⟨w.heap.size,0,none⟩) 1 1,.int .i64 2] 47)=w2 at *
 rw [zprev] at zs
 replace zprev:w2.heap.size=w.heap.size+1+1:=by omega
 clear zz hb
 clear zprev
 clear s1
 go_wp2_with fail
 have hb:Below w2.heap.size w2 (w2.alloc (.cells #[.int .i64 3] 3)):=(Below.refl _ _).alloc (Nat.le_refl _) _
 have I1:IX (w2.alloc (.cells #[.int .i64 3] 3)) (some ⟨w2.heap.size,0,none⟩) [3]:=IX.one w2 3
 replace zs:=zs.next hb
 replace hA:=chain hA hb
 have zz:(w2.alloc (.cells #[.int .i64 3] 3)).heap.size=w2.heap.size+1:=by simp
 generalize w2.alloc (.cells #[.int .i64 3] 3)=w3 at *
 have zprev:w3.heap.size=w2.heap.size+1:=zz
 clear zz hb
 have hb:Below w3.heap.size w3 (w3.alloc (.cells #[.slice (some ⟨w2.heap.size,0,none⟩) 1 1] 33)):=(Below.refl _ _).alloc (Nat.le_refl _) _
 have TX:TbX (w3.alloc (.cells #[.slice (some ⟨w2.heap.size,0,none⟩) 1 1] 33)) (some ⟨w3.heap.size,0,none⟩) [[3]]:=TbX.one 1 I1
 replace zs:=zs.next hb
 replace I1:=I1.next hb
 replace hA:=chain hA hb
 have zz:(w3.alloc (.cells #[.slice (some ⟨w2.heap.size,0,none⟩) 1 1] 33)).heap.size=w3.heap.size+1:=by simp
 generalize w3.alloc (.cells #[.slice (some ⟨w2.heap.size,0,none⟩) 1 1] 33)=w4 at *
 rw [zprev] at TX
 replace zprev:w4.heap.size=w2.heap.size+1+1:=by omega
 clear zz hb
 clear zprev
 clear I1
 refine (table_at 0 w4).mono ?_
 rintro e w5 ⟨rfl,hb⟩
 replace zs:=zs.next hb
 replace TX:=TX.next hb
 replace hA:=chain hA hb
 clear hb
 go_wp2_with fail
 refine (table_at 0 w5).mono ?_
 rintro e w6 ⟨rfl,hb⟩
 replace zs:=zs.next hb
 replace TX:=TX.next hb
 replace hA:=chain hA hb
 clear hb
 go_wp2_with fail
 have hb:Below w6.heap.size w6 (w6.alloc (.cells #[.int .i64 1,.int .i64 0,.int .i64 0,.int .i64 0,.int .i64 0,.string ⟨#[]⟩,.int .i64 0,.slice none 0 0,.slice none 0 0,.slice none 0 0,.slice none 0 0,.int .i64 1,.int .i64 0,.int .i64 0,.int .i64 0,.int .i64 0,.string ⟨#[]⟩,.int .i64 0,.slice none 0 0,.slice none 0 0,.slice none 0 0,.slice none 0 0] 31)):=(Below.refl _ _).alloc (Nat.le_refl _) _
 have KX:PsX (w6.alloc (.cells #[.int .i64 1,.int .i64 0,.int .i64 0,.int .i64 0,.int .i64 0,.string ⟨#[]⟩,.int .i64 0,.slice none 0 0,.slice none 0 0,.slice none 0 0,.slice none 0 0,.int .i64 1,.int .i64 0,.int .i64 0,.int .i64 0,.int .i64 0,.string ⟨#[]⟩,.int .i64 0,.slice none 0 0,.slice none 0 0,.slice none 0 0,.slice none 0 0] 31)) (some ⟨w6.heap.size,0,none⟩) [tabP 0,tabP 0]:=PsX.two w6 (p:=tabP 0) (p':=tabP 0) (q:=pw0) (q':=pw0) (tabB _ _ 0) (tabB _ _ 0)
 replace zs:=zs.next hb
 replace TX:=TX.next hb
 replace hA:=chain hA hb
 have zz:(w6.alloc (.cells #[.int .i64 1,.int .i64 0,.int .i64 0,.int .i64 0,.int .i64 0,.string ⟨#[]⟩,.int .i64 0,.slice none 0 0,.slice none 0 0,.slice none 0 0,.slice none 0 0,.int .i64 1,.int .i64 0,.int .i64 0,.int .i64 0,.int .i64 0,.string ⟨#[]⟩,.int .i64 0,.slice none 0 0,.slice none 0 0,.slice none 0 0,.slice none 0 0] 31)).heap.size=w6.heap.size+1:=by simp
 generalize w6.alloc (.cells #[.int .i64 1,.int .i64 0,.int .i64 0,.int .i64 0,.int .i64 0,.string ⟨#[]⟩,.int .i64 0,.slice none 0 0,.slice none 0 0,.slice none 0 0,.slice none 0 0,.int .i64 1,.int .i64 0,.int .i64 0,.int .i64 0,.int .i64 0,.string ⟨#[]⟩,.int .i64 0,.slice none 0 0,.slice none 0 0,.slice none 0 0,.slice none 0 0] 31)=w7 at *
 have zprev:w7.heap.size=w6.heap.size+1:=zz
 clear zz hb
 clear zprev
 refine (on_at 8 (some ⟨w6.heap.size,0,none⟩) 2 2 w7).mono ?_
 rintro e w8 ⟨rfl,hb⟩
 replace zs:=zs.next hb
 replace TX:=TX.next hb
 replace KX:=KX.next hb
 replace hA:=chain hA hb
 clear hb
 go_wp2_with fail
 have hb:Below w8.heap.size w8 (w8.alloc (.cells #[.slice (some ⟨w.heap.size+1,0,none⟩) 1 1] 38)):=(Below.refl _ _).alloc (Nat.le_refl _) _
 have DX:DtAt (w8.alloc (.cells #[.slice (some ⟨w.heap.size+1,0,none⟩) 1 1] 38)) (some ⟨w8.heap.size,0,none⟩) [zB 2]:=dt_one (z:=zB 2) (cap:=1) zs (fun h=>by cases h)
 replace zs:=zs.next hb
 replace TX:=TX.next hb
 replace KX:=KX.next hb
 replace hA:=chain hA hb
 have zz:(w8.alloc (.cells #[.slice (some ⟨w.heap.size+1,0,none⟩) 1 1] 38)).heap.size=w8.heap.size+1:=by simp
 generalize w8.alloc (.cells #[.slice (some ⟨w.heap.size+1,0,none⟩) 1 1] 38)=w9 at *
 have zprev:w9.heap.size=w8.heap.size+1:=zz
 clear zz hb
 clear zprev
 have con:=evalT_at [[3]] [zB 2] addP (pwK (some ⟨w6.heap.size,0,none⟩) 2) (some ⟨w2.heap.size+1,0,none⟩) 1 (some ⟨w8.heap.size,0,none⟩) 1 w9 TX DX (onB 2 KX) (onOk fun p hp=>by simp only [List.mem_cons,List.not_mem_nil,or_false,or_self] at hp; subst hp; exact tabOk (by omega))
 rw [ev_add.1,ev_add.2] at con
 unfold addP at con
 rw [onV] at con
 refine con.mono ?_
 rintro e w10 ⟨v,rfl,O,hb⟩
 clear con TX KX DX zs
 obtain ⟨a,c,rfl,Z,_⟩:=O.zs2
 replace hA:=chain hA hb
 obtain ⟨b,off,rfl,hlt,x1,_⟩:=Z.elem (k:=0) (by simp [zB])
 simp only [Nat.zero_mul,Nat.add_zero,zB,List.getElem_cons_zero] at x1
 clear Z O
 simp only [zB,List.length_cons,List.length_nil]
 go_wp2_with fail
 go_ret
 exact ⟨rfl,hA⟩
end Go.Proofs.YtoefpglknaiaeaaGreat
